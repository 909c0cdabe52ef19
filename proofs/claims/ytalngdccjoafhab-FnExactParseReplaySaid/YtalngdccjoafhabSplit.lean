/-
  The model's splitting of a text, walked: it returns a new slice whose elements are the parts between the separators, in order.
-/
import Derived.Test.YtalngdccjoafhabStands
import Derived.OwnWalk
import Derived.Laws.AppendOwn
import Derived.Outline
import Derived.Lib.Strings
import Derived.Below
namespace Go.Proofs.Ytalngdccjoafhab.base
open Go.ChangeShapes Go.WideShapes Go.ChangeAt Go.RowKit
set_option linter.unusedVariables false
set_option linter.unusedSimpArgs false

/-- The parts of a text between the bytes b. -/
def splitL (b : UInt8) : List UInt8 → List (List UInt8)
  | [] => [[]]
  | c :: r => if c = b then [] :: splitL b r else match splitL b r with
    | p :: ps => (c :: p) :: ps
    | [] => [[c]]

theorem splitL_ne (b : UInt8) (l : List UInt8) : splitL b l ≠ [] := by
  cases l with
  | nil => simp [splitL]
  | cons c r => unfold splitL; split; · simp
                · split <;> simp

theorem splitL_at (b : UInt8) (p r : List UInt8) (h : b ∉ p) : splitL b (p ++ b :: r) = p :: splitL b r := by
  induction p with
  | nil => simp [splitL]
  | cons c p ih =>
    have h1 : ¬ c = b := fun e => h (by simp [e])
    have h2 : b ∉ p := fun e => h (by simp [e])
    rw [List.cons_append, splitL, if_neg h1, ih h2]

theorem splitL_last (b : UInt8) (p : List UInt8) (h : b ∉ p) : splitL b p = [p] := by
  induction p with
  | nil => rfl
  | cons c p ih =>
    have h1 : ¬ c = b := fun e => h (by simp [e])
    have h2 : b ∉ p := fun e => h (by simp [e])
    rw [splitL, if_neg h1, ih h2]

theorem infoStr : (Try.prog.info? 9).map (fun i => (i.zero, i.size, i.bytes)) = some (some (.string ByteArray.empty), 1, 16) := by kernel_rfl

theorem row_succ {W : World} {base : Nat} {e : TypeId} {size : Nat} {v : Value} {k : Nat} {xs : List Value} (h : W.ownsRow base e size v (k + 1) xs) : ∃ g cap, v = .slice (some ⟨g, 0, none⟩) (k + 1) cap := by
  rcases h.2 with ⟨_, h⟩ | ⟨g, cap, cur, hv, _⟩
  · omega
  · exact ⟨g, cap, hv⟩

def strV (p : List UInt8) : Value := .string ⟨p.toArray⟩
/-- A new slice of strings that is the call's own. -/
def IsParts (w w' : World) (v : Value) (ps : List (List UInt8)) : Prop := w'.ownsRow w.heap.size 9 1 v ps.length (ps.map strV) ∧ Below w.heap.size w w'

theorem extract_mk (s : ByteArray) (a e : Nat) : Value.string (s.extract a e) = strV ((s.data.toList.drop a).take (e - a)) := by
  unfold strV
  congr 1
  rw [← Lib.extract_data]

theorem seg_not (l : List UInt8) (b : UInt8) (f k : Nat) (h : ∀ j, f ≤ j → j < k → l[j]? ≠ some b) : b ∉ (l.drop f).take (k - f) := by
  intro hm
  obtain ⟨j, hj, e⟩ := List.mem_iff_getElem.1 hm
  have hj1 : j < k - f := by rw [List.length_take] at hj; omega
  refine h (f + j) (by omega) (by omega) ?_
  rw [← e, List.getElem_take, List.getElem_drop, List.getElem?_eq_getElem]

theorem split_step (l : List UInt8) (b : UInt8) (f k : Nat) (hf : f ≤ k) (hk : l[k]? = some b) (h : ∀ j, f ≤ j → j < k → l[j]? ≠ some b) :
    splitL b (l.drop f) = (l.drop f).take (k - f) :: splitL b (l.drop (k + 1)) := by
  have hlt : k < l.length := by
    rcases Nat.lt_or_ge k l.length with h1 | h1
    · exact h1
    · rw [List.getElem?_eq_none h1] at hk; cases hk
  have e : l.drop f = (l.drop f).take (k - f) ++ b :: l.drop (k + 1) := by
    conv => lhs; rw [← List.take_append_drop (k - f) (l.drop f)]
    rw [List.drop_drop, show f + (k - f) = k by omega, List.drop_eq_getElem_cons hlt]
    rw [List.getElem?_eq_getElem hlt] at hk
    injection hk with hk; rw [hk]
  have hn := seg_not l b f k h
  conv => lhs; rw [e]
  exact splitL_at b _ _ hn

theorem split_end (l : List UInt8) (b : UInt8) (f : Nat) (h : ∀ j, f ≤ j → j < l.length → l[j]? ≠ some b) : splitL b (l.drop f) = [l.drop f] := by
  have hn := seg_not l b f l.length h
  rw [List.take_of_length_le (by rw [List.length_drop]; omega)] at hn
  exact splitL_last b _ hn

/-- What the loop knows behind k bytes: 'done' are the parts so far, the part that is open begins at f. -/
def Mid (l : List UInt8) (b : UInt8) (k f : Nat) (done : List (List UInt8)) : Prop :=
  f ≤ k ∧ done.length ≤ k ∧ splitL b l = done ++ splitL b (l.drop f) ∧ ∀ j, f ≤ j → j < k → l[j]? ≠ some b

theorem mid_start (l : List UInt8) (b : UInt8) : Mid l b 0 0 [] := ⟨Nat.le_refl _, Nat.zero_le _, by simp, fun j _ h => by omega⟩
theorem mid_keep {l : List UInt8} {b x : UInt8} {k f : Nat} {done : List (List UInt8)} (h : Mid l b k f done) (hx : l[k]? = some x) (hne : x ≠ b) : Mid l b (k + 1) f done := by
  obtain ⟨h1, h2, h3, h4⟩ := h
  refine ⟨by omega, by omega, h3, fun j ha hb => ?_⟩
  by_cases e : j = k
  · subst e; rw [hx]; intro e; injection e with e; exact hne e
  · exact h4 j ha (by omega)
theorem mid_cut {l : List UInt8} {b : UInt8} {k f : Nat} {done : List (List UInt8)} (h : Mid l b k f done) (hx : l[k]? = some b) : Mid l b (k + 1) (k + 1) (done ++ [(l.drop f).take (k - f)]) := by
  obtain ⟨h1, h2, h3, h4⟩ := h
  refine ⟨Nat.le_refl _, by simp; omega, ?_, fun j ha hb => by omega⟩
  rw [h3, split_step l b f k h1 hx h4]; simp
theorem mid_end {l : List UInt8} {b : UInt8} {k f : Nat} {done : List (List UInt8)} (h : Mid l b k f done) (hk : l.length ≤ k) : splitL b l = done ++ [l.drop f] := by
  obtain ⟨h1, h2, h3, h4⟩ := h
  rw [h3, split_end l b f (fun j ha hb => h4 j ha (by omega))]

set_option maxHeartbeats 800000 in
theorem l1Split_any (s : ByteArray) (c : Int) (b : UInt8) (hc : c = (b.toNat : Int)) (w : World) (hs : s.size ≤ 1099511627776) :
    Calls Try.prog 49 #[.string s, .int .u8 c] w fun e w' => ∃ v : Value, e = .returned v ∧ IsParts w w' v (splitL b s.data.toList) := by
  obtain ⟨i0, hi, hz0, hz1, hz2⟩ := info_parts infoStr
  have HC := Lib.hid hc; clear hc
  go_enter Try.func49, Try.ntmps49
  go_wp2_with fail
  go_loopw [5, 6, 7] (fun o f i wr => ∃ (k n : Nat) (done : List (List UInt8)), k ≤ s.size ∧ i = .int .i64 k ∧ f = .int .i64 n ∧ Hid (Mid s.data.toList b k n done) ∧ wr.ownsRow w.heap.size 9 1 o done.length (done.map strV) ∧ Below w.heap.size w wr)
    (fun _ _ i _ => s.size - (intOf i).toNat)
  case atStart => exact ⟨0, 0, [], Nat.zero_le _, rfl, rfl, Lib.hid (mid_start _ _), World.ownsRow_made w #[] 0 (Nat.le_refl _) (by unfold maxLen; omega) (by simp), (Below.refl _ _).alloc (Nat.le_refl _) _⟩
  case round =>
    obtain ⟨k, n, done, hk, rfl, rfl, HM, hown, hnx⟩ := hrel
    have hsize := hnx.size
    have hn := HM.out.1
    have hdl := HM.out.2.1
    by_cases hlt : k < s.size
    · have HB := Lib.hid (byteat s k hlt)
      by_cases e : s[k] = b
      · have ht : ((s[k].toNat : Int) == c) = true := by rw [HC.out, e]; simp
        have HM2 := Lib.hid (mid_cut HM.out (by rw [HB.out, e]))
        clear e
        go_wp2_with (first | (at_builtin; refine wpList_append_own _ rfl _ _ 76 rfl w.heap.size 9 i0 (.string ByteArray.empty) 1 16 Try.underlying76 hi hz0 hz1 hz2 rfl (by decide) _ _ _ rfl (hown.alloc _) ⟨wr.heap.size, 0, none⟩ 1 1 [.string (s.extract n k)] rfl rfl (cell_one_new _ _ _) (fun x hx => by simp at hx; subst hx; rfl) (by unfold maxLen; omega) (by omega) (by simp; omega) ?_; intro v' w3 hown' hgrow3 hnil3))
        have HR : Hid (w3.ownsRow w.heap.size 9 1 v' (done ++ [(s.data.toList.drop n).take (k - n)]).length ((done ++ [(s.data.toList.drop n).take (k - n)]).map strV)) := Lib.hid (by
          rw [extract_mk] at hown'; rw [List.length_append, List.map_append]; exact hown')
        have hb3 := ((hnx.alloc hsize (.cells #[.string (s.extract n k)] 9)).grown hgrow3 (by simp; omega) (fun g hg => (hown.lt g hg).1))
        clear hown'
        go_wp2_with fail
        go_roundw
        case rel => exact ⟨k + 1, k + 1, _, by omega, by go_num, by go_num, HM2, HR.out, hb3⟩
        case measure => simp [intOf]; omega
      · have ht : ((s[k].toNat : Int) == c) = false := by
          rw [HC.out, beq_eq_false_iff_ne]; intro h; exact e (UInt8.toNat_inj.1 (by omega))
        have HM2 := Lib.hid (mid_keep HM.out HB.out e)
        clear e
        go_wp2_with fail
        go_roundw
        case rel => exact ⟨k + 1, n, done, by omega, by go_num, rfl, HM2, hown, hnx⟩
        case measure => simp [intOf]; omega
    · have hsz : s.data.toList.length ≤ k := by rw [← bytesize]; omega
      have HE := Lib.hid (mid_end HM.out hsz)
      clear hsz
      go_wp2_with (first | (at_builtin; refine wpList_append_own _ rfl _ _ 76 rfl w.heap.size 9 i0 (.string ByteArray.empty) 1 16 Try.underlying76 hi hz0 hz1 hz2 rfl (by decide) _ _ _ rfl (hown.alloc _) ⟨wr.heap.size, 0, none⟩ 1 1 [.string (s.extract n s.size)] rfl rfl (cell_one_new _ _ _) (fun x hx => by simp at hx; subst hx; rfl) (by unfold maxLen; omega) (by omega) (by simp; omega) ?_; intro v' w3 hown' hgrow3 hnil3))
      have HR : Hid (w3.ownsRow w.heap.size 9 1 v' (splitL b s.data.toList).length ((splitL b s.data.toList).map strV)) := Lib.hid (by
        rw [extract_mk] at hown'; rw [HE.out, List.length_append, List.map_append]
        rw [List.take_of_length_le (Nat.le_of_eq (by rw [List.length_drop, bytesize]))] at hown'
        exact hown')
      have hb3 := ((hnx.alloc hsize (.cells #[.string (s.extract n s.size)] 9)).grown hgrow3 (by simp; omega) (fun g hg => (hown.lt g hg).1))
      clear hown'
      go_wp2_with fail
      go_ret
      exact ⟨v', rfl, HR.out, hb3⟩

def lists (ps : List ByteArray) : List (List UInt8) := ps.map fun p => p.data.toList
theorem lists_len (ps : List ByteArray) : (lists ps).length = ps.length := by simp [lists]
theorem lists_snoc (ps : List ByteArray) (p : ByteArray) : lists (ps ++ [p]) = lists ps ++ [p.data.toList] := by simp [lists]
theorem lists_val (ps : List ByteArray) : (lists ps).map strV = ps.map Value.string := by
  unfold lists; rw [List.map_map]
  refine List.map_congr_left fun p _ => ?_
  show strV p.data.toList = .string p
  unfold strV; cases p; simp

end Go.Proofs.Ytalngdccjoafhab.base
