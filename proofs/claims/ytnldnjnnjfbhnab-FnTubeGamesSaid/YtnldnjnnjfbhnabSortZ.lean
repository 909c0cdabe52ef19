/-
  Whether a rack is sorted: plain mathematics, and the model's side, walked.
-/
/-
  Which pours are useful: plain mathematics, and the model's side, walked.
-/
/-
  Which pours are useful, on the model's side, walked.
-/
import Derived.Test.YtnldnjnnjfbhnabRunsZ
import Derived.Test.YtnldnjnnjfbhnabSpecWZ
import Derived.Test.YtnldnjnnjfbhnabRackToZ
import Derived.Maps.AppendAt
import Derived.Test.YtnldnjnnjfbhnabPoursZ

section
namespace Go.Proofs.Ytnldnjnnjfbhnab.base
open Go.ChangeShapes Go.WideShapes Go.ChangeAt Go.RowKit
set_option linter.unusedVariables false
set_option linter.unusedSimpArgs false

def badT (cs : List Int) (t : List Int) : Bool := decide (1 < runsN t (lay t)) || (decide (runsN t (lay t) = 1) && decide (topC t ∈ cs))
/-- The colors of the first p tubes that are not empty. -/
def cols (ns : List Int) : Nat → List Int
  | 0 => []
  | p + 1 => if lay (tub ns p) = 0 then cols ns p else cols ns p ++ [topC (tub ns p)]
theorem cols_len (ns : List Int) : ∀ p, (cols ns p).length ≤ p
  | 0 => Nat.le_refl _
  | p + 1 => by
    have := cols_len ns p
    rw [cols]
    by_cases h : lay (tub ns p) = 0
    · rw [if_pos h]; omega
    · rw [if_neg h, List.length_append]; simp; exact this
def sortedA (ns : List Int) : Bool := vR ns && (List.range 6).all fun p => !badT (cols ns p) (tub ns p)
theorem sorted_no {ns : List Int} (p : Nat) (hp : p < 6) (h : badT (cols ns p) (tub ns p) = true) : sortedA ns = false := by
  unfold sortedA
  rw [Bool.and_eq_false_iff]
  right
  rw [List.all_eq_false]
  exact ⟨p, by simpa using hp, by rw [h]; simp⟩
theorem sorted_yes {ns : List Int} (hv : vR ns = true) (h : ∀ p, p < 6 → badT (cols ns p) (tub ns p) = false) : sortedA ns = true := by
  unfold sortedA
  rw [hv, Bool.true_and, List.all_eq_true]
  intro p hp
  rw [h p (by simpa using hp)]; rfl
theorem sorted_not {ns : List Int} (hv : vR ns = false) : sortedA ns = false := by unfold sortedA; rw [hv]; rfl
def sortOK (t : List Int) : Bool :=
  (decide (runsN t (lay t) = 0) == decide (lay t = 0)) && (decide (runsN t (lay t) = 1) == (decide (lay t ≠ 0) && decide (topN t = lay t))) && (!decide (runsN t (lay t) = 1) || (runsF t (lay t)).getD 0 0 == topC t)
theorem sortOK_all : allT.all sortOK = true := by decide +kernel
structure SortFacts (t : List Int) : Prop where
  zero : runsN t (lay t) = 0 ↔ lay t = 0
  one : runsN t (lay t) = 1 ↔ (lay t ≠ 0 ∧ topN t = lay t)
  col : runsN t (lay t) = 1 → (runsF t (lay t)).getD 0 0 = topC t
theorem sortFacts {t : List Int} (h4 : t.length = 4) (hv : vT t = true) : SortFacts t := by
  have h := forT sortOK sortOK_all h4 hv
  unfold sortOK at h
  simp only [Bool.and_eq_true] at h
  obtain ⟨⟨h1, h2⟩, h3⟩ := h
  refine ⟨decide_eq_decide.1 (eq_of_beq h1), ?_, fun e => ?_⟩
  · have := eq_of_beq h2
    rw [Bool.eq_iff_iff] at this
    simpa using this
  · simp only [e, decide_true, Bool.not_true, Bool.false_or] at h3
    exact eq_of_beq h3
theorem bad_zero {cs t : List Int} (F : SortFacts t) (h : lay t = 0) : badT cs t = false := by
  have := F.zero.2 h
  unfold badT; rw [this]; simp
theorem bad_many {cs t : List Int} (h : 1 < runsN t (lay t)) : badT cs t = true := by unfold badT; rw [decide_eq_true h]; rfl
theorem bad_one {cs t : List Int} (h : runsN t (lay t) = 1) : badT cs t = decide (topC t ∈ cs) := by unfold badT; rw [h]; simp
theorem cols_zero {ns : List Int} {p : Nat} (h : lay (tub ns p) = 0) : cols ns (p + 1) = cols ns p := by rw [cols, if_pos h]
theorem cols_new {ns : List Int} {p : Nat} (h : lay (tub ns p) ≠ 0) : cols ns (p + 1) = cols ns p ++ [topC (tub ns p)] := by rw [cols, if_neg h]

/-! rows of numbers that are the call's own -/
theorem infoInt : (Try.prog.info? 3).map (fun i => (i.zero, i.size, i.bytes)) = some (some (.int .i64 0), 1, 8) := by kernel_rfl
def Ow (w : World) (b : Nat) (v : Value) (n : Nat) (xs : List Int) : Prop := w.ownsRow b 3 1 v n (ints xs)
theorem Ow.below {w w' : World} {b : Nat} {v : Value} {n : Nat} {fs : List Int} (h : Ow w b v n fs) (m : Below w.heap.size w w') : Ow w' b v n fs :=
  World.ownsRow.kept (row := none) h ⟨m.os, m.tape, m.output, m.size, fun k hk _ => m.block k hk⟩ (by cases v.ownBlock <;> simp)
theorem Ow.none (w : World) (b : Nat) (hb : b ≤ w.heap.size) : Ow (w.alloc (.cells #[] 3)) b (.slice (some ⟨w.heap.size, 0, Option.none⟩) 0 0) 0 [] := by
  have := World.ownsRow_made (base := b) (e := 3) (size := 1) w #[] 0 hb (by unfold maxLen; omega) (by simp)
  simpa [Ow, ints] using this
theorem Ow.form {w : World} {b : Nat} {v : Value} {n : Nat} {fs : List Int} (h : Ow w b v n fs) (hn : 0 < n) : ∃ g cap, v = .slice (some ⟨g, 0, Option.none⟩) n cap ∧ b ≤ g ∧ g < w.heap.size := by
  rcases h.2 with ⟨_, h0⟩ | ⟨g, cap, cur, hv, hb, hg, _⟩
  · omega
  · exact ⟨g, cap, hv, hb, lt_of_block hg⟩
theorem own_zero {w : World} {b : Nat} {e : TypeId} {s : Nat} {v : Value} {xs : List Value} (h : w.ownsRow b e s v 0 xs) : ∃ a cap, v = .slice a 0 cap := by
  rcases h.2 with ⟨h0, _⟩ | ⟨g, cap, cur, hv, _⟩
  · exact ⟨_, _, h0⟩
  · exact ⟨_, _, hv⟩

set_option maxHeartbeats 400000 in
theorem l1Has_any (v : Value) (n : Nat) (xs : List Int) (x : Int) (b : Nat) (w : World) (h : Ow w b v n xs) (hn : n ≤ 6) :
    Calls Try.prog 79 #[v, .int .i64 x] w fun e w' => e = .returned (.bool (decide (x ∈ xs))) ∧ w' = w := by
  have hl : xs.length = n := by have := h.1; rw [ints_len] at this; omega
  rcases n with _ | n
  · obtain rfl : xs = [] := List.length_eq_zero_iff.1 hl
    obtain ⟨a, cap, rfl⟩ := own_zero h
    clear h
    go_enter Try.func79, Try.ntmps79
    go_wp2_with fail
    go_loop [5] (fun i => i = .int .i64 0) (fun _ => 0)
    case atStart => rfl
    case round =>
      obtain rfl := hrel
      go_wp2_with fail
      go_ret
      exact ⟨rfl, rfl⟩
  · obtain ⟨g, cap, rfl, _, _⟩ := h.form (by omega)
    have HC : Hid (∀ k, k < n + 1 → w.cell? ⟨g, k, none⟩ = some (.int .i64 (xs.getD k 0))) := Lib.hid (fun k hk => by
      rw [World.ownsRow.cellAt h k (by omega)]; exact ints_get _ _ (by omega))
    have HL := Lib.hid hl
    clear h hl
    go_enter Try.func79, Try.ntmps79
    go_wp2_with fail
    go_loop [5] (fun i => ∃ k : Nat, k ≤ n + 1 ∧ i = .int .i64 k ∧ Hid (∀ j, j < k → xs.getD j 0 ≠ x)) (fun i => n + 1 - (intOf i).toNat)
    case atStart => exact ⟨0, by omega, rfl, Lib.hid (fun j hj => by omega)⟩
    case round =>
      obtain ⟨k, hk, rfl, HN⟩ := hrel
      by_cases h : k < n + 1
      · have c0 := HC.out k h
        have hki : (k : Int) < (n : Int) + 1 := by omega
        by_cases e : xs.getD k 0 = x
        · have R := Lib.hid (show decide (x ∈ xs) = true by
            rw [decide_eq_true_eq, ← e, List.getD_eq_getElem?_getD, List.getElem?_eq_getElem (by rw [HL.out]; exact h)]
            exact List.getElem_mem _)
          rw [e] at c0
          clear e
          go_wp2_with fail
          go_ret
          exact ⟨ret_bool R.out.symm, rfl⟩
        · have N2 := Lib.hid (show ∀ j, j < k + 1 → xs.getD j 0 ≠ x from fun j hj => by
            by_cases hjk : j = k
            · subst hjk; exact e
            · exact HN.out j (by omega))
          have e1 : (xs.getD k 0 == x) = false := by simpa using e
          clear e
          generalize xs.getD k 0 = y at *
          go_wp2_with fail
          go_round
          case rel => exact ⟨k + 1, by omega, by go_num, N2⟩
          case measure => simp [intOf]; omega
      · obtain rfl : k = n + 1 := by omega
        have R := Lib.hid (show decide (x ∈ xs) = false by
          rw [decide_eq_false_iff_not]
          intro hm
          obtain ⟨j, hj, he⟩ := List.getElem_of_mem hm
          refine HN.out j (by rw [← HL.out]; exact hj) ?_
          rw [List.getD_eq_getElem?_getD, List.getElem?_eq_getElem hj]; exact he)
        go_wp2_with fail
        go_ret
        exact ⟨ret_bool R.out.symm, rfl⟩
end Go.Proofs.Ytnldnjnnjfbhnab.base
end

section
namespace Go.Proofs.Ytnldnjnnjfbhnab.base
open Go.ChangeShapes Go.WideShapes Go.ChangeAt Go.RowKit
set_option linter.unusedVariables false
set_option linter.unusedSimpArgs false

theorem pours_at (ns : List Int) : ∀ m, m ≤ 36 → (poursF ns m).length = poursN ns m * 2 ∧ ∀ j, j < poursN ns m → ∃ p q : Nat, p < 6 ∧ q < 6 ∧ 0 < canN (tub ns p) (tub ns q) ∧ (poursF ns m).getD (j * 2) 0 = (p : Int) ∧ (poursF ns m).getD (j * 2 + 1) 0 = (q : Int)
  | 0, _ => by rw [(pours0 ns).1, (pours0 ns).2]; exact ⟨rfl, fun j hj => by omega⟩
  | m + 1, hm => by
    obtain ⟨h1, h2⟩ := pours_at ns m (by omega)
    by_cases hc : m / 6 ≠ m % 6 ∧ 0 < canN (tub ns (m / 6)) (tub ns (m % 6))
    · have e : poursF ns (m + 1) = poursF ns m ++ [((m / 6 : Nat) : Int), ((m % 6 : Nat) : Int)] := by rw [poursF, if_pos hc]
      have en : poursN ns (m + 1) = poursN ns m + 1 := by unfold poursN; rw [e, List.length_append]; simp
      rw [e, en]
      refine ⟨by rw [List.length_append, h1]; simp; omega, fun j hj => ?_⟩
      by_cases hjn : j < poursN ns m
      · obtain ⟨p, q, a1, a2, a3, a4, a5⟩ := h2 j hjn
        refine ⟨p, q, a1, a2, a3, ?_, ?_⟩
        · rw [← a4, List.getD_eq_getElem?_getD, List.getD_eq_getElem?_getD, List.getElem?_append_left (by omega)]
        · rw [← a5, List.getD_eq_getElem?_getD, List.getD_eq_getElem?_getD, List.getElem?_append_left (by omega)]
      · obtain rfl : j = poursN ns m := by omega
        refine ⟨m / 6, m % 6, by omega, by omega, hc.2, ?_, ?_⟩
        · rw [List.getD_eq_getElem?_getD, List.getElem?_append_right (by omega), h1, Nat.sub_self]; rfl
        · rw [List.getD_eq_getElem?_getD, List.getElem?_append_right (by omega), h1, Nat.add_sub_cancel_left]; rfl
    · have e : poursF ns (m + 1) = poursF ns m := by rw [poursF, if_neg hc]
      have en : poursN ns (m + 1) = poursN ns m := by unfold poursN; rw [e]
      rw [e, en]; exact ⟨h1, h2⟩
def idl (ns : List Int) (p q : Nat) : Bool := decide (topN (tub ns p) = lay (tub ns p)) && decide (lay (tub ns q) = 0)
def fstP (ns : List Int) (k : Nat) : Nat := ((poursF ns 36).getD (k * 2) 0).toNat
def sndP (ns : List Int) (k : Nat) : Nat := ((poursF ns 36).getD (k * 2 + 1) 0).toNat
/-- The useful ones of the first k pours, flat. -/
def usefF (ns : List Int) : Nat → List Int
  | 0 => []
  | k + 1 => if idl ns (fstP ns k) (sndP ns k) = true then usefF ns k else usefF ns k ++ [(fstP ns k : Int), (sndP ns k : Int)]
def usefN (ns : List Int) (k : Nat) : Nat := (usefF ns k).length / 2
theorem usefN_le (ns : List Int) : ∀ k, usefN ns k ≤ k
  | 0 => by unfold usefN; rw [usefF]; simp
  | k + 1 => by
    have := usefN_le ns k
    unfold usefN at this ⊢
    rw [usefF]
    split
    · omega
    · rw [List.length_append]; simp; omega
theorem usef0 (ns : List Int) : usefN ns 0 = 0 ∧ usefF ns 0 = [] := ⟨by unfold usefN; rw [usefF]; rfl, rfl⟩
theorem usef_idle {ns : List Int} {k : Nat} (h : idl ns (fstP ns k) (sndP ns k) = true) : usefF ns (k + 1) = usefF ns k ∧ usefN ns (k + 1) = usefN ns k := by
  have e : usefF ns (k + 1) = usefF ns k := by rw [usefF, if_pos h]
  exact ⟨e, by unfold usefN; rw [e]⟩
theorem usef_new {ns : List Int} {k : Nat} (h : idl ns (fstP ns k) (sndP ns k) = false) : usefF ns (k + 1) = usefF ns k ++ [(fstP ns k : Int), (sndP ns k : Int)] ∧ usefN ns (k + 1) = usefN ns k + 1 := by
  have e : usefF ns (k + 1) = usefF ns k ++ [(fstP ns k : Int), (sndP ns k : Int)] := by rw [usefF, if_neg (by rw [h]; simp)]
  exact ⟨e, by unfold usefN; rw [e, List.length_append]; simp⟩
theorem pour_k (ns : List Int) (k : Nat) (hk : k < poursN ns 36) : fstP ns k < 6 ∧ sndP ns k < 6 ∧ 0 < canN (tub ns (fstP ns k)) (tub ns (sndP ns k)) ∧ (poursF ns 36).getD (k * 2) 0 = (fstP ns k : Int) ∧ (poursF ns 36).getD (k * 2 + 1) 0 = (sndP ns k : Int) := by
  obtain ⟨p, q, a1, a2, a3, a4, a5⟩ := (pours_at ns 36 (Nat.le_refl _)).2 k hk
  have e1 : fstP ns k = p := by unfold fstP; rw [a4]; simp
  have e2 : sndP ns k = q := by unfold sndP; rw [a5]; simp
  rw [e1, e2]; exact ⟨a1, a2, a3, a4, a5⟩
theorem can_lay {s t : List Int} (hs : s.length = 4) (vs : vT s = true) (h : 0 < canN s t) : lay s ≠ 0 := by
  intro h0
  have := (tubeFacts hs vs).none.1 h0
  unfold canN at h
  rw [this] at h
  split at h <;> simp at h
def usefFA (ns : List Int) : List Int := if vR ns = true then usefF ns (poursN ns 36) else []
def usefNA (ns : List Int) : Nat := if vR ns = true then usefN ns (poursN ns 36) else 0
theorem usefNA_le (ns : List Int) : usefNA ns ≤ 36 := by
  unfold usefNA
  split
  · exact Nat.le_trans (usefN_le ns _) (poursN_le ns 36)
  · omega
def UsefPost (ns : List Int) (w : World) (e : Ending) (w' : World) : Prop := ∃ v : Value, e = .returned (.tuple #[v, .bool (vR ns)]) ∧ Prs w' w.heap.size v (usefNA ns) (usefFA ns) ∧ Kept w w'

set_option maxHeartbeats 800000 in
theorem l2Idle_any (ns : List Int) (p q : Nat) (w : World) (h24 : ns.length = 24) (hv : vR ns = true) (hp : p < 6) (hq : q < 6) (hc : lay (tub ns p) ≠ 0) :
    Calls Try.prog 43 #[.agg (ints ns).toArray, .int .i64 (p : Nat), .int .i64 (q : Nat)] w fun e w' => e = .returned (.bool (idl ns p q)) ∧ Kept w w' := by
  have HB := Lib.hid ((kept_refl w).alloc (.cells (ints ns).toArray 27))
  have H := Has.box w 27 h24 (by omega)
  have h4 := tub_len ns p h24 hp
  have hvt := vR_tub hv p hp
  have F := Lib.hid (sortFacts h4 hvt)
  have k4 := tub_len ns q h24 hq
  have kvt := vR_tub hv q hq
  have HC := Lib.hid hc
  have hpi : (p : Int) < 6 := by omega
  have hqi : (q : Int) < 6 := by omega
  clear hc hv
  go_enter Try.func43, Try.ntmps43
  go_wp2_with (refine load_tub rfl 24 _ rfl _ (p) _ rfl ?_ ?_ ?_ ?_ _ Try.underlying24 rfl ?_ ?_; (· (first | rfl | omega)); rotate_left; (· (repeat (first | (with_reducible assumption) | ((with_reducible refine Has.box _ _ ?_ ?_) <;> (first | assumption | decide)) | (with_reducible refine Has.alloc ?_ _) | ((with_reducible refine Has.putOther ?_ _ _ ?_); rotate_left; omega; skip) | ((with_reducible refine Has.below ?_ ?_); rotate_left; assumption)))); (· omega); (· kernel_rfl))
  refine (l2Runs_any (tub ns p) _ h4 hvt).mono ?_
  rintro e w1 ⟨v, rfl, q1, b1⟩
  have H1 := H.below b1
  have HB1 := Lib.hid (HB.out.call b1)
  obtain ⟨a, cap, rfl⟩ : ∃ a cap, v = .slice a (runsN (tub ns p) (lay (tub ns p))) cap := by
    rcases q1.2 with ⟨h0, h1⟩ | ⟨g, cap, cur, h0, _⟩
    · exact ⟨_, _, by rw [h1]; exact h0⟩
    · exact ⟨_, _, h0⟩
  clear H HB q1 b1
  by_cases h1 : runsN (tub ns p) (lay (tub ns p)) = 1
  · have T := Lib.hid (F.out.one.1 h1).2
    rw [h1]
    clear h1
    go_wp2_with (refine load_tub rfl 24 _ rfl _ (q) _ rfl ?_ ?_ ?_ ?_ _ Try.underlying24 rfl ?_ ?_; (· (first | rfl | omega)); rotate_left; (· (repeat (first | (with_reducible assumption) | ((with_reducible refine Has.box _ _ ?_ ?_) <;> (first | assumption | decide)) | (with_reducible refine Has.alloc ?_ _) | ((with_reducible refine Has.putOther ?_ _ _ ?_); rotate_left; omega; skip) | ((with_reducible refine Has.below ?_ ?_); rotate_left; assumption)))); (· omega); (· kernel_rfl))
    refine (l2Many_any (tub ns q) _ k4 kvt).mono ?_
    rintro e w2 ⟨rfl, b2⟩
    have HB2 := Lib.hid (HB1.out.call b2)
    clear b2
    go_wp2_with fail
    go_ret
    exact ⟨ret_bool (by unfold idl; rw [decide_eq_true T.out, Bool.true_and, Bool.eq_iff_iff]; simp), HB2.out⟩
  · have T := Lib.hid (show ¬ topN (tub ns p) = lay (tub ns p) from fun h => h1 (F.out.one.2 ⟨HC.out, h⟩))
    have e1 : (((runsN (tub ns p) (lay (tub ns p)) : Nat) : Int) == 1) = false := by simp; omega
    have e2 : (runsN (tub ns p) (lay (tub ns p)) == 1) = false := by simp; omega
    clear h1
    go_wp2_with fail
    go_ret
    exact ⟨ret_bool (by unfold idl; rw [decide_eq_false T.out]; rfl), HB1.out⟩
end Go.Proofs.Ytnldnjnnjfbhnab.base
end

section
namespace Go.Proofs.Ytnldnjnnjfbhnab.base
open Go.ChangeShapes Go.WideShapes Go.ChangeAt Go.RowKit
set_option linter.unusedVariables false
set_option linter.unusedSimpArgs false

theorem range_two {w : World} {g o : Nat} {A B : Value} (h0 : w.cell? ⟨g, o, none⟩ = some A) (h1 : w.cell? ⟨g, o + 1, none⟩ = some B) : w.rangeAt g o [A, B] := by
  intro j v hv
  match j, hv with
  | 0, hv => simp at hv; subst hv; exact h0
  | 1, hv => simp at hv; subst hv; exact h1
  | j + 2, hv => simp at hv
theorem Prs.apart {w w' : World} {b : Nat} {v : Value} {n : Nat} {fs : List Int} (h : Prs w b v n fs) {r : Option Nat} (hg : w.grownBy w' r) (hr : ∀ k, r = some k → v.ownBlock ≠ some k) : Prs w' b v n fs := by
  refine World.ownsRow.kept (row := r) h hg ?_
  cases hv : v.ownBlock with
  | none => exact .inl rfl
  | some k => exact .inr (fun e => hr k e.symm hv)

set_option maxHeartbeats 1600000 in
set_option maxRecDepth 100000 in
theorem l2Useful_any (ns : List Int) (w : World) (h24 : ns.length = 24) (hv : vR ns = true) :
    Calls Try.prog 50 #[row ns] w fun e w' => ∃ v : Value, e = .returned v ∧ Prs w' w.heap.size v (usefN ns (poursN ns 36)) (usefF ns (poursN ns 36)) ∧ Kept w w' := by
  obtain ⟨i0, hi, hz0, hz1, hz2⟩ := info_parts infoPair
  have HB := Lib.hid (((kept_refl w).alloc (.cells (ints ns).toArray 27)).alloc (.cells #[] 36))
  have H := (Has.box w 27 h24 (by omega)).alloc (.cells #[] 36)
  have P0 := Prs.none (w.alloc (.cells (ints ns).toArray 27)) (w.heap.size + 1) (by simp)
  rw [size1] at P0
  have P1 : Hid (Prs ((w.alloc (.cells (ints ns).toArray 27)).alloc (.cells #[] 36)) (w.heap.size + 1) (.slice (some ⟨w.heap.size + 1, 0, none⟩) 0 0) (usefN ns 0) (usefF ns 0)) := Lib.hid (by rw [(usef0 ns).1, (usef0 ns).2]; exact P0)
  clear P0
  have hi1 : (Try.prog.info? 27).map (·.size) = some (ints ns).length := by rw [ints_len, h24]; kernel_rfl
  rw [row_ints]
  go_enter Try.func50, Try.ntmps50
  go_wp2_with (refine load_has rfl 27 _ rfl _ rfl ?_ 24 ?_ _ Try.underlying27 rfl ?_ ?_; rotate_left; (· (repeat (first | (with_reducible assumption) | ((with_reducible refine Has.box _ _ ?_ ?_) <;> (first | assumption | decide)) | (with_reducible refine Has.alloc ?_ _) | ((with_reducible refine Has.putOther ?_ _ _ ?_); rotate_left; omega; skip) | ((with_reducible refine Has.below ?_ ?_); rotate_left; assumption)))); (· kernel_rfl))
  refine (l2Pours_any ns _ h24 hv).mono ?_
  rintro e w1 ⟨pv, rfl, q1, b1⟩
  have H1 := H.below b1
  have HB1 := Lib.hid (HB.out.call b1)
  have P2 := Lib.hid (P1.out.below b1)
  have AP : Hid (∀ z, (Value.slice (some ⟨w.heap.size + 1, 0, none⟩) 0 0).ownBlock = some z → pv.ownBlock ≠ some z) := Lib.hid (fun z hz e => by
    have := (World.ownsRow.lt q1 z e).1
    simp only [Value.ownBlock, Option.some.injEq] at hz
    simp at this; omega)
  have q2 := q1.mono (b' := w.heap.size) HB.out.size
  obtain ⟨a, cap, rfl⟩ : ∃ a cap, pv = .slice a (poursN ns 36) cap := by
    rcases q1.2 with ⟨h0, h1⟩ | ⟨g, cap, cur, h0, _⟩
    · exact ⟨_, _, by rw [h1]; exact h0⟩
    · exact ⟨_, _, h0⟩
  have Q1 := Lib.hid q2
  have H24 := Lib.hid h24
  have HV := Lib.hid hv
  clear H HB P1 q1 q2 b1 h24 hv
  have hN := poursN_le ns 36
  go_wp2_with fail
  go_loopw [3, 5] (fun u i wr => ∃ k : Nat, k ≤ poursN ns 36 ∧ i = .int .i64 k ∧ Has wr w.heap.size ns 24 ∧ Hid (Prs wr (w.heap.size + 1) u (usefN ns k) (usefF ns k)) ∧ Hid (Prs wr w.heap.size (.slice a (poursN ns 36) cap) (poursN ns 36) (poursF ns 36)) ∧ Hid (∀ z, u.ownBlock = some z → (Value.slice a (poursN ns 36) cap).ownBlock ≠ some z) ∧ Hid (Kept w wr)) (fun _ z _ => poursN ns 36 - (intOf z).toNat)
  case atStart => exact ⟨0, by omega, rfl, H1, P2, Q1, AP, HB1⟩
  case round =>
    obtain ⟨k, hk, rfl, G1, GU, GQ, GA, GB⟩ := hrel
    by_cases hkn : k < poursN ns 36
    · have ki : (k : Int) < ((poursN ns 36 : Nat) : Int) := by omega
      have k0 : (0 : Int) ≤ (k : Int) := by omega
      obtain ⟨g, cap2, hv', _, _⟩ := GQ.out.form (by omega)
      injection hv' with ha _ hcap
      subst ha
      subst hcap
      obtain ⟨p6, q6, hc, f1, f2⟩ := pour_k ns k hkn
      have LZ := Lib.hid (can_lay (tub_len ns _ H24.out p6) (vR_tub HV.out _ p6) hc)
      have F1 := Lib.hid f1
      have F2 := Lib.hid f2
      have hU := usefN_le ns k
      clear f1 f2 hc
      go_wp2_with fail
      refine wp_region_held_drew (S := fun w' => Has w' w.heap.size ns 24 ∧ Prs w' (w.heap.size + 1) u3 (usefN ns k) (usefF ns k) ∧ Prs w' w.heap.size (.slice (some ⟨g, 0, none⟩) (poursN ns 36) cap) (poursN ns 36) (poursF ns 36) ∧ Kept w w') (by kernel_rfl) ?_ (fun hHeld => ?_)
      · exact ⟨G1.drew, GU.out.drewN 1, GQ.out.drewN 1, GB.out.drewN 1⟩
      (refine wpAnyH_take (i := 0) (v := _) rfl (by kernel_rfl) (by kernel_rfl) (by kernel_rfl) (fun _ _ _ h => h) (yieldsIf_load_mid (by rfl) 27 _ rfl _ _ rfl (ints ns) _ (fun w' hSw => hSw.1.holds.range) Try.underlying27 rfl (hi1)) hHeld ?_; (try simp only [List.getElem_toArray, List.getElem_cons_zero, List.getElem_cons_succ, Act.put, List.setIfInBounds_toArray, List.set_cons_zero, List.set_cons_succ]))
      (refine wpAnyH_take (i := 1) (v := ?_) rfl (by kernel_rfl) (by kernel_rfl) (by kernel_rfl) (fun _ _ _ h => h) (Or.inl ⟨by rfl, ?_⟩) hHeld ?_; rotate_left; (· (intro w' hSw; go_simp; try with_reducible rfl)); (try simp only [List.getElem_toArray, List.getElem_cons_zero, List.getElem_cons_succ, Act.put, List.setIfInBounds_toArray, List.set_cons_zero, List.set_cons_succ])); (refine wpAnyH_take (i := 2) (v := ?_) rfl (by kernel_rfl) (by kernel_rfl) (by kernel_rfl) (fun _ _ _ h => h) (Or.inl ⟨by rfl, ?_⟩) hHeld ?_; rotate_left; (· (intro w' hSw; go_simp; try with_reducible rfl)); (try simp only [List.getElem_toArray, List.getElem_cons_zero, List.getElem_cons_succ, Act.put, List.setIfInBounds_toArray, List.set_cons_zero, List.set_cons_succ])); (refine wpAnyH_take (i := 3) (v := ?_) rfl (by kernel_rfl) (by kernel_rfl) (by kernel_rfl) (fun _ _ _ h => h) (Or.inl ⟨by rfl, ?_⟩) hHeld ?_; rotate_left; (· (intro w' hSw; go_simp; try with_reducible rfl)); (try simp only [List.getElem_toArray, List.getElem_cons_zero, List.getElem_cons_succ, Act.put, List.setIfInBounds_toArray, List.set_cons_zero, List.set_cons_succ])); (refine wpAnyH_take (i := 4) (v := ?_) rfl (by kernel_rfl) (by kernel_rfl) (by kernel_rfl) (fun _ _ _ h => h) (Or.inl ⟨by rfl, ?_⟩) hHeld ?_; rotate_left; (· (intro w' hSw; go_simp; try with_reducible rfl)); (try simp only [List.getElem_toArray, List.getElem_cons_zero, List.getElem_cons_succ, Act.put, List.setIfInBounds_toArray, List.set_cons_zero, List.set_cons_succ])); (refine wpAnyH_take (i := 6) (v := ?_) rfl (by kernel_rfl) (by kernel_rfl) (by kernel_rfl) (fun _ _ _ h => h) (Or.inl ⟨by rfl, ?_⟩) hHeld ?_; rotate_left; (· (intro w' hSw; go_simp; try with_reducible rfl)); (try simp only [List.getElem_toArray, List.getElem_cons_zero, List.getElem_cons_succ, Act.put, List.setIfInBounds_toArray, List.set_cons_zero, List.set_cons_succ])); (refine wpAnyH_take (i := 7) (v := ?_) rfl (by kernel_rfl) (by kernel_rfl) (by kernel_rfl) (fun _ _ _ h => h) (Or.inl ⟨by rfl, ?_⟩) hHeld ?_; rotate_left; (· (intro w' hSw; go_simp; try with_reducible rfl)); (try simp only [List.getElem_toArray, List.getElem_cons_zero, List.getElem_cons_succ, Act.put, List.setIfInBounds_toArray, List.set_cons_zero, List.set_cons_succ])); (refine wpAnyH_take (i := 8) (v := ?_) rfl (by kernel_rfl) (by kernel_rfl) (by kernel_rfl) (fun _ _ _ h => h) (Or.inl ⟨by rfl, ?_⟩) hHeld ?_; rotate_left; (· (intro w' hSw; go_simp; try with_reducible rfl)); (try simp only [List.getElem_toArray, List.getElem_cons_zero, List.getElem_cons_succ, Act.put, List.setIfInBounds_toArray, List.set_cons_zero, List.set_cons_succ])); (refine wpAnyH_take (i := 9) (v := ?_) rfl (by kernel_rfl) (by kernel_rfl) (by kernel_rfl) (fun _ _ _ h => h) (Or.inl ⟨by rfl, ?_⟩) hHeld ?_; rotate_left; (· (intro w' hSw; go_simp; try with_reducible rfl)); (try simp only [List.getElem_toArray, List.getElem_cons_zero, List.getElem_cons_succ, Act.put, List.setIfInBounds_toArray, List.set_cons_zero, List.set_cons_succ]))
      refine wpAnyH_take (i := 5) (v := .int .i64 (fstP ns k : Int)) rfl (by kernel_rfl) (by kernel_rfl) (by kernel_rfl) (fun _ _ _ h => h) (Or.inl ⟨by rfl, ?_⟩) hHeld ?_
      · intro w' hSw
        have cc := hSw.2.2.1.cell (k * 2) (by omega)
        rw [F1.out] at cc
        go_simp
      (try simp only [List.getElem_toArray, List.getElem_cons_zero, List.getElem_cons_succ, Act.put, List.setIfInBounds_toArray, List.set_cons_zero, List.set_cons_succ])
      refine wpAnyH_take (i := 10) (v := .int .i64 (sndP ns k : Int)) rfl (by kernel_rfl) (by kernel_rfl) (by kernel_rfl) (fun _ _ _ h => h) (Or.inl ⟨by rfl, ?_⟩) hHeld ?_
      · intro w' hSw
        have cc := hSw.2.2.1.cell (k * 2 + 1) (by omega)
        rw [F2.out] at cc
        go_simp
      (try simp only [List.getElem_toArray, List.getElem_cons_zero, List.getElem_cons_succ, Act.put, List.setIfInBounds_toArray, List.set_cons_zero, List.set_cons_succ])
      (refine wpAnyH_ready (rs := [11]) (by kernel_rfl) (by simp) ?_; refine AllReadyH.cons (o := _) rfl (fun K hK => ?_) AllReadyH.nil; (simp only [List.getElem_toArray, List.getElem_cons_zero, List.getElem_cons_succ, Region.wanted, if_true]))
      go_simp
      refine (l2Idle_any ns (fstP ns k) (sndP ns k) _ H24.out HV.out p6 q6 LZ.out).mono ?_
      rintro e w2 ⟨rfl, b2⟩
      dsimp only
      (try simp only [List.getElem_toArray, List.getElem_cons_zero, List.getElem_cons_succ, Act.put, List.setIfInBounds_toArray, List.set_cons_zero, List.set_cons_succ])
      refine hK.out _ _ ⟨hHeld.1.below b2, hHeld.2.1.below b2, hHeld.2.2.1.below b2, hHeld.2.2.2.call b2⟩ (fun hHeld => ?_)
      clear hK K b2
      (refine wpAnyH_take (i := 12) (v := ?_) rfl (by kernel_rfl) (by kernel_rfl) (by kernel_rfl) (fun _ _ _ h => h) (Or.inl ⟨by rfl, ?_⟩) hHeld ?_; rotate_left; (· (intro w' hSw; go_simp; try with_reducible rfl)); (try simp only [List.getElem_toArray, List.getElem_cons_zero, List.getElem_cons_succ, Act.put, List.setIfInBounds_toArray, List.set_cons_zero, List.set_cons_succ]))
      refine wpAnyH_done (by kernel_rfl) ?_ _
      have K1 := hHeld.1
      have KU := Lib.hid hHeld.2.1
      have KQ := Lib.hid hHeld.2.2.1
      have KB := Lib.hid hHeld.2.2.2
      clear hHeld G1 GU GQ GB
      by_cases hid : idl ns (fstP ns k) (sndP ns k) = true
      · obtain ⟨Y, Y2⟩ := usef_idle hid
        have B2 := Lib.hid (show Prs w2 (w.heap.size + 1) u3 (usefN ns (k + 1)) (usefF ns (k + 1)) by rw [Y, Y2]; exact KU.out)
        rw [hid]
        clear hid Y Y2
        go_wp2_with fail
        go_roundw
        case rel => exact ⟨k + 1, by omega, by go_num, K1, B2, KQ, GA, KB⟩
        case measure => simp [intOf]; omega
      · have hf : idl ns (fstP ns k) (sndP ns k) = false := by simpa using hid
        obtain ⟨Y, Y2⟩ := usef_new hf
        have HY := Lib.hid Y
        have HY2 := Lib.hid Y2
        rw [hf]
        have rg1 : w2.cell? ⟨g, k * 2, none⟩ = some (.int .i64 (fstP ns k : Int)) := by rw [← F1.out]; exact KQ.out.cell (k * 2) (by omega)
        have rg2 : w2.cell? ⟨g, k * 2 + 1, none⟩ = some (.int .i64 (sndP ns k : Int)) := by rw [← F2.out]; exact KQ.out.cell (k * 2 + 1) (by omega)
        have RG := Lib.hid (range_two rg1 rg2)
        clear rg1 rg2
        have hbs := KB.out.size
        clear hid hf Y Y2
        go_wp2_with (first | (refine wpList_load_mid rfl 36 _ rfl g (k * 2) rfl [.int .i64 (fstP ns k : Int), .int .i64 (sndP ns k : Int)] _ RG.out Try.underlying36 rfl (by kernel_rfl) ?_) | (at_builtin; refine wpList_append_lies _ rfl _ _ 32 rfl (w.heap.size + 1) 36 i0 (.agg #[.int .i64 0, .int .i64 0]) 2 16 Try.underlying32 hi hz0 hz1 hz2 rfl (by decide) _ (usefN ns k) (ints (usefF ns k)) rfl (World.ownsRow.alloc KU.out _) ⟨w2.heap.size, 0, none⟩ 1 1 [.int .i64 (fstP ns k : Int), .int .i64 (sndP ns k : Int)] rfl rfl (cell_two_new _ _ _ _) (fun x hx => by simp at hx; rcases hx with rfl | rfl <;> rfl) (by decide) (by unfold maxLen; omega) (by omega) (by simp; omega) _ rfl ?_; intro g' cap' w3 hown' hgrow3 hlie hlt3))
        obtain ⟨A2, A3⟩ := prs_app KU.out KB.out (Nat.le_refl _) hown' hgrow3
        have A1 := (K1.alloc (.cells #[.int .i64 (fstP ns k : Int), .int .i64 (sndP ns k : Int)] 36)).grown hgrow3 (Prs.own KU.out)
        have A0 := Lib.hid ((KQ.out.alloc (.cells #[.int .i64 (fstP ns k : Int), .int .i64 (sndP ns k : Int)] 36)).apart hgrow3 (fun z hz => GA.out z hz))
        have GA2 : Hid (∀ z, (Value.slice (some ⟨g', 0, none⟩) (usefN ns k + 1) cap').ownBlock = some z → (Value.slice (some ⟨g, 0, none⟩) (poursN ns 36) cap).ownBlock ≠ some z) := Lib.hid (fun z hz e => by
          simp only [Value.ownBlock, Option.some.injEq] at hz
          subst hz
          rcases hlie with h1 | h1
          · exact GA.out _ h1 e
          · have := (World.ownsRow.lt KQ.out _ e).2
            rw [size1] at h1; omega)
        rw [← HY.out, ← HY2.out] at A2
        have B2 := Lib.hid A2
        have B3 : Hid (Kept w w3) := Lib.hid A3
        clear hown' hgrow3 hlie hlt3 A2 A3
        go_wp2_with fail
        go_roundw
        case rel => exact ⟨k + 1, by omega, by go_num, A1, by rw [← HY2.out]; exact B2, A0, by rw [← HY2.out]; rw [← HY2.out] at GA2; exact GA2, B3⟩
        case measure => simp [intOf]; omega
    · obtain rfl : k = poursN ns 36 := by omega
      go_wp2_with fail
      go_ret
      exact ⟨_, rfl, GU.out.mono (by omega), GB.out⟩

end Go.Proofs.Ytnldnjnnjfbhnab.base
end
