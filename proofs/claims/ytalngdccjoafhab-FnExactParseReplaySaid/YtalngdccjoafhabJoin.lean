/-
  JoinStrings of the program and of the model, walked over a row of strings: both return the joined text and true, or the empty string and false.
-/
import Derived.Test.YtalngdccjoafhabCanJoin
import Derived.Test.YtalngdccjoafhabShelfJ
import Derived.Lib.Join
namespace Go.Proofs.Ytalngdccjoafhab.base
open Go.ChangeShapes Go.WideShapes Go.ChangeAt Go.RowKit
set_option linter.unusedVariables false
set_option linter.unusedSimpArgs false

def bytesOf (xs : List ByteArray) : List (List UInt8) := xs.map (·.data.toList)
/-- The joined text of the first k. -/
def outOf (xs : List ByteArray) (sep : List UInt8) (k : Nat) : List UInt8 := Lib.join (bytesOf (xs.take k)) sep

theorem join_snoc (sep : List UInt8) (l : List (List UInt8)) (x : List UInt8) : Lib.join (l ++ [x]) sep = if l = [] then x else Lib.join l sep ++ sep ++ x := by
  induction l with
  | nil => rw [if_pos rfl]; exact Lib.join_one x sep
  | cons a r ih =>
    rw [if_neg (by simp), List.cons_append, Lib.join_cons, Lib.join_cons]
    unfold Lib.joinTail
    rw [List.map_append, List.flatten_append]; simp

theorem outOf_succ (xs : List ByteArray) (sep : List UInt8) (k : Nat) (x : ByteArray) (h : xs[k]? = some x) : outOf xs sep (k + 1) = if k = 0 then x.data.toList else outOf xs sep k ++ sep ++ x.data.toList := by
  have hlt : k < xs.length := by
    rcases Nat.lt_or_ge k xs.length with h1 | h1
    · exact h1
    · rw [List.getElem?_eq_none h1] at h; cases h
  unfold outOf bytesOf
  rw [List.take_succ_eq_append_getElem hlt, List.map_append]
  rw [List.getElem?_eq_getElem hlt] at h; injection h with h
  rw [List.map_singleton, join_snoc, h]
  by_cases hk : k = 0
  · subst hk; simp
  · rw [if_neg hk, if_neg]
    intro e
    have h2 := congrArg List.length e
    rw [List.length_map, List.length_take] at h2
    have h3 : min k xs.length = 0 := h2
    omega

theorem outOf_len (xs : List ByteArray) (sep : List UInt8) (hs : sep.length = 1) : ∀ k, k ≤ xs.length → (outOf xs sep k).length = k - 1 + sizes (xs.take k) := by
  intro k
  induction k with
  | zero => intro _; simp [outOf, bytesOf, Lib.join_nil, sizes]
  | succ k ih =>
    intro hk
    have hlt : k < xs.length := by omega
    have hx : xs[k]? = some xs[k] := List.getElem?_eq_getElem hlt
    rw [outOf_succ xs sep k _ hx, sizes_snoc xs k _ hx]
    by_cases h0 : k = 0
    · subst h0
      have e0 : sizes (xs.take 0) = 0 := rfl
      rw [if_pos rfl, ← bytesize, e0]; omega
    · rw [if_neg h0, List.length_append, List.length_append, ih (by omega), hs, ← bytesize]; omega

/-- Whether and what JoinStrings answers. -/
def JoinOK (xs : List ByteArray) (sep : ByteArray) : Prop := 0 < xs.length ∧ sep.size = 1 ∧ canJ xs (sep.data.toList.headD 0)
open Classical in
noncomputable def joinB (xs : List ByteArray) (sep : ByteArray) : Bool := decide (JoinOK xs sep)
open Classical in
noncomputable def joinS (xs : List ByteArray) (sep : ByteArray) : ByteArray := if JoinOK xs sep then ⟨(Lib.join (bytesOf xs) sep.data.toList).toArray⟩ else ⟨#[]⟩
open Classical in
theorem join_yes {xs : List ByteArray} {sep : ByteArray} (h : JoinOK xs sep) : joinB xs sep = true ∧ joinS xs sep = ⟨(Lib.join (bytesOf xs) sep.data.toList).toArray⟩ := ⟨by unfold joinB; exact decide_eq_true h, by unfold joinS; rw [if_pos h]⟩
open Classical in
theorem join_no {xs : List ByteArray} {sep : ByteArray} (h : ¬ JoinOK xs sep) : joinB xs sep = false ∧ joinS xs sep = ⟨#[]⟩ := ⟨by unfold joinB; exact decide_eq_false h, by unfold joinS; rw [if_neg h]⟩

theorem head_at (sep : ByteArray) (h : 0 < sep.size) : sep.data.toList.headD 0 = sep[0] := by
  have := byteat sep 0 h
  cases hl : sep.data.toList with
  | nil => rw [hl] at this; cases this
  | cons a r => rw [hl] at this; simpa using this

set_option maxHeartbeats 800000 in
theorem implJoin_row (g cap : Nat) (xs : List ByteArray) (sep : ByteArray) (w : World) (hr : RowS w g xs) (hcap : xs.length ≤ cap) (hlen : xs.length ≤ 1048576) (hx : ∀ x ∈ xs, x.size ≤ 1048576) (hsep : sep.size ≤ maxLen) (h0 : 0 < xs.length) :
    Calls Try.prog 48 #[.slice (some ⟨g, 0, none⟩) xs.length cap, .string sep] w fun e w' => e = .returned (.tuple #[.string (joinS xs sep), .bool (joinB xs sep)]) ∧ Below w.heap.size w w' := by
  have g0 : ((xs.length : Int) == 0) = false := by rw [beq_eq_false_iff_ne]; omega
  by_cases h1 : sep.size = 1
  · have q2 : ((sep.size : Int) != 1) = false := by rw [h1]; rfl
    have hb0 : 0 < sep.size := by omega
    have q3 : (0 : Int) < (sep.size : Int) := by omega
    by_cases h2 : canJ xs (sep.data.toList.headD 0)
    · obtain ⟨e1, e2⟩ := join_yes (xs := xs) (sep := sep) ⟨h0, h1, h2⟩
      rw [e1, e2]
      have hl : (Lib.join (bytesOf xs) sep.data.toList).length ≤ 4000 := by
        have := outOf_len xs sep.data.toList (by rw [← bytesize]; exact h1) xs.length (Nat.le_refl _)
        unfold outOf at this; rw [List.take_of_length_le (Nat.le_refl _)] at this
        rw [this]; exact h2.2
      rw [head_at sep hb0] at h2
      have HJ := Lib.hid (fun W R => canJoin_yes g cap xs (sep[0].toNat : Int) sep[0] rfl W R h0 h2)
      have HK := Lib.hid (Try.strings_Join g 0 cap xs sep w (fun j x hj => by rw [Nat.zero_add]; exact hr.2 j x hj) hr.1 (by omega) hcap (by show (Lib.join (bytesOf xs) sep.data.toList).length ≤ _; omega))
      have HR := Lib.hid hr
      clear hr h2 hl e1 e2 h1
      go_enter Try.func48, Try.ntmps48
      go_wp2_with fail
      refine (HJ.out _ HR.out).mono ?_
      rintro e w1 ⟨rfl, rfl⟩
      go_wp2_with fail
      refine HK.out.mono ?_
      rintro e w2 ⟨rfl, hb⟩
      go_wp2_with fail
      go_ret2
      exact ⟨rfl, hb⟩
    · obtain ⟨e1, e2⟩ := join_no (xs := xs) (sep := sep) (fun h => h2 h.2.2)
      rw [e1, e2]
      rw [head_at sep hb0] at h2
      have HJ := Lib.hid (fun W R => canJoin_no g cap xs (sep[0].toNat : Int) sep[0] rfl W R h0 hlen hx h2)
      have HR := Lib.hid hr
      clear hr h2 e1 e2 h1 hx
      go_enter Try.func48, Try.ntmps48
      go_wp2_with fail
      refine (HJ.out _ HR.out).mono ?_
      rintro e w1 ⟨rfl, rfl⟩
      go_wp2_with fail
      go_ret2
      exact ⟨rfl, Below.refl _ _⟩
  · obtain ⟨e1, e2⟩ := join_no (xs := xs) (sep := sep) (fun h => h1 h.2.1)
    rw [e1, e2]
    have q2 : ((sep.size : Int) != 1) = true := by rw [bne_iff_ne]; omega
    clear hr e1 e2 h1 hx
    go_enter Try.func48, Try.ntmps48
    go_wp2_with fail
    go_ret2
    exact ⟨rfl, Below.refl _ _⟩

theorem implJoin_nil (a : Option Addr) (cap : Nat) (sep : ByteArray) (w : World) :
    Calls Try.prog 48 #[.slice a 0 cap, .string sep] w fun e w' => e = .returned (.tuple #[.string (joinS [] sep), .bool (joinB [] sep)]) ∧ Below w.heap.size w w' := by
  obtain ⟨e1, e2⟩ := join_no (xs := []) (sep := sep) (fun h => by have := h.1; simp at this)
  rw [e1, e2]
  clear e1 e2
  go_enter Try.func48, Try.ntmps48
  go_wp2_with fail
  go_ret2
  exact ⟨rfl, Below.refl _ _⟩

def mk (l : List UInt8) : ByteArray := ⟨l.toArray⟩
theorem mk_size (l : List UInt8) : (mk l).size = l.length := by show l.toArray.size = _; simp
theorem mk_data (s : ByteArray) : mk s.data.toList = s := by unfold mk; cases s; simp
theorem add_mk (a b : List UInt8) (h : a.length + b.length ≤ 9223372036854775807) (W : World) : (Op.stringOp .add (mk a) (mk b)).run Try.prog W = .ok (.string (mk (a ++ b))) W := by
  rw [run_string_add_sum]
  · congr 2
  · rw [mk_size, mk_size]; exact h

theorem add_str (a : List UInt8) (x : ByteArray) (h : a.length + x.size ≤ 9223372036854775807) (W : World) : (Op.stringOp .add (mk a) x).run Try.prog W = .ok (.string (mk (a ++ x.data.toList))) W := by
  have := add_mk a x.data.toList (by rw [← bytesize]; exact h) W
  rwa [mk_data] at this

theorem nosep_at {xs : List ByteArray} {b : UInt8} {k : Nat} {x : ByteArray} (hx : xs[k]? = some x) (h : stands x.data.toList b = true) : ¬ NoSep xs b := fun hn => by
  have := hn x (List.mem_of_getElem? hx); rw [h] at this; cases this
theorem nosep_take {xs : List ByteArray} {b : UInt8} {k : Nat} {x : ByteArray} (hx : xs[k]? = some x) (hp : NoSep (xs.take k) b) (h : stands x.data.toList b = false) : NoSep (xs.take (k + 1)) b := by
  have hlt : k < xs.length := by
    rcases Nat.lt_or_ge k xs.length with h1 | h1
    · exact h1
    · rw [List.getElem?_eq_none h1] at hx; cases hx
  intro y hy
  rw [List.take_succ_eq_append_getElem hlt, List.mem_append] at hy
  rcases hy with hy | hy
  · exact hp y hy
  · rw [List.getElem?_eq_getElem hlt] at hx; injection hx with hx
    rw [List.mem_singleton, hx] at hy; rw [hy]; exact h

theorem quiet_add_same {P : Program} {f : FuncId} {args : Array Value} {w : World} {a n : Nat} {v : Value}
    (h : Calls P f args (w.drewN (a + n)) fun e w' => e = .returned v ∧ w' = w.drewN (a + n)) :
    Calls P f args (w.drewN (a + n)) fun e w'' => e = .returned v ∧ ∃ m, w'' = w.drewN (a + m) :=
  h.mono fun _ _ ⟨he, hm⟩ => ⟨he, n, hm⟩

/-- What the model's loop answers: the text so far is too long or has the separator, or all is well. -/
def JPost (xs : List ByteArray) (sep : ByteArray) (w : World) (e : Ending) (w' : World) : Prop := e = .returned (.tuple #[.string (joinS xs sep), .bool (joinB xs sep)]) ∧ Below w.heap.size w w'

/-- Both, over a row of the call's own. -/
theorem row_of_owns {w : World} {b g n cap : Nat} {xs : List ByteArray} (h : w.ownsRow b 9 1 (.slice (some ⟨g, 0, none⟩) n cap) n (xs.map Value.string)) : RowS w g xs :=
  ⟨(row_block h).2, fun j x hj => row_cell h j _ (by rw [List.getElem?_map, hj]; rfl)⟩
theorem row_cap {w : World} {b g n cap : Nat} {xs : List Value} (h : w.ownsRow b 9 1 (.slice (some ⟨g, 0, none⟩) n cap) n xs) : n ≤ cap := by
  rcases h.2 with ⟨h, _⟩ | ⟨g', cap', cur, hv, _, _, hc, _⟩
  · cases h
  · simp only [Value.slice.injEq, Option.some.injEq, Addr.mk.injEq, and_true, true_and] at hv
    rw [hv.2]; exact hc

theorem implJoin_own (b : Nat) (v : Value) (xs : List ByteArray) (sep : ByteArray) (w : World) (h : w.ownsRow b 9 1 v xs.length (xs.map Value.string)) (hlen : xs.length ≤ 1048576) (hx : ∀ x ∈ xs, x.size ≤ 1048576) (hsep : sep.size ≤ maxLen) :
    Calls Try.prog 48 #[v, .string sep] w (JPost xs sep w) := by
  cases xs with
  | nil =>
    obtain ⟨a, c, rfl⟩ := row_none h
    exact implJoin_nil a c sep w
  | cons x r =>
    obtain ⟨g, c, rfl⟩ := row_succ h
    exact implJoin_row g c (x :: r) sep w (row_of_owns h) (row_cap h) hlen hx hsep (by simp)
end Go.Proofs.Ytalngdccjoafhab.base
