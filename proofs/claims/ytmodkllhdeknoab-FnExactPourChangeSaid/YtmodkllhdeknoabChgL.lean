/-
  The exact law of PourChange, walked.
-/
import Derived.Test.YtmodkllhdeknoabChg
namespace Go.Proofs.Ytmodkllhdeknoab.base
open Go.ChangeShapes Go.WideShapes Go.ChangeAt Go.RowKit
set_option linter.unusedVariables false
set_option linter.unusedSimpArgs false

set_option maxHeartbeats 400000 in
theorem eqIntA3_same (t : List Int) (w : World) (h2 : t.length = 3) :
    Calls Try.prog 12 #[.agg (ints t).toArray, .agg (ints t).toArray] w fun e w' => e = .returned (.bool true) ∧ Kept w w' := by
  have HB := Lib.hid (((kept_refl w).alloc (.cells (ints t).toArray 26)).alloc (.cells (ints t).toArray 26))
  have H1 := (Has.box w 26 h2 (by omega)).alloc (.cells (ints t).toArray 26)
  have H2 := (Has.box (w.alloc (.cells (ints t).toArray 26)) 26 h2 (by omega)).at (size1 _ _)
  go_enter Try.func12, Try.ntmps12
  go_wp2_with fail
  have HL := Lib.hid h2
  clear h2
  generalize ((w.alloc (.cells (ints t).toArray 26)).alloc (.cells (ints t).toArray 26)) = W at *
  go_loopw [5] (fun z wr => ∃ k : Nat, k ≤ 3 ∧ z = .int .i64 k ∧ Has wr w.heap.size t 3 ∧ Has wr (w.heap.size + 1) t 3 ∧ Hid (Kept w wr)) (fun z _ => 3 - (intOf z).toNat)
  case atStart => exact ⟨0, by omega, rfl, H1, H2, HB⟩
  case round =>
    obtain ⟨k, hk, rfl, G1, G2, GB⟩ := hrel
    by_cases h : k < 3
    · have c1 := G1.cell k h
      have c2 := G2.cell k h
      have hki : (k : Int) < 3 := by omega
      have hk0 : (0 : Int) ≤ (k : Int) := by omega
      generalize t.getD k 0 = x at *
      go_wp2_with fail
      go_quiet (fail)
      have G3 := G1.drewN nq
      have G4 := G2.drewN nq
      have GB2 := Lib.hid (GB.out.drewN nq)
      go_wp2_with fail
      go_roundw
      case rel => exact ⟨k + 1, by omega, by go_num, G3, G4, GB2⟩
      case measure => simp [intOf]; omega
    · go_wp2_with fail
      go_ret
      exact ⟨rfl, GB.out⟩


set_option maxHeartbeats 400000 in
theorem lawPourChange (ns : List Int) (i : Int) (j : Int) (w : World) (h0 : ns.length = 24 ∧ ∀ n ∈ ns, (Lit.int .i64 n).wf = true) (fi : (Lit.int .i64 i).wf = true) (fj : (Lit.int .i64 j).wf = true) :
    Calls Try.prog 3 #[row ns, .int .i64 i, .int .i64 j] w fun e w' => e = .returned (.bool true) ∧ Kept w w' := by
  have h24 := h0.1
  clear h0 fi fj
  have hl : (chgA ns i j).length = 3 := chgA_len ns i j
  have HB := Lib.hid ((kept_refl w).alloc (.cells (ints ns).toArray 25))
  have H := Has.box w 25 h24 (by omega)
  rw [row_ints]
  go_enter Try.func3, Try.ntmps3
  go_wp2_with (refine load_has rfl 25 _ rfl _ rfl ?_ 24 ?_ _ Try.underlying25 rfl ?_ ?_; rotate_left; (· (repeat (first | (with_reducible assumption) | ((with_reducible refine Has.box _ _ ?_ ?_) <;> (first | assumption | decide)) | (with_reducible refine Has.alloc ?_ _) | ((with_reducible refine Has.putOther ?_ _ _ ?_); rotate_left; omega; skip) | ((with_reducible refine Has.below ?_ ?_); rotate_left; assumption)))); (· kernel_rfl))
  refine (toRack_any ns _ h24).mono ?_
  rintro e w1 ⟨rfl, b1⟩
  have H1 := H.below b1
  have HB1 := Lib.hid (HB.out.call b1)
  clear H HB b1
  go_wp2_with fail
  refine (specChange ns i j _ h24).mono ?_
  rintro e w2 ⟨rfl, b2⟩
  have H2 := (H1.below b2).alloc (.cells (ints (chgA ns i j)).toArray 26)
  have R2 := Has.box w2 26 hl (by omega)
  have HB2 := Lib.hid ((HB1.out.call b2).alloc (.cells (ints (chgA ns i j)).toArray 26))
  clear H1 HB1 b2
  go_wp2_with (first | (refine store_new rfl 26 _ _ rfl _ _ _ rfl _ rfl _ rfl rfl ?_ ?_ ?_; (· (first | assumption | rfl)); (· kernel_rfl)) | (refine load_has rfl 25 _ rfl _ rfl ?_ 24 ?_ _ Try.underlying25 rfl ?_ ?_; rotate_left; (· (repeat (first | (with_reducible assumption) | ((with_reducible refine Has.box _ _ ?_ ?_) <;> (first | assumption | decide)) | (with_reducible refine Has.alloc ?_ _) | ((with_reducible refine Has.putOther ?_ _ _ ?_); rotate_left; omega; skip) | ((with_reducible refine Has.below ?_ ?_); rotate_left; assumption)))); (· kernel_rfl)))
  refine (toRack_any ns _ h24).mono ?_
  rintro e w3 ⟨rfl, b3⟩
  have R3 := R2.below b3
  have HB3 := Lib.hid (HB2.out.call b3)
  clear H2 R2 HB2 b3
  go_wp2_with fail
  refine (implChange ns i j _ h24).mono ?_
  rintro e w4 ⟨rfl, b4⟩
  have R4 := (R3.below b4).alloc (.cells (ints (chgA ns i j)).toArray 26)
  have Q4 := Has.box w4 26 hl (by omega)
  have HB4 := Lib.hid ((HB3.out.call b4).alloc (.cells (ints (chgA ns i j)).toArray 26))
  clear R3 HB3 b4
  go_wp2_with (first | (refine store_new rfl 26 _ _ rfl _ _ _ rfl _ rfl _ rfl rfl ?_ ?_ ?_; (· (first | assumption | rfl)); (· kernel_rfl)) | (refine load_has rfl 26 _ rfl _ rfl ?_ 3 ?_ _ Try.underlying26 rfl ?_ ?_; rotate_left; (· (repeat (first | (with_reducible assumption) | ((with_reducible refine Has.box _ _ ?_ ?_) <;> (first | assumption | decide)) | (with_reducible refine Has.alloc ?_ _) | ((with_reducible refine Has.putOther ?_ _ _ ?_); rotate_left; omega; skip) | ((with_reducible refine Has.below ?_ ?_); rotate_left; assumption)))); (· kernel_rfl)))
  refine (eqIntA3_same (chgA ns i j) _ hl).mono ?_
  rintro e w5 ⟨rfl, b5⟩
  have HB5 := Lib.hid (HB4.out.call b5)
  clear R4 Q4 HB4 b5
  go_wp2_with fail
  go_ret
  exact ⟨rfl, HB5.out⟩

end Go.Proofs.Ytmodkllhdeknoab.base
