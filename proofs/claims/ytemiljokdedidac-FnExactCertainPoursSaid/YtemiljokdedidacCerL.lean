/-
  The exact law of CertainPours, walked.
-/
import Derived.Test.YtemiljokdedidacCtWZ
import Derived.Test.YtemiljokdedidacRwZ
import Derived.Test.YtemiljokdedidacSixVZ
namespace Go.Proofs.Ytemiljokdedidac.base
open Go.ChangeShapes Go.WideShapes Go.ChangeAt Go.RowKit
set_option linter.unusedVariables false
set_option linter.unusedSimpArgs false

theorem cerN_le (vs : List Int) : cerN vs ≤ 36 := by
  unfold cerN
  split
  · exact Nat.le_trans (filtN_le _) (poursNA_le _)
  · omega
set_option maxHeartbeats 1600000 in
set_option maxRecDepth 100000 in
theorem lawCertainPours (vs : List Int) (w : World) (h0 : vs.length = 18 ∧ ∀ n ∈ vs, (Lit.int .i64 n).wf = true) :
    Calls Try.prog 3 #[row vs] w fun e w' => e = .returned (.bool true) ∧ Kept w w' := by
  obtain ⟨h, hw⟩ := h0
  have hN := cerN_le vs
  have KS := Lib.hid (fun W => specCer vs W h hw)
  clear hw
  have HB := Lib.hid ((kept_refl w).alloc (.cells (ints vs).toArray 24))
  have H := Has.box w 24 h (by omega)
  rw [row_ints]
  go_enter Try.func3, Try.ntmps3
  go_wp2_with (refine load_has rfl 24 _ rfl _ rfl ?_ 18 ?_ _ Try.underlying24 rfl ?_ ?_; rotate_left; (· (repeat (first | (with_reducible assumption) | ((with_reducible refine Has.box _ _ ?_ ?_) <;> (first | assumption | decide)) | (with_reducible refine Has.alloc ?_ _) | ((with_reducible refine Has.putOther ?_ _ _ ?_); rotate_left; omega; skip) | ((with_reducible refine Has.below ?_ ?_); rotate_left; assumption)))); (· kernel_rfl))
  refine (toView_any vs _ h).mono ?_
  rintro e w1 ⟨rfl, b1⟩
  have H1 := H.below b1
  have HB1 := Lib.hid (HB.out.call b1)
  clear H HB b1
  go_wp2_with fail
  refine (KS.out _).mono ?_
  rintro e w2 ⟨v1, rfl, q1, b2⟩
  have H2 := H1.below b2
  have HB2 := Lib.hid (HB1.out.call b2)
  have Q1 := Lib.hid q1
  clear H1 HB1 b2 q1
  go_wp2_with (refine load_has rfl 24 _ rfl _ rfl ?_ 18 ?_ _ Try.underlying24 rfl ?_ ?_; rotate_left; (· (repeat (first | (with_reducible assumption) | ((with_reducible refine Has.box _ _ ?_ ?_) <;> (first | assumption | decide)) | (with_reducible refine Has.alloc ?_ _) | ((with_reducible refine Has.putOther ?_ _ _ ?_); rotate_left; omega; skip) | ((with_reducible refine Has.below ?_ ?_); rotate_left; assumption)))); (· kernel_rfl))
  refine (toView_any vs _ h).mono ?_
  rintro e w3 ⟨rfl, b3⟩
  have H3 := H2.below b3
  have HB3 := Lib.hid (HB2.out.call b3)
  have Q2 := Lib.hid (Q1.out.below b3)
  clear H2 HB2 b3 Q1
  go_wp2_with fail
  refine (implCer vs _ h).mono ?_
  rintro e w4 ⟨v2, rfl, r1, b4⟩
  have H4 := H3.below b4
  have HB4 := Lib.hid (HB3.out.call b4)
  have Q3 := Lib.hid (Q2.out.below b4)
  have R1 := Lib.hid r1
  have L1 := Lib.hid (fun hn k hk => (Q2.out.ownlt hn k hk).2)
  have L0 := Lib.hid H3.lt
  clear H3 HB3 b4 Q2 r1
  go_wp2_with fail
  refine (eqRw_same v2 v1 _ _ _ _ _ (by omega) R1.out Q3.out).mono ?_
  rintro e w5 ⟨rfl, b5⟩
  have H5 := H4.below b5
  have HB5 := Lib.hid (HB4.out.call b5)
  have Q4 := Lib.hid (Q3.out.below b5)
  have R2 := Lib.hid (R1.out.below b5)
  clear H4 HB4 b5 Q3 R1
  go_wp2_with fail
  obtain ⟨z, hz, hz0, hz1⟩ : ∃ z : Int, z = ((1 + cerN vs * 2 : Nat) : Int) ∧ 0 ≤ z ∧ z ≤ 99 := ⟨_, rfl, by omega, by omega⟩
  have HZ := Lib.hid hz
  clear hz
  refine (markRw _ v2 (cerN vs) 1 _ _ (by omega) (by omega) R2.out).mono ?_
  rintro e w6 ⟨rfl, m1, ⟨r6, m2, m3⟩⟩
  rw [← HZ.out]
  have R3 := Lib.hid m1
  have H6 := H5.grown m2 (fun k hk => by have := (m3 k hk).1; have := L0.out; omega)
  have HB6 : Hid (Kept w w6) := Lib.hid (HB5.out.grown m2 HB5.out.size (fun k hk => by have := (m3 k hk).1; have := L0.out; omega))
  have Q5 := Lib.hid (Q4.out.grownP m2 (fun hn k hk => .inr (fun e => by have := L1.out hn k e; have := (m3 k hk).1; omega)))
  clear H5 HB5 Q4 R2 m1 m2 m3 L0 L1
  have zl : decide (z < 0) = false := by simp; omega
  go_wp2_with fail
  refine (heldRw _ v2 (cerN vs) 1 _ _ (by omega) (by omega) R3.out).mono ?_
  rintro e w' ⟨rfl, rfl⟩
  rw [← HZ.out]
  go_wp2_with (refine load_has rfl 24 _ rfl _ rfl ?_ 18 ?_ _ Try.underlying24 rfl ?_ ?_; rotate_left; (· (repeat (first | (with_reducible assumption) | ((with_reducible refine Has.box _ _ ?_ ?_) <;> (first | assumption | decide)) | (with_reducible refine Has.alloc ?_ _) | ((with_reducible refine Has.putOther ?_ _ _ ?_); rotate_left; omega; skip) | ((with_reducible refine Has.below ?_ ?_); rotate_left; assumption)))); (· kernel_rfl))
  refine (toView_any vs _ h).mono ?_
  rintro e w7 ⟨rfl, b7⟩
  have HB7 := Lib.hid (HB6.out.call b7)
  have Q6 := Lib.hid (Q5.out.below b7)
  have R4 := Lib.hid (R3.out.below b7)
  clear H6 HB6 b7 Q5 R3
  go_wp2_with fail
  refine (implCer vs _ h).mono ?_
  rintro e w8 ⟨v3, rfl, t1, b8⟩
  have HB8 := Lib.hid (HB7.out.call b8)
  have Q7 := Lib.hid (Q6.out.below b8)
  have R5 := Lib.hid (R4.out.below b8)
  have T1 := Lib.hid t1
  clear HB7 b8 Q6 R4 t1
  go_wp2_with fail
  refine (eqRw_same v3 v1 _ _ _ _ _ (by omega) T1.out Q7.out).mono ?_
  rintro e w9 ⟨rfl, b9⟩
  have HB9 := Lib.hid (HB8.out.call b9)
  have R6 := Lib.hid (R5.out.below b9)
  clear HB8 b9 Q7 R5 T1
  go_wp2_with fail
  refine (heldRw _ v2 (cerN vs) 1 _ _ (by omega) (by omega) R6.out).mono ?_
  rintro e w' ⟨rfl, rfl⟩
  rw [← HZ.out]
  go_wp2_with fail
  go_ret
  exact ⟨rfl, HB9.out⟩
end Go.Proofs.Ytemiljokdedidac.base
