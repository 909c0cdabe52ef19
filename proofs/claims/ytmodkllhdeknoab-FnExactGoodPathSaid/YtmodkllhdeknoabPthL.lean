/-
  The exact law of GoodPath, walked.
-/
import Derived.Test.YtmodkllhdeknoabPthI
import Derived.Test.YtmodkllhdeknoabRwL
import Derived.Test.YtmodkllhdeknoabRackOps
namespace Go.Proofs.Ytmodkllhdeknoab.base
open Go.ChangeShapes Go.WideShapes Go.ChangeAt Go.RowKit
set_option linter.unusedVariables false
set_option linter.unusedSimpArgs false

set_option maxHeartbeats 1600000 in
set_option maxRecDepth 100000 in
theorem lawGoodPath (ns : List Int) (w : World) (h0 : ns.length = 24 ∧ ∀ n ∈ ns, (Lit.int .i64 n).wf = true) :
    Calls Try.prog 5 #[row ns] w fun e w' => e = .returned (.bool true) ∧ Kept w w' := by
  have h24 := h0.1
  clear h0
  have hN := gpNA_le ns
  have hl : (gpRA ns).length = 24 := gpRA_len h24
  have HB := Lib.hid ((kept_refl w).alloc (.cells (ints ns).toArray 25))
  have H := Has.box w 25 h24 (by omega)
  rw [row_ints]
  go_enter Try.func5, Try.ntmps5
  go_wp2_with (refine load_has rfl 25 _ rfl _ rfl ?_ 24 ?_ _ Try.underlying25 rfl ?_ ?_; rotate_left; (· (repeat (first | (with_reducible assumption) | ((with_reducible refine Has.box _ _ ?_ ?_) <;> (first | assumption | decide)) | (with_reducible refine Has.alloc ?_ _) | ((with_reducible refine Has.putOther ?_ _ _ ?_); rotate_left; omega; skip) | ((with_reducible refine Has.below ?_ ?_); rotate_left; assumption)))); (· kernel_rfl))
  refine (toRack_any ns _ h24).mono ?_
  rintro e w1 ⟨rfl, b1⟩
  have H1 := H.below b1
  have HB1 := Lib.hid (HB.out.call b1)
  clear H HB b1
  go_wp2_with fail
  refine (specPath ns _ h24).mono ?_
  rintro e w2 ⟨v1, rfl, q1, b2⟩
  have H2 := (H1.below b2).alloc (.cells (ints (gpRA ns)).toArray 29)
  have W2 := Has.box w2 29 hl (by omega)
  have HB2 := Lib.hid ((HB1.out.call b2).alloc (.cells (ints (gpRA ns)).toArray 29))
  have Q1 := Lib.hid (q1.alloc (.cells (ints (gpRA ns)).toArray 29))
  clear H1 HB1 b2 q1
  go_wp2_with (first | (refine store_new rfl 29 _ _ rfl _ _ _ rfl _ rfl _ rfl rfl ?_ ?_ ?_; (· (first | assumption | rfl)); (· kernel_rfl)) | (refine load_has rfl 25 _ rfl _ rfl ?_ 24 ?_ _ Try.underlying25 rfl ?_ ?_; rotate_left; (· (repeat (first | (with_reducible assumption) | ((with_reducible refine Has.box _ _ ?_ ?_) <;> (first | assumption | decide)) | (with_reducible refine Has.alloc ?_ _) | ((with_reducible refine Has.putOther ?_ _ _ ?_); rotate_left; omega; skip) | ((with_reducible refine Has.below ?_ ?_); rotate_left; assumption)))); (· kernel_rfl)))
  refine (toRack_any ns _ h24).mono ?_
  rintro e w3 ⟨rfl, b3⟩
  have W3 := W2.below b3
  have H3 := H2.below b3
  have HB3 := Lib.hid (HB2.out.call b3)
  have Q2 := Lib.hid (Q1.out.below b3)
  clear H2 HB2 b3 Q1
  go_wp2_with fail
  refine (implPath ns _ h24).mono ?_
  rintro e w4 ⟨v2, rfl, r1, b4⟩
  have H4 := (H3.below b4).alloc (.cells (ints (gpRA ns)).toArray 29)
  have W4 := (W3.below b4).alloc (.cells (ints (gpRA ns)).toArray 29)
  have V4 := Has.box w4 29 hl (by omega)
  have HB4 := Lib.hid ((HB3.out.call b4).alloc (.cells (ints (gpRA ns)).toArray 29))
  have Q3 := Lib.hid ((Q2.out.below b4).alloc (.cells (ints (gpRA ns)).toArray 29))
  have R1 := Lib.hid (r1.alloc (.cells (ints (gpRA ns)).toArray 29))
  have LW := Lib.hid W3.lt
  have L1 := Lib.hid (fun hn k hk => (Q2.out.ownlt hn k hk).2)
  have L0 := Lib.hid H3.lt
  clear H3 HB3 b4 Q2 r1 W2 W3
  go_wp2_with (refine store_new rfl 29 _ _ rfl _ _ _ rfl _ rfl _ rfl rfl ?_ ?_ ?_; (· (first | assumption | rfl)); (· kernel_rfl))
  refine (eqRw_same v2 v1 _ _ _ _ _ (by omega) R1.out Q3.out).mono ?_
  rintro e w5 ⟨rfl, b5⟩
  have H5 := H4.below b5
  have W5 := W4.below b5
  have V5 := V4.below b5
  have HB5 := Lib.hid (HB4.out.call b5)
  have Q4 := Lib.hid (Q3.out.below b5)
  have R2 := Lib.hid (R1.out.below b5)
  clear H4 W4 V4 HB4 b5 Q3 R1
  go_wp2_with (refine load_has rfl 29 _ rfl _ rfl ?_ 24 ?_ _ Try.underlying29 rfl ?_ ?_; rotate_left; (· (repeat (first | (with_reducible assumption) | ((with_reducible refine Has.box _ _ ?_ ?_) <;> (first | assumption | decide)) | (with_reducible refine Has.alloc ?_ _) | ((with_reducible refine Has.putOther ?_ _ _ ?_); rotate_left; omega; skip) | ((with_reducible refine Has.below ?_ ?_); rotate_left; assumption)))); (· kernel_rfl))
  refine (eqRack_same (gpRA ns) _ hl).mono ?_
  rintro e w5b ⟨rfl, b5⟩
  replace H5 := H5.below b5
  replace W5 := W5.below b5
  replace HB5 := Lib.hid (HB5.out.call b5)
  replace Q4 := Lib.hid (Q4.out.below b5)
  replace R2 := Lib.hid (R2.out.below b5)
  clear V5 b5
  go_wp2_with fail
  obtain ⟨z, hz, hz0, hz1⟩ : ∃ z : Int, z = ((1 + gpNA ns * 2 : Nat) : Int) ∧ 0 ≤ z ∧ z ≤ 121 := ⟨_, rfl, by omega, by omega⟩
  have HZ := Lib.hid hz
  clear hz
  refine (markRw _ v2 (gpNA ns) 1 _ _ (by omega) (by omega) R2.out).mono ?_
  rintro e w6 ⟨rfl, m1, ⟨r6, m2, m3⟩⟩
  rw [← HZ.out]
  have R3 := Lib.hid m1
  have H6 := H5.grown m2 (fun k hk => by have := (m3 k hk).1; have := L0.out; omega)
  have HB6 : Hid (Kept w w6) := Lib.hid (HB5.out.grown m2 HB5.out.size (fun k hk => by have := (m3 k hk).1; have := L0.out; omega))
  have W6 := W5.grown m2 (fun k hk => by have := (m3 k hk).1; have := LW.out; omega)
  have Q5 := Lib.hid (Q4.out.grownP m2 (fun hn k hk => .inr (fun e => by have := L1.out hn k e; have := (m3 k hk).1; omega)))
  clear H5 W5 HB5 Q4 R2 m1 m2 m3 L0 L1 LW
  have zl : decide (z < 0) = false := by simp; omega
  go_wp2_with fail
  refine (heldRw _ v2 (gpNA ns) 1 _ _ (by omega) (by omega) R3.out).mono ?_
  rintro e w' ⟨rfl, rfl⟩
  rw [← HZ.out]
  go_wp2_with (refine load_has rfl 25 _ rfl _ rfl ?_ 24 ?_ _ Try.underlying25 rfl ?_ ?_; rotate_left; (· (repeat (first | (with_reducible assumption) | ((with_reducible refine Has.box _ _ ?_ ?_) <;> (first | assumption | decide)) | (with_reducible refine Has.alloc ?_ _) | ((with_reducible refine Has.putOther ?_ _ _ ?_); rotate_left; omega; skip) | ((with_reducible refine Has.below ?_ ?_); rotate_left; assumption)))); (· kernel_rfl))
  refine (toRack_any ns _ h24).mono ?_
  rintro e w7 ⟨rfl, b7⟩
  have W7 := W6.below b7
  have HB7 := Lib.hid (HB6.out.call b7)
  have Q6 := Lib.hid (Q5.out.below b7)
  have R4 := Lib.hid (R3.out.below b7)
  clear H6 W6 HB6 b7 Q5 R3
  go_wp2_with fail
  refine (implPath ns _ h24).mono ?_
  rintro e w8 ⟨v3, rfl, t1, b8⟩
  have W8 := (W7.below b8).alloc (.cells (ints (gpRA ns)).toArray 29)
  have V8 := Has.box w8 29 hl (by omega)
  have HB8 := Lib.hid ((HB7.out.call b8).alloc (.cells (ints (gpRA ns)).toArray 29))
  have Q7 := Lib.hid ((Q6.out.below b8).alloc (.cells (ints (gpRA ns)).toArray 29))
  have R5 := Lib.hid ((R4.out.below b8).alloc (.cells (ints (gpRA ns)).toArray 29))
  have T1 := Lib.hid (t1.alloc (.cells (ints (gpRA ns)).toArray 29))
  clear W7 HB7 b8 Q6 R4 t1
  go_wp2_with (refine store_new rfl 29 _ _ rfl _ _ _ rfl _ rfl _ rfl rfl ?_ ?_ ?_; (· (first | assumption | rfl)); (· kernel_rfl))
  refine (eqRw_same v3 v1 _ _ _ _ _ (by omega) T1.out Q7.out).mono ?_
  rintro e w9 ⟨rfl, b9⟩
  have W9 := W8.below b9
  have V9 := V8.below b9
  have HB9 := Lib.hid (HB8.out.call b9)
  have R6 := Lib.hid (R5.out.below b9)
  clear W8 V8 HB8 b9 Q7 R5 T1
  go_wp2_with (refine load_has rfl 29 _ rfl _ rfl ?_ 24 ?_ _ Try.underlying29 rfl ?_ ?_; rotate_left; (· (repeat (first | (with_reducible assumption) | ((with_reducible refine Has.box _ _ ?_ ?_) <;> (first | assumption | decide)) | (with_reducible refine Has.alloc ?_ _) | ((with_reducible refine Has.putOther ?_ _ _ ?_); rotate_left; omega; skip) | ((with_reducible refine Has.below ?_ ?_); rotate_left; assumption)))); (· kernel_rfl))
  refine (eqRack_same (gpRA ns) _ hl).mono ?_
  rintro e w9b ⟨rfl, b9⟩
  replace HB9 := Lib.hid (HB9.out.call b9)
  replace R6 := Lib.hid (R6.out.below b9)
  clear W9 V9 b9
  go_wp2_with fail
  refine (heldRw _ v2 (gpNA ns) 1 _ _ (by omega) (by omega) R6.out).mono ?_
  rintro e w' ⟨rfl, rfl⟩
  rw [← HZ.out]
  go_wp2_with fail
  go_ret
  exact ⟨rfl, HB9.out⟩
end Go.Proofs.Ytmodkllhdeknoab.base
