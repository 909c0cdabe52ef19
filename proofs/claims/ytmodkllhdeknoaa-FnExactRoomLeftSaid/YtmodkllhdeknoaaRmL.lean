/-
  The exact law of RoomLeft, walked.
-/
import Derived.Test.YtmodkllhdeknoaaRmI
import Derived.Test.YtmodkllhdeknoaaNuHeld
import Derived.Test.YtmodkllhdeknoaaRackTo
namespace Go.Proofs.Ytmodkllhdeknoaa.base
open Go.ChangeShapes Go.WideShapes Go.ChangeAt Go.RowKit
set_option linter.unusedVariables false
set_option linter.unusedSimpArgs false

set_option maxHeartbeats 1600000 in
set_option maxRecDepth 100000 in
theorem lawRoomLeft (ns : List Int) (w : World) (h0 : ns.length = 24 ∧ ∀ n ∈ ns, (Lit.int .i64 n).wf = true) :
    Calls Try.prog 9 #[row ns] w fun e w' => e = .returned (.bool true) ∧ Kept w w' := by
  have h24 := h0.1
  clear h0
  have HB := Lib.hid ((kept_refl w).alloc (.cells (ints ns).toArray 25))
  have H := Has.box w 25 h24 (by omega)
  have hN := roomN_le ns
  generalize hAN : roomN ns = N at *
  generalize hAF : roomF ns = A at *
  have HAN := Lib.hid hAN
  have HAF := Lib.hid hAF
  clear hAN hAF
  rw [row_ints]
  go_enter Try.func9, Try.ntmps9
  go_wp2_with (refine load_has rfl 25 _ rfl _ rfl ?_ 24 ?_ _ Try.underlying25 rfl ?_ ?_; rotate_left; (· (repeat (first | (with_reducible assumption) | ((with_reducible refine Has.box _ _ ?_ ?_) <;> (first | assumption | decide)) | (with_reducible refine Has.alloc ?_ _) | ((with_reducible refine Has.putOther ?_ _ _ ?_); rotate_left; omega; skip) | ((with_reducible refine Has.below ?_ ?_); rotate_left; assumption)))); (· kernel_rfl))
  refine (toRack_any ns _ h24).mono ?_
  rintro e w1 ⟨rfl, b1⟩
  replace H := H.below b1
  replace HB := Lib.hid (HB.out.call b1)
  clear b1
  go_wp2_with fail
  refine (specRoom ns _ h24).mono ?_
  rintro e w3 ⟨v3, rfl, q3, b3⟩
  rw [HAN.out, HAF.out] at q3
  replace H := H.below b3
  replace HB := Lib.hid (HB.out.call b3)
  have Q3 := Lib.hid q3
  clear b3 q3
  have own3 := Lib.hid (fun k hk => (Q3.out.own k hk).2)
  have lH := Lib.hid H.lt
  have hs3 := Lib.hid HB.out.size
  go_wp2_with (refine load_has rfl 25 _ rfl _ rfl ?_ 24 ?_ _ Try.underlying25 rfl ?_ ?_; rotate_left; (· (repeat (first | (with_reducible assumption) | ((with_reducible refine Has.box _ _ ?_ ?_) <;> (first | assumption | decide)) | (with_reducible refine Has.alloc ?_ _) | ((with_reducible refine Has.putOther ?_ _ _ ?_); rotate_left; omega; skip) | ((with_reducible refine Has.below ?_ ?_); rotate_left; assumption)))); (· kernel_rfl))
  refine (toRack_any ns _ h24).mono ?_
  rintro e w5 ⟨rfl, b5⟩
  have hs5 := Lib.hid b5.size
  replace H := H.below b5
  replace HB := Lib.hid (HB.out.call b5)
  replace Q3 := Lib.hid (Q3.out.below b5)
  clear b5
  go_wp2_with fail
  refine (implRoom ns _ h24).mono ?_
  rintro e w6 ⟨v6, rfl, q6, b6⟩
  rw [HAN.out, HAF.out] at q6
  replace H := H.below b6
  replace HB := Lib.hid (HB.out.call b6)
  replace Q3 := Lib.hid (Q3.out.below b6)
  have own6 := Lib.hid (fun k hk => (q6.own k hk).1)
  have Q6 := Lib.hid q6
  clear b6 q6
  go_wp2_with fail
  refine (eqIntS_same v6 v3 _ _ N A _ (by omega) Q6.out Q3.out).mono ?_
  rintro e w7 ⟨rfl, b7⟩
  replace H := H.below b7
  replace HB := Lib.hid (HB.out.call b7)
  replace Q3 := Lib.hid (Q3.out.below b7)
  replace Q6 := Lib.hid (Q6.out.below b7)
  clear b7
  go_wp2_with fail
  obtain ⟨z, hz, hz0, hz1⟩ : ∃ z : Int, z = ((1 + N : Nat) : Int) ∧ 0 ≤ z ∧ z ≤ 99 := ⟨_, rfl, by omega, by omega⟩
  have HZ := Lib.hid hz
  clear hz
  refine (markIntS_any _ v6 N 1 _ _ (by omega) (by omega) Q6.out).mono ?_
  rintro e wc ⟨rfl, n1, n2⟩
  rw [← HZ.out]
  replace H := H.grown n2 (fun k hk => by have := own6.out k hk; have := lH.out; have := hs5.out; omega)
  replace HB := Lib.hid (show Kept w wc from HB.out.grown n2 HB.out.size (fun k hk => by have := own6.out k hk; have := hs3.out; have := hs5.out; omega))
  replace Q3 := Lib.hid (Q3.out.grownP n2 (fun k hk => .inr (fun e => by have := own6.out k hk; have := own3.out k e; have := hs5.out; omega)))
  have R6 := Lib.hid n1
  clear n1 n2 Q6 own6
  have zl : decide (z < 0) = false := by simp; omega
  go_wp2_with fail
  refine (heldIntS_any _ v6 N 1 _ _ (by omega) (by omega) R6.out).mono ?_
  rintro e w' ⟨rfl, rfl⟩
  rw [← HZ.out]
  go_wp2_with (refine load_has rfl 25 _ rfl _ rfl ?_ 24 ?_ _ Try.underlying25 rfl ?_ ?_; rotate_left; (· (repeat (first | (with_reducible assumption) | ((with_reducible refine Has.box _ _ ?_ ?_) <;> (first | assumption | decide)) | (with_reducible refine Has.alloc ?_ _) | ((with_reducible refine Has.putOther ?_ _ _ ?_); rotate_left; omega; skip) | ((with_reducible refine Has.below ?_ ?_); rotate_left; assumption)))); (· kernel_rfl))
  refine (toRack_any ns _ h24).mono ?_
  rintro e wd ⟨rfl, bd⟩
  replace HB := Lib.hid (HB.out.call bd)
  replace Q3 := Lib.hid (Q3.out.below bd)
  replace R6 := Lib.hid (R6.out.below bd)
  clear bd H
  go_wp2_with fail
  refine (implRoom ns _ h24).mono ?_
  rintro e wf ⟨vf, rfl, qf, bf⟩
  rw [HAN.out, HAF.out] at qf
  replace HB := Lib.hid (HB.out.call bf)
  replace Q3 := Lib.hid (Q3.out.below bf)
  replace R6 := Lib.hid (R6.out.below bf)
  have Qf := Lib.hid qf
  clear bf qf
  go_wp2_with fail
  refine (eqIntS_same vf v3 _ _ N A _ (by omega) Qf.out Q3.out).mono ?_
  rintro e wg ⟨rfl, bg⟩
  replace HB := Lib.hid (HB.out.call bg)
  replace R6 := Lib.hid (R6.out.below bg)
  clear bg Qf Q3
  go_wp2_with fail
  refine (heldIntS_any _ v6 N 1 _ _ (by omega) (by omega) R6.out).mono ?_
  rintro e w' ⟨rfl, rfl⟩
  rw [← HZ.out]
  go_wp2_with fail
  go_ret
  exact ⟨rfl, HB.out⟩
end Go.Proofs.Ytmodkllhdeknoaa.base
