/-
  The exact laws of IsLost, CompleteTubes, CountReplies and CanHurt, walked.
-/
import Derived.Test.YtpbfdjiglacbbabGmU
import Derived.Test.YtpbfdjiglacbbabNuHeld
import Derived.Test.YtpbfdjiglacbbabRackTo
import Derived.Test.YtpbfdjiglacbbabPrsL
import Derived.Test.YtpbfdjiglacbbabPrsE
namespace Go.Proofs.Ytpbfdjiglacbbab.base
open Go.ChangeShapes Go.WideShapes Go.ChangeAt Go.RowKit
set_option linter.unusedVariables false
set_option linter.unusedSimpArgs false

theorem lawIsLost (ns : List Int) (w : World) (h0 : ns.length = 24 ∧ ∀ n ∈ ns, (Lit.int .i64 n).wf = true) :
    Calls Try.prog 3 #[row ns] w fun e w' => e = .returned (.bool true) ∧ Kept w w' := by
  have h24 := h0.1
  clear h0
  have HB := Lib.hid ((kept_refl w).alloc (.cells (ints ns).toArray 25))
  have H := Has.box w 25 h24 (by omega)
  rw [row_ints]
  go_enter Try.func3, Try.ntmps3
  go_wp2_with (refine load_has rfl 25 _ rfl _ rfl ?_ 24 ?_ _ Try.underlying25 rfl ?_ ?_; rotate_left; (· (repeat (first | (with_reducible assumption) | ((with_reducible refine Has.box _ _ ?_ ?_) <;> (first | assumption | decide)) | (with_reducible refine Has.alloc ?_ _) | ((with_reducible refine Has.putOther ?_ _ _ ?_); rotate_left; omega; skip) | ((with_reducible refine Has.below ?_ ?_); rotate_left; assumption)))); (· kernel_rfl))
  refine (toRack_any ns _ h24).mono ?_
  rintro e w1 ⟨rfl, b1⟩
  have H1 := H.below b1
  have HB1 := Lib.hid (HB.out.call b1)
  clear H HB b1
  go_wp2_with fail
  refine (specLost ns _ h24).mono ?_
  rintro e w2 ⟨rfl, b2⟩
  have H2 := H1.below b2
  have HB2 := Lib.hid (HB1.out.call b2)
  clear H1 HB1 b2
  go_wp2_with (refine load_has rfl 25 _ rfl _ rfl ?_ 24 ?_ _ Try.underlying25 rfl ?_ ?_; rotate_left; (· (repeat (first | (with_reducible assumption) | ((with_reducible refine Has.box _ _ ?_ ?_) <;> (first | assumption | decide)) | (with_reducible refine Has.alloc ?_ _) | ((with_reducible refine Has.putOther ?_ _ _ ?_); rotate_left; omega; skip) | ((with_reducible refine Has.below ?_ ?_); rotate_left; assumption)))); (· kernel_rfl))
  refine (toRack_any ns _ h24).mono ?_
  rintro e w3 ⟨rfl, b3⟩
  have HB3 := Lib.hid (HB2.out.call b3)
  clear H2 HB2 b3
  go_wp2_with fail
  refine (implLost ns _ h24).mono ?_
  rintro e w4 ⟨rfl, b4⟩
  have HB4 := Lib.hid (HB3.out.call b4)
  clear HB3 b4
  go_wp2_with fail
  go_ret
  exact ⟨rfl, HB4.out⟩

set_option maxHeartbeats 1600000 in
set_option maxRecDepth 100000 in
theorem lawCompleteTubes (ns : List Int) (w : World) (h0 : ns.length = 24 ∧ ∀ n ∈ ns, (Lit.int .i64 n).wf = true) :
    Calls Try.prog 4 #[row ns] w fun e w' => e = .returned (.bool true) ∧ Kept w w' := by
  have h24 := h0.1
  clear h0
  have HB := Lib.hid ((kept_refl w).alloc (.cells (ints ns).toArray 25))
  have H := Has.box w 25 h24 (by omega)
  have hN : (cmFA ns).length ≤ 6 := by unfold cmFA; split; exact cmpl_le ns 6; simp
  obtain ⟨A, hAF⟩ : ∃ A, cmFA ns = A := ⟨_, rfl⟩
  have HAF := Lib.hid hAF
  rw [hAF] at hN
  obtain ⟨N, hAN⟩ : ∃ N, A.length = N := ⟨_, rfl⟩
  have HAN := Lib.hid hAN
  rw [hAN] at hN
  clear hAN hAF
  rw [row_ints]
  go_enter Try.func4, Try.ntmps4
  go_wp2_with (refine load_has rfl 25 _ rfl _ rfl ?_ 24 ?_ _ Try.underlying25 rfl ?_ ?_; rotate_left; (· (repeat (first | (with_reducible assumption) | ((with_reducible refine Has.box _ _ ?_ ?_) <;> (first | assumption | decide)) | (with_reducible refine Has.alloc ?_ _) | ((with_reducible refine Has.putOther ?_ _ _ ?_); rotate_left; omega; skip) | ((with_reducible refine Has.below ?_ ?_); rotate_left; assumption)))); (· kernel_rfl))
  refine (toRack_any ns _ h24).mono ?_
  rintro e w1 ⟨rfl, b1⟩
  replace H := H.below b1
  replace HB := Lib.hid (HB.out.call b1)
  clear b1
  go_wp2_with fail
  refine (specComplete ns _ h24).mono ?_
  rintro e w3 ⟨v3, rfl, q3, b3⟩
  rw [HAF.out, HAN.out] at q3
  replace H := H.below b3
  replace HB := Lib.hid (HB.out.call b3)
  have Q3 := Lib.hid q3
  clear b3 q3
  have own3 := Lib.hid (fun k hk => (Q3.out.own k hk).2)
  have lH := Lib.hid H.lt
  have hs3 := Lib.hid HB.out.size
  go_wp2_with (refine load_has rfl 25 _ rfl _ rfl ?_ 24 ?_ _ Try.underlying25 rfl ?_ ?_; rotate_left; (· (repeat (first | (with_reducible assumption) | ((with_reducible refine Has.box _ _ ?_ ?_) <;> (first | assumption | decide)) | (with_reducible refine Has.alloc ?_ _) | ((with_reducible refine Has.putOther ?_ _ _ ?_); rotate_left; omega; skip) | ((with_reducible refine Has.below ?_ ?_); rotate_left; assumption)))); (· kernel_rfl))
  refine (toRack_any ns _ h24).mono ?_
  rintro e w5 ⟨rfl, b5⟩
  have hs5 := Lib.hid b5.size
  replace H := H.below b5
  replace HB := Lib.hid (HB.out.call b5)
  replace Q3 := Lib.hid (Q3.out.below b5)
  clear b5
  go_wp2_with fail
  refine (implComplete ns _ h24).mono ?_
  rintro e w6 ⟨v6, rfl, q6, b6⟩
  rw [HAF.out, HAN.out] at q6
  replace H := H.below b6
  replace HB := Lib.hid (HB.out.call b6)
  replace Q3 := Lib.hid (Q3.out.below b6)
  have own6 := Lib.hid (fun k hk => (q6.own k hk).1)
  have Q6 := Lib.hid q6
  clear b6 q6
  go_wp2_with fail
  refine (eqIntS_same v6 v3 _ _ N A _ (by omega) Q6.out Q3.out).mono ?_
  rintro e w7 ⟨rfl, b7⟩
  replace H := H.below b7
  replace HB := Lib.hid (HB.out.call b7)
  replace Q3 := Lib.hid (Q3.out.below b7)
  replace Q6 := Lib.hid (Q6.out.below b7)
  clear b7
  go_wp2_with fail
  obtain ⟨z, hz, hz0, hz1⟩ : ∃ z : Int, z = ((1 + N : Nat) : Int) ∧ 0 ≤ z ∧ z ≤ 99 := ⟨_, rfl, by omega, by omega⟩
  have HZ := Lib.hid hz
  clear hz
  refine (markIntS_any _ v6 N 1 _ _ (by omega) (by omega) Q6.out).mono ?_
  rintro e wc ⟨rfl, n1, n2⟩
  rw [← HZ.out]
  replace H := H.grown n2 (fun k hk => by have := own6.out k hk; have := lH.out; have := hs5.out; omega)
  replace HB := Lib.hid (show Kept w wc from HB.out.grown n2 HB.out.size (fun k hk => by have := own6.out k hk; have := hs3.out; have := hs5.out; omega))
  replace Q3 := Lib.hid (Q3.out.grownP n2 (fun k hk => .inr (fun e => by have := own6.out k hk; have := own3.out k e; have := hs5.out; omega)))
  have R6 := Lib.hid n1
  clear n1 n2 Q6 own6
  have zl : decide (z < 0) = false := by simp; omega
  go_wp2_with fail
  refine (heldIntS_any _ v6 N 1 _ _ (by omega) (by omega) R6.out).mono ?_
  rintro e w' ⟨rfl, rfl⟩
  rw [← HZ.out]
  go_wp2_with (refine load_has rfl 25 _ rfl _ rfl ?_ 24 ?_ _ Try.underlying25 rfl ?_ ?_; rotate_left; (· (repeat (first | (with_reducible assumption) | ((with_reducible refine Has.box _ _ ?_ ?_) <;> (first | assumption | decide)) | (with_reducible refine Has.alloc ?_ _) | ((with_reducible refine Has.putOther ?_ _ _ ?_); rotate_left; omega; skip) | ((with_reducible refine Has.below ?_ ?_); rotate_left; assumption)))); (· kernel_rfl))
  refine (toRack_any ns _ h24).mono ?_
  rintro e wd ⟨rfl, bd⟩
  replace HB := Lib.hid (HB.out.call bd)
  replace Q3 := Lib.hid (Q3.out.below bd)
  replace R6 := Lib.hid (R6.out.below bd)
  clear bd H
  go_wp2_with fail
  refine (implComplete ns _ h24).mono ?_
  rintro e wf ⟨vf, rfl, qf, bf⟩
  rw [HAF.out, HAN.out] at qf
  replace HB := Lib.hid (HB.out.call bf)
  replace Q3 := Lib.hid (Q3.out.below bf)
  replace R6 := Lib.hid (R6.out.below bf)
  have Qf := Lib.hid qf
  clear bf qf
  go_wp2_with fail
  refine (eqIntS_same vf v3 _ _ N A _ (by omega) Qf.out Q3.out).mono ?_
  rintro e wg ⟨rfl, bg⟩
  replace HB := Lib.hid (HB.out.call bg)
  replace R6 := Lib.hid (R6.out.below bg)
  clear bg Qf Q3
  go_wp2_with fail
  refine (heldIntS_any _ v6 N 1 _ _ (by omega) (by omega) R6.out).mono ?_
  rintro e w' ⟨rfl, rfl⟩
  rw [← HZ.out]
  go_wp2_with fail
  go_ret
  exact ⟨rfl, HB.out⟩

set_option maxHeartbeats 1600000 in
set_option maxRecDepth 100000 in
theorem lawCountReplies (ns : List Int) (w : World) (h0 : ns.length = 24 ∧ ∀ n ∈ ns, (Lit.int .i64 n).wf = true) :
    Calls Try.prog 7 #[row ns] w fun e w' => e = .returned (.bool true) ∧ Kept w w' := by
  have h24 := h0.1
  clear h0
  have HB := Lib.hid ((kept_refl w).alloc (.cells (ints ns).toArray 25))
  have H := Has.box w 25 h24 (by omega)
  have hN := use30 ns
  obtain ⟨A, hAF⟩ : ∃ A, replF ns (usefNA ns) = A := ⟨_, rfl⟩
  have HAF := Lib.hid hAF
  obtain ⟨N, hAN⟩ : ∃ N, usefNA ns = N := ⟨_, rfl⟩
  have HAN := Lib.hid hAN
  rw [hAN] at hN
  clear hAN hAF
  rw [row_ints]
  go_enter Try.func7, Try.ntmps7
  go_wp2_with (refine load_has rfl 25 _ rfl _ rfl ?_ 24 ?_ _ Try.underlying25 rfl ?_ ?_; rotate_left; (· (repeat (first | (with_reducible assumption) | ((with_reducible refine Has.box _ _ ?_ ?_) <;> (first | assumption | decide)) | (with_reducible refine Has.alloc ?_ _) | ((with_reducible refine Has.putOther ?_ _ _ ?_); rotate_left; omega; skip) | ((with_reducible refine Has.below ?_ ?_); rotate_left; assumption)))); (· kernel_rfl))
  refine (toRack_any ns _ h24).mono ?_
  rintro e w1 ⟨rfl, b1⟩
  replace H := H.below b1
  replace HB := Lib.hid (HB.out.call b1)
  clear b1
  go_wp2_with fail
  refine (specReplies ns _ h24).mono ?_
  rintro e w3 ⟨v3, rfl, q3, b3⟩
  rw [HAF.out, HAN.out] at q3
  replace H := H.below b3
  replace HB := Lib.hid (HB.out.call b3)
  have Q3 := Lib.hid q3
  clear b3 q3
  have own3 := Lib.hid (fun k hk => (Q3.out.own k hk).2)
  have lH := Lib.hid H.lt
  have hs3 := Lib.hid HB.out.size
  go_wp2_with (refine load_has rfl 25 _ rfl _ rfl ?_ 24 ?_ _ Try.underlying25 rfl ?_ ?_; rotate_left; (· (repeat (first | (with_reducible assumption) | ((with_reducible refine Has.box _ _ ?_ ?_) <;> (first | assumption | decide)) | (with_reducible refine Has.alloc ?_ _) | ((with_reducible refine Has.putOther ?_ _ _ ?_); rotate_left; omega; skip) | ((with_reducible refine Has.below ?_ ?_); rotate_left; assumption)))); (· kernel_rfl))
  refine (toRack_any ns _ h24).mono ?_
  rintro e w5 ⟨rfl, b5⟩
  have hs5 := Lib.hid b5.size
  replace H := H.below b5
  replace HB := Lib.hid (HB.out.call b5)
  replace Q3 := Lib.hid (Q3.out.below b5)
  clear b5
  go_wp2_with fail
  refine (implReplies ns _ h24).mono ?_
  rintro e w6 ⟨v6, rfl, q6, b6⟩
  rw [HAF.out, HAN.out] at q6
  replace H := H.below b6
  replace HB := Lib.hid (HB.out.call b6)
  replace Q3 := Lib.hid (Q3.out.below b6)
  have own6 := Lib.hid (fun k hk => (q6.own k hk).1)
  have Q6 := Lib.hid q6
  clear b6 q6
  go_wp2_with fail
  refine (eqIntS_same v6 v3 _ _ N A _ (by omega) Q6.out Q3.out).mono ?_
  rintro e w7 ⟨rfl, b7⟩
  replace H := H.below b7
  replace HB := Lib.hid (HB.out.call b7)
  replace Q3 := Lib.hid (Q3.out.below b7)
  replace Q6 := Lib.hid (Q6.out.below b7)
  clear b7
  go_wp2_with fail
  obtain ⟨z, hz, hz0, hz1⟩ : ∃ z : Int, z = ((1 + N : Nat) : Int) ∧ 0 ≤ z ∧ z ≤ 99 := ⟨_, rfl, by omega, by omega⟩
  have HZ := Lib.hid hz
  clear hz
  refine (markIntS_any _ v6 N 1 _ _ (by omega) (by omega) Q6.out).mono ?_
  rintro e wc ⟨rfl, n1, n2⟩
  rw [← HZ.out]
  replace H := H.grown n2 (fun k hk => by have := own6.out k hk; have := lH.out; have := hs5.out; omega)
  replace HB := Lib.hid (show Kept w wc from HB.out.grown n2 HB.out.size (fun k hk => by have := own6.out k hk; have := hs3.out; have := hs5.out; omega))
  replace Q3 := Lib.hid (Q3.out.grownP n2 (fun k hk => .inr (fun e => by have := own6.out k hk; have := own3.out k e; have := hs5.out; omega)))
  have R6 := Lib.hid n1
  clear n1 n2 Q6 own6
  have zl : decide (z < 0) = false := by simp; omega
  go_wp2_with fail
  refine (heldIntS_any _ v6 N 1 _ _ (by omega) (by omega) R6.out).mono ?_
  rintro e w' ⟨rfl, rfl⟩
  rw [← HZ.out]
  go_wp2_with (refine load_has rfl 25 _ rfl _ rfl ?_ 24 ?_ _ Try.underlying25 rfl ?_ ?_; rotate_left; (· (repeat (first | (with_reducible assumption) | ((with_reducible refine Has.box _ _ ?_ ?_) <;> (first | assumption | decide)) | (with_reducible refine Has.alloc ?_ _) | ((with_reducible refine Has.putOther ?_ _ _ ?_); rotate_left; omega; skip) | ((with_reducible refine Has.below ?_ ?_); rotate_left; assumption)))); (· kernel_rfl))
  refine (toRack_any ns _ h24).mono ?_
  rintro e wd ⟨rfl, bd⟩
  replace HB := Lib.hid (HB.out.call bd)
  replace Q3 := Lib.hid (Q3.out.below bd)
  replace R6 := Lib.hid (R6.out.below bd)
  clear bd H
  go_wp2_with fail
  refine (implReplies ns _ h24).mono ?_
  rintro e wf ⟨vf, rfl, qf, bf⟩
  rw [HAF.out, HAN.out] at qf
  replace HB := Lib.hid (HB.out.call bf)
  replace Q3 := Lib.hid (Q3.out.below bf)
  replace R6 := Lib.hid (R6.out.below bf)
  have Qf := Lib.hid qf
  clear bf qf
  go_wp2_with fail
  refine (eqIntS_same vf v3 _ _ N A _ (by omega) Qf.out Q3.out).mono ?_
  rintro e wg ⟨rfl, bg⟩
  replace HB := Lib.hid (HB.out.call bg)
  replace R6 := Lib.hid (R6.out.below bg)
  clear bg Qf Q3
  go_wp2_with fail
  refine (heldIntS_any _ v6 N 1 _ _ (by omega) (by omega) R6.out).mono ?_
  rintro e w' ⟨rfl, rfl⟩
  rw [← HZ.out]
  go_wp2_with fail
  go_ret
  exact ⟨rfl, HB.out⟩

set_option maxHeartbeats 1600000 in
set_option maxRecDepth 100000 in
theorem lawCanHurt (ns : List Int) (w : World) (h0 : ns.length = 24 ∧ ∀ n ∈ ns, (Lit.int .i64 n).wf = true) :
    Calls Try.prog 6 #[row ns] w fun e w' => e = .returned (.bool true) ∧ Kept w w' := by
  have h24 := h0.1
  clear h0
  have N30 := use30 ns
  have hN := (hur_le ns (usefNA ns)).1
  generalize hAN : hurN ns (usefNA ns) = N at *
  generalize hAF : hurF ns (usefNA ns) = A at *
  have HAN := Lib.hid hAN
  have HAF := Lib.hid hAF
  clear hAN hAF
  have HB := Lib.hid ((kept_refl w).alloc (.cells (ints ns).toArray 25))
  have H := Has.box w 25 h24 (by omega)
  rw [row_ints]
  go_enter Try.func6, Try.ntmps6
  go_wp2_with (refine load_has rfl 25 _ rfl _ rfl ?_ 24 ?_ _ Try.underlying25 rfl ?_ ?_; rotate_left; (· (repeat (first | (with_reducible assumption) | ((with_reducible refine Has.box _ _ ?_ ?_) <;> (first | assumption | decide)) | (with_reducible refine Has.alloc ?_ _) | ((with_reducible refine Has.putOther ?_ _ _ ?_); rotate_left; omega; skip) | ((with_reducible refine Has.below ?_ ?_); rotate_left; assumption)))); (· kernel_rfl))
  refine (toRack_any ns _ h24).mono ?_
  rintro e w1 ⟨rfl, b1⟩
  have H1 := H.below b1
  have HB1 := Lib.hid (HB.out.call b1)
  clear H HB b1
  go_wp2_with fail
  refine (specCanHurt ns _ h24).mono ?_
  rintro e w2 ⟨v1, rfl, q1, b2⟩
  rw [HAN.out, HAF.out] at q1
  have H2 := H1.below b2
  have HB2 := Lib.hid (HB1.out.call b2)
  have Q1 := Lib.hid q1
  clear H1 HB1 b2 q1
  go_wp2_with (refine load_has rfl 25 _ rfl _ rfl ?_ 24 ?_ _ Try.underlying25 rfl ?_ ?_; rotate_left; (· (repeat (first | (with_reducible assumption) | ((with_reducible refine Has.box _ _ ?_ ?_) <;> (first | assumption | decide)) | (with_reducible refine Has.alloc ?_ _) | ((with_reducible refine Has.putOther ?_ _ _ ?_); rotate_left; omega; skip) | ((with_reducible refine Has.below ?_ ?_); rotate_left; assumption)))); (· kernel_rfl))
  refine (toRack_any ns _ h24).mono ?_
  rintro e w3 ⟨rfl, b3⟩
  have H3 := H2.below b3
  have HB3 := Lib.hid (HB2.out.call b3)
  have Q2 := Lib.hid (Q1.out.below b3)
  clear H2 HB2 b3 Q1
  go_wp2_with fail
  refine (implCanHurt ns _ h24).mono ?_
  rintro e w4 ⟨v2, rfl, r1, b4⟩
  rw [HAN.out, HAF.out] at r1
  have H4 := H3.below b4
  have HB4 := Lib.hid (HB3.out.call b4)
  have Q3 := Lib.hid (Q2.out.below b4)
  have R1 := Lib.hid r1
  have L1 := Lib.hid (fun k hk => (World.ownsRow.lt Q2.out k hk).2)
  have L0 := Lib.hid H3.lt
  clear H3 HB3 b4 Q2 r1
  go_wp2_with fail
  refine (eqIntA2S_same v2 v1 _ _ _ _ _ (by omega) R1.out Q3.out).mono ?_
  rintro e w5 ⟨rfl, b5⟩
  have H5 := H4.below b5
  have HB5 := Lib.hid (HB4.out.call b5)
  have Q4 := Lib.hid (Q3.out.below b5)
  have R2 := Lib.hid (R1.out.below b5)
  clear H4 HB4 b5 Q3 R1
  go_wp2_with fail
  obtain ⟨z, hz, hz0, hz1⟩ : ∃ z : Int, z = ((1 + N * 2 : Nat) : Int) ∧ 0 ≤ z ∧ z ≤ 99 := ⟨_, rfl, by omega, by omega⟩
  have HZ := Lib.hid hz
  clear hz
  refine (markA2S _ v2 N 1 _ _ (by omega) (by omega) R2.out).mono ?_
  rintro e w6 ⟨rfl, m1, m2⟩
  rw [← HZ.out]
  have R3 := Lib.hid m1
  have hv2 : ∀ k, v2.ownBlock = some k → w3.heap.size ≤ k := fun k hk => (World.ownsRow.lt R2.out k hk).1
  have H6 := H5.grown m2 (fun k hk => by have := hv2 k hk; have := L0.out; omega)
  have HB6 : Hid (Kept w w6) := Lib.hid (HB5.out.grown m2 HB5.out.size (fun k hk => by have := hv2 k hk; have := L0.out; omega))
  have Q5 := Lib.hid (Q4.out.apart m2 (fun k hk e => by have := L1.out k e; have := hv2 k hk; omega))
  clear H5 HB5 Q4 R2 m1 m2 L0 L1 hv2
  have zl : decide (z < 0) = false := by simp; omega
  go_wp2_with fail
  refine (heldA2S _ v2 N 1 _ _ (by omega) (by omega) R3.out).mono ?_
  rintro e w' ⟨rfl, rfl⟩
  rw [← HZ.out]
  go_wp2_with (refine load_has rfl 25 _ rfl _ rfl ?_ 24 ?_ _ Try.underlying25 rfl ?_ ?_; rotate_left; (· (repeat (first | (with_reducible assumption) | ((with_reducible refine Has.box _ _ ?_ ?_) <;> (first | assumption | decide)) | (with_reducible refine Has.alloc ?_ _) | ((with_reducible refine Has.putOther ?_ _ _ ?_); rotate_left; omega; skip) | ((with_reducible refine Has.below ?_ ?_); rotate_left; assumption)))); (· kernel_rfl))
  refine (toRack_any ns _ h24).mono ?_
  rintro e w7 ⟨rfl, b7⟩
  have HB7 := Lib.hid (HB6.out.call b7)
  have Q6 := Lib.hid (Q5.out.below b7)
  have R4 := Lib.hid (R3.out.below b7)
  clear H6 HB6 b7 Q5 R3
  go_wp2_with fail
  refine (implCanHurt ns _ h24).mono ?_
  rintro e w8 ⟨v3, rfl, t1, b8⟩
  rw [HAN.out, HAF.out] at t1
  have HB8 := Lib.hid (HB7.out.call b8)
  have Q7 := Lib.hid (Q6.out.below b8)
  have R5 := Lib.hid (R4.out.below b8)
  have T1 := Lib.hid t1
  clear HB7 b8 Q6 R4 t1
  go_wp2_with fail
  refine (eqIntA2S_same v3 v1 _ _ _ _ _ (by omega) T1.out Q7.out).mono ?_
  rintro e w9 ⟨rfl, b9⟩
  have HB9 := Lib.hid (HB8.out.call b9)
  have R6 := Lib.hid (R5.out.below b9)
  clear HB8 b9 Q7 R5 T1
  go_wp2_with fail
  refine (heldA2S _ v2 N 1 _ _ (by omega) (by omega) R6.out).mono ?_
  rintro e w' ⟨rfl, rfl⟩
  rw [← HZ.out]
  go_wp2_with fail
  go_ret
  exact ⟨rfl, HB9.out⟩
end Go.Proofs.Ytpbfdjiglacbbab.base
