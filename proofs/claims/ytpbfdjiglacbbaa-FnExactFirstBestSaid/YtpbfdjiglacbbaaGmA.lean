/-
  The exact laws of EndValue, TubeValue, EndPours, TubePours and FirstBest, walked.
-/
import Derived.Test.YtpbfdjiglacbbaaGmF
import Derived.Test.YtpbfdjiglacbbaaRackTo
import Derived.Test.YtpbfdjiglacbbaaRunsIZ
namespace Go.Proofs.Ytpbfdjiglacbbaa.base
open Go.ChangeShapes Go.WideShapes Go.ChangeAt Go.RowKit
set_option linter.unusedVariables false
set_option linter.unusedSimpArgs false

theorem lawEndValue (ns : List Int) (i : Int) (w : World) (h0 : ns.length = 24 ∧ ∀ n ∈ ns, (Lit.int .i64 n).wf = true) (fi : (Lit.int .i64 i).wf = true) :
    Calls Try.prog 3 #[row ns, .int .i64 i] w fun e w' => e = .returned (.bool true) ∧ Kept w w' := by
  have h24 := h0.1
  clear h0 fi
  have HB := Lib.hid ((kept_refl w).alloc (.cells (ints ns).toArray 25))
  have H := Has.box w 25 h24 (by omega)
  rw [row_ints]
  go_enter Try.func3, Try.ntmps3
  go_wp2_with (refine load_has rfl 25 _ rfl _ rfl ?_ 24 ?_ _ Try.underlying25 rfl ?_ ?_; rotate_left; (· (repeat (first | (with_reducible assumption) | ((with_reducible refine Has.box _ _ ?_ ?_) <;> (first | assumption | decide)) | (with_reducible refine Has.alloc ?_ _) | ((with_reducible refine Has.putOther ?_ _ _ ?_); rotate_left; omega; skip) | ((with_reducible refine Has.below ?_ ?_); rotate_left; assumption)))); (· kernel_rfl))
  refine (toRack_any ns _ h24).mono ?_
  rintro e w1 ⟨rfl, b1⟩
  have H1 := H.below b1
  have HB1 := Lib.hid (HB.out.call b1)
  clear H HB b1
  go_wp2_with fail
  refine (specEndValue ns i _ h24).mono ?_
  rintro e w2 ⟨rfl, b2⟩
  have H2 := H1.below b2
  have HB2 := Lib.hid (HB1.out.call b2)
  clear H1 HB1 b2
  go_wp2_with (refine load_has rfl 25 _ rfl _ rfl ?_ 24 ?_ _ Try.underlying25 rfl ?_ ?_; rotate_left; (· (repeat (first | (with_reducible assumption) | ((with_reducible refine Has.box _ _ ?_ ?_) <;> (first | assumption | decide)) | (with_reducible refine Has.alloc ?_ _) | ((with_reducible refine Has.putOther ?_ _ _ ?_); rotate_left; omega; skip) | ((with_reducible refine Has.below ?_ ?_); rotate_left; assumption)))); (· kernel_rfl))
  refine (toRack_any ns _ h24).mono ?_
  rintro e w3 ⟨rfl, b3⟩
  have HB3 := Lib.hid (HB2.out.call b3)
  clear H2 HB2 b3
  go_wp2_with fail
  refine (implEndValue ns i _ h24).mono ?_
  rintro e w4 ⟨rfl, b4⟩
  have HB4 := Lib.hid (HB3.out.call b4)
  clear HB3 b4
  go_wp2_with fail
  go_ret
  exact ⟨rfl, HB4.out⟩

theorem lawTubeValue (ns : List Int) (i : Int) (w : World) (h0 : ns.length = 24 ∧ ∀ n ∈ ns, (Lit.int .i64 n).wf = true) (fi : (Lit.int .i64 i).wf = true) :
    Calls Try.prog 5 #[row ns, .int .i64 i] w fun e w' => e = .returned (.bool true) ∧ Kept w w' := by
  have h24 := h0.1
  clear h0 fi
  have HB := Lib.hid ((kept_refl w).alloc (.cells (ints ns).toArray 25))
  have H := Has.box w 25 h24 (by omega)
  rw [row_ints]
  go_enter Try.func5, Try.ntmps5
  go_wp2_with (refine load_has rfl 25 _ rfl _ rfl ?_ 24 ?_ _ Try.underlying25 rfl ?_ ?_; rotate_left; (· (repeat (first | (with_reducible assumption) | ((with_reducible refine Has.box _ _ ?_ ?_) <;> (first | assumption | decide)) | (with_reducible refine Has.alloc ?_ _) | ((with_reducible refine Has.putOther ?_ _ _ ?_); rotate_left; omega; skip) | ((with_reducible refine Has.below ?_ ?_); rotate_left; assumption)))); (· kernel_rfl))
  refine (toRack_any ns _ h24).mono ?_
  rintro e w1 ⟨rfl, b1⟩
  have H1 := H.below b1
  have HB1 := Lib.hid (HB.out.call b1)
  clear H HB b1
  go_wp2_with fail
  refine (specTubeValue ns i _ h24).mono ?_
  rintro e w2 ⟨rfl, b2⟩
  have H2 := H1.below b2
  have HB2 := Lib.hid (HB1.out.call b2)
  clear H1 HB1 b2
  go_wp2_with (refine load_has rfl 25 _ rfl _ rfl ?_ 24 ?_ _ Try.underlying25 rfl ?_ ?_; rotate_left; (· (repeat (first | (with_reducible assumption) | ((with_reducible refine Has.box _ _ ?_ ?_) <;> (first | assumption | decide)) | (with_reducible refine Has.alloc ?_ _) | ((with_reducible refine Has.putOther ?_ _ _ ?_); rotate_left; omega; skip) | ((with_reducible refine Has.below ?_ ?_); rotate_left; assumption)))); (· kernel_rfl))
  refine (toRack_any ns _ h24).mono ?_
  rintro e w3 ⟨rfl, b3⟩
  have HB3 := Lib.hid (HB2.out.call b3)
  clear H2 HB2 b3
  go_wp2_with fail
  refine (implTubeValue ns i _ h24).mono ?_
  rintro e w4 ⟨rfl, b4⟩
  have HB4 := Lib.hid (HB3.out.call b4)
  clear HB3 b4
  go_wp2_with fail
  go_ret
  exact ⟨rfl, HB4.out⟩

set_option maxHeartbeats 1600000 in
set_option maxRecDepth 100000 in
theorem lawEndPours (ns : List Int) (i : Int) (w : World) (h0 : ns.length = 24 ∧ ∀ n ∈ ns, (Lit.int .i64 n).wf = true) (fi : (Lit.int .i64 i).wf = true) :
    Calls Try.prog 4 #[row ns, .int .i64 i] w fun e w' => e = .returned (.bool true) ∧ Kept w w' := by
  have h24 := h0.1
  clear h0 fi
  have hN := bpNA_le ptE (-1) ns i
  have KS := Lib.hid (fun W => specEndPours ns i W h24)
  have KI := Lib.hid (fun W => implEndPours ns i W h24)
  have HAN : Hid (∃ N A, bpNA ptE (-1) ns i = N ∧ bpFA ptE (-1) ns i = A) := Lib.hid ⟨_, _, rfl, rfl⟩
  obtain ⟨N, A, hAN, hAF⟩ := HAN.out
  have HAN := Lib.hid hAN
  have HAF := Lib.hid hAF
  rw [hAN] at hN
  clear hAN hAF
  have HB := Lib.hid ((kept_refl w).alloc (.cells (ints ns).toArray 25))
  have H := Has.box w 25 h24 (by omega)
  rw [row_ints]
  go_enter Try.func4, Try.ntmps4
  go_wp2_with (refine load_has rfl 25 _ rfl _ rfl ?_ 24 ?_ _ Try.underlying25 rfl ?_ ?_; rotate_left; (· (repeat (first | (with_reducible assumption) | ((with_reducible refine Has.box _ _ ?_ ?_) <;> (first | assumption | decide)) | (with_reducible refine Has.alloc ?_ _) | ((with_reducible refine Has.putOther ?_ _ _ ?_); rotate_left; omega; skip) | ((with_reducible refine Has.below ?_ ?_); rotate_left; assumption)))); (· kernel_rfl))
  refine (toRack_any ns _ h24).mono ?_
  rintro e w1 ⟨rfl, b1⟩
  have H1 := H.below b1
  have HB1 := Lib.hid (HB.out.call b1)
  clear H HB b1
  go_wp2_with fail
  refine (KS.out _).mono ?_
  rintro e w2 ⟨v1, rfl, q1, b2⟩
  rw [HAN.out, HAF.out] at q1
  have H2 := H1.below b2
  have HB2 := Lib.hid (HB1.out.call b2)
  have Q1 := Lib.hid q1
  clear H1 HB1 b2 q1
  go_wp2_with (refine load_has rfl 25 _ rfl _ rfl ?_ 24 ?_ _ Try.underlying25 rfl ?_ ?_; rotate_left; (· (repeat (first | (with_reducible assumption) | ((with_reducible refine Has.box _ _ ?_ ?_) <;> (first | assumption | decide)) | (with_reducible refine Has.alloc ?_ _) | ((with_reducible refine Has.putOther ?_ _ _ ?_); rotate_left; omega; skip) | ((with_reducible refine Has.below ?_ ?_); rotate_left; assumption)))); (· kernel_rfl))
  refine (toRack_any ns _ h24).mono ?_
  rintro e w3 ⟨rfl, b3⟩
  have H3 := H2.below b3
  have HB3 := Lib.hid (HB2.out.call b3)
  have Q2 := Lib.hid (Q1.out.below b3)
  clear H2 HB2 b3 Q1
  go_wp2_with fail
  refine (KI.out _).mono ?_
  rintro e w4 ⟨v2, rfl, r1, b4⟩
  rw [HAN.out, HAF.out] at r1
  have H4 := H3.below b4
  have HB4 := Lib.hid (HB3.out.call b4)
  have Q3 := Lib.hid (Q2.out.below b4)
  have R1 := Lib.hid r1
  have L1 := Lib.hid (fun k hk => (World.ownsRow.lt Q2.out k hk).2)
  have L0 := Lib.hid H3.lt
  clear H3 HB3 b4 Q2 r1
  go_wp2_with fail
  refine (eqIntA2S_same v2 v1 _ _ _ _ _ (by omega) R1.out Q3.out).mono ?_
  rintro e w5 ⟨rfl, b5⟩
  have H5 := H4.below b5
  have HB5 := Lib.hid (HB4.out.call b5)
  have Q4 := Lib.hid (Q3.out.below b5)
  have R2 := Lib.hid (R1.out.below b5)
  clear H4 HB4 b5 Q3 R1
  go_wp2_with fail
  obtain ⟨z, hz, hz0, hz1⟩ : ∃ z : Int, z = ((1 + N * 2 : Nat) : Int) ∧ 0 ≤ z ∧ z ≤ 99 := ⟨_, rfl, by omega, by omega⟩
  have HZ := Lib.hid hz
  clear hz
  refine (markA2S _ v2 N 1 _ _ (by omega) (by omega) R2.out).mono ?_
  rintro e w6 ⟨rfl, m1, m2⟩
  rw [← HZ.out]
  have R3 := Lib.hid m1
  have hv2 : ∀ k, v2.ownBlock = some k → w3.heap.size ≤ k := fun k hk => (World.ownsRow.lt R2.out k hk).1
  have H6 := H5.grown m2 (fun k hk => by have := hv2 k hk; have := L0.out; omega)
  have HB6 : Hid (Kept w w6) := Lib.hid (HB5.out.grown m2 HB5.out.size (fun k hk => by have := hv2 k hk; have := L0.out; omega))
  have Q5 := Lib.hid (Q4.out.apart m2 (fun k hk e => by have := L1.out k e; have := hv2 k hk; omega))
  clear H5 HB5 Q4 R2 m1 m2 L0 L1 hv2
  have zl : decide (z < 0) = false := by simp; omega
  go_wp2_with fail
  refine (heldA2S _ v2 N 1 _ _ (by omega) (by omega) R3.out).mono ?_
  rintro e w' ⟨rfl, rfl⟩
  rw [← HZ.out]
  go_wp2_with (refine load_has rfl 25 _ rfl _ rfl ?_ 24 ?_ _ Try.underlying25 rfl ?_ ?_; rotate_left; (· (repeat (first | (with_reducible assumption) | ((with_reducible refine Has.box _ _ ?_ ?_) <;> (first | assumption | decide)) | (with_reducible refine Has.alloc ?_ _) | ((with_reducible refine Has.putOther ?_ _ _ ?_); rotate_left; omega; skip) | ((with_reducible refine Has.below ?_ ?_); rotate_left; assumption)))); (· kernel_rfl))
  refine (toRack_any ns _ h24).mono ?_
  rintro e w7 ⟨rfl, b7⟩
  have HB7 := Lib.hid (HB6.out.call b7)
  have Q6 := Lib.hid (Q5.out.below b7)
  have R4 := Lib.hid (R3.out.below b7)
  clear H6 HB6 b7 Q5 R3
  go_wp2_with fail
  refine (KI.out _).mono ?_
  rintro e w8 ⟨v3, rfl, t1, b8⟩
  rw [HAN.out, HAF.out] at t1
  have HB8 := Lib.hid (HB7.out.call b8)
  have Q7 := Lib.hid (Q6.out.below b8)
  have R5 := Lib.hid (R4.out.below b8)
  have T1 := Lib.hid t1
  clear HB7 b8 Q6 R4 t1
  go_wp2_with fail
  refine (eqIntA2S_same v3 v1 _ _ _ _ _ (by omega) T1.out Q7.out).mono ?_
  rintro e w9 ⟨rfl, b9⟩
  have HB9 := Lib.hid (HB8.out.call b9)
  have R6 := Lib.hid (R5.out.below b9)
  clear HB8 b9 Q7 R5 T1
  go_wp2_with fail
  refine (heldA2S _ v2 N 1 _ _ (by omega) (by omega) R6.out).mono ?_
  rintro e w' ⟨rfl, rfl⟩
  rw [← HZ.out]
  go_wp2_with fail
  go_ret
  exact ⟨rfl, HB9.out⟩

set_option maxHeartbeats 1600000 in
set_option maxRecDepth 100000 in
theorem lawTubePours (ns : List Int) (i : Int) (w : World) (h0 : ns.length = 24 ∧ ∀ n ∈ ns, (Lit.int .i64 n).wf = true) (fi : (Lit.int .i64 i).wf = true) :
    Calls Try.prog 6 #[row ns, .int .i64 i] w fun e w' => e = .returned (.bool true) ∧ Kept w w' := by
  have h24 := h0.1
  clear h0 fi
  have hN := bpNA_le ptT (0) ns i
  have KS := Lib.hid (fun W => specTubePours ns i W h24)
  have KI := Lib.hid (fun W => implTubePours ns i W h24)
  have HAN : Hid (∃ N A, bpNA ptT (0) ns i = N ∧ bpFA ptT (0) ns i = A) := Lib.hid ⟨_, _, rfl, rfl⟩
  obtain ⟨N, A, hAN, hAF⟩ := HAN.out
  have HAN := Lib.hid hAN
  have HAF := Lib.hid hAF
  rw [hAN] at hN
  clear hAN hAF
  have HB := Lib.hid ((kept_refl w).alloc (.cells (ints ns).toArray 25))
  have H := Has.box w 25 h24 (by omega)
  rw [row_ints]
  go_enter Try.func6, Try.ntmps6
  go_wp2_with (refine load_has rfl 25 _ rfl _ rfl ?_ 24 ?_ _ Try.underlying25 rfl ?_ ?_; rotate_left; (· (repeat (first | (with_reducible assumption) | ((with_reducible refine Has.box _ _ ?_ ?_) <;> (first | assumption | decide)) | (with_reducible refine Has.alloc ?_ _) | ((with_reducible refine Has.putOther ?_ _ _ ?_); rotate_left; omega; skip) | ((with_reducible refine Has.below ?_ ?_); rotate_left; assumption)))); (· kernel_rfl))
  refine (toRack_any ns _ h24).mono ?_
  rintro e w1 ⟨rfl, b1⟩
  have H1 := H.below b1
  have HB1 := Lib.hid (HB.out.call b1)
  clear H HB b1
  go_wp2_with fail
  refine (KS.out _).mono ?_
  rintro e w2 ⟨v1, rfl, q1, b2⟩
  rw [HAN.out, HAF.out] at q1
  have H2 := H1.below b2
  have HB2 := Lib.hid (HB1.out.call b2)
  have Q1 := Lib.hid q1
  clear H1 HB1 b2 q1
  go_wp2_with (refine load_has rfl 25 _ rfl _ rfl ?_ 24 ?_ _ Try.underlying25 rfl ?_ ?_; rotate_left; (· (repeat (first | (with_reducible assumption) | ((with_reducible refine Has.box _ _ ?_ ?_) <;> (first | assumption | decide)) | (with_reducible refine Has.alloc ?_ _) | ((with_reducible refine Has.putOther ?_ _ _ ?_); rotate_left; omega; skip) | ((with_reducible refine Has.below ?_ ?_); rotate_left; assumption)))); (· kernel_rfl))
  refine (toRack_any ns _ h24).mono ?_
  rintro e w3 ⟨rfl, b3⟩
  have H3 := H2.below b3
  have HB3 := Lib.hid (HB2.out.call b3)
  have Q2 := Lib.hid (Q1.out.below b3)
  clear H2 HB2 b3 Q1
  go_wp2_with fail
  refine (KI.out _).mono ?_
  rintro e w4 ⟨v2, rfl, r1, b4⟩
  rw [HAN.out, HAF.out] at r1
  have H4 := H3.below b4
  have HB4 := Lib.hid (HB3.out.call b4)
  have Q3 := Lib.hid (Q2.out.below b4)
  have R1 := Lib.hid r1
  have L1 := Lib.hid (fun k hk => (World.ownsRow.lt Q2.out k hk).2)
  have L0 := Lib.hid H3.lt
  clear H3 HB3 b4 Q2 r1
  go_wp2_with fail
  refine (eqIntA2S_same v2 v1 _ _ _ _ _ (by omega) R1.out Q3.out).mono ?_
  rintro e w5 ⟨rfl, b5⟩
  have H5 := H4.below b5
  have HB5 := Lib.hid (HB4.out.call b5)
  have Q4 := Lib.hid (Q3.out.below b5)
  have R2 := Lib.hid (R1.out.below b5)
  clear H4 HB4 b5 Q3 R1
  go_wp2_with fail
  obtain ⟨z, hz, hz0, hz1⟩ : ∃ z : Int, z = ((1 + N * 2 : Nat) : Int) ∧ 0 ≤ z ∧ z ≤ 99 := ⟨_, rfl, by omega, by omega⟩
  have HZ := Lib.hid hz
  clear hz
  refine (markA2S _ v2 N 1 _ _ (by omega) (by omega) R2.out).mono ?_
  rintro e w6 ⟨rfl, m1, m2⟩
  rw [← HZ.out]
  have R3 := Lib.hid m1
  have hv2 : ∀ k, v2.ownBlock = some k → w3.heap.size ≤ k := fun k hk => (World.ownsRow.lt R2.out k hk).1
  have H6 := H5.grown m2 (fun k hk => by have := hv2 k hk; have := L0.out; omega)
  have HB6 : Hid (Kept w w6) := Lib.hid (HB5.out.grown m2 HB5.out.size (fun k hk => by have := hv2 k hk; have := L0.out; omega))
  have Q5 := Lib.hid (Q4.out.apart m2 (fun k hk e => by have := L1.out k e; have := hv2 k hk; omega))
  clear H5 HB5 Q4 R2 m1 m2 L0 L1 hv2
  have zl : decide (z < 0) = false := by simp; omega
  go_wp2_with fail
  refine (heldA2S _ v2 N 1 _ _ (by omega) (by omega) R3.out).mono ?_
  rintro e w' ⟨rfl, rfl⟩
  rw [← HZ.out]
  go_wp2_with (refine load_has rfl 25 _ rfl _ rfl ?_ 24 ?_ _ Try.underlying25 rfl ?_ ?_; rotate_left; (· (repeat (first | (with_reducible assumption) | ((with_reducible refine Has.box _ _ ?_ ?_) <;> (first | assumption | decide)) | (with_reducible refine Has.alloc ?_ _) | ((with_reducible refine Has.putOther ?_ _ _ ?_); rotate_left; omega; skip) | ((with_reducible refine Has.below ?_ ?_); rotate_left; assumption)))); (· kernel_rfl))
  refine (toRack_any ns _ h24).mono ?_
  rintro e w7 ⟨rfl, b7⟩
  have HB7 := Lib.hid (HB6.out.call b7)
  have Q6 := Lib.hid (Q5.out.below b7)
  have R4 := Lib.hid (R3.out.below b7)
  clear H6 HB6 b7 Q5 R3
  go_wp2_with fail
  refine (KI.out _).mono ?_
  rintro e w8 ⟨v3, rfl, t1, b8⟩
  rw [HAN.out, HAF.out] at t1
  have HB8 := Lib.hid (HB7.out.call b8)
  have Q7 := Lib.hid (Q6.out.below b8)
  have R5 := Lib.hid (R4.out.below b8)
  have T1 := Lib.hid t1
  clear HB7 b8 Q6 R4 t1
  go_wp2_with fail
  refine (eqIntA2S_same v3 v1 _ _ _ _ _ (by omega) T1.out Q7.out).mono ?_
  rintro e w9 ⟨rfl, b9⟩
  have HB9 := Lib.hid (HB8.out.call b9)
  have R6 := Lib.hid (R5.out.below b9)
  clear HB8 b9 Q7 R5 T1
  go_wp2_with fail
  refine (heldA2S _ v2 N 1 _ _ (by omega) (by omega) R6.out).mono ?_
  rintro e w' ⟨rfl, rfl⟩
  rw [← HZ.out]
  go_wp2_with fail
  go_ret
  exact ⟨rfl, HB9.out⟩

set_option maxHeartbeats 400000 in
theorem eqIntA2G (t : List Int) (w : World) (h2 : t.length = 2) :
    Calls Try.prog 23 #[.agg (ints t).toArray, .agg (ints t).toArray] w fun e w' => e = .returned (.bool true) ∧ Kept w w' := by
  have HB := Lib.hid (((kept_refl w).alloc (.cells (ints t).toArray 36)).alloc (.cells (ints t).toArray 36))
  have H1 := (Has.box w 36 h2 (by omega)).alloc (.cells (ints t).toArray 36)
  have H2 := (Has.box (w.alloc (.cells (ints t).toArray 36)) 36 h2 (by omega)).at (size1 _ _)
  go_enter Try.func23, Try.ntmps23
  go_wp2_with fail
  have HL := Lib.hid h2
  clear h2
  generalize ((w.alloc (.cells (ints t).toArray 36)).alloc (.cells (ints t).toArray 36)) = W at *
  go_loopw [5] (fun z wr => ∃ k : Nat, k ≤ 2 ∧ z = .int .i64 k ∧ Has wr w.heap.size t 2 ∧ Has wr (w.heap.size + 1) t 2 ∧ Hid (Kept w wr)) (fun z _ => 2 - (intOf z).toNat)
  case atStart => exact ⟨0, by omega, rfl, H1, H2, HB⟩
  case round =>
    obtain ⟨k, hk, rfl, G1, G2, GB⟩ := hrel
    by_cases h : k < 2
    · have c1 := G1.cell k h
      have c2 := G2.cell k h
      have hki : (k : Int) < 2 := by omega
      have hk0 : (0 : Int) ≤ (k : Int) := by omega
      generalize t.getD k 0 = x at *
      go_wp2_with fail
      go_quiet (fail)
      have G3 := G1.drewN nq
      have G4 := G2.drewN nq
      have GB2 := Lib.hid (GB.out.drewN nq)
      go_wp2_with fail
      go_roundw
      case rel => exact ⟨k + 1, by omega, by go_num, G3, G4, GB2⟩
      case measure => simp [intOf]; omega
    · go_wp2_with fail
      go_ret
      exact ⟨rfl, GB.out⟩

set_option maxHeartbeats 400000 in
theorem lawFirstBest (vs : List Int) (n : Int) (w : World) (h0 : vs.length = 24 ∧ ∀ n ∈ vs, (Lit.int .i64 n).wf = true) (fn : (Lit.int .i64 n).wf = true) :
    Calls Try.prog 7 #[row vs, .int .i64 n] w fun e w' => e = .returned (.bool true) ∧ Kept w w' := by
  obtain ⟨h, hw⟩ := h0
  have hl : (fbA vs n).length = 2 := fbA_len vs n
  have HB := Lib.hid ((kept_refl w).alloc (.cells (ints vs).toArray 25))
  have H := Has.box w 25 h (by omega)
  have KS := Lib.hid (fun _W => specFirstBest vs n _W h)
  have KI := Lib.hid (fun _W => implFirstBest vs n _W h)
  clear hw fn
  rw [row_ints]
  go_enter Try.func7, Try.ntmps7
  go_wp2_with (refine load_has rfl 25 _ rfl _ rfl ?_ 24 ?_ _ Try.underlying25 rfl ?_ ?_; rotate_left; (· (repeat (first | (with_reducible assumption) | ((with_reducible refine Has.box _ _ ?_ ?_) <;> (first | assumption | decide)) | (with_reducible refine Has.alloc ?_ _) | ((with_reducible refine Has.putOther ?_ _ _ ?_); rotate_left; omega; skip) | ((with_reducible refine Has.below ?_ ?_); rotate_left; assumption)))); (· kernel_rfl))
  refine (toRack_any vs _ h).mono ?_
  rintro e w1 ⟨rfl, b1⟩
  have H1 := H.below b1
  have HB1 := Lib.hid (HB.out.call b1)
  clear H HB b1
  go_wp2_with fail
  refine (KS.out _).mono ?_
  rintro e w2 ⟨rfl, b2⟩
  have H2 := (H1.below b2).alloc (.cells (ints (fbA vs n)).toArray 36)
  have R2 := Has.box w2 36 hl (by omega)
  have HB2 := Lib.hid ((HB1.out.call b2).alloc (.cells (ints (fbA vs n)).toArray 36))
  clear H1 HB1 b2
  go_wp2_with (first | (refine store_new rfl 36 _ _ rfl _ _ _ rfl _ rfl _ rfl rfl ?_ ?_ ?_; (· (first | assumption | rfl)); (· kernel_rfl)) | (refine load_has rfl 25 _ rfl _ rfl ?_ 24 ?_ _ Try.underlying25 rfl ?_ ?_; rotate_left; (· (repeat (first | (with_reducible assumption) | ((with_reducible refine Has.box _ _ ?_ ?_) <;> (first | assumption | decide)) | (with_reducible refine Has.alloc ?_ _) | ((with_reducible refine Has.putOther ?_ _ _ ?_); rotate_left; omega; skip) | ((with_reducible refine Has.below ?_ ?_); rotate_left; assumption)))); (· kernel_rfl)))
  refine (toRack_any vs _ h).mono ?_
  rintro e w3 ⟨rfl, b3⟩
  have R3 := R2.below b3
  have HB3 := Lib.hid (HB2.out.call b3)
  clear H2 R2 HB2 b3
  go_wp2_with fail
  refine (KI.out _).mono ?_
  rintro e w4 ⟨rfl, b4⟩
  have R4 := (R3.below b4).alloc (.cells (ints (fbA vs n)).toArray 36)
  have Q4 := Has.box w4 36 hl (by omega)
  have HB4 := Lib.hid ((HB3.out.call b4).alloc (.cells (ints (fbA vs n)).toArray 36))
  clear R3 HB3 b4
  go_wp2_with (first | (refine store_new rfl 36 _ _ rfl _ _ _ rfl _ rfl _ rfl rfl ?_ ?_ ?_; (· (first | assumption | rfl)); (· kernel_rfl)) | (refine load_has rfl 36 _ rfl _ rfl ?_ 2 ?_ _ Try.underlying36 rfl ?_ ?_; rotate_left; (· (repeat (first | (with_reducible assumption) | ((with_reducible refine Has.box _ _ ?_ ?_) <;> (first | assumption | decide)) | (with_reducible refine Has.alloc ?_ _) | ((with_reducible refine Has.putOther ?_ _ _ ?_); rotate_left; omega; skip) | ((with_reducible refine Has.below ?_ ?_); rotate_left; assumption)))); (· kernel_rfl)))
  refine (eqIntA2G (fbA vs n) _ hl).mono ?_
  rintro e w5 ⟨rfl, b5⟩
  have HB5 := Lib.hid (HB4.out.call b5)
  clear R4 Q4 HB4 b5
  go_wp2_with fail
  go_ret
  exact ⟨rfl, HB5.out⟩
end Go.Proofs.Ytpbfdjiglacbbaa.base
