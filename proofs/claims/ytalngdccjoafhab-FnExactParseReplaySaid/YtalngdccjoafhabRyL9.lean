/-
  The exact law of ParseReplay, walked.
-/
import Derived.Test.YtalngdccjoafhabRyB
import Derived.Test.YtalngdccjoafhabRyPs
namespace Go.Proofs.Ytalngdccjoafhab.base
open Go.ChangeShapes Go.WideShapes Go.ChangeAt Go.RowKit
set_option linter.unusedVariables false
set_option linter.unusedSimpArgs false

theorem prN_le (ps : List (List UInt8)) : orN (prG ps) (ps.length - 1) ≤ 60 := by
  cases h : prG ps with
  | false => exact Nat.zero_le _
  | true =>
    unfold prG at h
    have := rp_le (Bool.and_eq_true_iff.1 h).2
    unfold orN
    rw [if_pos rfl]; exact this

set_option maxHeartbeats 6400000 in
set_option maxRecDepth 100000 in
theorem lawParseReplay (s : ByteArray) (w : World) (hs : s.size ≤ maxLen) :
    Calls Try.prog 7 #[.string s] w fun e w' => e = .returned (.bool true) ∧ Kept w w' := by
  by_cases h0 : (1048576 : Int) < (s.size : Int)
  · go_enter Try.func7, Try.ntmps7
    go_wp2_with fail
    go_ret
    exact ⟨rfl, kept_refl _⟩
  · have KS := Lib.hid (fun W => specPrs s W hs)
    have KI := Lib.hid (fun W => implPrs s W hs)
    have HB := Lib.hid (kept_refl w)
    have hRR := orR_len (prS_len (splitL 32 s.data.toList)) (prG (splitL 32 s.data.toList))
    have hNN := prN_le (splitL 32 s.data.toList)
    unfold RepPost at KS KI
    obtain ⟨RR, eRR⟩ : ∃ tt, orR (prG (splitL 32 s.data.toList)) (prS (splitL 32 s.data.toList)) = tt := ⟨_, rfl⟩
    rw [eRR] at KS KI hRR
    obtain ⟨NN, eNN⟩ : ∃ tt, orN (prG (splitL 32 s.data.toList)) ((splitL 32 s.data.toList).length - 1) = tt := ⟨_, rfl⟩
    rw [eNN] at KS KI hNN
    obtain ⟨FF, eFF⟩ : ∃ tt, orF (prG (splitL 32 s.data.toList)) (pwU (splitL 32 s.data.toList) ((splitL 32 s.data.toList).length - 1)) = tt := ⟨_, rfl⟩
    rw [eFF] at KS KI
    obtain ⟨OK, eOK⟩ : ∃ tt, prG (splitL 32 s.data.toList) = tt := ⟨_, rfl⟩
    rw [eOK] at KS KI
    clear eRR eNN eFF eOK
    go_enter Try.func7, Try.ntmps7
    go_wp2_with fail
    refine (KS.out _).mono ?_
    rintro e w2 ⟨u2, rfl, q2, b2⟩
    replace HB := Lib.hid (HB.out.call b2)
    clear KS
    have own2 := Lib.hid (fun h0 z hz => (show w.heap.size ≤ z ∧ z < w2.heap.size from by have := q2.ownlt h0 z hz; omega))
    obtain ⟨ua2, uc2, rfl⟩ := q2.shape
    have U2 := Lib.hid q2
    have hs2 : w.heap.size ≤ w2.heap.size := b2.size
    clear q2 b2
    have RO := Ry.box (v := .slice ua2 NN uc2) w2 32 hRR
    replace U2 := Lib.hid (U2.out.alloc (.cells (rpC RR (.slice ua2 NN uc2)).toArray 32))
    replace HB := Lib.hid (HB.out.alloc (.cells (rpC RR (.slice ua2 NN uc2)).toArray 32))
    go_upto_region 4 with (refine guardY (isStY 32) ?_ ?_; (· rfl); refine store_newry rfl 32 _ _ rfl w2 _ _ rfl _ rfl RR (.slice ua2 NN uc2) rfl rfl rfl hRR rfl ?_ ?_; (· kernel_rfl))
    have hlt2 := RO.lt
    obtain ⟨A2, hA2⟩ : ∃ s, w2.heap.size = s := ⟨_, rfl⟩
    rw [hA2] at own2 RO hs2 hlt2 ⊢
    generalize w2.alloc (.cells (rpC RR (.slice ua2 NN uc2)).toArray 32) = W2 at *
    clear hA2
    go_wp2_with fail
    refine (KI.out _).mono ?_
    rintro e w4 ⟨u4, rfl, q4, b4⟩
    replace RO := RO.below b4
    replace U2 := Lib.hid (U2.out.below b4)
    replace HB := Lib.hid (HB.out.call b4)
    have own4 := Lib.hid (fun h0 z hz => (show A2 < z ∧ z < w4.heap.size from by have := q4.ownlt h0 z hz; omega))
    obtain ⟨ua4, uc4, rfl⟩ := q4.shape
    have U4 := Lib.hid q4
    have hs4 : A2 < w4.heap.size := by have := b4.size; omega
    clear q4 b4
    have G := Ry.box (v := .slice ua4 NN uc4) w4 32 hRR
    replace RO := RO.alloc (.cells (rpC RR (.slice ua4 NN uc4)).toArray 32)
    replace U2 := Lib.hid (U2.out.alloc (.cells (rpC RR (.slice ua4 NN uc4)).toArray 32))
    replace U4 := Lib.hid (U4.out.alloc (.cells (rpC RR (.slice ua4 NN uc4)).toArray 32))
    replace HB := Lib.hid (HB.out.alloc (.cells (rpC RR (.slice ua4 NN uc4)).toArray 32))
    go_upto_region 5 with (refine guardY (isStY 32) ?_ ?_; (· rfl); refine store_newry rfl 32 _ _ rfl w4 _ _ rfl _ rfl RR (.slice ua4 NN uc4) rfl rfl rfl hRR rfl ?_ ?_; (· kernel_rfl))
    obtain ⟨A4, hA4⟩ : ∃ s, w4.heap.size = s := ⟨_, rfl⟩
    rw [hA4] at own4 G hs4 ⊢
    generalize w4.alloc (.cells (rpC RR (.slice ua4 NN uc4)).toArray 32) = W4 at *
    clear hA4
    go_wp2_with (first | (refine guardY (isLdY 32) ?_ ?_; (· rfl); refine load_ry rfl 32 _ rfl A4 rfl _ _ _ G _ Try.underlying32 rfl ?_ ?_; (· kernel_rfl)) | (refine guardY (isLdY 32) ?_ ?_; (· rfl); refine load_ry rfl 32 _ rfl A2 rfl _ _ _ RO _ Try.underlying32 rfl ?_ ?_; (· kernel_rfl)))
    refine (eqReplay_same RR FF _ _ _ _ NN _ hRR (by omega) U4.out U2.out).mono ?_
    rintro e w5 ⟨rfl, b5⟩
    replace RO := RO.below b5
    replace G := G.below b5
    replace U2 := Lib.hid (U2.out.below b5)
    replace U4 := Lib.hid (U4.out.below b5)
    replace HB := Lib.hid (HB.out.call b5)
    clear b5
    go_wp2_with (refine guardY (isLdY 32) ?_ ?_; (· rfl); refine load_ry rfl 32 _ rfl A4 rfl _ _ _ G _ Try.underlying32 rfl ?_ ?_; (· kernel_rfl))
    refine (markReplay_any RR FF _ _ NN _ hRR (by omega) U4.out).mono ?_
    rintro e w10 ⟨rfl, m1, ⟨r8, m2, m3⟩⟩
    obtain ⟨mm, hz, hz0⟩ : ∃ z : Int, z = ((1 + NN * 2 : Nat) : Int) ∧ 0 ≤ z := ⟨_, rfl, by omega⟩
    have HZ := Lib.hid hz
    rw [← HZ.out]
    clear hz
    have k8 := Lib.hid (fun z hz => (show A2 < z ∧ z < A4 from by obtain ⟨x1, x2, x3⟩ := m3 z hz; exact own4.out x3 z x2))
    replace RO := RO.grown m2 (fun e => by have := k8.out _ e.symm; omega)
    replace G := G.grown m2 (fun e => by have := k8.out _ e.symm; omega)
    replace U2 := Lib.hid (U2.out.grownP m2 (fun h0 z hz => .inr (fun e => by have := k8.out z hz; have := own2.out h0 z e; omega)))
    replace HB : Hid (Kept w w10) := Lib.hid (HB.out.grown m2 HB.out.size (fun z hz => by have := k8.out z hz; omega))
    have M4 := Lib.hid m1
    clear m1 m2 m3 k8 U4
    have zl : decide (mm < 0) = false := by simp; omega
    go_wp2_with (refine guardY (isLdY 32) ?_ ?_; (· rfl); refine load_ry rfl 32 _ rfl A4 rfl _ _ _ G _ Try.underlying32 rfl ?_ ?_; (· kernel_rfl))
    refine (heldReplay_any RR FF _ _ NN _ hRR (by omega) M4.out).mono ?_
    rintro e w11 ⟨rfl, b11⟩
    rw [← HZ.out]
    replace RO := RO.below b11
    replace G := G.below b11
    replace U2 := Lib.hid (U2.out.below b11)
    replace M4 := Lib.hid (M4.out.below b11)
    replace HB := Lib.hid (HB.out.call b11)
    clear b11
    go_wp2_with fail
    refine (KI.out _).mono ?_
    rintro e w13 ⟨u13, rfl, q13, b13⟩
    replace RO := RO.below b13
    replace G := G.below b13
    replace U2 := Lib.hid (U2.out.below b13)
    replace M4 := Lib.hid (M4.out.below b13)
    replace HB := Lib.hid (HB.out.call b13)
    obtain ⟨ua5, uc5, rfl⟩ := q13.shape
    have U5 := Lib.hid q13
    clear q13 b13 KI
    have G5 := Ry.box (v := .slice ua5 NN uc5) w13 32 hRR
    replace RO := RO.alloc (.cells (rpC RR (.slice ua5 NN uc5)).toArray 32)
    replace G := G.alloc (.cells (rpC RR (.slice ua5 NN uc5)).toArray 32)
    replace U2 := Lib.hid (U2.out.alloc (.cells (rpC RR (.slice ua5 NN uc5)).toArray 32))
    replace M4 := Lib.hid (M4.out.alloc (.cells (rpC RR (.slice ua5 NN uc5)).toArray 32))
    replace U5 := Lib.hid (U5.out.alloc (.cells (rpC RR (.slice ua5 NN uc5)).toArray 32))
    replace HB := Lib.hid (HB.out.alloc (.cells (rpC RR (.slice ua5 NN uc5)).toArray 32))
    go_upto_region 16 with (refine guardY (isStY 32) ?_ ?_; (· rfl); refine store_newry rfl 32 _ _ rfl w13 _ _ rfl _ rfl RR (.slice ua5 NN uc5) rfl rfl rfl hRR rfl ?_ ?_; (· kernel_rfl))
    obtain ⟨A5, hA5⟩ : ∃ s, w13.heap.size = s := ⟨_, rfl⟩
    rw [hA5] at G5 ⊢
    generalize w13.alloc (.cells (rpC RR (.slice ua5 NN uc5)).toArray 32) = W5 at *
    clear hA5
    go_wp2_with (first | (refine guardY (isLdY 32) ?_ ?_; (· rfl); refine load_ry rfl 32 _ rfl A5 rfl _ _ _ G5 _ Try.underlying32 rfl ?_ ?_; (· kernel_rfl)) | (refine guardY (isLdY 32) ?_ ?_; (· rfl); refine load_ry rfl 32 _ rfl A2 rfl _ _ _ RO _ Try.underlying32 rfl ?_ ?_; (· kernel_rfl)))
    refine (eqReplay_same RR FF _ _ _ _ NN _ hRR (by omega) U5.out U2.out).mono ?_
    rintro e w14 ⟨rfl, b14⟩
    replace RO := RO.below b14
    replace G := G.below b14
    replace G5 := G5.below b14
    replace U2 := Lib.hid (U2.out.below b14)
    replace M4 := Lib.hid (M4.out.below b14)
    replace U5 := Lib.hid (U5.out.below b14)
    replace HB := Lib.hid (HB.out.call b14)
    clear b14
    go_wp2_with (refine guardY (isLdY 32) ?_ ?_; (· rfl); refine load_ry rfl 32 _ rfl A4 rfl _ _ _ G _ Try.underlying32 rfl ?_ ?_; (· kernel_rfl))
    refine (heldReplay_any RR FF _ _ NN _ hRR (by omega) M4.out).mono ?_
    rintro e w15 ⟨rfl, b15⟩
    rw [← HZ.out]
    replace RO := RO.below b15
    replace G := G.below b15
    replace G5 := G5.below b15
    replace U2 := Lib.hid (U2.out.below b15)
    replace M4 := Lib.hid (M4.out.below b15)
    replace U5 := Lib.hid (U5.out.below b15)
    replace HB := Lib.hid (HB.out.call b15)
    clear b15
    go_wp2_with fail
    go_ret
    exact ⟨rfl, HB.out⟩
end Go.Proofs.Ytalngdccjoafhab.base
