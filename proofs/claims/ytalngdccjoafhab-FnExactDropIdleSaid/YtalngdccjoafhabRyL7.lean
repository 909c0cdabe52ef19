/-
  Exact laws over a replay, walked: DropIdle.
-/
import Derived.Test.YtalngdccjoafhabRyDs
import Derived.Test.YtalngdccjoafhabRyB
namespace Go.Proofs.Ytalngdccjoafhab.base
open Go.ChangeShapes Go.WideShapes Go.ChangeAt Go.RowKit
set_option linter.unusedVariables false
set_option linter.unusedSimpArgs false

set_option maxHeartbeats 6400000 in
set_option maxRecDepth 100000 in
theorem lawDropIdle (ns : List Int) (a : Option Addr) (len cap : Nat) (zs : List Int) (w : World) (h0 : ns.length = 24 ∧ ∀ n ∈ ns, (Lit.int .i64 n).wf = true) (hp : IsPairs w a len zs) :
    Calls Try.prog 3 #[.agg (rpC ns (.slice a len cap)).toArray] w fun e w' => e = .returned (.bool true) ∧ Kept w w' := by
  have h24 := h0.1
  clear h0
  have hml := hp.1
  have H := Ry.box (v := .slice a len cap) w 28 h24
  have HB := Lib.hid ((kept_refl w).alloc (.cells (rpC ns (.slice a len cap)).toArray 28))
  have HP := Lib.hid hp
  clear hp
  go_enter Try.func3, Try.ntmps3
  go_wp2_with (refine guardY (isLdY 28) ?_ ?_; (· rfl); refine load_ry rfl 28 _ rfl w.heap.size rfl _ _ _ H _ Try.underlying28 rfl ?_ ?_; (· kernel_rfl))
  refine (szReplay_any ns a len cap _ h24 hml).mono ?_
  rintro e w0 ⟨⟨r, rfl, hr⟩, b0⟩
  replace H := H.below b0
  replace HB := Lib.hid (HB.out.call b0)
  clear b0
  by_cases hneg : r < 0
  · clear hr
    go_wp2_with fail
    go_ret
    exact ⟨rfl, HB.out⟩
  have hlen : len ≤ 1048576 := by omega
  have hneg2 : decide (r < 0) = false := by simpa using hneg
  clear hr
  have KS := Lib.hid (fun v W (q : Rw W 0 v len zs) => specDrop ns zs v len 0 W h24 hlen q)
  have KI := Lib.hid (fun v W (q : Rw W 0 v len zs) => implDrop ns zs v len 0 W h24 hlen q)
  unfold RepPost at KS KI
  have hRR := orR_len h24 (rpOk ns zs len)
  have hNN := diN_le ns zs len
  obtain ⟨RR, eRR⟩ : ∃ x, orR (rpOk ns zs len) (ns) = x := ⟨_, rfl⟩
  rw [eRR] at KS KI hRR
  obtain ⟨NN, eNN⟩ : ∃ x, orN (rpOk ns zs len) (diNA ns zs len) = x := ⟨_, rfl⟩
  rw [eNN] at KS KI hNN
  obtain ⟨FF, eFF⟩ : ∃ x, orF (rpOk ns zs len) (diFA ns zs len) = x := ⟨_, rfl⟩
  rw [eFF] at KS KI
  obtain ⟨OK, eOK⟩ : ∃ x, rpOk ns zs len = x := ⟨_, rfl⟩
  rw [eOK] at KS KI
  clear eRR eNN eFF eOK
  go_wp2_with (refine guardY (isLdY 28) ?_ ?_; (· rfl); refine load_ry rfl 28 _ rfl w.heap.size rfl _ _ _ H _ Try.underlying28 rfl ?_ ?_; (· kernel_rfl))
  refine (toReplay_any ns a len cap zs _ h24 (HP.out.below HB.out) hlen).mono ?_
  rintro e w1 ⟨v1, rfl, q1, b1⟩
  replace H := H.below b1
  replace HB := Lib.hid (HB.out.call b1)
  have Q1 := Lib.hid (q1.rw.mono (b' := 0) (Nat.zero_le _))
  have hs1 : w.heap.size < w1.heap.size := H.lt
  clear q1 b1
  go_wp2_with fail
  refine (KS.out v1 _ Q1.out).mono ?_
  rintro e w2 ⟨u2, rfl, q2, b2⟩
  replace H := H.below b2
  replace HB := Lib.hid (HB.out.call b2)
  clear Q1 KS
  have own2 := Lib.hid (fun h0 z hz => (show w.heap.size < z ∧ z < w2.heap.size from by have := q2.ownlt h0 z hz; omega))
  obtain ⟨ua2, uc2, rfl⟩ := q2.shape
  have U2 := Lib.hid q2
  have hs2 : w.heap.size < w2.heap.size := by have := b2.size; omega
  clear q2 b2
  have RO := Ry.box (v := .slice ua2 NN uc2) w2 32 hRR
  replace H := H.alloc (.cells (rpC RR (.slice ua2 NN uc2)).toArray 32)
  replace U2 := Lib.hid (U2.out.alloc (.cells (rpC RR (.slice ua2 NN uc2)).toArray 32))
  replace HB := Lib.hid (HB.out.alloc (.cells (rpC RR (.slice ua2 NN uc2)).toArray 32))
  go_upto_region 6 with (refine guardY (isStY 32) ?_ ?_; (· rfl); refine store_newry rfl 32 _ _ rfl w2 _ _ rfl _ rfl RR (.slice ua2 NN uc2) rfl rfl rfl hRR rfl ?_ ?_; (· kernel_rfl))
  have hlt2 := RO.lt
  obtain ⟨A2, hA2⟩ : ∃ s, w2.heap.size = s := ⟨_, rfl⟩
  rw [hA2] at own2 RO hs2 hlt2 ⊢
  generalize w2.alloc (.cells (rpC RR (.slice ua2 NN uc2)).toArray 32) = W2 at *
  clear hA2
  go_wp2_with (refine guardY (isLdY 28) ?_ ?_; (· rfl); refine load_ry rfl 28 _ rfl w.heap.size rfl _ _ _ H _ Try.underlying28 rfl ?_ ?_; (· kernel_rfl))
  refine (toReplay_any ns a len cap zs _ h24 (HP.out.below HB.out) hlen).mono ?_
  rintro e w3 ⟨v3, rfl, q3, b3⟩
  replace H := H.below b3
  replace RO := RO.below b3
  replace U2 := Lib.hid (U2.out.below b3)
  replace HB := Lib.hid (HB.out.call b3)
  have own3 := Lib.hid (fun z hz => (show A2 ≤ z ∧ z < w3.heap.size from by have := World.ownsRow.lt q3 z hz; omega))
  have hs3 : A2 < w3.heap.size ∨ A2 ≤ w3.heap.size := by have := b3.size; omega
  have Q3 := Lib.hid q3.rw
  obtain ⟨va3, vc3, rfl⟩ := q3.rw.shape
  clear q3 b3
  have X := Ry.box (v := .slice va3 len vc3) w3 32 h24
  replace H := H.alloc (.cells (rpC ns (.slice va3 len vc3)).toArray 32)
  replace RO := RO.alloc (.cells (rpC ns (.slice va3 len vc3)).toArray 32)
  replace U2 := Lib.hid (U2.out.alloc (.cells (rpC ns (.slice va3 len vc3)).toArray 32))
  replace Q3 := Lib.hid (Q3.out.alloc (.cells (rpC ns (.slice va3 len vc3)).toArray 32))
  replace HB := Lib.hid (HB.out.alloc (.cells (rpC ns (.slice va3 len vc3)).toArray 32))
  go_upto_region 7 with (refine guardY (isStY 32) ?_ ?_; (· rfl); refine store_newry rfl 32 _ _ rfl w3 _ _ rfl _ rfl ns (.slice va3 len vc3) rfl rfl rfl h24 rfl ?_ ?_; (· kernel_rfl))
  have hlt3 := X.lt
  obtain ⟨A3, hA3⟩ : ∃ s, w3.heap.size = s := ⟨_, rfl⟩
  rw [hA3] at X hlt3 own3 hs3 ⊢
  generalize w3.alloc (.cells (rpC ns (.slice va3 len vc3)).toArray 32) = W3 at *
  clear hA3
  have hs3 : A2 ≤ A3 := by omega
  go_wp2_with (refine guardY (isLdY 32) ?_ ?_; (· rfl); refine load_ry rfl 32 _ rfl A3 rfl _ _ _ X _ Try.underlying32 rfl ?_ ?_; (· kernel_rfl))
  refine (KI.out _ _ (Q3.out.mono (b' := 0) (Nat.zero_le _))).mono ?_
  rintro e w4 ⟨u4, rfl, q4, b4⟩
  replace H := H.below b4
  replace RO := RO.below b4
  replace X := X.below b4
  replace U2 := Lib.hid (U2.out.below b4)
  replace Q3 := Lib.hid (Q3.out.below b4)
  replace HB := Lib.hid (HB.out.call b4)
  have own4 := Lib.hid (fun h0 z hz => (show A3 < z ∧ z < w4.heap.size from by have := q4.ownlt h0 z hz; omega))
  obtain ⟨ua4, uc4, rfl⟩ := q4.shape
  have U4 := Lib.hid q4
  have hs4 : A3 < w4.heap.size := by have := b4.size; omega
  clear q4 b4
  have G := Ry.box (v := .slice ua4 NN uc4) w4 32 hRR
  replace H := H.alloc (.cells (rpC RR (.slice ua4 NN uc4)).toArray 32)
  replace RO := RO.alloc (.cells (rpC RR (.slice ua4 NN uc4)).toArray 32)
  replace X := X.alloc (.cells (rpC RR (.slice ua4 NN uc4)).toArray 32)
  replace U2 := Lib.hid (U2.out.alloc (.cells (rpC RR (.slice ua4 NN uc4)).toArray 32))
  replace Q3 := Lib.hid (Q3.out.alloc (.cells (rpC RR (.slice ua4 NN uc4)).toArray 32))
  replace U4 := Lib.hid (U4.out.alloc (.cells (rpC RR (.slice ua4 NN uc4)).toArray 32))
  replace HB := Lib.hid (HB.out.alloc (.cells (rpC RR (.slice ua4 NN uc4)).toArray 32))
  go_upto_region 8 with (refine guardY (isStY 32) ?_ ?_; (· rfl); refine store_newry rfl 32 _ _ rfl w4 _ _ rfl _ rfl RR (.slice ua4 NN uc4) rfl rfl rfl hRR rfl ?_ ?_; (· kernel_rfl))
  obtain ⟨A4, hA4⟩ : ∃ s, w4.heap.size = s := ⟨_, rfl⟩
  rw [hA4] at own4 G hs4 ⊢
  generalize w4.alloc (.cells (rpC RR (.slice ua4 NN uc4)).toArray 32) = W4 at *
  clear hA4
  go_wp2_with (first | (refine guardY (isLdY 32) ?_ ?_; (· rfl); refine load_ry rfl 32 _ rfl A4 rfl _ _ _ G _ Try.underlying32 rfl ?_ ?_; (· kernel_rfl)) | (refine guardY (isLdY 32) ?_ ?_; (· rfl); refine load_ry rfl 32 _ rfl A2 rfl _ _ _ RO _ Try.underlying32 rfl ?_ ?_; (· kernel_rfl)))
  refine (eqReplay_same RR FF _ _ _ _ NN _ hRR (by omega) U4.out U2.out).mono ?_
  rintro e w5 ⟨rfl, b5⟩
  replace H := H.below b5
  replace RO := RO.below b5
  replace X := X.below b5
  replace G := G.below b5
  replace U2 := Lib.hid (U2.out.below b5)
  replace Q3 := Lib.hid (Q3.out.below b5)
  replace U4 := Lib.hid (U4.out.below b5)
  replace HB := Lib.hid (HB.out.call b5)
  clear b5
  go_wp2_with fail
  have hiX : (Try.prog.info? 32).map (·.size) = some (rpC ns (.slice va3 len vc3)).length := by rw [rpC_len h24]; kernel_rfl
  have hiH : (Try.prog.info? 28).map (·.size) = some (rpC ns (.slice a len cap)).length := by rw [rpC_len h24]; kernel_rfl
  refine wp_region_held_drew (S := fun w' => Kept w5 w') (by kernel_rfl) ((kept_refl w5).drewN 1) (fun hHeld => ?_)
  (refine wpAnyH_take (i := 0) (v := _) rfl (by kernel_rfl) (by kernel_rfl) (by kernel_rfl) (fun _ _ _ h => h) (yieldsIf_load_mid (by rfl) 32 _ rfl _ _ rfl (rpC ns (.slice va3 len vc3)) _ (fun w' hSw => (X.below hSw).1.range) Try.underlying32 rfl (hiX)) hHeld ?_; (try simp only [List.getElem_toArray, List.getElem_cons_zero, List.getElem_cons_succ, Act.put, List.setIfInBounds_toArray, List.set_cons_zero, List.set_cons_succ]))
  (refine wpAnyH_take (i := 1) (v := _) rfl (by kernel_rfl) (by kernel_rfl) (by kernel_rfl) (fun _ _ _ h => h) (yieldsIf_load_mid (by rfl) 28 _ rfl _ _ rfl (rpC ns (.slice a len cap)) _ (fun w' hSw => (H.below hSw).1.range) Try.underlying28 rfl (hiH)) hHeld ?_; (try simp only [List.getElem_toArray, List.getElem_cons_zero, List.getElem_cons_succ, Act.put, List.setIfInBounds_toArray, List.set_cons_zero, List.set_cons_succ]))
  (refine wpAnyH_ready (rs := [2]) (by kernel_rfl) (by simp) ?_; refine AllReadyH.cons (o := _) rfl (fun K hK => ?_) AllReadyH.nil; (simp only [List.getElem_toArray, List.getElem_cons_zero, List.getElem_cons_succ, Region.wanted, if_true]))
  go_simp
  refine (toReplay_any ns a len cap zs _ h24 (HP.out.below (HB.out.call hHeld)) hlen).mono ?_
  rintro e w6 ⟨v6, rfl, q6, b6⟩
  dsimp only
  (try simp only [List.getElem_toArray, List.getElem_cons_zero, List.getElem_cons_succ, Act.put, List.setIfInBounds_toArray, List.set_cons_zero, List.set_cons_succ])
  have K6 := Kept.call hHeld b6
  have Q6 := Lib.hid q6.rw
  refine hK.out _ _ K6 (fun hHeld => ?_)
  clear hK K b6 q6 hHeld
  have hHeld := K6
  (refine wpAnyH_ready (rs := [3]) (by kernel_rfl) (by simp) ?_; refine AllReadyH.cons (o := _) rfl (fun K hK => ?_) AllReadyH.nil; (simp only [List.getElem_toArray, List.getElem_cons_zero, List.getElem_cons_succ, Region.wanted, if_true]))
  go_simp
  refine (eqReplay_same ns zs _ v6 _ _ len _ h24 hlen (Q3.out.below K6) Q6.out).mono ?_
  rintro e w7 ⟨rfl, b7⟩
  dsimp only
  (try simp only [List.getElem_toArray, List.getElem_cons_zero, List.getElem_cons_succ, Act.put, List.setIfInBounds_toArray, List.set_cons_zero, List.set_cons_succ])
  have K7 := Kept.call K6 b7
  refine hK.out _ _ K7 (fun hHeld => ?_)
  clear hK K b7 K6 Q6
  (refine wpAnyH_take (i := 4) (v := ?_) rfl (by kernel_rfl) (by kernel_rfl) (by kernel_rfl) (fun _ _ _ h => h) (Or.inl ⟨by rfl, ?_⟩) hHeld ?_; rotate_left; (· (intro w' hSw; go_simp; try with_reducible rfl)); (try simp only [List.getElem_toArray, List.getElem_cons_zero, List.getElem_cons_succ, Act.put, List.setIfInBounds_toArray, List.set_cons_zero, List.set_cons_succ]))
  refine wpAnyH_done (by kernel_rfl) ?_ _
  clear hHeld
  replace H := H.below K7
  replace RO := RO.below K7
  replace X := X.below K7
  replace G := G.below K7
  replace U2 := Lib.hid (U2.out.below K7)
  replace Q3 := Lib.hid (Q3.out.below K7)
  replace U4 := Lib.hid (U4.out.below K7)
  replace HB := Lib.hid (HB.out.call K7)
  clear K7 hiX hiH
  go_wp2_with (refine guardY (isLdY 32) ?_ ?_; (· rfl); refine load_ry rfl 32 _ rfl A3 rfl _ _ _ X _ Try.underlying32 rfl ?_ ?_; (· kernel_rfl))
  refine (markReplay_any ns zs _ _ len _ h24 hlen Q3.out).mono ?_
  rintro e w8 ⟨rfl, m1, ⟨r8, m2, m3⟩⟩
  obtain ⟨y, hy, hy0⟩ : ∃ y : Int, y = ((1 + len * 2 : Nat) : Int) ∧ 0 ≤ y := ⟨_, rfl, by omega⟩
  have HY := Lib.hid hy
  rw [← HY.out]
  clear hy
  have k8 := Lib.hid (fun z hz => (show A2 ≤ z ∧ z < A3 from by obtain ⟨x1, x2, x3⟩ := m3 z hz; exact own3.out z x2))
  replace k8 := Lib.hid (fun z hz => (show A2 < z ∧ z < A3 from by obtain ⟨x1, x2, x3⟩ := m3 z hz; have := own3.out z x2; omega))
  replace H := H.grown m2 (fun e => by have := k8.out _ e.symm; omega)
  replace RO := RO.grown m2 (fun e => by have := k8.out _ e.symm; omega)
  replace G := G.grown m2 (fun e => by have := k8.out _ e.symm; omega)
  replace U2 := Lib.hid (U2.out.grownP m2 (fun h0 z hz => .inr (fun e => by have := k8.out z hz; have := own2.out h0 z e; omega)))
  replace U4 := Lib.hid (U4.out.grownP m2 (fun h0 z hz => .inr (fun e => by have := k8.out z hz; have := own4.out h0 z e; omega)))
  replace HB : Hid (Kept w w8) := Lib.hid (HB.out.grown m2 HB.out.size (fun z hz => by have := k8.out z hz; omega))
  clear m1 m2 m3 k8 X Q3
  have yl : decide (y < 0) = false := by simp; omega
  go_wp2_with (first | (refine guardY (isLdY 32) ?_ ?_; (· rfl); refine load_ry rfl 32 _ rfl A4 rfl _ _ _ G _ Try.underlying32 rfl ?_ ?_; (· kernel_rfl)) | (refine guardY (isLdY 32) ?_ ?_; (· rfl); refine load_ry rfl 32 _ rfl A2 rfl _ _ _ RO _ Try.underlying32 rfl ?_ ?_; (· kernel_rfl)))
  refine (eqReplay_same RR FF _ _ _ _ NN _ hRR (by omega) U4.out U2.out).mono ?_
  rintro e w9 ⟨rfl, b9⟩
  replace H := H.below b9
  replace RO := RO.below b9
  replace G := G.below b9
  replace U2 := Lib.hid (U2.out.below b9)
  replace U4 := Lib.hid (U4.out.below b9)
  replace HB := Lib.hid (HB.out.call b9)
  clear b9
  go_wp2_with (refine guardY (isLdY 32) ?_ ?_; (· rfl); refine load_ry rfl 32 _ rfl A4 rfl _ _ _ G _ Try.underlying32 rfl ?_ ?_; (· kernel_rfl))
  refine (markReplay_any RR FF _ _ NN _ hRR (by omega) U4.out).mono ?_
  rintro e w10 ⟨rfl, m1, ⟨r8, m2, m3⟩⟩
  obtain ⟨z, hz, hz0⟩ : ∃ z : Int, z = ((1 + NN * 2 : Nat) : Int) ∧ 0 ≤ z := ⟨_, rfl, by omega⟩
  have HZ := Lib.hid hz
  rw [← HZ.out]
  clear hz
  have k8 := Lib.hid (fun z hz => (show A3 < z ∧ z < A4 from by obtain ⟨x1, x2, x3⟩ := m3 z hz; exact own4.out x3 z x2))
  replace H := H.grown m2 (fun e => by have := k8.out _ e.symm; omega)
  replace RO := RO.grown m2 (fun e => by have := k8.out _ e.symm; omega)
  replace G := G.grown m2 (fun e => by have := k8.out _ e.symm; omega)
  replace U2 := Lib.hid (U2.out.grownP m2 (fun h0 z hz => .inr (fun e => by have := k8.out z hz; have := own2.out h0 z e; omega)))
  replace HB : Hid (Kept w w10) := Lib.hid (HB.out.grown m2 HB.out.size (fun z hz => by have := k8.out z hz; omega))
  have M4 := Lib.hid m1
  clear m1 m2 m3 k8 U4
  have zl : decide (z < 0) = false := by simp; omega
  go_wp2_with (refine guardY (isLdY 32) ?_ ?_; (· rfl); refine load_ry rfl 32 _ rfl A4 rfl _ _ _ G _ Try.underlying32 rfl ?_ ?_; (· kernel_rfl))
  refine (heldReplay_any RR FF _ _ NN _ hRR (by omega) M4.out).mono ?_
  rintro e w11 ⟨rfl, b11⟩
  rw [← HZ.out]
  replace H := H.below b11
  replace RO := RO.below b11
  replace G := G.below b11
  replace U2 := Lib.hid (U2.out.below b11)
  replace M4 := Lib.hid (M4.out.below b11)
  replace HB := Lib.hid (HB.out.call b11)
  clear b11
  go_wp2_with (refine guardY (isLdY 28) ?_ ?_; (· rfl); refine load_ry rfl 28 _ rfl w.heap.size rfl _ _ _ H _ Try.underlying28 rfl ?_ ?_; (· kernel_rfl))
  refine (toReplay_any ns a len cap zs _ h24 (HP.out.below HB.out) hlen).mono ?_
  rintro e w12 ⟨v12, rfl, q12, b12⟩
  replace H := H.below b12
  replace RO := RO.below b12
  replace G := G.below b12
  replace U2 := Lib.hid (U2.out.below b12)
  replace M4 := Lib.hid (M4.out.below b12)
  replace HB := Lib.hid (HB.out.call b12)
  have Q12 := Lib.hid (q12.rw.mono (b' := 0) (Nat.zero_le _))
  clear q12 b12
  go_wp2_with fail
  refine (KI.out v12 _ Q12.out).mono ?_
  rintro e w13 ⟨u13, rfl, q13, b13⟩
  clear H
  replace RO := RO.below b13
  replace G := G.below b13
  replace U2 := Lib.hid (U2.out.below b13)
  replace M4 := Lib.hid (M4.out.below b13)
  replace HB := Lib.hid (HB.out.call b13)
  obtain ⟨ua5, uc5, rfl⟩ := q13.shape
  have U5 := Lib.hid q13
  clear q13 b13 Q12 KI
  have G5 := Ry.box (v := .slice ua5 NN uc5) w13 32 hRR
  replace RO := RO.alloc (.cells (rpC RR (.slice ua5 NN uc5)).toArray 32)
  replace G := G.alloc (.cells (rpC RR (.slice ua5 NN uc5)).toArray 32)
  replace U2 := Lib.hid (U2.out.alloc (.cells (rpC RR (.slice ua5 NN uc5)).toArray 32))
  replace M4 := Lib.hid (M4.out.alloc (.cells (rpC RR (.slice ua5 NN uc5)).toArray 32))
  replace U5 := Lib.hid (U5.out.alloc (.cells (rpC RR (.slice ua5 NN uc5)).toArray 32))
  replace HB := Lib.hid (HB.out.alloc (.cells (rpC RR (.slice ua5 NN uc5)).toArray 32))
  go_upto_region 25 with (refine guardY (isStY 32) ?_ ?_; (· rfl); refine store_newry rfl 32 _ _ rfl w13 _ _ rfl _ rfl RR (.slice ua5 NN uc5) rfl rfl rfl hRR rfl ?_ ?_; (· kernel_rfl))
  obtain ⟨A5, hA5⟩ : ∃ s, w13.heap.size = s := ⟨_, rfl⟩
  rw [hA5] at G5 ⊢
  generalize w13.alloc (.cells (rpC RR (.slice ua5 NN uc5)).toArray 32) = W5 at *
  clear hA5
  go_wp2_with (first | (refine guardY (isLdY 32) ?_ ?_; (· rfl); refine load_ry rfl 32 _ rfl A5 rfl _ _ _ G5 _ Try.underlying32 rfl ?_ ?_; (· kernel_rfl)) | (refine guardY (isLdY 32) ?_ ?_; (· rfl); refine load_ry rfl 32 _ rfl A2 rfl _ _ _ RO _ Try.underlying32 rfl ?_ ?_; (· kernel_rfl)))
  refine (eqReplay_same RR FF _ _ _ _ NN _ hRR (by omega) U5.out U2.out).mono ?_
  rintro e w14 ⟨rfl, b14⟩
  replace RO := RO.below b14
  replace G := G.below b14
  replace G5 := G5.below b14
  replace U2 := Lib.hid (U2.out.below b14)
  replace M4 := Lib.hid (M4.out.below b14)
  replace U5 := Lib.hid (U5.out.below b14)
  replace HB := Lib.hid (HB.out.call b14)
  clear b14
  go_wp2_with (refine guardY (isLdY 32) ?_ ?_; (· rfl); refine load_ry rfl 32 _ rfl A4 rfl _ _ _ G _ Try.underlying32 rfl ?_ ?_; (· kernel_rfl))
  refine (heldReplay_any RR FF _ _ NN _ hRR (by omega) M4.out).mono ?_
  rintro e w15 ⟨rfl, b15⟩
  rw [← HZ.out]
  replace RO := RO.below b15
  replace G := G.below b15
  replace G5 := G5.below b15
  replace U2 := Lib.hid (U2.out.below b15)
  replace M4 := Lib.hid (M4.out.below b15)
  replace U5 := Lib.hid (U5.out.below b15)
  replace HB := Lib.hid (HB.out.call b15)
  clear b15
  go_wp2_with fail
  go_ret
  exact ⟨rfl, HB.out⟩
end Go.Proofs.Ytalngdccjoafhab.base
