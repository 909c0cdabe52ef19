/-
  Which pours are useful, on the program's side, walked.
-/
import Derived.Test.YtnldnjnnjfbhnabSortZ
namespace Go.Proofs.Ytnldnjnnjfbhnab.base
open Go.ChangeShapes Go.WideShapes Go.ChangeAt Go.RowKit
set_option linter.unusedVariables false
set_option linter.unusedSimpArgs false

theorem idleB (ns : List Int) (p q : Nat) : idl ns p q = decide (topN (tub ns p) = lay (tub ns p) ∧ lay (tub ns q) = 0) := by
  unfold idl; rw [Bool.eq_iff_iff]; simp

set_option maxHeartbeats 1600000 in
set_option maxRecDepth 100000 in
theorem implUseful (ns : List Int) (w : World) (h24 : ns.length = 24) :
    Calls Try.prog 25 #[row ns] w (UsefPost ns w) := by
  obtain ⟨i0, hi, hz0, hz1, hz2⟩ := info_parts infoPair
  have HB := Lib.hid (((kept_refl w).alloc (.cells (ints ns).toArray 27)).alloc (.cells #[] 36))
  have H := (Has.box w 27 h24 (by omega)).alloc (.cells #[] 36)
  have P0 := Prs.none (w.alloc (.cells (ints ns).toArray 27)) (w.heap.size + 1) (by simp)
  rw [size1] at P0
  have P1 := Lib.hid P0
  clear P0
  rw [row_ints]
  go_enter Try.func25, Try.ntmps25
  go_wp2_with (refine load_has rfl 27 _ rfl _ rfl ?_ 24 ?_ _ Try.underlying27 rfl ?_ ?_; rotate_left; (· (repeat (first | (with_reducible assumption) | ((with_reducible refine Has.box _ _ ?_ ?_) <;> (first | assumption | decide)) | (with_reducible refine Has.alloc ?_ _) | ((with_reducible refine Has.putOther ?_ _ _ ?_); rotate_left; omega; skip) | ((with_reducible refine Has.below ?_ ?_); rotate_left; assumption)))); (· kernel_rfl))
  refine (implPours ns _ h24).mono ?_
  rintro e w1 ⟨pv, rfl, q1, b1⟩
  have H1 := H.below b1
  have HB1 := Lib.hid (HB.out.call b1)
  have P2 := Lib.hid (P1.out.below b1)
  have AP : Hid (∀ z, (Value.slice (some ⟨w.heap.size + 1, 0, none⟩) 0 0).ownBlock = some z → pv.ownBlock ≠ some z) := Lib.hid (fun z hz e => by
    have := (World.ownsRow.lt q1 z e).1
    simp only [Value.ownBlock, Option.some.injEq] at hz
    simp at this; omega)
  have q2 := q1.mono (b' := w.heap.size) HB.out.size
  have H24 := Lib.hid h24
  by_cases hv : vR ns = true
  · have HV := Lib.hid hv
    have E1 := Lib.hid (show usefNA ns = usefN ns (poursN ns 36) by unfold usefNA; rw [if_pos hv])
    have E2 := Lib.hid (show usefFA ns = usefF ns (poursN ns 36) by unfold usefFA; rw [if_pos hv])
    rw [show poursNA ns = poursN ns 36 by unfold poursNA; rw [if_pos hv], show poursFA ns = poursF ns 36 by unfold poursFA; rw [if_pos hv]] at q2
    have P3 : Hid (Prs w1 (w.heap.size + 1) (.slice (some ⟨w.heap.size + 1, 0, none⟩) 0 0) (usefN ns 0) (usefF ns 0)) := Lib.hid (by rw [(usef0 ns).1, (usef0 ns).2]; exact P2.out)
    rw [hv]
    obtain ⟨a, cap, rfl⟩ : ∃ a cap, pv = .slice a (poursN ns 36) cap := by
      rcases q2.2 with ⟨h0, h1⟩ | ⟨g, cap, cur, h0, _⟩
      · exact ⟨_, _, by rw [h1]; exact h0⟩
      · exact ⟨_, _, h0⟩
    have Q1 := Lib.hid q2
    clear H HB P1 P2 q1 q2 b1 h24 hv
    have hN := poursN_le ns 36
    go_wp2_with fail
    go_loopw [4, 20] (fun u i wr => ∃ k : Nat, k ≤ poursN ns 36 ∧ i = .int .i64 k ∧ Has wr w.heap.size ns 24 ∧ Hid (Prs wr (w.heap.size + 1) u (usefN ns k) (usefF ns k)) ∧ Hid (Prs wr w.heap.size (.slice a (poursN ns 36) cap) (poursN ns 36) (poursF ns 36)) ∧ Hid (∀ z, u.ownBlock = some z → (Value.slice a (poursN ns 36) cap).ownBlock ≠ some z) ∧ Hid (Kept w wr)) (fun _ z _ => poursN ns 36 - (intOf z).toNat)
    case atStart => exact ⟨0, by omega, rfl, H1, P3, Q1, AP, HB1⟩
    case round =>
      obtain ⟨k, hk, rfl, G1, GU, GQ, GA, GB⟩ := hrel
      by_cases hkn : k < poursN ns 36
      · have ki : (k : Int) < ((poursN ns 36 : Nat) : Int) := by omega
        have k0 : (0 : Int) ≤ (k : Int) := by omega
        obtain ⟨g, cap2, hv', _, _⟩ := GQ.out.form (by omega)
        injection hv' with ha _ hcap
        subst ha
        subst hcap
        obtain ⟨p6, q6, hc, f1, f2⟩ := pour_k ns k hkn
        have hU := usefN_le ns k
        have rg1 : wr.cell? ⟨g, k * 2, none⟩ = some (.int .i64 (fstP ns k : Int)) := by rw [← f1]; exact GQ.out.cell (k * 2) (by omega)
        have rg2 : wr.cell? ⟨g, k * 2 + 1, none⟩ = some (.int .i64 (sndP ns k : Int)) := by rw [← f2]; exact GQ.out.cell (k * 2 + 1) (by omega)
        have RG : Hid (wr.rangeAt g (k * 2) (ints [(fstP ns k : Int), (sndP ns k : Int)])) := Lib.hid (range_two rg1 rg2)
        clear rg1 rg2 f1 f2 hc
        have pi : (fstP ns k : Int) < 6 := by omega
        have qi : (sndP ns k : Int) < 6 := by omega
        have p4 := tub_len ns _ H24.out p6
        have q4 := tub_len ns _ H24.out q6
        have pv' := vR_tub HV.out _ p6
        have qv' := vR_tub HV.out _ q6
        have l1 : (ints (tub ns (fstP ns k))).length = 4 := by rw [ints_len]; exact p4
        have l2 : (ints (tub ns (sndP ns k))).length = 4 := by rw [ints_len]; exact q4
        have hi1 : (Try.prog.info? 24).map (·.size) = some (ints (tub ns (fstP ns k))).length := by rw [l1]; kernel_rfl
        have hi2 : (Try.prog.info? 24).map (·.size) = some (ints (tub ns (sndP ns k))).length := by rw [l2]; kernel_rfl
        have hP2 : ([(fstP ns k : Int), (sndP ns k : Int)] : List Int).length = 2 := rfl
        have B8 := Has.box (ns := [(fstP ns k : Int), (sndP ns k : Int)]) (n := 2) wr 36 rfl (by omega)
        have G2 := G1.alloc (.cells (ints [(fstP ns k : Int), (sndP ns k : Int)]).toArray 36)
        have GU2 := Lib.hid (GU.out.alloc (.cells (ints [(fstP ns k : Int), (sndP ns k : Int)]).toArray 36))
        have GQ2 := Lib.hid (GQ.out.alloc (.cells (ints [(fstP ns k : Int), (sndP ns k : Int)]).toArray 36))
        have GB2 := Lib.hid (GB.out.alloc (.cells (ints [(fstP ns k : Int), (sndP ns k : Int)]).toArray 36))
        clear G1 GU GQ GB
        go_wp2_with (first | (refine wpList_load_mid rfl 36 _ rfl g (k * 2) rfl (ints [(fstP ns k : Int), (sndP ns k : Int)]) _ RG.out Try.underlying36 rfl (by kernel_rfl) ?_) | (refine store_new rfl 36 _ _ rfl _ _ _ rfl _ rfl _ rfl rfl ?_ ?_ ?_; (· (first | assumption | rfl)); (· kernel_rfl)))
        clear RG
        generalize wr.alloc (.cells (ints [(fstP ns k : Int), (sndP ns k : Int)]).toArray 36) = W2 at *
        generalize wr.heap.size = b8 at *
        refine wp_region_held_drew (S := fun w' => Has w' w.heap.size ns 24 ∧ Has w' b8 [(fstP ns k : Int), (sndP ns k : Int)] 2 ∧ Prs w' (w.heap.size + 1) u4 (usefN ns k) (usefF ns k) ∧ Prs w' w.heap.size (.slice (some ⟨g, 0, none⟩) (poursN ns 36) cap) (poursN ns 36) (poursF ns 36) ∧ Kept w w') (by kernel_rfl) ?_ (fun hHeld => ?_)
        · exact ⟨G2.drew, B8.drew, GU2.out.drewN 1, GQ2.out.drewN 1, GB2.out.drewN 1⟩
        (refine wpAnyH_take (i := 0) (v := ?_) rfl (by kernel_rfl) (by kernel_rfl) (by kernel_rfl) (fun _ _ _ h => h) (Or.inl ⟨by rfl, ?_⟩) hHeld ?_; rotate_left; (· (intro w' hSw; go_simp; try with_reducible rfl)); (try simp only [List.getElem_toArray, List.getElem_cons_zero, List.getElem_cons_succ, Act.put, List.setIfInBounds_toArray, List.set_cons_zero, List.set_cons_succ])); (refine wpAnyH_take (i := 2) (v := ?_) rfl (by kernel_rfl) (by kernel_rfl) (by kernel_rfl) (fun _ _ _ h => h) (Or.inl ⟨by rfl, ?_⟩) hHeld ?_; rotate_left; (· (intro w' hSw; go_simp; try with_reducible rfl)); (try simp only [List.getElem_toArray, List.getElem_cons_zero, List.getElem_cons_succ, Act.put, List.setIfInBounds_toArray, List.set_cons_zero, List.set_cons_succ])); (refine wpAnyH_take (i := 5) (v := ?_) rfl (by kernel_rfl) (by kernel_rfl) (by kernel_rfl) (fun _ _ _ h => h) (Or.inl ⟨by rfl, ?_⟩) hHeld ?_; rotate_left; (· (intro w' hSw; go_simp; try with_reducible rfl)); (try simp only [List.getElem_toArray, List.getElem_cons_zero, List.getElem_cons_succ, Act.put, List.setIfInBounds_toArray, List.set_cons_zero, List.set_cons_succ])); (refine wpAnyH_take (i := 7) (v := ?_) rfl (by kernel_rfl) (by kernel_rfl) (by kernel_rfl) (fun _ _ _ h => h) (Or.inl ⟨by rfl, ?_⟩) hHeld ?_; rotate_left; (· (intro w' hSw; go_simp; try with_reducible rfl)); (try simp only [List.getElem_toArray, List.getElem_cons_zero, List.getElem_cons_succ, Act.put, List.setIfInBounds_toArray, List.set_cons_zero, List.set_cons_succ]))
        refine wpAnyH_take (i := 1) (v := .int .i64 (fstP ns k : Int)) rfl (by kernel_rfl) (by kernel_rfl) (by kernel_rfl) (fun _ _ _ h => h) (Or.inl ⟨by rfl, ?_⟩) hHeld ?_
        · intro w' hSw
          have cc := hSw.2.1.cell 0 (by omega)
          rw [List.getD_cons_zero] at cc
          go_simp
        (try simp only [List.getElem_toArray, List.getElem_cons_zero, List.getElem_cons_succ, Act.put, List.setIfInBounds_toArray, List.set_cons_zero, List.set_cons_succ])
        refine wpAnyH_take (i := 6) (v := .int .i64 (sndP ns k : Int)) rfl (by kernel_rfl) (by kernel_rfl) (by kernel_rfl) (fun _ _ _ h => h) (Or.inl ⟨by rfl, ?_⟩) hHeld ?_
        · intro w' hSw
          have cc := hSw.2.1.cell 1 (by omega)
          rw [List.getD_cons_succ, List.getD_cons_zero] at cc
          go_simp
        (try simp only [List.getElem_toArray, List.getElem_cons_zero, List.getElem_cons_succ, Act.put, List.setIfInBounds_toArray, List.set_cons_zero, List.set_cons_succ])
        (refine wpAnyH_take (i := 3) (v := ?_) rfl (by kernel_rfl) (by kernel_rfl) (by kernel_rfl) (fun _ _ _ h => h) (Or.inl ⟨by rfl, ?_⟩) hHeld ?_; rotate_left; (· (intro w' hSw; go_simp; try with_reducible rfl)); (try simp only [List.getElem_toArray, List.getElem_cons_zero, List.getElem_cons_succ, Act.put, List.setIfInBounds_toArray, List.set_cons_zero, List.set_cons_succ])); (refine wpAnyH_take (i := 8) (v := ?_) rfl (by kernel_rfl) (by kernel_rfl) (by kernel_rfl) (fun _ _ _ h => h) (Or.inl ⟨by rfl, ?_⟩) hHeld ?_; rotate_left; (· (intro w' hSw; go_simp; try with_reducible rfl)); (try simp only [List.getElem_toArray, List.getElem_cons_zero, List.getElem_cons_succ, Act.put, List.setIfInBounds_toArray, List.set_cons_zero, List.set_cons_succ]))
        (refine wpAnyH_take (i := 4) (v := _) rfl (by kernel_rfl) (by kernel_rfl) (by kernel_rfl) (fun _ _ _ h => h) (yieldsIf_load_mid (by rfl) 24 _ rfl _ _ rfl (ints (tub ns (fstP ns k))) _ (fun w' hSw => hSw.1.holds.sub (fstP ns k * 4) 4) Try.underlying24 rfl (hi1)) hHeld ?_; (try simp only [List.getElem_toArray, List.getElem_cons_zero, List.getElem_cons_succ, Act.put, List.setIfInBounds_toArray, List.set_cons_zero, List.set_cons_succ]))
        (refine wpAnyH_take (i := 9) (v := _) rfl (by kernel_rfl) (by kernel_rfl) (by kernel_rfl) (fun _ _ _ h => h) (yieldsIf_load_mid (by rfl) 24 _ rfl _ _ rfl (ints (tub ns (sndP ns k))) _ (fun w' hSw => hSw.1.holds.sub (sndP ns k * 4) 4) Try.underlying24 rfl (hi2)) hHeld ?_; (try simp only [List.getElem_toArray, List.getElem_cons_zero, List.getElem_cons_succ, Act.put, List.setIfInBounds_toArray, List.set_cons_zero, List.set_cons_succ]))
        (refine wpAnyH_ready (rs := [10]) (by kernel_rfl) (by simp) ?_; refine AllReadyH.cons (o := _) rfl (fun K hK => ?_) AllReadyH.nil; (simp only [List.getElem_toArray, List.getElem_cons_zero, List.getElem_cons_succ, Region.wanted, if_true]))
        go_simp
        refine (isIdle_any (tub ns (fstP ns k)) (tub ns (sndP ns k)) _ p4 q4 pv' qv').mono ?_
        rintro e w2 ⟨rfl, b2⟩
        rw [← idleB]
        dsimp only
        (try simp only [List.getElem_toArray, List.getElem_cons_zero, List.getElem_cons_succ, Act.put, List.setIfInBounds_toArray, List.set_cons_zero, List.set_cons_succ])
        refine hK.out _ _ ⟨hHeld.1.below b2, hHeld.2.1.below b2, hHeld.2.2.1.below b2, hHeld.2.2.2.1.below b2, hHeld.2.2.2.2.call b2⟩ (fun hHeld => ?_)
        clear hK K b2
        (refine wpAnyH_take (i := 11) (v := ?_) rfl (by kernel_rfl) (by kernel_rfl) (by kernel_rfl) (fun _ _ _ h => h) (Or.inl ⟨by rfl, ?_⟩) hHeld ?_; rotate_left; (· (intro w' hSw; go_simp; try with_reducible rfl)); (try simp only [List.getElem_toArray, List.getElem_cons_zero, List.getElem_cons_succ, Act.put, List.setIfInBounds_toArray, List.set_cons_zero, List.set_cons_succ]))
        refine wpAnyH_done (by kernel_rfl) ?_ _
        have K1 := hHeld.1
        have K8 := hHeld.2.1
        have KU := Lib.hid hHeld.2.2.1
        have KQ := Lib.hid hHeld.2.2.2.1
        have KB := Lib.hid hHeld.2.2.2.2
        clear hHeld G2 B8 GU2 GQ2 GB2 hi1 hi2
        by_cases hid : idl ns (fstP ns k) (sndP ns k) = true
        · obtain ⟨Y, Y2⟩ := usef_idle hid
          have B2 := Lib.hid (show Prs w2 (w.heap.size + 1) u4 (usefN ns (k + 1)) (usefF ns (k + 1)) by rw [Y, Y2]; exact KU.out)
          rw [hid]
          clear hid Y Y2
          go_wp2_with fail
          go_roundw
          case rel => exact ⟨k + 1, by omega, by go_num, K1, B2, KQ, GA, KB⟩
          case measure => simp [intOf]; omega
        · have hf : idl ns (fstP ns k) (sndP ns k) = false := by simpa using hid
          obtain ⟨Y, Y2⟩ := usef_new hf
          have HY := Lib.hid Y
          have HY2 := Lib.hid Y2
          rw [hf]
          have rg1 : w2.cell? ⟨b8, 0, none⟩ = some (.int .i64 (fstP ns k : Int)) := K8.cell 0 (by omega)
          have rg2 : w2.cell? ⟨b8, 0 + 1, none⟩ = some (.int .i64 (sndP ns k : Int)) := K8.cell 1 (by omega)
          have RG := Lib.hid (range_two rg1 rg2)
          have hbs := KB.out.size
          clear hid hf Y Y2 rg1 rg2
          go_wp2_with (first | (refine wpList_load_mid rfl 36 _ rfl b8 0 rfl [.int .i64 (fstP ns k : Int), .int .i64 (sndP ns k : Int)] _ RG.out Try.underlying36 rfl (by kernel_rfl) ?_) | (at_builtin; refine wpList_append_lies _ rfl _ _ 32 rfl (w.heap.size + 1) 36 i0 (.agg #[.int .i64 0, .int .i64 0]) 2 16 Try.underlying32 hi hz0 hz1 hz2 rfl (by decide) _ (usefN ns k) (ints (usefF ns k)) rfl (World.ownsRow.alloc KU.out _) ⟨w2.heap.size, 0, none⟩ 1 1 [.int .i64 (fstP ns k : Int), .int .i64 (sndP ns k : Int)] rfl rfl (cell_two_new _ _ _ _) (fun x hx => by simp at hx; rcases hx with rfl | rfl <;> rfl) (by decide) (by unfold maxLen; omega) (by omega) (by simp; omega) _ rfl ?_; intro g' cap' w3 hown' hgrow3 hlie hlt3))
          obtain ⟨A2, A3⟩ := prs_app KU.out KB.out (Nat.le_refl _) hown' hgrow3
          have A1 := (K1.alloc (.cells #[.int .i64 (fstP ns k : Int), .int .i64 (sndP ns k : Int)] 36)).grown hgrow3 (Prs.own KU.out)
          have A0 := Lib.hid ((KQ.out.alloc (.cells #[.int .i64 (fstP ns k : Int), .int .i64 (sndP ns k : Int)] 36)).apart hgrow3 (fun z hz => GA.out z hz))
          have GA2 : Hid (∀ z, (Value.slice (some ⟨g', 0, none⟩) (usefN ns k + 1) cap').ownBlock = some z → (Value.slice (some ⟨g, 0, none⟩) (poursN ns 36) cap).ownBlock ≠ some z) := Lib.hid (fun z hz e => by
            simp only [Value.ownBlock, Option.some.injEq] at hz
            subst hz
            rcases hlie with h1 | h1
            · exact GA.out _ h1 e
            · have := (World.ownsRow.lt KQ.out _ e).2
              rw [size1] at h1; omega)
          rw [← HY.out, ← HY2.out] at A2
          have B2 := Lib.hid A2
          have B3 : Hid (Kept w w3) := Lib.hid A3
          clear hown' hgrow3 hlie hlt3 A2 A3
          go_wp2_with fail
          go_roundw
          case rel => exact ⟨k + 1, by omega, by go_num, A1, by rw [← HY2.out]; exact B2, A0, by rw [← HY2.out]; rw [← HY2.out] at GA2; exact GA2, B3⟩
          case measure => simp [intOf]; omega
      · obtain rfl : k = poursN ns 36 := by omega
        go_wp2_with fail
        go_ret2
        exact ⟨_, by rw [HV.out]; rfl, by rw [E1.out, E2.out]; exact GU.out.mono (by omega), GB.out⟩
  · have hf : vR ns = false := by simpa using hv
    have E1 := Lib.hid (show usefNA ns = 0 by unfold usefNA; rw [if_neg hv])
    have E2 := Lib.hid (show usefFA ns = [] by unfold usefFA; rw [if_neg hv])
    rw [hf]
    have HV := Lib.hid hf
    clear hf hv
    go_wp2_with fail
    go_ret2
    exact ⟨.slice (some ⟨w.heap.size + 1, 0, none⟩) 0 0, by rw [HV.out]; rfl, by rw [E1.out, E2.out]; exact P2.out.mono (by omega), HB1.out⟩
end Go.Proofs.Ytnldnjnnjfbhnab.base
