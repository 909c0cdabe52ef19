/-
  Layers moved from one tube to another, on the program's side, walked.
-/
import Derived.Test.YtnldnjnnjfbhnaaBackM
namespace Go.Proofs.Ytnldnjnnjfbhnaa.base
open Go.ChangeShapes Go.WideShapes Go.ChangeAt Go.RowKit
set_option linter.unusedVariables false
set_option linter.unusedSimpArgs false

set_option maxHeartbeats 6400000 in
set_option maxRecDepth 100000 in
theorem move_any (ns : List Int) (p q m : Nat) (w : World) (M : MoveOk ns p q m) :
    Calls Try.prog 33 #[row ns, .int .i64 (p : Nat), .int .i64 (q : Nat), .int .i64 (m : Nat)] w fun e w' => e = .returned (.agg (ints (moveT ns p q m)).toArray) ∧ Kept w w' := by
  have h24 := M.len
  have hp := M.hp
  have hq := M.hq
  have HB := Lib.hid (((kept_refl w).alloc (.cells (ints ns).toArray 27)).alloc (.cells #[.int .i64 0, .int .i64 0, .int .i64 0, .int .i64 0, .int .i64 0, .int .i64 0, .int .i64 0, .int .i64 0, .int .i64 0, .int .i64 0, .int .i64 0, .int .i64 0, .int .i64 0, .int .i64 0, .int .i64 0, .int .i64 0, .int .i64 0, .int .i64 0, .int .i64 0, .int .i64 0, .int .i64 0, .int .i64 0, .int .i64 0, .int .i64 0] 27))
  have H := (Has.box w 27 h24 (by omega)).alloc (.cells #[.int .i64 0, .int .i64 0, .int .i64 0, .int .i64 0, .int .i64 0, .int .i64 0, .int .i64 0, .int .i64 0, .int .i64 0, .int .i64 0, .int .i64 0, .int .i64 0, .int .i64 0, .int .i64 0, .int .i64 0, .int .i64 0, .int .i64 0, .int .i64 0, .int .i64 0, .int .i64 0, .int .i64 0, .int .i64 0, .int .i64 0, .int .i64 0] 27)
  have Z := (Has.zero24 (w.alloc (.cells (ints ns).toArray 27)) 27).at (size1 _ _)
  have sA := tub_len ns p h24 hp
  have sB := tub_len ns q h24 hq
  have vp := vR_tub M.v p hp
  have vq := vR_tub M.v q hq
  have hpi : (p : Int) < 6 := by omega
  have hp0 : (0 : Int) ≤ (p : Int) := by omega
  have hqi : (q : Int) < 6 := by omega
  have hq0 : (0 : Int) ≤ (q : Int) := by omega
  have l1 : (ints (tub ns p)).length = 4 := by rw [ints_len]; exact sA
  have l2 : (ints (tub ns q)).length = 4 := by rw [ints_len]; exact sB
  have hi1 : (Try.prog.info? 24).map (·.size) = some (ints (tub ns p)).length := by rw [l1]; kernel_rfl
  have hi2 : (Try.prog.info? 24).map (·.size) = some (ints (tub ns q)).length := by rw [l2]; kernel_rfl
  have HM := Lib.hid M
  clear M
  rw [row_ints]
  go_enter Try.func33, Try.ntmps33
  go_wp2_with fail
  generalize hW : ((w.alloc (.cells (ints ns).toArray 27)).alloc (.cells #[.int .i64 0, .int .i64 0, .int .i64 0, .int .i64 0, .int .i64 0, .int .i64 0, .int .i64 0, .int .i64 0, .int .i64 0, .int .i64 0, .int .i64 0, .int .i64 0, .int .i64 0, .int .i64 0, .int .i64 0, .int .i64 0, .int .i64 0, .int .i64 0, .int .i64 0, .int .i64 0, .int .i64 0, .int .i64 0, .int .i64 0, .int .i64 0] 27)) = W at *
  have hWs : W.heap.size = w.heap.size + 1 + 1 := by rw [← hW]; simp
  clear hW
  refine wp_region_held_drew (S := fun w' => Has w' w.heap.size ns 24) (by kernel_rfl) H.drew (fun hHeld => ?_)
  (refine wpAnyH_take (i := 0) (v := ?_) rfl (by kernel_rfl) (by kernel_rfl) (by kernel_rfl) (fun _ _ _ h => h) (Or.inl ⟨by rfl, ?_⟩) hHeld ?_; rotate_left; (· (intro w' hSw; go_simp; try with_reducible rfl)); (try simp only [List.getElem_toArray, List.getElem_cons_zero, List.getElem_cons_succ, Act.put, List.setIfInBounds_toArray, List.set_cons_zero, List.set_cons_succ])); (refine wpAnyH_take (i := 1) (v := ?_) rfl (by kernel_rfl) (by kernel_rfl) (by kernel_rfl) (fun _ _ _ h => h) (Or.inl ⟨by rfl, ?_⟩) hHeld ?_; rotate_left; (· (intro w' hSw; go_simp; try with_reducible rfl)); (try simp only [List.getElem_toArray, List.getElem_cons_zero, List.getElem_cons_succ, Act.put, List.setIfInBounds_toArray, List.set_cons_zero, List.set_cons_succ])); (refine wpAnyH_take (i := 2) (v := ?_) rfl (by kernel_rfl) (by kernel_rfl) (by kernel_rfl) (fun _ _ _ h => h) (Or.inl ⟨by rfl, ?_⟩) hHeld ?_; rotate_left; (· (intro w' hSw; go_simp; try with_reducible rfl)); (try simp only [List.getElem_toArray, List.getElem_cons_zero, List.getElem_cons_succ, Act.put, List.setIfInBounds_toArray, List.set_cons_zero, List.set_cons_succ])); (refine wpAnyH_take (i := 4) (v := ?_) rfl (by kernel_rfl) (by kernel_rfl) (by kernel_rfl) (fun _ _ _ h => h) (Or.inl ⟨by rfl, ?_⟩) hHeld ?_; rotate_left; (· (intro w' hSw; go_simp; try with_reducible rfl)); (try simp only [List.getElem_toArray, List.getElem_cons_zero, List.getElem_cons_succ, Act.put, List.setIfInBounds_toArray, List.set_cons_zero, List.set_cons_succ])); (refine wpAnyH_take (i := 5) (v := ?_) rfl (by kernel_rfl) (by kernel_rfl) (by kernel_rfl) (fun _ _ _ h => h) (Or.inl ⟨by rfl, ?_⟩) hHeld ?_; rotate_left; (· (intro w' hSw; go_simp; try with_reducible rfl)); (try simp only [List.getElem_toArray, List.getElem_cons_zero, List.getElem_cons_succ, Act.put, List.setIfInBounds_toArray, List.set_cons_zero, List.set_cons_succ])); (refine wpAnyH_take (i := 6) (v := ?_) rfl (by kernel_rfl) (by kernel_rfl) (by kernel_rfl) (fun _ _ _ h => h) (Or.inl ⟨by rfl, ?_⟩) hHeld ?_; rotate_left; (· (intro w' hSw; go_simp; try with_reducible rfl)); (try simp only [List.getElem_toArray, List.getElem_cons_zero, List.getElem_cons_succ, Act.put, List.setIfInBounds_toArray, List.set_cons_zero, List.set_cons_succ]))
  (refine wpAnyH_take (i := 3) (v := _) rfl (by kernel_rfl) (by kernel_rfl) (by kernel_rfl) (fun _ _ _ h => h) (yieldsIf_load_mid (by rfl) 24 _ rfl _ _ rfl (ints (tub ns p)) _ (fun w' hSw => hSw.holds.sub (p * 4) 4) Try.underlying24 rfl (hi1)) hHeld ?_; (try simp only [List.getElem_toArray, List.getElem_cons_zero, List.getElem_cons_succ, Act.put, List.setIfInBounds_toArray, List.set_cons_zero, List.set_cons_succ]))
  (refine wpAnyH_take (i := 7) (v := _) rfl (by kernel_rfl) (by kernel_rfl) (by kernel_rfl) (fun _ _ _ h => h) (yieldsIf_load_mid (by rfl) 24 _ rfl _ _ rfl (ints (tub ns q)) _ (fun w' hSw => hSw.holds.sub (q * 4) 4) Try.underlying24 rfl (hi2)) hHeld ?_; (try simp only [List.getElem_toArray, List.getElem_cons_zero, List.getElem_cons_succ, Act.put, List.setIfInBounds_toArray, List.set_cons_zero, List.set_cons_succ]))
  refine wpAnyH_ready (rs := [8, 9]) (by kernel_rfl) (by simp) ?_
  refine AllReadyH.cons (o := _) rfl (fun K hK => ?_) (AllReadyH.cons (o := _) rfl (fun K hK => ?_) AllReadyH.nil)
  · (simp only [List.getElem_toArray, List.getElem_cons_zero, List.getElem_cons_succ, Region.wanted, if_true])
    go_simp
    (try simp only [List.getElem_toArray, List.getElem_cons_zero, List.getElem_cons_succ, Act.put, List.setIfInBounds_toArray, List.set_cons_zero, List.set_cons_succ])
    refine hK.out _ _ (hHeld.alloc _) (fun hHeld => ?_)
    clear hK K
    (refine wpAnyH_ready (rs := [9]) (by kernel_rfl) (by simp) ?_; refine AllReadyH.cons (o := _) rfl (fun K hK => ?_) AllReadyH.nil; (simp only [List.getElem_toArray, List.getElem_cons_zero, List.getElem_cons_succ, Region.wanted, if_true]))
    go_simp
    (try simp only [List.getElem_toArray, List.getElem_cons_zero, List.getElem_cons_succ, Act.put, List.setIfInBounds_toArray, List.set_cons_zero, List.set_cons_succ])
    refine hK.out _ _ (hHeld.alloc _) (fun hHeld => ?_)
    clear hK K
    have F0 : Has ((W.alloc (.cells #[.int .i64 0, .int .i64 0, .int .i64 0, .int .i64 0] 68)).alloc (.cells #[.int .i64 0, .int .i64 0, .int .i64 0, .int .i64 0] 68)).drew (w.heap.size + 1 + 1) [0, 0, 0, 0] 4 := (((Has.zero W 68).alloc (.cells #[.int .i64 0, .int .i64 0, .int .i64 0, .int .i64 0] 68)).drew).at hWs
    have T0 : Has ((W.alloc (.cells #[.int .i64 0, .int .i64 0, .int .i64 0, .int .i64 0] 68)).alloc (.cells #[.int .i64 0, .int .i64 0, .int .i64 0, .int .i64 0] 68)).drew (w.heap.size + 1 + 1 + 1) [0, 0, 0, 0] 4 := ((Has.zero2 W (.cells #[.int .i64 0, .int .i64 0, .int .i64 0, .int .i64 0] 68) 68).drew).at (by rw [hWs])
    have H0 := (((H.alloc (.cells #[.int .i64 0, .int .i64 0, .int .i64 0, .int .i64 0] 68)).alloc (.cells #[.int .i64 0, .int .i64 0, .int .i64 0, .int .i64 0] 68))).drew
    have Y0 := (((Z.alloc (.cells #[.int .i64 0, .int .i64 0, .int .i64 0, .int .i64 0] 68)).alloc (.cells #[.int .i64 0, .int .i64 0, .int .i64 0, .int .i64 0] 68))).drew
    have K0 := (((HB.out.alloc (.cells #[.int .i64 0, .int .i64 0, .int .i64 0, .int .i64 0] 68)).alloc (.cells #[.int .i64 0, .int .i64 0, .int .i64 0, .int .i64 0] 68))).drewN 1
    have hws := HB.out.size
    have F1 := F0.putAll (tub ns p) sA
    have T1 := T0.putOther (b' := w.heap.size + 1 + 1) 0 (ints (tub ns p)) (by omega)
    have H1 := H0.putOther (b' := w.heap.size + 1 + 1) 0 (ints (tub ns p)) (by omega)
    have Y1 := Y0.putOther (b' := w.heap.size + 1 + 1) 0 (ints (tub ns p)) (by omega)
    have K1 := K0.puts (b := w.heap.size + 1 + 1) (by omega) 0 (ints (tub ns p))
    have T2 := Lib.hid (T1.putAll (tub ns q) sB)
    have F2 := Lib.hid (F1.putOther (b' := w.heap.size + 1 + 1 + 1) 0 (ints (tub ns q)) (by omega))
    have H2 := Lib.hid (H1.putOther (b' := w.heap.size + 1 + 1 + 1) 0 (ints (tub ns q)) (by omega))
    have Y2 := Lib.hid (Y1.putOther (b' := w.heap.size + 1 + 1 + 1) 0 (ints (tub ns q)) (by omega))
    have K2 := Lib.hid (K1.puts (b := w.heap.size + 1 + 1 + 1) (by omega) 0 (ints (tub ns q)))
    have ti : (Try.prog.info? 68).map (·.size) = some 4 := by kernel_rfl
    have ft := F0.there
    have tt := T1.there
    clear H1 Y1 K1 T1 F1 F0 H0 Y0 K0
    (refine wpAnyH_ready (rs := [10]) (by kernel_rfl) (by simp) ?_; refine AllReadyH.cons (o := _) rfl (fun K hK => ?_) AllReadyH.nil; (simp only [List.getElem_toArray, List.getElem_cons_zero, List.getElem_cons_succ, Region.wanted, if_true]); refine wp_store_mid _ _ _ rfl _ _ (ints (tub ns p)).toArray rfl rfl (by simpa [ints_len, sA] using ft) (by simpa [ints_len, sA] using ti) (all_oneCell_toArray (ints_one _)) ?_; (try simp only [List.getElem_toArray, List.getElem_cons_zero, List.getElem_cons_succ, Act.put, List.setIfInBounds_toArray, List.set_cons_zero, List.set_cons_succ, List.toList_toArray]); refine hK.out _ _ (hHeld.putOther _ _ (by omega)) (fun hHeld => ?_); clear hK K)
    (refine wpAnyH_ready (rs := [11]) (by kernel_rfl) (by simp) ?_; refine AllReadyH.cons (o := _) rfl (fun K hK => ?_) AllReadyH.nil; (simp only [List.getElem_toArray, List.getElem_cons_zero, List.getElem_cons_succ, Region.wanted, if_true]); refine wp_store_mid _ _ _ rfl _ _ (ints (tub ns q)).toArray rfl rfl (by simpa [ints_len, sB] using tt) (by simpa [ints_len, sB] using ti) (all_oneCell_toArray (ints_one _)) ?_; (try simp only [List.getElem_toArray, List.getElem_cons_zero, List.getElem_cons_succ, Act.put, List.setIfInBounds_toArray, List.set_cons_zero, List.set_cons_succ, List.toList_toArray]); refine hK.out _ _ (hHeld.putOther _ _ (by omega)) (fun hHeld => ?_); clear hK K)
    refine wpAnyH_done (by kernel_rfl) ?_ _
    clear hHeld ft tt H HB Z T0
    obtain ⟨FB, hFB⟩ : ∃ FB, FB = w.heap.size + 1 + 1 := ⟨_, rfl⟩
    obtain ⟨TB, hTB⟩ : ∃ TB, TB = w.heap.size + 1 + 1 + 1 := ⟨_, rfl⟩
    go_wp2_with (first | (refine load_has rfl 68 _ rfl _ rfl ?_ 4 ?_ _ Try.underlying68 rfl ?_ ?_; rotate_left; (· (repeat (first | (with_reducible assumption) | ((with_reducible refine Has.box _ _ ?_ ?_) <;> (first | assumption | decide)) | (with_reducible refine Has.alloc ?_ _) | ((with_reducible refine Has.putOther ?_ _ _ ?_); rotate_left; omega; skip) | ((with_reducible refine Has.below ?_ ?_); rotate_left; assumption)))); (· kernel_rfl)) | (refine load_has rfl 68 _ rfl _ rfl ?_ 4 ?_ _ Try.underlying68 rfl ?_ ?_; rotate_left; (· exact F2.out); (· kernel_rfl)))
    refine (top_any (tub ns p) _ sA vp).mono ?_
    rintro e w3 ⟨rfl, b3⟩
    have F5 := F2.out.below b3
    have F6 := T2.out.below b3
    have H4 := H2.out.below b3
    have Z4 := Y2.out.below b3
    have HB4 := Lib.hid (K2.out.call b3)
    clear F2 T2 H2 Y2 K2 b3
    rw [← hFB] at F5
    rw [← hTB] at F6
    have hFT : FB ≠ TB := by omega
    have hF0 : w.heap.size + 1 + 1 ≤ FB := by omega
    have hT0 : w.heap.size + 1 + 1 ≤ TB := by omega
    rw [← hTB, ← hFB]
    clear hFB hTB hWs
    have FP := Lib.hid (fun k hk => fromK_facts sA vp k hk)
    have FQ := Lib.hid (fun k hk => toK_facts sB vq (topC (tub ns p)) HM.out.color k hk)
    have HC := Lib.hid (And.intro HM.out.hm HM.out.hq4)
    go_wp2_with fail
    go_loopw [27] (fun z wr => ∃ k : Nat, k ≤ m ∧ z = .int .i64 k ∧ Has wr FB (fromK (tub ns p) k) 4 ∧ Has wr TB (toK (tub ns q) (topC (tub ns p)) k) 4 ∧ Has wr w.heap.size ns 24 ∧ Has wr (w.heap.size + 1) z24 24 ∧ Hid (Kept w wr)) (fun z _ => m - (intOf z).toNat)
    case atStart => exact ⟨0, by omega, rfl, F5, F6, H4, Z4, HB4⟩
    case round =>
      obtain ⟨k, hk, rfl, G9, G10, GH, GZ, GB⟩ := hrel
      clear F5 F6 H4 Z4 HB4
      by_cases h : k < m
      · have hki : (k : Int) < (m : Int) := by omega
        have fA := FP.out k (by have := HC.out; omega)
        have fB := FQ.out k (by have := HC.out; omega)
        have hlA : 0 < lay (fromK (tub ns p) k) := by have := HC.out; omega
        have hlB : lay (toK (tub ns q) (topC (tub ns p)) k) < 4 := by have := HC.out; omega
        have tA : (takeT (fromK (tub ns p) k)).length = 4 := by unfold takeT; rw [List.length_set]; exact fA.2.2
        have tB : (putT (toK (tub ns q) (topC (tub ns p)) k) (topC (tub ns p))).length = 4 := by unfold putT; rw [List.length_set]; exact fB.2.2
        have hiZ : (Try.prog.info? 68).map (·.size) = some 4 := by kernel_rfl
        have hiA : (Try.prog.info? 68).map (·.size) = some (ints (fromK (tub ns p) k)).length := by rw [ints_len, fA.2.2]; exact hiZ
        have hiB : (Try.prog.info? 68).map (·.size) = some (ints (toK (tub ns q) (topC (tub ns p)) k)).length := by rw [ints_len, fB.2.2]; exact hiZ
        have G9 := G9.drew
        have G10 := G10.drew
        have GH := GH.drew
        have GZ := GZ.drew
        have GB := GB.out.drewN 1
        go_wp2_with fail
        refine wp_region_held_drew (S := fun w' => True) (by kernel_rfl) trivial (fun hHeld => ?_)
        (refine wpAnyH_take (i := 3) (v := ?_) rfl (by kernel_rfl) (by kernel_rfl) (by kernel_rfl) (fun _ _ _ h => h) (Or.inl ⟨by rfl, ?_⟩) hHeld ?_; rotate_left; (· (intro w' hSw; go_simp; try with_reducible rfl)); (try simp only [List.getElem_toArray, List.getElem_cons_zero, List.getElem_cons_succ, Act.put, List.setIfInBounds_toArray, List.set_cons_zero, List.set_cons_succ]))
        refine wpAnyH_ready (rs := [0, 2]) (by kernel_rfl) (by simp) ?_
        refine AllReadyH.cons (o := _) rfl (fun K hK => ?_) (AllReadyH.cons (o := _) rfl (fun K hK => ?_) AllReadyH.nil)
        · (simp only [List.getElem_toArray, List.getElem_cons_zero, List.getElem_cons_succ, Region.wanted, if_true])
          refine wp_load_mid _ _ rfl _ _ rfl (ints (fromK (tub ns p) k)) _ G9.holds.range Try.underlying68 rfl hiA ?_
          (try simp only [List.getElem_toArray, List.getElem_cons_zero, List.getElem_cons_succ, Act.put, List.setIfInBounds_toArray, List.set_cons_zero, List.set_cons_succ])
          refine hK.out _ _ trivial (fun hHeld => ?_)
          clear hK K
          refine wpAnyH_ready (rs := [1, 2]) (by kernel_rfl) (by simp) ?_
          refine AllReadyH.cons (o := _) rfl (fun K hK => ?_) (AllReadyH.cons (o := _) rfl (fun K hK => ?_) AllReadyH.nil)
          · (simp only [List.getElem_toArray, List.getElem_cons_zero, List.getElem_cons_succ, Region.wanted, if_true])
            go_simp
            refine (take_any (fromK (tub ns p) k) _ fA.2.2 fA.2.1 hlA).mono ?_
            rintro e u1 ⟨rfl, d1⟩
            have G9 := G9.below d1
            have G10 := G10.below d1
            have GH := GH.below d1
            have GZ := GZ.below d1
            have GB := GB.call d1
            clear d1
            dsimp only
            (try simp only [List.getElem_toArray, List.getElem_cons_zero, List.getElem_cons_succ, Act.put, List.setIfInBounds_toArray, List.set_cons_zero, List.set_cons_succ])
            refine hK.out _ _ trivial (fun hHeld => ?_)
            clear hK K
            (refine wpAnyH_ready (rs := [2]) (by kernel_rfl) (by simp) ?_; refine AllReadyH.cons (o := _) rfl (fun K hK => ?_) AllReadyH.nil; (simp only [List.getElem_toArray, List.getElem_cons_zero, List.getElem_cons_succ, Region.wanted, if_true]))
            refine wp_load_mid _ _ rfl _ _ rfl (ints (toK (tub ns q) (topC (tub ns p)) k)) _ G10.holds.range Try.underlying68 rfl hiB ?_
            (try simp only [List.getElem_toArray, List.getElem_cons_zero, List.getElem_cons_succ, Act.put, List.setIfInBounds_toArray, List.set_cons_zero, List.set_cons_succ])
            refine hK.out _ _ trivial (fun hHeld => ?_)
            clear hK K
            (refine wpAnyH_ready (rs := [4]) (by kernel_rfl) (by simp) ?_; refine AllReadyH.cons (o := _) rfl (fun K hK => ?_) AllReadyH.nil; (simp only [List.getElem_toArray, List.getElem_cons_zero, List.getElem_cons_succ, Region.wanted, if_true]))
            go_simp
            refine (put_any (toK (tub ns q) (topC (tub ns p)) k) (topC (tub ns p)) _ fB.2.2 fB.2.1 hlB).mono ?_
            rintro e u2 ⟨rfl, d2⟩
            have G9 := G9.below d2
            have G10 := G10.below d2
            have GH := GH.below d2
            have GZ := GZ.below d2
            have GB := GB.call d2
            clear d2
            dsimp only
            (try simp only [List.getElem_toArray, List.getElem_cons_zero, List.getElem_cons_succ, Act.put, List.setIfInBounds_toArray, List.set_cons_zero, List.set_cons_succ])
            refine hK.out _ _ trivial (fun hHeld => ?_)
            clear hK K
            (refine wpAnyH_ready (rs := [5]) (by kernel_rfl) (by simp) ?_; refine AllReadyH.cons (o := _) rfl (fun K hK => ?_) AllReadyH.nil; (simp only [List.getElem_toArray, List.getElem_cons_zero, List.getElem_cons_succ, Region.wanted, if_true]))
            refine wp_store_mid _ _ _ rfl _ _ (ints (takeT (fromK (tub ns p) k))).toArray rfl rfl (by simpa [ints_len, tA] using G9.there) (by simpa [ints_len, tA] using hiZ) (all_oneCell_toArray (ints_one _)) ?_
            (try simp only [List.getElem_toArray, List.getElem_cons_zero, List.getElem_cons_succ, Act.put, List.setIfInBounds_toArray, List.set_cons_zero, List.set_cons_succ, List.toList_toArray])
            have G10 := G10.putOther (b' := FB) 0 (ints (takeT (fromK (tub ns p) k))) (by omega)
            have GH := GH.putOther (b' := FB) 0 (ints (takeT (fromK (tub ns p) k))) (by omega)
            have GZ := GZ.putOther (b' := FB) 0 (ints (takeT (fromK (tub ns p) k))) (by omega)
            have GB := GB.puts (b := FB) (by omega) 0 (ints (takeT (fromK (tub ns p) k)))
            have G9 := G9.putAll (takeT (fromK (tub ns p) k)) tA
            refine hK.out _ _ trivial (fun hHeld => ?_)
            clear hK K
            (refine wpAnyH_ready (rs := [6]) (by kernel_rfl) (by simp) ?_; refine AllReadyH.cons (o := _) rfl (fun K hK => ?_) AllReadyH.nil; (simp only [List.getElem_toArray, List.getElem_cons_zero, List.getElem_cons_succ, Region.wanted, if_true]))
            refine wp_store_mid _ _ _ rfl _ _ (ints (putT (toK (tub ns q) (topC (tub ns p)) k) (topC (tub ns p)))).toArray rfl rfl (by simpa [ints_len, tB] using G10.there) (by simpa [ints_len, tB] using hiZ) (all_oneCell_toArray (ints_one _)) ?_
            (try simp only [List.getElem_toArray, List.getElem_cons_zero, List.getElem_cons_succ, Act.put, List.setIfInBounds_toArray, List.set_cons_zero, List.set_cons_succ, List.toList_toArray])
            have G9 := G9.putOther (b' := TB) 0 (ints (putT (toK (tub ns q) (topC (tub ns p)) k) (topC (tub ns p)))) (by omega)
            have GH := GH.putOther (b' := TB) 0 (ints (putT (toK (tub ns q) (topC (tub ns p)) k) (topC (tub ns p)))) (by omega)
            have GZ := GZ.putOther (b' := TB) 0 (ints (putT (toK (tub ns q) (topC (tub ns p)) k) (topC (tub ns p)))) (by omega)
            have GB := GB.puts (b := TB) (by omega) 0 (ints (putT (toK (tub ns q) (topC (tub ns p)) k) (topC (tub ns p))))
            have G10 := G10.putAll (putT (toK (tub ns q) (topC (tub ns p)) k) (topC (tub ns p))) tB
            refine hK.out _ _ trivial (fun hHeld => ?_)
            clear hK K
            refine wpAnyH_done (by kernel_rfl) ?_ _
            have R9 := Lib.hid G9
            have R10 := Lib.hid G10
            have RH := Lib.hid GH
            have RZ := Lib.hid GZ
            have RB := Lib.hid GB
            clear G9 G10 GH GZ GB hHeld hiA hiB hiZ
            go_wp2_with fail
            go_roundw
            case rel => exact ⟨k + 1, by omega, by go_num, R9.out, R10.out, RH.out, RZ.out, RB⟩
            case measure => simp [intOf]; omega
          · (simp only [List.getElem_toArray, List.getElem_cons_zero, List.getElem_cons_succ, Region.wanted, if_true])
            refine wp_load_mid _ _ rfl _ _ rfl (ints (toK (tub ns q) (topC (tub ns p)) k)) _ G10.holds.range Try.underlying68 rfl hiB ?_
            (try simp only [List.getElem_toArray, List.getElem_cons_zero, List.getElem_cons_succ, Act.put, List.setIfInBounds_toArray, List.set_cons_zero, List.set_cons_succ])
            refine hK.out _ _ trivial (fun hHeld => ?_)
            clear hK K
            (refine wpAnyH_ready (rs := [1]) (by kernel_rfl) (by simp) ?_; refine AllReadyH.cons (o := _) rfl (fun K hK => ?_) AllReadyH.nil; (simp only [List.getElem_toArray, List.getElem_cons_zero, List.getElem_cons_succ, Region.wanted, if_true]))
            go_simp
            refine (take_any (fromK (tub ns p) k) _ fA.2.2 fA.2.1 hlA).mono ?_
            rintro e u3 ⟨rfl, d3⟩
            have G9 := G9.below d3
            have G10 := G10.below d3
            have GH := GH.below d3
            have GZ := GZ.below d3
            have GB := GB.call d3
            clear d3
            dsimp only
            (try simp only [List.getElem_toArray, List.getElem_cons_zero, List.getElem_cons_succ, Act.put, List.setIfInBounds_toArray, List.set_cons_zero, List.set_cons_succ])
            refine hK.out _ _ trivial (fun hHeld => ?_)
            clear hK K
            (refine wpAnyH_ready (rs := [4]) (by kernel_rfl) (by simp) ?_; refine AllReadyH.cons (o := _) rfl (fun K hK => ?_) AllReadyH.nil; (simp only [List.getElem_toArray, List.getElem_cons_zero, List.getElem_cons_succ, Region.wanted, if_true]))
            go_simp
            refine (put_any (toK (tub ns q) (topC (tub ns p)) k) (topC (tub ns p)) _ fB.2.2 fB.2.1 hlB).mono ?_
            rintro e u4 ⟨rfl, d4⟩
            have G9 := G9.below d4
            have G10 := G10.below d4
            have GH := GH.below d4
            have GZ := GZ.below d4
            have GB := GB.call d4
            clear d4
            dsimp only
            (try simp only [List.getElem_toArray, List.getElem_cons_zero, List.getElem_cons_succ, Act.put, List.setIfInBounds_toArray, List.set_cons_zero, List.set_cons_succ])
            refine hK.out _ _ trivial (fun hHeld => ?_)
            clear hK K
            (refine wpAnyH_ready (rs := [5]) (by kernel_rfl) (by simp) ?_; refine AllReadyH.cons (o := _) rfl (fun K hK => ?_) AllReadyH.nil; (simp only [List.getElem_toArray, List.getElem_cons_zero, List.getElem_cons_succ, Region.wanted, if_true]))
            refine wp_store_mid _ _ _ rfl _ _ (ints (takeT (fromK (tub ns p) k))).toArray rfl rfl (by simpa [ints_len, tA] using G9.there) (by simpa [ints_len, tA] using hiZ) (all_oneCell_toArray (ints_one _)) ?_
            (try simp only [List.getElem_toArray, List.getElem_cons_zero, List.getElem_cons_succ, Act.put, List.setIfInBounds_toArray, List.set_cons_zero, List.set_cons_succ, List.toList_toArray])
            have G10 := G10.putOther (b' := FB) 0 (ints (takeT (fromK (tub ns p) k))) (by omega)
            have GH := GH.putOther (b' := FB) 0 (ints (takeT (fromK (tub ns p) k))) (by omega)
            have GZ := GZ.putOther (b' := FB) 0 (ints (takeT (fromK (tub ns p) k))) (by omega)
            have GB := GB.puts (b := FB) (by omega) 0 (ints (takeT (fromK (tub ns p) k)))
            have G9 := G9.putAll (takeT (fromK (tub ns p) k)) tA
            refine hK.out _ _ trivial (fun hHeld => ?_)
            clear hK K
            (refine wpAnyH_ready (rs := [6]) (by kernel_rfl) (by simp) ?_; refine AllReadyH.cons (o := _) rfl (fun K hK => ?_) AllReadyH.nil; (simp only [List.getElem_toArray, List.getElem_cons_zero, List.getElem_cons_succ, Region.wanted, if_true]))
            refine wp_store_mid _ _ _ rfl _ _ (ints (putT (toK (tub ns q) (topC (tub ns p)) k) (topC (tub ns p)))).toArray rfl rfl (by simpa [ints_len, tB] using G10.there) (by simpa [ints_len, tB] using hiZ) (all_oneCell_toArray (ints_one _)) ?_
            (try simp only [List.getElem_toArray, List.getElem_cons_zero, List.getElem_cons_succ, Act.put, List.setIfInBounds_toArray, List.set_cons_zero, List.set_cons_succ, List.toList_toArray])
            have G9 := G9.putOther (b' := TB) 0 (ints (putT (toK (tub ns q) (topC (tub ns p)) k) (topC (tub ns p)))) (by omega)
            have GH := GH.putOther (b' := TB) 0 (ints (putT (toK (tub ns q) (topC (tub ns p)) k) (topC (tub ns p)))) (by omega)
            have GZ := GZ.putOther (b' := TB) 0 (ints (putT (toK (tub ns q) (topC (tub ns p)) k) (topC (tub ns p)))) (by omega)
            have GB := GB.puts (b := TB) (by omega) 0 (ints (putT (toK (tub ns q) (topC (tub ns p)) k) (topC (tub ns p))))
            have G10 := G10.putAll (putT (toK (tub ns q) (topC (tub ns p)) k) (topC (tub ns p))) tB
            refine hK.out _ _ trivial (fun hHeld => ?_)
            clear hK K
            refine wpAnyH_done (by kernel_rfl) ?_ _
            have R9 := Lib.hid G9
            have R10 := Lib.hid G10
            have RH := Lib.hid GH
            have RZ := Lib.hid GZ
            have RB := Lib.hid GB
            clear G9 G10 GH GZ GB hHeld hiA hiB hiZ
            go_wp2_with fail
            go_roundw
            case rel => exact ⟨k + 1, by omega, by go_num, R9.out, R10.out, RH.out, RZ.out, RB⟩
            case measure => simp [intOf]; omega
        · (simp only [List.getElem_toArray, List.getElem_cons_zero, List.getElem_cons_succ, Region.wanted, if_true])
          refine wp_load_mid _ _ rfl _ _ rfl (ints (toK (tub ns q) (topC (tub ns p)) k)) _ G10.holds.range Try.underlying68 rfl hiB ?_
          (try simp only [List.getElem_toArray, List.getElem_cons_zero, List.getElem_cons_succ, Act.put, List.setIfInBounds_toArray, List.set_cons_zero, List.set_cons_succ])
          refine hK.out _ _ trivial (fun hHeld => ?_)
          clear hK K
          (refine wpAnyH_ready (rs := [0]) (by kernel_rfl) (by simp) ?_; refine AllReadyH.cons (o := _) rfl (fun K hK => ?_) AllReadyH.nil; (simp only [List.getElem_toArray, List.getElem_cons_zero, List.getElem_cons_succ, Region.wanted, if_true]))
          refine wp_load_mid _ _ rfl _ _ rfl (ints (fromK (tub ns p) k)) _ G9.holds.range Try.underlying68 rfl hiA ?_
          (try simp only [List.getElem_toArray, List.getElem_cons_zero, List.getElem_cons_succ, Act.put, List.setIfInBounds_toArray, List.set_cons_zero, List.set_cons_succ])
          refine hK.out _ _ trivial (fun hHeld => ?_)
          clear hK K
          (refine wpAnyH_ready (rs := [1]) (by kernel_rfl) (by simp) ?_; refine AllReadyH.cons (o := _) rfl (fun K hK => ?_) AllReadyH.nil; (simp only [List.getElem_toArray, List.getElem_cons_zero, List.getElem_cons_succ, Region.wanted, if_true]))
          go_simp
          refine (take_any (fromK (tub ns p) k) _ fA.2.2 fA.2.1 hlA).mono ?_
          rintro e u5 ⟨rfl, d5⟩
          have G9 := G9.below d5
          have G10 := G10.below d5
          have GH := GH.below d5
          have GZ := GZ.below d5
          have GB := GB.call d5
          clear d5
          dsimp only
          (try simp only [List.getElem_toArray, List.getElem_cons_zero, List.getElem_cons_succ, Act.put, List.setIfInBounds_toArray, List.set_cons_zero, List.set_cons_succ])
          refine hK.out _ _ trivial (fun hHeld => ?_)
          clear hK K
          (refine wpAnyH_ready (rs := [4]) (by kernel_rfl) (by simp) ?_; refine AllReadyH.cons (o := _) rfl (fun K hK => ?_) AllReadyH.nil; (simp only [List.getElem_toArray, List.getElem_cons_zero, List.getElem_cons_succ, Region.wanted, if_true]))
          go_simp
          refine (put_any (toK (tub ns q) (topC (tub ns p)) k) (topC (tub ns p)) _ fB.2.2 fB.2.1 hlB).mono ?_
          rintro e u6 ⟨rfl, d6⟩
          have G9 := G9.below d6
          have G10 := G10.below d6
          have GH := GH.below d6
          have GZ := GZ.below d6
          have GB := GB.call d6
          clear d6
          dsimp only
          (try simp only [List.getElem_toArray, List.getElem_cons_zero, List.getElem_cons_succ, Act.put, List.setIfInBounds_toArray, List.set_cons_zero, List.set_cons_succ])
          refine hK.out _ _ trivial (fun hHeld => ?_)
          clear hK K
          (refine wpAnyH_ready (rs := [5]) (by kernel_rfl) (by simp) ?_; refine AllReadyH.cons (o := _) rfl (fun K hK => ?_) AllReadyH.nil; (simp only [List.getElem_toArray, List.getElem_cons_zero, List.getElem_cons_succ, Region.wanted, if_true]))
          refine wp_store_mid _ _ _ rfl _ _ (ints (takeT (fromK (tub ns p) k))).toArray rfl rfl (by simpa [ints_len, tA] using G9.there) (by simpa [ints_len, tA] using hiZ) (all_oneCell_toArray (ints_one _)) ?_
          (try simp only [List.getElem_toArray, List.getElem_cons_zero, List.getElem_cons_succ, Act.put, List.setIfInBounds_toArray, List.set_cons_zero, List.set_cons_succ, List.toList_toArray])
          have G10 := G10.putOther (b' := FB) 0 (ints (takeT (fromK (tub ns p) k))) (by omega)
          have GH := GH.putOther (b' := FB) 0 (ints (takeT (fromK (tub ns p) k))) (by omega)
          have GZ := GZ.putOther (b' := FB) 0 (ints (takeT (fromK (tub ns p) k))) (by omega)
          have GB := GB.puts (b := FB) (by omega) 0 (ints (takeT (fromK (tub ns p) k)))
          have G9 := G9.putAll (takeT (fromK (tub ns p) k)) tA
          refine hK.out _ _ trivial (fun hHeld => ?_)
          clear hK K
          (refine wpAnyH_ready (rs := [6]) (by kernel_rfl) (by simp) ?_; refine AllReadyH.cons (o := _) rfl (fun K hK => ?_) AllReadyH.nil; (simp only [List.getElem_toArray, List.getElem_cons_zero, List.getElem_cons_succ, Region.wanted, if_true]))
          refine wp_store_mid _ _ _ rfl _ _ (ints (putT (toK (tub ns q) (topC (tub ns p)) k) (topC (tub ns p)))).toArray rfl rfl (by simpa [ints_len, tB] using G10.there) (by simpa [ints_len, tB] using hiZ) (all_oneCell_toArray (ints_one _)) ?_
          (try simp only [List.getElem_toArray, List.getElem_cons_zero, List.getElem_cons_succ, Act.put, List.setIfInBounds_toArray, List.set_cons_zero, List.set_cons_succ, List.toList_toArray])
          have G9 := G9.putOther (b' := TB) 0 (ints (putT (toK (tub ns q) (topC (tub ns p)) k) (topC (tub ns p)))) (by omega)
          have GH := GH.putOther (b' := TB) 0 (ints (putT (toK (tub ns q) (topC (tub ns p)) k) (topC (tub ns p)))) (by omega)
          have GZ := GZ.putOther (b' := TB) 0 (ints (putT (toK (tub ns q) (topC (tub ns p)) k) (topC (tub ns p)))) (by omega)
          have GB := GB.puts (b := TB) (by omega) 0 (ints (putT (toK (tub ns q) (topC (tub ns p)) k) (topC (tub ns p))))
          have G10 := G10.putAll (putT (toK (tub ns q) (topC (tub ns p)) k) (topC (tub ns p))) tB
          refine hK.out _ _ trivial (fun hHeld => ?_)
          clear hK K
          refine wpAnyH_done (by kernel_rfl) ?_ _
          have R9 := Lib.hid G9
          have R10 := Lib.hid G10
          have RH := Lib.hid GH
          have RZ := Lib.hid GZ
          have RB := Lib.hid GB
          clear G9 G10 GH GZ GB hHeld hiA hiB hiZ
          go_wp2_with fail
          go_roundw
          case rel => exact ⟨k + 1, by omega, by go_num, R9.out, R10.out, RH.out, RZ.out, RB⟩
          case measure => simp [intOf]; omega
      · obtain rfl : k = m := by omega
        have fA := FP.out k (by have := HC.out; omega)
        have fB := FQ.out k (by have := HC.out; omega)
        have hiZ : (Try.prog.info? 68).map (·.size) = some 4 := by kernel_rfl
        have hiY : (Try.prog.info? 24).map (·.size) = some 4 := by kernel_rfl
        have hiA : (Try.prog.info? 68).map (·.size) = some (ints (fromK (tub ns p) k)).length := by rw [ints_len, fA.2.2]; exact hiZ
        have hiB : (Try.prog.info? 68).map (·.size) = some (ints (toK (tub ns q) (topC (tub ns p)) k)).length := by rw [ints_len, fB.2.2]; exact hiZ
        have G11 := GH.drew.putTub p hp (fromK (tub ns p) k) fA.2.2
        have G12 := G11.putTub q hq (toK (tub ns q) (topC (tub ns p)) k) fB.2.2
        have hl := G12.len
        have t1 := GH.drew.holds.thereSub (p * 4) 4 (by rw [ints_len, GH.len]; omega)
        have t2 := G11.holds.thereSub (q * 4) 4 (by rw [ints_len, G11.len]; omega)
        have Y1 := (GZ.drew.putOther (b' := w.heap.size) (p * 4) (ints (fromK (tub ns p) k)) (by omega)).putOther (b' := w.heap.size) (q * 4) (ints (toK (tub ns q) (topC (tub ns p)) k)) (by omega)
        have S1 := Lib.hid (Y1.putAll _ hl)
        have S2 := Lib.hid ((((GB.out.drewN 1).puts (b := w.heap.size) (Nat.le_refl _) (p * 4) (ints (fromK (tub ns p) k))).puts (b := w.heap.size) (Nat.le_refl _) (q * 4) (ints (toK (tub ns q) (topC (tub ns p)) k))).puts (b := w.heap.size + 1) (by omega) 0 (ints (moveT ns p q k)))
        have hE : two ns p q (fromK (tub ns p) k) (toK (tub ns q) (topC (tub ns p)) k) = moveT ns p q k := rfl
        have S3 := Lib.hid (show Has _ (w.heap.size + 1) (moveT ns p q k) 24 from S1.out)
        clear S1
        go_wp2_with fail
        refine wp_region_held_drew (S := fun w' => Has w' FB (fromK (tub ns p) k) 4 ∧ Has w' TB (toK (tub ns q) (topC (tub ns p)) k) 4) (by kernel_rfl) ⟨G9.drew, G10.drew⟩ (fun hHeld => ?_)
        (refine wpAnyH_take (i := 0) (v := ?_) rfl (by kernel_rfl) (by kernel_rfl) (by kernel_rfl) (fun _ _ _ h => h) (Or.inl ⟨by rfl, ?_⟩) hHeld ?_; rotate_left; (· (intro w' hSw; go_simp; try with_reducible rfl)); (try simp only [List.getElem_toArray, List.getElem_cons_zero, List.getElem_cons_succ, Act.put, List.setIfInBounds_toArray, List.set_cons_zero, List.set_cons_succ])); (refine wpAnyH_take (i := 1) (v := ?_) rfl (by kernel_rfl) (by kernel_rfl) (by kernel_rfl) (fun _ _ _ h => h) (Or.inl ⟨by rfl, ?_⟩) hHeld ?_; rotate_left; (· (intro w' hSw; go_simp; try with_reducible rfl)); (try simp only [List.getElem_toArray, List.getElem_cons_zero, List.getElem_cons_succ, Act.put, List.setIfInBounds_toArray, List.set_cons_zero, List.set_cons_succ])); (refine wpAnyH_take (i := 4) (v := ?_) rfl (by kernel_rfl) (by kernel_rfl) (by kernel_rfl) (fun _ _ _ h => h) (Or.inl ⟨by rfl, ?_⟩) hHeld ?_; rotate_left; (· (intro w' hSw; go_simp; try with_reducible rfl)); (try simp only [List.getElem_toArray, List.getElem_cons_zero, List.getElem_cons_succ, Act.put, List.setIfInBounds_toArray, List.set_cons_zero, List.set_cons_succ])); (refine wpAnyH_take (i := 7) (v := ?_) rfl (by kernel_rfl) (by kernel_rfl) (by kernel_rfl) (fun _ _ _ h => h) (Or.inl ⟨by rfl, ?_⟩) hHeld ?_; rotate_left; (· (intro w' hSw; go_simp; try with_reducible rfl)); (try simp only [List.getElem_toArray, List.getElem_cons_zero, List.getElem_cons_succ, Act.put, List.setIfInBounds_toArray, List.set_cons_zero, List.set_cons_succ]))
        (refine wpAnyH_take (i := 2) (v := _) rfl (by kernel_rfl) (by kernel_rfl) (by kernel_rfl) (fun _ _ _ h => h) (yieldsIf_load_mid (by rfl) 68 _ rfl _ _ rfl (ints (fromK (tub ns p) k)) _ (fun w' hSw => hSw.1.holds.range) Try.underlying68 rfl (hiA)) hHeld ?_; (try simp only [List.getElem_toArray, List.getElem_cons_zero, List.getElem_cons_succ, Act.put, List.setIfInBounds_toArray, List.set_cons_zero, List.set_cons_succ]))
        (refine wpAnyH_take (i := 3) (v := _) rfl (by kernel_rfl) (by kernel_rfl) (by kernel_rfl) (fun _ _ _ h => h) (yieldsIf_load_mid (by rfl) 68 _ rfl _ _ rfl (ints (toK (tub ns q) (topC (tub ns p)) k)) _ (fun w' hSw => hSw.2.holds.range) Try.underlying68 rfl (hiB)) hHeld ?_; (try simp only [List.getElem_toArray, List.getElem_cons_zero, List.getElem_cons_succ, Act.put, List.setIfInBounds_toArray, List.set_cons_zero, List.set_cons_succ]))
        (refine wpAnyH_take (i := 5) (v := ?_) rfl (by kernel_rfl) (by kernel_rfl) (by kernel_rfl) (fun _ _ _ h => h) (Or.inl ⟨by rfl, ?_⟩) hHeld ?_; rotate_left; (· (intro w' hSw; go_simp; try with_reducible rfl)); (try simp only [List.getElem_toArray, List.getElem_cons_zero, List.getElem_cons_succ, Act.put, List.setIfInBounds_toArray, List.set_cons_zero, List.set_cons_succ]))
        (refine wpAnyH_ready (rs := [6]) (by kernel_rfl) (by simp) ?_; refine AllReadyH.cons (o := _) rfl (fun K hK => ?_) AllReadyH.nil; (simp only [List.getElem_toArray, List.getElem_cons_zero, List.getElem_cons_succ, Region.wanted, if_true]); refine wp_store_mid _ _ _ rfl _ _ (ints (fromK (tub ns p) k)).toArray rfl rfl (by simpa [ints_len, fA.2.2] using t1) (by simpa [ints_len, fA.2.2] using hiY) (all_oneCell_toArray (ints_one _)) ?_; (try simp only [List.getElem_toArray, List.getElem_cons_zero, List.getElem_cons_succ, Act.put, List.setIfInBounds_toArray, List.set_cons_zero, List.set_cons_succ, List.toList_toArray]); refine hK.out _ _ (⟨hHeld.1.putOther _ _ (by omega), hHeld.2.putOther _ _ (by omega)⟩) (fun hHeld => ?_); clear hK K)
        (refine wpAnyH_take (i := 8) (v := ?_) rfl (by kernel_rfl) (by kernel_rfl) (by kernel_rfl) (fun _ _ _ h => h) (Or.inl ⟨by rfl, ?_⟩) hHeld ?_; rotate_left; (· (intro w' hSw; go_simp; try with_reducible rfl)); (try simp only [List.getElem_toArray, List.getElem_cons_zero, List.getElem_cons_succ, Act.put, List.setIfInBounds_toArray, List.set_cons_zero, List.set_cons_succ]))
        (refine wpAnyH_ready (rs := [9]) (by kernel_rfl) (by simp) ?_; refine AllReadyH.cons (o := _) rfl (fun K hK => ?_) AllReadyH.nil; (simp only [List.getElem_toArray, List.getElem_cons_zero, List.getElem_cons_succ, Region.wanted, if_true]); refine wp_store_mid _ _ _ rfl _ _ (ints (toK (tub ns q) (topC (tub ns p)) k)).toArray rfl rfl (by simpa [ints_len, fB.2.2] using t2) (by simpa [ints_len, fB.2.2] using hiY) (all_oneCell_toArray (ints_one _)) ?_; (try simp only [List.getElem_toArray, List.getElem_cons_zero, List.getElem_cons_succ, Act.put, List.setIfInBounds_toArray, List.set_cons_zero, List.set_cons_succ, List.toList_toArray]); refine hK.out _ _ (⟨hHeld.1.putOther _ _ (by omega), hHeld.2.putOther _ _ (by omega)⟩) (fun hHeld => ?_); clear hK K)
        refine wpAnyH_done (by kernel_rfl) ?_ _
        clear G9 G10 GH GZ GB hHeld hiA hiB hiZ hiY G11 t1 t2
        go_wp2_with (first | (refine load_has rfl 27 _ rfl _ rfl ?_ 24 ?_ _ Try.underlying27 rfl ?_ ?_; rotate_left; (· (repeat (first | (with_reducible assumption) | ((with_reducible refine Has.box _ _ ?_ ?_) <;> (first | assumption | decide)) | (with_reducible refine Has.alloc ?_ _) | ((with_reducible refine Has.putOther ?_ _ _ ?_); rotate_left; omega; skip) | ((with_reducible refine Has.below ?_ ?_); rotate_left; assumption)))); (· kernel_rfl)) | (refine store_at rfl 27 _ _ rfl _ _ rfl rfl ?_ 24 ?_ ?_ ?_ ?_; rotate_left; (· (repeat (first | (with_reducible assumption) | ((with_reducible refine Has.box _ _ ?_ ?_) <;> (first | assumption | decide)) | (with_reducible refine Has.alloc ?_ _) | ((with_reducible refine Has.putOther ?_ _ _ ?_); rotate_left; omega; skip) | ((with_reducible refine Has.below ?_ ?_); rotate_left; assumption)))); (· (first | assumption | rfl)); (· kernel_rfl)))
        exact bodyPost_ret (v := .agg (ints (moveT ns p q k)).toArray) (res_has (P := Try.prog) rfl _ _ (w.heap.size + 1) (moveT ns p q k) 24 _ rfl S3.out Try.underlying27 rfl (by kernel_rfl)) rfl ⟨rfl, S2.out⟩
  · (simp only [List.getElem_toArray, List.getElem_cons_zero, List.getElem_cons_succ, Region.wanted, if_true])
    go_simp
    (try simp only [List.getElem_toArray, List.getElem_cons_zero, List.getElem_cons_succ, Act.put, List.setIfInBounds_toArray, List.set_cons_zero, List.set_cons_succ])
    refine hK.out _ _ (hHeld.alloc _) (fun hHeld => ?_)
    clear hK K
    (refine wpAnyH_ready (rs := [8]) (by kernel_rfl) (by simp) ?_; refine AllReadyH.cons (o := _) rfl (fun K hK => ?_) AllReadyH.nil; (simp only [List.getElem_toArray, List.getElem_cons_zero, List.getElem_cons_succ, Region.wanted, if_true]))
    go_simp
    (try simp only [List.getElem_toArray, List.getElem_cons_zero, List.getElem_cons_succ, Act.put, List.setIfInBounds_toArray, List.set_cons_zero, List.set_cons_succ])
    refine hK.out _ _ (hHeld.alloc _) (fun hHeld => ?_)
    clear hK K
    have T0 : Has ((W.alloc (.cells #[.int .i64 0, .int .i64 0, .int .i64 0, .int .i64 0] 68)).alloc (.cells #[.int .i64 0, .int .i64 0, .int .i64 0, .int .i64 0] 68)).drew (w.heap.size + 1 + 1) [0, 0, 0, 0] 4 := (((Has.zero W 68).alloc (.cells #[.int .i64 0, .int .i64 0, .int .i64 0, .int .i64 0] 68)).drew).at hWs
    have F0 : Has ((W.alloc (.cells #[.int .i64 0, .int .i64 0, .int .i64 0, .int .i64 0] 68)).alloc (.cells #[.int .i64 0, .int .i64 0, .int .i64 0, .int .i64 0] 68)).drew (w.heap.size + 1 + 1 + 1) [0, 0, 0, 0] 4 := ((Has.zero2 W (.cells #[.int .i64 0, .int .i64 0, .int .i64 0, .int .i64 0] 68) 68).drew).at (by rw [hWs])
    have H0 := (((H.alloc (.cells #[.int .i64 0, .int .i64 0, .int .i64 0, .int .i64 0] 68)).alloc (.cells #[.int .i64 0, .int .i64 0, .int .i64 0, .int .i64 0] 68))).drew
    have Y0 := (((Z.alloc (.cells #[.int .i64 0, .int .i64 0, .int .i64 0, .int .i64 0] 68)).alloc (.cells #[.int .i64 0, .int .i64 0, .int .i64 0, .int .i64 0] 68))).drew
    have K0 := (((HB.out.alloc (.cells #[.int .i64 0, .int .i64 0, .int .i64 0, .int .i64 0] 68)).alloc (.cells #[.int .i64 0, .int .i64 0, .int .i64 0, .int .i64 0] 68))).drewN 1
    have hws := HB.out.size
    have F1 := F0.putAll (tub ns p) sA
    have T1 := T0.putOther (b' := w.heap.size + 1 + 1 + 1) 0 (ints (tub ns p)) (by omega)
    have H1 := H0.putOther (b' := w.heap.size + 1 + 1 + 1) 0 (ints (tub ns p)) (by omega)
    have Y1 := Y0.putOther (b' := w.heap.size + 1 + 1 + 1) 0 (ints (tub ns p)) (by omega)
    have K1 := K0.puts (b := w.heap.size + 1 + 1 + 1) (by omega) 0 (ints (tub ns p))
    have T2 := Lib.hid (T1.putAll (tub ns q) sB)
    have F2 := Lib.hid (F1.putOther (b' := w.heap.size + 1 + 1) 0 (ints (tub ns q)) (by omega))
    have H2 := Lib.hid (H1.putOther (b' := w.heap.size + 1 + 1) 0 (ints (tub ns q)) (by omega))
    have Y2 := Lib.hid (Y1.putOther (b' := w.heap.size + 1 + 1) 0 (ints (tub ns q)) (by omega))
    have K2 := Lib.hid (K1.puts (b := w.heap.size + 1 + 1) (by omega) 0 (ints (tub ns q)))
    have ti : (Try.prog.info? 68).map (·.size) = some 4 := by kernel_rfl
    have ft := F0.there
    have tt := T1.there
    clear H1 Y1 K1 T1 F1 F0 H0 Y0 K0
    (refine wpAnyH_ready (rs := [10]) (by kernel_rfl) (by simp) ?_; refine AllReadyH.cons (o := _) rfl (fun K hK => ?_) AllReadyH.nil; (simp only [List.getElem_toArray, List.getElem_cons_zero, List.getElem_cons_succ, Region.wanted, if_true]); refine wp_store_mid _ _ _ rfl _ _ (ints (tub ns p)).toArray rfl rfl (by simpa [ints_len, sA] using ft) (by simpa [ints_len, sA] using ti) (all_oneCell_toArray (ints_one _)) ?_; (try simp only [List.getElem_toArray, List.getElem_cons_zero, List.getElem_cons_succ, Act.put, List.setIfInBounds_toArray, List.set_cons_zero, List.set_cons_succ, List.toList_toArray]); refine hK.out _ _ (hHeld.putOther _ _ (by omega)) (fun hHeld => ?_); clear hK K)
    (refine wpAnyH_ready (rs := [11]) (by kernel_rfl) (by simp) ?_; refine AllReadyH.cons (o := _) rfl (fun K hK => ?_) AllReadyH.nil; (simp only [List.getElem_toArray, List.getElem_cons_zero, List.getElem_cons_succ, Region.wanted, if_true]); refine wp_store_mid _ _ _ rfl _ _ (ints (tub ns q)).toArray rfl rfl (by simpa [ints_len, sB] using tt) (by simpa [ints_len, sB] using ti) (all_oneCell_toArray (ints_one _)) ?_; (try simp only [List.getElem_toArray, List.getElem_cons_zero, List.getElem_cons_succ, Act.put, List.setIfInBounds_toArray, List.set_cons_zero, List.set_cons_succ, List.toList_toArray]); refine hK.out _ _ (hHeld.putOther _ _ (by omega)) (fun hHeld => ?_); clear hK K)
    refine wpAnyH_done (by kernel_rfl) ?_ _
    clear hHeld ft tt H HB Z T0
    obtain ⟨FB, hFB⟩ : ∃ FB, FB = w.heap.size + 1 + 1 + 1 := ⟨_, rfl⟩
    obtain ⟨TB, hTB⟩ : ∃ TB, TB = w.heap.size + 1 + 1 := ⟨_, rfl⟩
    go_wp2_with (first | (refine load_has rfl 68 _ rfl _ rfl ?_ 4 ?_ _ Try.underlying68 rfl ?_ ?_; rotate_left; (· (repeat (first | (with_reducible assumption) | ((with_reducible refine Has.box _ _ ?_ ?_) <;> (first | assumption | decide)) | (with_reducible refine Has.alloc ?_ _) | ((with_reducible refine Has.putOther ?_ _ _ ?_); rotate_left; omega; skip) | ((with_reducible refine Has.below ?_ ?_); rotate_left; assumption)))); (· kernel_rfl)) | (refine load_has rfl 68 _ rfl _ rfl ?_ 4 ?_ _ Try.underlying68 rfl ?_ ?_; rotate_left; (· exact F2.out); (· kernel_rfl)))
    refine (top_any (tub ns p) _ sA vp).mono ?_
    rintro e w3 ⟨rfl, b3⟩
    have F5 := F2.out.below b3
    have F6 := T2.out.below b3
    have H4 := H2.out.below b3
    have Z4 := Y2.out.below b3
    have HB4 := Lib.hid (K2.out.call b3)
    clear F2 T2 H2 Y2 K2 b3
    rw [← hFB] at F5
    rw [← hTB] at F6
    have hFT : FB ≠ TB := by omega
    have hF0 : w.heap.size + 1 + 1 ≤ FB := by omega
    have hT0 : w.heap.size + 1 + 1 ≤ TB := by omega
    rw [← hFB, ← hTB]
    clear hFB hTB hWs
    have FP := Lib.hid (fun k hk => fromK_facts sA vp k hk)
    have FQ := Lib.hid (fun k hk => toK_facts sB vq (topC (tub ns p)) HM.out.color k hk)
    have HC := Lib.hid (And.intro HM.out.hm HM.out.hq4)
    go_wp2_with fail
    go_loopw [27] (fun z wr => ∃ k : Nat, k ≤ m ∧ z = .int .i64 k ∧ Has wr FB (fromK (tub ns p) k) 4 ∧ Has wr TB (toK (tub ns q) (topC (tub ns p)) k) 4 ∧ Has wr w.heap.size ns 24 ∧ Has wr (w.heap.size + 1) z24 24 ∧ Hid (Kept w wr)) (fun z _ => m - (intOf z).toNat)
    case atStart => exact ⟨0, by omega, rfl, F5, F6, H4, Z4, HB4⟩
    case round =>
      obtain ⟨k, hk, rfl, G9, G10, GH, GZ, GB⟩ := hrel
      clear F5 F6 H4 Z4 HB4
      by_cases h : k < m
      · have hki : (k : Int) < (m : Int) := by omega
        have fA := FP.out k (by have := HC.out; omega)
        have fB := FQ.out k (by have := HC.out; omega)
        have hlA : 0 < lay (fromK (tub ns p) k) := by have := HC.out; omega
        have hlB : lay (toK (tub ns q) (topC (tub ns p)) k) < 4 := by have := HC.out; omega
        have tA : (takeT (fromK (tub ns p) k)).length = 4 := by unfold takeT; rw [List.length_set]; exact fA.2.2
        have tB : (putT (toK (tub ns q) (topC (tub ns p)) k) (topC (tub ns p))).length = 4 := by unfold putT; rw [List.length_set]; exact fB.2.2
        have hiZ : (Try.prog.info? 68).map (·.size) = some 4 := by kernel_rfl
        have hiA : (Try.prog.info? 68).map (·.size) = some (ints (fromK (tub ns p) k)).length := by rw [ints_len, fA.2.2]; exact hiZ
        have hiB : (Try.prog.info? 68).map (·.size) = some (ints (toK (tub ns q) (topC (tub ns p)) k)).length := by rw [ints_len, fB.2.2]; exact hiZ
        have G9 := G9.drew
        have G10 := G10.drew
        have GH := GH.drew
        have GZ := GZ.drew
        have GB := GB.out.drewN 1
        go_wp2_with fail
        refine wp_region_held_drew (S := fun w' => True) (by kernel_rfl) trivial (fun hHeld => ?_)
        (refine wpAnyH_take (i := 3) (v := ?_) rfl (by kernel_rfl) (by kernel_rfl) (by kernel_rfl) (fun _ _ _ h => h) (Or.inl ⟨by rfl, ?_⟩) hHeld ?_; rotate_left; (· (intro w' hSw; go_simp; try with_reducible rfl)); (try simp only [List.getElem_toArray, List.getElem_cons_zero, List.getElem_cons_succ, Act.put, List.setIfInBounds_toArray, List.set_cons_zero, List.set_cons_succ]))
        refine wpAnyH_ready (rs := [0, 2]) (by kernel_rfl) (by simp) ?_
        refine AllReadyH.cons (o := _) rfl (fun K hK => ?_) (AllReadyH.cons (o := _) rfl (fun K hK => ?_) AllReadyH.nil)
        · (simp only [List.getElem_toArray, List.getElem_cons_zero, List.getElem_cons_succ, Region.wanted, if_true])
          refine wp_load_mid _ _ rfl _ _ rfl (ints (fromK (tub ns p) k)) _ G9.holds.range Try.underlying68 rfl hiA ?_
          (try simp only [List.getElem_toArray, List.getElem_cons_zero, List.getElem_cons_succ, Act.put, List.setIfInBounds_toArray, List.set_cons_zero, List.set_cons_succ])
          refine hK.out _ _ trivial (fun hHeld => ?_)
          clear hK K
          refine wpAnyH_ready (rs := [1, 2]) (by kernel_rfl) (by simp) ?_
          refine AllReadyH.cons (o := _) rfl (fun K hK => ?_) (AllReadyH.cons (o := _) rfl (fun K hK => ?_) AllReadyH.nil)
          · (simp only [List.getElem_toArray, List.getElem_cons_zero, List.getElem_cons_succ, Region.wanted, if_true])
            go_simp
            refine (take_any (fromK (tub ns p) k) _ fA.2.2 fA.2.1 hlA).mono ?_
            rintro e u7 ⟨rfl, d7⟩
            have G9 := G9.below d7
            have G10 := G10.below d7
            have GH := GH.below d7
            have GZ := GZ.below d7
            have GB := GB.call d7
            clear d7
            dsimp only
            (try simp only [List.getElem_toArray, List.getElem_cons_zero, List.getElem_cons_succ, Act.put, List.setIfInBounds_toArray, List.set_cons_zero, List.set_cons_succ])
            refine hK.out _ _ trivial (fun hHeld => ?_)
            clear hK K
            (refine wpAnyH_ready (rs := [2]) (by kernel_rfl) (by simp) ?_; refine AllReadyH.cons (o := _) rfl (fun K hK => ?_) AllReadyH.nil; (simp only [List.getElem_toArray, List.getElem_cons_zero, List.getElem_cons_succ, Region.wanted, if_true]))
            refine wp_load_mid _ _ rfl _ _ rfl (ints (toK (tub ns q) (topC (tub ns p)) k)) _ G10.holds.range Try.underlying68 rfl hiB ?_
            (try simp only [List.getElem_toArray, List.getElem_cons_zero, List.getElem_cons_succ, Act.put, List.setIfInBounds_toArray, List.set_cons_zero, List.set_cons_succ])
            refine hK.out _ _ trivial (fun hHeld => ?_)
            clear hK K
            (refine wpAnyH_ready (rs := [4]) (by kernel_rfl) (by simp) ?_; refine AllReadyH.cons (o := _) rfl (fun K hK => ?_) AllReadyH.nil; (simp only [List.getElem_toArray, List.getElem_cons_zero, List.getElem_cons_succ, Region.wanted, if_true]))
            go_simp
            refine (put_any (toK (tub ns q) (topC (tub ns p)) k) (topC (tub ns p)) _ fB.2.2 fB.2.1 hlB).mono ?_
            rintro e u8 ⟨rfl, d8⟩
            have G9 := G9.below d8
            have G10 := G10.below d8
            have GH := GH.below d8
            have GZ := GZ.below d8
            have GB := GB.call d8
            clear d8
            dsimp only
            (try simp only [List.getElem_toArray, List.getElem_cons_zero, List.getElem_cons_succ, Act.put, List.setIfInBounds_toArray, List.set_cons_zero, List.set_cons_succ])
            refine hK.out _ _ trivial (fun hHeld => ?_)
            clear hK K
            (refine wpAnyH_ready (rs := [5]) (by kernel_rfl) (by simp) ?_; refine AllReadyH.cons (o := _) rfl (fun K hK => ?_) AllReadyH.nil; (simp only [List.getElem_toArray, List.getElem_cons_zero, List.getElem_cons_succ, Region.wanted, if_true]))
            refine wp_store_mid _ _ _ rfl _ _ (ints (takeT (fromK (tub ns p) k))).toArray rfl rfl (by simpa [ints_len, tA] using G9.there) (by simpa [ints_len, tA] using hiZ) (all_oneCell_toArray (ints_one _)) ?_
            (try simp only [List.getElem_toArray, List.getElem_cons_zero, List.getElem_cons_succ, Act.put, List.setIfInBounds_toArray, List.set_cons_zero, List.set_cons_succ, List.toList_toArray])
            have G10 := G10.putOther (b' := FB) 0 (ints (takeT (fromK (tub ns p) k))) (by omega)
            have GH := GH.putOther (b' := FB) 0 (ints (takeT (fromK (tub ns p) k))) (by omega)
            have GZ := GZ.putOther (b' := FB) 0 (ints (takeT (fromK (tub ns p) k))) (by omega)
            have GB := GB.puts (b := FB) (by omega) 0 (ints (takeT (fromK (tub ns p) k)))
            have G9 := G9.putAll (takeT (fromK (tub ns p) k)) tA
            refine hK.out _ _ trivial (fun hHeld => ?_)
            clear hK K
            (refine wpAnyH_ready (rs := [6]) (by kernel_rfl) (by simp) ?_; refine AllReadyH.cons (o := _) rfl (fun K hK => ?_) AllReadyH.nil; (simp only [List.getElem_toArray, List.getElem_cons_zero, List.getElem_cons_succ, Region.wanted, if_true]))
            refine wp_store_mid _ _ _ rfl _ _ (ints (putT (toK (tub ns q) (topC (tub ns p)) k) (topC (tub ns p)))).toArray rfl rfl (by simpa [ints_len, tB] using G10.there) (by simpa [ints_len, tB] using hiZ) (all_oneCell_toArray (ints_one _)) ?_
            (try simp only [List.getElem_toArray, List.getElem_cons_zero, List.getElem_cons_succ, Act.put, List.setIfInBounds_toArray, List.set_cons_zero, List.set_cons_succ, List.toList_toArray])
            have G9 := G9.putOther (b' := TB) 0 (ints (putT (toK (tub ns q) (topC (tub ns p)) k) (topC (tub ns p)))) (by omega)
            have GH := GH.putOther (b' := TB) 0 (ints (putT (toK (tub ns q) (topC (tub ns p)) k) (topC (tub ns p)))) (by omega)
            have GZ := GZ.putOther (b' := TB) 0 (ints (putT (toK (tub ns q) (topC (tub ns p)) k) (topC (tub ns p)))) (by omega)
            have GB := GB.puts (b := TB) (by omega) 0 (ints (putT (toK (tub ns q) (topC (tub ns p)) k) (topC (tub ns p))))
            have G10 := G10.putAll (putT (toK (tub ns q) (topC (tub ns p)) k) (topC (tub ns p))) tB
            refine hK.out _ _ trivial (fun hHeld => ?_)
            clear hK K
            refine wpAnyH_done (by kernel_rfl) ?_ _
            have R9 := Lib.hid G9
            have R10 := Lib.hid G10
            have RH := Lib.hid GH
            have RZ := Lib.hid GZ
            have RB := Lib.hid GB
            clear G9 G10 GH GZ GB hHeld hiA hiB hiZ
            go_wp2_with fail
            go_roundw
            case rel => exact ⟨k + 1, by omega, by go_num, R9.out, R10.out, RH.out, RZ.out, RB⟩
            case measure => simp [intOf]; omega
          · (simp only [List.getElem_toArray, List.getElem_cons_zero, List.getElem_cons_succ, Region.wanted, if_true])
            refine wp_load_mid _ _ rfl _ _ rfl (ints (toK (tub ns q) (topC (tub ns p)) k)) _ G10.holds.range Try.underlying68 rfl hiB ?_
            (try simp only [List.getElem_toArray, List.getElem_cons_zero, List.getElem_cons_succ, Act.put, List.setIfInBounds_toArray, List.set_cons_zero, List.set_cons_succ])
            refine hK.out _ _ trivial (fun hHeld => ?_)
            clear hK K
            (refine wpAnyH_ready (rs := [1]) (by kernel_rfl) (by simp) ?_; refine AllReadyH.cons (o := _) rfl (fun K hK => ?_) AllReadyH.nil; (simp only [List.getElem_toArray, List.getElem_cons_zero, List.getElem_cons_succ, Region.wanted, if_true]))
            go_simp
            refine (take_any (fromK (tub ns p) k) _ fA.2.2 fA.2.1 hlA).mono ?_
            rintro e u9 ⟨rfl, d9⟩
            have G9 := G9.below d9
            have G10 := G10.below d9
            have GH := GH.below d9
            have GZ := GZ.below d9
            have GB := GB.call d9
            clear d9
            dsimp only
            (try simp only [List.getElem_toArray, List.getElem_cons_zero, List.getElem_cons_succ, Act.put, List.setIfInBounds_toArray, List.set_cons_zero, List.set_cons_succ])
            refine hK.out _ _ trivial (fun hHeld => ?_)
            clear hK K
            (refine wpAnyH_ready (rs := [4]) (by kernel_rfl) (by simp) ?_; refine AllReadyH.cons (o := _) rfl (fun K hK => ?_) AllReadyH.nil; (simp only [List.getElem_toArray, List.getElem_cons_zero, List.getElem_cons_succ, Region.wanted, if_true]))
            go_simp
            refine (put_any (toK (tub ns q) (topC (tub ns p)) k) (topC (tub ns p)) _ fB.2.2 fB.2.1 hlB).mono ?_
            rintro e u10 ⟨rfl, d10⟩
            have G9 := G9.below d10
            have G10 := G10.below d10
            have GH := GH.below d10
            have GZ := GZ.below d10
            have GB := GB.call d10
            clear d10
            dsimp only
            (try simp only [List.getElem_toArray, List.getElem_cons_zero, List.getElem_cons_succ, Act.put, List.setIfInBounds_toArray, List.set_cons_zero, List.set_cons_succ])
            refine hK.out _ _ trivial (fun hHeld => ?_)
            clear hK K
            (refine wpAnyH_ready (rs := [5]) (by kernel_rfl) (by simp) ?_; refine AllReadyH.cons (o := _) rfl (fun K hK => ?_) AllReadyH.nil; (simp only [List.getElem_toArray, List.getElem_cons_zero, List.getElem_cons_succ, Region.wanted, if_true]))
            refine wp_store_mid _ _ _ rfl _ _ (ints (takeT (fromK (tub ns p) k))).toArray rfl rfl (by simpa [ints_len, tA] using G9.there) (by simpa [ints_len, tA] using hiZ) (all_oneCell_toArray (ints_one _)) ?_
            (try simp only [List.getElem_toArray, List.getElem_cons_zero, List.getElem_cons_succ, Act.put, List.setIfInBounds_toArray, List.set_cons_zero, List.set_cons_succ, List.toList_toArray])
            have G10 := G10.putOther (b' := FB) 0 (ints (takeT (fromK (tub ns p) k))) (by omega)
            have GH := GH.putOther (b' := FB) 0 (ints (takeT (fromK (tub ns p) k))) (by omega)
            have GZ := GZ.putOther (b' := FB) 0 (ints (takeT (fromK (tub ns p) k))) (by omega)
            have GB := GB.puts (b := FB) (by omega) 0 (ints (takeT (fromK (tub ns p) k)))
            have G9 := G9.putAll (takeT (fromK (tub ns p) k)) tA
            refine hK.out _ _ trivial (fun hHeld => ?_)
            clear hK K
            (refine wpAnyH_ready (rs := [6]) (by kernel_rfl) (by simp) ?_; refine AllReadyH.cons (o := _) rfl (fun K hK => ?_) AllReadyH.nil; (simp only [List.getElem_toArray, List.getElem_cons_zero, List.getElem_cons_succ, Region.wanted, if_true]))
            refine wp_store_mid _ _ _ rfl _ _ (ints (putT (toK (tub ns q) (topC (tub ns p)) k) (topC (tub ns p)))).toArray rfl rfl (by simpa [ints_len, tB] using G10.there) (by simpa [ints_len, tB] using hiZ) (all_oneCell_toArray (ints_one _)) ?_
            (try simp only [List.getElem_toArray, List.getElem_cons_zero, List.getElem_cons_succ, Act.put, List.setIfInBounds_toArray, List.set_cons_zero, List.set_cons_succ, List.toList_toArray])
            have G9 := G9.putOther (b' := TB) 0 (ints (putT (toK (tub ns q) (topC (tub ns p)) k) (topC (tub ns p)))) (by omega)
            have GH := GH.putOther (b' := TB) 0 (ints (putT (toK (tub ns q) (topC (tub ns p)) k) (topC (tub ns p)))) (by omega)
            have GZ := GZ.putOther (b' := TB) 0 (ints (putT (toK (tub ns q) (topC (tub ns p)) k) (topC (tub ns p)))) (by omega)
            have GB := GB.puts (b := TB) (by omega) 0 (ints (putT (toK (tub ns q) (topC (tub ns p)) k) (topC (tub ns p))))
            have G10 := G10.putAll (putT (toK (tub ns q) (topC (tub ns p)) k) (topC (tub ns p))) tB
            refine hK.out _ _ trivial (fun hHeld => ?_)
            clear hK K
            refine wpAnyH_done (by kernel_rfl) ?_ _
            have R9 := Lib.hid G9
            have R10 := Lib.hid G10
            have RH := Lib.hid GH
            have RZ := Lib.hid GZ
            have RB := Lib.hid GB
            clear G9 G10 GH GZ GB hHeld hiA hiB hiZ
            go_wp2_with fail
            go_roundw
            case rel => exact ⟨k + 1, by omega, by go_num, R9.out, R10.out, RH.out, RZ.out, RB⟩
            case measure => simp [intOf]; omega
        · (simp only [List.getElem_toArray, List.getElem_cons_zero, List.getElem_cons_succ, Region.wanted, if_true])
          refine wp_load_mid _ _ rfl _ _ rfl (ints (toK (tub ns q) (topC (tub ns p)) k)) _ G10.holds.range Try.underlying68 rfl hiB ?_
          (try simp only [List.getElem_toArray, List.getElem_cons_zero, List.getElem_cons_succ, Act.put, List.setIfInBounds_toArray, List.set_cons_zero, List.set_cons_succ])
          refine hK.out _ _ trivial (fun hHeld => ?_)
          clear hK K
          (refine wpAnyH_ready (rs := [0]) (by kernel_rfl) (by simp) ?_; refine AllReadyH.cons (o := _) rfl (fun K hK => ?_) AllReadyH.nil; (simp only [List.getElem_toArray, List.getElem_cons_zero, List.getElem_cons_succ, Region.wanted, if_true]))
          refine wp_load_mid _ _ rfl _ _ rfl (ints (fromK (tub ns p) k)) _ G9.holds.range Try.underlying68 rfl hiA ?_
          (try simp only [List.getElem_toArray, List.getElem_cons_zero, List.getElem_cons_succ, Act.put, List.setIfInBounds_toArray, List.set_cons_zero, List.set_cons_succ])
          refine hK.out _ _ trivial (fun hHeld => ?_)
          clear hK K
          (refine wpAnyH_ready (rs := [1]) (by kernel_rfl) (by simp) ?_; refine AllReadyH.cons (o := _) rfl (fun K hK => ?_) AllReadyH.nil; (simp only [List.getElem_toArray, List.getElem_cons_zero, List.getElem_cons_succ, Region.wanted, if_true]))
          go_simp
          refine (take_any (fromK (tub ns p) k) _ fA.2.2 fA.2.1 hlA).mono ?_
          rintro e u11 ⟨rfl, d11⟩
          have G9 := G9.below d11
          have G10 := G10.below d11
          have GH := GH.below d11
          have GZ := GZ.below d11
          have GB := GB.call d11
          clear d11
          dsimp only
          (try simp only [List.getElem_toArray, List.getElem_cons_zero, List.getElem_cons_succ, Act.put, List.setIfInBounds_toArray, List.set_cons_zero, List.set_cons_succ])
          refine hK.out _ _ trivial (fun hHeld => ?_)
          clear hK K
          (refine wpAnyH_ready (rs := [4]) (by kernel_rfl) (by simp) ?_; refine AllReadyH.cons (o := _) rfl (fun K hK => ?_) AllReadyH.nil; (simp only [List.getElem_toArray, List.getElem_cons_zero, List.getElem_cons_succ, Region.wanted, if_true]))
          go_simp
          refine (put_any (toK (tub ns q) (topC (tub ns p)) k) (topC (tub ns p)) _ fB.2.2 fB.2.1 hlB).mono ?_
          rintro e u12 ⟨rfl, d12⟩
          have G9 := G9.below d12
          have G10 := G10.below d12
          have GH := GH.below d12
          have GZ := GZ.below d12
          have GB := GB.call d12
          clear d12
          dsimp only
          (try simp only [List.getElem_toArray, List.getElem_cons_zero, List.getElem_cons_succ, Act.put, List.setIfInBounds_toArray, List.set_cons_zero, List.set_cons_succ])
          refine hK.out _ _ trivial (fun hHeld => ?_)
          clear hK K
          (refine wpAnyH_ready (rs := [5]) (by kernel_rfl) (by simp) ?_; refine AllReadyH.cons (o := _) rfl (fun K hK => ?_) AllReadyH.nil; (simp only [List.getElem_toArray, List.getElem_cons_zero, List.getElem_cons_succ, Region.wanted, if_true]))
          refine wp_store_mid _ _ _ rfl _ _ (ints (takeT (fromK (tub ns p) k))).toArray rfl rfl (by simpa [ints_len, tA] using G9.there) (by simpa [ints_len, tA] using hiZ) (all_oneCell_toArray (ints_one _)) ?_
          (try simp only [List.getElem_toArray, List.getElem_cons_zero, List.getElem_cons_succ, Act.put, List.setIfInBounds_toArray, List.set_cons_zero, List.set_cons_succ, List.toList_toArray])
          have G10 := G10.putOther (b' := FB) 0 (ints (takeT (fromK (tub ns p) k))) (by omega)
          have GH := GH.putOther (b' := FB) 0 (ints (takeT (fromK (tub ns p) k))) (by omega)
          have GZ := GZ.putOther (b' := FB) 0 (ints (takeT (fromK (tub ns p) k))) (by omega)
          have GB := GB.puts (b := FB) (by omega) 0 (ints (takeT (fromK (tub ns p) k)))
          have G9 := G9.putAll (takeT (fromK (tub ns p) k)) tA
          refine hK.out _ _ trivial (fun hHeld => ?_)
          clear hK K
          (refine wpAnyH_ready (rs := [6]) (by kernel_rfl) (by simp) ?_; refine AllReadyH.cons (o := _) rfl (fun K hK => ?_) AllReadyH.nil; (simp only [List.getElem_toArray, List.getElem_cons_zero, List.getElem_cons_succ, Region.wanted, if_true]))
          refine wp_store_mid _ _ _ rfl _ _ (ints (putT (toK (tub ns q) (topC (tub ns p)) k) (topC (tub ns p)))).toArray rfl rfl (by simpa [ints_len, tB] using G10.there) (by simpa [ints_len, tB] using hiZ) (all_oneCell_toArray (ints_one _)) ?_
          (try simp only [List.getElem_toArray, List.getElem_cons_zero, List.getElem_cons_succ, Act.put, List.setIfInBounds_toArray, List.set_cons_zero, List.set_cons_succ, List.toList_toArray])
          have G9 := G9.putOther (b' := TB) 0 (ints (putT (toK (tub ns q) (topC (tub ns p)) k) (topC (tub ns p)))) (by omega)
          have GH := GH.putOther (b' := TB) 0 (ints (putT (toK (tub ns q) (topC (tub ns p)) k) (topC (tub ns p)))) (by omega)
          have GZ := GZ.putOther (b' := TB) 0 (ints (putT (toK (tub ns q) (topC (tub ns p)) k) (topC (tub ns p)))) (by omega)
          have GB := GB.puts (b := TB) (by omega) 0 (ints (putT (toK (tub ns q) (topC (tub ns p)) k) (topC (tub ns p))))
          have G10 := G10.putAll (putT (toK (tub ns q) (topC (tub ns p)) k) (topC (tub ns p))) tB
          refine hK.out _ _ trivial (fun hHeld => ?_)
          clear hK K
          refine wpAnyH_done (by kernel_rfl) ?_ _
          have R9 := Lib.hid G9
          have R10 := Lib.hid G10
          have RH := Lib.hid GH
          have RZ := Lib.hid GZ
          have RB := Lib.hid GB
          clear G9 G10 GH GZ GB hHeld hiA hiB hiZ
          go_wp2_with fail
          go_roundw
          case rel => exact ⟨k + 1, by omega, by go_num, R9.out, R10.out, RH.out, RZ.out, RB⟩
          case measure => simp [intOf]; omega
      · obtain rfl : k = m := by omega
        have fA := FP.out k (by have := HC.out; omega)
        have fB := FQ.out k (by have := HC.out; omega)
        have hiZ : (Try.prog.info? 68).map (·.size) = some 4 := by kernel_rfl
        have hiY : (Try.prog.info? 24).map (·.size) = some 4 := by kernel_rfl
        have hiA : (Try.prog.info? 68).map (·.size) = some (ints (fromK (tub ns p) k)).length := by rw [ints_len, fA.2.2]; exact hiZ
        have hiB : (Try.prog.info? 68).map (·.size) = some (ints (toK (tub ns q) (topC (tub ns p)) k)).length := by rw [ints_len, fB.2.2]; exact hiZ
        have G11 := GH.drew.putTub p hp (fromK (tub ns p) k) fA.2.2
        have G12 := G11.putTub q hq (toK (tub ns q) (topC (tub ns p)) k) fB.2.2
        have hl := G12.len
        have t1 := GH.drew.holds.thereSub (p * 4) 4 (by rw [ints_len, GH.len]; omega)
        have t2 := G11.holds.thereSub (q * 4) 4 (by rw [ints_len, G11.len]; omega)
        have Y1 := (GZ.drew.putOther (b' := w.heap.size) (p * 4) (ints (fromK (tub ns p) k)) (by omega)).putOther (b' := w.heap.size) (q * 4) (ints (toK (tub ns q) (topC (tub ns p)) k)) (by omega)
        have S1 := Lib.hid (Y1.putAll _ hl)
        have S2 := Lib.hid ((((GB.out.drewN 1).puts (b := w.heap.size) (Nat.le_refl _) (p * 4) (ints (fromK (tub ns p) k))).puts (b := w.heap.size) (Nat.le_refl _) (q * 4) (ints (toK (tub ns q) (topC (tub ns p)) k))).puts (b := w.heap.size + 1) (by omega) 0 (ints (moveT ns p q k)))
        have hE : two ns p q (fromK (tub ns p) k) (toK (tub ns q) (topC (tub ns p)) k) = moveT ns p q k := rfl
        have S3 := Lib.hid (show Has _ (w.heap.size + 1) (moveT ns p q k) 24 from S1.out)
        clear S1
        go_wp2_with fail
        refine wp_region_held_drew (S := fun w' => Has w' FB (fromK (tub ns p) k) 4 ∧ Has w' TB (toK (tub ns q) (topC (tub ns p)) k) 4) (by kernel_rfl) ⟨G9.drew, G10.drew⟩ (fun hHeld => ?_)
        (refine wpAnyH_take (i := 0) (v := ?_) rfl (by kernel_rfl) (by kernel_rfl) (by kernel_rfl) (fun _ _ _ h => h) (Or.inl ⟨by rfl, ?_⟩) hHeld ?_; rotate_left; (· (intro w' hSw; go_simp; try with_reducible rfl)); (try simp only [List.getElem_toArray, List.getElem_cons_zero, List.getElem_cons_succ, Act.put, List.setIfInBounds_toArray, List.set_cons_zero, List.set_cons_succ])); (refine wpAnyH_take (i := 1) (v := ?_) rfl (by kernel_rfl) (by kernel_rfl) (by kernel_rfl) (fun _ _ _ h => h) (Or.inl ⟨by rfl, ?_⟩) hHeld ?_; rotate_left; (· (intro w' hSw; go_simp; try with_reducible rfl)); (try simp only [List.getElem_toArray, List.getElem_cons_zero, List.getElem_cons_succ, Act.put, List.setIfInBounds_toArray, List.set_cons_zero, List.set_cons_succ])); (refine wpAnyH_take (i := 4) (v := ?_) rfl (by kernel_rfl) (by kernel_rfl) (by kernel_rfl) (fun _ _ _ h => h) (Or.inl ⟨by rfl, ?_⟩) hHeld ?_; rotate_left; (· (intro w' hSw; go_simp; try with_reducible rfl)); (try simp only [List.getElem_toArray, List.getElem_cons_zero, List.getElem_cons_succ, Act.put, List.setIfInBounds_toArray, List.set_cons_zero, List.set_cons_succ])); (refine wpAnyH_take (i := 7) (v := ?_) rfl (by kernel_rfl) (by kernel_rfl) (by kernel_rfl) (fun _ _ _ h => h) (Or.inl ⟨by rfl, ?_⟩) hHeld ?_; rotate_left; (· (intro w' hSw; go_simp; try with_reducible rfl)); (try simp only [List.getElem_toArray, List.getElem_cons_zero, List.getElem_cons_succ, Act.put, List.setIfInBounds_toArray, List.set_cons_zero, List.set_cons_succ]))
        (refine wpAnyH_take (i := 2) (v := _) rfl (by kernel_rfl) (by kernel_rfl) (by kernel_rfl) (fun _ _ _ h => h) (yieldsIf_load_mid (by rfl) 68 _ rfl _ _ rfl (ints (fromK (tub ns p) k)) _ (fun w' hSw => hSw.1.holds.range) Try.underlying68 rfl (hiA)) hHeld ?_; (try simp only [List.getElem_toArray, List.getElem_cons_zero, List.getElem_cons_succ, Act.put, List.setIfInBounds_toArray, List.set_cons_zero, List.set_cons_succ]))
        (refine wpAnyH_take (i := 3) (v := _) rfl (by kernel_rfl) (by kernel_rfl) (by kernel_rfl) (fun _ _ _ h => h) (yieldsIf_load_mid (by rfl) 68 _ rfl _ _ rfl (ints (toK (tub ns q) (topC (tub ns p)) k)) _ (fun w' hSw => hSw.2.holds.range) Try.underlying68 rfl (hiB)) hHeld ?_; (try simp only [List.getElem_toArray, List.getElem_cons_zero, List.getElem_cons_succ, Act.put, List.setIfInBounds_toArray, List.set_cons_zero, List.set_cons_succ]))
        (refine wpAnyH_take (i := 5) (v := ?_) rfl (by kernel_rfl) (by kernel_rfl) (by kernel_rfl) (fun _ _ _ h => h) (Or.inl ⟨by rfl, ?_⟩) hHeld ?_; rotate_left; (· (intro w' hSw; go_simp; try with_reducible rfl)); (try simp only [List.getElem_toArray, List.getElem_cons_zero, List.getElem_cons_succ, Act.put, List.setIfInBounds_toArray, List.set_cons_zero, List.set_cons_succ]))
        (refine wpAnyH_ready (rs := [6]) (by kernel_rfl) (by simp) ?_; refine AllReadyH.cons (o := _) rfl (fun K hK => ?_) AllReadyH.nil; (simp only [List.getElem_toArray, List.getElem_cons_zero, List.getElem_cons_succ, Region.wanted, if_true]); refine wp_store_mid _ _ _ rfl _ _ (ints (fromK (tub ns p) k)).toArray rfl rfl (by simpa [ints_len, fA.2.2] using t1) (by simpa [ints_len, fA.2.2] using hiY) (all_oneCell_toArray (ints_one _)) ?_; (try simp only [List.getElem_toArray, List.getElem_cons_zero, List.getElem_cons_succ, Act.put, List.setIfInBounds_toArray, List.set_cons_zero, List.set_cons_succ, List.toList_toArray]); refine hK.out _ _ (⟨hHeld.1.putOther _ _ (by omega), hHeld.2.putOther _ _ (by omega)⟩) (fun hHeld => ?_); clear hK K)
        (refine wpAnyH_take (i := 8) (v := ?_) rfl (by kernel_rfl) (by kernel_rfl) (by kernel_rfl) (fun _ _ _ h => h) (Or.inl ⟨by rfl, ?_⟩) hHeld ?_; rotate_left; (· (intro w' hSw; go_simp; try with_reducible rfl)); (try simp only [List.getElem_toArray, List.getElem_cons_zero, List.getElem_cons_succ, Act.put, List.setIfInBounds_toArray, List.set_cons_zero, List.set_cons_succ]))
        (refine wpAnyH_ready (rs := [9]) (by kernel_rfl) (by simp) ?_; refine AllReadyH.cons (o := _) rfl (fun K hK => ?_) AllReadyH.nil; (simp only [List.getElem_toArray, List.getElem_cons_zero, List.getElem_cons_succ, Region.wanted, if_true]); refine wp_store_mid _ _ _ rfl _ _ (ints (toK (tub ns q) (topC (tub ns p)) k)).toArray rfl rfl (by simpa [ints_len, fB.2.2] using t2) (by simpa [ints_len, fB.2.2] using hiY) (all_oneCell_toArray (ints_one _)) ?_; (try simp only [List.getElem_toArray, List.getElem_cons_zero, List.getElem_cons_succ, Act.put, List.setIfInBounds_toArray, List.set_cons_zero, List.set_cons_succ, List.toList_toArray]); refine hK.out _ _ (⟨hHeld.1.putOther _ _ (by omega), hHeld.2.putOther _ _ (by omega)⟩) (fun hHeld => ?_); clear hK K)
        refine wpAnyH_done (by kernel_rfl) ?_ _
        clear G9 G10 GH GZ GB hHeld hiA hiB hiZ hiY G11 t1 t2
        go_wp2_with (first | (refine load_has rfl 27 _ rfl _ rfl ?_ 24 ?_ _ Try.underlying27 rfl ?_ ?_; rotate_left; (· (repeat (first | (with_reducible assumption) | ((with_reducible refine Has.box _ _ ?_ ?_) <;> (first | assumption | decide)) | (with_reducible refine Has.alloc ?_ _) | ((with_reducible refine Has.putOther ?_ _ _ ?_); rotate_left; omega; skip) | ((with_reducible refine Has.below ?_ ?_); rotate_left; assumption)))); (· kernel_rfl)) | (refine store_at rfl 27 _ _ rfl _ _ rfl rfl ?_ 24 ?_ ?_ ?_ ?_; rotate_left; (· (repeat (first | (with_reducible assumption) | ((with_reducible refine Has.box _ _ ?_ ?_) <;> (first | assumption | decide)) | (with_reducible refine Has.alloc ?_ _) | ((with_reducible refine Has.putOther ?_ _ _ ?_); rotate_left; omega; skip) | ((with_reducible refine Has.below ?_ ?_); rotate_left; assumption)))); (· (first | assumption | rfl)); (· kernel_rfl)))
        exact bodyPost_ret (v := .agg (ints (moveT ns p q k)).toArray) (res_has (P := Try.prog) rfl _ _ (w.heap.size + 1) (moveT ns p q k) 24 _ rfl S3.out Try.underlying27 rfl (by kernel_rfl)) rfl ⟨rfl, S2.out⟩
end Go.Proofs.Ytnldnjnnjfbhnaa.base
