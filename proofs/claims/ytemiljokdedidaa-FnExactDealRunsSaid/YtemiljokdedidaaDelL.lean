/-
  The exact laws of the deals, walked.
-/
import Derived.Test.YtemiljokdedidaaDelT
import Derived.Test.YtemiljokdedidaaDelR
import Derived.Deep.Cut
import Derived.Deep.CutRange
namespace Go.Proofs.Ytemiljokdedidaa.base
open Go.ChangeShapes Go.WideShapes Go.ChangeAt Go.RowKit
set_option linter.unusedVariables false
set_option linter.unusedSimpArgs false
theorem keptDrew9 {w w' : World} (h : Kept w w') : Kept w w'.drew := h.drewN 1

set_option maxHeartbeats 3200000 in
set_option maxRecDepth 100000 in
theorem lawCountDeals (ns ds : List Int) (w : World) (fns : ns.length = 6 ∧ ∀ n ∈ ns, (Lit.int .i64 n).wf = true) (fds : ds.length = 6 ∧ ∀ n ∈ ds, (Lit.int .i64 n).wf = true) :
    Calls Try.prog 7 #[row ns, row ds] w fun e w' => e = .returned (.bool true) ∧ Kept w w' := by
  have hns := fns.1
  have hds := fds.1
  clear fns fds
  have HB := Lib.hid (((kept_refl w).alloc (.cells (ints ns).toArray 22)).alloc (.cells (ints ds).toArray 22))
  have H1 := (Has.box w 22 hns (by omega)).alloc (.cells (ints ds).toArray 22)
  have H2 := (Has.box (w.alloc (.cells (ints ns).toArray 22)) 22 hds (by omega)).at (size1 _ _)
  have hi1 : (Try.prog.info? 22).map (·.size) = some (ints ns).length := by rw [ints_len, hns]; kernel_rfl
  have hi2 : (Try.prog.info? 22).map (·.size) = some (ints ds).length := by rw [ints_len, hds]; kernel_rfl
  have KS := Lib.hid (fun W => specCountDeals ns ds W hns hds)
  have KI := Lib.hid (fun W => implCountDeals ns ds W hns hds)
  rw [row_ints, row_ints]
  go_enter Try.func7, Try.ntmps7
  go_wp2_with fail
  have DH1 := H1.drew
  have DH2 := H2.drew
  have DB := Lib.hid (keptDrew9 HB.out)
  clear H1 H2 HB
  refine wp_region_held_drew (S := fun w' => Has w' w.heap.size ns 6 ∧ Has w' (w.heap.size + 1) ds 6) (by kernel_rfl) ⟨DH1, DH2⟩ (fun hHeld => ?_)
  generalize hWD : World.drew _ = WD1 at *
  clear hWD
  (refine wpAnyH_take (i := 0) (v := _) rfl (by kernel_rfl) (by kernel_rfl) (by kernel_rfl) (fun _ _ _ h => h) (yieldsIf_load_mid (by rfl) 22 _ rfl _ _ rfl (ints ns) _ (fun w' hSw => hSw.1.holds.range) Try.underlying22 rfl (hi1)) hHeld ?_; (try simp only [List.getElem_toArray, List.getElem_cons_zero, List.getElem_cons_succ, Act.put, List.setIfInBounds_toArray, List.set_cons_zero, List.set_cons_succ]))
  (refine wpAnyH_take (i := 2) (v := _) rfl (by kernel_rfl) (by kernel_rfl) (by kernel_rfl) (fun _ _ _ h => h) (yieldsIf_load_mid (by rfl) 22 _ rfl _ _ rfl (ints ds) _ (fun w' hSw => hSw.2.holds.range) Try.underlying22 rfl (hi2)) hHeld ?_; (try simp only [List.getElem_toArray, List.getElem_cons_zero, List.getElem_cons_succ, Act.put, List.setIfInBounds_toArray, List.set_cons_zero, List.set_cons_succ]))
  (refine wpAnyH_ready (rs := [1]) (by kernel_rfl) (by simp) ?_; refine AllReadyH.cons (o := _) rfl (fun K hK => ?_) AllReadyH.nil; (simp only [List.getElem_toArray, List.getElem_cons_zero, List.getElem_cons_succ, Region.wanted, if_true]))
  go_simp
  refine (toIntA6v ns _ hns).mono ?_
  rintro e wc2 ⟨rfl, bc2⟩
  dsimp only
  (try simp only [List.getElem_toArray, List.getElem_cons_zero, List.getElem_cons_succ, Act.put, List.setIfInBounds_toArray, List.set_cons_zero, List.set_cons_succ])
  refine hK.out _ _ ⟨hHeld.1.below bc2, hHeld.2.below bc2⟩ (fun hHeld => ?_)
  clear hK K
  replace DH1 := DH1.below bc2
  replace DH2 := DH2.below bc2
  replace DB := Lib.hid (DB.out.call bc2)
  clear bc2
  (refine wpAnyH_ready (rs := [3]) (by kernel_rfl) (by simp) ?_; refine AllReadyH.cons (o := _) rfl (fun K hK => ?_) AllReadyH.nil; (simp only [List.getElem_toArray, List.getElem_cons_zero, List.getElem_cons_succ, Region.wanted, if_true]))
  go_simp
  refine (toIntA6v ds _ hds).mono ?_
  rintro e wc3 ⟨rfl, bc3⟩
  dsimp only
  (try simp only [List.getElem_toArray, List.getElem_cons_zero, List.getElem_cons_succ, Act.put, List.setIfInBounds_toArray, List.set_cons_zero, List.set_cons_succ])
  refine hK.out _ _ ⟨hHeld.1.below bc3, hHeld.2.below bc3⟩ (fun hHeld => ?_)
  clear hK K
  replace DH1 := DH1.below bc3
  replace DH2 := DH2.below bc3
  replace DB := Lib.hid (DB.out.call bc3)
  clear bc3
  (refine wpAnyH_ready (rs := [4]) (by kernel_rfl) (by simp) ?_; refine AllReadyH.cons (o := _) rfl (fun K hK => ?_) AllReadyH.nil; (simp only [List.getElem_toArray, List.getElem_cons_zero, List.getElem_cons_succ, Region.wanted, if_true]))
  go_simp
  refine (KS.out _).mono ?_
  rintro e wc4 ⟨rfl, bc4⟩
  dsimp only
  (try simp only [List.getElem_toArray, List.getElem_cons_zero, List.getElem_cons_succ, Act.put, List.setIfInBounds_toArray, List.set_cons_zero, List.set_cons_succ])
  refine hK.out _ _ ⟨hHeld.1.below bc4, hHeld.2.below bc4⟩ (fun hHeld => ?_)
  clear hK K
  replace DH1 := DH1.below bc4
  replace DH2 := DH2.below bc4
  replace DB := Lib.hid (DB.out.call bc4)
  clear bc4
  (refine wpAnyH_take (i := 5) (v := ?_) rfl (by kernel_rfl) (by kernel_rfl) (by kernel_rfl) (fun _ _ _ h => h) (Or.inl ⟨by rfl, ?_⟩) hHeld ?_; rotate_left; (· (intro w' hSw; go_simp; try with_reducible rfl)); (try simp only [List.getElem_toArray, List.getElem_cons_zero, List.getElem_cons_succ, Act.put, List.setIfInBounds_toArray, List.set_cons_zero, List.set_cons_succ])); (refine wpAnyH_take (i := 6) (v := ?_) rfl (by kernel_rfl) (by kernel_rfl) (by kernel_rfl) (fun _ _ _ h => h) (Or.inl ⟨by rfl, ?_⟩) hHeld ?_; rotate_left; (· (intro w' hSw; go_simp; try with_reducible rfl)); (try simp only [List.getElem_toArray, List.getElem_cons_zero, List.getElem_cons_succ, Act.put, List.setIfInBounds_toArray, List.set_cons_zero, List.set_cons_succ])); (refine wpAnyH_take (i := 7) (v := ?_) rfl (by kernel_rfl) (by kernel_rfl) (by kernel_rfl) (fun _ _ _ h => h) (Or.inl ⟨by rfl, ?_⟩) hHeld ?_; rotate_left; (· (intro w' hSw; go_simp; try with_reducible rfl)); (try simp only [List.getElem_toArray, List.getElem_cons_zero, List.getElem_cons_succ, Act.put, List.setIfInBounds_toArray, List.set_cons_zero, List.set_cons_succ])); (refine wpAnyH_take (i := 8) (v := ?_) rfl (by kernel_rfl) (by kernel_rfl) (by kernel_rfl) (fun _ _ _ h => h) (Or.inl ⟨by rfl, ?_⟩) hHeld ?_; rotate_left; (· (intro w' hSw; go_simp; try with_reducible rfl)); (try simp only [List.getElem_toArray, List.getElem_cons_zero, List.getElem_cons_succ, Act.put, List.setIfInBounds_toArray, List.set_cons_zero, List.set_cons_succ])); (refine wpAnyH_take (i := 9) (v := ?_) rfl (by kernel_rfl) (by kernel_rfl) (by kernel_rfl) (fun _ _ _ h => h) (Or.inl ⟨by rfl, ?_⟩) hHeld ?_; rotate_left; (· (intro w' hSw; go_simp; try with_reducible rfl)); (try simp only [List.getElem_toArray, List.getElem_cons_zero, List.getElem_cons_succ, Act.put, List.setIfInBounds_toArray, List.set_cons_zero, List.set_cons_succ]))
  refine wpAnyH_done (by kernel_rfl) ?_ _
  have H1 := DH1
  have H2 := DH2
  have HB := DB
  clear DH1 DH2 DB hHeld
  go_wp2_with fail
  have DH1 := H1.drew
  have DH2 := H2.drew
  have DB := Lib.hid (keptDrew9 HB.out)
  clear H1 H2 HB
  refine wp_region_held_drew (S := fun w' => Has w' w.heap.size ns 6 ∧ Has w' (w.heap.size + 1) ds 6) (by kernel_rfl) ⟨DH1, DH2⟩ (fun hHeld => ?_)
  generalize hWD : World.drew _ = WD5 at *
  clear hWD
  (refine wpAnyH_take (i := 0) (v := _) rfl (by kernel_rfl) (by kernel_rfl) (by kernel_rfl) (fun _ _ _ h => h) (yieldsIf_load_mid (by rfl) 22 _ rfl _ _ rfl (ints ns) _ (fun w' hSw => hSw.1.holds.range) Try.underlying22 rfl (hi1)) hHeld ?_; (try simp only [List.getElem_toArray, List.getElem_cons_zero, List.getElem_cons_succ, Act.put, List.setIfInBounds_toArray, List.set_cons_zero, List.set_cons_succ]))
  (refine wpAnyH_take (i := 2) (v := _) rfl (by kernel_rfl) (by kernel_rfl) (by kernel_rfl) (fun _ _ _ h => h) (yieldsIf_load_mid (by rfl) 22 _ rfl _ _ rfl (ints ds) _ (fun w' hSw => hSw.2.holds.range) Try.underlying22 rfl (hi2)) hHeld ?_; (try simp only [List.getElem_toArray, List.getElem_cons_zero, List.getElem_cons_succ, Act.put, List.setIfInBounds_toArray, List.set_cons_zero, List.set_cons_succ]))
  (refine wpAnyH_ready (rs := [1]) (by kernel_rfl) (by simp) ?_; refine AllReadyH.cons (o := _) rfl (fun K hK => ?_) AllReadyH.nil; (simp only [List.getElem_toArray, List.getElem_cons_zero, List.getElem_cons_succ, Region.wanted, if_true]))
  go_simp
  refine (toIntA6v ns _ hns).mono ?_
  rintro e wc6 ⟨rfl, bc6⟩
  dsimp only
  (try simp only [List.getElem_toArray, List.getElem_cons_zero, List.getElem_cons_succ, Act.put, List.setIfInBounds_toArray, List.set_cons_zero, List.set_cons_succ])
  refine hK.out _ _ ⟨hHeld.1.below bc6, hHeld.2.below bc6⟩ (fun hHeld => ?_)
  clear hK K
  replace DH1 := DH1.below bc6
  replace DH2 := DH2.below bc6
  replace DB := Lib.hid (DB.out.call bc6)
  clear bc6
  (refine wpAnyH_ready (rs := [3]) (by kernel_rfl) (by simp) ?_; refine AllReadyH.cons (o := _) rfl (fun K hK => ?_) AllReadyH.nil; (simp only [List.getElem_toArray, List.getElem_cons_zero, List.getElem_cons_succ, Region.wanted, if_true]))
  go_simp
  refine (toIntA6v ds _ hds).mono ?_
  rintro e wc7 ⟨rfl, bc7⟩
  dsimp only
  (try simp only [List.getElem_toArray, List.getElem_cons_zero, List.getElem_cons_succ, Act.put, List.setIfInBounds_toArray, List.set_cons_zero, List.set_cons_succ])
  refine hK.out _ _ ⟨hHeld.1.below bc7, hHeld.2.below bc7⟩ (fun hHeld => ?_)
  clear hK K
  replace DH1 := DH1.below bc7
  replace DH2 := DH2.below bc7
  replace DB := Lib.hid (DB.out.call bc7)
  clear bc7
  (refine wpAnyH_ready (rs := [4]) (by kernel_rfl) (by simp) ?_; refine AllReadyH.cons (o := _) rfl (fun K hK => ?_) AllReadyH.nil; (simp only [List.getElem_toArray, List.getElem_cons_zero, List.getElem_cons_succ, Region.wanted, if_true]))
  go_simp
  refine (KI.out _).mono ?_
  rintro e wc8 ⟨rfl, bc8⟩
  dsimp only
  (try simp only [List.getElem_toArray, List.getElem_cons_zero, List.getElem_cons_succ, Act.put, List.setIfInBounds_toArray, List.set_cons_zero, List.set_cons_succ])
  refine hK.out _ _ ⟨hHeld.1.below bc8, hHeld.2.below bc8⟩ (fun hHeld => ?_)
  clear hK K
  replace DH1 := DH1.below bc8
  replace DH2 := DH2.below bc8
  replace DB := Lib.hid (DB.out.call bc8)
  clear bc8
  (refine wpAnyH_take (i := 5) (v := ?_) rfl (by kernel_rfl) (by kernel_rfl) (by kernel_rfl) (fun _ _ _ h => h) (Or.inl ⟨by rfl, ?_⟩) hHeld ?_; rotate_left; (· (intro w' hSw; go_simp; try with_reducible rfl)); (try simp only [List.getElem_toArray, List.getElem_cons_zero, List.getElem_cons_succ, Act.put, List.setIfInBounds_toArray, List.set_cons_zero, List.set_cons_succ])); (refine wpAnyH_take (i := 6) (v := ?_) rfl (by kernel_rfl) (by kernel_rfl) (by kernel_rfl) (fun _ _ _ h => h) (Or.inl ⟨by rfl, ?_⟩) hHeld ?_; rotate_left; (· (intro w' hSw; go_simp; try with_reducible rfl)); (try simp only [List.getElem_toArray, List.getElem_cons_zero, List.getElem_cons_succ, Act.put, List.setIfInBounds_toArray, List.set_cons_zero, List.set_cons_succ])); (refine wpAnyH_take (i := 7) (v := ?_) rfl (by kernel_rfl) (by kernel_rfl) (by kernel_rfl) (fun _ _ _ h => h) (Or.inl ⟨by rfl, ?_⟩) hHeld ?_; rotate_left; (· (intro w' hSw; go_simp; try with_reducible rfl)); (try simp only [List.getElem_toArray, List.getElem_cons_zero, List.getElem_cons_succ, Act.put, List.setIfInBounds_toArray, List.set_cons_zero, List.set_cons_succ])); (refine wpAnyH_take (i := 8) (v := ?_) rfl (by kernel_rfl) (by kernel_rfl) (by kernel_rfl) (fun _ _ _ h => h) (Or.inl ⟨by rfl, ?_⟩) hHeld ?_; rotate_left; (· (intro w' hSw; go_simp; try with_reducible rfl)); (try simp only [List.getElem_toArray, List.getElem_cons_zero, List.getElem_cons_succ, Act.put, List.setIfInBounds_toArray, List.set_cons_zero, List.set_cons_succ])); (refine wpAnyH_take (i := 9) (v := ?_) rfl (by kernel_rfl) (by kernel_rfl) (by kernel_rfl) (fun _ _ _ h => h) (Or.inl ⟨by rfl, ?_⟩) hHeld ?_; rotate_left; (· (intro w' hSw; go_simp; try with_reducible rfl)); (try simp only [List.getElem_toArray, List.getElem_cons_zero, List.getElem_cons_succ, Act.put, List.setIfInBounds_toArray, List.set_cons_zero, List.set_cons_succ]))
  refine wpAnyH_done (by kernel_rfl) ?_ _
  have H1 := DH1
  have H2 := DH2
  have HB := DB
  clear DH1 DH2 DB hHeld
  go_wp2_with fail
  go_ret
  exact ⟨rfl, HB.out⟩

set_option maxHeartbeats 3200000 in
set_option maxRecDepth 100000 in
theorem lawDealRuns (ns ds : List Int) (w : World) (fns : ns.length = 6 ∧ ∀ n ∈ ns, (Lit.int .i64 n).wf = true) (fds : ds.length = 6 ∧ ∀ n ∈ ds, (Lit.int .i64 n).wf = true) :
    Calls Try.prog 3 #[row ns, row ds] w fun e w' => e = .returned (.bool true) ∧ Kept w w' := by
  have hns := fns.1
  have hds := fds.1
  clear fns fds
  have hl : (runsA ns ds).length = 2 := runsA_len ns ds
  have HB := Lib.hid (((kept_refl w).alloc (.cells (ints ns).toArray 22)).alloc (.cells (ints ds).toArray 22))
  have H1 := (Has.box w 22 hns (by omega)).alloc (.cells (ints ds).toArray 22)
  have H2 := (Has.box (w.alloc (.cells (ints ns).toArray 22)) 22 hds (by omega)).at (size1 _ _)
  have hi1 : (Try.prog.info? 22).map (·.size) = some (ints ns).length := by rw [ints_len, hns]; kernel_rfl
  have hi2 : (Try.prog.info? 22).map (·.size) = some (ints ds).length := by rw [ints_len, hds]; kernel_rfl
  have hi3 : (Try.prog.info? 23).map (·.size) = some (ints (runsA ns ds)).length := by rw [ints_len, hl]; kernel_rfl
  have l3 : (ints (runsA ns ds)).length = 2 := by rw [ints_len]; exact hl
  have KS := Lib.hid (fun W => specDealRuns ns ds W hns hds)
  have KI := Lib.hid (fun W => implDealRuns ns ds W hns hds)
  generalize hR : runsA ns ds = RA at *
  have HRA := Lib.hid hR
  clear hR HRA
  generalize dV ns ds = OK0 at *
  rw [row_ints, row_ints]
  go_enter Try.func3, Try.ntmps3
  go_wp2_with fail
  go_cut [5, 6] from 9 to 16 (fun s5 s6 wx => ∃ c : Nat, s5 = .pointer (some ⟨c, 0, none⟩) ∧ s6 = .bool OK0 ∧ Has wx w.heap.size ns 6 ∧ Has wx (w.heap.size + 1) ds 6 ∧ Hid (Has wx c RA 2) ∧ Hid (Kept w wx))
  case first =>
    have DH1 := H1.drew
    have DH2 := H2.drew
    have DB := Lib.hid (keptDrew9 HB.out)
    clear H1 H2 HB
    refine wp_region_held_drew (S := fun w' => Has w' w.heap.size ns 6 ∧ Has w' (w.heap.size + 1) ds 6) (by kernel_rfl) ⟨DH1, DH2⟩ (fun hHeld => ?_)
    generalize hWD : World.drew _ = WD1 at *
    clear hWD
    (refine wpAnyH_take (i := 0) (v := _) rfl (by kernel_rfl) (by kernel_rfl) (by kernel_rfl) (fun _ _ _ h => h) (yieldsIf_load_mid (by rfl) 22 _ rfl _ _ rfl (ints ns) _ (fun w' hSw => hSw.1.holds.range) Try.underlying22 rfl (hi1)) hHeld ?_; (try simp only [List.getElem_toArray, List.getElem_cons_zero, List.getElem_cons_succ, Act.put, List.setIfInBounds_toArray, List.set_cons_zero, List.set_cons_succ]))
    (refine wpAnyH_take (i := 2) (v := _) rfl (by kernel_rfl) (by kernel_rfl) (by kernel_rfl) (fun _ _ _ h => h) (yieldsIf_load_mid (by rfl) 22 _ rfl _ _ rfl (ints ds) _ (fun w' hSw => hSw.2.holds.range) Try.underlying22 rfl (hi2)) hHeld ?_; (try simp only [List.getElem_toArray, List.getElem_cons_zero, List.getElem_cons_succ, Act.put, List.setIfInBounds_toArray, List.set_cons_zero, List.set_cons_succ]))
    refine wpAnyH_ready (rs := [1, 8]) (by kernel_rfl) (by simp) ?_
    refine AllReadyH.cons (o := _) rfl (fun K hK => ?_) (AllReadyH.cons (o := _) rfl (fun K hK => ?_) AllReadyH.nil)
    · (simp only [List.getElem_toArray, List.getElem_cons_zero, List.getElem_cons_succ, Region.wanted, if_true])
      go_simp
      refine (toIntA6v ns _ hns).mono ?_
      rintro e wc2 ⟨rfl, bc2⟩
      dsimp only
      (try simp only [List.getElem_toArray, List.getElem_cons_zero, List.getElem_cons_succ, Act.put, List.setIfInBounds_toArray, List.set_cons_zero, List.set_cons_succ])
      refine hK.out _ _ ⟨hHeld.1.below bc2, hHeld.2.below bc2⟩ (fun hHeld => ?_)
      clear hK K
      replace DH1 := DH1.below bc2
      replace DH2 := DH2.below bc2
      replace DB := Lib.hid (DB.out.call bc2)
      clear bc2
      refine wpAnyH_ready (rs := [3, 8]) (by kernel_rfl) (by simp) ?_
      refine AllReadyH.cons (o := _) rfl (fun K hK => ?_) (AllReadyH.cons (o := _) rfl (fun K hK => ?_) AllReadyH.nil)
      · (simp only [List.getElem_toArray, List.getElem_cons_zero, List.getElem_cons_succ, Region.wanted, if_true])
        go_simp
        refine (toIntA6v ds _ hds).mono ?_
        rintro e wc3 ⟨rfl, bc3⟩
        dsimp only
        (try simp only [List.getElem_toArray, List.getElem_cons_zero, List.getElem_cons_succ, Act.put, List.setIfInBounds_toArray, List.set_cons_zero, List.set_cons_succ])
        refine hK.out _ _ ⟨hHeld.1.below bc3, hHeld.2.below bc3⟩ (fun hHeld => ?_)
        clear hK K
        replace DH1 := DH1.below bc3
        replace DH2 := DH2.below bc3
        replace DB := Lib.hid (DB.out.call bc3)
        clear bc3
        refine wpAnyH_ready (rs := [4, 8]) (by kernel_rfl) (by simp) ?_
        refine AllReadyH.cons (o := _) rfl (fun K hK => ?_) (AllReadyH.cons (o := _) rfl (fun K hK => ?_) AllReadyH.nil)
        · (simp only [List.getElem_toArray, List.getElem_cons_zero, List.getElem_cons_succ, Region.wanted, if_true])
          go_simp
          refine (KS.out _).mono ?_
          rintro e wc4 ⟨rfl, bc4⟩
          dsimp only
          (try simp only [List.getElem_toArray, List.getElem_cons_zero, List.getElem_cons_succ, Act.put, List.setIfInBounds_toArray, List.set_cons_zero, List.set_cons_succ])
          refine hK.out _ _ ⟨hHeld.1.below bc4, hHeld.2.below bc4⟩ (fun hHeld => ?_)
          clear hK K
          replace DH1 := DH1.below bc4
          replace DH2 := DH2.below bc4
          replace DB := Lib.hid (DB.out.call bc4)
          clear bc4
          (refine wpAnyH_take (i := 5) (v := ?_) rfl (by kernel_rfl) (by kernel_rfl) (by kernel_rfl) (fun _ _ _ h => h) (Or.inl ⟨by rfl, ?_⟩) hHeld ?_; rotate_left; (· (intro w' hSw; go_simp; try with_reducible rfl)); (try simp only [List.getElem_toArray, List.getElem_cons_zero, List.getElem_cons_succ, Act.put, List.setIfInBounds_toArray, List.set_cons_zero, List.set_cons_succ])); (refine wpAnyH_take (i := 6) (v := ?_) rfl (by kernel_rfl) (by kernel_rfl) (by kernel_rfl) (fun _ _ _ h => h) (Or.inl ⟨by rfl, ?_⟩) hHeld ?_; rotate_left; (· (intro w' hSw; go_simp; try with_reducible rfl)); (try simp only [List.getElem_toArray, List.getElem_cons_zero, List.getElem_cons_succ, Act.put, List.setIfInBounds_toArray, List.set_cons_zero, List.set_cons_succ])); (refine wpAnyH_take (i := 7) (v := ?_) rfl (by kernel_rfl) (by kernel_rfl) (by kernel_rfl) (fun _ _ _ h => h) (Or.inl ⟨by rfl, ?_⟩) hHeld ?_; rotate_left; (· (intro w' hSw; go_simp; try with_reducible rfl)); (try simp only [List.getElem_toArray, List.getElem_cons_zero, List.getElem_cons_succ, Act.put, List.setIfInBounds_toArray, List.set_cons_zero, List.set_cons_succ]))
          (refine wpAnyH_ready (rs := [8]) (by kernel_rfl) (by simp) ?_; refine AllReadyH.cons (o := _) rfl (fun K hK => ?_) AllReadyH.nil; (simp only [List.getElem_toArray, List.getElem_cons_zero, List.getElem_cons_succ, Region.wanted, if_true]))
          go_simp
          refine hK.out _ _ ⟨hHeld.1.alloc _, hHeld.2.alloc _⟩ (fun hHeld => ?_)
          clear hK K
          have ltH1 := DH1.lt
          have ltH2 := DH2.lt
          have ltB := DB.out.size
          have Z : Has (wc4.alloc (.cells #[.int .i64 0, .int .i64 0] 23)) wc4.heap.size z2 2 := Has.box (ns := z2) wc4 23 rfl (by omega)
          replace DH1 := DH1.alloc (.cells #[.int .i64 0, .int .i64 0] 23)
          replace DH2 := DH2.alloc (.cells #[.int .i64 0, .int .i64 0] 23)
          replace DB := Lib.hid (DB.out.alloc (.cells #[.int .i64 0, .int .i64 0] 23))
          generalize hcc : wc4.heap.size = cc at *
          clear hcc
          generalize wc4.alloc (.cells #[.int .i64 0, .int .i64 0] 23) = WA5 at *
          (refine wpAnyH_ready (rs := [9]) (by kernel_rfl) (by simp) ?_; refine AllReadyH.cons (o := _) rfl (fun K hK => ?_) AllReadyH.nil; (simp only [List.getElem_toArray, List.getElem_cons_zero, List.getElem_cons_succ, Region.wanted, if_true]); refine wp_store_mid _ _ _ rfl _ _ (ints RA).toArray rfl rfl (by simpa [l3] using Z.there) (by simpa [l3] using hi3) (all_oneCell_toArray (ints_one _)) ?_; (try simp only [List.getElem_toArray, List.getElem_cons_zero, List.getElem_cons_succ, Act.put, List.setIfInBounds_toArray, List.set_cons_zero, List.set_cons_succ, List.toList_toArray]); refine hK.out _ _ (⟨hHeld.1.putOther _ _ (by omega), hHeld.2.putOther _ _ (by omega)⟩) (fun hHeld => ?_); clear hK K)
          (refine wpAnyH_take (i := 10) (v := ?_) rfl (by kernel_rfl) (by kernel_rfl) (by kernel_rfl) (fun _ _ _ h => h) (Or.inl ⟨by rfl, ?_⟩) hHeld ?_; rotate_left; (· (intro w' hSw; go_simp; try with_reducible rfl)); (try simp only [List.getElem_toArray, List.getElem_cons_zero, List.getElem_cons_succ, Act.put, List.setIfInBounds_toArray, List.set_cons_zero, List.set_cons_succ]))
          refine wpAnyH_done (by kernel_rfl) ?_ _
          have R := Z.putAll RA hl
          replace DH1 := DH1.putOther (b' := cc) 0 (ints RA) (by omega)
          replace DH2 := DH2.putOther (b' := cc) 0 (ints RA) (by omega)
          replace DB := Lib.hid (DB.out.puts (b := cc) (by omega) 0 (ints RA))
          clear hHeld Z
          go_wp2_with fail
          go_meet
          case rel => exact ⟨cc, rfl, rfl, DH1, DH2, Lib.hid R, DB⟩
        · (simp only [List.getElem_toArray, List.getElem_cons_zero, List.getElem_cons_succ, Region.wanted, if_true])
          go_simp
          refine hK.out _ _ ⟨hHeld.1.alloc _, hHeld.2.alloc _⟩ (fun hHeld => ?_)
          clear hK K
          have ltH1 := DH1.lt
          have ltH2 := DH2.lt
          have ltB := DB.out.size
          have Z : Has (wc3.alloc (.cells #[.int .i64 0, .int .i64 0] 23)) wc3.heap.size z2 2 := Has.box (ns := z2) wc3 23 rfl (by omega)
          replace DH1 := DH1.alloc (.cells #[.int .i64 0, .int .i64 0] 23)
          replace DH2 := DH2.alloc (.cells #[.int .i64 0, .int .i64 0] 23)
          replace DB := Lib.hid (DB.out.alloc (.cells #[.int .i64 0, .int .i64 0] 23))
          generalize hcc : wc3.heap.size = cc at *
          clear hcc
          generalize wc3.alloc (.cells #[.int .i64 0, .int .i64 0] 23) = WA6 at *
          (refine wpAnyH_ready (rs := [4]) (by kernel_rfl) (by simp) ?_; refine AllReadyH.cons (o := _) rfl (fun K hK => ?_) AllReadyH.nil; (simp only [List.getElem_toArray, List.getElem_cons_zero, List.getElem_cons_succ, Region.wanted, if_true]))
          go_simp
          refine (KS.out _).mono ?_
          rintro e wc7 ⟨rfl, bc7⟩
          dsimp only
          (try simp only [List.getElem_toArray, List.getElem_cons_zero, List.getElem_cons_succ, Act.put, List.setIfInBounds_toArray, List.set_cons_zero, List.set_cons_succ])
          refine hK.out _ _ ⟨hHeld.1.below bc7, hHeld.2.below bc7⟩ (fun hHeld => ?_)
          clear hK K
          replace DH1 := DH1.below bc7
          replace DH2 := DH2.below bc7
          replace DB := Lib.hid (DB.out.call bc7)
          replace Z := Z.below bc7
          clear bc7
          (refine wpAnyH_take (i := 5) (v := ?_) rfl (by kernel_rfl) (by kernel_rfl) (by kernel_rfl) (fun _ _ _ h => h) (Or.inl ⟨by rfl, ?_⟩) hHeld ?_; rotate_left; (· (intro w' hSw; go_simp; try with_reducible rfl)); (try simp only [List.getElem_toArray, List.getElem_cons_zero, List.getElem_cons_succ, Act.put, List.setIfInBounds_toArray, List.set_cons_zero, List.set_cons_succ])); (refine wpAnyH_take (i := 6) (v := ?_) rfl (by kernel_rfl) (by kernel_rfl) (by kernel_rfl) (fun _ _ _ h => h) (Or.inl ⟨by rfl, ?_⟩) hHeld ?_; rotate_left; (· (intro w' hSw; go_simp; try with_reducible rfl)); (try simp only [List.getElem_toArray, List.getElem_cons_zero, List.getElem_cons_succ, Act.put, List.setIfInBounds_toArray, List.set_cons_zero, List.set_cons_succ])); (refine wpAnyH_take (i := 7) (v := ?_) rfl (by kernel_rfl) (by kernel_rfl) (by kernel_rfl) (fun _ _ _ h => h) (Or.inl ⟨by rfl, ?_⟩) hHeld ?_; rotate_left; (· (intro w' hSw; go_simp; try with_reducible rfl)); (try simp only [List.getElem_toArray, List.getElem_cons_zero, List.getElem_cons_succ, Act.put, List.setIfInBounds_toArray, List.set_cons_zero, List.set_cons_succ]))
          (refine wpAnyH_ready (rs := [9]) (by kernel_rfl) (by simp) ?_; refine AllReadyH.cons (o := _) rfl (fun K hK => ?_) AllReadyH.nil; (simp only [List.getElem_toArray, List.getElem_cons_zero, List.getElem_cons_succ, Region.wanted, if_true]); refine wp_store_mid _ _ _ rfl _ _ (ints RA).toArray rfl rfl (by simpa [l3] using Z.there) (by simpa [l3] using hi3) (all_oneCell_toArray (ints_one _)) ?_; (try simp only [List.getElem_toArray, List.getElem_cons_zero, List.getElem_cons_succ, Act.put, List.setIfInBounds_toArray, List.set_cons_zero, List.set_cons_succ, List.toList_toArray]); refine hK.out _ _ (⟨hHeld.1.putOther _ _ (by omega), hHeld.2.putOther _ _ (by omega)⟩) (fun hHeld => ?_); clear hK K)
          (refine wpAnyH_take (i := 10) (v := ?_) rfl (by kernel_rfl) (by kernel_rfl) (by kernel_rfl) (fun _ _ _ h => h) (Or.inl ⟨by rfl, ?_⟩) hHeld ?_; rotate_left; (· (intro w' hSw; go_simp; try with_reducible rfl)); (try simp only [List.getElem_toArray, List.getElem_cons_zero, List.getElem_cons_succ, Act.put, List.setIfInBounds_toArray, List.set_cons_zero, List.set_cons_succ]))
          refine wpAnyH_done (by kernel_rfl) ?_ _
          have R := Z.putAll RA hl
          replace DH1 := DH1.putOther (b' := cc) 0 (ints RA) (by omega)
          replace DH2 := DH2.putOther (b' := cc) 0 (ints RA) (by omega)
          replace DB := Lib.hid (DB.out.puts (b := cc) (by omega) 0 (ints RA))
          clear hHeld Z
          go_wp2_with fail
          go_meet
          case rel => exact ⟨cc, rfl, rfl, DH1, DH2, Lib.hid R, DB⟩
      · (simp only [List.getElem_toArray, List.getElem_cons_zero, List.getElem_cons_succ, Region.wanted, if_true])
        go_simp
        refine hK.out _ _ ⟨hHeld.1.alloc _, hHeld.2.alloc _⟩ (fun hHeld => ?_)
        clear hK K
        have ltH1 := DH1.lt
        have ltH2 := DH2.lt
        have ltB := DB.out.size
        have Z : Has (wc2.alloc (.cells #[.int .i64 0, .int .i64 0] 23)) wc2.heap.size z2 2 := Has.box (ns := z2) wc2 23 rfl (by omega)
        replace DH1 := DH1.alloc (.cells #[.int .i64 0, .int .i64 0] 23)
        replace DH2 := DH2.alloc (.cells #[.int .i64 0, .int .i64 0] 23)
        replace DB := Lib.hid (DB.out.alloc (.cells #[.int .i64 0, .int .i64 0] 23))
        generalize hcc : wc2.heap.size = cc at *
        clear hcc
        generalize wc2.alloc (.cells #[.int .i64 0, .int .i64 0] 23) = WA8 at *
        (refine wpAnyH_ready (rs := [3]) (by kernel_rfl) (by simp) ?_; refine AllReadyH.cons (o := _) rfl (fun K hK => ?_) AllReadyH.nil; (simp only [List.getElem_toArray, List.getElem_cons_zero, List.getElem_cons_succ, Region.wanted, if_true]))
        go_simp
        refine (toIntA6v ds _ hds).mono ?_
        rintro e wc9 ⟨rfl, bc9⟩
        dsimp only
        (try simp only [List.getElem_toArray, List.getElem_cons_zero, List.getElem_cons_succ, Act.put, List.setIfInBounds_toArray, List.set_cons_zero, List.set_cons_succ])
        refine hK.out _ _ ⟨hHeld.1.below bc9, hHeld.2.below bc9⟩ (fun hHeld => ?_)
        clear hK K
        replace DH1 := DH1.below bc9
        replace DH2 := DH2.below bc9
        replace DB := Lib.hid (DB.out.call bc9)
        replace Z := Z.below bc9
        clear bc9
        (refine wpAnyH_ready (rs := [4]) (by kernel_rfl) (by simp) ?_; refine AllReadyH.cons (o := _) rfl (fun K hK => ?_) AllReadyH.nil; (simp only [List.getElem_toArray, List.getElem_cons_zero, List.getElem_cons_succ, Region.wanted, if_true]))
        go_simp
        refine (KS.out _).mono ?_
        rintro e wc10 ⟨rfl, bc10⟩
        dsimp only
        (try simp only [List.getElem_toArray, List.getElem_cons_zero, List.getElem_cons_succ, Act.put, List.setIfInBounds_toArray, List.set_cons_zero, List.set_cons_succ])
        refine hK.out _ _ ⟨hHeld.1.below bc10, hHeld.2.below bc10⟩ (fun hHeld => ?_)
        clear hK K
        replace DH1 := DH1.below bc10
        replace DH2 := DH2.below bc10
        replace DB := Lib.hid (DB.out.call bc10)
        replace Z := Z.below bc10
        clear bc10
        (refine wpAnyH_take (i := 5) (v := ?_) rfl (by kernel_rfl) (by kernel_rfl) (by kernel_rfl) (fun _ _ _ h => h) (Or.inl ⟨by rfl, ?_⟩) hHeld ?_; rotate_left; (· (intro w' hSw; go_simp; try with_reducible rfl)); (try simp only [List.getElem_toArray, List.getElem_cons_zero, List.getElem_cons_succ, Act.put, List.setIfInBounds_toArray, List.set_cons_zero, List.set_cons_succ])); (refine wpAnyH_take (i := 6) (v := ?_) rfl (by kernel_rfl) (by kernel_rfl) (by kernel_rfl) (fun _ _ _ h => h) (Or.inl ⟨by rfl, ?_⟩) hHeld ?_; rotate_left; (· (intro w' hSw; go_simp; try with_reducible rfl)); (try simp only [List.getElem_toArray, List.getElem_cons_zero, List.getElem_cons_succ, Act.put, List.setIfInBounds_toArray, List.set_cons_zero, List.set_cons_succ])); (refine wpAnyH_take (i := 7) (v := ?_) rfl (by kernel_rfl) (by kernel_rfl) (by kernel_rfl) (fun _ _ _ h => h) (Or.inl ⟨by rfl, ?_⟩) hHeld ?_; rotate_left; (· (intro w' hSw; go_simp; try with_reducible rfl)); (try simp only [List.getElem_toArray, List.getElem_cons_zero, List.getElem_cons_succ, Act.put, List.setIfInBounds_toArray, List.set_cons_zero, List.set_cons_succ]))
        (refine wpAnyH_ready (rs := [9]) (by kernel_rfl) (by simp) ?_; refine AllReadyH.cons (o := _) rfl (fun K hK => ?_) AllReadyH.nil; (simp only [List.getElem_toArray, List.getElem_cons_zero, List.getElem_cons_succ, Region.wanted, if_true]); refine wp_store_mid _ _ _ rfl _ _ (ints RA).toArray rfl rfl (by simpa [l3] using Z.there) (by simpa [l3] using hi3) (all_oneCell_toArray (ints_one _)) ?_; (try simp only [List.getElem_toArray, List.getElem_cons_zero, List.getElem_cons_succ, Act.put, List.setIfInBounds_toArray, List.set_cons_zero, List.set_cons_succ, List.toList_toArray]); refine hK.out _ _ (⟨hHeld.1.putOther _ _ (by omega), hHeld.2.putOther _ _ (by omega)⟩) (fun hHeld => ?_); clear hK K)
        (refine wpAnyH_take (i := 10) (v := ?_) rfl (by kernel_rfl) (by kernel_rfl) (by kernel_rfl) (fun _ _ _ h => h) (Or.inl ⟨by rfl, ?_⟩) hHeld ?_; rotate_left; (· (intro w' hSw; go_simp; try with_reducible rfl)); (try simp only [List.getElem_toArray, List.getElem_cons_zero, List.getElem_cons_succ, Act.put, List.setIfInBounds_toArray, List.set_cons_zero, List.set_cons_succ]))
        refine wpAnyH_done (by kernel_rfl) ?_ _
        have R := Z.putAll RA hl
        replace DH1 := DH1.putOther (b' := cc) 0 (ints RA) (by omega)
        replace DH2 := DH2.putOther (b' := cc) 0 (ints RA) (by omega)
        replace DB := Lib.hid (DB.out.puts (b := cc) (by omega) 0 (ints RA))
        clear hHeld Z
        go_wp2_with fail
        go_meet
        case rel => exact ⟨cc, rfl, rfl, DH1, DH2, Lib.hid R, DB⟩
    · (simp only [List.getElem_toArray, List.getElem_cons_zero, List.getElem_cons_succ, Region.wanted, if_true])
      go_simp
      refine hK.out _ _ ⟨hHeld.1.alloc _, hHeld.2.alloc _⟩ (fun hHeld => ?_)
      clear hK K
      have ltH1 := DH1.lt
      have ltH2 := DH2.lt
      have ltB := DB.out.size
      have Z : Has (WD1.alloc (.cells #[.int .i64 0, .int .i64 0] 23)) WD1.heap.size z2 2 := Has.box (ns := z2) WD1 23 rfl (by omega)
      replace DH1 := DH1.alloc (.cells #[.int .i64 0, .int .i64 0] 23)
      replace DH2 := DH2.alloc (.cells #[.int .i64 0, .int .i64 0] 23)
      replace DB := Lib.hid (DB.out.alloc (.cells #[.int .i64 0, .int .i64 0] 23))
      generalize hcc : WD1.heap.size = cc at *
      clear hcc
      generalize WD1.alloc (.cells #[.int .i64 0, .int .i64 0] 23) = WA11 at *
      (refine wpAnyH_ready (rs := [1]) (by kernel_rfl) (by simp) ?_; refine AllReadyH.cons (o := _) rfl (fun K hK => ?_) AllReadyH.nil; (simp only [List.getElem_toArray, List.getElem_cons_zero, List.getElem_cons_succ, Region.wanted, if_true]))
      go_simp
      refine (toIntA6v ns _ hns).mono ?_
      rintro e wc12 ⟨rfl, bc12⟩
      dsimp only
      (try simp only [List.getElem_toArray, List.getElem_cons_zero, List.getElem_cons_succ, Act.put, List.setIfInBounds_toArray, List.set_cons_zero, List.set_cons_succ])
      refine hK.out _ _ ⟨hHeld.1.below bc12, hHeld.2.below bc12⟩ (fun hHeld => ?_)
      clear hK K
      replace DH1 := DH1.below bc12
      replace DH2 := DH2.below bc12
      replace DB := Lib.hid (DB.out.call bc12)
      replace Z := Z.below bc12
      clear bc12
      (refine wpAnyH_ready (rs := [3]) (by kernel_rfl) (by simp) ?_; refine AllReadyH.cons (o := _) rfl (fun K hK => ?_) AllReadyH.nil; (simp only [List.getElem_toArray, List.getElem_cons_zero, List.getElem_cons_succ, Region.wanted, if_true]))
      go_simp
      refine (toIntA6v ds _ hds).mono ?_
      rintro e wc13 ⟨rfl, bc13⟩
      dsimp only
      (try simp only [List.getElem_toArray, List.getElem_cons_zero, List.getElem_cons_succ, Act.put, List.setIfInBounds_toArray, List.set_cons_zero, List.set_cons_succ])
      refine hK.out _ _ ⟨hHeld.1.below bc13, hHeld.2.below bc13⟩ (fun hHeld => ?_)
      clear hK K
      replace DH1 := DH1.below bc13
      replace DH2 := DH2.below bc13
      replace DB := Lib.hid (DB.out.call bc13)
      replace Z := Z.below bc13
      clear bc13
      (refine wpAnyH_ready (rs := [4]) (by kernel_rfl) (by simp) ?_; refine AllReadyH.cons (o := _) rfl (fun K hK => ?_) AllReadyH.nil; (simp only [List.getElem_toArray, List.getElem_cons_zero, List.getElem_cons_succ, Region.wanted, if_true]))
      go_simp
      refine (KS.out _).mono ?_
      rintro e wc14 ⟨rfl, bc14⟩
      dsimp only
      (try simp only [List.getElem_toArray, List.getElem_cons_zero, List.getElem_cons_succ, Act.put, List.setIfInBounds_toArray, List.set_cons_zero, List.set_cons_succ])
      refine hK.out _ _ ⟨hHeld.1.below bc14, hHeld.2.below bc14⟩ (fun hHeld => ?_)
      clear hK K
      replace DH1 := DH1.below bc14
      replace DH2 := DH2.below bc14
      replace DB := Lib.hid (DB.out.call bc14)
      replace Z := Z.below bc14
      clear bc14
      (refine wpAnyH_take (i := 5) (v := ?_) rfl (by kernel_rfl) (by kernel_rfl) (by kernel_rfl) (fun _ _ _ h => h) (Or.inl ⟨by rfl, ?_⟩) hHeld ?_; rotate_left; (· (intro w' hSw; go_simp; try with_reducible rfl)); (try simp only [List.getElem_toArray, List.getElem_cons_zero, List.getElem_cons_succ, Act.put, List.setIfInBounds_toArray, List.set_cons_zero, List.set_cons_succ])); (refine wpAnyH_take (i := 6) (v := ?_) rfl (by kernel_rfl) (by kernel_rfl) (by kernel_rfl) (fun _ _ _ h => h) (Or.inl ⟨by rfl, ?_⟩) hHeld ?_; rotate_left; (· (intro w' hSw; go_simp; try with_reducible rfl)); (try simp only [List.getElem_toArray, List.getElem_cons_zero, List.getElem_cons_succ, Act.put, List.setIfInBounds_toArray, List.set_cons_zero, List.set_cons_succ])); (refine wpAnyH_take (i := 7) (v := ?_) rfl (by kernel_rfl) (by kernel_rfl) (by kernel_rfl) (fun _ _ _ h => h) (Or.inl ⟨by rfl, ?_⟩) hHeld ?_; rotate_left; (· (intro w' hSw; go_simp; try with_reducible rfl)); (try simp only [List.getElem_toArray, List.getElem_cons_zero, List.getElem_cons_succ, Act.put, List.setIfInBounds_toArray, List.set_cons_zero, List.set_cons_succ]))
      (refine wpAnyH_ready (rs := [9]) (by kernel_rfl) (by simp) ?_; refine AllReadyH.cons (o := _) rfl (fun K hK => ?_) AllReadyH.nil; (simp only [List.getElem_toArray, List.getElem_cons_zero, List.getElem_cons_succ, Region.wanted, if_true]); refine wp_store_mid _ _ _ rfl _ _ (ints RA).toArray rfl rfl (by simpa [l3] using Z.there) (by simpa [l3] using hi3) (all_oneCell_toArray (ints_one _)) ?_; (try simp only [List.getElem_toArray, List.getElem_cons_zero, List.getElem_cons_succ, Act.put, List.setIfInBounds_toArray, List.set_cons_zero, List.set_cons_succ, List.toList_toArray]); refine hK.out _ _ (⟨hHeld.1.putOther _ _ (by omega), hHeld.2.putOther _ _ (by omega)⟩) (fun hHeld => ?_); clear hK K)
      (refine wpAnyH_take (i := 10) (v := ?_) rfl (by kernel_rfl) (by kernel_rfl) (by kernel_rfl) (fun _ _ _ h => h) (Or.inl ⟨by rfl, ?_⟩) hHeld ?_; rotate_left; (· (intro w' hSw; go_simp; try with_reducible rfl)); (try simp only [List.getElem_toArray, List.getElem_cons_zero, List.getElem_cons_succ, Act.put, List.setIfInBounds_toArray, List.set_cons_zero, List.set_cons_succ]))
      refine wpAnyH_done (by kernel_rfl) ?_ _
      have R := Z.putAll RA hl
      replace DH1 := DH1.putOther (b' := cc) 0 (ints RA) (by omega)
      replace DH2 := DH2.putOther (b' := cc) 0 (ints RA) (by omega)
      replace DB := Lib.hid (DB.out.puts (b := cc) (by omega) 0 (ints RA))
      clear hHeld Z
      go_wp2_with fail
      go_meet
      case rel => exact ⟨cc, rfl, rfl, DH1, DH2, Lib.hid R, DB⟩
  clear HB H1 H2
  obtain ⟨ca, rfl, rfl, H1, H2, Ra, HB⟩ := hcut
  go_wp2_with fail
  go_cut [7, 8] from 17 to 24 (fun s7 s8 wx => ∃ c : Nat, s7 = .pointer (some ⟨c, 0, none⟩) ∧ s8 = .bool OK0 ∧ Has wx w.heap.size ns 6 ∧ Has wx (w.heap.size + 1) ds 6 ∧ Hid (Has wx c RA 2) ∧ Hid (Has wx ca RA 2) ∧ Hid (Kept w wx))
  case first =>
    have DH1 := H1.drew
    have DH2 := H2.drew
    have DB := Lib.hid (keptDrew9 HB.out)
    clear H1 H2 HB
    have DRa := Lib.hid (Ra.out.drew)
    clear Ra
    refine wp_region_held_drew (S := fun w' => Has w' w.heap.size ns 6 ∧ Has w' (w.heap.size + 1) ds 6) (by kernel_rfl) ⟨DH1, DH2⟩ (fun hHeld => ?_)
    generalize hWD : World.drew _ = WD15 at *
    clear hWD
    (refine wpAnyH_take (i := 0) (v := _) rfl (by kernel_rfl) (by kernel_rfl) (by kernel_rfl) (fun _ _ _ h => h) (yieldsIf_load_mid (by rfl) 22 _ rfl _ _ rfl (ints ns) _ (fun w' hSw => hSw.1.holds.range) Try.underlying22 rfl (hi1)) hHeld ?_; (try simp only [List.getElem_toArray, List.getElem_cons_zero, List.getElem_cons_succ, Act.put, List.setIfInBounds_toArray, List.set_cons_zero, List.set_cons_succ]))
    (refine wpAnyH_take (i := 2) (v := _) rfl (by kernel_rfl) (by kernel_rfl) (by kernel_rfl) (fun _ _ _ h => h) (yieldsIf_load_mid (by rfl) 22 _ rfl _ _ rfl (ints ds) _ (fun w' hSw => hSw.2.holds.range) Try.underlying22 rfl (hi2)) hHeld ?_; (try simp only [List.getElem_toArray, List.getElem_cons_zero, List.getElem_cons_succ, Act.put, List.setIfInBounds_toArray, List.set_cons_zero, List.set_cons_succ]))
    refine wpAnyH_ready (rs := [1, 8]) (by kernel_rfl) (by simp) ?_
    refine AllReadyH.cons (o := _) rfl (fun K hK => ?_) (AllReadyH.cons (o := _) rfl (fun K hK => ?_) AllReadyH.nil)
    · (simp only [List.getElem_toArray, List.getElem_cons_zero, List.getElem_cons_succ, Region.wanted, if_true])
      go_simp
      refine (toIntA6v ns _ hns).mono ?_
      rintro e wc16 ⟨rfl, bc16⟩
      dsimp only
      (try simp only [List.getElem_toArray, List.getElem_cons_zero, List.getElem_cons_succ, Act.put, List.setIfInBounds_toArray, List.set_cons_zero, List.set_cons_succ])
      refine hK.out _ _ ⟨hHeld.1.below bc16, hHeld.2.below bc16⟩ (fun hHeld => ?_)
      clear hK K
      replace DH1 := DH1.below bc16
      replace DH2 := DH2.below bc16
      replace DB := Lib.hid (DB.out.call bc16)
      replace DRa := Lib.hid (DRa.out.below bc16)
      clear bc16
      refine wpAnyH_ready (rs := [3, 8]) (by kernel_rfl) (by simp) ?_
      refine AllReadyH.cons (o := _) rfl (fun K hK => ?_) (AllReadyH.cons (o := _) rfl (fun K hK => ?_) AllReadyH.nil)
      · (simp only [List.getElem_toArray, List.getElem_cons_zero, List.getElem_cons_succ, Region.wanted, if_true])
        go_simp
        refine (toIntA6v ds _ hds).mono ?_
        rintro e wc17 ⟨rfl, bc17⟩
        dsimp only
        (try simp only [List.getElem_toArray, List.getElem_cons_zero, List.getElem_cons_succ, Act.put, List.setIfInBounds_toArray, List.set_cons_zero, List.set_cons_succ])
        refine hK.out _ _ ⟨hHeld.1.below bc17, hHeld.2.below bc17⟩ (fun hHeld => ?_)
        clear hK K
        replace DH1 := DH1.below bc17
        replace DH2 := DH2.below bc17
        replace DB := Lib.hid (DB.out.call bc17)
        replace DRa := Lib.hid (DRa.out.below bc17)
        clear bc17
        refine wpAnyH_ready (rs := [4, 8]) (by kernel_rfl) (by simp) ?_
        refine AllReadyH.cons (o := _) rfl (fun K hK => ?_) (AllReadyH.cons (o := _) rfl (fun K hK => ?_) AllReadyH.nil)
        · (simp only [List.getElem_toArray, List.getElem_cons_zero, List.getElem_cons_succ, Region.wanted, if_true])
          go_simp
          refine (KI.out _).mono ?_
          rintro e wc18 ⟨rfl, bc18⟩
          dsimp only
          (try simp only [List.getElem_toArray, List.getElem_cons_zero, List.getElem_cons_succ, Act.put, List.setIfInBounds_toArray, List.set_cons_zero, List.set_cons_succ])
          refine hK.out _ _ ⟨hHeld.1.below bc18, hHeld.2.below bc18⟩ (fun hHeld => ?_)
          clear hK K
          replace DH1 := DH1.below bc18
          replace DH2 := DH2.below bc18
          replace DB := Lib.hid (DB.out.call bc18)
          replace DRa := Lib.hid (DRa.out.below bc18)
          clear bc18
          (refine wpAnyH_take (i := 5) (v := ?_) rfl (by kernel_rfl) (by kernel_rfl) (by kernel_rfl) (fun _ _ _ h => h) (Or.inl ⟨by rfl, ?_⟩) hHeld ?_; rotate_left; (· (intro w' hSw; go_simp; try with_reducible rfl)); (try simp only [List.getElem_toArray, List.getElem_cons_zero, List.getElem_cons_succ, Act.put, List.setIfInBounds_toArray, List.set_cons_zero, List.set_cons_succ])); (refine wpAnyH_take (i := 6) (v := ?_) rfl (by kernel_rfl) (by kernel_rfl) (by kernel_rfl) (fun _ _ _ h => h) (Or.inl ⟨by rfl, ?_⟩) hHeld ?_; rotate_left; (· (intro w' hSw; go_simp; try with_reducible rfl)); (try simp only [List.getElem_toArray, List.getElem_cons_zero, List.getElem_cons_succ, Act.put, List.setIfInBounds_toArray, List.set_cons_zero, List.set_cons_succ])); (refine wpAnyH_take (i := 7) (v := ?_) rfl (by kernel_rfl) (by kernel_rfl) (by kernel_rfl) (fun _ _ _ h => h) (Or.inl ⟨by rfl, ?_⟩) hHeld ?_; rotate_left; (· (intro w' hSw; go_simp; try with_reducible rfl)); (try simp only [List.getElem_toArray, List.getElem_cons_zero, List.getElem_cons_succ, Act.put, List.setIfInBounds_toArray, List.set_cons_zero, List.set_cons_succ]))
          (refine wpAnyH_ready (rs := [8]) (by kernel_rfl) (by simp) ?_; refine AllReadyH.cons (o := _) rfl (fun K hK => ?_) AllReadyH.nil; (simp only [List.getElem_toArray, List.getElem_cons_zero, List.getElem_cons_succ, Region.wanted, if_true]))
          go_simp
          refine hK.out _ _ ⟨hHeld.1.alloc _, hHeld.2.alloc _⟩ (fun hHeld => ?_)
          clear hK K
          have ltH1 := DH1.lt
          have ltH2 := DH2.lt
          have ltB := DB.out.size
          have ltRa := DRa.out.lt
          have Z : Has (wc18.alloc (.cells #[.int .i64 0, .int .i64 0] 23)) wc18.heap.size z2 2 := Has.box (ns := z2) wc18 23 rfl (by omega)
          replace DH1 := DH1.alloc (.cells #[.int .i64 0, .int .i64 0] 23)
          replace DH2 := DH2.alloc (.cells #[.int .i64 0, .int .i64 0] 23)
          replace DB := Lib.hid (DB.out.alloc (.cells #[.int .i64 0, .int .i64 0] 23))
          replace DRa := Lib.hid (DRa.out.alloc (.cells #[.int .i64 0, .int .i64 0] 23))
          generalize hcc : wc18.heap.size = cc at *
          clear hcc
          generalize wc18.alloc (.cells #[.int .i64 0, .int .i64 0] 23) = WA19 at *
          (refine wpAnyH_ready (rs := [9]) (by kernel_rfl) (by simp) ?_; refine AllReadyH.cons (o := _) rfl (fun K hK => ?_) AllReadyH.nil; (simp only [List.getElem_toArray, List.getElem_cons_zero, List.getElem_cons_succ, Region.wanted, if_true]); refine wp_store_mid _ _ _ rfl _ _ (ints RA).toArray rfl rfl (by simpa [l3] using Z.there) (by simpa [l3] using hi3) (all_oneCell_toArray (ints_one _)) ?_; (try simp only [List.getElem_toArray, List.getElem_cons_zero, List.getElem_cons_succ, Act.put, List.setIfInBounds_toArray, List.set_cons_zero, List.set_cons_succ, List.toList_toArray]); refine hK.out _ _ (⟨hHeld.1.putOther _ _ (by omega), hHeld.2.putOther _ _ (by omega)⟩) (fun hHeld => ?_); clear hK K)
          (refine wpAnyH_take (i := 10) (v := ?_) rfl (by kernel_rfl) (by kernel_rfl) (by kernel_rfl) (fun _ _ _ h => h) (Or.inl ⟨by rfl, ?_⟩) hHeld ?_; rotate_left; (· (intro w' hSw; go_simp; try with_reducible rfl)); (try simp only [List.getElem_toArray, List.getElem_cons_zero, List.getElem_cons_succ, Act.put, List.setIfInBounds_toArray, List.set_cons_zero, List.set_cons_succ]))
          refine wpAnyH_done (by kernel_rfl) ?_ _
          have R := Z.putAll RA hl
          replace DH1 := DH1.putOther (b' := cc) 0 (ints RA) (by omega)
          replace DH2 := DH2.putOther (b' := cc) 0 (ints RA) (by omega)
          replace DRa := Lib.hid (DRa.out.putOther (b' := cc) 0 (ints RA) (by omega))
          replace DB := Lib.hid (DB.out.puts (b := cc) (by omega) 0 (ints RA))
          clear hHeld Z
          go_wp2_with fail
          go_meet
          case rel => exact ⟨cc, rfl, rfl, DH1, DH2, Lib.hid R, DRa, DB⟩
        · (simp only [List.getElem_toArray, List.getElem_cons_zero, List.getElem_cons_succ, Region.wanted, if_true])
          go_simp
          refine hK.out _ _ ⟨hHeld.1.alloc _, hHeld.2.alloc _⟩ (fun hHeld => ?_)
          clear hK K
          have ltH1 := DH1.lt
          have ltH2 := DH2.lt
          have ltB := DB.out.size
          have ltRa := DRa.out.lt
          have Z : Has (wc17.alloc (.cells #[.int .i64 0, .int .i64 0] 23)) wc17.heap.size z2 2 := Has.box (ns := z2) wc17 23 rfl (by omega)
          replace DH1 := DH1.alloc (.cells #[.int .i64 0, .int .i64 0] 23)
          replace DH2 := DH2.alloc (.cells #[.int .i64 0, .int .i64 0] 23)
          replace DB := Lib.hid (DB.out.alloc (.cells #[.int .i64 0, .int .i64 0] 23))
          replace DRa := Lib.hid (DRa.out.alloc (.cells #[.int .i64 0, .int .i64 0] 23))
          generalize hcc : wc17.heap.size = cc at *
          clear hcc
          generalize wc17.alloc (.cells #[.int .i64 0, .int .i64 0] 23) = WA20 at *
          (refine wpAnyH_ready (rs := [4]) (by kernel_rfl) (by simp) ?_; refine AllReadyH.cons (o := _) rfl (fun K hK => ?_) AllReadyH.nil; (simp only [List.getElem_toArray, List.getElem_cons_zero, List.getElem_cons_succ, Region.wanted, if_true]))
          go_simp
          refine (KI.out _).mono ?_
          rintro e wc21 ⟨rfl, bc21⟩
          dsimp only
          (try simp only [List.getElem_toArray, List.getElem_cons_zero, List.getElem_cons_succ, Act.put, List.setIfInBounds_toArray, List.set_cons_zero, List.set_cons_succ])
          refine hK.out _ _ ⟨hHeld.1.below bc21, hHeld.2.below bc21⟩ (fun hHeld => ?_)
          clear hK K
          replace DH1 := DH1.below bc21
          replace DH2 := DH2.below bc21
          replace DB := Lib.hid (DB.out.call bc21)
          replace DRa := Lib.hid (DRa.out.below bc21)
          replace Z := Z.below bc21
          clear bc21
          (refine wpAnyH_take (i := 5) (v := ?_) rfl (by kernel_rfl) (by kernel_rfl) (by kernel_rfl) (fun _ _ _ h => h) (Or.inl ⟨by rfl, ?_⟩) hHeld ?_; rotate_left; (· (intro w' hSw; go_simp; try with_reducible rfl)); (try simp only [List.getElem_toArray, List.getElem_cons_zero, List.getElem_cons_succ, Act.put, List.setIfInBounds_toArray, List.set_cons_zero, List.set_cons_succ])); (refine wpAnyH_take (i := 6) (v := ?_) rfl (by kernel_rfl) (by kernel_rfl) (by kernel_rfl) (fun _ _ _ h => h) (Or.inl ⟨by rfl, ?_⟩) hHeld ?_; rotate_left; (· (intro w' hSw; go_simp; try with_reducible rfl)); (try simp only [List.getElem_toArray, List.getElem_cons_zero, List.getElem_cons_succ, Act.put, List.setIfInBounds_toArray, List.set_cons_zero, List.set_cons_succ])); (refine wpAnyH_take (i := 7) (v := ?_) rfl (by kernel_rfl) (by kernel_rfl) (by kernel_rfl) (fun _ _ _ h => h) (Or.inl ⟨by rfl, ?_⟩) hHeld ?_; rotate_left; (· (intro w' hSw; go_simp; try with_reducible rfl)); (try simp only [List.getElem_toArray, List.getElem_cons_zero, List.getElem_cons_succ, Act.put, List.setIfInBounds_toArray, List.set_cons_zero, List.set_cons_succ]))
          (refine wpAnyH_ready (rs := [9]) (by kernel_rfl) (by simp) ?_; refine AllReadyH.cons (o := _) rfl (fun K hK => ?_) AllReadyH.nil; (simp only [List.getElem_toArray, List.getElem_cons_zero, List.getElem_cons_succ, Region.wanted, if_true]); refine wp_store_mid _ _ _ rfl _ _ (ints RA).toArray rfl rfl (by simpa [l3] using Z.there) (by simpa [l3] using hi3) (all_oneCell_toArray (ints_one _)) ?_; (try simp only [List.getElem_toArray, List.getElem_cons_zero, List.getElem_cons_succ, Act.put, List.setIfInBounds_toArray, List.set_cons_zero, List.set_cons_succ, List.toList_toArray]); refine hK.out _ _ (⟨hHeld.1.putOther _ _ (by omega), hHeld.2.putOther _ _ (by omega)⟩) (fun hHeld => ?_); clear hK K)
          (refine wpAnyH_take (i := 10) (v := ?_) rfl (by kernel_rfl) (by kernel_rfl) (by kernel_rfl) (fun _ _ _ h => h) (Or.inl ⟨by rfl, ?_⟩) hHeld ?_; rotate_left; (· (intro w' hSw; go_simp; try with_reducible rfl)); (try simp only [List.getElem_toArray, List.getElem_cons_zero, List.getElem_cons_succ, Act.put, List.setIfInBounds_toArray, List.set_cons_zero, List.set_cons_succ]))
          refine wpAnyH_done (by kernel_rfl) ?_ _
          have R := Z.putAll RA hl
          replace DH1 := DH1.putOther (b' := cc) 0 (ints RA) (by omega)
          replace DH2 := DH2.putOther (b' := cc) 0 (ints RA) (by omega)
          replace DRa := Lib.hid (DRa.out.putOther (b' := cc) 0 (ints RA) (by omega))
          replace DB := Lib.hid (DB.out.puts (b := cc) (by omega) 0 (ints RA))
          clear hHeld Z
          go_wp2_with fail
          go_meet
          case rel => exact ⟨cc, rfl, rfl, DH1, DH2, Lib.hid R, DRa, DB⟩
      · (simp only [List.getElem_toArray, List.getElem_cons_zero, List.getElem_cons_succ, Region.wanted, if_true])
        go_simp
        refine hK.out _ _ ⟨hHeld.1.alloc _, hHeld.2.alloc _⟩ (fun hHeld => ?_)
        clear hK K
        have ltH1 := DH1.lt
        have ltH2 := DH2.lt
        have ltB := DB.out.size
        have ltRa := DRa.out.lt
        have Z : Has (wc16.alloc (.cells #[.int .i64 0, .int .i64 0] 23)) wc16.heap.size z2 2 := Has.box (ns := z2) wc16 23 rfl (by omega)
        replace DH1 := DH1.alloc (.cells #[.int .i64 0, .int .i64 0] 23)
        replace DH2 := DH2.alloc (.cells #[.int .i64 0, .int .i64 0] 23)
        replace DB := Lib.hid (DB.out.alloc (.cells #[.int .i64 0, .int .i64 0] 23))
        replace DRa := Lib.hid (DRa.out.alloc (.cells #[.int .i64 0, .int .i64 0] 23))
        generalize hcc : wc16.heap.size = cc at *
        clear hcc
        generalize wc16.alloc (.cells #[.int .i64 0, .int .i64 0] 23) = WA22 at *
        (refine wpAnyH_ready (rs := [3]) (by kernel_rfl) (by simp) ?_; refine AllReadyH.cons (o := _) rfl (fun K hK => ?_) AllReadyH.nil; (simp only [List.getElem_toArray, List.getElem_cons_zero, List.getElem_cons_succ, Region.wanted, if_true]))
        go_simp
        refine (toIntA6v ds _ hds).mono ?_
        rintro e wc23 ⟨rfl, bc23⟩
        dsimp only
        (try simp only [List.getElem_toArray, List.getElem_cons_zero, List.getElem_cons_succ, Act.put, List.setIfInBounds_toArray, List.set_cons_zero, List.set_cons_succ])
        refine hK.out _ _ ⟨hHeld.1.below bc23, hHeld.2.below bc23⟩ (fun hHeld => ?_)
        clear hK K
        replace DH1 := DH1.below bc23
        replace DH2 := DH2.below bc23
        replace DB := Lib.hid (DB.out.call bc23)
        replace DRa := Lib.hid (DRa.out.below bc23)
        replace Z := Z.below bc23
        clear bc23
        (refine wpAnyH_ready (rs := [4]) (by kernel_rfl) (by simp) ?_; refine AllReadyH.cons (o := _) rfl (fun K hK => ?_) AllReadyH.nil; (simp only [List.getElem_toArray, List.getElem_cons_zero, List.getElem_cons_succ, Region.wanted, if_true]))
        go_simp
        refine (KI.out _).mono ?_
        rintro e wc24 ⟨rfl, bc24⟩
        dsimp only
        (try simp only [List.getElem_toArray, List.getElem_cons_zero, List.getElem_cons_succ, Act.put, List.setIfInBounds_toArray, List.set_cons_zero, List.set_cons_succ])
        refine hK.out _ _ ⟨hHeld.1.below bc24, hHeld.2.below bc24⟩ (fun hHeld => ?_)
        clear hK K
        replace DH1 := DH1.below bc24
        replace DH2 := DH2.below bc24
        replace DB := Lib.hid (DB.out.call bc24)
        replace DRa := Lib.hid (DRa.out.below bc24)
        replace Z := Z.below bc24
        clear bc24
        (refine wpAnyH_take (i := 5) (v := ?_) rfl (by kernel_rfl) (by kernel_rfl) (by kernel_rfl) (fun _ _ _ h => h) (Or.inl ⟨by rfl, ?_⟩) hHeld ?_; rotate_left; (· (intro w' hSw; go_simp; try with_reducible rfl)); (try simp only [List.getElem_toArray, List.getElem_cons_zero, List.getElem_cons_succ, Act.put, List.setIfInBounds_toArray, List.set_cons_zero, List.set_cons_succ])); (refine wpAnyH_take (i := 6) (v := ?_) rfl (by kernel_rfl) (by kernel_rfl) (by kernel_rfl) (fun _ _ _ h => h) (Or.inl ⟨by rfl, ?_⟩) hHeld ?_; rotate_left; (· (intro w' hSw; go_simp; try with_reducible rfl)); (try simp only [List.getElem_toArray, List.getElem_cons_zero, List.getElem_cons_succ, Act.put, List.setIfInBounds_toArray, List.set_cons_zero, List.set_cons_succ])); (refine wpAnyH_take (i := 7) (v := ?_) rfl (by kernel_rfl) (by kernel_rfl) (by kernel_rfl) (fun _ _ _ h => h) (Or.inl ⟨by rfl, ?_⟩) hHeld ?_; rotate_left; (· (intro w' hSw; go_simp; try with_reducible rfl)); (try simp only [List.getElem_toArray, List.getElem_cons_zero, List.getElem_cons_succ, Act.put, List.setIfInBounds_toArray, List.set_cons_zero, List.set_cons_succ]))
        (refine wpAnyH_ready (rs := [9]) (by kernel_rfl) (by simp) ?_; refine AllReadyH.cons (o := _) rfl (fun K hK => ?_) AllReadyH.nil; (simp only [List.getElem_toArray, List.getElem_cons_zero, List.getElem_cons_succ, Region.wanted, if_true]); refine wp_store_mid _ _ _ rfl _ _ (ints RA).toArray rfl rfl (by simpa [l3] using Z.there) (by simpa [l3] using hi3) (all_oneCell_toArray (ints_one _)) ?_; (try simp only [List.getElem_toArray, List.getElem_cons_zero, List.getElem_cons_succ, Act.put, List.setIfInBounds_toArray, List.set_cons_zero, List.set_cons_succ, List.toList_toArray]); refine hK.out _ _ (⟨hHeld.1.putOther _ _ (by omega), hHeld.2.putOther _ _ (by omega)⟩) (fun hHeld => ?_); clear hK K)
        (refine wpAnyH_take (i := 10) (v := ?_) rfl (by kernel_rfl) (by kernel_rfl) (by kernel_rfl) (fun _ _ _ h => h) (Or.inl ⟨by rfl, ?_⟩) hHeld ?_; rotate_left; (· (intro w' hSw; go_simp; try with_reducible rfl)); (try simp only [List.getElem_toArray, List.getElem_cons_zero, List.getElem_cons_succ, Act.put, List.setIfInBounds_toArray, List.set_cons_zero, List.set_cons_succ]))
        refine wpAnyH_done (by kernel_rfl) ?_ _
        have R := Z.putAll RA hl
        replace DH1 := DH1.putOther (b' := cc) 0 (ints RA) (by omega)
        replace DH2 := DH2.putOther (b' := cc) 0 (ints RA) (by omega)
        replace DRa := Lib.hid (DRa.out.putOther (b' := cc) 0 (ints RA) (by omega))
        replace DB := Lib.hid (DB.out.puts (b := cc) (by omega) 0 (ints RA))
        clear hHeld Z
        go_wp2_with fail
        go_meet
        case rel => exact ⟨cc, rfl, rfl, DH1, DH2, Lib.hid R, DRa, DB⟩
    · (simp only [List.getElem_toArray, List.getElem_cons_zero, List.getElem_cons_succ, Region.wanted, if_true])
      go_simp
      refine hK.out _ _ ⟨hHeld.1.alloc _, hHeld.2.alloc _⟩ (fun hHeld => ?_)
      clear hK K
      have ltH1 := DH1.lt
      have ltH2 := DH2.lt
      have ltB := DB.out.size
      have ltRa := DRa.out.lt
      have Z : Has (WD15.alloc (.cells #[.int .i64 0, .int .i64 0] 23)) WD15.heap.size z2 2 := Has.box (ns := z2) WD15 23 rfl (by omega)
      replace DH1 := DH1.alloc (.cells #[.int .i64 0, .int .i64 0] 23)
      replace DH2 := DH2.alloc (.cells #[.int .i64 0, .int .i64 0] 23)
      replace DB := Lib.hid (DB.out.alloc (.cells #[.int .i64 0, .int .i64 0] 23))
      replace DRa := Lib.hid (DRa.out.alloc (.cells #[.int .i64 0, .int .i64 0] 23))
      generalize hcc : WD15.heap.size = cc at *
      clear hcc
      generalize WD15.alloc (.cells #[.int .i64 0, .int .i64 0] 23) = WA25 at *
      (refine wpAnyH_ready (rs := [1]) (by kernel_rfl) (by simp) ?_; refine AllReadyH.cons (o := _) rfl (fun K hK => ?_) AllReadyH.nil; (simp only [List.getElem_toArray, List.getElem_cons_zero, List.getElem_cons_succ, Region.wanted, if_true]))
      go_simp
      refine (toIntA6v ns _ hns).mono ?_
      rintro e wc26 ⟨rfl, bc26⟩
      dsimp only
      (try simp only [List.getElem_toArray, List.getElem_cons_zero, List.getElem_cons_succ, Act.put, List.setIfInBounds_toArray, List.set_cons_zero, List.set_cons_succ])
      refine hK.out _ _ ⟨hHeld.1.below bc26, hHeld.2.below bc26⟩ (fun hHeld => ?_)
      clear hK K
      replace DH1 := DH1.below bc26
      replace DH2 := DH2.below bc26
      replace DB := Lib.hid (DB.out.call bc26)
      replace DRa := Lib.hid (DRa.out.below bc26)
      replace Z := Z.below bc26
      clear bc26
      (refine wpAnyH_ready (rs := [3]) (by kernel_rfl) (by simp) ?_; refine AllReadyH.cons (o := _) rfl (fun K hK => ?_) AllReadyH.nil; (simp only [List.getElem_toArray, List.getElem_cons_zero, List.getElem_cons_succ, Region.wanted, if_true]))
      go_simp
      refine (toIntA6v ds _ hds).mono ?_
      rintro e wc27 ⟨rfl, bc27⟩
      dsimp only
      (try simp only [List.getElem_toArray, List.getElem_cons_zero, List.getElem_cons_succ, Act.put, List.setIfInBounds_toArray, List.set_cons_zero, List.set_cons_succ])
      refine hK.out _ _ ⟨hHeld.1.below bc27, hHeld.2.below bc27⟩ (fun hHeld => ?_)
      clear hK K
      replace DH1 := DH1.below bc27
      replace DH2 := DH2.below bc27
      replace DB := Lib.hid (DB.out.call bc27)
      replace DRa := Lib.hid (DRa.out.below bc27)
      replace Z := Z.below bc27
      clear bc27
      (refine wpAnyH_ready (rs := [4]) (by kernel_rfl) (by simp) ?_; refine AllReadyH.cons (o := _) rfl (fun K hK => ?_) AllReadyH.nil; (simp only [List.getElem_toArray, List.getElem_cons_zero, List.getElem_cons_succ, Region.wanted, if_true]))
      go_simp
      refine (KI.out _).mono ?_
      rintro e wc28 ⟨rfl, bc28⟩
      dsimp only
      (try simp only [List.getElem_toArray, List.getElem_cons_zero, List.getElem_cons_succ, Act.put, List.setIfInBounds_toArray, List.set_cons_zero, List.set_cons_succ])
      refine hK.out _ _ ⟨hHeld.1.below bc28, hHeld.2.below bc28⟩ (fun hHeld => ?_)
      clear hK K
      replace DH1 := DH1.below bc28
      replace DH2 := DH2.below bc28
      replace DB := Lib.hid (DB.out.call bc28)
      replace DRa := Lib.hid (DRa.out.below bc28)
      replace Z := Z.below bc28
      clear bc28
      (refine wpAnyH_take (i := 5) (v := ?_) rfl (by kernel_rfl) (by kernel_rfl) (by kernel_rfl) (fun _ _ _ h => h) (Or.inl ⟨by rfl, ?_⟩) hHeld ?_; rotate_left; (· (intro w' hSw; go_simp; try with_reducible rfl)); (try simp only [List.getElem_toArray, List.getElem_cons_zero, List.getElem_cons_succ, Act.put, List.setIfInBounds_toArray, List.set_cons_zero, List.set_cons_succ])); (refine wpAnyH_take (i := 6) (v := ?_) rfl (by kernel_rfl) (by kernel_rfl) (by kernel_rfl) (fun _ _ _ h => h) (Or.inl ⟨by rfl, ?_⟩) hHeld ?_; rotate_left; (· (intro w' hSw; go_simp; try with_reducible rfl)); (try simp only [List.getElem_toArray, List.getElem_cons_zero, List.getElem_cons_succ, Act.put, List.setIfInBounds_toArray, List.set_cons_zero, List.set_cons_succ])); (refine wpAnyH_take (i := 7) (v := ?_) rfl (by kernel_rfl) (by kernel_rfl) (by kernel_rfl) (fun _ _ _ h => h) (Or.inl ⟨by rfl, ?_⟩) hHeld ?_; rotate_left; (· (intro w' hSw; go_simp; try with_reducible rfl)); (try simp only [List.getElem_toArray, List.getElem_cons_zero, List.getElem_cons_succ, Act.put, List.setIfInBounds_toArray, List.set_cons_zero, List.set_cons_succ]))
      (refine wpAnyH_ready (rs := [9]) (by kernel_rfl) (by simp) ?_; refine AllReadyH.cons (o := _) rfl (fun K hK => ?_) AllReadyH.nil; (simp only [List.getElem_toArray, List.getElem_cons_zero, List.getElem_cons_succ, Region.wanted, if_true]); refine wp_store_mid _ _ _ rfl _ _ (ints RA).toArray rfl rfl (by simpa [l3] using Z.there) (by simpa [l3] using hi3) (all_oneCell_toArray (ints_one _)) ?_; (try simp only [List.getElem_toArray, List.getElem_cons_zero, List.getElem_cons_succ, Act.put, List.setIfInBounds_toArray, List.set_cons_zero, List.set_cons_succ, List.toList_toArray]); refine hK.out _ _ (⟨hHeld.1.putOther _ _ (by omega), hHeld.2.putOther _ _ (by omega)⟩) (fun hHeld => ?_); clear hK K)
      (refine wpAnyH_take (i := 10) (v := ?_) rfl (by kernel_rfl) (by kernel_rfl) (by kernel_rfl) (fun _ _ _ h => h) (Or.inl ⟨by rfl, ?_⟩) hHeld ?_; rotate_left; (· (intro w' hSw; go_simp; try with_reducible rfl)); (try simp only [List.getElem_toArray, List.getElem_cons_zero, List.getElem_cons_succ, Act.put, List.setIfInBounds_toArray, List.set_cons_zero, List.set_cons_succ]))
      refine wpAnyH_done (by kernel_rfl) ?_ _
      have R := Z.putAll RA hl
      replace DH1 := DH1.putOther (b' := cc) 0 (ints RA) (by omega)
      replace DH2 := DH2.putOther (b' := cc) 0 (ints RA) (by omega)
      replace DRa := Lib.hid (DRa.out.putOther (b' := cc) 0 (ints RA) (by omega))
      replace DB := Lib.hid (DB.out.puts (b := cc) (by omega) 0 (ints RA))
      clear hHeld Z
      go_wp2_with fail
      go_meet
      case rel => exact ⟨cc, rfl, rfl, DH1, DH2, Lib.hid R, DRa, DB⟩
  clear HB H1 H2 Ra
  obtain ⟨cb, rfl, rfl, H1, H2, Rb, Ra, HB⟩ := hcut
  clear H1 H2 KS KI
  have Ra := Ra.out
  have Rb := Rb.out
  go_wp2_with (first | (refine load_has rfl 23 _ rfl cb rfl RA 2 Rb _ Try.underlying23 rfl (by kernel_rfl) ?_) | (refine load_has rfl 23 _ rfl ca rfl RA 2 Ra _ Try.underlying23 rfl (by kernel_rfl) ?_))
  refine (eqIntA2v RA _ hl).mono ?_
  rintro e w9 ⟨rfl, b9⟩
  replace HB := Lib.hid (HB.out.call b9)
  clear Ra Rb b9
  go_wp2_with fail
  go_ret
  exact ⟨rfl, HB.out⟩

set_option maxHeartbeats 3200000 in
set_option maxRecDepth 100000 in
theorem lawDealSame (ns ds : List Int) (w : World) (fns : ns.length = 6 ∧ ∀ n ∈ ns, (Lit.int .i64 n).wf = true) (fds : ds.length = 6 ∧ ∀ n ∈ ds, (Lit.int .i64 n).wf = true) :
    Calls Try.prog 4 #[row ns, row ds] w fun e w' => e = .returned (.bool true) ∧ Kept w w' := by
  have hns := fns.1
  have hds := fds.1
  clear fns fds
  have hl : (sameA ns ds).length = 2 := sameA_len ns ds
  have HB := Lib.hid (((kept_refl w).alloc (.cells (ints ns).toArray 22)).alloc (.cells (ints ds).toArray 22))
  have H1 := (Has.box w 22 hns (by omega)).alloc (.cells (ints ds).toArray 22)
  have H2 := (Has.box (w.alloc (.cells (ints ns).toArray 22)) 22 hds (by omega)).at (size1 _ _)
  have hi1 : (Try.prog.info? 22).map (·.size) = some (ints ns).length := by rw [ints_len, hns]; kernel_rfl
  have hi2 : (Try.prog.info? 22).map (·.size) = some (ints ds).length := by rw [ints_len, hds]; kernel_rfl
  have hi3 : (Try.prog.info? 23).map (·.size) = some (ints (sameA ns ds)).length := by rw [ints_len, hl]; kernel_rfl
  have l3 : (ints (sameA ns ds)).length = 2 := by rw [ints_len]; exact hl
  have KS := Lib.hid (fun W => specDealSame ns ds W hns hds)
  have KI := Lib.hid (fun W => implDealSame ns ds W hns hds)
  generalize hR : sameA ns ds = RA at *
  have HRA := Lib.hid hR
  clear hR HRA
  generalize dV ns ds = OK0 at *
  rw [row_ints, row_ints]
  go_enter Try.func4, Try.ntmps4
  go_wp2_with fail
  go_cut [5, 6] from 9 to 16 (fun s5 s6 wx => ∃ c : Nat, s5 = .pointer (some ⟨c, 0, none⟩) ∧ s6 = .bool OK0 ∧ Has wx w.heap.size ns 6 ∧ Has wx (w.heap.size + 1) ds 6 ∧ Hid (Has wx c RA 2) ∧ Hid (Kept w wx))
  case first =>
    have DH1 := H1.drew
    have DH2 := H2.drew
    have DB := Lib.hid (keptDrew9 HB.out)
    clear H1 H2 HB
    refine wp_region_held_drew (S := fun w' => Has w' w.heap.size ns 6 ∧ Has w' (w.heap.size + 1) ds 6) (by kernel_rfl) ⟨DH1, DH2⟩ (fun hHeld => ?_)
    generalize hWD : World.drew _ = WD1 at *
    clear hWD
    (refine wpAnyH_take (i := 0) (v := _) rfl (by kernel_rfl) (by kernel_rfl) (by kernel_rfl) (fun _ _ _ h => h) (yieldsIf_load_mid (by rfl) 22 _ rfl _ _ rfl (ints ns) _ (fun w' hSw => hSw.1.holds.range) Try.underlying22 rfl (hi1)) hHeld ?_; (try simp only [List.getElem_toArray, List.getElem_cons_zero, List.getElem_cons_succ, Act.put, List.setIfInBounds_toArray, List.set_cons_zero, List.set_cons_succ]))
    (refine wpAnyH_take (i := 2) (v := _) rfl (by kernel_rfl) (by kernel_rfl) (by kernel_rfl) (fun _ _ _ h => h) (yieldsIf_load_mid (by rfl) 22 _ rfl _ _ rfl (ints ds) _ (fun w' hSw => hSw.2.holds.range) Try.underlying22 rfl (hi2)) hHeld ?_; (try simp only [List.getElem_toArray, List.getElem_cons_zero, List.getElem_cons_succ, Act.put, List.setIfInBounds_toArray, List.set_cons_zero, List.set_cons_succ]))
    refine wpAnyH_ready (rs := [1, 8]) (by kernel_rfl) (by simp) ?_
    refine AllReadyH.cons (o := _) rfl (fun K hK => ?_) (AllReadyH.cons (o := _) rfl (fun K hK => ?_) AllReadyH.nil)
    · (simp only [List.getElem_toArray, List.getElem_cons_zero, List.getElem_cons_succ, Region.wanted, if_true])
      go_simp
      refine (toIntA6v ns _ hns).mono ?_
      rintro e wc2 ⟨rfl, bc2⟩
      dsimp only
      (try simp only [List.getElem_toArray, List.getElem_cons_zero, List.getElem_cons_succ, Act.put, List.setIfInBounds_toArray, List.set_cons_zero, List.set_cons_succ])
      refine hK.out _ _ ⟨hHeld.1.below bc2, hHeld.2.below bc2⟩ (fun hHeld => ?_)
      clear hK K
      replace DH1 := DH1.below bc2
      replace DH2 := DH2.below bc2
      replace DB := Lib.hid (DB.out.call bc2)
      clear bc2
      refine wpAnyH_ready (rs := [3, 8]) (by kernel_rfl) (by simp) ?_
      refine AllReadyH.cons (o := _) rfl (fun K hK => ?_) (AllReadyH.cons (o := _) rfl (fun K hK => ?_) AllReadyH.nil)
      · (simp only [List.getElem_toArray, List.getElem_cons_zero, List.getElem_cons_succ, Region.wanted, if_true])
        go_simp
        refine (toIntA6v ds _ hds).mono ?_
        rintro e wc3 ⟨rfl, bc3⟩
        dsimp only
        (try simp only [List.getElem_toArray, List.getElem_cons_zero, List.getElem_cons_succ, Act.put, List.setIfInBounds_toArray, List.set_cons_zero, List.set_cons_succ])
        refine hK.out _ _ ⟨hHeld.1.below bc3, hHeld.2.below bc3⟩ (fun hHeld => ?_)
        clear hK K
        replace DH1 := DH1.below bc3
        replace DH2 := DH2.below bc3
        replace DB := Lib.hid (DB.out.call bc3)
        clear bc3
        refine wpAnyH_ready (rs := [4, 8]) (by kernel_rfl) (by simp) ?_
        refine AllReadyH.cons (o := _) rfl (fun K hK => ?_) (AllReadyH.cons (o := _) rfl (fun K hK => ?_) AllReadyH.nil)
        · (simp only [List.getElem_toArray, List.getElem_cons_zero, List.getElem_cons_succ, Region.wanted, if_true])
          go_simp
          refine (KS.out _).mono ?_
          rintro e wc4 ⟨rfl, bc4⟩
          dsimp only
          (try simp only [List.getElem_toArray, List.getElem_cons_zero, List.getElem_cons_succ, Act.put, List.setIfInBounds_toArray, List.set_cons_zero, List.set_cons_succ])
          refine hK.out _ _ ⟨hHeld.1.below bc4, hHeld.2.below bc4⟩ (fun hHeld => ?_)
          clear hK K
          replace DH1 := DH1.below bc4
          replace DH2 := DH2.below bc4
          replace DB := Lib.hid (DB.out.call bc4)
          clear bc4
          (refine wpAnyH_take (i := 5) (v := ?_) rfl (by kernel_rfl) (by kernel_rfl) (by kernel_rfl) (fun _ _ _ h => h) (Or.inl ⟨by rfl, ?_⟩) hHeld ?_; rotate_left; (· (intro w' hSw; go_simp; try with_reducible rfl)); (try simp only [List.getElem_toArray, List.getElem_cons_zero, List.getElem_cons_succ, Act.put, List.setIfInBounds_toArray, List.set_cons_zero, List.set_cons_succ])); (refine wpAnyH_take (i := 6) (v := ?_) rfl (by kernel_rfl) (by kernel_rfl) (by kernel_rfl) (fun _ _ _ h => h) (Or.inl ⟨by rfl, ?_⟩) hHeld ?_; rotate_left; (· (intro w' hSw; go_simp; try with_reducible rfl)); (try simp only [List.getElem_toArray, List.getElem_cons_zero, List.getElem_cons_succ, Act.put, List.setIfInBounds_toArray, List.set_cons_zero, List.set_cons_succ])); (refine wpAnyH_take (i := 7) (v := ?_) rfl (by kernel_rfl) (by kernel_rfl) (by kernel_rfl) (fun _ _ _ h => h) (Or.inl ⟨by rfl, ?_⟩) hHeld ?_; rotate_left; (· (intro w' hSw; go_simp; try with_reducible rfl)); (try simp only [List.getElem_toArray, List.getElem_cons_zero, List.getElem_cons_succ, Act.put, List.setIfInBounds_toArray, List.set_cons_zero, List.set_cons_succ]))
          (refine wpAnyH_ready (rs := [8]) (by kernel_rfl) (by simp) ?_; refine AllReadyH.cons (o := _) rfl (fun K hK => ?_) AllReadyH.nil; (simp only [List.getElem_toArray, List.getElem_cons_zero, List.getElem_cons_succ, Region.wanted, if_true]))
          go_simp
          refine hK.out _ _ ⟨hHeld.1.alloc _, hHeld.2.alloc _⟩ (fun hHeld => ?_)
          clear hK K
          have ltH1 := DH1.lt
          have ltH2 := DH2.lt
          have ltB := DB.out.size
          have Z : Has (wc4.alloc (.cells #[.int .i64 0, .int .i64 0] 23)) wc4.heap.size z2 2 := Has.box (ns := z2) wc4 23 rfl (by omega)
          replace DH1 := DH1.alloc (.cells #[.int .i64 0, .int .i64 0] 23)
          replace DH2 := DH2.alloc (.cells #[.int .i64 0, .int .i64 0] 23)
          replace DB := Lib.hid (DB.out.alloc (.cells #[.int .i64 0, .int .i64 0] 23))
          generalize hcc : wc4.heap.size = cc at *
          clear hcc
          generalize wc4.alloc (.cells #[.int .i64 0, .int .i64 0] 23) = WA5 at *
          (refine wpAnyH_ready (rs := [9]) (by kernel_rfl) (by simp) ?_; refine AllReadyH.cons (o := _) rfl (fun K hK => ?_) AllReadyH.nil; (simp only [List.getElem_toArray, List.getElem_cons_zero, List.getElem_cons_succ, Region.wanted, if_true]); refine wp_store_mid _ _ _ rfl _ _ (ints RA).toArray rfl rfl (by simpa [l3] using Z.there) (by simpa [l3] using hi3) (all_oneCell_toArray (ints_one _)) ?_; (try simp only [List.getElem_toArray, List.getElem_cons_zero, List.getElem_cons_succ, Act.put, List.setIfInBounds_toArray, List.set_cons_zero, List.set_cons_succ, List.toList_toArray]); refine hK.out _ _ (⟨hHeld.1.putOther _ _ (by omega), hHeld.2.putOther _ _ (by omega)⟩) (fun hHeld => ?_); clear hK K)
          (refine wpAnyH_take (i := 10) (v := ?_) rfl (by kernel_rfl) (by kernel_rfl) (by kernel_rfl) (fun _ _ _ h => h) (Or.inl ⟨by rfl, ?_⟩) hHeld ?_; rotate_left; (· (intro w' hSw; go_simp; try with_reducible rfl)); (try simp only [List.getElem_toArray, List.getElem_cons_zero, List.getElem_cons_succ, Act.put, List.setIfInBounds_toArray, List.set_cons_zero, List.set_cons_succ]))
          refine wpAnyH_done (by kernel_rfl) ?_ _
          have R := Z.putAll RA hl
          replace DH1 := DH1.putOther (b' := cc) 0 (ints RA) (by omega)
          replace DH2 := DH2.putOther (b' := cc) 0 (ints RA) (by omega)
          replace DB := Lib.hid (DB.out.puts (b := cc) (by omega) 0 (ints RA))
          clear hHeld Z
          go_wp2_with fail
          go_meet
          case rel => exact ⟨cc, rfl, rfl, DH1, DH2, Lib.hid R, DB⟩
        · (simp only [List.getElem_toArray, List.getElem_cons_zero, List.getElem_cons_succ, Region.wanted, if_true])
          go_simp
          refine hK.out _ _ ⟨hHeld.1.alloc _, hHeld.2.alloc _⟩ (fun hHeld => ?_)
          clear hK K
          have ltH1 := DH1.lt
          have ltH2 := DH2.lt
          have ltB := DB.out.size
          have Z : Has (wc3.alloc (.cells #[.int .i64 0, .int .i64 0] 23)) wc3.heap.size z2 2 := Has.box (ns := z2) wc3 23 rfl (by omega)
          replace DH1 := DH1.alloc (.cells #[.int .i64 0, .int .i64 0] 23)
          replace DH2 := DH2.alloc (.cells #[.int .i64 0, .int .i64 0] 23)
          replace DB := Lib.hid (DB.out.alloc (.cells #[.int .i64 0, .int .i64 0] 23))
          generalize hcc : wc3.heap.size = cc at *
          clear hcc
          generalize wc3.alloc (.cells #[.int .i64 0, .int .i64 0] 23) = WA6 at *
          (refine wpAnyH_ready (rs := [4]) (by kernel_rfl) (by simp) ?_; refine AllReadyH.cons (o := _) rfl (fun K hK => ?_) AllReadyH.nil; (simp only [List.getElem_toArray, List.getElem_cons_zero, List.getElem_cons_succ, Region.wanted, if_true]))
          go_simp
          refine (KS.out _).mono ?_
          rintro e wc7 ⟨rfl, bc7⟩
          dsimp only
          (try simp only [List.getElem_toArray, List.getElem_cons_zero, List.getElem_cons_succ, Act.put, List.setIfInBounds_toArray, List.set_cons_zero, List.set_cons_succ])
          refine hK.out _ _ ⟨hHeld.1.below bc7, hHeld.2.below bc7⟩ (fun hHeld => ?_)
          clear hK K
          replace DH1 := DH1.below bc7
          replace DH2 := DH2.below bc7
          replace DB := Lib.hid (DB.out.call bc7)
          replace Z := Z.below bc7
          clear bc7
          (refine wpAnyH_take (i := 5) (v := ?_) rfl (by kernel_rfl) (by kernel_rfl) (by kernel_rfl) (fun _ _ _ h => h) (Or.inl ⟨by rfl, ?_⟩) hHeld ?_; rotate_left; (· (intro w' hSw; go_simp; try with_reducible rfl)); (try simp only [List.getElem_toArray, List.getElem_cons_zero, List.getElem_cons_succ, Act.put, List.setIfInBounds_toArray, List.set_cons_zero, List.set_cons_succ])); (refine wpAnyH_take (i := 6) (v := ?_) rfl (by kernel_rfl) (by kernel_rfl) (by kernel_rfl) (fun _ _ _ h => h) (Or.inl ⟨by rfl, ?_⟩) hHeld ?_; rotate_left; (· (intro w' hSw; go_simp; try with_reducible rfl)); (try simp only [List.getElem_toArray, List.getElem_cons_zero, List.getElem_cons_succ, Act.put, List.setIfInBounds_toArray, List.set_cons_zero, List.set_cons_succ])); (refine wpAnyH_take (i := 7) (v := ?_) rfl (by kernel_rfl) (by kernel_rfl) (by kernel_rfl) (fun _ _ _ h => h) (Or.inl ⟨by rfl, ?_⟩) hHeld ?_; rotate_left; (· (intro w' hSw; go_simp; try with_reducible rfl)); (try simp only [List.getElem_toArray, List.getElem_cons_zero, List.getElem_cons_succ, Act.put, List.setIfInBounds_toArray, List.set_cons_zero, List.set_cons_succ]))
          (refine wpAnyH_ready (rs := [9]) (by kernel_rfl) (by simp) ?_; refine AllReadyH.cons (o := _) rfl (fun K hK => ?_) AllReadyH.nil; (simp only [List.getElem_toArray, List.getElem_cons_zero, List.getElem_cons_succ, Region.wanted, if_true]); refine wp_store_mid _ _ _ rfl _ _ (ints RA).toArray rfl rfl (by simpa [l3] using Z.there) (by simpa [l3] using hi3) (all_oneCell_toArray (ints_one _)) ?_; (try simp only [List.getElem_toArray, List.getElem_cons_zero, List.getElem_cons_succ, Act.put, List.setIfInBounds_toArray, List.set_cons_zero, List.set_cons_succ, List.toList_toArray]); refine hK.out _ _ (⟨hHeld.1.putOther _ _ (by omega), hHeld.2.putOther _ _ (by omega)⟩) (fun hHeld => ?_); clear hK K)
          (refine wpAnyH_take (i := 10) (v := ?_) rfl (by kernel_rfl) (by kernel_rfl) (by kernel_rfl) (fun _ _ _ h => h) (Or.inl ⟨by rfl, ?_⟩) hHeld ?_; rotate_left; (· (intro w' hSw; go_simp; try with_reducible rfl)); (try simp only [List.getElem_toArray, List.getElem_cons_zero, List.getElem_cons_succ, Act.put, List.setIfInBounds_toArray, List.set_cons_zero, List.set_cons_succ]))
          refine wpAnyH_done (by kernel_rfl) ?_ _
          have R := Z.putAll RA hl
          replace DH1 := DH1.putOther (b' := cc) 0 (ints RA) (by omega)
          replace DH2 := DH2.putOther (b' := cc) 0 (ints RA) (by omega)
          replace DB := Lib.hid (DB.out.puts (b := cc) (by omega) 0 (ints RA))
          clear hHeld Z
          go_wp2_with fail
          go_meet
          case rel => exact ⟨cc, rfl, rfl, DH1, DH2, Lib.hid R, DB⟩
      · (simp only [List.getElem_toArray, List.getElem_cons_zero, List.getElem_cons_succ, Region.wanted, if_true])
        go_simp
        refine hK.out _ _ ⟨hHeld.1.alloc _, hHeld.2.alloc _⟩ (fun hHeld => ?_)
        clear hK K
        have ltH1 := DH1.lt
        have ltH2 := DH2.lt
        have ltB := DB.out.size
        have Z : Has (wc2.alloc (.cells #[.int .i64 0, .int .i64 0] 23)) wc2.heap.size z2 2 := Has.box (ns := z2) wc2 23 rfl (by omega)
        replace DH1 := DH1.alloc (.cells #[.int .i64 0, .int .i64 0] 23)
        replace DH2 := DH2.alloc (.cells #[.int .i64 0, .int .i64 0] 23)
        replace DB := Lib.hid (DB.out.alloc (.cells #[.int .i64 0, .int .i64 0] 23))
        generalize hcc : wc2.heap.size = cc at *
        clear hcc
        generalize wc2.alloc (.cells #[.int .i64 0, .int .i64 0] 23) = WA8 at *
        (refine wpAnyH_ready (rs := [3]) (by kernel_rfl) (by simp) ?_; refine AllReadyH.cons (o := _) rfl (fun K hK => ?_) AllReadyH.nil; (simp only [List.getElem_toArray, List.getElem_cons_zero, List.getElem_cons_succ, Region.wanted, if_true]))
        go_simp
        refine (toIntA6v ds _ hds).mono ?_
        rintro e wc9 ⟨rfl, bc9⟩
        dsimp only
        (try simp only [List.getElem_toArray, List.getElem_cons_zero, List.getElem_cons_succ, Act.put, List.setIfInBounds_toArray, List.set_cons_zero, List.set_cons_succ])
        refine hK.out _ _ ⟨hHeld.1.below bc9, hHeld.2.below bc9⟩ (fun hHeld => ?_)
        clear hK K
        replace DH1 := DH1.below bc9
        replace DH2 := DH2.below bc9
        replace DB := Lib.hid (DB.out.call bc9)
        replace Z := Z.below bc9
        clear bc9
        (refine wpAnyH_ready (rs := [4]) (by kernel_rfl) (by simp) ?_; refine AllReadyH.cons (o := _) rfl (fun K hK => ?_) AllReadyH.nil; (simp only [List.getElem_toArray, List.getElem_cons_zero, List.getElem_cons_succ, Region.wanted, if_true]))
        go_simp
        refine (KS.out _).mono ?_
        rintro e wc10 ⟨rfl, bc10⟩
        dsimp only
        (try simp only [List.getElem_toArray, List.getElem_cons_zero, List.getElem_cons_succ, Act.put, List.setIfInBounds_toArray, List.set_cons_zero, List.set_cons_succ])
        refine hK.out _ _ ⟨hHeld.1.below bc10, hHeld.2.below bc10⟩ (fun hHeld => ?_)
        clear hK K
        replace DH1 := DH1.below bc10
        replace DH2 := DH2.below bc10
        replace DB := Lib.hid (DB.out.call bc10)
        replace Z := Z.below bc10
        clear bc10
        (refine wpAnyH_take (i := 5) (v := ?_) rfl (by kernel_rfl) (by kernel_rfl) (by kernel_rfl) (fun _ _ _ h => h) (Or.inl ⟨by rfl, ?_⟩) hHeld ?_; rotate_left; (· (intro w' hSw; go_simp; try with_reducible rfl)); (try simp only [List.getElem_toArray, List.getElem_cons_zero, List.getElem_cons_succ, Act.put, List.setIfInBounds_toArray, List.set_cons_zero, List.set_cons_succ])); (refine wpAnyH_take (i := 6) (v := ?_) rfl (by kernel_rfl) (by kernel_rfl) (by kernel_rfl) (fun _ _ _ h => h) (Or.inl ⟨by rfl, ?_⟩) hHeld ?_; rotate_left; (· (intro w' hSw; go_simp; try with_reducible rfl)); (try simp only [List.getElem_toArray, List.getElem_cons_zero, List.getElem_cons_succ, Act.put, List.setIfInBounds_toArray, List.set_cons_zero, List.set_cons_succ])); (refine wpAnyH_take (i := 7) (v := ?_) rfl (by kernel_rfl) (by kernel_rfl) (by kernel_rfl) (fun _ _ _ h => h) (Or.inl ⟨by rfl, ?_⟩) hHeld ?_; rotate_left; (· (intro w' hSw; go_simp; try with_reducible rfl)); (try simp only [List.getElem_toArray, List.getElem_cons_zero, List.getElem_cons_succ, Act.put, List.setIfInBounds_toArray, List.set_cons_zero, List.set_cons_succ]))
        (refine wpAnyH_ready (rs := [9]) (by kernel_rfl) (by simp) ?_; refine AllReadyH.cons (o := _) rfl (fun K hK => ?_) AllReadyH.nil; (simp only [List.getElem_toArray, List.getElem_cons_zero, List.getElem_cons_succ, Region.wanted, if_true]); refine wp_store_mid _ _ _ rfl _ _ (ints RA).toArray rfl rfl (by simpa [l3] using Z.there) (by simpa [l3] using hi3) (all_oneCell_toArray (ints_one _)) ?_; (try simp only [List.getElem_toArray, List.getElem_cons_zero, List.getElem_cons_succ, Act.put, List.setIfInBounds_toArray, List.set_cons_zero, List.set_cons_succ, List.toList_toArray]); refine hK.out _ _ (⟨hHeld.1.putOther _ _ (by omega), hHeld.2.putOther _ _ (by omega)⟩) (fun hHeld => ?_); clear hK K)
        (refine wpAnyH_take (i := 10) (v := ?_) rfl (by kernel_rfl) (by kernel_rfl) (by kernel_rfl) (fun _ _ _ h => h) (Or.inl ⟨by rfl, ?_⟩) hHeld ?_; rotate_left; (· (intro w' hSw; go_simp; try with_reducible rfl)); (try simp only [List.getElem_toArray, List.getElem_cons_zero, List.getElem_cons_succ, Act.put, List.setIfInBounds_toArray, List.set_cons_zero, List.set_cons_succ]))
        refine wpAnyH_done (by kernel_rfl) ?_ _
        have R := Z.putAll RA hl
        replace DH1 := DH1.putOther (b' := cc) 0 (ints RA) (by omega)
        replace DH2 := DH2.putOther (b' := cc) 0 (ints RA) (by omega)
        replace DB := Lib.hid (DB.out.puts (b := cc) (by omega) 0 (ints RA))
        clear hHeld Z
        go_wp2_with fail
        go_meet
        case rel => exact ⟨cc, rfl, rfl, DH1, DH2, Lib.hid R, DB⟩
    · (simp only [List.getElem_toArray, List.getElem_cons_zero, List.getElem_cons_succ, Region.wanted, if_true])
      go_simp
      refine hK.out _ _ ⟨hHeld.1.alloc _, hHeld.2.alloc _⟩ (fun hHeld => ?_)
      clear hK K
      have ltH1 := DH1.lt
      have ltH2 := DH2.lt
      have ltB := DB.out.size
      have Z : Has (WD1.alloc (.cells #[.int .i64 0, .int .i64 0] 23)) WD1.heap.size z2 2 := Has.box (ns := z2) WD1 23 rfl (by omega)
      replace DH1 := DH1.alloc (.cells #[.int .i64 0, .int .i64 0] 23)
      replace DH2 := DH2.alloc (.cells #[.int .i64 0, .int .i64 0] 23)
      replace DB := Lib.hid (DB.out.alloc (.cells #[.int .i64 0, .int .i64 0] 23))
      generalize hcc : WD1.heap.size = cc at *
      clear hcc
      generalize WD1.alloc (.cells #[.int .i64 0, .int .i64 0] 23) = WA11 at *
      (refine wpAnyH_ready (rs := [1]) (by kernel_rfl) (by simp) ?_; refine AllReadyH.cons (o := _) rfl (fun K hK => ?_) AllReadyH.nil; (simp only [List.getElem_toArray, List.getElem_cons_zero, List.getElem_cons_succ, Region.wanted, if_true]))
      go_simp
      refine (toIntA6v ns _ hns).mono ?_
      rintro e wc12 ⟨rfl, bc12⟩
      dsimp only
      (try simp only [List.getElem_toArray, List.getElem_cons_zero, List.getElem_cons_succ, Act.put, List.setIfInBounds_toArray, List.set_cons_zero, List.set_cons_succ])
      refine hK.out _ _ ⟨hHeld.1.below bc12, hHeld.2.below bc12⟩ (fun hHeld => ?_)
      clear hK K
      replace DH1 := DH1.below bc12
      replace DH2 := DH2.below bc12
      replace DB := Lib.hid (DB.out.call bc12)
      replace Z := Z.below bc12
      clear bc12
      (refine wpAnyH_ready (rs := [3]) (by kernel_rfl) (by simp) ?_; refine AllReadyH.cons (o := _) rfl (fun K hK => ?_) AllReadyH.nil; (simp only [List.getElem_toArray, List.getElem_cons_zero, List.getElem_cons_succ, Region.wanted, if_true]))
      go_simp
      refine (toIntA6v ds _ hds).mono ?_
      rintro e wc13 ⟨rfl, bc13⟩
      dsimp only
      (try simp only [List.getElem_toArray, List.getElem_cons_zero, List.getElem_cons_succ, Act.put, List.setIfInBounds_toArray, List.set_cons_zero, List.set_cons_succ])
      refine hK.out _ _ ⟨hHeld.1.below bc13, hHeld.2.below bc13⟩ (fun hHeld => ?_)
      clear hK K
      replace DH1 := DH1.below bc13
      replace DH2 := DH2.below bc13
      replace DB := Lib.hid (DB.out.call bc13)
      replace Z := Z.below bc13
      clear bc13
      (refine wpAnyH_ready (rs := [4]) (by kernel_rfl) (by simp) ?_; refine AllReadyH.cons (o := _) rfl (fun K hK => ?_) AllReadyH.nil; (simp only [List.getElem_toArray, List.getElem_cons_zero, List.getElem_cons_succ, Region.wanted, if_true]))
      go_simp
      refine (KS.out _).mono ?_
      rintro e wc14 ⟨rfl, bc14⟩
      dsimp only
      (try simp only [List.getElem_toArray, List.getElem_cons_zero, List.getElem_cons_succ, Act.put, List.setIfInBounds_toArray, List.set_cons_zero, List.set_cons_succ])
      refine hK.out _ _ ⟨hHeld.1.below bc14, hHeld.2.below bc14⟩ (fun hHeld => ?_)
      clear hK K
      replace DH1 := DH1.below bc14
      replace DH2 := DH2.below bc14
      replace DB := Lib.hid (DB.out.call bc14)
      replace Z := Z.below bc14
      clear bc14
      (refine wpAnyH_take (i := 5) (v := ?_) rfl (by kernel_rfl) (by kernel_rfl) (by kernel_rfl) (fun _ _ _ h => h) (Or.inl ⟨by rfl, ?_⟩) hHeld ?_; rotate_left; (· (intro w' hSw; go_simp; try with_reducible rfl)); (try simp only [List.getElem_toArray, List.getElem_cons_zero, List.getElem_cons_succ, Act.put, List.setIfInBounds_toArray, List.set_cons_zero, List.set_cons_succ])); (refine wpAnyH_take (i := 6) (v := ?_) rfl (by kernel_rfl) (by kernel_rfl) (by kernel_rfl) (fun _ _ _ h => h) (Or.inl ⟨by rfl, ?_⟩) hHeld ?_; rotate_left; (· (intro w' hSw; go_simp; try with_reducible rfl)); (try simp only [List.getElem_toArray, List.getElem_cons_zero, List.getElem_cons_succ, Act.put, List.setIfInBounds_toArray, List.set_cons_zero, List.set_cons_succ])); (refine wpAnyH_take (i := 7) (v := ?_) rfl (by kernel_rfl) (by kernel_rfl) (by kernel_rfl) (fun _ _ _ h => h) (Or.inl ⟨by rfl, ?_⟩) hHeld ?_; rotate_left; (· (intro w' hSw; go_simp; try with_reducible rfl)); (try simp only [List.getElem_toArray, List.getElem_cons_zero, List.getElem_cons_succ, Act.put, List.setIfInBounds_toArray, List.set_cons_zero, List.set_cons_succ]))
      (refine wpAnyH_ready (rs := [9]) (by kernel_rfl) (by simp) ?_; refine AllReadyH.cons (o := _) rfl (fun K hK => ?_) AllReadyH.nil; (simp only [List.getElem_toArray, List.getElem_cons_zero, List.getElem_cons_succ, Region.wanted, if_true]); refine wp_store_mid _ _ _ rfl _ _ (ints RA).toArray rfl rfl (by simpa [l3] using Z.there) (by simpa [l3] using hi3) (all_oneCell_toArray (ints_one _)) ?_; (try simp only [List.getElem_toArray, List.getElem_cons_zero, List.getElem_cons_succ, Act.put, List.setIfInBounds_toArray, List.set_cons_zero, List.set_cons_succ, List.toList_toArray]); refine hK.out _ _ (⟨hHeld.1.putOther _ _ (by omega), hHeld.2.putOther _ _ (by omega)⟩) (fun hHeld => ?_); clear hK K)
      (refine wpAnyH_take (i := 10) (v := ?_) rfl (by kernel_rfl) (by kernel_rfl) (by kernel_rfl) (fun _ _ _ h => h) (Or.inl ⟨by rfl, ?_⟩) hHeld ?_; rotate_left; (· (intro w' hSw; go_simp; try with_reducible rfl)); (try simp only [List.getElem_toArray, List.getElem_cons_zero, List.getElem_cons_succ, Act.put, List.setIfInBounds_toArray, List.set_cons_zero, List.set_cons_succ]))
      refine wpAnyH_done (by kernel_rfl) ?_ _
      have R := Z.putAll RA hl
      replace DH1 := DH1.putOther (b' := cc) 0 (ints RA) (by omega)
      replace DH2 := DH2.putOther (b' := cc) 0 (ints RA) (by omega)
      replace DB := Lib.hid (DB.out.puts (b := cc) (by omega) 0 (ints RA))
      clear hHeld Z
      go_wp2_with fail
      go_meet
      case rel => exact ⟨cc, rfl, rfl, DH1, DH2, Lib.hid R, DB⟩
  clear HB H1 H2
  obtain ⟨ca, rfl, rfl, H1, H2, Ra, HB⟩ := hcut
  go_wp2_with fail
  go_cut [7, 8] from 17 to 24 (fun s7 s8 wx => ∃ c : Nat, s7 = .pointer (some ⟨c, 0, none⟩) ∧ s8 = .bool OK0 ∧ Has wx w.heap.size ns 6 ∧ Has wx (w.heap.size + 1) ds 6 ∧ Hid (Has wx c RA 2) ∧ Hid (Has wx ca RA 2) ∧ Hid (Kept w wx))
  case first =>
    have DH1 := H1.drew
    have DH2 := H2.drew
    have DB := Lib.hid (keptDrew9 HB.out)
    clear H1 H2 HB
    have DRa := Lib.hid (Ra.out.drew)
    clear Ra
    refine wp_region_held_drew (S := fun w' => Has w' w.heap.size ns 6 ∧ Has w' (w.heap.size + 1) ds 6) (by kernel_rfl) ⟨DH1, DH2⟩ (fun hHeld => ?_)
    generalize hWD : World.drew _ = WD15 at *
    clear hWD
    (refine wpAnyH_take (i := 0) (v := _) rfl (by kernel_rfl) (by kernel_rfl) (by kernel_rfl) (fun _ _ _ h => h) (yieldsIf_load_mid (by rfl) 22 _ rfl _ _ rfl (ints ns) _ (fun w' hSw => hSw.1.holds.range) Try.underlying22 rfl (hi1)) hHeld ?_; (try simp only [List.getElem_toArray, List.getElem_cons_zero, List.getElem_cons_succ, Act.put, List.setIfInBounds_toArray, List.set_cons_zero, List.set_cons_succ]))
    (refine wpAnyH_take (i := 2) (v := _) rfl (by kernel_rfl) (by kernel_rfl) (by kernel_rfl) (fun _ _ _ h => h) (yieldsIf_load_mid (by rfl) 22 _ rfl _ _ rfl (ints ds) _ (fun w' hSw => hSw.2.holds.range) Try.underlying22 rfl (hi2)) hHeld ?_; (try simp only [List.getElem_toArray, List.getElem_cons_zero, List.getElem_cons_succ, Act.put, List.setIfInBounds_toArray, List.set_cons_zero, List.set_cons_succ]))
    refine wpAnyH_ready (rs := [1, 8]) (by kernel_rfl) (by simp) ?_
    refine AllReadyH.cons (o := _) rfl (fun K hK => ?_) (AllReadyH.cons (o := _) rfl (fun K hK => ?_) AllReadyH.nil)
    · (simp only [List.getElem_toArray, List.getElem_cons_zero, List.getElem_cons_succ, Region.wanted, if_true])
      go_simp
      refine (toIntA6v ns _ hns).mono ?_
      rintro e wc16 ⟨rfl, bc16⟩
      dsimp only
      (try simp only [List.getElem_toArray, List.getElem_cons_zero, List.getElem_cons_succ, Act.put, List.setIfInBounds_toArray, List.set_cons_zero, List.set_cons_succ])
      refine hK.out _ _ ⟨hHeld.1.below bc16, hHeld.2.below bc16⟩ (fun hHeld => ?_)
      clear hK K
      replace DH1 := DH1.below bc16
      replace DH2 := DH2.below bc16
      replace DB := Lib.hid (DB.out.call bc16)
      replace DRa := Lib.hid (DRa.out.below bc16)
      clear bc16
      refine wpAnyH_ready (rs := [3, 8]) (by kernel_rfl) (by simp) ?_
      refine AllReadyH.cons (o := _) rfl (fun K hK => ?_) (AllReadyH.cons (o := _) rfl (fun K hK => ?_) AllReadyH.nil)
      · (simp only [List.getElem_toArray, List.getElem_cons_zero, List.getElem_cons_succ, Region.wanted, if_true])
        go_simp
        refine (toIntA6v ds _ hds).mono ?_
        rintro e wc17 ⟨rfl, bc17⟩
        dsimp only
        (try simp only [List.getElem_toArray, List.getElem_cons_zero, List.getElem_cons_succ, Act.put, List.setIfInBounds_toArray, List.set_cons_zero, List.set_cons_succ])
        refine hK.out _ _ ⟨hHeld.1.below bc17, hHeld.2.below bc17⟩ (fun hHeld => ?_)
        clear hK K
        replace DH1 := DH1.below bc17
        replace DH2 := DH2.below bc17
        replace DB := Lib.hid (DB.out.call bc17)
        replace DRa := Lib.hid (DRa.out.below bc17)
        clear bc17
        refine wpAnyH_ready (rs := [4, 8]) (by kernel_rfl) (by simp) ?_
        refine AllReadyH.cons (o := _) rfl (fun K hK => ?_) (AllReadyH.cons (o := _) rfl (fun K hK => ?_) AllReadyH.nil)
        · (simp only [List.getElem_toArray, List.getElem_cons_zero, List.getElem_cons_succ, Region.wanted, if_true])
          go_simp
          refine (KI.out _).mono ?_
          rintro e wc18 ⟨rfl, bc18⟩
          dsimp only
          (try simp only [List.getElem_toArray, List.getElem_cons_zero, List.getElem_cons_succ, Act.put, List.setIfInBounds_toArray, List.set_cons_zero, List.set_cons_succ])
          refine hK.out _ _ ⟨hHeld.1.below bc18, hHeld.2.below bc18⟩ (fun hHeld => ?_)
          clear hK K
          replace DH1 := DH1.below bc18
          replace DH2 := DH2.below bc18
          replace DB := Lib.hid (DB.out.call bc18)
          replace DRa := Lib.hid (DRa.out.below bc18)
          clear bc18
          (refine wpAnyH_take (i := 5) (v := ?_) rfl (by kernel_rfl) (by kernel_rfl) (by kernel_rfl) (fun _ _ _ h => h) (Or.inl ⟨by rfl, ?_⟩) hHeld ?_; rotate_left; (· (intro w' hSw; go_simp; try with_reducible rfl)); (try simp only [List.getElem_toArray, List.getElem_cons_zero, List.getElem_cons_succ, Act.put, List.setIfInBounds_toArray, List.set_cons_zero, List.set_cons_succ])); (refine wpAnyH_take (i := 6) (v := ?_) rfl (by kernel_rfl) (by kernel_rfl) (by kernel_rfl) (fun _ _ _ h => h) (Or.inl ⟨by rfl, ?_⟩) hHeld ?_; rotate_left; (· (intro w' hSw; go_simp; try with_reducible rfl)); (try simp only [List.getElem_toArray, List.getElem_cons_zero, List.getElem_cons_succ, Act.put, List.setIfInBounds_toArray, List.set_cons_zero, List.set_cons_succ])); (refine wpAnyH_take (i := 7) (v := ?_) rfl (by kernel_rfl) (by kernel_rfl) (by kernel_rfl) (fun _ _ _ h => h) (Or.inl ⟨by rfl, ?_⟩) hHeld ?_; rotate_left; (· (intro w' hSw; go_simp; try with_reducible rfl)); (try simp only [List.getElem_toArray, List.getElem_cons_zero, List.getElem_cons_succ, Act.put, List.setIfInBounds_toArray, List.set_cons_zero, List.set_cons_succ]))
          (refine wpAnyH_ready (rs := [8]) (by kernel_rfl) (by simp) ?_; refine AllReadyH.cons (o := _) rfl (fun K hK => ?_) AllReadyH.nil; (simp only [List.getElem_toArray, List.getElem_cons_zero, List.getElem_cons_succ, Region.wanted, if_true]))
          go_simp
          refine hK.out _ _ ⟨hHeld.1.alloc _, hHeld.2.alloc _⟩ (fun hHeld => ?_)
          clear hK K
          have ltH1 := DH1.lt
          have ltH2 := DH2.lt
          have ltB := DB.out.size
          have ltRa := DRa.out.lt
          have Z : Has (wc18.alloc (.cells #[.int .i64 0, .int .i64 0] 23)) wc18.heap.size z2 2 := Has.box (ns := z2) wc18 23 rfl (by omega)
          replace DH1 := DH1.alloc (.cells #[.int .i64 0, .int .i64 0] 23)
          replace DH2 := DH2.alloc (.cells #[.int .i64 0, .int .i64 0] 23)
          replace DB := Lib.hid (DB.out.alloc (.cells #[.int .i64 0, .int .i64 0] 23))
          replace DRa := Lib.hid (DRa.out.alloc (.cells #[.int .i64 0, .int .i64 0] 23))
          generalize hcc : wc18.heap.size = cc at *
          clear hcc
          generalize wc18.alloc (.cells #[.int .i64 0, .int .i64 0] 23) = WA19 at *
          (refine wpAnyH_ready (rs := [9]) (by kernel_rfl) (by simp) ?_; refine AllReadyH.cons (o := _) rfl (fun K hK => ?_) AllReadyH.nil; (simp only [List.getElem_toArray, List.getElem_cons_zero, List.getElem_cons_succ, Region.wanted, if_true]); refine wp_store_mid _ _ _ rfl _ _ (ints RA).toArray rfl rfl (by simpa [l3] using Z.there) (by simpa [l3] using hi3) (all_oneCell_toArray (ints_one _)) ?_; (try simp only [List.getElem_toArray, List.getElem_cons_zero, List.getElem_cons_succ, Act.put, List.setIfInBounds_toArray, List.set_cons_zero, List.set_cons_succ, List.toList_toArray]); refine hK.out _ _ (⟨hHeld.1.putOther _ _ (by omega), hHeld.2.putOther _ _ (by omega)⟩) (fun hHeld => ?_); clear hK K)
          (refine wpAnyH_take (i := 10) (v := ?_) rfl (by kernel_rfl) (by kernel_rfl) (by kernel_rfl) (fun _ _ _ h => h) (Or.inl ⟨by rfl, ?_⟩) hHeld ?_; rotate_left; (· (intro w' hSw; go_simp; try with_reducible rfl)); (try simp only [List.getElem_toArray, List.getElem_cons_zero, List.getElem_cons_succ, Act.put, List.setIfInBounds_toArray, List.set_cons_zero, List.set_cons_succ]))
          refine wpAnyH_done (by kernel_rfl) ?_ _
          have R := Z.putAll RA hl
          replace DH1 := DH1.putOther (b' := cc) 0 (ints RA) (by omega)
          replace DH2 := DH2.putOther (b' := cc) 0 (ints RA) (by omega)
          replace DRa := Lib.hid (DRa.out.putOther (b' := cc) 0 (ints RA) (by omega))
          replace DB := Lib.hid (DB.out.puts (b := cc) (by omega) 0 (ints RA))
          clear hHeld Z
          go_wp2_with fail
          go_meet
          case rel => exact ⟨cc, rfl, rfl, DH1, DH2, Lib.hid R, DRa, DB⟩
        · (simp only [List.getElem_toArray, List.getElem_cons_zero, List.getElem_cons_succ, Region.wanted, if_true])
          go_simp
          refine hK.out _ _ ⟨hHeld.1.alloc _, hHeld.2.alloc _⟩ (fun hHeld => ?_)
          clear hK K
          have ltH1 := DH1.lt
          have ltH2 := DH2.lt
          have ltB := DB.out.size
          have ltRa := DRa.out.lt
          have Z : Has (wc17.alloc (.cells #[.int .i64 0, .int .i64 0] 23)) wc17.heap.size z2 2 := Has.box (ns := z2) wc17 23 rfl (by omega)
          replace DH1 := DH1.alloc (.cells #[.int .i64 0, .int .i64 0] 23)
          replace DH2 := DH2.alloc (.cells #[.int .i64 0, .int .i64 0] 23)
          replace DB := Lib.hid (DB.out.alloc (.cells #[.int .i64 0, .int .i64 0] 23))
          replace DRa := Lib.hid (DRa.out.alloc (.cells #[.int .i64 0, .int .i64 0] 23))
          generalize hcc : wc17.heap.size = cc at *
          clear hcc
          generalize wc17.alloc (.cells #[.int .i64 0, .int .i64 0] 23) = WA20 at *
          (refine wpAnyH_ready (rs := [4]) (by kernel_rfl) (by simp) ?_; refine AllReadyH.cons (o := _) rfl (fun K hK => ?_) AllReadyH.nil; (simp only [List.getElem_toArray, List.getElem_cons_zero, List.getElem_cons_succ, Region.wanted, if_true]))
          go_simp
          refine (KI.out _).mono ?_
          rintro e wc21 ⟨rfl, bc21⟩
          dsimp only
          (try simp only [List.getElem_toArray, List.getElem_cons_zero, List.getElem_cons_succ, Act.put, List.setIfInBounds_toArray, List.set_cons_zero, List.set_cons_succ])
          refine hK.out _ _ ⟨hHeld.1.below bc21, hHeld.2.below bc21⟩ (fun hHeld => ?_)
          clear hK K
          replace DH1 := DH1.below bc21
          replace DH2 := DH2.below bc21
          replace DB := Lib.hid (DB.out.call bc21)
          replace DRa := Lib.hid (DRa.out.below bc21)
          replace Z := Z.below bc21
          clear bc21
          (refine wpAnyH_take (i := 5) (v := ?_) rfl (by kernel_rfl) (by kernel_rfl) (by kernel_rfl) (fun _ _ _ h => h) (Or.inl ⟨by rfl, ?_⟩) hHeld ?_; rotate_left; (· (intro w' hSw; go_simp; try with_reducible rfl)); (try simp only [List.getElem_toArray, List.getElem_cons_zero, List.getElem_cons_succ, Act.put, List.setIfInBounds_toArray, List.set_cons_zero, List.set_cons_succ])); (refine wpAnyH_take (i := 6) (v := ?_) rfl (by kernel_rfl) (by kernel_rfl) (by kernel_rfl) (fun _ _ _ h => h) (Or.inl ⟨by rfl, ?_⟩) hHeld ?_; rotate_left; (· (intro w' hSw; go_simp; try with_reducible rfl)); (try simp only [List.getElem_toArray, List.getElem_cons_zero, List.getElem_cons_succ, Act.put, List.setIfInBounds_toArray, List.set_cons_zero, List.set_cons_succ])); (refine wpAnyH_take (i := 7) (v := ?_) rfl (by kernel_rfl) (by kernel_rfl) (by kernel_rfl) (fun _ _ _ h => h) (Or.inl ⟨by rfl, ?_⟩) hHeld ?_; rotate_left; (· (intro w' hSw; go_simp; try with_reducible rfl)); (try simp only [List.getElem_toArray, List.getElem_cons_zero, List.getElem_cons_succ, Act.put, List.setIfInBounds_toArray, List.set_cons_zero, List.set_cons_succ]))
          (refine wpAnyH_ready (rs := [9]) (by kernel_rfl) (by simp) ?_; refine AllReadyH.cons (o := _) rfl (fun K hK => ?_) AllReadyH.nil; (simp only [List.getElem_toArray, List.getElem_cons_zero, List.getElem_cons_succ, Region.wanted, if_true]); refine wp_store_mid _ _ _ rfl _ _ (ints RA).toArray rfl rfl (by simpa [l3] using Z.there) (by simpa [l3] using hi3) (all_oneCell_toArray (ints_one _)) ?_; (try simp only [List.getElem_toArray, List.getElem_cons_zero, List.getElem_cons_succ, Act.put, List.setIfInBounds_toArray, List.set_cons_zero, List.set_cons_succ, List.toList_toArray]); refine hK.out _ _ (⟨hHeld.1.putOther _ _ (by omega), hHeld.2.putOther _ _ (by omega)⟩) (fun hHeld => ?_); clear hK K)
          (refine wpAnyH_take (i := 10) (v := ?_) rfl (by kernel_rfl) (by kernel_rfl) (by kernel_rfl) (fun _ _ _ h => h) (Or.inl ⟨by rfl, ?_⟩) hHeld ?_; rotate_left; (· (intro w' hSw; go_simp; try with_reducible rfl)); (try simp only [List.getElem_toArray, List.getElem_cons_zero, List.getElem_cons_succ, Act.put, List.setIfInBounds_toArray, List.set_cons_zero, List.set_cons_succ]))
          refine wpAnyH_done (by kernel_rfl) ?_ _
          have R := Z.putAll RA hl
          replace DH1 := DH1.putOther (b' := cc) 0 (ints RA) (by omega)
          replace DH2 := DH2.putOther (b' := cc) 0 (ints RA) (by omega)
          replace DRa := Lib.hid (DRa.out.putOther (b' := cc) 0 (ints RA) (by omega))
          replace DB := Lib.hid (DB.out.puts (b := cc) (by omega) 0 (ints RA))
          clear hHeld Z
          go_wp2_with fail
          go_meet
          case rel => exact ⟨cc, rfl, rfl, DH1, DH2, Lib.hid R, DRa, DB⟩
      · (simp only [List.getElem_toArray, List.getElem_cons_zero, List.getElem_cons_succ, Region.wanted, if_true])
        go_simp
        refine hK.out _ _ ⟨hHeld.1.alloc _, hHeld.2.alloc _⟩ (fun hHeld => ?_)
        clear hK K
        have ltH1 := DH1.lt
        have ltH2 := DH2.lt
        have ltB := DB.out.size
        have ltRa := DRa.out.lt
        have Z : Has (wc16.alloc (.cells #[.int .i64 0, .int .i64 0] 23)) wc16.heap.size z2 2 := Has.box (ns := z2) wc16 23 rfl (by omega)
        replace DH1 := DH1.alloc (.cells #[.int .i64 0, .int .i64 0] 23)
        replace DH2 := DH2.alloc (.cells #[.int .i64 0, .int .i64 0] 23)
        replace DB := Lib.hid (DB.out.alloc (.cells #[.int .i64 0, .int .i64 0] 23))
        replace DRa := Lib.hid (DRa.out.alloc (.cells #[.int .i64 0, .int .i64 0] 23))
        generalize hcc : wc16.heap.size = cc at *
        clear hcc
        generalize wc16.alloc (.cells #[.int .i64 0, .int .i64 0] 23) = WA22 at *
        (refine wpAnyH_ready (rs := [3]) (by kernel_rfl) (by simp) ?_; refine AllReadyH.cons (o := _) rfl (fun K hK => ?_) AllReadyH.nil; (simp only [List.getElem_toArray, List.getElem_cons_zero, List.getElem_cons_succ, Region.wanted, if_true]))
        go_simp
        refine (toIntA6v ds _ hds).mono ?_
        rintro e wc23 ⟨rfl, bc23⟩
        dsimp only
        (try simp only [List.getElem_toArray, List.getElem_cons_zero, List.getElem_cons_succ, Act.put, List.setIfInBounds_toArray, List.set_cons_zero, List.set_cons_succ])
        refine hK.out _ _ ⟨hHeld.1.below bc23, hHeld.2.below bc23⟩ (fun hHeld => ?_)
        clear hK K
        replace DH1 := DH1.below bc23
        replace DH2 := DH2.below bc23
        replace DB := Lib.hid (DB.out.call bc23)
        replace DRa := Lib.hid (DRa.out.below bc23)
        replace Z := Z.below bc23
        clear bc23
        (refine wpAnyH_ready (rs := [4]) (by kernel_rfl) (by simp) ?_; refine AllReadyH.cons (o := _) rfl (fun K hK => ?_) AllReadyH.nil; (simp only [List.getElem_toArray, List.getElem_cons_zero, List.getElem_cons_succ, Region.wanted, if_true]))
        go_simp
        refine (KI.out _).mono ?_
        rintro e wc24 ⟨rfl, bc24⟩
        dsimp only
        (try simp only [List.getElem_toArray, List.getElem_cons_zero, List.getElem_cons_succ, Act.put, List.setIfInBounds_toArray, List.set_cons_zero, List.set_cons_succ])
        refine hK.out _ _ ⟨hHeld.1.below bc24, hHeld.2.below bc24⟩ (fun hHeld => ?_)
        clear hK K
        replace DH1 := DH1.below bc24
        replace DH2 := DH2.below bc24
        replace DB := Lib.hid (DB.out.call bc24)
        replace DRa := Lib.hid (DRa.out.below bc24)
        replace Z := Z.below bc24
        clear bc24
        (refine wpAnyH_take (i := 5) (v := ?_) rfl (by kernel_rfl) (by kernel_rfl) (by kernel_rfl) (fun _ _ _ h => h) (Or.inl ⟨by rfl, ?_⟩) hHeld ?_; rotate_left; (· (intro w' hSw; go_simp; try with_reducible rfl)); (try simp only [List.getElem_toArray, List.getElem_cons_zero, List.getElem_cons_succ, Act.put, List.setIfInBounds_toArray, List.set_cons_zero, List.set_cons_succ])); (refine wpAnyH_take (i := 6) (v := ?_) rfl (by kernel_rfl) (by kernel_rfl) (by kernel_rfl) (fun _ _ _ h => h) (Or.inl ⟨by rfl, ?_⟩) hHeld ?_; rotate_left; (· (intro w' hSw; go_simp; try with_reducible rfl)); (try simp only [List.getElem_toArray, List.getElem_cons_zero, List.getElem_cons_succ, Act.put, List.setIfInBounds_toArray, List.set_cons_zero, List.set_cons_succ])); (refine wpAnyH_take (i := 7) (v := ?_) rfl (by kernel_rfl) (by kernel_rfl) (by kernel_rfl) (fun _ _ _ h => h) (Or.inl ⟨by rfl, ?_⟩) hHeld ?_; rotate_left; (· (intro w' hSw; go_simp; try with_reducible rfl)); (try simp only [List.getElem_toArray, List.getElem_cons_zero, List.getElem_cons_succ, Act.put, List.setIfInBounds_toArray, List.set_cons_zero, List.set_cons_succ]))
        (refine wpAnyH_ready (rs := [9]) (by kernel_rfl) (by simp) ?_; refine AllReadyH.cons (o := _) rfl (fun K hK => ?_) AllReadyH.nil; (simp only [List.getElem_toArray, List.getElem_cons_zero, List.getElem_cons_succ, Region.wanted, if_true]); refine wp_store_mid _ _ _ rfl _ _ (ints RA).toArray rfl rfl (by simpa [l3] using Z.there) (by simpa [l3] using hi3) (all_oneCell_toArray (ints_one _)) ?_; (try simp only [List.getElem_toArray, List.getElem_cons_zero, List.getElem_cons_succ, Act.put, List.setIfInBounds_toArray, List.set_cons_zero, List.set_cons_succ, List.toList_toArray]); refine hK.out _ _ (⟨hHeld.1.putOther _ _ (by omega), hHeld.2.putOther _ _ (by omega)⟩) (fun hHeld => ?_); clear hK K)
        (refine wpAnyH_take (i := 10) (v := ?_) rfl (by kernel_rfl) (by kernel_rfl) (by kernel_rfl) (fun _ _ _ h => h) (Or.inl ⟨by rfl, ?_⟩) hHeld ?_; rotate_left; (· (intro w' hSw; go_simp; try with_reducible rfl)); (try simp only [List.getElem_toArray, List.getElem_cons_zero, List.getElem_cons_succ, Act.put, List.setIfInBounds_toArray, List.set_cons_zero, List.set_cons_succ]))
        refine wpAnyH_done (by kernel_rfl) ?_ _
        have R := Z.putAll RA hl
        replace DH1 := DH1.putOther (b' := cc) 0 (ints RA) (by omega)
        replace DH2 := DH2.putOther (b' := cc) 0 (ints RA) (by omega)
        replace DRa := Lib.hid (DRa.out.putOther (b' := cc) 0 (ints RA) (by omega))
        replace DB := Lib.hid (DB.out.puts (b := cc) (by omega) 0 (ints RA))
        clear hHeld Z
        go_wp2_with fail
        go_meet
        case rel => exact ⟨cc, rfl, rfl, DH1, DH2, Lib.hid R, DRa, DB⟩
    · (simp only [List.getElem_toArray, List.getElem_cons_zero, List.getElem_cons_succ, Region.wanted, if_true])
      go_simp
      refine hK.out _ _ ⟨hHeld.1.alloc _, hHeld.2.alloc _⟩ (fun hHeld => ?_)
      clear hK K
      have ltH1 := DH1.lt
      have ltH2 := DH2.lt
      have ltB := DB.out.size
      have ltRa := DRa.out.lt
      have Z : Has (WD15.alloc (.cells #[.int .i64 0, .int .i64 0] 23)) WD15.heap.size z2 2 := Has.box (ns := z2) WD15 23 rfl (by omega)
      replace DH1 := DH1.alloc (.cells #[.int .i64 0, .int .i64 0] 23)
      replace DH2 := DH2.alloc (.cells #[.int .i64 0, .int .i64 0] 23)
      replace DB := Lib.hid (DB.out.alloc (.cells #[.int .i64 0, .int .i64 0] 23))
      replace DRa := Lib.hid (DRa.out.alloc (.cells #[.int .i64 0, .int .i64 0] 23))
      generalize hcc : WD15.heap.size = cc at *
      clear hcc
      generalize WD15.alloc (.cells #[.int .i64 0, .int .i64 0] 23) = WA25 at *
      (refine wpAnyH_ready (rs := [1]) (by kernel_rfl) (by simp) ?_; refine AllReadyH.cons (o := _) rfl (fun K hK => ?_) AllReadyH.nil; (simp only [List.getElem_toArray, List.getElem_cons_zero, List.getElem_cons_succ, Region.wanted, if_true]))
      go_simp
      refine (toIntA6v ns _ hns).mono ?_
      rintro e wc26 ⟨rfl, bc26⟩
      dsimp only
      (try simp only [List.getElem_toArray, List.getElem_cons_zero, List.getElem_cons_succ, Act.put, List.setIfInBounds_toArray, List.set_cons_zero, List.set_cons_succ])
      refine hK.out _ _ ⟨hHeld.1.below bc26, hHeld.2.below bc26⟩ (fun hHeld => ?_)
      clear hK K
      replace DH1 := DH1.below bc26
      replace DH2 := DH2.below bc26
      replace DB := Lib.hid (DB.out.call bc26)
      replace DRa := Lib.hid (DRa.out.below bc26)
      replace Z := Z.below bc26
      clear bc26
      (refine wpAnyH_ready (rs := [3]) (by kernel_rfl) (by simp) ?_; refine AllReadyH.cons (o := _) rfl (fun K hK => ?_) AllReadyH.nil; (simp only [List.getElem_toArray, List.getElem_cons_zero, List.getElem_cons_succ, Region.wanted, if_true]))
      go_simp
      refine (toIntA6v ds _ hds).mono ?_
      rintro e wc27 ⟨rfl, bc27⟩
      dsimp only
      (try simp only [List.getElem_toArray, List.getElem_cons_zero, List.getElem_cons_succ, Act.put, List.setIfInBounds_toArray, List.set_cons_zero, List.set_cons_succ])
      refine hK.out _ _ ⟨hHeld.1.below bc27, hHeld.2.below bc27⟩ (fun hHeld => ?_)
      clear hK K
      replace DH1 := DH1.below bc27
      replace DH2 := DH2.below bc27
      replace DB := Lib.hid (DB.out.call bc27)
      replace DRa := Lib.hid (DRa.out.below bc27)
      replace Z := Z.below bc27
      clear bc27
      (refine wpAnyH_ready (rs := [4]) (by kernel_rfl) (by simp) ?_; refine AllReadyH.cons (o := _) rfl (fun K hK => ?_) AllReadyH.nil; (simp only [List.getElem_toArray, List.getElem_cons_zero, List.getElem_cons_succ, Region.wanted, if_true]))
      go_simp
      refine (KI.out _).mono ?_
      rintro e wc28 ⟨rfl, bc28⟩
      dsimp only
      (try simp only [List.getElem_toArray, List.getElem_cons_zero, List.getElem_cons_succ, Act.put, List.setIfInBounds_toArray, List.set_cons_zero, List.set_cons_succ])
      refine hK.out _ _ ⟨hHeld.1.below bc28, hHeld.2.below bc28⟩ (fun hHeld => ?_)
      clear hK K
      replace DH1 := DH1.below bc28
      replace DH2 := DH2.below bc28
      replace DB := Lib.hid (DB.out.call bc28)
      replace DRa := Lib.hid (DRa.out.below bc28)
      replace Z := Z.below bc28
      clear bc28
      (refine wpAnyH_take (i := 5) (v := ?_) rfl (by kernel_rfl) (by kernel_rfl) (by kernel_rfl) (fun _ _ _ h => h) (Or.inl ⟨by rfl, ?_⟩) hHeld ?_; rotate_left; (· (intro w' hSw; go_simp; try with_reducible rfl)); (try simp only [List.getElem_toArray, List.getElem_cons_zero, List.getElem_cons_succ, Act.put, List.setIfInBounds_toArray, List.set_cons_zero, List.set_cons_succ])); (refine wpAnyH_take (i := 6) (v := ?_) rfl (by kernel_rfl) (by kernel_rfl) (by kernel_rfl) (fun _ _ _ h => h) (Or.inl ⟨by rfl, ?_⟩) hHeld ?_; rotate_left; (· (intro w' hSw; go_simp; try with_reducible rfl)); (try simp only [List.getElem_toArray, List.getElem_cons_zero, List.getElem_cons_succ, Act.put, List.setIfInBounds_toArray, List.set_cons_zero, List.set_cons_succ])); (refine wpAnyH_take (i := 7) (v := ?_) rfl (by kernel_rfl) (by kernel_rfl) (by kernel_rfl) (fun _ _ _ h => h) (Or.inl ⟨by rfl, ?_⟩) hHeld ?_; rotate_left; (· (intro w' hSw; go_simp; try with_reducible rfl)); (try simp only [List.getElem_toArray, List.getElem_cons_zero, List.getElem_cons_succ, Act.put, List.setIfInBounds_toArray, List.set_cons_zero, List.set_cons_succ]))
      (refine wpAnyH_ready (rs := [9]) (by kernel_rfl) (by simp) ?_; refine AllReadyH.cons (o := _) rfl (fun K hK => ?_) AllReadyH.nil; (simp only [List.getElem_toArray, List.getElem_cons_zero, List.getElem_cons_succ, Region.wanted, if_true]); refine wp_store_mid _ _ _ rfl _ _ (ints RA).toArray rfl rfl (by simpa [l3] using Z.there) (by simpa [l3] using hi3) (all_oneCell_toArray (ints_one _)) ?_; (try simp only [List.getElem_toArray, List.getElem_cons_zero, List.getElem_cons_succ, Act.put, List.setIfInBounds_toArray, List.set_cons_zero, List.set_cons_succ, List.toList_toArray]); refine hK.out _ _ (⟨hHeld.1.putOther _ _ (by omega), hHeld.2.putOther _ _ (by omega)⟩) (fun hHeld => ?_); clear hK K)
      (refine wpAnyH_take (i := 10) (v := ?_) rfl (by kernel_rfl) (by kernel_rfl) (by kernel_rfl) (fun _ _ _ h => h) (Or.inl ⟨by rfl, ?_⟩) hHeld ?_; rotate_left; (· (intro w' hSw; go_simp; try with_reducible rfl)); (try simp only [List.getElem_toArray, List.getElem_cons_zero, List.getElem_cons_succ, Act.put, List.setIfInBounds_toArray, List.set_cons_zero, List.set_cons_succ]))
      refine wpAnyH_done (by kernel_rfl) ?_ _
      have R := Z.putAll RA hl
      replace DH1 := DH1.putOther (b' := cc) 0 (ints RA) (by omega)
      replace DH2 := DH2.putOther (b' := cc) 0 (ints RA) (by omega)
      replace DRa := Lib.hid (DRa.out.putOther (b' := cc) 0 (ints RA) (by omega))
      replace DB := Lib.hid (DB.out.puts (b := cc) (by omega) 0 (ints RA))
      clear hHeld Z
      go_wp2_with fail
      go_meet
      case rel => exact ⟨cc, rfl, rfl, DH1, DH2, Lib.hid R, DRa, DB⟩
  clear HB H1 H2 Ra
  obtain ⟨cb, rfl, rfl, H1, H2, Rb, Ra, HB⟩ := hcut
  clear H1 H2 KS KI
  have Ra := Ra.out
  have Rb := Rb.out
  go_wp2_with (first | (refine load_has rfl 23 _ rfl cb rfl RA 2 Rb _ Try.underlying23 rfl (by kernel_rfl) ?_) | (refine load_has rfl 23 _ rfl ca rfl RA 2 Ra _ Try.underlying23 rfl (by kernel_rfl) ?_))
  refine (eqIntA2v RA _ hl).mono ?_
  rintro e w9 ⟨rfl, b9⟩
  replace HB := Lib.hid (HB.out.call b9)
  clear Ra Rb b9
  go_wp2_with fail
  go_ret
  exact ⟨rfl, HB.out⟩

set_option maxHeartbeats 3200000 in
set_option maxRecDepth 100000 in
theorem lawDealTop (ns ds : List Int) (i : Int) (c : Int) (w : World) (fns : ns.length = 6 ∧ ∀ n ∈ ns, (Lit.int .i64 n).wf = true) (fds : ds.length = 6 ∧ ∀ n ∈ ds, (Lit.int .i64 n).wf = true) (fi : (Lit.int .i64 i).wf = true) (fc : (Lit.int .i64 c).wf = true) :
    Calls Try.prog 5 #[row ns, row ds, .int .i64 i, .int .i64 c] w fun e w' => e = .returned (.bool true) ∧ Kept w w' := by
  have hns := fns.1
  have hds := fds.1
  clear fns fds fi fc
  have hl : (dtopA ns ds i c).length = 2 := dtopA_len ns ds i c
  have HB := Lib.hid (((kept_refl w).alloc (.cells (ints ns).toArray 22)).alloc (.cells (ints ds).toArray 22))
  have H1 := (Has.box w 22 hns (by omega)).alloc (.cells (ints ds).toArray 22)
  have H2 := (Has.box (w.alloc (.cells (ints ns).toArray 22)) 22 hds (by omega)).at (size1 _ _)
  have hi1 : (Try.prog.info? 22).map (·.size) = some (ints ns).length := by rw [ints_len, hns]; kernel_rfl
  have hi2 : (Try.prog.info? 22).map (·.size) = some (ints ds).length := by rw [ints_len, hds]; kernel_rfl
  have hi3 : (Try.prog.info? 23).map (·.size) = some (ints (dtopA ns ds i c)).length := by rw [ints_len, hl]; kernel_rfl
  have l3 : (ints (dtopA ns ds i c)).length = 2 := by rw [ints_len]; exact hl
  have KS := Lib.hid (fun W => specDealTop ns ds i c W hns hds)
  have KI := Lib.hid (fun W => implDealTop ns ds i c W hns hds)
  generalize hR : dtopA ns ds i c = RA at *
  have HRA := Lib.hid hR
  clear hR HRA
  generalize dtopOk ns ds i c = OK0 at *
  rw [row_ints, row_ints]
  go_enter Try.func5, Try.ntmps5
  go_wp2_with fail
  go_cut [9, 10] from 13 to 22 (fun s9 s10 wx => ∃ c : Nat, s9 = .pointer (some ⟨c, 0, none⟩) ∧ s10 = .bool OK0 ∧ Has wx w.heap.size ns 6 ∧ Has wx (w.heap.size + 1) ds 6 ∧ Hid (Has wx c RA 2) ∧ Hid (Kept w wx))
  case first =>
    have DH1 := H1.drew
    have DH2 := H2.drew
    have DB := Lib.hid (keptDrew9 HB.out)
    clear H1 H2 HB
    refine wp_region_held_drew (S := fun w' => Has w' w.heap.size ns 6 ∧ Has w' (w.heap.size + 1) ds 6) (by kernel_rfl) ⟨DH1, DH2⟩ (fun hHeld => ?_)
    generalize hWD : World.drew _ = WD1 at *
    clear hWD
    (refine wpAnyH_take (i := 0) (v := _) rfl (by kernel_rfl) (by kernel_rfl) (by kernel_rfl) (fun _ _ _ h => h) (yieldsIf_load_mid (by rfl) 22 _ rfl _ _ rfl (ints ns) _ (fun w' hSw => hSw.1.holds.range) Try.underlying22 rfl (hi1)) hHeld ?_; (try simp only [List.getElem_toArray, List.getElem_cons_zero, List.getElem_cons_succ, Act.put, List.setIfInBounds_toArray, List.set_cons_zero, List.set_cons_succ]))
    (refine wpAnyH_take (i := 2) (v := _) rfl (by kernel_rfl) (by kernel_rfl) (by kernel_rfl) (fun _ _ _ h => h) (yieldsIf_load_mid (by rfl) 22 _ rfl _ _ rfl (ints ds) _ (fun w' hSw => hSw.2.holds.range) Try.underlying22 rfl (hi2)) hHeld ?_; (try simp only [List.getElem_toArray, List.getElem_cons_zero, List.getElem_cons_succ, Act.put, List.setIfInBounds_toArray, List.set_cons_zero, List.set_cons_succ]))
    (refine wpAnyH_take (i := 4) (v := ?_) rfl (by kernel_rfl) (by kernel_rfl) (by kernel_rfl) (fun _ _ _ h => h) (Or.inl ⟨by rfl, ?_⟩) hHeld ?_; rotate_left; (· (intro w' hSw; go_simp; try with_reducible rfl)); (try simp only [List.getElem_toArray, List.getElem_cons_zero, List.getElem_cons_succ, Act.put, List.setIfInBounds_toArray, List.set_cons_zero, List.set_cons_succ]))
    (refine wpAnyH_take (i := 5) (v := ?_) rfl (by kernel_rfl) (by kernel_rfl) (by kernel_rfl) (fun _ _ _ h => h) (Or.inl ⟨by rfl, ?_⟩) hHeld ?_; rotate_left; (· (intro w' hSw; go_simp; try with_reducible rfl)); (try simp only [List.getElem_toArray, List.getElem_cons_zero, List.getElem_cons_succ, Act.put, List.setIfInBounds_toArray, List.set_cons_zero, List.set_cons_succ]))
    refine wpAnyH_ready (rs := [1, 10]) (by kernel_rfl) (by simp) ?_
    refine AllReadyH.cons (o := _) rfl (fun K hK => ?_) (AllReadyH.cons (o := _) rfl (fun K hK => ?_) AllReadyH.nil)
    · (simp only [List.getElem_toArray, List.getElem_cons_zero, List.getElem_cons_succ, Region.wanted, if_true])
      go_simp
      refine (toIntA6v ns _ hns).mono ?_
      rintro e wc2 ⟨rfl, bc2⟩
      dsimp only
      (try simp only [List.getElem_toArray, List.getElem_cons_zero, List.getElem_cons_succ, Act.put, List.setIfInBounds_toArray, List.set_cons_zero, List.set_cons_succ])
      refine hK.out _ _ ⟨hHeld.1.below bc2, hHeld.2.below bc2⟩ (fun hHeld => ?_)
      clear hK K
      replace DH1 := DH1.below bc2
      replace DH2 := DH2.below bc2
      replace DB := Lib.hid (DB.out.call bc2)
      clear bc2
      refine wpAnyH_ready (rs := [3, 10]) (by kernel_rfl) (by simp) ?_
      refine AllReadyH.cons (o := _) rfl (fun K hK => ?_) (AllReadyH.cons (o := _) rfl (fun K hK => ?_) AllReadyH.nil)
      · (simp only [List.getElem_toArray, List.getElem_cons_zero, List.getElem_cons_succ, Region.wanted, if_true])
        go_simp
        refine (toIntA6v ds _ hds).mono ?_
        rintro e wc3 ⟨rfl, bc3⟩
        dsimp only
        (try simp only [List.getElem_toArray, List.getElem_cons_zero, List.getElem_cons_succ, Act.put, List.setIfInBounds_toArray, List.set_cons_zero, List.set_cons_succ])
        refine hK.out _ _ ⟨hHeld.1.below bc3, hHeld.2.below bc3⟩ (fun hHeld => ?_)
        clear hK K
        replace DH1 := DH1.below bc3
        replace DH2 := DH2.below bc3
        replace DB := Lib.hid (DB.out.call bc3)
        clear bc3
        refine wpAnyH_ready (rs := [6, 10]) (by kernel_rfl) (by simp) ?_
        refine AllReadyH.cons (o := _) rfl (fun K hK => ?_) (AllReadyH.cons (o := _) rfl (fun K hK => ?_) AllReadyH.nil)
        · (simp only [List.getElem_toArray, List.getElem_cons_zero, List.getElem_cons_succ, Region.wanted, if_true])
          go_simp
          refine (KS.out _).mono ?_
          rintro e wc4 ⟨rfl, bc4⟩
          dsimp only
          (try simp only [List.getElem_toArray, List.getElem_cons_zero, List.getElem_cons_succ, Act.put, List.setIfInBounds_toArray, List.set_cons_zero, List.set_cons_succ])
          refine hK.out _ _ ⟨hHeld.1.below bc4, hHeld.2.below bc4⟩ (fun hHeld => ?_)
          clear hK K
          replace DH1 := DH1.below bc4
          replace DH2 := DH2.below bc4
          replace DB := Lib.hid (DB.out.call bc4)
          clear bc4
          (refine wpAnyH_take (i := 7) (v := ?_) rfl (by kernel_rfl) (by kernel_rfl) (by kernel_rfl) (fun _ _ _ h => h) (Or.inl ⟨by rfl, ?_⟩) hHeld ?_; rotate_left; (· (intro w' hSw; go_simp; try with_reducible rfl)); (try simp only [List.getElem_toArray, List.getElem_cons_zero, List.getElem_cons_succ, Act.put, List.setIfInBounds_toArray, List.set_cons_zero, List.set_cons_succ])); (refine wpAnyH_take (i := 8) (v := ?_) rfl (by kernel_rfl) (by kernel_rfl) (by kernel_rfl) (fun _ _ _ h => h) (Or.inl ⟨by rfl, ?_⟩) hHeld ?_; rotate_left; (· (intro w' hSw; go_simp; try with_reducible rfl)); (try simp only [List.getElem_toArray, List.getElem_cons_zero, List.getElem_cons_succ, Act.put, List.setIfInBounds_toArray, List.set_cons_zero, List.set_cons_succ])); (refine wpAnyH_take (i := 9) (v := ?_) rfl (by kernel_rfl) (by kernel_rfl) (by kernel_rfl) (fun _ _ _ h => h) (Or.inl ⟨by rfl, ?_⟩) hHeld ?_; rotate_left; (· (intro w' hSw; go_simp; try with_reducible rfl)); (try simp only [List.getElem_toArray, List.getElem_cons_zero, List.getElem_cons_succ, Act.put, List.setIfInBounds_toArray, List.set_cons_zero, List.set_cons_succ]))
          (refine wpAnyH_ready (rs := [10]) (by kernel_rfl) (by simp) ?_; refine AllReadyH.cons (o := _) rfl (fun K hK => ?_) AllReadyH.nil; (simp only [List.getElem_toArray, List.getElem_cons_zero, List.getElem_cons_succ, Region.wanted, if_true]))
          go_simp
          refine hK.out _ _ ⟨hHeld.1.alloc _, hHeld.2.alloc _⟩ (fun hHeld => ?_)
          clear hK K
          have ltH1 := DH1.lt
          have ltH2 := DH2.lt
          have ltB := DB.out.size
          have Z : Has (wc4.alloc (.cells #[.int .i64 0, .int .i64 0] 23)) wc4.heap.size z2 2 := Has.box (ns := z2) wc4 23 rfl (by omega)
          replace DH1 := DH1.alloc (.cells #[.int .i64 0, .int .i64 0] 23)
          replace DH2 := DH2.alloc (.cells #[.int .i64 0, .int .i64 0] 23)
          replace DB := Lib.hid (DB.out.alloc (.cells #[.int .i64 0, .int .i64 0] 23))
          generalize hcc : wc4.heap.size = cc at *
          clear hcc
          generalize wc4.alloc (.cells #[.int .i64 0, .int .i64 0] 23) = WA5 at *
          (refine wpAnyH_ready (rs := [11]) (by kernel_rfl) (by simp) ?_; refine AllReadyH.cons (o := _) rfl (fun K hK => ?_) AllReadyH.nil; (simp only [List.getElem_toArray, List.getElem_cons_zero, List.getElem_cons_succ, Region.wanted, if_true]); refine wp_store_mid _ _ _ rfl _ _ (ints RA).toArray rfl rfl (by simpa [l3] using Z.there) (by simpa [l3] using hi3) (all_oneCell_toArray (ints_one _)) ?_; (try simp only [List.getElem_toArray, List.getElem_cons_zero, List.getElem_cons_succ, Act.put, List.setIfInBounds_toArray, List.set_cons_zero, List.set_cons_succ, List.toList_toArray]); refine hK.out _ _ (⟨hHeld.1.putOther _ _ (by omega), hHeld.2.putOther _ _ (by omega)⟩) (fun hHeld => ?_); clear hK K)
          (refine wpAnyH_take (i := 12) (v := ?_) rfl (by kernel_rfl) (by kernel_rfl) (by kernel_rfl) (fun _ _ _ h => h) (Or.inl ⟨by rfl, ?_⟩) hHeld ?_; rotate_left; (· (intro w' hSw; go_simp; try with_reducible rfl)); (try simp only [List.getElem_toArray, List.getElem_cons_zero, List.getElem_cons_succ, Act.put, List.setIfInBounds_toArray, List.set_cons_zero, List.set_cons_succ]))
          refine wpAnyH_done (by kernel_rfl) ?_ _
          have R := Z.putAll RA hl
          replace DH1 := DH1.putOther (b' := cc) 0 (ints RA) (by omega)
          replace DH2 := DH2.putOther (b' := cc) 0 (ints RA) (by omega)
          replace DB := Lib.hid (DB.out.puts (b := cc) (by omega) 0 (ints RA))
          clear hHeld Z
          go_wp2_with fail
          go_meet
          case rel => exact ⟨cc, rfl, rfl, DH1, DH2, Lib.hid R, DB⟩
        · (simp only [List.getElem_toArray, List.getElem_cons_zero, List.getElem_cons_succ, Region.wanted, if_true])
          go_simp
          refine hK.out _ _ ⟨hHeld.1.alloc _, hHeld.2.alloc _⟩ (fun hHeld => ?_)
          clear hK K
          have ltH1 := DH1.lt
          have ltH2 := DH2.lt
          have ltB := DB.out.size
          have Z : Has (wc3.alloc (.cells #[.int .i64 0, .int .i64 0] 23)) wc3.heap.size z2 2 := Has.box (ns := z2) wc3 23 rfl (by omega)
          replace DH1 := DH1.alloc (.cells #[.int .i64 0, .int .i64 0] 23)
          replace DH2 := DH2.alloc (.cells #[.int .i64 0, .int .i64 0] 23)
          replace DB := Lib.hid (DB.out.alloc (.cells #[.int .i64 0, .int .i64 0] 23))
          generalize hcc : wc3.heap.size = cc at *
          clear hcc
          generalize wc3.alloc (.cells #[.int .i64 0, .int .i64 0] 23) = WA6 at *
          (refine wpAnyH_ready (rs := [6]) (by kernel_rfl) (by simp) ?_; refine AllReadyH.cons (o := _) rfl (fun K hK => ?_) AllReadyH.nil; (simp only [List.getElem_toArray, List.getElem_cons_zero, List.getElem_cons_succ, Region.wanted, if_true]))
          go_simp
          refine (KS.out _).mono ?_
          rintro e wc7 ⟨rfl, bc7⟩
          dsimp only
          (try simp only [List.getElem_toArray, List.getElem_cons_zero, List.getElem_cons_succ, Act.put, List.setIfInBounds_toArray, List.set_cons_zero, List.set_cons_succ])
          refine hK.out _ _ ⟨hHeld.1.below bc7, hHeld.2.below bc7⟩ (fun hHeld => ?_)
          clear hK K
          replace DH1 := DH1.below bc7
          replace DH2 := DH2.below bc7
          replace DB := Lib.hid (DB.out.call bc7)
          replace Z := Z.below bc7
          clear bc7
          (refine wpAnyH_take (i := 7) (v := ?_) rfl (by kernel_rfl) (by kernel_rfl) (by kernel_rfl) (fun _ _ _ h => h) (Or.inl ⟨by rfl, ?_⟩) hHeld ?_; rotate_left; (· (intro w' hSw; go_simp; try with_reducible rfl)); (try simp only [List.getElem_toArray, List.getElem_cons_zero, List.getElem_cons_succ, Act.put, List.setIfInBounds_toArray, List.set_cons_zero, List.set_cons_succ])); (refine wpAnyH_take (i := 8) (v := ?_) rfl (by kernel_rfl) (by kernel_rfl) (by kernel_rfl) (fun _ _ _ h => h) (Or.inl ⟨by rfl, ?_⟩) hHeld ?_; rotate_left; (· (intro w' hSw; go_simp; try with_reducible rfl)); (try simp only [List.getElem_toArray, List.getElem_cons_zero, List.getElem_cons_succ, Act.put, List.setIfInBounds_toArray, List.set_cons_zero, List.set_cons_succ])); (refine wpAnyH_take (i := 9) (v := ?_) rfl (by kernel_rfl) (by kernel_rfl) (by kernel_rfl) (fun _ _ _ h => h) (Or.inl ⟨by rfl, ?_⟩) hHeld ?_; rotate_left; (· (intro w' hSw; go_simp; try with_reducible rfl)); (try simp only [List.getElem_toArray, List.getElem_cons_zero, List.getElem_cons_succ, Act.put, List.setIfInBounds_toArray, List.set_cons_zero, List.set_cons_succ]))
          (refine wpAnyH_ready (rs := [11]) (by kernel_rfl) (by simp) ?_; refine AllReadyH.cons (o := _) rfl (fun K hK => ?_) AllReadyH.nil; (simp only [List.getElem_toArray, List.getElem_cons_zero, List.getElem_cons_succ, Region.wanted, if_true]); refine wp_store_mid _ _ _ rfl _ _ (ints RA).toArray rfl rfl (by simpa [l3] using Z.there) (by simpa [l3] using hi3) (all_oneCell_toArray (ints_one _)) ?_; (try simp only [List.getElem_toArray, List.getElem_cons_zero, List.getElem_cons_succ, Act.put, List.setIfInBounds_toArray, List.set_cons_zero, List.set_cons_succ, List.toList_toArray]); refine hK.out _ _ (⟨hHeld.1.putOther _ _ (by omega), hHeld.2.putOther _ _ (by omega)⟩) (fun hHeld => ?_); clear hK K)
          (refine wpAnyH_take (i := 12) (v := ?_) rfl (by kernel_rfl) (by kernel_rfl) (by kernel_rfl) (fun _ _ _ h => h) (Or.inl ⟨by rfl, ?_⟩) hHeld ?_; rotate_left; (· (intro w' hSw; go_simp; try with_reducible rfl)); (try simp only [List.getElem_toArray, List.getElem_cons_zero, List.getElem_cons_succ, Act.put, List.setIfInBounds_toArray, List.set_cons_zero, List.set_cons_succ]))
          refine wpAnyH_done (by kernel_rfl) ?_ _
          have R := Z.putAll RA hl
          replace DH1 := DH1.putOther (b' := cc) 0 (ints RA) (by omega)
          replace DH2 := DH2.putOther (b' := cc) 0 (ints RA) (by omega)
          replace DB := Lib.hid (DB.out.puts (b := cc) (by omega) 0 (ints RA))
          clear hHeld Z
          go_wp2_with fail
          go_meet
          case rel => exact ⟨cc, rfl, rfl, DH1, DH2, Lib.hid R, DB⟩
      · (simp only [List.getElem_toArray, List.getElem_cons_zero, List.getElem_cons_succ, Region.wanted, if_true])
        go_simp
        refine hK.out _ _ ⟨hHeld.1.alloc _, hHeld.2.alloc _⟩ (fun hHeld => ?_)
        clear hK K
        have ltH1 := DH1.lt
        have ltH2 := DH2.lt
        have ltB := DB.out.size
        have Z : Has (wc2.alloc (.cells #[.int .i64 0, .int .i64 0] 23)) wc2.heap.size z2 2 := Has.box (ns := z2) wc2 23 rfl (by omega)
        replace DH1 := DH1.alloc (.cells #[.int .i64 0, .int .i64 0] 23)
        replace DH2 := DH2.alloc (.cells #[.int .i64 0, .int .i64 0] 23)
        replace DB := Lib.hid (DB.out.alloc (.cells #[.int .i64 0, .int .i64 0] 23))
        generalize hcc : wc2.heap.size = cc at *
        clear hcc
        generalize wc2.alloc (.cells #[.int .i64 0, .int .i64 0] 23) = WA8 at *
        (refine wpAnyH_ready (rs := [3]) (by kernel_rfl) (by simp) ?_; refine AllReadyH.cons (o := _) rfl (fun K hK => ?_) AllReadyH.nil; (simp only [List.getElem_toArray, List.getElem_cons_zero, List.getElem_cons_succ, Region.wanted, if_true]))
        go_simp
        refine (toIntA6v ds _ hds).mono ?_
        rintro e wc9 ⟨rfl, bc9⟩
        dsimp only
        (try simp only [List.getElem_toArray, List.getElem_cons_zero, List.getElem_cons_succ, Act.put, List.setIfInBounds_toArray, List.set_cons_zero, List.set_cons_succ])
        refine hK.out _ _ ⟨hHeld.1.below bc9, hHeld.2.below bc9⟩ (fun hHeld => ?_)
        clear hK K
        replace DH1 := DH1.below bc9
        replace DH2 := DH2.below bc9
        replace DB := Lib.hid (DB.out.call bc9)
        replace Z := Z.below bc9
        clear bc9
        (refine wpAnyH_ready (rs := [6]) (by kernel_rfl) (by simp) ?_; refine AllReadyH.cons (o := _) rfl (fun K hK => ?_) AllReadyH.nil; (simp only [List.getElem_toArray, List.getElem_cons_zero, List.getElem_cons_succ, Region.wanted, if_true]))
        go_simp
        refine (KS.out _).mono ?_
        rintro e wc10 ⟨rfl, bc10⟩
        dsimp only
        (try simp only [List.getElem_toArray, List.getElem_cons_zero, List.getElem_cons_succ, Act.put, List.setIfInBounds_toArray, List.set_cons_zero, List.set_cons_succ])
        refine hK.out _ _ ⟨hHeld.1.below bc10, hHeld.2.below bc10⟩ (fun hHeld => ?_)
        clear hK K
        replace DH1 := DH1.below bc10
        replace DH2 := DH2.below bc10
        replace DB := Lib.hid (DB.out.call bc10)
        replace Z := Z.below bc10
        clear bc10
        (refine wpAnyH_take (i := 7) (v := ?_) rfl (by kernel_rfl) (by kernel_rfl) (by kernel_rfl) (fun _ _ _ h => h) (Or.inl ⟨by rfl, ?_⟩) hHeld ?_; rotate_left; (· (intro w' hSw; go_simp; try with_reducible rfl)); (try simp only [List.getElem_toArray, List.getElem_cons_zero, List.getElem_cons_succ, Act.put, List.setIfInBounds_toArray, List.set_cons_zero, List.set_cons_succ])); (refine wpAnyH_take (i := 8) (v := ?_) rfl (by kernel_rfl) (by kernel_rfl) (by kernel_rfl) (fun _ _ _ h => h) (Or.inl ⟨by rfl, ?_⟩) hHeld ?_; rotate_left; (· (intro w' hSw; go_simp; try with_reducible rfl)); (try simp only [List.getElem_toArray, List.getElem_cons_zero, List.getElem_cons_succ, Act.put, List.setIfInBounds_toArray, List.set_cons_zero, List.set_cons_succ])); (refine wpAnyH_take (i := 9) (v := ?_) rfl (by kernel_rfl) (by kernel_rfl) (by kernel_rfl) (fun _ _ _ h => h) (Or.inl ⟨by rfl, ?_⟩) hHeld ?_; rotate_left; (· (intro w' hSw; go_simp; try with_reducible rfl)); (try simp only [List.getElem_toArray, List.getElem_cons_zero, List.getElem_cons_succ, Act.put, List.setIfInBounds_toArray, List.set_cons_zero, List.set_cons_succ]))
        (refine wpAnyH_ready (rs := [11]) (by kernel_rfl) (by simp) ?_; refine AllReadyH.cons (o := _) rfl (fun K hK => ?_) AllReadyH.nil; (simp only [List.getElem_toArray, List.getElem_cons_zero, List.getElem_cons_succ, Region.wanted, if_true]); refine wp_store_mid _ _ _ rfl _ _ (ints RA).toArray rfl rfl (by simpa [l3] using Z.there) (by simpa [l3] using hi3) (all_oneCell_toArray (ints_one _)) ?_; (try simp only [List.getElem_toArray, List.getElem_cons_zero, List.getElem_cons_succ, Act.put, List.setIfInBounds_toArray, List.set_cons_zero, List.set_cons_succ, List.toList_toArray]); refine hK.out _ _ (⟨hHeld.1.putOther _ _ (by omega), hHeld.2.putOther _ _ (by omega)⟩) (fun hHeld => ?_); clear hK K)
        (refine wpAnyH_take (i := 12) (v := ?_) rfl (by kernel_rfl) (by kernel_rfl) (by kernel_rfl) (fun _ _ _ h => h) (Or.inl ⟨by rfl, ?_⟩) hHeld ?_; rotate_left; (· (intro w' hSw; go_simp; try with_reducible rfl)); (try simp only [List.getElem_toArray, List.getElem_cons_zero, List.getElem_cons_succ, Act.put, List.setIfInBounds_toArray, List.set_cons_zero, List.set_cons_succ]))
        refine wpAnyH_done (by kernel_rfl) ?_ _
        have R := Z.putAll RA hl
        replace DH1 := DH1.putOther (b' := cc) 0 (ints RA) (by omega)
        replace DH2 := DH2.putOther (b' := cc) 0 (ints RA) (by omega)
        replace DB := Lib.hid (DB.out.puts (b := cc) (by omega) 0 (ints RA))
        clear hHeld Z
        go_wp2_with fail
        go_meet
        case rel => exact ⟨cc, rfl, rfl, DH1, DH2, Lib.hid R, DB⟩
    · (simp only [List.getElem_toArray, List.getElem_cons_zero, List.getElem_cons_succ, Region.wanted, if_true])
      go_simp
      refine hK.out _ _ ⟨hHeld.1.alloc _, hHeld.2.alloc _⟩ (fun hHeld => ?_)
      clear hK K
      have ltH1 := DH1.lt
      have ltH2 := DH2.lt
      have ltB := DB.out.size
      have Z : Has (WD1.alloc (.cells #[.int .i64 0, .int .i64 0] 23)) WD1.heap.size z2 2 := Has.box (ns := z2) WD1 23 rfl (by omega)
      replace DH1 := DH1.alloc (.cells #[.int .i64 0, .int .i64 0] 23)
      replace DH2 := DH2.alloc (.cells #[.int .i64 0, .int .i64 0] 23)
      replace DB := Lib.hid (DB.out.alloc (.cells #[.int .i64 0, .int .i64 0] 23))
      generalize hcc : WD1.heap.size = cc at *
      clear hcc
      generalize WD1.alloc (.cells #[.int .i64 0, .int .i64 0] 23) = WA11 at *
      (refine wpAnyH_ready (rs := [1]) (by kernel_rfl) (by simp) ?_; refine AllReadyH.cons (o := _) rfl (fun K hK => ?_) AllReadyH.nil; (simp only [List.getElem_toArray, List.getElem_cons_zero, List.getElem_cons_succ, Region.wanted, if_true]))
      go_simp
      refine (toIntA6v ns _ hns).mono ?_
      rintro e wc12 ⟨rfl, bc12⟩
      dsimp only
      (try simp only [List.getElem_toArray, List.getElem_cons_zero, List.getElem_cons_succ, Act.put, List.setIfInBounds_toArray, List.set_cons_zero, List.set_cons_succ])
      refine hK.out _ _ ⟨hHeld.1.below bc12, hHeld.2.below bc12⟩ (fun hHeld => ?_)
      clear hK K
      replace DH1 := DH1.below bc12
      replace DH2 := DH2.below bc12
      replace DB := Lib.hid (DB.out.call bc12)
      replace Z := Z.below bc12
      clear bc12
      (refine wpAnyH_ready (rs := [3]) (by kernel_rfl) (by simp) ?_; refine AllReadyH.cons (o := _) rfl (fun K hK => ?_) AllReadyH.nil; (simp only [List.getElem_toArray, List.getElem_cons_zero, List.getElem_cons_succ, Region.wanted, if_true]))
      go_simp
      refine (toIntA6v ds _ hds).mono ?_
      rintro e wc13 ⟨rfl, bc13⟩
      dsimp only
      (try simp only [List.getElem_toArray, List.getElem_cons_zero, List.getElem_cons_succ, Act.put, List.setIfInBounds_toArray, List.set_cons_zero, List.set_cons_succ])
      refine hK.out _ _ ⟨hHeld.1.below bc13, hHeld.2.below bc13⟩ (fun hHeld => ?_)
      clear hK K
      replace DH1 := DH1.below bc13
      replace DH2 := DH2.below bc13
      replace DB := Lib.hid (DB.out.call bc13)
      replace Z := Z.below bc13
      clear bc13
      (refine wpAnyH_ready (rs := [6]) (by kernel_rfl) (by simp) ?_; refine AllReadyH.cons (o := _) rfl (fun K hK => ?_) AllReadyH.nil; (simp only [List.getElem_toArray, List.getElem_cons_zero, List.getElem_cons_succ, Region.wanted, if_true]))
      go_simp
      refine (KS.out _).mono ?_
      rintro e wc14 ⟨rfl, bc14⟩
      dsimp only
      (try simp only [List.getElem_toArray, List.getElem_cons_zero, List.getElem_cons_succ, Act.put, List.setIfInBounds_toArray, List.set_cons_zero, List.set_cons_succ])
      refine hK.out _ _ ⟨hHeld.1.below bc14, hHeld.2.below bc14⟩ (fun hHeld => ?_)
      clear hK K
      replace DH1 := DH1.below bc14
      replace DH2 := DH2.below bc14
      replace DB := Lib.hid (DB.out.call bc14)
      replace Z := Z.below bc14
      clear bc14
      (refine wpAnyH_take (i := 7) (v := ?_) rfl (by kernel_rfl) (by kernel_rfl) (by kernel_rfl) (fun _ _ _ h => h) (Or.inl ⟨by rfl, ?_⟩) hHeld ?_; rotate_left; (· (intro w' hSw; go_simp; try with_reducible rfl)); (try simp only [List.getElem_toArray, List.getElem_cons_zero, List.getElem_cons_succ, Act.put, List.setIfInBounds_toArray, List.set_cons_zero, List.set_cons_succ])); (refine wpAnyH_take (i := 8) (v := ?_) rfl (by kernel_rfl) (by kernel_rfl) (by kernel_rfl) (fun _ _ _ h => h) (Or.inl ⟨by rfl, ?_⟩) hHeld ?_; rotate_left; (· (intro w' hSw; go_simp; try with_reducible rfl)); (try simp only [List.getElem_toArray, List.getElem_cons_zero, List.getElem_cons_succ, Act.put, List.setIfInBounds_toArray, List.set_cons_zero, List.set_cons_succ])); (refine wpAnyH_take (i := 9) (v := ?_) rfl (by kernel_rfl) (by kernel_rfl) (by kernel_rfl) (fun _ _ _ h => h) (Or.inl ⟨by rfl, ?_⟩) hHeld ?_; rotate_left; (· (intro w' hSw; go_simp; try with_reducible rfl)); (try simp only [List.getElem_toArray, List.getElem_cons_zero, List.getElem_cons_succ, Act.put, List.setIfInBounds_toArray, List.set_cons_zero, List.set_cons_succ]))
      (refine wpAnyH_ready (rs := [11]) (by kernel_rfl) (by simp) ?_; refine AllReadyH.cons (o := _) rfl (fun K hK => ?_) AllReadyH.nil; (simp only [List.getElem_toArray, List.getElem_cons_zero, List.getElem_cons_succ, Region.wanted, if_true]); refine wp_store_mid _ _ _ rfl _ _ (ints RA).toArray rfl rfl (by simpa [l3] using Z.there) (by simpa [l3] using hi3) (all_oneCell_toArray (ints_one _)) ?_; (try simp only [List.getElem_toArray, List.getElem_cons_zero, List.getElem_cons_succ, Act.put, List.setIfInBounds_toArray, List.set_cons_zero, List.set_cons_succ, List.toList_toArray]); refine hK.out _ _ (⟨hHeld.1.putOther _ _ (by omega), hHeld.2.putOther _ _ (by omega)⟩) (fun hHeld => ?_); clear hK K)
      (refine wpAnyH_take (i := 12) (v := ?_) rfl (by kernel_rfl) (by kernel_rfl) (by kernel_rfl) (fun _ _ _ h => h) (Or.inl ⟨by rfl, ?_⟩) hHeld ?_; rotate_left; (· (intro w' hSw; go_simp; try with_reducible rfl)); (try simp only [List.getElem_toArray, List.getElem_cons_zero, List.getElem_cons_succ, Act.put, List.setIfInBounds_toArray, List.set_cons_zero, List.set_cons_succ]))
      refine wpAnyH_done (by kernel_rfl) ?_ _
      have R := Z.putAll RA hl
      replace DH1 := DH1.putOther (b' := cc) 0 (ints RA) (by omega)
      replace DH2 := DH2.putOther (b' := cc) 0 (ints RA) (by omega)
      replace DB := Lib.hid (DB.out.puts (b := cc) (by omega) 0 (ints RA))
      clear hHeld Z
      go_wp2_with fail
      go_meet
      case rel => exact ⟨cc, rfl, rfl, DH1, DH2, Lib.hid R, DB⟩
  clear HB H1 H2
  obtain ⟨ca, rfl, rfl, H1, H2, Ra, HB⟩ := hcut
  go_wp2_with fail
  go_cut [11, 12] from 23 to 32 (fun s11 s12 wx => ∃ c : Nat, s11 = .pointer (some ⟨c, 0, none⟩) ∧ s12 = .bool OK0 ∧ Has wx w.heap.size ns 6 ∧ Has wx (w.heap.size + 1) ds 6 ∧ Hid (Has wx c RA 2) ∧ Hid (Has wx ca RA 2) ∧ Hid (Kept w wx))
  case first =>
    have DH1 := H1.drew
    have DH2 := H2.drew
    have DB := Lib.hid (keptDrew9 HB.out)
    clear H1 H2 HB
    have DRa := Lib.hid (Ra.out.drew)
    clear Ra
    refine wp_region_held_drew (S := fun w' => Has w' w.heap.size ns 6 ∧ Has w' (w.heap.size + 1) ds 6) (by kernel_rfl) ⟨DH1, DH2⟩ (fun hHeld => ?_)
    generalize hWD : World.drew _ = WD15 at *
    clear hWD
    (refine wpAnyH_take (i := 0) (v := _) rfl (by kernel_rfl) (by kernel_rfl) (by kernel_rfl) (fun _ _ _ h => h) (yieldsIf_load_mid (by rfl) 22 _ rfl _ _ rfl (ints ns) _ (fun w' hSw => hSw.1.holds.range) Try.underlying22 rfl (hi1)) hHeld ?_; (try simp only [List.getElem_toArray, List.getElem_cons_zero, List.getElem_cons_succ, Act.put, List.setIfInBounds_toArray, List.set_cons_zero, List.set_cons_succ]))
    (refine wpAnyH_take (i := 2) (v := _) rfl (by kernel_rfl) (by kernel_rfl) (by kernel_rfl) (fun _ _ _ h => h) (yieldsIf_load_mid (by rfl) 22 _ rfl _ _ rfl (ints ds) _ (fun w' hSw => hSw.2.holds.range) Try.underlying22 rfl (hi2)) hHeld ?_; (try simp only [List.getElem_toArray, List.getElem_cons_zero, List.getElem_cons_succ, Act.put, List.setIfInBounds_toArray, List.set_cons_zero, List.set_cons_succ]))
    (refine wpAnyH_take (i := 4) (v := ?_) rfl (by kernel_rfl) (by kernel_rfl) (by kernel_rfl) (fun _ _ _ h => h) (Or.inl ⟨by rfl, ?_⟩) hHeld ?_; rotate_left; (· (intro w' hSw; go_simp; try with_reducible rfl)); (try simp only [List.getElem_toArray, List.getElem_cons_zero, List.getElem_cons_succ, Act.put, List.setIfInBounds_toArray, List.set_cons_zero, List.set_cons_succ]))
    (refine wpAnyH_take (i := 5) (v := ?_) rfl (by kernel_rfl) (by kernel_rfl) (by kernel_rfl) (fun _ _ _ h => h) (Or.inl ⟨by rfl, ?_⟩) hHeld ?_; rotate_left; (· (intro w' hSw; go_simp; try with_reducible rfl)); (try simp only [List.getElem_toArray, List.getElem_cons_zero, List.getElem_cons_succ, Act.put, List.setIfInBounds_toArray, List.set_cons_zero, List.set_cons_succ]))
    refine wpAnyH_ready (rs := [1, 10]) (by kernel_rfl) (by simp) ?_
    refine AllReadyH.cons (o := _) rfl (fun K hK => ?_) (AllReadyH.cons (o := _) rfl (fun K hK => ?_) AllReadyH.nil)
    · (simp only [List.getElem_toArray, List.getElem_cons_zero, List.getElem_cons_succ, Region.wanted, if_true])
      go_simp
      refine (toIntA6v ns _ hns).mono ?_
      rintro e wc16 ⟨rfl, bc16⟩
      dsimp only
      (try simp only [List.getElem_toArray, List.getElem_cons_zero, List.getElem_cons_succ, Act.put, List.setIfInBounds_toArray, List.set_cons_zero, List.set_cons_succ])
      refine hK.out _ _ ⟨hHeld.1.below bc16, hHeld.2.below bc16⟩ (fun hHeld => ?_)
      clear hK K
      replace DH1 := DH1.below bc16
      replace DH2 := DH2.below bc16
      replace DB := Lib.hid (DB.out.call bc16)
      replace DRa := Lib.hid (DRa.out.below bc16)
      clear bc16
      refine wpAnyH_ready (rs := [3, 10]) (by kernel_rfl) (by simp) ?_
      refine AllReadyH.cons (o := _) rfl (fun K hK => ?_) (AllReadyH.cons (o := _) rfl (fun K hK => ?_) AllReadyH.nil)
      · (simp only [List.getElem_toArray, List.getElem_cons_zero, List.getElem_cons_succ, Region.wanted, if_true])
        go_simp
        refine (toIntA6v ds _ hds).mono ?_
        rintro e wc17 ⟨rfl, bc17⟩
        dsimp only
        (try simp only [List.getElem_toArray, List.getElem_cons_zero, List.getElem_cons_succ, Act.put, List.setIfInBounds_toArray, List.set_cons_zero, List.set_cons_succ])
        refine hK.out _ _ ⟨hHeld.1.below bc17, hHeld.2.below bc17⟩ (fun hHeld => ?_)
        clear hK K
        replace DH1 := DH1.below bc17
        replace DH2 := DH2.below bc17
        replace DB := Lib.hid (DB.out.call bc17)
        replace DRa := Lib.hid (DRa.out.below bc17)
        clear bc17
        refine wpAnyH_ready (rs := [6, 10]) (by kernel_rfl) (by simp) ?_
        refine AllReadyH.cons (o := _) rfl (fun K hK => ?_) (AllReadyH.cons (o := _) rfl (fun K hK => ?_) AllReadyH.nil)
        · (simp only [List.getElem_toArray, List.getElem_cons_zero, List.getElem_cons_succ, Region.wanted, if_true])
          go_simp
          refine (KI.out _).mono ?_
          rintro e wc18 ⟨rfl, bc18⟩
          dsimp only
          (try simp only [List.getElem_toArray, List.getElem_cons_zero, List.getElem_cons_succ, Act.put, List.setIfInBounds_toArray, List.set_cons_zero, List.set_cons_succ])
          refine hK.out _ _ ⟨hHeld.1.below bc18, hHeld.2.below bc18⟩ (fun hHeld => ?_)
          clear hK K
          replace DH1 := DH1.below bc18
          replace DH2 := DH2.below bc18
          replace DB := Lib.hid (DB.out.call bc18)
          replace DRa := Lib.hid (DRa.out.below bc18)
          clear bc18
          (refine wpAnyH_take (i := 7) (v := ?_) rfl (by kernel_rfl) (by kernel_rfl) (by kernel_rfl) (fun _ _ _ h => h) (Or.inl ⟨by rfl, ?_⟩) hHeld ?_; rotate_left; (· (intro w' hSw; go_simp; try with_reducible rfl)); (try simp only [List.getElem_toArray, List.getElem_cons_zero, List.getElem_cons_succ, Act.put, List.setIfInBounds_toArray, List.set_cons_zero, List.set_cons_succ])); (refine wpAnyH_take (i := 8) (v := ?_) rfl (by kernel_rfl) (by kernel_rfl) (by kernel_rfl) (fun _ _ _ h => h) (Or.inl ⟨by rfl, ?_⟩) hHeld ?_; rotate_left; (· (intro w' hSw; go_simp; try with_reducible rfl)); (try simp only [List.getElem_toArray, List.getElem_cons_zero, List.getElem_cons_succ, Act.put, List.setIfInBounds_toArray, List.set_cons_zero, List.set_cons_succ])); (refine wpAnyH_take (i := 9) (v := ?_) rfl (by kernel_rfl) (by kernel_rfl) (by kernel_rfl) (fun _ _ _ h => h) (Or.inl ⟨by rfl, ?_⟩) hHeld ?_; rotate_left; (· (intro w' hSw; go_simp; try with_reducible rfl)); (try simp only [List.getElem_toArray, List.getElem_cons_zero, List.getElem_cons_succ, Act.put, List.setIfInBounds_toArray, List.set_cons_zero, List.set_cons_succ]))
          (refine wpAnyH_ready (rs := [10]) (by kernel_rfl) (by simp) ?_; refine AllReadyH.cons (o := _) rfl (fun K hK => ?_) AllReadyH.nil; (simp only [List.getElem_toArray, List.getElem_cons_zero, List.getElem_cons_succ, Region.wanted, if_true]))
          go_simp
          refine hK.out _ _ ⟨hHeld.1.alloc _, hHeld.2.alloc _⟩ (fun hHeld => ?_)
          clear hK K
          have ltH1 := DH1.lt
          have ltH2 := DH2.lt
          have ltB := DB.out.size
          have ltRa := DRa.out.lt
          have Z : Has (wc18.alloc (.cells #[.int .i64 0, .int .i64 0] 23)) wc18.heap.size z2 2 := Has.box (ns := z2) wc18 23 rfl (by omega)
          replace DH1 := DH1.alloc (.cells #[.int .i64 0, .int .i64 0] 23)
          replace DH2 := DH2.alloc (.cells #[.int .i64 0, .int .i64 0] 23)
          replace DB := Lib.hid (DB.out.alloc (.cells #[.int .i64 0, .int .i64 0] 23))
          replace DRa := Lib.hid (DRa.out.alloc (.cells #[.int .i64 0, .int .i64 0] 23))
          generalize hcc : wc18.heap.size = cc at *
          clear hcc
          generalize wc18.alloc (.cells #[.int .i64 0, .int .i64 0] 23) = WA19 at *
          (refine wpAnyH_ready (rs := [11]) (by kernel_rfl) (by simp) ?_; refine AllReadyH.cons (o := _) rfl (fun K hK => ?_) AllReadyH.nil; (simp only [List.getElem_toArray, List.getElem_cons_zero, List.getElem_cons_succ, Region.wanted, if_true]); refine wp_store_mid _ _ _ rfl _ _ (ints RA).toArray rfl rfl (by simpa [l3] using Z.there) (by simpa [l3] using hi3) (all_oneCell_toArray (ints_one _)) ?_; (try simp only [List.getElem_toArray, List.getElem_cons_zero, List.getElem_cons_succ, Act.put, List.setIfInBounds_toArray, List.set_cons_zero, List.set_cons_succ, List.toList_toArray]); refine hK.out _ _ (⟨hHeld.1.putOther _ _ (by omega), hHeld.2.putOther _ _ (by omega)⟩) (fun hHeld => ?_); clear hK K)
          (refine wpAnyH_take (i := 12) (v := ?_) rfl (by kernel_rfl) (by kernel_rfl) (by kernel_rfl) (fun _ _ _ h => h) (Or.inl ⟨by rfl, ?_⟩) hHeld ?_; rotate_left; (· (intro w' hSw; go_simp; try with_reducible rfl)); (try simp only [List.getElem_toArray, List.getElem_cons_zero, List.getElem_cons_succ, Act.put, List.setIfInBounds_toArray, List.set_cons_zero, List.set_cons_succ]))
          refine wpAnyH_done (by kernel_rfl) ?_ _
          have R := Z.putAll RA hl
          replace DH1 := DH1.putOther (b' := cc) 0 (ints RA) (by omega)
          replace DH2 := DH2.putOther (b' := cc) 0 (ints RA) (by omega)
          replace DRa := Lib.hid (DRa.out.putOther (b' := cc) 0 (ints RA) (by omega))
          replace DB := Lib.hid (DB.out.puts (b := cc) (by omega) 0 (ints RA))
          clear hHeld Z
          go_wp2_with fail
          go_meet
          case rel => exact ⟨cc, rfl, rfl, DH1, DH2, Lib.hid R, DRa, DB⟩
        · (simp only [List.getElem_toArray, List.getElem_cons_zero, List.getElem_cons_succ, Region.wanted, if_true])
          go_simp
          refine hK.out _ _ ⟨hHeld.1.alloc _, hHeld.2.alloc _⟩ (fun hHeld => ?_)
          clear hK K
          have ltH1 := DH1.lt
          have ltH2 := DH2.lt
          have ltB := DB.out.size
          have ltRa := DRa.out.lt
          have Z : Has (wc17.alloc (.cells #[.int .i64 0, .int .i64 0] 23)) wc17.heap.size z2 2 := Has.box (ns := z2) wc17 23 rfl (by omega)
          replace DH1 := DH1.alloc (.cells #[.int .i64 0, .int .i64 0] 23)
          replace DH2 := DH2.alloc (.cells #[.int .i64 0, .int .i64 0] 23)
          replace DB := Lib.hid (DB.out.alloc (.cells #[.int .i64 0, .int .i64 0] 23))
          replace DRa := Lib.hid (DRa.out.alloc (.cells #[.int .i64 0, .int .i64 0] 23))
          generalize hcc : wc17.heap.size = cc at *
          clear hcc
          generalize wc17.alloc (.cells #[.int .i64 0, .int .i64 0] 23) = WA20 at *
          (refine wpAnyH_ready (rs := [6]) (by kernel_rfl) (by simp) ?_; refine AllReadyH.cons (o := _) rfl (fun K hK => ?_) AllReadyH.nil; (simp only [List.getElem_toArray, List.getElem_cons_zero, List.getElem_cons_succ, Region.wanted, if_true]))
          go_simp
          refine (KI.out _).mono ?_
          rintro e wc21 ⟨rfl, bc21⟩
          dsimp only
          (try simp only [List.getElem_toArray, List.getElem_cons_zero, List.getElem_cons_succ, Act.put, List.setIfInBounds_toArray, List.set_cons_zero, List.set_cons_succ])
          refine hK.out _ _ ⟨hHeld.1.below bc21, hHeld.2.below bc21⟩ (fun hHeld => ?_)
          clear hK K
          replace DH1 := DH1.below bc21
          replace DH2 := DH2.below bc21
          replace DB := Lib.hid (DB.out.call bc21)
          replace DRa := Lib.hid (DRa.out.below bc21)
          replace Z := Z.below bc21
          clear bc21
          (refine wpAnyH_take (i := 7) (v := ?_) rfl (by kernel_rfl) (by kernel_rfl) (by kernel_rfl) (fun _ _ _ h => h) (Or.inl ⟨by rfl, ?_⟩) hHeld ?_; rotate_left; (· (intro w' hSw; go_simp; try with_reducible rfl)); (try simp only [List.getElem_toArray, List.getElem_cons_zero, List.getElem_cons_succ, Act.put, List.setIfInBounds_toArray, List.set_cons_zero, List.set_cons_succ])); (refine wpAnyH_take (i := 8) (v := ?_) rfl (by kernel_rfl) (by kernel_rfl) (by kernel_rfl) (fun _ _ _ h => h) (Or.inl ⟨by rfl, ?_⟩) hHeld ?_; rotate_left; (· (intro w' hSw; go_simp; try with_reducible rfl)); (try simp only [List.getElem_toArray, List.getElem_cons_zero, List.getElem_cons_succ, Act.put, List.setIfInBounds_toArray, List.set_cons_zero, List.set_cons_succ])); (refine wpAnyH_take (i := 9) (v := ?_) rfl (by kernel_rfl) (by kernel_rfl) (by kernel_rfl) (fun _ _ _ h => h) (Or.inl ⟨by rfl, ?_⟩) hHeld ?_; rotate_left; (· (intro w' hSw; go_simp; try with_reducible rfl)); (try simp only [List.getElem_toArray, List.getElem_cons_zero, List.getElem_cons_succ, Act.put, List.setIfInBounds_toArray, List.set_cons_zero, List.set_cons_succ]))
          (refine wpAnyH_ready (rs := [11]) (by kernel_rfl) (by simp) ?_; refine AllReadyH.cons (o := _) rfl (fun K hK => ?_) AllReadyH.nil; (simp only [List.getElem_toArray, List.getElem_cons_zero, List.getElem_cons_succ, Region.wanted, if_true]); refine wp_store_mid _ _ _ rfl _ _ (ints RA).toArray rfl rfl (by simpa [l3] using Z.there) (by simpa [l3] using hi3) (all_oneCell_toArray (ints_one _)) ?_; (try simp only [List.getElem_toArray, List.getElem_cons_zero, List.getElem_cons_succ, Act.put, List.setIfInBounds_toArray, List.set_cons_zero, List.set_cons_succ, List.toList_toArray]); refine hK.out _ _ (⟨hHeld.1.putOther _ _ (by omega), hHeld.2.putOther _ _ (by omega)⟩) (fun hHeld => ?_); clear hK K)
          (refine wpAnyH_take (i := 12) (v := ?_) rfl (by kernel_rfl) (by kernel_rfl) (by kernel_rfl) (fun _ _ _ h => h) (Or.inl ⟨by rfl, ?_⟩) hHeld ?_; rotate_left; (· (intro w' hSw; go_simp; try with_reducible rfl)); (try simp only [List.getElem_toArray, List.getElem_cons_zero, List.getElem_cons_succ, Act.put, List.setIfInBounds_toArray, List.set_cons_zero, List.set_cons_succ]))
          refine wpAnyH_done (by kernel_rfl) ?_ _
          have R := Z.putAll RA hl
          replace DH1 := DH1.putOther (b' := cc) 0 (ints RA) (by omega)
          replace DH2 := DH2.putOther (b' := cc) 0 (ints RA) (by omega)
          replace DRa := Lib.hid (DRa.out.putOther (b' := cc) 0 (ints RA) (by omega))
          replace DB := Lib.hid (DB.out.puts (b := cc) (by omega) 0 (ints RA))
          clear hHeld Z
          go_wp2_with fail
          go_meet
          case rel => exact ⟨cc, rfl, rfl, DH1, DH2, Lib.hid R, DRa, DB⟩
      · (simp only [List.getElem_toArray, List.getElem_cons_zero, List.getElem_cons_succ, Region.wanted, if_true])
        go_simp
        refine hK.out _ _ ⟨hHeld.1.alloc _, hHeld.2.alloc _⟩ (fun hHeld => ?_)
        clear hK K
        have ltH1 := DH1.lt
        have ltH2 := DH2.lt
        have ltB := DB.out.size
        have ltRa := DRa.out.lt
        have Z : Has (wc16.alloc (.cells #[.int .i64 0, .int .i64 0] 23)) wc16.heap.size z2 2 := Has.box (ns := z2) wc16 23 rfl (by omega)
        replace DH1 := DH1.alloc (.cells #[.int .i64 0, .int .i64 0] 23)
        replace DH2 := DH2.alloc (.cells #[.int .i64 0, .int .i64 0] 23)
        replace DB := Lib.hid (DB.out.alloc (.cells #[.int .i64 0, .int .i64 0] 23))
        replace DRa := Lib.hid (DRa.out.alloc (.cells #[.int .i64 0, .int .i64 0] 23))
        generalize hcc : wc16.heap.size = cc at *
        clear hcc
        generalize wc16.alloc (.cells #[.int .i64 0, .int .i64 0] 23) = WA22 at *
        (refine wpAnyH_ready (rs := [3]) (by kernel_rfl) (by simp) ?_; refine AllReadyH.cons (o := _) rfl (fun K hK => ?_) AllReadyH.nil; (simp only [List.getElem_toArray, List.getElem_cons_zero, List.getElem_cons_succ, Region.wanted, if_true]))
        go_simp
        refine (toIntA6v ds _ hds).mono ?_
        rintro e wc23 ⟨rfl, bc23⟩
        dsimp only
        (try simp only [List.getElem_toArray, List.getElem_cons_zero, List.getElem_cons_succ, Act.put, List.setIfInBounds_toArray, List.set_cons_zero, List.set_cons_succ])
        refine hK.out _ _ ⟨hHeld.1.below bc23, hHeld.2.below bc23⟩ (fun hHeld => ?_)
        clear hK K
        replace DH1 := DH1.below bc23
        replace DH2 := DH2.below bc23
        replace DB := Lib.hid (DB.out.call bc23)
        replace DRa := Lib.hid (DRa.out.below bc23)
        replace Z := Z.below bc23
        clear bc23
        (refine wpAnyH_ready (rs := [6]) (by kernel_rfl) (by simp) ?_; refine AllReadyH.cons (o := _) rfl (fun K hK => ?_) AllReadyH.nil; (simp only [List.getElem_toArray, List.getElem_cons_zero, List.getElem_cons_succ, Region.wanted, if_true]))
        go_simp
        refine (KI.out _).mono ?_
        rintro e wc24 ⟨rfl, bc24⟩
        dsimp only
        (try simp only [List.getElem_toArray, List.getElem_cons_zero, List.getElem_cons_succ, Act.put, List.setIfInBounds_toArray, List.set_cons_zero, List.set_cons_succ])
        refine hK.out _ _ ⟨hHeld.1.below bc24, hHeld.2.below bc24⟩ (fun hHeld => ?_)
        clear hK K
        replace DH1 := DH1.below bc24
        replace DH2 := DH2.below bc24
        replace DB := Lib.hid (DB.out.call bc24)
        replace DRa := Lib.hid (DRa.out.below bc24)
        replace Z := Z.below bc24
        clear bc24
        (refine wpAnyH_take (i := 7) (v := ?_) rfl (by kernel_rfl) (by kernel_rfl) (by kernel_rfl) (fun _ _ _ h => h) (Or.inl ⟨by rfl, ?_⟩) hHeld ?_; rotate_left; (· (intro w' hSw; go_simp; try with_reducible rfl)); (try simp only [List.getElem_toArray, List.getElem_cons_zero, List.getElem_cons_succ, Act.put, List.setIfInBounds_toArray, List.set_cons_zero, List.set_cons_succ])); (refine wpAnyH_take (i := 8) (v := ?_) rfl (by kernel_rfl) (by kernel_rfl) (by kernel_rfl) (fun _ _ _ h => h) (Or.inl ⟨by rfl, ?_⟩) hHeld ?_; rotate_left; (· (intro w' hSw; go_simp; try with_reducible rfl)); (try simp only [List.getElem_toArray, List.getElem_cons_zero, List.getElem_cons_succ, Act.put, List.setIfInBounds_toArray, List.set_cons_zero, List.set_cons_succ])); (refine wpAnyH_take (i := 9) (v := ?_) rfl (by kernel_rfl) (by kernel_rfl) (by kernel_rfl) (fun _ _ _ h => h) (Or.inl ⟨by rfl, ?_⟩) hHeld ?_; rotate_left; (· (intro w' hSw; go_simp; try with_reducible rfl)); (try simp only [List.getElem_toArray, List.getElem_cons_zero, List.getElem_cons_succ, Act.put, List.setIfInBounds_toArray, List.set_cons_zero, List.set_cons_succ]))
        (refine wpAnyH_ready (rs := [11]) (by kernel_rfl) (by simp) ?_; refine AllReadyH.cons (o := _) rfl (fun K hK => ?_) AllReadyH.nil; (simp only [List.getElem_toArray, List.getElem_cons_zero, List.getElem_cons_succ, Region.wanted, if_true]); refine wp_store_mid _ _ _ rfl _ _ (ints RA).toArray rfl rfl (by simpa [l3] using Z.there) (by simpa [l3] using hi3) (all_oneCell_toArray (ints_one _)) ?_; (try simp only [List.getElem_toArray, List.getElem_cons_zero, List.getElem_cons_succ, Act.put, List.setIfInBounds_toArray, List.set_cons_zero, List.set_cons_succ, List.toList_toArray]); refine hK.out _ _ (⟨hHeld.1.putOther _ _ (by omega), hHeld.2.putOther _ _ (by omega)⟩) (fun hHeld => ?_); clear hK K)
        (refine wpAnyH_take (i := 12) (v := ?_) rfl (by kernel_rfl) (by kernel_rfl) (by kernel_rfl) (fun _ _ _ h => h) (Or.inl ⟨by rfl, ?_⟩) hHeld ?_; rotate_left; (· (intro w' hSw; go_simp; try with_reducible rfl)); (try simp only [List.getElem_toArray, List.getElem_cons_zero, List.getElem_cons_succ, Act.put, List.setIfInBounds_toArray, List.set_cons_zero, List.set_cons_succ]))
        refine wpAnyH_done (by kernel_rfl) ?_ _
        have R := Z.putAll RA hl
        replace DH1 := DH1.putOther (b' := cc) 0 (ints RA) (by omega)
        replace DH2 := DH2.putOther (b' := cc) 0 (ints RA) (by omega)
        replace DRa := Lib.hid (DRa.out.putOther (b' := cc) 0 (ints RA) (by omega))
        replace DB := Lib.hid (DB.out.puts (b := cc) (by omega) 0 (ints RA))
        clear hHeld Z
        go_wp2_with fail
        go_meet
        case rel => exact ⟨cc, rfl, rfl, DH1, DH2, Lib.hid R, DRa, DB⟩
    · (simp only [List.getElem_toArray, List.getElem_cons_zero, List.getElem_cons_succ, Region.wanted, if_true])
      go_simp
      refine hK.out _ _ ⟨hHeld.1.alloc _, hHeld.2.alloc _⟩ (fun hHeld => ?_)
      clear hK K
      have ltH1 := DH1.lt
      have ltH2 := DH2.lt
      have ltB := DB.out.size
      have ltRa := DRa.out.lt
      have Z : Has (WD15.alloc (.cells #[.int .i64 0, .int .i64 0] 23)) WD15.heap.size z2 2 := Has.box (ns := z2) WD15 23 rfl (by omega)
      replace DH1 := DH1.alloc (.cells #[.int .i64 0, .int .i64 0] 23)
      replace DH2 := DH2.alloc (.cells #[.int .i64 0, .int .i64 0] 23)
      replace DB := Lib.hid (DB.out.alloc (.cells #[.int .i64 0, .int .i64 0] 23))
      replace DRa := Lib.hid (DRa.out.alloc (.cells #[.int .i64 0, .int .i64 0] 23))
      generalize hcc : WD15.heap.size = cc at *
      clear hcc
      generalize WD15.alloc (.cells #[.int .i64 0, .int .i64 0] 23) = WA25 at *
      (refine wpAnyH_ready (rs := [1]) (by kernel_rfl) (by simp) ?_; refine AllReadyH.cons (o := _) rfl (fun K hK => ?_) AllReadyH.nil; (simp only [List.getElem_toArray, List.getElem_cons_zero, List.getElem_cons_succ, Region.wanted, if_true]))
      go_simp
      refine (toIntA6v ns _ hns).mono ?_
      rintro e wc26 ⟨rfl, bc26⟩
      dsimp only
      (try simp only [List.getElem_toArray, List.getElem_cons_zero, List.getElem_cons_succ, Act.put, List.setIfInBounds_toArray, List.set_cons_zero, List.set_cons_succ])
      refine hK.out _ _ ⟨hHeld.1.below bc26, hHeld.2.below bc26⟩ (fun hHeld => ?_)
      clear hK K
      replace DH1 := DH1.below bc26
      replace DH2 := DH2.below bc26
      replace DB := Lib.hid (DB.out.call bc26)
      replace DRa := Lib.hid (DRa.out.below bc26)
      replace Z := Z.below bc26
      clear bc26
      (refine wpAnyH_ready (rs := [3]) (by kernel_rfl) (by simp) ?_; refine AllReadyH.cons (o := _) rfl (fun K hK => ?_) AllReadyH.nil; (simp only [List.getElem_toArray, List.getElem_cons_zero, List.getElem_cons_succ, Region.wanted, if_true]))
      go_simp
      refine (toIntA6v ds _ hds).mono ?_
      rintro e wc27 ⟨rfl, bc27⟩
      dsimp only
      (try simp only [List.getElem_toArray, List.getElem_cons_zero, List.getElem_cons_succ, Act.put, List.setIfInBounds_toArray, List.set_cons_zero, List.set_cons_succ])
      refine hK.out _ _ ⟨hHeld.1.below bc27, hHeld.2.below bc27⟩ (fun hHeld => ?_)
      clear hK K
      replace DH1 := DH1.below bc27
      replace DH2 := DH2.below bc27
      replace DB := Lib.hid (DB.out.call bc27)
      replace DRa := Lib.hid (DRa.out.below bc27)
      replace Z := Z.below bc27
      clear bc27
      (refine wpAnyH_ready (rs := [6]) (by kernel_rfl) (by simp) ?_; refine AllReadyH.cons (o := _) rfl (fun K hK => ?_) AllReadyH.nil; (simp only [List.getElem_toArray, List.getElem_cons_zero, List.getElem_cons_succ, Region.wanted, if_true]))
      go_simp
      refine (KI.out _).mono ?_
      rintro e wc28 ⟨rfl, bc28⟩
      dsimp only
      (try simp only [List.getElem_toArray, List.getElem_cons_zero, List.getElem_cons_succ, Act.put, List.setIfInBounds_toArray, List.set_cons_zero, List.set_cons_succ])
      refine hK.out _ _ ⟨hHeld.1.below bc28, hHeld.2.below bc28⟩ (fun hHeld => ?_)
      clear hK K
      replace DH1 := DH1.below bc28
      replace DH2 := DH2.below bc28
      replace DB := Lib.hid (DB.out.call bc28)
      replace DRa := Lib.hid (DRa.out.below bc28)
      replace Z := Z.below bc28
      clear bc28
      (refine wpAnyH_take (i := 7) (v := ?_) rfl (by kernel_rfl) (by kernel_rfl) (by kernel_rfl) (fun _ _ _ h => h) (Or.inl ⟨by rfl, ?_⟩) hHeld ?_; rotate_left; (· (intro w' hSw; go_simp; try with_reducible rfl)); (try simp only [List.getElem_toArray, List.getElem_cons_zero, List.getElem_cons_succ, Act.put, List.setIfInBounds_toArray, List.set_cons_zero, List.set_cons_succ])); (refine wpAnyH_take (i := 8) (v := ?_) rfl (by kernel_rfl) (by kernel_rfl) (by kernel_rfl) (fun _ _ _ h => h) (Or.inl ⟨by rfl, ?_⟩) hHeld ?_; rotate_left; (· (intro w' hSw; go_simp; try with_reducible rfl)); (try simp only [List.getElem_toArray, List.getElem_cons_zero, List.getElem_cons_succ, Act.put, List.setIfInBounds_toArray, List.set_cons_zero, List.set_cons_succ])); (refine wpAnyH_take (i := 9) (v := ?_) rfl (by kernel_rfl) (by kernel_rfl) (by kernel_rfl) (fun _ _ _ h => h) (Or.inl ⟨by rfl, ?_⟩) hHeld ?_; rotate_left; (· (intro w' hSw; go_simp; try with_reducible rfl)); (try simp only [List.getElem_toArray, List.getElem_cons_zero, List.getElem_cons_succ, Act.put, List.setIfInBounds_toArray, List.set_cons_zero, List.set_cons_succ]))
      (refine wpAnyH_ready (rs := [11]) (by kernel_rfl) (by simp) ?_; refine AllReadyH.cons (o := _) rfl (fun K hK => ?_) AllReadyH.nil; (simp only [List.getElem_toArray, List.getElem_cons_zero, List.getElem_cons_succ, Region.wanted, if_true]); refine wp_store_mid _ _ _ rfl _ _ (ints RA).toArray rfl rfl (by simpa [l3] using Z.there) (by simpa [l3] using hi3) (all_oneCell_toArray (ints_one _)) ?_; (try simp only [List.getElem_toArray, List.getElem_cons_zero, List.getElem_cons_succ, Act.put, List.setIfInBounds_toArray, List.set_cons_zero, List.set_cons_succ, List.toList_toArray]); refine hK.out _ _ (⟨hHeld.1.putOther _ _ (by omega), hHeld.2.putOther _ _ (by omega)⟩) (fun hHeld => ?_); clear hK K)
      (refine wpAnyH_take (i := 12) (v := ?_) rfl (by kernel_rfl) (by kernel_rfl) (by kernel_rfl) (fun _ _ _ h => h) (Or.inl ⟨by rfl, ?_⟩) hHeld ?_; rotate_left; (· (intro w' hSw; go_simp; try with_reducible rfl)); (try simp only [List.getElem_toArray, List.getElem_cons_zero, List.getElem_cons_succ, Act.put, List.setIfInBounds_toArray, List.set_cons_zero, List.set_cons_succ]))
      refine wpAnyH_done (by kernel_rfl) ?_ _
      have R := Z.putAll RA hl
      replace DH1 := DH1.putOther (b' := cc) 0 (ints RA) (by omega)
      replace DH2 := DH2.putOther (b' := cc) 0 (ints RA) (by omega)
      replace DRa := Lib.hid (DRa.out.putOther (b' := cc) 0 (ints RA) (by omega))
      replace DB := Lib.hid (DB.out.puts (b := cc) (by omega) 0 (ints RA))
      clear hHeld Z
      go_wp2_with fail
      go_meet
      case rel => exact ⟨cc, rfl, rfl, DH1, DH2, Lib.hid R, DRa, DB⟩
  clear HB H1 H2 Ra
  obtain ⟨cb, rfl, rfl, H1, H2, Rb, Ra, HB⟩ := hcut
  clear H1 H2 KS KI
  have Ra := Ra.out
  have Rb := Rb.out
  go_wp2_with (first | (refine load_has rfl 23 _ rfl cb rfl RA 2 Rb _ Try.underlying23 rfl (by kernel_rfl) ?_) | (refine load_has rfl 23 _ rfl ca rfl RA 2 Ra _ Try.underlying23 rfl (by kernel_rfl) ?_))
  refine (eqIntA2v RA _ hl).mono ?_
  rintro e w9 ⟨rfl, b9⟩
  replace HB := Lib.hid (HB.out.call b9)
  clear Ra Rb b9
  go_wp2_with fail
  go_ret
  exact ⟨rfl, HB.out⟩

set_option maxHeartbeats 3200000 in
set_option maxRecDepth 100000 in
theorem lawDealAlike (ns ds : List Int) (i : Int) (j : Int) (w : World) (fns : ns.length = 6 ∧ ∀ n ∈ ns, (Lit.int .i64 n).wf = true) (fds : ds.length = 6 ∧ ∀ n ∈ ds, (Lit.int .i64 n).wf = true) (fi : (Lit.int .i64 i).wf = true) (fj : (Lit.int .i64 j).wf = true) :
    Calls Try.prog 6 #[row ns, row ds, .int .i64 i, .int .i64 j] w fun e w' => e = .returned (.bool true) ∧ Kept w w' := by
  have hns := fns.1
  have hds := fds.1
  clear fns fds fi fj
  have hl : (alA ns ds i j).length = 2 := alA_len ns ds i j
  have HB := Lib.hid (((kept_refl w).alloc (.cells (ints ns).toArray 22)).alloc (.cells (ints ds).toArray 22))
  have H1 := (Has.box w 22 hns (by omega)).alloc (.cells (ints ds).toArray 22)
  have H2 := (Has.box (w.alloc (.cells (ints ns).toArray 22)) 22 hds (by omega)).at (size1 _ _)
  have hi1 : (Try.prog.info? 22).map (·.size) = some (ints ns).length := by rw [ints_len, hns]; kernel_rfl
  have hi2 : (Try.prog.info? 22).map (·.size) = some (ints ds).length := by rw [ints_len, hds]; kernel_rfl
  have hi3 : (Try.prog.info? 23).map (·.size) = some (ints (alA ns ds i j)).length := by rw [ints_len, hl]; kernel_rfl
  have l3 : (ints (alA ns ds i j)).length = 2 := by rw [ints_len]; exact hl
  have KS := Lib.hid (fun W => specDealAlike ns ds i j W hns hds)
  have KI := Lib.hid (fun W => implDealAlike ns ds i j W hns hds)
  generalize hR : alA ns ds i j = RA at *
  have HRA := Lib.hid hR
  clear hR HRA
  generalize alOk ns ds i j = OK0 at *
  rw [row_ints, row_ints]
  go_enter Try.func6, Try.ntmps6
  go_wp2_with fail
  go_cut [9, 10] from 13 to 22 (fun s9 s10 wx => ∃ c : Nat, s9 = .pointer (some ⟨c, 0, none⟩) ∧ s10 = .bool OK0 ∧ Has wx w.heap.size ns 6 ∧ Has wx (w.heap.size + 1) ds 6 ∧ Hid (Has wx c RA 2) ∧ Hid (Kept w wx))
  case first =>
    have DH1 := H1.drew
    have DH2 := H2.drew
    have DB := Lib.hid (keptDrew9 HB.out)
    clear H1 H2 HB
    refine wp_region_held_drew (S := fun w' => Has w' w.heap.size ns 6 ∧ Has w' (w.heap.size + 1) ds 6) (by kernel_rfl) ⟨DH1, DH2⟩ (fun hHeld => ?_)
    generalize hWD : World.drew _ = WD1 at *
    clear hWD
    (refine wpAnyH_take (i := 0) (v := _) rfl (by kernel_rfl) (by kernel_rfl) (by kernel_rfl) (fun _ _ _ h => h) (yieldsIf_load_mid (by rfl) 22 _ rfl _ _ rfl (ints ns) _ (fun w' hSw => hSw.1.holds.range) Try.underlying22 rfl (hi1)) hHeld ?_; (try simp only [List.getElem_toArray, List.getElem_cons_zero, List.getElem_cons_succ, Act.put, List.setIfInBounds_toArray, List.set_cons_zero, List.set_cons_succ]))
    (refine wpAnyH_take (i := 2) (v := _) rfl (by kernel_rfl) (by kernel_rfl) (by kernel_rfl) (fun _ _ _ h => h) (yieldsIf_load_mid (by rfl) 22 _ rfl _ _ rfl (ints ds) _ (fun w' hSw => hSw.2.holds.range) Try.underlying22 rfl (hi2)) hHeld ?_; (try simp only [List.getElem_toArray, List.getElem_cons_zero, List.getElem_cons_succ, Act.put, List.setIfInBounds_toArray, List.set_cons_zero, List.set_cons_succ]))
    (refine wpAnyH_take (i := 4) (v := ?_) rfl (by kernel_rfl) (by kernel_rfl) (by kernel_rfl) (fun _ _ _ h => h) (Or.inl ⟨by rfl, ?_⟩) hHeld ?_; rotate_left; (· (intro w' hSw; go_simp; try with_reducible rfl)); (try simp only [List.getElem_toArray, List.getElem_cons_zero, List.getElem_cons_succ, Act.put, List.setIfInBounds_toArray, List.set_cons_zero, List.set_cons_succ]))
    (refine wpAnyH_take (i := 5) (v := ?_) rfl (by kernel_rfl) (by kernel_rfl) (by kernel_rfl) (fun _ _ _ h => h) (Or.inl ⟨by rfl, ?_⟩) hHeld ?_; rotate_left; (· (intro w' hSw; go_simp; try with_reducible rfl)); (try simp only [List.getElem_toArray, List.getElem_cons_zero, List.getElem_cons_succ, Act.put, List.setIfInBounds_toArray, List.set_cons_zero, List.set_cons_succ]))
    refine wpAnyH_ready (rs := [1, 10]) (by kernel_rfl) (by simp) ?_
    refine AllReadyH.cons (o := _) rfl (fun K hK => ?_) (AllReadyH.cons (o := _) rfl (fun K hK => ?_) AllReadyH.nil)
    · (simp only [List.getElem_toArray, List.getElem_cons_zero, List.getElem_cons_succ, Region.wanted, if_true])
      go_simp
      refine (toIntA6v ns _ hns).mono ?_
      rintro e wc2 ⟨rfl, bc2⟩
      dsimp only
      (try simp only [List.getElem_toArray, List.getElem_cons_zero, List.getElem_cons_succ, Act.put, List.setIfInBounds_toArray, List.set_cons_zero, List.set_cons_succ])
      refine hK.out _ _ ⟨hHeld.1.below bc2, hHeld.2.below bc2⟩ (fun hHeld => ?_)
      clear hK K
      replace DH1 := DH1.below bc2
      replace DH2 := DH2.below bc2
      replace DB := Lib.hid (DB.out.call bc2)
      clear bc2
      refine wpAnyH_ready (rs := [3, 10]) (by kernel_rfl) (by simp) ?_
      refine AllReadyH.cons (o := _) rfl (fun K hK => ?_) (AllReadyH.cons (o := _) rfl (fun K hK => ?_) AllReadyH.nil)
      · (simp only [List.getElem_toArray, List.getElem_cons_zero, List.getElem_cons_succ, Region.wanted, if_true])
        go_simp
        refine (toIntA6v ds _ hds).mono ?_
        rintro e wc3 ⟨rfl, bc3⟩
        dsimp only
        (try simp only [List.getElem_toArray, List.getElem_cons_zero, List.getElem_cons_succ, Act.put, List.setIfInBounds_toArray, List.set_cons_zero, List.set_cons_succ])
        refine hK.out _ _ ⟨hHeld.1.below bc3, hHeld.2.below bc3⟩ (fun hHeld => ?_)
        clear hK K
        replace DH1 := DH1.below bc3
        replace DH2 := DH2.below bc3
        replace DB := Lib.hid (DB.out.call bc3)
        clear bc3
        refine wpAnyH_ready (rs := [6, 10]) (by kernel_rfl) (by simp) ?_
        refine AllReadyH.cons (o := _) rfl (fun K hK => ?_) (AllReadyH.cons (o := _) rfl (fun K hK => ?_) AllReadyH.nil)
        · (simp only [List.getElem_toArray, List.getElem_cons_zero, List.getElem_cons_succ, Region.wanted, if_true])
          go_simp
          refine (KS.out _).mono ?_
          rintro e wc4 ⟨rfl, bc4⟩
          dsimp only
          (try simp only [List.getElem_toArray, List.getElem_cons_zero, List.getElem_cons_succ, Act.put, List.setIfInBounds_toArray, List.set_cons_zero, List.set_cons_succ])
          refine hK.out _ _ ⟨hHeld.1.below bc4, hHeld.2.below bc4⟩ (fun hHeld => ?_)
          clear hK K
          replace DH1 := DH1.below bc4
          replace DH2 := DH2.below bc4
          replace DB := Lib.hid (DB.out.call bc4)
          clear bc4
          (refine wpAnyH_take (i := 7) (v := ?_) rfl (by kernel_rfl) (by kernel_rfl) (by kernel_rfl) (fun _ _ _ h => h) (Or.inl ⟨by rfl, ?_⟩) hHeld ?_; rotate_left; (· (intro w' hSw; go_simp; try with_reducible rfl)); (try simp only [List.getElem_toArray, List.getElem_cons_zero, List.getElem_cons_succ, Act.put, List.setIfInBounds_toArray, List.set_cons_zero, List.set_cons_succ])); (refine wpAnyH_take (i := 8) (v := ?_) rfl (by kernel_rfl) (by kernel_rfl) (by kernel_rfl) (fun _ _ _ h => h) (Or.inl ⟨by rfl, ?_⟩) hHeld ?_; rotate_left; (· (intro w' hSw; go_simp; try with_reducible rfl)); (try simp only [List.getElem_toArray, List.getElem_cons_zero, List.getElem_cons_succ, Act.put, List.setIfInBounds_toArray, List.set_cons_zero, List.set_cons_succ])); (refine wpAnyH_take (i := 9) (v := ?_) rfl (by kernel_rfl) (by kernel_rfl) (by kernel_rfl) (fun _ _ _ h => h) (Or.inl ⟨by rfl, ?_⟩) hHeld ?_; rotate_left; (· (intro w' hSw; go_simp; try with_reducible rfl)); (try simp only [List.getElem_toArray, List.getElem_cons_zero, List.getElem_cons_succ, Act.put, List.setIfInBounds_toArray, List.set_cons_zero, List.set_cons_succ]))
          (refine wpAnyH_ready (rs := [10]) (by kernel_rfl) (by simp) ?_; refine AllReadyH.cons (o := _) rfl (fun K hK => ?_) AllReadyH.nil; (simp only [List.getElem_toArray, List.getElem_cons_zero, List.getElem_cons_succ, Region.wanted, if_true]))
          go_simp
          refine hK.out _ _ ⟨hHeld.1.alloc _, hHeld.2.alloc _⟩ (fun hHeld => ?_)
          clear hK K
          have ltH1 := DH1.lt
          have ltH2 := DH2.lt
          have ltB := DB.out.size
          have Z : Has (wc4.alloc (.cells #[.int .i64 0, .int .i64 0] 23)) wc4.heap.size z2 2 := Has.box (ns := z2) wc4 23 rfl (by omega)
          replace DH1 := DH1.alloc (.cells #[.int .i64 0, .int .i64 0] 23)
          replace DH2 := DH2.alloc (.cells #[.int .i64 0, .int .i64 0] 23)
          replace DB := Lib.hid (DB.out.alloc (.cells #[.int .i64 0, .int .i64 0] 23))
          generalize hcc : wc4.heap.size = cc at *
          clear hcc
          generalize wc4.alloc (.cells #[.int .i64 0, .int .i64 0] 23) = WA5 at *
          (refine wpAnyH_ready (rs := [11]) (by kernel_rfl) (by simp) ?_; refine AllReadyH.cons (o := _) rfl (fun K hK => ?_) AllReadyH.nil; (simp only [List.getElem_toArray, List.getElem_cons_zero, List.getElem_cons_succ, Region.wanted, if_true]); refine wp_store_mid _ _ _ rfl _ _ (ints RA).toArray rfl rfl (by simpa [l3] using Z.there) (by simpa [l3] using hi3) (all_oneCell_toArray (ints_one _)) ?_; (try simp only [List.getElem_toArray, List.getElem_cons_zero, List.getElem_cons_succ, Act.put, List.setIfInBounds_toArray, List.set_cons_zero, List.set_cons_succ, List.toList_toArray]); refine hK.out _ _ (⟨hHeld.1.putOther _ _ (by omega), hHeld.2.putOther _ _ (by omega)⟩) (fun hHeld => ?_); clear hK K)
          (refine wpAnyH_take (i := 12) (v := ?_) rfl (by kernel_rfl) (by kernel_rfl) (by kernel_rfl) (fun _ _ _ h => h) (Or.inl ⟨by rfl, ?_⟩) hHeld ?_; rotate_left; (· (intro w' hSw; go_simp; try with_reducible rfl)); (try simp only [List.getElem_toArray, List.getElem_cons_zero, List.getElem_cons_succ, Act.put, List.setIfInBounds_toArray, List.set_cons_zero, List.set_cons_succ]))
          refine wpAnyH_done (by kernel_rfl) ?_ _
          have R := Z.putAll RA hl
          replace DH1 := DH1.putOther (b' := cc) 0 (ints RA) (by omega)
          replace DH2 := DH2.putOther (b' := cc) 0 (ints RA) (by omega)
          replace DB := Lib.hid (DB.out.puts (b := cc) (by omega) 0 (ints RA))
          clear hHeld Z
          go_wp2_with fail
          go_meet
          case rel => exact ⟨cc, rfl, rfl, DH1, DH2, Lib.hid R, DB⟩
        · (simp only [List.getElem_toArray, List.getElem_cons_zero, List.getElem_cons_succ, Region.wanted, if_true])
          go_simp
          refine hK.out _ _ ⟨hHeld.1.alloc _, hHeld.2.alloc _⟩ (fun hHeld => ?_)
          clear hK K
          have ltH1 := DH1.lt
          have ltH2 := DH2.lt
          have ltB := DB.out.size
          have Z : Has (wc3.alloc (.cells #[.int .i64 0, .int .i64 0] 23)) wc3.heap.size z2 2 := Has.box (ns := z2) wc3 23 rfl (by omega)
          replace DH1 := DH1.alloc (.cells #[.int .i64 0, .int .i64 0] 23)
          replace DH2 := DH2.alloc (.cells #[.int .i64 0, .int .i64 0] 23)
          replace DB := Lib.hid (DB.out.alloc (.cells #[.int .i64 0, .int .i64 0] 23))
          generalize hcc : wc3.heap.size = cc at *
          clear hcc
          generalize wc3.alloc (.cells #[.int .i64 0, .int .i64 0] 23) = WA6 at *
          (refine wpAnyH_ready (rs := [6]) (by kernel_rfl) (by simp) ?_; refine AllReadyH.cons (o := _) rfl (fun K hK => ?_) AllReadyH.nil; (simp only [List.getElem_toArray, List.getElem_cons_zero, List.getElem_cons_succ, Region.wanted, if_true]))
          go_simp
          refine (KS.out _).mono ?_
          rintro e wc7 ⟨rfl, bc7⟩
          dsimp only
          (try simp only [List.getElem_toArray, List.getElem_cons_zero, List.getElem_cons_succ, Act.put, List.setIfInBounds_toArray, List.set_cons_zero, List.set_cons_succ])
          refine hK.out _ _ ⟨hHeld.1.below bc7, hHeld.2.below bc7⟩ (fun hHeld => ?_)
          clear hK K
          replace DH1 := DH1.below bc7
          replace DH2 := DH2.below bc7
          replace DB := Lib.hid (DB.out.call bc7)
          replace Z := Z.below bc7
          clear bc7
          (refine wpAnyH_take (i := 7) (v := ?_) rfl (by kernel_rfl) (by kernel_rfl) (by kernel_rfl) (fun _ _ _ h => h) (Or.inl ⟨by rfl, ?_⟩) hHeld ?_; rotate_left; (· (intro w' hSw; go_simp; try with_reducible rfl)); (try simp only [List.getElem_toArray, List.getElem_cons_zero, List.getElem_cons_succ, Act.put, List.setIfInBounds_toArray, List.set_cons_zero, List.set_cons_succ])); (refine wpAnyH_take (i := 8) (v := ?_) rfl (by kernel_rfl) (by kernel_rfl) (by kernel_rfl) (fun _ _ _ h => h) (Or.inl ⟨by rfl, ?_⟩) hHeld ?_; rotate_left; (· (intro w' hSw; go_simp; try with_reducible rfl)); (try simp only [List.getElem_toArray, List.getElem_cons_zero, List.getElem_cons_succ, Act.put, List.setIfInBounds_toArray, List.set_cons_zero, List.set_cons_succ])); (refine wpAnyH_take (i := 9) (v := ?_) rfl (by kernel_rfl) (by kernel_rfl) (by kernel_rfl) (fun _ _ _ h => h) (Or.inl ⟨by rfl, ?_⟩) hHeld ?_; rotate_left; (· (intro w' hSw; go_simp; try with_reducible rfl)); (try simp only [List.getElem_toArray, List.getElem_cons_zero, List.getElem_cons_succ, Act.put, List.setIfInBounds_toArray, List.set_cons_zero, List.set_cons_succ]))
          (refine wpAnyH_ready (rs := [11]) (by kernel_rfl) (by simp) ?_; refine AllReadyH.cons (o := _) rfl (fun K hK => ?_) AllReadyH.nil; (simp only [List.getElem_toArray, List.getElem_cons_zero, List.getElem_cons_succ, Region.wanted, if_true]); refine wp_store_mid _ _ _ rfl _ _ (ints RA).toArray rfl rfl (by simpa [l3] using Z.there) (by simpa [l3] using hi3) (all_oneCell_toArray (ints_one _)) ?_; (try simp only [List.getElem_toArray, List.getElem_cons_zero, List.getElem_cons_succ, Act.put, List.setIfInBounds_toArray, List.set_cons_zero, List.set_cons_succ, List.toList_toArray]); refine hK.out _ _ (⟨hHeld.1.putOther _ _ (by omega), hHeld.2.putOther _ _ (by omega)⟩) (fun hHeld => ?_); clear hK K)
          (refine wpAnyH_take (i := 12) (v := ?_) rfl (by kernel_rfl) (by kernel_rfl) (by kernel_rfl) (fun _ _ _ h => h) (Or.inl ⟨by rfl, ?_⟩) hHeld ?_; rotate_left; (· (intro w' hSw; go_simp; try with_reducible rfl)); (try simp only [List.getElem_toArray, List.getElem_cons_zero, List.getElem_cons_succ, Act.put, List.setIfInBounds_toArray, List.set_cons_zero, List.set_cons_succ]))
          refine wpAnyH_done (by kernel_rfl) ?_ _
          have R := Z.putAll RA hl
          replace DH1 := DH1.putOther (b' := cc) 0 (ints RA) (by omega)
          replace DH2 := DH2.putOther (b' := cc) 0 (ints RA) (by omega)
          replace DB := Lib.hid (DB.out.puts (b := cc) (by omega) 0 (ints RA))
          clear hHeld Z
          go_wp2_with fail
          go_meet
          case rel => exact ⟨cc, rfl, rfl, DH1, DH2, Lib.hid R, DB⟩
      · (simp only [List.getElem_toArray, List.getElem_cons_zero, List.getElem_cons_succ, Region.wanted, if_true])
        go_simp
        refine hK.out _ _ ⟨hHeld.1.alloc _, hHeld.2.alloc _⟩ (fun hHeld => ?_)
        clear hK K
        have ltH1 := DH1.lt
        have ltH2 := DH2.lt
        have ltB := DB.out.size
        have Z : Has (wc2.alloc (.cells #[.int .i64 0, .int .i64 0] 23)) wc2.heap.size z2 2 := Has.box (ns := z2) wc2 23 rfl (by omega)
        replace DH1 := DH1.alloc (.cells #[.int .i64 0, .int .i64 0] 23)
        replace DH2 := DH2.alloc (.cells #[.int .i64 0, .int .i64 0] 23)
        replace DB := Lib.hid (DB.out.alloc (.cells #[.int .i64 0, .int .i64 0] 23))
        generalize hcc : wc2.heap.size = cc at *
        clear hcc
        generalize wc2.alloc (.cells #[.int .i64 0, .int .i64 0] 23) = WA8 at *
        (refine wpAnyH_ready (rs := [3]) (by kernel_rfl) (by simp) ?_; refine AllReadyH.cons (o := _) rfl (fun K hK => ?_) AllReadyH.nil; (simp only [List.getElem_toArray, List.getElem_cons_zero, List.getElem_cons_succ, Region.wanted, if_true]))
        go_simp
        refine (toIntA6v ds _ hds).mono ?_
        rintro e wc9 ⟨rfl, bc9⟩
        dsimp only
        (try simp only [List.getElem_toArray, List.getElem_cons_zero, List.getElem_cons_succ, Act.put, List.setIfInBounds_toArray, List.set_cons_zero, List.set_cons_succ])
        refine hK.out _ _ ⟨hHeld.1.below bc9, hHeld.2.below bc9⟩ (fun hHeld => ?_)
        clear hK K
        replace DH1 := DH1.below bc9
        replace DH2 := DH2.below bc9
        replace DB := Lib.hid (DB.out.call bc9)
        replace Z := Z.below bc9
        clear bc9
        (refine wpAnyH_ready (rs := [6]) (by kernel_rfl) (by simp) ?_; refine AllReadyH.cons (o := _) rfl (fun K hK => ?_) AllReadyH.nil; (simp only [List.getElem_toArray, List.getElem_cons_zero, List.getElem_cons_succ, Region.wanted, if_true]))
        go_simp
        refine (KS.out _).mono ?_
        rintro e wc10 ⟨rfl, bc10⟩
        dsimp only
        (try simp only [List.getElem_toArray, List.getElem_cons_zero, List.getElem_cons_succ, Act.put, List.setIfInBounds_toArray, List.set_cons_zero, List.set_cons_succ])
        refine hK.out _ _ ⟨hHeld.1.below bc10, hHeld.2.below bc10⟩ (fun hHeld => ?_)
        clear hK K
        replace DH1 := DH1.below bc10
        replace DH2 := DH2.below bc10
        replace DB := Lib.hid (DB.out.call bc10)
        replace Z := Z.below bc10
        clear bc10
        (refine wpAnyH_take (i := 7) (v := ?_) rfl (by kernel_rfl) (by kernel_rfl) (by kernel_rfl) (fun _ _ _ h => h) (Or.inl ⟨by rfl, ?_⟩) hHeld ?_; rotate_left; (· (intro w' hSw; go_simp; try with_reducible rfl)); (try simp only [List.getElem_toArray, List.getElem_cons_zero, List.getElem_cons_succ, Act.put, List.setIfInBounds_toArray, List.set_cons_zero, List.set_cons_succ])); (refine wpAnyH_take (i := 8) (v := ?_) rfl (by kernel_rfl) (by kernel_rfl) (by kernel_rfl) (fun _ _ _ h => h) (Or.inl ⟨by rfl, ?_⟩) hHeld ?_; rotate_left; (· (intro w' hSw; go_simp; try with_reducible rfl)); (try simp only [List.getElem_toArray, List.getElem_cons_zero, List.getElem_cons_succ, Act.put, List.setIfInBounds_toArray, List.set_cons_zero, List.set_cons_succ])); (refine wpAnyH_take (i := 9) (v := ?_) rfl (by kernel_rfl) (by kernel_rfl) (by kernel_rfl) (fun _ _ _ h => h) (Or.inl ⟨by rfl, ?_⟩) hHeld ?_; rotate_left; (· (intro w' hSw; go_simp; try with_reducible rfl)); (try simp only [List.getElem_toArray, List.getElem_cons_zero, List.getElem_cons_succ, Act.put, List.setIfInBounds_toArray, List.set_cons_zero, List.set_cons_succ]))
        (refine wpAnyH_ready (rs := [11]) (by kernel_rfl) (by simp) ?_; refine AllReadyH.cons (o := _) rfl (fun K hK => ?_) AllReadyH.nil; (simp only [List.getElem_toArray, List.getElem_cons_zero, List.getElem_cons_succ, Region.wanted, if_true]); refine wp_store_mid _ _ _ rfl _ _ (ints RA).toArray rfl rfl (by simpa [l3] using Z.there) (by simpa [l3] using hi3) (all_oneCell_toArray (ints_one _)) ?_; (try simp only [List.getElem_toArray, List.getElem_cons_zero, List.getElem_cons_succ, Act.put, List.setIfInBounds_toArray, List.set_cons_zero, List.set_cons_succ, List.toList_toArray]); refine hK.out _ _ (⟨hHeld.1.putOther _ _ (by omega), hHeld.2.putOther _ _ (by omega)⟩) (fun hHeld => ?_); clear hK K)
        (refine wpAnyH_take (i := 12) (v := ?_) rfl (by kernel_rfl) (by kernel_rfl) (by kernel_rfl) (fun _ _ _ h => h) (Or.inl ⟨by rfl, ?_⟩) hHeld ?_; rotate_left; (· (intro w' hSw; go_simp; try with_reducible rfl)); (try simp only [List.getElem_toArray, List.getElem_cons_zero, List.getElem_cons_succ, Act.put, List.setIfInBounds_toArray, List.set_cons_zero, List.set_cons_succ]))
        refine wpAnyH_done (by kernel_rfl) ?_ _
        have R := Z.putAll RA hl
        replace DH1 := DH1.putOther (b' := cc) 0 (ints RA) (by omega)
        replace DH2 := DH2.putOther (b' := cc) 0 (ints RA) (by omega)
        replace DB := Lib.hid (DB.out.puts (b := cc) (by omega) 0 (ints RA))
        clear hHeld Z
        go_wp2_with fail
        go_meet
        case rel => exact ⟨cc, rfl, rfl, DH1, DH2, Lib.hid R, DB⟩
    · (simp only [List.getElem_toArray, List.getElem_cons_zero, List.getElem_cons_succ, Region.wanted, if_true])
      go_simp
      refine hK.out _ _ ⟨hHeld.1.alloc _, hHeld.2.alloc _⟩ (fun hHeld => ?_)
      clear hK K
      have ltH1 := DH1.lt
      have ltH2 := DH2.lt
      have ltB := DB.out.size
      have Z : Has (WD1.alloc (.cells #[.int .i64 0, .int .i64 0] 23)) WD1.heap.size z2 2 := Has.box (ns := z2) WD1 23 rfl (by omega)
      replace DH1 := DH1.alloc (.cells #[.int .i64 0, .int .i64 0] 23)
      replace DH2 := DH2.alloc (.cells #[.int .i64 0, .int .i64 0] 23)
      replace DB := Lib.hid (DB.out.alloc (.cells #[.int .i64 0, .int .i64 0] 23))
      generalize hcc : WD1.heap.size = cc at *
      clear hcc
      generalize WD1.alloc (.cells #[.int .i64 0, .int .i64 0] 23) = WA11 at *
      (refine wpAnyH_ready (rs := [1]) (by kernel_rfl) (by simp) ?_; refine AllReadyH.cons (o := _) rfl (fun K hK => ?_) AllReadyH.nil; (simp only [List.getElem_toArray, List.getElem_cons_zero, List.getElem_cons_succ, Region.wanted, if_true]))
      go_simp
      refine (toIntA6v ns _ hns).mono ?_
      rintro e wc12 ⟨rfl, bc12⟩
      dsimp only
      (try simp only [List.getElem_toArray, List.getElem_cons_zero, List.getElem_cons_succ, Act.put, List.setIfInBounds_toArray, List.set_cons_zero, List.set_cons_succ])
      refine hK.out _ _ ⟨hHeld.1.below bc12, hHeld.2.below bc12⟩ (fun hHeld => ?_)
      clear hK K
      replace DH1 := DH1.below bc12
      replace DH2 := DH2.below bc12
      replace DB := Lib.hid (DB.out.call bc12)
      replace Z := Z.below bc12
      clear bc12
      (refine wpAnyH_ready (rs := [3]) (by kernel_rfl) (by simp) ?_; refine AllReadyH.cons (o := _) rfl (fun K hK => ?_) AllReadyH.nil; (simp only [List.getElem_toArray, List.getElem_cons_zero, List.getElem_cons_succ, Region.wanted, if_true]))
      go_simp
      refine (toIntA6v ds _ hds).mono ?_
      rintro e wc13 ⟨rfl, bc13⟩
      dsimp only
      (try simp only [List.getElem_toArray, List.getElem_cons_zero, List.getElem_cons_succ, Act.put, List.setIfInBounds_toArray, List.set_cons_zero, List.set_cons_succ])
      refine hK.out _ _ ⟨hHeld.1.below bc13, hHeld.2.below bc13⟩ (fun hHeld => ?_)
      clear hK K
      replace DH1 := DH1.below bc13
      replace DH2 := DH2.below bc13
      replace DB := Lib.hid (DB.out.call bc13)
      replace Z := Z.below bc13
      clear bc13
      (refine wpAnyH_ready (rs := [6]) (by kernel_rfl) (by simp) ?_; refine AllReadyH.cons (o := _) rfl (fun K hK => ?_) AllReadyH.nil; (simp only [List.getElem_toArray, List.getElem_cons_zero, List.getElem_cons_succ, Region.wanted, if_true]))
      go_simp
      refine (KS.out _).mono ?_
      rintro e wc14 ⟨rfl, bc14⟩
      dsimp only
      (try simp only [List.getElem_toArray, List.getElem_cons_zero, List.getElem_cons_succ, Act.put, List.setIfInBounds_toArray, List.set_cons_zero, List.set_cons_succ])
      refine hK.out _ _ ⟨hHeld.1.below bc14, hHeld.2.below bc14⟩ (fun hHeld => ?_)
      clear hK K
      replace DH1 := DH1.below bc14
      replace DH2 := DH2.below bc14
      replace DB := Lib.hid (DB.out.call bc14)
      replace Z := Z.below bc14
      clear bc14
      (refine wpAnyH_take (i := 7) (v := ?_) rfl (by kernel_rfl) (by kernel_rfl) (by kernel_rfl) (fun _ _ _ h => h) (Or.inl ⟨by rfl, ?_⟩) hHeld ?_; rotate_left; (· (intro w' hSw; go_simp; try with_reducible rfl)); (try simp only [List.getElem_toArray, List.getElem_cons_zero, List.getElem_cons_succ, Act.put, List.setIfInBounds_toArray, List.set_cons_zero, List.set_cons_succ])); (refine wpAnyH_take (i := 8) (v := ?_) rfl (by kernel_rfl) (by kernel_rfl) (by kernel_rfl) (fun _ _ _ h => h) (Or.inl ⟨by rfl, ?_⟩) hHeld ?_; rotate_left; (· (intro w' hSw; go_simp; try with_reducible rfl)); (try simp only [List.getElem_toArray, List.getElem_cons_zero, List.getElem_cons_succ, Act.put, List.setIfInBounds_toArray, List.set_cons_zero, List.set_cons_succ])); (refine wpAnyH_take (i := 9) (v := ?_) rfl (by kernel_rfl) (by kernel_rfl) (by kernel_rfl) (fun _ _ _ h => h) (Or.inl ⟨by rfl, ?_⟩) hHeld ?_; rotate_left; (· (intro w' hSw; go_simp; try with_reducible rfl)); (try simp only [List.getElem_toArray, List.getElem_cons_zero, List.getElem_cons_succ, Act.put, List.setIfInBounds_toArray, List.set_cons_zero, List.set_cons_succ]))
      (refine wpAnyH_ready (rs := [11]) (by kernel_rfl) (by simp) ?_; refine AllReadyH.cons (o := _) rfl (fun K hK => ?_) AllReadyH.nil; (simp only [List.getElem_toArray, List.getElem_cons_zero, List.getElem_cons_succ, Region.wanted, if_true]); refine wp_store_mid _ _ _ rfl _ _ (ints RA).toArray rfl rfl (by simpa [l3] using Z.there) (by simpa [l3] using hi3) (all_oneCell_toArray (ints_one _)) ?_; (try simp only [List.getElem_toArray, List.getElem_cons_zero, List.getElem_cons_succ, Act.put, List.setIfInBounds_toArray, List.set_cons_zero, List.set_cons_succ, List.toList_toArray]); refine hK.out _ _ (⟨hHeld.1.putOther _ _ (by omega), hHeld.2.putOther _ _ (by omega)⟩) (fun hHeld => ?_); clear hK K)
      (refine wpAnyH_take (i := 12) (v := ?_) rfl (by kernel_rfl) (by kernel_rfl) (by kernel_rfl) (fun _ _ _ h => h) (Or.inl ⟨by rfl, ?_⟩) hHeld ?_; rotate_left; (· (intro w' hSw; go_simp; try with_reducible rfl)); (try simp only [List.getElem_toArray, List.getElem_cons_zero, List.getElem_cons_succ, Act.put, List.setIfInBounds_toArray, List.set_cons_zero, List.set_cons_succ]))
      refine wpAnyH_done (by kernel_rfl) ?_ _
      have R := Z.putAll RA hl
      replace DH1 := DH1.putOther (b' := cc) 0 (ints RA) (by omega)
      replace DH2 := DH2.putOther (b' := cc) 0 (ints RA) (by omega)
      replace DB := Lib.hid (DB.out.puts (b := cc) (by omega) 0 (ints RA))
      clear hHeld Z
      go_wp2_with fail
      go_meet
      case rel => exact ⟨cc, rfl, rfl, DH1, DH2, Lib.hid R, DB⟩
  clear HB H1 H2
  obtain ⟨ca, rfl, rfl, H1, H2, Ra, HB⟩ := hcut
  go_wp2_with fail
  go_cut [11, 12] from 23 to 32 (fun s11 s12 wx => ∃ c : Nat, s11 = .pointer (some ⟨c, 0, none⟩) ∧ s12 = .bool OK0 ∧ Has wx w.heap.size ns 6 ∧ Has wx (w.heap.size + 1) ds 6 ∧ Hid (Has wx c RA 2) ∧ Hid (Has wx ca RA 2) ∧ Hid (Kept w wx))
  case first =>
    have DH1 := H1.drew
    have DH2 := H2.drew
    have DB := Lib.hid (keptDrew9 HB.out)
    clear H1 H2 HB
    have DRa := Lib.hid (Ra.out.drew)
    clear Ra
    refine wp_region_held_drew (S := fun w' => Has w' w.heap.size ns 6 ∧ Has w' (w.heap.size + 1) ds 6) (by kernel_rfl) ⟨DH1, DH2⟩ (fun hHeld => ?_)
    generalize hWD : World.drew _ = WD15 at *
    clear hWD
    (refine wpAnyH_take (i := 0) (v := _) rfl (by kernel_rfl) (by kernel_rfl) (by kernel_rfl) (fun _ _ _ h => h) (yieldsIf_load_mid (by rfl) 22 _ rfl _ _ rfl (ints ns) _ (fun w' hSw => hSw.1.holds.range) Try.underlying22 rfl (hi1)) hHeld ?_; (try simp only [List.getElem_toArray, List.getElem_cons_zero, List.getElem_cons_succ, Act.put, List.setIfInBounds_toArray, List.set_cons_zero, List.set_cons_succ]))
    (refine wpAnyH_take (i := 2) (v := _) rfl (by kernel_rfl) (by kernel_rfl) (by kernel_rfl) (fun _ _ _ h => h) (yieldsIf_load_mid (by rfl) 22 _ rfl _ _ rfl (ints ds) _ (fun w' hSw => hSw.2.holds.range) Try.underlying22 rfl (hi2)) hHeld ?_; (try simp only [List.getElem_toArray, List.getElem_cons_zero, List.getElem_cons_succ, Act.put, List.setIfInBounds_toArray, List.set_cons_zero, List.set_cons_succ]))
    (refine wpAnyH_take (i := 4) (v := ?_) rfl (by kernel_rfl) (by kernel_rfl) (by kernel_rfl) (fun _ _ _ h => h) (Or.inl ⟨by rfl, ?_⟩) hHeld ?_; rotate_left; (· (intro w' hSw; go_simp; try with_reducible rfl)); (try simp only [List.getElem_toArray, List.getElem_cons_zero, List.getElem_cons_succ, Act.put, List.setIfInBounds_toArray, List.set_cons_zero, List.set_cons_succ]))
    (refine wpAnyH_take (i := 5) (v := ?_) rfl (by kernel_rfl) (by kernel_rfl) (by kernel_rfl) (fun _ _ _ h => h) (Or.inl ⟨by rfl, ?_⟩) hHeld ?_; rotate_left; (· (intro w' hSw; go_simp; try with_reducible rfl)); (try simp only [List.getElem_toArray, List.getElem_cons_zero, List.getElem_cons_succ, Act.put, List.setIfInBounds_toArray, List.set_cons_zero, List.set_cons_succ]))
    refine wpAnyH_ready (rs := [1, 10]) (by kernel_rfl) (by simp) ?_
    refine AllReadyH.cons (o := _) rfl (fun K hK => ?_) (AllReadyH.cons (o := _) rfl (fun K hK => ?_) AllReadyH.nil)
    · (simp only [List.getElem_toArray, List.getElem_cons_zero, List.getElem_cons_succ, Region.wanted, if_true])
      go_simp
      refine (toIntA6v ns _ hns).mono ?_
      rintro e wc16 ⟨rfl, bc16⟩
      dsimp only
      (try simp only [List.getElem_toArray, List.getElem_cons_zero, List.getElem_cons_succ, Act.put, List.setIfInBounds_toArray, List.set_cons_zero, List.set_cons_succ])
      refine hK.out _ _ ⟨hHeld.1.below bc16, hHeld.2.below bc16⟩ (fun hHeld => ?_)
      clear hK K
      replace DH1 := DH1.below bc16
      replace DH2 := DH2.below bc16
      replace DB := Lib.hid (DB.out.call bc16)
      replace DRa := Lib.hid (DRa.out.below bc16)
      clear bc16
      refine wpAnyH_ready (rs := [3, 10]) (by kernel_rfl) (by simp) ?_
      refine AllReadyH.cons (o := _) rfl (fun K hK => ?_) (AllReadyH.cons (o := _) rfl (fun K hK => ?_) AllReadyH.nil)
      · (simp only [List.getElem_toArray, List.getElem_cons_zero, List.getElem_cons_succ, Region.wanted, if_true])
        go_simp
        refine (toIntA6v ds _ hds).mono ?_
        rintro e wc17 ⟨rfl, bc17⟩
        dsimp only
        (try simp only [List.getElem_toArray, List.getElem_cons_zero, List.getElem_cons_succ, Act.put, List.setIfInBounds_toArray, List.set_cons_zero, List.set_cons_succ])
        refine hK.out _ _ ⟨hHeld.1.below bc17, hHeld.2.below bc17⟩ (fun hHeld => ?_)
        clear hK K
        replace DH1 := DH1.below bc17
        replace DH2 := DH2.below bc17
        replace DB := Lib.hid (DB.out.call bc17)
        replace DRa := Lib.hid (DRa.out.below bc17)
        clear bc17
        refine wpAnyH_ready (rs := [6, 10]) (by kernel_rfl) (by simp) ?_
        refine AllReadyH.cons (o := _) rfl (fun K hK => ?_) (AllReadyH.cons (o := _) rfl (fun K hK => ?_) AllReadyH.nil)
        · (simp only [List.getElem_toArray, List.getElem_cons_zero, List.getElem_cons_succ, Region.wanted, if_true])
          go_simp
          refine (KI.out _).mono ?_
          rintro e wc18 ⟨rfl, bc18⟩
          dsimp only
          (try simp only [List.getElem_toArray, List.getElem_cons_zero, List.getElem_cons_succ, Act.put, List.setIfInBounds_toArray, List.set_cons_zero, List.set_cons_succ])
          refine hK.out _ _ ⟨hHeld.1.below bc18, hHeld.2.below bc18⟩ (fun hHeld => ?_)
          clear hK K
          replace DH1 := DH1.below bc18
          replace DH2 := DH2.below bc18
          replace DB := Lib.hid (DB.out.call bc18)
          replace DRa := Lib.hid (DRa.out.below bc18)
          clear bc18
          (refine wpAnyH_take (i := 7) (v := ?_) rfl (by kernel_rfl) (by kernel_rfl) (by kernel_rfl) (fun _ _ _ h => h) (Or.inl ⟨by rfl, ?_⟩) hHeld ?_; rotate_left; (· (intro w' hSw; go_simp; try with_reducible rfl)); (try simp only [List.getElem_toArray, List.getElem_cons_zero, List.getElem_cons_succ, Act.put, List.setIfInBounds_toArray, List.set_cons_zero, List.set_cons_succ])); (refine wpAnyH_take (i := 8) (v := ?_) rfl (by kernel_rfl) (by kernel_rfl) (by kernel_rfl) (fun _ _ _ h => h) (Or.inl ⟨by rfl, ?_⟩) hHeld ?_; rotate_left; (· (intro w' hSw; go_simp; try with_reducible rfl)); (try simp only [List.getElem_toArray, List.getElem_cons_zero, List.getElem_cons_succ, Act.put, List.setIfInBounds_toArray, List.set_cons_zero, List.set_cons_succ])); (refine wpAnyH_take (i := 9) (v := ?_) rfl (by kernel_rfl) (by kernel_rfl) (by kernel_rfl) (fun _ _ _ h => h) (Or.inl ⟨by rfl, ?_⟩) hHeld ?_; rotate_left; (· (intro w' hSw; go_simp; try with_reducible rfl)); (try simp only [List.getElem_toArray, List.getElem_cons_zero, List.getElem_cons_succ, Act.put, List.setIfInBounds_toArray, List.set_cons_zero, List.set_cons_succ]))
          (refine wpAnyH_ready (rs := [10]) (by kernel_rfl) (by simp) ?_; refine AllReadyH.cons (o := _) rfl (fun K hK => ?_) AllReadyH.nil; (simp only [List.getElem_toArray, List.getElem_cons_zero, List.getElem_cons_succ, Region.wanted, if_true]))
          go_simp
          refine hK.out _ _ ⟨hHeld.1.alloc _, hHeld.2.alloc _⟩ (fun hHeld => ?_)
          clear hK K
          have ltH1 := DH1.lt
          have ltH2 := DH2.lt
          have ltB := DB.out.size
          have ltRa := DRa.out.lt
          have Z : Has (wc18.alloc (.cells #[.int .i64 0, .int .i64 0] 23)) wc18.heap.size z2 2 := Has.box (ns := z2) wc18 23 rfl (by omega)
          replace DH1 := DH1.alloc (.cells #[.int .i64 0, .int .i64 0] 23)
          replace DH2 := DH2.alloc (.cells #[.int .i64 0, .int .i64 0] 23)
          replace DB := Lib.hid (DB.out.alloc (.cells #[.int .i64 0, .int .i64 0] 23))
          replace DRa := Lib.hid (DRa.out.alloc (.cells #[.int .i64 0, .int .i64 0] 23))
          generalize hcc : wc18.heap.size = cc at *
          clear hcc
          generalize wc18.alloc (.cells #[.int .i64 0, .int .i64 0] 23) = WA19 at *
          (refine wpAnyH_ready (rs := [11]) (by kernel_rfl) (by simp) ?_; refine AllReadyH.cons (o := _) rfl (fun K hK => ?_) AllReadyH.nil; (simp only [List.getElem_toArray, List.getElem_cons_zero, List.getElem_cons_succ, Region.wanted, if_true]); refine wp_store_mid _ _ _ rfl _ _ (ints RA).toArray rfl rfl (by simpa [l3] using Z.there) (by simpa [l3] using hi3) (all_oneCell_toArray (ints_one _)) ?_; (try simp only [List.getElem_toArray, List.getElem_cons_zero, List.getElem_cons_succ, Act.put, List.setIfInBounds_toArray, List.set_cons_zero, List.set_cons_succ, List.toList_toArray]); refine hK.out _ _ (⟨hHeld.1.putOther _ _ (by omega), hHeld.2.putOther _ _ (by omega)⟩) (fun hHeld => ?_); clear hK K)
          (refine wpAnyH_take (i := 12) (v := ?_) rfl (by kernel_rfl) (by kernel_rfl) (by kernel_rfl) (fun _ _ _ h => h) (Or.inl ⟨by rfl, ?_⟩) hHeld ?_; rotate_left; (· (intro w' hSw; go_simp; try with_reducible rfl)); (try simp only [List.getElem_toArray, List.getElem_cons_zero, List.getElem_cons_succ, Act.put, List.setIfInBounds_toArray, List.set_cons_zero, List.set_cons_succ]))
          refine wpAnyH_done (by kernel_rfl) ?_ _
          have R := Z.putAll RA hl
          replace DH1 := DH1.putOther (b' := cc) 0 (ints RA) (by omega)
          replace DH2 := DH2.putOther (b' := cc) 0 (ints RA) (by omega)
          replace DRa := Lib.hid (DRa.out.putOther (b' := cc) 0 (ints RA) (by omega))
          replace DB := Lib.hid (DB.out.puts (b := cc) (by omega) 0 (ints RA))
          clear hHeld Z
          go_wp2_with fail
          go_meet
          case rel => exact ⟨cc, rfl, rfl, DH1, DH2, Lib.hid R, DRa, DB⟩
        · (simp only [List.getElem_toArray, List.getElem_cons_zero, List.getElem_cons_succ, Region.wanted, if_true])
          go_simp
          refine hK.out _ _ ⟨hHeld.1.alloc _, hHeld.2.alloc _⟩ (fun hHeld => ?_)
          clear hK K
          have ltH1 := DH1.lt
          have ltH2 := DH2.lt
          have ltB := DB.out.size
          have ltRa := DRa.out.lt
          have Z : Has (wc17.alloc (.cells #[.int .i64 0, .int .i64 0] 23)) wc17.heap.size z2 2 := Has.box (ns := z2) wc17 23 rfl (by omega)
          replace DH1 := DH1.alloc (.cells #[.int .i64 0, .int .i64 0] 23)
          replace DH2 := DH2.alloc (.cells #[.int .i64 0, .int .i64 0] 23)
          replace DB := Lib.hid (DB.out.alloc (.cells #[.int .i64 0, .int .i64 0] 23))
          replace DRa := Lib.hid (DRa.out.alloc (.cells #[.int .i64 0, .int .i64 0] 23))
          generalize hcc : wc17.heap.size = cc at *
          clear hcc
          generalize wc17.alloc (.cells #[.int .i64 0, .int .i64 0] 23) = WA20 at *
          (refine wpAnyH_ready (rs := [6]) (by kernel_rfl) (by simp) ?_; refine AllReadyH.cons (o := _) rfl (fun K hK => ?_) AllReadyH.nil; (simp only [List.getElem_toArray, List.getElem_cons_zero, List.getElem_cons_succ, Region.wanted, if_true]))
          go_simp
          refine (KI.out _).mono ?_
          rintro e wc21 ⟨rfl, bc21⟩
          dsimp only
          (try simp only [List.getElem_toArray, List.getElem_cons_zero, List.getElem_cons_succ, Act.put, List.setIfInBounds_toArray, List.set_cons_zero, List.set_cons_succ])
          refine hK.out _ _ ⟨hHeld.1.below bc21, hHeld.2.below bc21⟩ (fun hHeld => ?_)
          clear hK K
          replace DH1 := DH1.below bc21
          replace DH2 := DH2.below bc21
          replace DB := Lib.hid (DB.out.call bc21)
          replace DRa := Lib.hid (DRa.out.below bc21)
          replace Z := Z.below bc21
          clear bc21
          (refine wpAnyH_take (i := 7) (v := ?_) rfl (by kernel_rfl) (by kernel_rfl) (by kernel_rfl) (fun _ _ _ h => h) (Or.inl ⟨by rfl, ?_⟩) hHeld ?_; rotate_left; (· (intro w' hSw; go_simp; try with_reducible rfl)); (try simp only [List.getElem_toArray, List.getElem_cons_zero, List.getElem_cons_succ, Act.put, List.setIfInBounds_toArray, List.set_cons_zero, List.set_cons_succ])); (refine wpAnyH_take (i := 8) (v := ?_) rfl (by kernel_rfl) (by kernel_rfl) (by kernel_rfl) (fun _ _ _ h => h) (Or.inl ⟨by rfl, ?_⟩) hHeld ?_; rotate_left; (· (intro w' hSw; go_simp; try with_reducible rfl)); (try simp only [List.getElem_toArray, List.getElem_cons_zero, List.getElem_cons_succ, Act.put, List.setIfInBounds_toArray, List.set_cons_zero, List.set_cons_succ])); (refine wpAnyH_take (i := 9) (v := ?_) rfl (by kernel_rfl) (by kernel_rfl) (by kernel_rfl) (fun _ _ _ h => h) (Or.inl ⟨by rfl, ?_⟩) hHeld ?_; rotate_left; (· (intro w' hSw; go_simp; try with_reducible rfl)); (try simp only [List.getElem_toArray, List.getElem_cons_zero, List.getElem_cons_succ, Act.put, List.setIfInBounds_toArray, List.set_cons_zero, List.set_cons_succ]))
          (refine wpAnyH_ready (rs := [11]) (by kernel_rfl) (by simp) ?_; refine AllReadyH.cons (o := _) rfl (fun K hK => ?_) AllReadyH.nil; (simp only [List.getElem_toArray, List.getElem_cons_zero, List.getElem_cons_succ, Region.wanted, if_true]); refine wp_store_mid _ _ _ rfl _ _ (ints RA).toArray rfl rfl (by simpa [l3] using Z.there) (by simpa [l3] using hi3) (all_oneCell_toArray (ints_one _)) ?_; (try simp only [List.getElem_toArray, List.getElem_cons_zero, List.getElem_cons_succ, Act.put, List.setIfInBounds_toArray, List.set_cons_zero, List.set_cons_succ, List.toList_toArray]); refine hK.out _ _ (⟨hHeld.1.putOther _ _ (by omega), hHeld.2.putOther _ _ (by omega)⟩) (fun hHeld => ?_); clear hK K)
          (refine wpAnyH_take (i := 12) (v := ?_) rfl (by kernel_rfl) (by kernel_rfl) (by kernel_rfl) (fun _ _ _ h => h) (Or.inl ⟨by rfl, ?_⟩) hHeld ?_; rotate_left; (· (intro w' hSw; go_simp; try with_reducible rfl)); (try simp only [List.getElem_toArray, List.getElem_cons_zero, List.getElem_cons_succ, Act.put, List.setIfInBounds_toArray, List.set_cons_zero, List.set_cons_succ]))
          refine wpAnyH_done (by kernel_rfl) ?_ _
          have R := Z.putAll RA hl
          replace DH1 := DH1.putOther (b' := cc) 0 (ints RA) (by omega)
          replace DH2 := DH2.putOther (b' := cc) 0 (ints RA) (by omega)
          replace DRa := Lib.hid (DRa.out.putOther (b' := cc) 0 (ints RA) (by omega))
          replace DB := Lib.hid (DB.out.puts (b := cc) (by omega) 0 (ints RA))
          clear hHeld Z
          go_wp2_with fail
          go_meet
          case rel => exact ⟨cc, rfl, rfl, DH1, DH2, Lib.hid R, DRa, DB⟩
      · (simp only [List.getElem_toArray, List.getElem_cons_zero, List.getElem_cons_succ, Region.wanted, if_true])
        go_simp
        refine hK.out _ _ ⟨hHeld.1.alloc _, hHeld.2.alloc _⟩ (fun hHeld => ?_)
        clear hK K
        have ltH1 := DH1.lt
        have ltH2 := DH2.lt
        have ltB := DB.out.size
        have ltRa := DRa.out.lt
        have Z : Has (wc16.alloc (.cells #[.int .i64 0, .int .i64 0] 23)) wc16.heap.size z2 2 := Has.box (ns := z2) wc16 23 rfl (by omega)
        replace DH1 := DH1.alloc (.cells #[.int .i64 0, .int .i64 0] 23)
        replace DH2 := DH2.alloc (.cells #[.int .i64 0, .int .i64 0] 23)
        replace DB := Lib.hid (DB.out.alloc (.cells #[.int .i64 0, .int .i64 0] 23))
        replace DRa := Lib.hid (DRa.out.alloc (.cells #[.int .i64 0, .int .i64 0] 23))
        generalize hcc : wc16.heap.size = cc at *
        clear hcc
        generalize wc16.alloc (.cells #[.int .i64 0, .int .i64 0] 23) = WA22 at *
        (refine wpAnyH_ready (rs := [3]) (by kernel_rfl) (by simp) ?_; refine AllReadyH.cons (o := _) rfl (fun K hK => ?_) AllReadyH.nil; (simp only [List.getElem_toArray, List.getElem_cons_zero, List.getElem_cons_succ, Region.wanted, if_true]))
        go_simp
        refine (toIntA6v ds _ hds).mono ?_
        rintro e wc23 ⟨rfl, bc23⟩
        dsimp only
        (try simp only [List.getElem_toArray, List.getElem_cons_zero, List.getElem_cons_succ, Act.put, List.setIfInBounds_toArray, List.set_cons_zero, List.set_cons_succ])
        refine hK.out _ _ ⟨hHeld.1.below bc23, hHeld.2.below bc23⟩ (fun hHeld => ?_)
        clear hK K
        replace DH1 := DH1.below bc23
        replace DH2 := DH2.below bc23
        replace DB := Lib.hid (DB.out.call bc23)
        replace DRa := Lib.hid (DRa.out.below bc23)
        replace Z := Z.below bc23
        clear bc23
        (refine wpAnyH_ready (rs := [6]) (by kernel_rfl) (by simp) ?_; refine AllReadyH.cons (o := _) rfl (fun K hK => ?_) AllReadyH.nil; (simp only [List.getElem_toArray, List.getElem_cons_zero, List.getElem_cons_succ, Region.wanted, if_true]))
        go_simp
        refine (KI.out _).mono ?_
        rintro e wc24 ⟨rfl, bc24⟩
        dsimp only
        (try simp only [List.getElem_toArray, List.getElem_cons_zero, List.getElem_cons_succ, Act.put, List.setIfInBounds_toArray, List.set_cons_zero, List.set_cons_succ])
        refine hK.out _ _ ⟨hHeld.1.below bc24, hHeld.2.below bc24⟩ (fun hHeld => ?_)
        clear hK K
        replace DH1 := DH1.below bc24
        replace DH2 := DH2.below bc24
        replace DB := Lib.hid (DB.out.call bc24)
        replace DRa := Lib.hid (DRa.out.below bc24)
        replace Z := Z.below bc24
        clear bc24
        (refine wpAnyH_take (i := 7) (v := ?_) rfl (by kernel_rfl) (by kernel_rfl) (by kernel_rfl) (fun _ _ _ h => h) (Or.inl ⟨by rfl, ?_⟩) hHeld ?_; rotate_left; (· (intro w' hSw; go_simp; try with_reducible rfl)); (try simp only [List.getElem_toArray, List.getElem_cons_zero, List.getElem_cons_succ, Act.put, List.setIfInBounds_toArray, List.set_cons_zero, List.set_cons_succ])); (refine wpAnyH_take (i := 8) (v := ?_) rfl (by kernel_rfl) (by kernel_rfl) (by kernel_rfl) (fun _ _ _ h => h) (Or.inl ⟨by rfl, ?_⟩) hHeld ?_; rotate_left; (· (intro w' hSw; go_simp; try with_reducible rfl)); (try simp only [List.getElem_toArray, List.getElem_cons_zero, List.getElem_cons_succ, Act.put, List.setIfInBounds_toArray, List.set_cons_zero, List.set_cons_succ])); (refine wpAnyH_take (i := 9) (v := ?_) rfl (by kernel_rfl) (by kernel_rfl) (by kernel_rfl) (fun _ _ _ h => h) (Or.inl ⟨by rfl, ?_⟩) hHeld ?_; rotate_left; (· (intro w' hSw; go_simp; try with_reducible rfl)); (try simp only [List.getElem_toArray, List.getElem_cons_zero, List.getElem_cons_succ, Act.put, List.setIfInBounds_toArray, List.set_cons_zero, List.set_cons_succ]))
        (refine wpAnyH_ready (rs := [11]) (by kernel_rfl) (by simp) ?_; refine AllReadyH.cons (o := _) rfl (fun K hK => ?_) AllReadyH.nil; (simp only [List.getElem_toArray, List.getElem_cons_zero, List.getElem_cons_succ, Region.wanted, if_true]); refine wp_store_mid _ _ _ rfl _ _ (ints RA).toArray rfl rfl (by simpa [l3] using Z.there) (by simpa [l3] using hi3) (all_oneCell_toArray (ints_one _)) ?_; (try simp only [List.getElem_toArray, List.getElem_cons_zero, List.getElem_cons_succ, Act.put, List.setIfInBounds_toArray, List.set_cons_zero, List.set_cons_succ, List.toList_toArray]); refine hK.out _ _ (⟨hHeld.1.putOther _ _ (by omega), hHeld.2.putOther _ _ (by omega)⟩) (fun hHeld => ?_); clear hK K)
        (refine wpAnyH_take (i := 12) (v := ?_) rfl (by kernel_rfl) (by kernel_rfl) (by kernel_rfl) (fun _ _ _ h => h) (Or.inl ⟨by rfl, ?_⟩) hHeld ?_; rotate_left; (· (intro w' hSw; go_simp; try with_reducible rfl)); (try simp only [List.getElem_toArray, List.getElem_cons_zero, List.getElem_cons_succ, Act.put, List.setIfInBounds_toArray, List.set_cons_zero, List.set_cons_succ]))
        refine wpAnyH_done (by kernel_rfl) ?_ _
        have R := Z.putAll RA hl
        replace DH1 := DH1.putOther (b' := cc) 0 (ints RA) (by omega)
        replace DH2 := DH2.putOther (b' := cc) 0 (ints RA) (by omega)
        replace DRa := Lib.hid (DRa.out.putOther (b' := cc) 0 (ints RA) (by omega))
        replace DB := Lib.hid (DB.out.puts (b := cc) (by omega) 0 (ints RA))
        clear hHeld Z
        go_wp2_with fail
        go_meet
        case rel => exact ⟨cc, rfl, rfl, DH1, DH2, Lib.hid R, DRa, DB⟩
    · (simp only [List.getElem_toArray, List.getElem_cons_zero, List.getElem_cons_succ, Region.wanted, if_true])
      go_simp
      refine hK.out _ _ ⟨hHeld.1.alloc _, hHeld.2.alloc _⟩ (fun hHeld => ?_)
      clear hK K
      have ltH1 := DH1.lt
      have ltH2 := DH2.lt
      have ltB := DB.out.size
      have ltRa := DRa.out.lt
      have Z : Has (WD15.alloc (.cells #[.int .i64 0, .int .i64 0] 23)) WD15.heap.size z2 2 := Has.box (ns := z2) WD15 23 rfl (by omega)
      replace DH1 := DH1.alloc (.cells #[.int .i64 0, .int .i64 0] 23)
      replace DH2 := DH2.alloc (.cells #[.int .i64 0, .int .i64 0] 23)
      replace DB := Lib.hid (DB.out.alloc (.cells #[.int .i64 0, .int .i64 0] 23))
      replace DRa := Lib.hid (DRa.out.alloc (.cells #[.int .i64 0, .int .i64 0] 23))
      generalize hcc : WD15.heap.size = cc at *
      clear hcc
      generalize WD15.alloc (.cells #[.int .i64 0, .int .i64 0] 23) = WA25 at *
      (refine wpAnyH_ready (rs := [1]) (by kernel_rfl) (by simp) ?_; refine AllReadyH.cons (o := _) rfl (fun K hK => ?_) AllReadyH.nil; (simp only [List.getElem_toArray, List.getElem_cons_zero, List.getElem_cons_succ, Region.wanted, if_true]))
      go_simp
      refine (toIntA6v ns _ hns).mono ?_
      rintro e wc26 ⟨rfl, bc26⟩
      dsimp only
      (try simp only [List.getElem_toArray, List.getElem_cons_zero, List.getElem_cons_succ, Act.put, List.setIfInBounds_toArray, List.set_cons_zero, List.set_cons_succ])
      refine hK.out _ _ ⟨hHeld.1.below bc26, hHeld.2.below bc26⟩ (fun hHeld => ?_)
      clear hK K
      replace DH1 := DH1.below bc26
      replace DH2 := DH2.below bc26
      replace DB := Lib.hid (DB.out.call bc26)
      replace DRa := Lib.hid (DRa.out.below bc26)
      replace Z := Z.below bc26
      clear bc26
      (refine wpAnyH_ready (rs := [3]) (by kernel_rfl) (by simp) ?_; refine AllReadyH.cons (o := _) rfl (fun K hK => ?_) AllReadyH.nil; (simp only [List.getElem_toArray, List.getElem_cons_zero, List.getElem_cons_succ, Region.wanted, if_true]))
      go_simp
      refine (toIntA6v ds _ hds).mono ?_
      rintro e wc27 ⟨rfl, bc27⟩
      dsimp only
      (try simp only [List.getElem_toArray, List.getElem_cons_zero, List.getElem_cons_succ, Act.put, List.setIfInBounds_toArray, List.set_cons_zero, List.set_cons_succ])
      refine hK.out _ _ ⟨hHeld.1.below bc27, hHeld.2.below bc27⟩ (fun hHeld => ?_)
      clear hK K
      replace DH1 := DH1.below bc27
      replace DH2 := DH2.below bc27
      replace DB := Lib.hid (DB.out.call bc27)
      replace DRa := Lib.hid (DRa.out.below bc27)
      replace Z := Z.below bc27
      clear bc27
      (refine wpAnyH_ready (rs := [6]) (by kernel_rfl) (by simp) ?_; refine AllReadyH.cons (o := _) rfl (fun K hK => ?_) AllReadyH.nil; (simp only [List.getElem_toArray, List.getElem_cons_zero, List.getElem_cons_succ, Region.wanted, if_true]))
      go_simp
      refine (KI.out _).mono ?_
      rintro e wc28 ⟨rfl, bc28⟩
      dsimp only
      (try simp only [List.getElem_toArray, List.getElem_cons_zero, List.getElem_cons_succ, Act.put, List.setIfInBounds_toArray, List.set_cons_zero, List.set_cons_succ])
      refine hK.out _ _ ⟨hHeld.1.below bc28, hHeld.2.below bc28⟩ (fun hHeld => ?_)
      clear hK K
      replace DH1 := DH1.below bc28
      replace DH2 := DH2.below bc28
      replace DB := Lib.hid (DB.out.call bc28)
      replace DRa := Lib.hid (DRa.out.below bc28)
      replace Z := Z.below bc28
      clear bc28
      (refine wpAnyH_take (i := 7) (v := ?_) rfl (by kernel_rfl) (by kernel_rfl) (by kernel_rfl) (fun _ _ _ h => h) (Or.inl ⟨by rfl, ?_⟩) hHeld ?_; rotate_left; (· (intro w' hSw; go_simp; try with_reducible rfl)); (try simp only [List.getElem_toArray, List.getElem_cons_zero, List.getElem_cons_succ, Act.put, List.setIfInBounds_toArray, List.set_cons_zero, List.set_cons_succ])); (refine wpAnyH_take (i := 8) (v := ?_) rfl (by kernel_rfl) (by kernel_rfl) (by kernel_rfl) (fun _ _ _ h => h) (Or.inl ⟨by rfl, ?_⟩) hHeld ?_; rotate_left; (· (intro w' hSw; go_simp; try with_reducible rfl)); (try simp only [List.getElem_toArray, List.getElem_cons_zero, List.getElem_cons_succ, Act.put, List.setIfInBounds_toArray, List.set_cons_zero, List.set_cons_succ])); (refine wpAnyH_take (i := 9) (v := ?_) rfl (by kernel_rfl) (by kernel_rfl) (by kernel_rfl) (fun _ _ _ h => h) (Or.inl ⟨by rfl, ?_⟩) hHeld ?_; rotate_left; (· (intro w' hSw; go_simp; try with_reducible rfl)); (try simp only [List.getElem_toArray, List.getElem_cons_zero, List.getElem_cons_succ, Act.put, List.setIfInBounds_toArray, List.set_cons_zero, List.set_cons_succ]))
      (refine wpAnyH_ready (rs := [11]) (by kernel_rfl) (by simp) ?_; refine AllReadyH.cons (o := _) rfl (fun K hK => ?_) AllReadyH.nil; (simp only [List.getElem_toArray, List.getElem_cons_zero, List.getElem_cons_succ, Region.wanted, if_true]); refine wp_store_mid _ _ _ rfl _ _ (ints RA).toArray rfl rfl (by simpa [l3] using Z.there) (by simpa [l3] using hi3) (all_oneCell_toArray (ints_one _)) ?_; (try simp only [List.getElem_toArray, List.getElem_cons_zero, List.getElem_cons_succ, Act.put, List.setIfInBounds_toArray, List.set_cons_zero, List.set_cons_succ, List.toList_toArray]); refine hK.out _ _ (⟨hHeld.1.putOther _ _ (by omega), hHeld.2.putOther _ _ (by omega)⟩) (fun hHeld => ?_); clear hK K)
      (refine wpAnyH_take (i := 12) (v := ?_) rfl (by kernel_rfl) (by kernel_rfl) (by kernel_rfl) (fun _ _ _ h => h) (Or.inl ⟨by rfl, ?_⟩) hHeld ?_; rotate_left; (· (intro w' hSw; go_simp; try with_reducible rfl)); (try simp only [List.getElem_toArray, List.getElem_cons_zero, List.getElem_cons_succ, Act.put, List.setIfInBounds_toArray, List.set_cons_zero, List.set_cons_succ]))
      refine wpAnyH_done (by kernel_rfl) ?_ _
      have R := Z.putAll RA hl
      replace DH1 := DH1.putOther (b' := cc) 0 (ints RA) (by omega)
      replace DH2 := DH2.putOther (b' := cc) 0 (ints RA) (by omega)
      replace DRa := Lib.hid (DRa.out.putOther (b' := cc) 0 (ints RA) (by omega))
      replace DB := Lib.hid (DB.out.puts (b := cc) (by omega) 0 (ints RA))
      clear hHeld Z
      go_wp2_with fail
      go_meet
      case rel => exact ⟨cc, rfl, rfl, DH1, DH2, Lib.hid R, DRa, DB⟩
  clear HB H1 H2 Ra
  obtain ⟨cb, rfl, rfl, H1, H2, Rb, Ra, HB⟩ := hcut
  clear H1 H2 KS KI
  have Ra := Ra.out
  have Rb := Rb.out
  go_wp2_with (first | (refine load_has rfl 23 _ rfl cb rfl RA 2 Rb _ Try.underlying23 rfl (by kernel_rfl) ?_) | (refine load_has rfl 23 _ rfl ca rfl RA 2 Ra _ Try.underlying23 rfl (by kernel_rfl) ?_))
  refine (eqIntA2v RA _ hl).mono ?_
  rintro e w9 ⟨rfl, b9⟩
  replace HB := Lib.hid (HB.out.call b9)
  clear Ra Rb b9
  go_wp2_with fail
  go_ret
  exact ⟨rfl, HB.out⟩
end Go.Proofs.Ytemiljokdedidaa.base
