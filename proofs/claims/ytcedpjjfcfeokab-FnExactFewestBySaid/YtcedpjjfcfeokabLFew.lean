/-
  The exact law of FewestBy, walked.
-/
import Derived.Test.YtcedpjjfcfeokabFewIZ
import Derived.Test.YtcedpjjfcfeokabRackTo
import Derived.Test.YtcedpjjfcfeokabSixV
import Derived.Deep.RegionHeld3
namespace Go.Proofs.Ytcedpjjfcfeokab.base
open Go.ChangeShapes Go.WideShapes Go.ChangeAt Go.RowKit
set_option linter.unusedVariables false
set_option linter.unusedSimpArgs false

set_option maxHeartbeats 3200000 in
set_option maxRecDepth 100000 in
theorem lawFewestBy (ns ds : List Int) (x : Int) (w : World) (fns : ns.length = 24 ∧ ∀ n ∈ ns, (Lit.int .i64 n).wf = true) (fds : ds.length = 6 ∧ ∀ n ∈ ds, (Lit.int .i64 n).wf = true) (fx : (Lit.int .i64 x).wf = true) :
    Calls Try.prog 5 #[row ns, row ds, .int .i64 x] w fun e w' => e = .returned (.bool true) ∧ Kept w w' := by
  have hns := fns.1
  have hds := fds.1
  clear fns fds fx
  have HB := Lib.hid (((kept_refl w).alloc (.cells (ints ns).toArray 25)).alloc (.cells (ints ds).toArray 26))
  have H1 := (Has.box w 25 hns (by omega)).alloc (.cells (ints ds).toArray 26)
  have H2 := (Has.box (w.alloc (.cells (ints ns).toArray 25)) 26 hds (by omega)).at (size1 _ _)
  have hi1 : (Try.prog.info? 25).map (·.size) = some (ints ns).length := by rw [ints_len, hns]; kernel_rfl
  have hi2 : (Try.prog.info? 26).map (·.size) = some (ints ds).length := by rw [ints_len, hds]; kernel_rfl
  have KS := Lib.hid (fun W => specFewest ns ds x W hns hds)
  have KI := Lib.hid (fun W => implFewest ns ds x W hns hds)
  rw [row_ints, row_ints]
  go_enter Try.func5, Try.ntmps5
  go_wp2_with fail
  have DH1 := H1.drew
  have DH2 := H2.drew
  have DB := Lib.hid (keptDrew8 HB.out)
  clear H1 H2 HB
  refine wp_region_held_drew (S := fun w' => Has w' w.heap.size ns 24 ∧ Has w' (w.heap.size + 1) ds 6) (by kernel_rfl) ⟨DH1, DH2⟩ (fun hHeld => ?_)
  generalize hWD : World.drew _ = WD1 at *
  clear hWD
  (refine wpAnyH_take (i := 0) (v := _) rfl (by kernel_rfl) (by kernel_rfl) (by kernel_rfl) (fun _ _ _ h => h) (yieldsIf_load_mid (by rfl) 25 _ rfl _ _ rfl (ints ns) _ (fun w' hSw => hSw.1.holds.range) Try.underlying25 rfl (hi1)) hHeld ?_; (try simp only [List.getElem_toArray, List.getElem_cons_zero, List.getElem_cons_succ, Act.put, List.setIfInBounds_toArray, List.set_cons_zero, List.set_cons_succ]))
  (refine wpAnyH_take (i := 2) (v := _) rfl (by kernel_rfl) (by kernel_rfl) (by kernel_rfl) (fun _ _ _ h => h) (yieldsIf_load_mid (by rfl) 26 _ rfl _ _ rfl (ints ds) _ (fun w' hSw => hSw.2.holds.range) Try.underlying26 rfl (hi2)) hHeld ?_; (try simp only [List.getElem_toArray, List.getElem_cons_zero, List.getElem_cons_succ, Act.put, List.setIfInBounds_toArray, List.set_cons_zero, List.set_cons_succ]))
  (refine wpAnyH_take (i := 4) (v := ?_) rfl (by kernel_rfl) (by kernel_rfl) (by kernel_rfl) (fun _ _ _ h => h) (Or.inl ⟨by rfl, ?_⟩) hHeld ?_; rotate_left; (· (intro w' hSw; go_simp; try with_reducible rfl)); (try simp only [List.getElem_toArray, List.getElem_cons_zero, List.getElem_cons_succ, Act.put, List.setIfInBounds_toArray, List.set_cons_zero, List.set_cons_succ]))
  (refine wpAnyH_ready (rs := [1]) (by kernel_rfl) (by simp) ?_; refine AllReadyH.cons (o := _) rfl (fun K hK => ?_) AllReadyH.nil; (simp only [List.getElem_toArray, List.getElem_cons_zero, List.getElem_cons_succ, Region.wanted, if_true]))
  go_simp
  refine (toRack_any ns _ hns).mono ?_
  rintro e wc2 ⟨rfl, bc2⟩
  dsimp only
  (try simp only [List.getElem_toArray, List.getElem_cons_zero, List.getElem_cons_succ, Act.put, List.setIfInBounds_toArray, List.set_cons_zero, List.set_cons_succ])
  refine hK.out _ _ ⟨hHeld.1.below bc2, hHeld.2.below bc2⟩ (fun hHeld => ?_)
  clear hK K
  replace DH1 := DH1.below bc2
  replace DH2 := DH2.below bc2
  replace DB := Lib.hid (DB.out.call bc2)
  clear bc2
  (refine wpAnyH_ready (rs := [3]) (by kernel_rfl) (by simp) ?_; refine AllReadyH.cons (o := _) rfl (fun K hK => ?_) AllReadyH.nil; (simp only [List.getElem_toArray, List.getElem_cons_zero, List.getElem_cons_succ, Region.wanted, if_true]))
  go_simp
  refine (toIntA6v ds _ hds).mono ?_
  rintro e wc3 ⟨rfl, bc3⟩
  dsimp only
  (try simp only [List.getElem_toArray, List.getElem_cons_zero, List.getElem_cons_succ, Act.put, List.setIfInBounds_toArray, List.set_cons_zero, List.set_cons_succ])
  refine hK.out _ _ ⟨hHeld.1.below bc3, hHeld.2.below bc3⟩ (fun hHeld => ?_)
  clear hK K
  replace DH1 := DH1.below bc3
  replace DH2 := DH2.below bc3
  replace DB := Lib.hid (DB.out.call bc3)
  clear bc3
  (refine wpAnyH_ready (rs := [5]) (by kernel_rfl) (by simp) ?_; refine AllReadyH.cons (o := _) rfl (fun K hK => ?_) AllReadyH.nil; (simp only [List.getElem_toArray, List.getElem_cons_zero, List.getElem_cons_succ, Region.wanted, if_true]))
  go_simp
  refine (KS.out _).mono ?_
  rintro e wc4 ⟨rfl, bc4⟩
  dsimp only
  (try simp only [List.getElem_toArray, List.getElem_cons_zero, List.getElem_cons_succ, Act.put, List.setIfInBounds_toArray, List.set_cons_zero, List.set_cons_succ])
  refine hK.out _ _ ⟨hHeld.1.below bc4, hHeld.2.below bc4⟩ (fun hHeld => ?_)
  clear hK K
  replace DH1 := DH1.below bc4
  replace DH2 := DH2.below bc4
  replace DB := Lib.hid (DB.out.call bc4)
  clear bc4
  (refine wpAnyH_take (i := 6) (v := ?_) rfl (by kernel_rfl) (by kernel_rfl) (by kernel_rfl) (fun _ _ _ h => h) (Or.inl ⟨by rfl, ?_⟩) hHeld ?_; rotate_left; (· (intro w' hSw; go_simp; try with_reducible rfl)); (try simp only [List.getElem_toArray, List.getElem_cons_zero, List.getElem_cons_succ, Act.put, List.setIfInBounds_toArray, List.set_cons_zero, List.set_cons_succ])); (refine wpAnyH_take (i := 7) (v := ?_) rfl (by kernel_rfl) (by kernel_rfl) (by kernel_rfl) (fun _ _ _ h => h) (Or.inl ⟨by rfl, ?_⟩) hHeld ?_; rotate_left; (· (intro w' hSw; go_simp; try with_reducible rfl)); (try simp only [List.getElem_toArray, List.getElem_cons_zero, List.getElem_cons_succ, Act.put, List.setIfInBounds_toArray, List.set_cons_zero, List.set_cons_succ])); (refine wpAnyH_take (i := 8) (v := ?_) rfl (by kernel_rfl) (by kernel_rfl) (by kernel_rfl) (fun _ _ _ h => h) (Or.inl ⟨by rfl, ?_⟩) hHeld ?_; rotate_left; (· (intro w' hSw; go_simp; try with_reducible rfl)); (try simp only [List.getElem_toArray, List.getElem_cons_zero, List.getElem_cons_succ, Act.put, List.setIfInBounds_toArray, List.set_cons_zero, List.set_cons_succ])); (refine wpAnyH_take (i := 9) (v := ?_) rfl (by kernel_rfl) (by kernel_rfl) (by kernel_rfl) (fun _ _ _ h => h) (Or.inl ⟨by rfl, ?_⟩) hHeld ?_; rotate_left; (· (intro w' hSw; go_simp; try with_reducible rfl)); (try simp only [List.getElem_toArray, List.getElem_cons_zero, List.getElem_cons_succ, Act.put, List.setIfInBounds_toArray, List.set_cons_zero, List.set_cons_succ])); (refine wpAnyH_take (i := 10) (v := ?_) rfl (by kernel_rfl) (by kernel_rfl) (by kernel_rfl) (fun _ _ _ h => h) (Or.inl ⟨by rfl, ?_⟩) hHeld ?_; rotate_left; (· (intro w' hSw; go_simp; try with_reducible rfl)); (try simp only [List.getElem_toArray, List.getElem_cons_zero, List.getElem_cons_succ, Act.put, List.setIfInBounds_toArray, List.set_cons_zero, List.set_cons_succ]))
  refine wpAnyH_done (by kernel_rfl) ?_ _
  have H1 := DH1
  have H2 := DH2
  have HB := DB
  clear DH1 DH2 DB hHeld
  go_wp2_with fail
  have DH1 := H1.drew
  have DH2 := H2.drew
  have DB := Lib.hid (keptDrew8 HB.out)
  clear H1 H2 HB
  refine wp_region_held_drew (S := fun w' => Has w' w.heap.size ns 24 ∧ Has w' (w.heap.size + 1) ds 6) (by kernel_rfl) ⟨DH1, DH2⟩ (fun hHeld => ?_)
  generalize hWD : World.drew _ = WD5 at *
  clear hWD
  (refine wpAnyH_take (i := 0) (v := _) rfl (by kernel_rfl) (by kernel_rfl) (by kernel_rfl) (fun _ _ _ h => h) (yieldsIf_load_mid (by rfl) 25 _ rfl _ _ rfl (ints ns) _ (fun w' hSw => hSw.1.holds.range) Try.underlying25 rfl (hi1)) hHeld ?_; (try simp only [List.getElem_toArray, List.getElem_cons_zero, List.getElem_cons_succ, Act.put, List.setIfInBounds_toArray, List.set_cons_zero, List.set_cons_succ]))
  (refine wpAnyH_take (i := 2) (v := _) rfl (by kernel_rfl) (by kernel_rfl) (by kernel_rfl) (fun _ _ _ h => h) (yieldsIf_load_mid (by rfl) 26 _ rfl _ _ rfl (ints ds) _ (fun w' hSw => hSw.2.holds.range) Try.underlying26 rfl (hi2)) hHeld ?_; (try simp only [List.getElem_toArray, List.getElem_cons_zero, List.getElem_cons_succ, Act.put, List.setIfInBounds_toArray, List.set_cons_zero, List.set_cons_succ]))
  (refine wpAnyH_take (i := 4) (v := ?_) rfl (by kernel_rfl) (by kernel_rfl) (by kernel_rfl) (fun _ _ _ h => h) (Or.inl ⟨by rfl, ?_⟩) hHeld ?_; rotate_left; (· (intro w' hSw; go_simp; try with_reducible rfl)); (try simp only [List.getElem_toArray, List.getElem_cons_zero, List.getElem_cons_succ, Act.put, List.setIfInBounds_toArray, List.set_cons_zero, List.set_cons_succ]))
  (refine wpAnyH_ready (rs := [1]) (by kernel_rfl) (by simp) ?_; refine AllReadyH.cons (o := _) rfl (fun K hK => ?_) AllReadyH.nil; (simp only [List.getElem_toArray, List.getElem_cons_zero, List.getElem_cons_succ, Region.wanted, if_true]))
  go_simp
  refine (toRack_any ns _ hns).mono ?_
  rintro e wc6 ⟨rfl, bc6⟩
  dsimp only
  (try simp only [List.getElem_toArray, List.getElem_cons_zero, List.getElem_cons_succ, Act.put, List.setIfInBounds_toArray, List.set_cons_zero, List.set_cons_succ])
  refine hK.out _ _ ⟨hHeld.1.below bc6, hHeld.2.below bc6⟩ (fun hHeld => ?_)
  clear hK K
  replace DH1 := DH1.below bc6
  replace DH2 := DH2.below bc6
  replace DB := Lib.hid (DB.out.call bc6)
  clear bc6
  (refine wpAnyH_ready (rs := [3]) (by kernel_rfl) (by simp) ?_; refine AllReadyH.cons (o := _) rfl (fun K hK => ?_) AllReadyH.nil; (simp only [List.getElem_toArray, List.getElem_cons_zero, List.getElem_cons_succ, Region.wanted, if_true]))
  go_simp
  refine (toIntA6v ds _ hds).mono ?_
  rintro e wc7 ⟨rfl, bc7⟩
  dsimp only
  (try simp only [List.getElem_toArray, List.getElem_cons_zero, List.getElem_cons_succ, Act.put, List.setIfInBounds_toArray, List.set_cons_zero, List.set_cons_succ])
  refine hK.out _ _ ⟨hHeld.1.below bc7, hHeld.2.below bc7⟩ (fun hHeld => ?_)
  clear hK K
  replace DH1 := DH1.below bc7
  replace DH2 := DH2.below bc7
  replace DB := Lib.hid (DB.out.call bc7)
  clear bc7
  (refine wpAnyH_ready (rs := [5]) (by kernel_rfl) (by simp) ?_; refine AllReadyH.cons (o := _) rfl (fun K hK => ?_) AllReadyH.nil; (simp only [List.getElem_toArray, List.getElem_cons_zero, List.getElem_cons_succ, Region.wanted, if_true]))
  go_simp
  refine (KI.out _).mono ?_
  rintro e wc8 ⟨rfl, bc8⟩
  dsimp only
  (try simp only [List.getElem_toArray, List.getElem_cons_zero, List.getElem_cons_succ, Act.put, List.setIfInBounds_toArray, List.set_cons_zero, List.set_cons_succ])
  refine hK.out _ _ ⟨hHeld.1.below bc8, hHeld.2.below bc8⟩ (fun hHeld => ?_)
  clear hK K
  replace DH1 := DH1.below bc8
  replace DH2 := DH2.below bc8
  replace DB := Lib.hid (DB.out.call bc8)
  clear bc8
  (refine wpAnyH_take (i := 6) (v := ?_) rfl (by kernel_rfl) (by kernel_rfl) (by kernel_rfl) (fun _ _ _ h => h) (Or.inl ⟨by rfl, ?_⟩) hHeld ?_; rotate_left; (· (intro w' hSw; go_simp; try with_reducible rfl)); (try simp only [List.getElem_toArray, List.getElem_cons_zero, List.getElem_cons_succ, Act.put, List.setIfInBounds_toArray, List.set_cons_zero, List.set_cons_succ])); (refine wpAnyH_take (i := 7) (v := ?_) rfl (by kernel_rfl) (by kernel_rfl) (by kernel_rfl) (fun _ _ _ h => h) (Or.inl ⟨by rfl, ?_⟩) hHeld ?_; rotate_left; (· (intro w' hSw; go_simp; try with_reducible rfl)); (try simp only [List.getElem_toArray, List.getElem_cons_zero, List.getElem_cons_succ, Act.put, List.setIfInBounds_toArray, List.set_cons_zero, List.set_cons_succ])); (refine wpAnyH_take (i := 8) (v := ?_) rfl (by kernel_rfl) (by kernel_rfl) (by kernel_rfl) (fun _ _ _ h => h) (Or.inl ⟨by rfl, ?_⟩) hHeld ?_; rotate_left; (· (intro w' hSw; go_simp; try with_reducible rfl)); (try simp only [List.getElem_toArray, List.getElem_cons_zero, List.getElem_cons_succ, Act.put, List.setIfInBounds_toArray, List.set_cons_zero, List.set_cons_succ])); (refine wpAnyH_take (i := 9) (v := ?_) rfl (by kernel_rfl) (by kernel_rfl) (by kernel_rfl) (fun _ _ _ h => h) (Or.inl ⟨by rfl, ?_⟩) hHeld ?_; rotate_left; (· (intro w' hSw; go_simp; try with_reducible rfl)); (try simp only [List.getElem_toArray, List.getElem_cons_zero, List.getElem_cons_succ, Act.put, List.setIfInBounds_toArray, List.set_cons_zero, List.set_cons_succ])); (refine wpAnyH_take (i := 10) (v := ?_) rfl (by kernel_rfl) (by kernel_rfl) (by kernel_rfl) (fun _ _ _ h => h) (Or.inl ⟨by rfl, ?_⟩) hHeld ?_; rotate_left; (· (intro w' hSw; go_simp; try with_reducible rfl)); (try simp only [List.getElem_toArray, List.getElem_cons_zero, List.getElem_cons_succ, Act.put, List.setIfInBounds_toArray, List.set_cons_zero, List.set_cons_succ]))
  refine wpAnyH_done (by kernel_rfl) ?_ _
  have H1 := DH1
  have H2 := DH2
  have HB := DB
  clear DH1 DH2 DB hHeld
  go_wp2_with fail
  go_ret
  exact ⟨rfl, HB.out⟩
end Go.Proofs.Ytcedpjjfcfeokab.base
