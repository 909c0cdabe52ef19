/-
  The exact law of SamePours, walked.
-/
import Derived.Test.YtcedpjjfcfeokabSamS
import Derived.Test.YtcedpjjfcfeokabSamI
import Derived.Test.YtcedpjjfcfeokabRackTo
import Derived.Test.YtcedpjjfcfeokabRwL
import Derived.Deep.Cut
import Derived.Deep.CutRange
import Derived.Deep.RegionHeld3
namespace Go.Proofs.Ytcedpjjfcfeokab.base
open Go.ChangeShapes Go.WideShapes Go.ChangeAt Go.RowKit
set_option linter.unusedVariables false
set_option linter.unusedSimpArgs false

set_option maxHeartbeats 3200000 in
set_option maxRecDepth 100000 in
theorem lawSamePours (ns ds : List Int) (w : World) (fns : ns.length = 24 ∧ ∀ n ∈ ns, (Lit.int .i64 n).wf = true) (fds : ds.length = 6 ∧ ∀ n ∈ ds, (Lit.int .i64 n).wf = true) :
    Calls Try.prog 4 #[row ns, row ds] w fun e w' => e = .returned (.bool true) ∧ Kept w w' := by
  have hns := fns.1
  have hds := fds.1
  clear fns fds
  have hN : saNA ns ds ≤ 36 := saNA_le ns ds
  have HB := Lib.hid (((kept_refl w).alloc (.cells (ints ns).toArray 25)).alloc (.cells (ints ds).toArray 26))
  have H1 := (Has.box w 25 hns (by omega)).alloc (.cells (ints ds).toArray 26)
  have H2 := (Has.box (w.alloc (.cells (ints ns).toArray 25)) 26 hds (by omega)).at (size1 _ _)
  have hi1 : (Try.prog.info? 25).map (·.size) = some (ints ns).length := by rw [ints_len, hns]; kernel_rfl
  have hi2 : (Try.prog.info? 26).map (·.size) = some (ints ds).length := by rw [ints_len, hds]; kernel_rfl
  have KS := Lib.hid (fun W => specSame ns ds W hns hds)
  have KI := Lib.hid (fun W => implSame ns ds W hns hds)
  rw [row_ints, row_ints]
  go_enter Try.func4, Try.ntmps4
  go_wp2_with fail
  have DH1 := H1.drew
  have DH2 := H2.drew
  have DB := Lib.hid (keptDrew8 HB.out)
  clear H1 H2 HB
  refine wp_region_held_drew (S := fun w' => Has w' w.heap.size ns 24 ∧ Has w' (w.heap.size + 1) ds 6) (by kernel_rfl) ⟨DH1, DH2⟩ (fun hHeld => ?_)
  generalize hWD : World.drew _ = WD1 at *
  clear hWD
  (refine wpAnyH_take (i := 0) (v := _) rfl (by kernel_rfl) (by kernel_rfl) (by kernel_rfl) (fun _ _ _ h => h) (yieldsIf_load_mid (by rfl) 25 _ rfl _ _ rfl (ints ns) _ (fun w' hSw => hSw.1.holds.range) Try.underlying25 rfl (hi1)) hHeld ?_; (try simp only [List.getElem_toArray, List.getElem_cons_zero, List.getElem_cons_succ, Act.put, List.setIfInBounds_toArray, List.set_cons_zero, List.set_cons_succ]))
  (refine wpAnyH_take (i := 2) (v := _) rfl (by kernel_rfl) (by kernel_rfl) (by kernel_rfl) (fun _ _ _ h => h) (yieldsIf_load_mid (by rfl) 26 _ rfl _ _ rfl (ints ds) _ (fun w' hSw => hSw.2.holds.range) Try.underlying26 rfl (hi2)) hHeld ?_; (try simp only [List.getElem_toArray, List.getElem_cons_zero, List.getElem_cons_succ, Act.put, List.setIfInBounds_toArray, List.set_cons_zero, List.set_cons_succ]))
  (refine wpAnyH_ready (rs := [1]) (by kernel_rfl) (by simp) ?_; refine AllReadyH.cons (o := _) rfl (fun K hK => ?_) AllReadyH.nil; (simp only [List.getElem_toArray, List.getElem_cons_zero, List.getElem_cons_succ, Region.wanted, if_true]))
  go_simp
  refine (toRack_any ns _ hns).mono ?_
  rintro e wc2 ⟨rfl, bc2⟩
  dsimp only
  (try simp only [List.getElem_toArray, List.getElem_cons_zero, List.getElem_cons_succ, Act.put, List.setIfInBounds_toArray, List.set_cons_zero, List.set_cons_succ])
  refine hK.out _ _ ⟨hHeld.1.below bc2, hHeld.2.below bc2⟩ (fun hHeld => ?_)
  clear hK K
  replace DH1 := DH1.below bc2
  replace DH2 := DH2.below bc2
  replace DB := Lib.hid (DB.out.call bc2)
  clear bc2
  (refine wpAnyH_ready (rs := [3]) (by kernel_rfl) (by simp) ?_; refine AllReadyH.cons (o := _) rfl (fun K hK => ?_) AllReadyH.nil; (simp only [List.getElem_toArray, List.getElem_cons_zero, List.getElem_cons_succ, Region.wanted, if_true]))
  go_simp
  refine (toIntA6v ds _ hds).mono ?_
  rintro e wc3 ⟨rfl, bc3⟩
  dsimp only
  (try simp only [List.getElem_toArray, List.getElem_cons_zero, List.getElem_cons_succ, Act.put, List.setIfInBounds_toArray, List.set_cons_zero, List.set_cons_succ])
  refine hK.out _ _ ⟨hHeld.1.below bc3, hHeld.2.below bc3⟩ (fun hHeld => ?_)
  clear hK K
  replace DH1 := DH1.below bc3
  replace DH2 := DH2.below bc3
  replace DB := Lib.hid (DB.out.call bc3)
  clear bc3
  (refine wpAnyH_ready (rs := [4]) (by kernel_rfl) (by simp) ?_; refine AllReadyH.cons (o := _) rfl (fun K hK => ?_) AllReadyH.nil; (simp only [List.getElem_toArray, List.getElem_cons_zero, List.getElem_cons_succ, Region.wanted, if_true]))
  go_simp
  refine (KS.out _).mono ?_
  rintro e wc4 ⟨va, rfl, qva, bc4⟩
  dsimp only
  (try simp only [List.getElem_toArray, List.getElem_cons_zero, List.getElem_cons_succ, Act.put, List.setIfInBounds_toArray, List.set_cons_zero, List.set_cons_succ])
  refine hK.out _ _ ⟨hHeld.1.below bc4, hHeld.2.below bc4⟩ (fun hHeld => ?_)
  clear hK K
  have lt0 := DH2.lt
  have lts := bc4.size
  replace DH1 := DH1.below bc4
  replace DH2 := DH2.below bc4
  replace DB := Lib.hid (DB.out.call bc4)
  have DRva := Lib.hid (qva.mono (b' := w.heap.size + 1 + 1) (by omega))
  clear bc4 qva lts lt0
  (refine wpAnyH_take (i := 5) (v := ?_) rfl (by kernel_rfl) (by kernel_rfl) (by kernel_rfl) (fun _ _ _ h => h) (Or.inl ⟨by rfl, ?_⟩) hHeld ?_; rotate_left; (· (intro w' hSw; go_simp; try with_reducible rfl)); (try simp only [List.getElem_toArray, List.getElem_cons_zero, List.getElem_cons_succ, Act.put, List.setIfInBounds_toArray, List.set_cons_zero, List.set_cons_succ])); (refine wpAnyH_take (i := 6) (v := ?_) rfl (by kernel_rfl) (by kernel_rfl) (by kernel_rfl) (fun _ _ _ h => h) (Or.inl ⟨by rfl, ?_⟩) hHeld ?_; rotate_left; (· (intro w' hSw; go_simp; try with_reducible rfl)); (try simp only [List.getElem_toArray, List.getElem_cons_zero, List.getElem_cons_succ, Act.put, List.setIfInBounds_toArray, List.set_cons_zero, List.set_cons_succ])); (refine wpAnyH_take (i := 7) (v := ?_) rfl (by kernel_rfl) (by kernel_rfl) (by kernel_rfl) (fun _ _ _ h => h) (Or.inl ⟨by rfl, ?_⟩) hHeld ?_; rotate_left; (· (intro w' hSw; go_simp; try with_reducible rfl)); (try simp only [List.getElem_toArray, List.getElem_cons_zero, List.getElem_cons_succ, Act.put, List.setIfInBounds_toArray, List.set_cons_zero, List.set_cons_succ])); (refine wpAnyH_take (i := 8) (v := ?_) rfl (by kernel_rfl) (by kernel_rfl) (by kernel_rfl) (fun _ _ _ h => h) (Or.inl ⟨by rfl, ?_⟩) hHeld ?_; rotate_left; (· (intro w' hSw; go_simp; try with_reducible rfl)); (try simp only [List.getElem_toArray, List.getElem_cons_zero, List.getElem_cons_succ, Act.put, List.setIfInBounds_toArray, List.set_cons_zero, List.set_cons_succ])); (refine wpAnyH_take (i := 9) (v := ?_) rfl (by kernel_rfl) (by kernel_rfl) (by kernel_rfl) (fun _ _ _ h => h) (Or.inl ⟨by rfl, ?_⟩) hHeld ?_; rotate_left; (· (intro w' hSw; go_simp; try with_reducible rfl)); (try simp only [List.getElem_toArray, List.getElem_cons_zero, List.getElem_cons_succ, Act.put, List.setIfInBounds_toArray, List.set_cons_zero, List.set_cons_succ]))
  refine wpAnyH_done (by kernel_rfl) ?_ _
  have H1 := DH1
  have H2 := DH2
  have HB := DB
  clear DH1 DH2 DB hHeld
  have Rva := DRva
  clear DRva
  go_wp2_with fail
  have DH1 := H1.drew
  have DH2 := H2.drew
  have DB := Lib.hid (keptDrew8 HB.out)
  clear H1 H2 HB
  have DRva := Lib.hid (Rva.out.drew)
  clear Rva
  refine wp_region_held_drew (S := fun w' => Has w' w.heap.size ns 24 ∧ Has w' (w.heap.size + 1) ds 6) (by kernel_rfl) ⟨DH1, DH2⟩ (fun hHeld => ?_)
  generalize hWD : World.drew _ = WD5 at *
  clear hWD
  (refine wpAnyH_take (i := 0) (v := _) rfl (by kernel_rfl) (by kernel_rfl) (by kernel_rfl) (fun _ _ _ h => h) (yieldsIf_load_mid (by rfl) 25 _ rfl _ _ rfl (ints ns) _ (fun w' hSw => hSw.1.holds.range) Try.underlying25 rfl (hi1)) hHeld ?_; (try simp only [List.getElem_toArray, List.getElem_cons_zero, List.getElem_cons_succ, Act.put, List.setIfInBounds_toArray, List.set_cons_zero, List.set_cons_succ]))
  (refine wpAnyH_take (i := 2) (v := _) rfl (by kernel_rfl) (by kernel_rfl) (by kernel_rfl) (fun _ _ _ h => h) (yieldsIf_load_mid (by rfl) 26 _ rfl _ _ rfl (ints ds) _ (fun w' hSw => hSw.2.holds.range) Try.underlying26 rfl (hi2)) hHeld ?_; (try simp only [List.getElem_toArray, List.getElem_cons_zero, List.getElem_cons_succ, Act.put, List.setIfInBounds_toArray, List.set_cons_zero, List.set_cons_succ]))
  (refine wpAnyH_ready (rs := [1]) (by kernel_rfl) (by simp) ?_; refine AllReadyH.cons (o := _) rfl (fun K hK => ?_) AllReadyH.nil; (simp only [List.getElem_toArray, List.getElem_cons_zero, List.getElem_cons_succ, Region.wanted, if_true]))
  go_simp
  refine (toRack_any ns _ hns).mono ?_
  rintro e wc6 ⟨rfl, bc6⟩
  dsimp only
  (try simp only [List.getElem_toArray, List.getElem_cons_zero, List.getElem_cons_succ, Act.put, List.setIfInBounds_toArray, List.set_cons_zero, List.set_cons_succ])
  refine hK.out _ _ ⟨hHeld.1.below bc6, hHeld.2.below bc6⟩ (fun hHeld => ?_)
  clear hK K
  replace DH1 := DH1.below bc6
  replace DH2 := DH2.below bc6
  replace DB := Lib.hid (DB.out.call bc6)
  replace DRva := Lib.hid (DRva.out.below bc6)
  clear bc6
  (refine wpAnyH_ready (rs := [3]) (by kernel_rfl) (by simp) ?_; refine AllReadyH.cons (o := _) rfl (fun K hK => ?_) AllReadyH.nil; (simp only [List.getElem_toArray, List.getElem_cons_zero, List.getElem_cons_succ, Region.wanted, if_true]))
  go_simp
  refine (toIntA6v ds _ hds).mono ?_
  rintro e wc7 ⟨rfl, bc7⟩
  dsimp only
  (try simp only [List.getElem_toArray, List.getElem_cons_zero, List.getElem_cons_succ, Act.put, List.setIfInBounds_toArray, List.set_cons_zero, List.set_cons_succ])
  refine hK.out _ _ ⟨hHeld.1.below bc7, hHeld.2.below bc7⟩ (fun hHeld => ?_)
  clear hK K
  replace DH1 := DH1.below bc7
  replace DH2 := DH2.below bc7
  replace DB := Lib.hid (DB.out.call bc7)
  replace DRva := Lib.hid (DRva.out.below bc7)
  clear bc7
  (refine wpAnyH_ready (rs := [4]) (by kernel_rfl) (by simp) ?_; refine AllReadyH.cons (o := _) rfl (fun K hK => ?_) AllReadyH.nil; (simp only [List.getElem_toArray, List.getElem_cons_zero, List.getElem_cons_succ, Region.wanted, if_true]))
  go_simp
  refine (KI.out _).mono ?_
  rintro e wc8 ⟨vb, rfl, qvb, bc8⟩
  dsimp only
  (try simp only [List.getElem_toArray, List.getElem_cons_zero, List.getElem_cons_succ, Act.put, List.setIfInBounds_toArray, List.set_cons_zero, List.set_cons_succ])
  refine hK.out _ _ ⟨hHeld.1.below bc8, hHeld.2.below bc8⟩ (fun hHeld => ?_)
  clear hK K
  have lt0 := DH2.lt
  have lts := bc8.size
  replace DH1 := DH1.below bc8
  replace DH2 := DH2.below bc8
  replace DB := Lib.hid (DB.out.call bc8)
  have LwvbRva := Lib.hid (fun hn k hk => (DRva.out.ownlt hn k hk).2)
  replace DRva := Lib.hid (DRva.out.below bc8)
  have DRvb := Lib.hid qvb
  have L0vb := Lib.hid lt0
  clear bc8 qvb lts lt0
  (refine wpAnyH_take (i := 5) (v := ?_) rfl (by kernel_rfl) (by kernel_rfl) (by kernel_rfl) (fun _ _ _ h => h) (Or.inl ⟨by rfl, ?_⟩) hHeld ?_; rotate_left; (· (intro w' hSw; go_simp; try with_reducible rfl)); (try simp only [List.getElem_toArray, List.getElem_cons_zero, List.getElem_cons_succ, Act.put, List.setIfInBounds_toArray, List.set_cons_zero, List.set_cons_succ])); (refine wpAnyH_take (i := 6) (v := ?_) rfl (by kernel_rfl) (by kernel_rfl) (by kernel_rfl) (fun _ _ _ h => h) (Or.inl ⟨by rfl, ?_⟩) hHeld ?_; rotate_left; (· (intro w' hSw; go_simp; try with_reducible rfl)); (try simp only [List.getElem_toArray, List.getElem_cons_zero, List.getElem_cons_succ, Act.put, List.setIfInBounds_toArray, List.set_cons_zero, List.set_cons_succ])); (refine wpAnyH_take (i := 7) (v := ?_) rfl (by kernel_rfl) (by kernel_rfl) (by kernel_rfl) (fun _ _ _ h => h) (Or.inl ⟨by rfl, ?_⟩) hHeld ?_; rotate_left; (· (intro w' hSw; go_simp; try with_reducible rfl)); (try simp only [List.getElem_toArray, List.getElem_cons_zero, List.getElem_cons_succ, Act.put, List.setIfInBounds_toArray, List.set_cons_zero, List.set_cons_succ])); (refine wpAnyH_take (i := 8) (v := ?_) rfl (by kernel_rfl) (by kernel_rfl) (by kernel_rfl) (fun _ _ _ h => h) (Or.inl ⟨by rfl, ?_⟩) hHeld ?_; rotate_left; (· (intro w' hSw; go_simp; try with_reducible rfl)); (try simp only [List.getElem_toArray, List.getElem_cons_zero, List.getElem_cons_succ, Act.put, List.setIfInBounds_toArray, List.set_cons_zero, List.set_cons_succ])); (refine wpAnyH_take (i := 9) (v := ?_) rfl (by kernel_rfl) (by kernel_rfl) (by kernel_rfl) (fun _ _ _ h => h) (Or.inl ⟨by rfl, ?_⟩) hHeld ?_; rotate_left; (· (intro w' hSw; go_simp; try with_reducible rfl)); (try simp only [List.getElem_toArray, List.getElem_cons_zero, List.getElem_cons_succ, Act.put, List.setIfInBounds_toArray, List.set_cons_zero, List.set_cons_succ]))
  refine wpAnyH_done (by kernel_rfl) ?_ _
  have H1 := DH1
  have H2 := DH2
  have HB := DB
  clear DH1 DH2 DB hHeld
  have Rva := DRva
  clear DRva
  have Rvb := DRvb
  clear DRvb
  go_wp2_with fail
  refine (eqRw_same vb va _ _ _ _ _ (by omega) Rvb.out Rva.out).mono ?_
  rintro e w5 ⟨rfl, b5⟩
  replace H1 := H1.below b5
  replace H2 := H2.below b5
  replace HB := Lib.hid (HB.out.call b5)
  replace Rva := Lib.hid (Rva.out.below b5)
  replace Rvb := Lib.hid (Rvb.out.below b5)
  clear b5
  go_wp2_with fail
  obtain ⟨z, hz, hz0, hz1⟩ : ∃ z : Int, z = ((1 + (saNA ns ds) * 2 : Nat) : Int) ∧ 0 ≤ z ∧ z ≤ 99 := ⟨_, rfl, by omega, by omega⟩
  have HZ := Lib.hid hz
  clear hz
  refine (markRw _ vb (saNA ns ds) 1 _ _ (by omega) (by omega) Rvb.out).mono ?_
  rintro e w6 ⟨rfl, m1, ⟨r6, m2, m3⟩⟩
  rw [← HZ.out]
  replace Rvb := Lib.hid m1
  replace H1 := H1.grown m2 (fun k hk => by have := (m3 k hk).1; have := L0vb.out; omega)
  replace H2 := H2.grown m2 (fun k hk => by have := (m3 k hk).1; have := L0vb.out; omega)
  replace HB : Hid (Kept w w6) := Lib.hid (HB.out.grown m2 HB.out.size (fun k hk => by have := (m3 k hk).1; have := L0vb.out; omega))
  replace Rva := Lib.hid (Rva.out.grownP m2 (fun hn k hk => .inr (fun e => by have := LwvbRva.out hn k e; have := (m3 k hk).1; have := L0vb.out; omega)))
  clear m1 m2 m3 LwvbRva L0vb
  have zl : decide (z < 0) = false := by simp; omega
  go_wp2_with fail
  refine (heldRw _ vb (saNA ns ds) 1 _ _ (by omega) (by omega) Rvb.out).mono ?_
  rintro e w' ⟨rfl, rfl⟩
  rw [← HZ.out]
  go_wp2_with fail
  have DH1 := H1.drew
  have DH2 := H2.drew
  have DB := Lib.hid (keptDrew8 HB.out)
  clear H1 H2 HB
  have DRva := Lib.hid (Rva.out.drew)
  clear Rva
  have DRvb := Lib.hid (Rvb.out.drew)
  clear Rvb
  refine wp_region_held_drew (S := fun w' => Has w' w.heap.size ns 24 ∧ Has w' (w.heap.size + 1) ds 6) (by kernel_rfl) ⟨DH1, DH2⟩ (fun hHeld => ?_)
  generalize hWD : World.drew _ = WD9 at *
  clear hWD
  (refine wpAnyH_take (i := 0) (v := _) rfl (by kernel_rfl) (by kernel_rfl) (by kernel_rfl) (fun _ _ _ h => h) (yieldsIf_load_mid (by rfl) 25 _ rfl _ _ rfl (ints ns) _ (fun w' hSw => hSw.1.holds.range) Try.underlying25 rfl (hi1)) hHeld ?_; (try simp only [List.getElem_toArray, List.getElem_cons_zero, List.getElem_cons_succ, Act.put, List.setIfInBounds_toArray, List.set_cons_zero, List.set_cons_succ]))
  (refine wpAnyH_take (i := 2) (v := _) rfl (by kernel_rfl) (by kernel_rfl) (by kernel_rfl) (fun _ _ _ h => h) (yieldsIf_load_mid (by rfl) 26 _ rfl _ _ rfl (ints ds) _ (fun w' hSw => hSw.2.holds.range) Try.underlying26 rfl (hi2)) hHeld ?_; (try simp only [List.getElem_toArray, List.getElem_cons_zero, List.getElem_cons_succ, Act.put, List.setIfInBounds_toArray, List.set_cons_zero, List.set_cons_succ]))
  (refine wpAnyH_ready (rs := [1]) (by kernel_rfl) (by simp) ?_; refine AllReadyH.cons (o := _) rfl (fun K hK => ?_) AllReadyH.nil; (simp only [List.getElem_toArray, List.getElem_cons_zero, List.getElem_cons_succ, Region.wanted, if_true]))
  go_simp
  refine (toRack_any ns _ hns).mono ?_
  rintro e wc10 ⟨rfl, bc10⟩
  dsimp only
  (try simp only [List.getElem_toArray, List.getElem_cons_zero, List.getElem_cons_succ, Act.put, List.setIfInBounds_toArray, List.set_cons_zero, List.set_cons_succ])
  refine hK.out _ _ ⟨hHeld.1.below bc10, hHeld.2.below bc10⟩ (fun hHeld => ?_)
  clear hK K
  replace DH1 := DH1.below bc10
  replace DH2 := DH2.below bc10
  replace DB := Lib.hid (DB.out.call bc10)
  replace DRva := Lib.hid (DRva.out.below bc10)
  replace DRvb := Lib.hid (DRvb.out.below bc10)
  clear bc10
  (refine wpAnyH_ready (rs := [3]) (by kernel_rfl) (by simp) ?_; refine AllReadyH.cons (o := _) rfl (fun K hK => ?_) AllReadyH.nil; (simp only [List.getElem_toArray, List.getElem_cons_zero, List.getElem_cons_succ, Region.wanted, if_true]))
  go_simp
  refine (toIntA6v ds _ hds).mono ?_
  rintro e wc11 ⟨rfl, bc11⟩
  dsimp only
  (try simp only [List.getElem_toArray, List.getElem_cons_zero, List.getElem_cons_succ, Act.put, List.setIfInBounds_toArray, List.set_cons_zero, List.set_cons_succ])
  refine hK.out _ _ ⟨hHeld.1.below bc11, hHeld.2.below bc11⟩ (fun hHeld => ?_)
  clear hK K
  replace DH1 := DH1.below bc11
  replace DH2 := DH2.below bc11
  replace DB := Lib.hid (DB.out.call bc11)
  replace DRva := Lib.hid (DRva.out.below bc11)
  replace DRvb := Lib.hid (DRvb.out.below bc11)
  clear bc11
  (refine wpAnyH_ready (rs := [4]) (by kernel_rfl) (by simp) ?_; refine AllReadyH.cons (o := _) rfl (fun K hK => ?_) AllReadyH.nil; (simp only [List.getElem_toArray, List.getElem_cons_zero, List.getElem_cons_succ, Region.wanted, if_true]))
  go_simp
  refine (KI.out _).mono ?_
  rintro e wc12 ⟨vc, rfl, qvc, bc12⟩
  dsimp only
  (try simp only [List.getElem_toArray, List.getElem_cons_zero, List.getElem_cons_succ, Act.put, List.setIfInBounds_toArray, List.set_cons_zero, List.set_cons_succ])
  refine hK.out _ _ ⟨hHeld.1.below bc12, hHeld.2.below bc12⟩ (fun hHeld => ?_)
  clear hK K
  have lt0 := DH2.lt
  have lts := bc12.size
  replace DH1 := DH1.below bc12
  replace DH2 := DH2.below bc12
  replace DB := Lib.hid (DB.out.call bc12)
  have LwvcRva := Lib.hid (fun hn k hk => (DRva.out.ownlt hn k hk).2)
  replace DRva := Lib.hid (DRva.out.below bc12)
  have LwvcRvb := Lib.hid (fun hn k hk => (DRvb.out.ownlt hn k hk).2)
  replace DRvb := Lib.hid (DRvb.out.below bc12)
  have DRvc := Lib.hid qvc
  have L0vc := Lib.hid lt0
  clear bc12 qvc lts lt0
  (refine wpAnyH_take (i := 5) (v := ?_) rfl (by kernel_rfl) (by kernel_rfl) (by kernel_rfl) (fun _ _ _ h => h) (Or.inl ⟨by rfl, ?_⟩) hHeld ?_; rotate_left; (· (intro w' hSw; go_simp; try with_reducible rfl)); (try simp only [List.getElem_toArray, List.getElem_cons_zero, List.getElem_cons_succ, Act.put, List.setIfInBounds_toArray, List.set_cons_zero, List.set_cons_succ])); (refine wpAnyH_take (i := 6) (v := ?_) rfl (by kernel_rfl) (by kernel_rfl) (by kernel_rfl) (fun _ _ _ h => h) (Or.inl ⟨by rfl, ?_⟩) hHeld ?_; rotate_left; (· (intro w' hSw; go_simp; try with_reducible rfl)); (try simp only [List.getElem_toArray, List.getElem_cons_zero, List.getElem_cons_succ, Act.put, List.setIfInBounds_toArray, List.set_cons_zero, List.set_cons_succ])); (refine wpAnyH_take (i := 7) (v := ?_) rfl (by kernel_rfl) (by kernel_rfl) (by kernel_rfl) (fun _ _ _ h => h) (Or.inl ⟨by rfl, ?_⟩) hHeld ?_; rotate_left; (· (intro w' hSw; go_simp; try with_reducible rfl)); (try simp only [List.getElem_toArray, List.getElem_cons_zero, List.getElem_cons_succ, Act.put, List.setIfInBounds_toArray, List.set_cons_zero, List.set_cons_succ])); (refine wpAnyH_take (i := 8) (v := ?_) rfl (by kernel_rfl) (by kernel_rfl) (by kernel_rfl) (fun _ _ _ h => h) (Or.inl ⟨by rfl, ?_⟩) hHeld ?_; rotate_left; (· (intro w' hSw; go_simp; try with_reducible rfl)); (try simp only [List.getElem_toArray, List.getElem_cons_zero, List.getElem_cons_succ, Act.put, List.setIfInBounds_toArray, List.set_cons_zero, List.set_cons_succ])); (refine wpAnyH_take (i := 9) (v := ?_) rfl (by kernel_rfl) (by kernel_rfl) (by kernel_rfl) (fun _ _ _ h => h) (Or.inl ⟨by rfl, ?_⟩) hHeld ?_; rotate_left; (· (intro w' hSw; go_simp; try with_reducible rfl)); (try simp only [List.getElem_toArray, List.getElem_cons_zero, List.getElem_cons_succ, Act.put, List.setIfInBounds_toArray, List.set_cons_zero, List.set_cons_succ]))
  refine wpAnyH_done (by kernel_rfl) ?_ _
  have H1 := DH1
  have H2 := DH2
  have HB := DB
  clear DH1 DH2 DB hHeld
  have Rva := DRva
  clear DRva
  have Rvb := DRvb
  clear DRvb
  have Rvc := DRvc
  clear DRvc
  go_wp2_with fail
  refine (eqRw_same vc va _ _ _ _ _ (by omega) Rvc.out Rva.out).mono ?_
  rintro e w9 ⟨rfl, b9⟩
  replace HB := Lib.hid (HB.out.call b9)
  replace Rvb := Lib.hid (Rvb.out.below b9)
  clear b9 Rva Rvc H1 H2
  go_wp2_with fail
  refine (heldRw _ vb (saNA ns ds) 1 _ _ (by omega) (by omega) Rvb.out).mono ?_
  rintro e w' ⟨rfl, rfl⟩
  rw [← HZ.out]
  go_wp2_with fail
  go_ret
  exact ⟨rfl, HB.out⟩
end Go.Proofs.Ytcedpjjfcfeokab.base
