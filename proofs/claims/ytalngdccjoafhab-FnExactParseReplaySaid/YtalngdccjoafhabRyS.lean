/-
  Replays on the model's side, walked: all racks.
-/
import Derived.Test.YtalngdccjoafhabDoPZ
import Derived.Test.YtalngdccjoafhabRwZ
import Derived.Deep.Cut
import Derived.Deep.RegionHeld3
import Derived.Deep.CutRange
import Derived.Test.YtalngdccjoafhabBlkWZ
import Derived.Test.YtalngdccjoafhabGoodIZ
import Derived.Test.YtalngdccjoafhabRyI
namespace Go.Proofs.Ytalngdccjoafhab.base
open Go.ChangeShapes Go.WideShapes Go.ChangeAt Go.RowKit
set_option linter.unusedVariables false
set_option linter.unusedSimpArgs false

set_option maxHeartbeats 3200000 in
set_option maxRecDepth 100000 in
theorem l11Racks_any (ns fs : List Int) (v : Value) (n b : Nat) (w : World) (h24 : ns.length = 24) (hn : n ≤ 1048576) (h : Rw w b v n fs) :
    Calls Try.prog 40 #[rpV ns v] w fun e w' => ∃ u : Value, e = .returned (.tuple #[u, .bool (rpOk ns fs n)]) ∧ Gr w' w.heap.size 30 24 u (rkA ns fs n) ∧ Kept w w' := by
  obtain ⟨a, cap, rfl⟩ := h.shape
  have RY := Ry.box (v := .slice a n cap) w 32 h24
  have HB := Lib.hid ((kept_refl w).alloc (.cells (rpC ns (.slice a n cap)).toArray 32))
  have HR := Lib.hid (h.alloc (.cells (rpC ns (.slice a n cap)).toArray 32))
  have AP := Lib.hid (fun hn0 k hk => (h.ownlt hn0 k hk).2)
  have c24 := RY.pours
  have hi00 : (Try.prog.info? 30).map (·.size) = some 24 := by kernel_rfl
  have hip : ∀ x y : Int, (Try.prog.info? 51).map (·.size) = some (ints [x, y]).length := fun x y => by kernel_rfl
  clear h
  unfold rpV
  go_enter Try.func40, Try.ntmps40
  go_wp2_with (refine load_start rfl 30 _ rfl w.heap.size rfl ns _ _ RY _ Try.underlying30 rfl ?_ ?_; (· kernel_rfl))
  refine (l2Rack_any ns _ h24).mono ?_
  rintro e w1 ⟨rfl, b1⟩
  replace RY := RY.below b1
  replace HB := Lib.hid (HB.out.call b1)
  replace HR := Lib.hid (HR.out.below b1)
  have hs1 := b1.size
  rw [size1] at hs1
  clear b1 c24
  have c24 := RY.pours
  by_cases hv : vR ns = true
  rotate_left
  · have hf : vR ns = false := by simpa using hv
    have E : Hid (rpOk ns fs n = false) := Lib.hid (rp_off (k := 0) hf (Nat.zero_le _))
    have G0 := Lib.hid ((Gr.none w1 w.heap.size 30 24 (by omega)).as (rk_no E.out).symm)
    have HB2 := Lib.hid (HB.out.alloc (.cells #[] 30))
    rw [hf]
    clear hf hv
    go_wp2_with fail
    go_ret2
    exact ⟨_, by rw [E.out]; rfl, G0.out, HB2.out⟩
  rw [hv]
  have HV := Lib.hid hv
  clear hv
  by_cases hn60 : n ≤ 60
  rotate_left
  · have E : Hid (rpOk ns fs n = false) := Lib.hid (rp_far hn60)
    have G0 := Lib.hid ((Gr.none w1 w.heap.size 30 24 (by omega)).as (rk_no E.out).symm)
    have HB2 := Lib.hid (HB.out.alloc (.cells #[] 30))
    have hni : (60 : Int) < (n : Int) := by omega
    clear hn60
    go_wp2_with fail
    go_ret2
    exact ⟨_, by rw [E.out]; rfl, G0.out, HB2.out⟩
  have hni : (n : Int) ≤ 60 := by omega
  have hnf : decide ((60 : Int) < (n : Int)) = false := by simp; omega
  have G1 := Gr.one (w := w1) (b := w.heap.size) 30 (by omega) h24
  have RY1 := RY.alloc (.cells (ints ns).toArray 30)
  replace HB := Lib.hid (HB.out.alloc (.cells (ints ns).toArray 30))
  replace HR := Lib.hid (HR.out.alloc (.cells (ints ns).toArray 30))
  have G2 := Lib.hid (G1.as (rk_first ns fs).symm)
  have N0 : Hid (∀ z, (Value.slice (some ⟨w1.heap.size, 0, none⟩) 1 1).ownBlock = some z → z ≠ w.heap.size) := Lib.hid (fun z hz => by have := Option.some.inj (show some w1.heap.size = some z from hz); omega)
  have O0 : Hid (doOk ns fs 0 = true) := HV
  have HL := Lib.hid (doR_len h24 fs)
  have H24 := Lib.hid h24
  go_wp2_with (first | (refine load_start rfl 30 _ rfl w.heap.size rfl ns _ _ RY _ Try.underlying30 rfl ?_ ?_; (· kernel_rfl)) | (refine wpList_slice1 rfl 64 30 _ rfl 24 192 Try.underlying64 (by kernel_rfl) (by omega) (by omega) ns rfl h24 ?_))
  clear c24 hnf G1 RY HV
  go_loopw [4, 5] (fun u i wr => ∃ k : Nat, k ≤ n ∧ i = .int .i64 k ∧ Hid (Gr wr w.heap.size 30 24 u (rks ns fs k)) ∧ Ry wr w.heap.size ns (.slice a n cap) 32 ∧ Hid (Rw wr b (.slice a n cap) n fs) ∧ Hid (∀ z, u.ownBlock = some z → z ≠ w.heap.size) ∧ Hid (Kept w wr) ∧ Hid (doOk ns fs k = true)) (fun _ i _ => n - (intOf i).toNat)
  case atStart => exact ⟨0, by omega, rfl, G2, RY1, HR, N0, HB, O0⟩
  case round =>
    clear G2 RY1 HR N0 HB O0
    obtain ⟨k, hk, rfl, GU, RY, GR, NU, GB, GO⟩ := hrel
    have c24 := RY.pours
    by_cases hlt : k < n
    · have ki : (k : Int) < ((n : Nat) : Int) := by omega
      have k0 : (0 : Int) ≤ (k : Int) := by omega
      have k1 : (k : Int) < (k : Int) + 1 := by omega
      obtain ⟨g, cap2, hv', _, hgl⟩ := GR.out.form (by omega)
      injection hv' with ha _ hcap
      subst ha
      subst hcap
      obtain ⟨gu, cu, rfl, hub, hul⟩ := GU.out.form (by rw [rks_len]; omega)
      rw [rks_len] at *
      have hR := HL.out k
      have gru := Lib.hid (fun w' (hw : Kept wr w') => (GU.out.below hw).range (rks_len ns fs k).symm k (by omega))
      rw [rks_get ns fs k k (Nat.le_refl _)] at gru
      have C24 := Lib.hid (fun w' (hw : Kept wr w') => (RY.below hw).pours)
      have C0 : Hid (∀ w', Kept wr w' → w'.cell? ⟨g, k * 2, none⟩ = some (.int .i64 (fs.getD (k * 2) 0))) := Lib.hid (fun w' hw => (GR.out.below hw).cell (k * 2) (by omega))
      have C1 : Hid (∀ w', Kept wr w' → w'.cell? ⟨g, k * 2 + 1, none⟩ = some (.int .i64 (fs.getD (k * 2 + 1) 0))) := Lib.hid (fun w' hw => (GR.out.below hw).cell (k * 2 + 1) (by omega))
      have EO := Lib.hid (do_next ns fs k)
      have ER := Lib.hid (doR_next (ns := ns) (fs := fs) k)
      have EK := Lib.hid (rks_next ns fs k)
      have CV : Hid (vR (doR ns fs k) = true) := Lib.hid (do_valid H24.out GO.out)
      have YES := Lib.hid (show pourOk (doR ns fs k) (fs.getD (k * 2) 0) (fs.getD (k * 2 + 1) 0) = true → doOk ns fs (k + 1) = true from fun h => by rw [EO.out, GO.out, Bool.true_and]; exact h)
      have NO := Lib.hid (show pourOk (doR ns fs k) (fs.getD (k * 2) 0) (fs.getD (k * 2 + 1) 0) = false → rpOk ns fs n = false from fun h => rp_off (k := k + 1) (by rw [EO.out, GO.out, Bool.true_and]; exact h) (by omega))
      generalize fs.getD (k * 2) 0 = x at *
      generalize fs.getD (k * 2 + 1) 0 = y at *
      obtain ⟨C, hC⟩ : ∃ C, doR ns fs k = C := ⟨_, rfl⟩
      rw [hC] at hR gru CV YES NO ER
      clear hC
      have RG : Hid (∀ w', Kept wr w' → w'.rangeAt g (k * 2) (ints [x, y])) := Lib.hid (fun w' hw => range_two (C0.out w' hw) (C1.out w' hw))
      have hi2 := hip x y
      have hi1 : (Try.prog.info? 30).map (·.size) = some (ints C).length := by rw [ints_len, hR]; exact hi00
      have HCR := Lib.hid hR
      go_wp2_with fail
      clear c24
      refine wp_region_held_drew (S := fun w' => Kept wr w') (by kernel_rfl) ?_ (fun hHeld => ?_)
      · exact (kept_refl wr).drewN 1
      (refine wpAnyH_take (i := 0) (v := ?_) rfl (by kernel_rfl) (by kernel_rfl) (by kernel_rfl) (fun _ _ _ h => h) (Or.inl ⟨by rfl, ?_⟩) hHeld ?_; rotate_left; (· (intro w' hSw; go_simp; try with_reducible rfl)); (try simp only [List.getElem_toArray, List.getElem_cons_zero, List.getElem_cons_succ, Act.put, List.setIfInBounds_toArray, List.set_cons_zero, List.set_cons_succ])); (refine wpAnyH_take (i := 1) (v := ?_) rfl (by kernel_rfl) (by kernel_rfl) (by kernel_rfl) (fun _ _ _ h => h) (Or.inl ⟨by rfl, ?_⟩) hHeld ?_; rotate_left; (· (intro w' hSw; go_simp; try with_reducible rfl)); (try simp only [List.getElem_toArray, List.getElem_cons_zero, List.getElem_cons_succ, Act.put, List.setIfInBounds_toArray, List.set_cons_zero, List.set_cons_succ])); (refine wpAnyH_take (i := 2) (v := ?_) rfl (by kernel_rfl) (by kernel_rfl) (by kernel_rfl) (fun _ _ _ h => h) (Or.inl ⟨by rfl, ?_⟩) hHeld ?_; rotate_left; (· (intro w' hSw; go_simp; try with_reducible rfl)); (try simp only [List.getElem_toArray, List.getElem_cons_zero, List.getElem_cons_succ, Act.put, List.setIfInBounds_toArray, List.set_cons_zero, List.set_cons_succ])); (refine wpAnyH_take (i := 4) (v := ?_) rfl (by kernel_rfl) (by kernel_rfl) (by kernel_rfl) (fun _ _ _ h => h) (Or.inl ⟨by rfl, ?_⟩) hHeld ?_; rotate_left; (· (intro w' hSw; go_simp; try with_reducible rfl)); (try simp only [List.getElem_toArray, List.getElem_cons_zero, List.getElem_cons_succ, Act.put, List.setIfInBounds_toArray, List.set_cons_zero, List.set_cons_succ])); (refine wpAnyH_take (i := 6) (v := ?_) rfl (by kernel_rfl) (by kernel_rfl) (by kernel_rfl) (fun _ _ _ h => h) (Or.inl ⟨by rfl, ?_⟩) hHeld ?_; rotate_left; (· (intro w' hSw; go_simp; try with_reducible rfl)); (try simp only [List.getElem_toArray, List.getElem_cons_zero, List.getElem_cons_succ, Act.put, List.setIfInBounds_toArray, List.set_cons_zero, List.set_cons_succ]))
      (refine wpAnyH_take (i := 3) (v := _) rfl (by kernel_rfl) (by kernel_rfl) (by kernel_rfl) (fun _ _ _ h => h) (yieldsIf_load_mid (by rfl) 30 _ rfl _ _ rfl (ints C) _ (fun w' hSw => gru.out w' hSw) Try.underlying30 rfl (hi1)) hHeld ?_; (try simp only [List.getElem_toArray, List.getElem_cons_zero, List.getElem_cons_succ, Act.put, List.setIfInBounds_toArray, List.set_cons_zero, List.set_cons_succ]))
      (refine wpAnyH_take (i := 5) (v := .slice (some ⟨g, 0, none⟩) n cap) rfl (by kernel_rfl) (by kernel_rfl) (by kernel_rfl) (fun _ _ _ h => h) (Or.inl ⟨by rfl, ?_⟩) hHeld ?_; (· (intro w' hSw; have q := C24.out w' hSw; clear hSw; go_simp; try with_reducible rfl)); (try simp only [List.getElem_toArray, List.getElem_cons_zero, List.getElem_cons_succ, Act.put, List.setIfInBounds_toArray, List.set_cons_zero, List.set_cons_succ]))
      (refine wpAnyH_take (i := 7) (v := ?_) rfl (by kernel_rfl) (by kernel_rfl) (by kernel_rfl) (fun _ _ _ h => h) (Or.inl ⟨by rfl, ?_⟩) hHeld ?_; rotate_left; (· (intro w' hSw; go_simp; try with_reducible rfl)); (try simp only [List.getElem_toArray, List.getElem_cons_zero, List.getElem_cons_succ, Act.put, List.setIfInBounds_toArray, List.set_cons_zero, List.set_cons_succ]))
      (refine wpAnyH_take (i := 8) (v := _) rfl (by kernel_rfl) (by kernel_rfl) (by kernel_rfl) (fun _ _ _ h => h) (yieldsIf_load_mid (by rfl) 51 _ rfl _ _ rfl (ints [x, y]) _ (fun w' hSw => RG.out w' hSw) Try.underlying51 rfl (hi2)) hHeld ?_; (try simp only [List.getElem_toArray, List.getElem_cons_zero, List.getElem_cons_succ, Act.put, List.setIfInBounds_toArray, List.set_cons_zero, List.set_cons_succ]))
      (refine wpAnyH_ready (rs := [9]) (by kernel_rfl) (by simp) ?_; refine AllReadyH.cons (o := _) rfl (fun K hK => ?_) AllReadyH.nil; (simp only [List.getElem_toArray, List.getElem_cons_zero, List.getElem_cons_succ, Region.wanted, if_true]))
      go_simp
      refine (l6Can_any C x y _ HCR.out CV.out).mono ?_
      rintro e wc ⟨rfl, bc⟩
      dsimp only
      (try simp only [List.getElem_toArray, List.getElem_cons_zero, List.getElem_cons_succ, Act.put, List.setIfInBounds_toArray, List.set_cons_zero, List.set_cons_succ])
      have KC := Kept.call hHeld bc
      refine hK.out _ _ KC (fun hHeld => ?_)
      clear hK K bc
      (refine wpAnyH_take (i := 10) (v := ?_) rfl (by kernel_rfl) (by kernel_rfl) (by kernel_rfl) (fun _ _ _ h => h) (Or.inl ⟨by rfl, ?_⟩) hHeld ?_; rotate_left; (· (intro w' hSw; go_simp; try with_reducible rfl)); (try simp only [List.getElem_toArray, List.getElem_cons_zero, List.getElem_cons_succ, Act.put, List.setIfInBounds_toArray, List.set_cons_zero, List.set_cons_succ]))
      refine wpAnyH_done (by kernel_rfl) ?_ _
      clear hHeld
      by_cases hp : pourOk C x y = true
      · have GO2 := Lib.hid (YES.out hp)
        obtain ⟨p, q, rfl, rfl, p6, q6, hne, hc⟩ := pourOk_parts hp
        have R24 := pourR_len hR (p : Int) (q : Int)
        rw [pourR_T hp] at ER R24
        rw [hp]
        have HNE := Lib.hid hne
        have HC := Lib.hid hc
        clear hp hne hc
        generalize hRT : pourT C p q = R at *
        have HRT := Lib.hid hRT
        clear hRT
        have l2 : (ints R).length = 24 := by rw [ints_len]; exact R24
        have D0 : Hid (∀ w', Kept wc w' → w'.cell? ⟨g, k * 2, none⟩ = some (.int .i64 (p : Int))) := Lib.hid (fun w' hw => C0.out w' (KC.call hw))
        have D1 : Hid (∀ w', Kept wc w' → w'.cell? ⟨g, k * 2 + 1, none⟩ = some (.int .i64 (q : Int))) := Lib.hid (fun w' hw => C1.out w' (KC.call hw))
        have D24 : Hid (∀ w', Kept wc w' → w'.cell? ⟨w.heap.size, 24, none⟩ = some (.slice (some ⟨g, 0, none⟩) n cap)) := Lib.hid (fun w' hw => C24.out w' (KC.call hw))
        have gru2 : Hid (∀ w', Kept wc w' → w'.rangeAt gu (k * 24) (ints C)) := Lib.hid (fun w' hw => gru.out w' (KC.call hw))
        replace RY := RY.below KC
        replace GU := Lib.hid (GU.out.below KC)
        replace GR := Lib.hid (GR.out.below KC)
        replace GB := Lib.hid (GB.out.call KC)
        clear KC C0 C1 C24 RG YES NO gru
        have hi0 := hi00
        go_wp2_with fail
        refine wp_region_held_drew (S := fun w' => Kept wc w') (by kernel_rfl) ?_ (fun hHeld => ?_)
        · exact (kept_refl wc).drewN 1
        (refine wpAnyH_take (i := 0) (v := ?_) rfl (by kernel_rfl) (by kernel_rfl) (by kernel_rfl) (fun _ _ _ h => h) (Or.inl ⟨by rfl, ?_⟩) hHeld ?_; rotate_left; (· (intro w' hSw; go_simp; try with_reducible rfl)); (try simp only [List.getElem_toArray, List.getElem_cons_zero, List.getElem_cons_succ, Act.put, List.setIfInBounds_toArray, List.set_cons_zero, List.set_cons_succ])); (refine wpAnyH_take (i := 1) (v := ?_) rfl (by kernel_rfl) (by kernel_rfl) (by kernel_rfl) (fun _ _ _ h => h) (Or.inl ⟨by rfl, ?_⟩) hHeld ?_; rotate_left; (· (intro w' hSw; go_simp; try with_reducible rfl)); (try simp only [List.getElem_toArray, List.getElem_cons_zero, List.getElem_cons_succ, Act.put, List.setIfInBounds_toArray, List.set_cons_zero, List.set_cons_succ])); (refine wpAnyH_take (i := 2) (v := ?_) rfl (by kernel_rfl) (by kernel_rfl) (by kernel_rfl) (fun _ _ _ h => h) (Or.inl ⟨by rfl, ?_⟩) hHeld ?_; rotate_left; (· (intro w' hSw; go_simp; try with_reducible rfl)); (try simp only [List.getElem_toArray, List.getElem_cons_zero, List.getElem_cons_succ, Act.put, List.setIfInBounds_toArray, List.set_cons_zero, List.set_cons_succ])); (refine wpAnyH_take (i := 4) (v := ?_) rfl (by kernel_rfl) (by kernel_rfl) (by kernel_rfl) (fun _ _ _ h => h) (Or.inl ⟨by rfl, ?_⟩) hHeld ?_; rotate_left; (· (intro w' hSw; go_simp; try with_reducible rfl)); (try simp only [List.getElem_toArray, List.getElem_cons_zero, List.getElem_cons_succ, Act.put, List.setIfInBounds_toArray, List.set_cons_zero, List.set_cons_succ])); (refine wpAnyH_take (i := 6) (v := ?_) rfl (by kernel_rfl) (by kernel_rfl) (by kernel_rfl) (fun _ _ _ h => h) (Or.inl ⟨by rfl, ?_⟩) hHeld ?_; rotate_left; (· (intro w' hSw; go_simp; try with_reducible rfl)); (try simp only [List.getElem_toArray, List.getElem_cons_zero, List.getElem_cons_succ, Act.put, List.setIfInBounds_toArray, List.set_cons_zero, List.set_cons_succ])); (refine wpAnyH_take (i := 10) (v := ?_) rfl (by kernel_rfl) (by kernel_rfl) (by kernel_rfl) (fun _ _ _ h => h) (Or.inl ⟨by rfl, ?_⟩) hHeld ?_; rotate_left; (· (intro w' hSw; go_simp; try with_reducible rfl)); (try simp only [List.getElem_toArray, List.getElem_cons_zero, List.getElem_cons_succ, Act.put, List.setIfInBounds_toArray, List.set_cons_zero, List.set_cons_succ])); (refine wpAnyH_take (i := 12) (v := ?_) rfl (by kernel_rfl) (by kernel_rfl) (by kernel_rfl) (fun _ _ _ h => h) (Or.inl ⟨by rfl, ?_⟩) hHeld ?_; rotate_left; (· (intro w' hSw; go_simp; try with_reducible rfl)); (try simp only [List.getElem_toArray, List.getElem_cons_zero, List.getElem_cons_succ, Act.put, List.setIfInBounds_toArray, List.set_cons_zero, List.set_cons_succ]))
        (refine wpAnyH_take (i := 3) (v := _) rfl (by kernel_rfl) (by kernel_rfl) (by kernel_rfl) (fun _ _ _ h => h) (yieldsIf_load_mid (by rfl) 30 _ rfl _ _ rfl (ints C) _ (fun w' hSw => gru2.out w' hSw) Try.underlying30 rfl (hi1)) hHeld ?_; (try simp only [List.getElem_toArray, List.getElem_cons_zero, List.getElem_cons_succ, Act.put, List.setIfInBounds_toArray, List.set_cons_zero, List.set_cons_succ]))
        (refine wpAnyH_take (i := 5) (v := .slice (some ⟨g, 0, none⟩) n cap) rfl (by kernel_rfl) (by kernel_rfl) (by kernel_rfl) (fun _ _ _ h => h) (Or.inl ⟨by rfl, ?_⟩) hHeld ?_; (· (intro w' hSw; have q := D24.out w' hSw; clear hSw; go_simp; try with_reducible rfl)); (try simp only [List.getElem_toArray, List.getElem_cons_zero, List.getElem_cons_succ, Act.put, List.setIfInBounds_toArray, List.set_cons_zero, List.set_cons_succ]))
        (refine wpAnyH_take (i := 11) (v := .slice (some ⟨g, 0, none⟩) n cap) rfl (by kernel_rfl) (by kernel_rfl) (by kernel_rfl) (fun _ _ _ h => h) (Or.inl ⟨by rfl, ?_⟩) hHeld ?_; (· (intro w' hSw; have q := D24.out w' hSw; clear hSw; go_simp; try with_reducible rfl)); (try simp only [List.getElem_toArray, List.getElem_cons_zero, List.getElem_cons_succ, Act.put, List.setIfInBounds_toArray, List.set_cons_zero, List.set_cons_succ]))
        (refine wpAnyH_take (i := 7) (v := ?_) rfl (by kernel_rfl) (by kernel_rfl) (by kernel_rfl) (fun _ _ _ h => h) (Or.inl ⟨by rfl, ?_⟩) hHeld ?_; rotate_left; (· (intro w' hSw; go_simp; try with_reducible rfl)); (try simp only [List.getElem_toArray, List.getElem_cons_zero, List.getElem_cons_succ, Act.put, List.setIfInBounds_toArray, List.set_cons_zero, List.set_cons_succ])); (refine wpAnyH_take (i := 8) (v := ?_) rfl (by kernel_rfl) (by kernel_rfl) (by kernel_rfl) (fun _ _ _ h => h) (Or.inl ⟨by rfl, ?_⟩) hHeld ?_; rotate_left; (· (intro w' hSw; go_simp; try with_reducible rfl)); (try simp only [List.getElem_toArray, List.getElem_cons_zero, List.getElem_cons_succ, Act.put, List.setIfInBounds_toArray, List.set_cons_zero, List.set_cons_succ])); (refine wpAnyH_take (i := 13) (v := ?_) rfl (by kernel_rfl) (by kernel_rfl) (by kernel_rfl) (fun _ _ _ h => h) (Or.inl ⟨by rfl, ?_⟩) hHeld ?_; rotate_left; (· (intro w' hSw; go_simp; try with_reducible rfl)); (try simp only [List.getElem_toArray, List.getElem_cons_zero, List.getElem_cons_succ, Act.put, List.setIfInBounds_toArray, List.set_cons_zero, List.set_cons_succ])); (refine wpAnyH_take (i := 14) (v := ?_) rfl (by kernel_rfl) (by kernel_rfl) (by kernel_rfl) (fun _ _ _ h => h) (Or.inl ⟨by rfl, ?_⟩) hHeld ?_; rotate_left; (· (intro w' hSw; go_simp; try with_reducible rfl)); (try simp only [List.getElem_toArray, List.getElem_cons_zero, List.getElem_cons_succ, Act.put, List.setIfInBounds_toArray, List.set_cons_zero, List.set_cons_succ]))
        (refine wpAnyH_take (i := 9) (v := .int .i64 (p : Int)) rfl (by kernel_rfl) (by kernel_rfl) (by kernel_rfl) (fun _ _ _ h => h) (Or.inl ⟨by rfl, ?_⟩) hHeld ?_; (· (intro w' hSw; have q := D0.out w' hSw; clear hSw; go_simp; try with_reducible rfl)); (try simp only [List.getElem_toArray, List.getElem_cons_zero, List.getElem_cons_succ, Act.put, List.setIfInBounds_toArray, List.set_cons_zero, List.set_cons_succ]))
        (refine wpAnyH_take (i := 15) (v := .int .i64 (q : Int)) rfl (by kernel_rfl) (by kernel_rfl) (by kernel_rfl) (fun _ _ _ h => h) (Or.inl ⟨by rfl, ?_⟩) hHeld ?_; (· (intro w' hSw; have q := D1.out w' hSw; clear hSw; go_simp; try with_reducible rfl)); (try simp only [List.getElem_toArray, List.getElem_cons_zero, List.getElem_cons_succ, Act.put, List.setIfInBounds_toArray, List.set_cons_zero, List.set_cons_succ]))
        refine wpAnyH_ready (rs := [16, 20]) (by kernel_rfl) (by simp) ?_
        refine AllReadyH.cons (o := _) rfl (fun K hK => ?callFirst) (AllReadyH.cons (o := _) rfl (fun K hK => ?makeFirst) AllReadyH.nil)
        case' callFirst =>
          (simp only [List.getElem_toArray, List.getElem_cons_zero, List.getElem_cons_succ, Region.wanted, if_true])
          go_simp
          refine (l2Pour_any C p q _ HCR.out CV.out p6 q6 HNE.out HC.out).mono ?_
          rintro e wp2 ⟨rfl, bp2⟩
          rw [HRT.out]
          dsimp only
          (try simp only [List.getElem_toArray, List.getElem_cons_zero, List.getElem_cons_succ, Act.put, List.setIfInBounds_toArray, List.set_cons_zero, List.set_cons_succ])
          have KW := Kept.call hHeld bp2
          refine hK.out _ _ KW (fun hHeld => ?_)
          clear hK K bp2
          (refine wpAnyH_take (i := 17) (v := ?_) rfl (by kernel_rfl) (by kernel_rfl) (by kernel_rfl) (fun _ _ _ h => h) (Or.inl ⟨by rfl, ?_⟩) hHeld ?_; rotate_left; (· (intro w' hSw; go_simp; try with_reducible rfl)); (try simp only [List.getElem_toArray, List.getElem_cons_zero, List.getElem_cons_succ, Act.put, List.setIfInBounds_toArray, List.set_cons_zero, List.set_cons_succ])); (refine wpAnyH_take (i := 18) (v := ?_) rfl (by kernel_rfl) (by kernel_rfl) (by kernel_rfl) (fun _ _ _ h => h) (Or.inl ⟨by rfl, ?_⟩) hHeld ?_; rotate_left; (· (intro w' hSw; go_simp; try with_reducible rfl)); (try simp only [List.getElem_toArray, List.getElem_cons_zero, List.getElem_cons_succ, Act.put, List.setIfInBounds_toArray, List.set_cons_zero, List.set_cons_succ])); (refine wpAnyH_take (i := 19) (v := ?_) rfl (by kernel_rfl) (by kernel_rfl) (by kernel_rfl) (fun _ _ _ h => h) (Or.inl ⟨by rfl, ?_⟩) hHeld ?_; rotate_left; (· (intro w' hSw; go_simp; try with_reducible rfl)); (try simp only [List.getElem_toArray, List.getElem_cons_zero, List.getElem_cons_succ, Act.put, List.setIfInBounds_toArray, List.set_cons_zero, List.set_cons_succ]))
          (refine wpAnyH_ready (rs := [20]) (by kernel_rfl) (by simp) ?_; refine AllReadyH.cons (o := _) rfl (fun K hK => ?_) AllReadyH.nil; (simp only [List.getElem_toArray, List.getElem_cons_zero, List.getElem_cons_succ, Region.wanted, if_true]))
          go_simp
          have F9 := Has.zero24 wp2 30
          have h9 := KW.size
          replace KW := KW.alloc (.cells #[.int .i64 0, .int .i64 0, .int .i64 0, .int .i64 0, .int .i64 0, .int .i64 0, .int .i64 0, .int .i64 0, .int .i64 0, .int .i64 0, .int .i64 0, .int .i64 0, .int .i64 0, .int .i64 0, .int .i64 0, .int .i64 0, .int .i64 0, .int .i64 0, .int .i64 0, .int .i64 0, .int .i64 0, .int .i64 0, .int .i64 0, .int .i64 0] 30)
          refine hK.out _ _ KW (fun hHeld => ?_)
          clear hK K
          generalize wp2.alloc (.cells #[.int .i64 0, .int .i64 0, .int .i64 0, .int .i64 0, .int .i64 0, .int .i64 0, .int .i64 0, .int .i64 0, .int .i64 0, .int .i64 0, .int .i64 0, .int .i64 0, .int .i64 0, .int .i64 0, .int .i64 0, .int .i64 0, .int .i64 0, .int .i64 0, .int .i64 0, .int .i64 0, .int .i64 0, .int .i64 0, .int .i64 0, .int .i64 0] 30) = wp3 at *
          generalize wp2.heap.size = b9 at *
        case' makeFirst =>
          (simp only [List.getElem_toArray, List.getElem_cons_zero, List.getElem_cons_succ, Region.wanted, if_true])
          go_simp
          have F9 : Has _ wc.heap.size z24 24 := Has.zero24 wc.drew 30
          have KW := Kept.alloc hHeld (.cells #[.int .i64 0, .int .i64 0, .int .i64 0, .int .i64 0, .int .i64 0, .int .i64 0, .int .i64 0, .int .i64 0, .int .i64 0, .int .i64 0, .int .i64 0, .int .i64 0, .int .i64 0, .int .i64 0, .int .i64 0, .int .i64 0, .int .i64 0, .int .i64 0, .int .i64 0, .int .i64 0, .int .i64 0, .int .i64 0, .int .i64 0, .int .i64 0] 30)
          obtain ⟨b9, hb9⟩ : ∃ b : Nat, b = wc.heap.size := ⟨_, rfl⟩
          have h9 : wc.heap.size ≤ b9 := by omega
          rw [← hb9] at F9
          refine hK.out _ _ KW (fun hHeld => ?_)
          clear hK K
          (refine wpAnyH_ready (rs := [16]) (by kernel_rfl) (by simp) ?_; refine AllReadyH.cons (o := _) rfl (fun K hK => ?_) AllReadyH.nil; (simp only [List.getElem_toArray, List.getElem_cons_zero, List.getElem_cons_succ, Region.wanted, if_true]))
          go_simp
          refine (l2Pour_any C p q _ HCR.out CV.out p6 q6 HNE.out HC.out).mono ?_
          rintro e wp3 ⟨rfl, bp2⟩
          rw [HRT.out]
          dsimp only
          (try simp only [List.getElem_toArray, List.getElem_cons_zero, List.getElem_cons_succ, Act.put, List.setIfInBounds_toArray, List.set_cons_zero, List.set_cons_succ])
          replace F9 := F9.below bp2
          replace KW := KW.call bp2
          refine hK.out _ _ KW (fun hHeld => ?_)
          clear hK K bp2
          (refine wpAnyH_take (i := 17) (v := ?_) rfl (by kernel_rfl) (by kernel_rfl) (by kernel_rfl) (fun _ _ _ h => h) (Or.inl ⟨by rfl, ?_⟩) hHeld ?_; rotate_left; (· (intro w' hSw; go_simp; try with_reducible rfl)); (try simp only [List.getElem_toArray, List.getElem_cons_zero, List.getElem_cons_succ, Act.put, List.setIfInBounds_toArray, List.set_cons_zero, List.set_cons_succ])); (refine wpAnyH_take (i := 18) (v := ?_) rfl (by kernel_rfl) (by kernel_rfl) (by kernel_rfl) (fun _ _ _ h => h) (Or.inl ⟨by rfl, ?_⟩) hHeld ?_; rotate_left; (· (intro w' hSw; go_simp; try with_reducible rfl)); (try simp only [List.getElem_toArray, List.getElem_cons_zero, List.getElem_cons_succ, Act.put, List.setIfInBounds_toArray, List.set_cons_zero, List.set_cons_succ])); (refine wpAnyH_take (i := 19) (v := ?_) rfl (by kernel_rfl) (by kernel_rfl) (by kernel_rfl) (fun _ _ _ h => h) (Or.inl ⟨by rfl, ?_⟩) hHeld ?_; rotate_left; (· (intro w' hSw; go_simp; try with_reducible rfl)); (try simp only [List.getElem_toArray, List.getElem_cons_zero, List.getElem_cons_succ, Act.put, List.setIfInBounds_toArray, List.set_cons_zero, List.set_cons_succ]))
          rw [← hb9]
          clear hb9
        all_goals
          (refine wpAnyH_ready (rs := [21]) (by kernel_rfl) (by simp) ?_; refine AllReadyH.cons (o := _) rfl (fun K hK => ?_) AllReadyH.nil; (simp only [List.getElem_toArray, List.getElem_cons_zero, List.getElem_cons_succ, Region.wanted, if_true]))
          refine wp_store_mid _ _ _ rfl _ _ (ints R).toArray rfl rfl (by simpa [l2] using F9.there) (by simpa [l2] using hi0) (all_oneCell_toArray (ints_one _)) ?_
          (try simp only [List.getElem_toArray, List.getElem_cons_zero, List.getElem_cons_succ, Act.put, List.setIfInBounds_toArray, List.set_cons_zero, List.set_cons_succ, List.toList_toArray])
          replace F9 := F9.putAll R R24
          replace KW := KW.puts (b := b9) h9 0 (ints R)
          refine hK.out _ _ KW (fun hHeld => ?_)
          clear hK K
          (refine wpAnyH_take (i := 22) (v := ?_) rfl (by kernel_rfl) (by kernel_rfl) (by kernel_rfl) (fun _ _ _ h => h) (Or.inl ⟨by rfl, ?_⟩) hHeld ?_; rotate_left; (· (intro w' hSw; go_simp; try with_reducible rfl)); (try simp only [List.getElem_toArray, List.getElem_cons_zero, List.getElem_cons_succ, Act.put, List.setIfInBounds_toArray, List.set_cons_zero, List.set_cons_succ]))
          refine wpAnyH_done (by kernel_rfl) ?_ _
          clear hHeld
          generalize wp3.setCells b9 0 (ints R) = wp4 at *
          replace RY := RY.below KW
          replace GU := Lib.hid (GU.out.below KW)
          replace GR := Lib.hid (GR.out.below KW)
          replace GB := Lib.hid (GB.out.call KW)
          have lU := Lib.hid (fun z hz => (GU.out.own z hz).1)
          have hws := GB.out.size
          have hrl := RY.lt
          clear KW D0 D1 D24 gru2
          go_wp2_with (first | (refine load_has rfl 30 _ rfl b9 rfl R 24 F9 _ Try.underlying30 rfl ?_ ?_; (· kernel_rfl)) | (refine wpList_slice1 rfl 64 30 _ rfl 24 192 Try.underlying64 (by kernel_rfl) (by omega) (by omega) R rfl R24 ?_) | (at_builtin; refine append_gr rfl _ _ 64 rfl w.heap.size 30 24 192 Try.underlying64 (by kernel_rfl) (by omega) (by omega) _ (k + 1) (rks ns fs k) (rks_len ns fs k) rfl (GU.out.alloc _) wp4.heap.size 1 rfl R (Has.box wp4 30 R24 (by omega)) (by rw [size1]; omega) (by omega) ?_; intro g' cu' w7 hG hgrow hlie hlt7))
          have M1 := Lib.hid (hG.as (show rks ns fs k ++ [R] = rks ns fs (k + 1) by rw [EK.out, ER.out]))
          have M2 := (RY.alloc (.cells (ints R).toArray 30)).grown hgrow (fun e => NU.out _ e.symm rfl)
          have M3 := Lib.hid ((GR.out.alloc (.cells (ints R).toArray 30)).grownP hgrow (fun h0 j hj => .inr (fun e => by
            have h1 := Option.some.inj (show some g = some j from e)
            have h2 := lU.out j hj
            have h3 := AP.out h0 g rfl
            omega)))
          have M5 : Hid (Kept w w7) := Lib.hid ((GB.out.alloc (.cells (ints R).toArray 30)).grown hgrow (by rw [size1]; omega) (fun j hj => lU.out j hj))
          have M4 : Hid (∀ z, (Value.slice (some ⟨g', 0, none⟩) (k + 1 + 1) cu').ownBlock = some z → z ≠ w.heap.size) := Lib.hid (fun z hz => by
            have h1 := Option.some.inj (show some g' = some z from hz)
            rcases hlie with h3 | h3
            · rw [← h1]; exact NU.out g' h3
            · rw [size1] at h3; omega)
          clear hG hgrow hlie hlt7 GU GR GB NU F9 lU RY
          go_wp2_with fail
          go_roundw
          case rel => exact ⟨k + 1, by omega, by go_num, M1, M2, M3, M4, M5, GO2⟩
          case measure => simp [intOf]; omega
      · have hf : pourOk C x y = false := by simpa using hp
        have E := Lib.hid (NO.out hf)
        replace GB := Lib.hid (GB.out.call KC)
        have hws := GB.out.size
        have G0 := Lib.hid ((Gr.none wc w.heap.size 30 24 (by omega)).as (rk_no E.out).symm)
        have HB2 := Lib.hid (GB.out.alloc (.cells #[] 30))
        rw [hf]
        clear hf hp KC YES NO
        go_wp2_with fail
        go_ret2
        exact ⟨_, by rw [E.out]; rfl, G0.out, HB2.out⟩
    · obtain rfl : k = n := by omega
      have E := Lib.hid (rp_of hn60 GO.out)
      have G9 := Lib.hid (GU.out.as (rk_yes E.out).symm)
      have hnn : decide ((k : Int) < (k : Int)) = false := by simp
      clear GU
      go_wp2_with fail
      go_ret2
      exact ⟨_, by rw [E.out]; rfl, G9.out, GB.out⟩
end Go.Proofs.Ytalngdccjoafhab.base
