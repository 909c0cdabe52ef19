/-
  The first form of a rack, on the program's side, walked: the walk.
-/
import Derived.Test.YtlleenepinijdaaFstI
namespace Go.Proofs.Ytlleenepinijdaa.base
open Go.ChangeShapes Go.WideShapes Go.ChangeAt Go.RowKit
set_option linter.unusedVariables false
set_option linter.unusedSimpArgs false

theorem colR_zero {g : List Int} (hg : g ∈ allN) {c : Int} (hc : 0 ≤ c ∧ c ≤ 5) : colR g c = 0 ↔ c = 0 := by
  obtain ⟨na, la⟩ := allN_names hg
  obtain ⟨a0, ar, ad⟩ := (names_iff la).1 na
  unfold colR
  constructor
  · intro h
    by_cases e : c = 0
    · exact e
    · exact absurd (a0.trans h.symm) (ad 0 c.toNat (by omega) (by omega))
  · rintro rfl; exact a0
theorem ren_tub_valid {g : List Int} (hg : g ∈ allN) {t : List Int} (h4 : t.length = 4) (ht : vT t = true) : vT (t.map (colR g)) = true := by
  obtain ⟨na, la⟩ := allN_names hg
  obtain ⟨a0, ar, ad⟩ := (names_iff la).1 na
  have hk := (known_iff h4).1 (by unfold vT at ht; exact (Bool.and_eq_true_iff.1 ht).1)
  have hn : noGap t = true := by unfold vT at ht; exact (Bool.and_eq_true_iff.1 ht).2
  obtain ⟨a, b, c, d, rfl⟩ := len4 h4
  have k0 := hk 0 (by omega)
  have k1 := hk 1 (by omega)
  have k2 := hk 2 (by omega)
  have k3 := hk 3 (by omega)
  simp only [List.getD_cons_zero, List.getD_cons_succ] at k0 k1 k2 k3
  have z0 := colR_zero hg k0
  have z1 := colR_zero hg k1
  have z2 := colR_zero hg k2
  have z3 := colR_zero hg k3
  have r0 : 0 ≤ colR g a ∧ colR g a ≤ 5 := ar a.toNat (by omega)
  have r1 : 0 ≤ colR g b ∧ colR g b ≤ 5 := ar b.toNat (by omega)
  have r2 : 0 ≤ colR g c ∧ colR g c ≤ 5 := ar c.toNat (by omega)
  have r3 : 0 ≤ colR g d ∧ colR g d ≤ 5 := ar d.toNat (by omega)
  have e : noGap ([a, b, c, d].map (colR g)) = noGap [a, b, c, d] := by
    simp only [noGap, gapAt, List.map_cons, List.map_nil, List.getD_cons_zero, List.getD_cons_succ, Nat.add_sub_cancel, show (1 : Nat) - 1 = 0 from rfl, show (2 : Nat) - 1 = 1 from rfl, show (3 : Nat) - 1 = 2 from rfl, ne_eq, z0, z1, z2, z3]
  unfold vT
  rw [e, hn, Bool.and_true]
  simp only [known, List.map_cons, List.map_nil, List.all_cons, List.all_nil, r0, r1, r2, r3, and_self, decide_true, Bool.and_true]
theorem renR_valid {ns g : List Int} (h24 : ns.length = 24) (hv : vR ns = true) (hg : g ∈ allN) : vR (renR ns g) = true := by
  refine vR_of (fun i hi => ?_)
  rw [renR_map h24, tub_map]
  exact ren_tub_valid hg (tub_len ns i h24 hi) (vR_tub hv i hi)
theorem formL_valid {ns : List Int} (h24 : ns.length = 24) (hv : vR ns = true) : vR (formL ns) = true := by
  have ht : ∀ t ∈ tubs ns, vT t = true := fun t ht => by
    simp only [tubs, List.mem_cons, List.not_mem_nil, or_false] at ht
    rcases ht with rfl | rfl | rfl | rfl | rfl | rfl
    · exact vR_tub hv 0 (by omega)
    · exact vR_tub hv 1 (by omega)
    · exact vR_tub hv 2 (by omega)
    · exact vR_tub hv 3 (by omega)
    · exact vR_tub hv 4 (by omega)
    · exact vR_tub hv 5 (by omega)
  refine vR_of (fun i hi => ?_)
  have hm : tub (formL ns) i ∈ tubs (formL ns) := by
    match i, hi with
    | 0, _ => simp [tubs]
    | 1, _ => simp [tubs]
    | 2, _ => simp [tubs]
    | 3, _ => simp [tubs]
    | 4, _ => simp [tubs]
    | 5, _ => simp [tubs]
  rw [formL_tubs ns h24] at hm
  exact ht _ ((isort_perm _).mem_iff.1 hm)
theorem Fst.valid {ns : List Int} {S : List Int → Prop} {x : List Int} (h24 : ns.length = 24) (hv : vR ns = true) (h : Fst ns S x) : vR x = true := by
  rcases h.one with e | ⟨g, hg, e⟩
  · rw [e]; exact formL_valid h24 hv
  · rw [e]; exact formL_valid (renR_len ns g) (renR_valid h24 hv hg)
theorem clsV_mem {ns y : List Int} (h : (clsV ns 120 y).isSome = true) : ∃ g ∈ allN, y = rf ns g := by
  unfold clsV clsF at h
  rw [Option.isSome_map, List.find?_isSome] at h
  obtain ⟨g, hg, e⟩ := h
  exact ⟨g, List.mem_of_mem_take hg, (of_decide_eq_true e).symm⟩
theorem clsV_all {ns g : List Int} (hg : g ∈ allN) : (clsV ns 120 (rf ns g)).isSome = true := by
  unfold clsV clsF
  rw [Option.isSome_map, List.find?_isSome]
  exact ⟨g, by rw [List.take_of_length_le (by rw [allN_len]; omega)]; exact hg, decide_eq_true rfl⟩

theorem implLessI (ns ms : List Int) (w : World) (h24 : ns.length = 24) (m24 : ms.length = 24) :
    Calls Try.prog 39 #[.agg (ints ns).toArray, .agg (ints ms).toArray] w fun e w' => e = .returned (.tuple #[.bool (lessA ns ms), .bool (lessOk ns ms)]) ∧ Kept w w' := by
  have := implLess ns ms w h24 m24
  rw [row_ints, row_ints] at this
  exact this
set_option maxHeartbeats 3200000 in
set_option maxRecDepth 100000 in
theorem implFirst (ns : List Int) (w : World) (h24 : ns.length = 24) :
    Calls Try.prog 19 #[row ns] w fun e w' => e = .returned (.tuple #[.agg (ints (firstR ns)).toArray, .bool (vR ns)]) ∧ Kept w w' := by
  have HB := Lib.hid (((kept_refl w).alloc (.cells (ints ns).toArray 28)).alloc (.cells #[.int .i64 0, .int .i64 0, .int .i64 0, .int .i64 0, .int .i64 0, .int .i64 0, .int .i64 0, .int .i64 0, .int .i64 0, .int .i64 0, .int .i64 0, .int .i64 0, .int .i64 0, .int .i64 0, .int .i64 0, .int .i64 0, .int .i64 0, .int .i64 0, .int .i64 0, .int .i64 0, .int .i64 0, .int .i64 0, .int .i64 0, .int .i64 0] 28))
  have H := (Has.box w 28 h24 (by omega)).alloc (.cells #[.int .i64 0, .int .i64 0, .int .i64 0, .int .i64 0, .int .i64 0, .int .i64 0, .int .i64 0, .int .i64 0, .int .i64 0, .int .i64 0, .int .i64 0, .int .i64 0, .int .i64 0, .int .i64 0, .int .i64 0, .int .i64 0, .int .i64 0, .int .i64 0, .int .i64 0, .int .i64 0, .int .i64 0, .int .i64 0, .int .i64 0, .int .i64 0] 28)
  have Z := (Has.zero24 (w.alloc (.cells (ints ns).toArray 28)) 28).at (size1 _ _)
  have hz : z24.length = 24 := rfl
  rw [row_ints]
  go_enter Try.func19, Try.ntmps19
  go_wp2_with (refine load_has rfl 28 _ rfl _ rfl ?_ 24 ?_ _ Try.underlying28 rfl ?_ ?_; rotate_left; (· (repeat (first | (with_reducible assumption) | ((with_reducible refine Has.box _ _ ?_ ?_) <;> (first | assumption | decide)) | (with_reducible refine Has.alloc ?_ _) | ((with_reducible refine Has.putOther ?_ _ _ ?_); rotate_left; omega; skip) | ((with_reducible refine Has.below ?_ ?_); rotate_left; assumption)))); (· kernel_rfl))
  refine (isRack_any ns _ h24).mono ?_
  rintro e w1 ⟨rfl, b1⟩
  replace H := H.below b1
  replace Z := Z.below b1
  replace HB := Lib.hid (HB.out.call b1)
  clear b1
  by_cases hv : vR ns = true
  · rw [hv]
    have E1 := Lib.hid (show firstR ns = firstUp ns 120 by unfold firstR; rw [if_pos hv])
    have HV := Lib.hid hv
    have HL := Lib.hid h24
    have hfl : (formL ns).length = 24 := formL_len ns h24
    clear hv
    go_wp2_with (refine load_has rfl 28 _ rfl _ rfl ?_ 24 ?_ _ Try.underlying28 rfl ?_ ?_; rotate_left; (· (repeat (first | (with_reducible assumption) | ((with_reducible refine Has.box _ _ ?_ ?_) <;> (first | assumption | decide)) | (with_reducible refine Has.alloc ?_ _) | ((with_reducible refine Has.putOther ?_ _ _ ?_); rotate_left; omega; skip) | ((with_reducible refine Has.below ?_ ?_); rotate_left; assumption)))); (· kernel_rfl))
    refine (formOf_any ns _ h24).mono ?_
    rintro e w2 ⟨rfl, b2⟩
    replace H := H.below b2
    replace Z := Z.below b2
    replace HB := Lib.hid (HB.out.call b2)
    clear b2
    go_wp2_with fail
    refine (formRack_any (formL ns) _ hfl).mono ?_
    rintro e w3 ⟨rfl, b3⟩
    have hZ3 := (Z.below b3).lt
    replace H := (H.below b3).alloc (.cells (ints (formL ns)).toArray 28)
    replace Z := (Z.below b3).alloc (.cells (ints (formL ns)).toArray 28)
    replace HB := Lib.hid ((HB.out.call b3).alloc (.cells (ints (formL ns)).toArray 28))
    have F := Has.box w3 28 hfl (by omega)
    clear b3
    go_upto_region 4 with (refine store_new rfl 28 _ _ rfl _ _ _ rfl _ rfl _ rfl rfl ?_ ?_ ?_; (· (first | assumption | rfl)); (· kernel_rfl))
    generalize w3.alloc (.cells (ints (formL ns)).toArray 28) = W at *
    generalize w3.heap.size = c4 at *
    have hFW := F.lt
    go_wp2_with (refine load_has rfl 28 _ rfl _ rfl ?_ 24 ?_ _ Try.underlying28 rfl ?_ ?_; rotate_left; (· (repeat (first | (with_reducible assumption) | ((with_reducible refine Has.box _ _ ?_ ?_) <;> (first | assumption | decide)) | (with_reducible refine Has.alloc ?_ _) | ((with_reducible refine Has.putOther ?_ _ _ ?_); rotate_left; omega; skip) | ((with_reducible refine Has.below ?_ ?_); rotate_left; assumption)))); (· kernel_rfl))
    refine (classOf_any ns _ h24 HV.out).mono ?_
    rintro e w5 ⟨gm, rfl, hgm, HM, b5⟩
    replace H := H.below b5
    replace Z := Z.below b5
    replace F := F.below b5
    replace HB := Lib.hid (HB.out.call b5)
    have F0 := Lib.hid (Fst.start (ns := ns) (fun _ => False) (fun _ h => h))
    have hFlt := F.lt
    have CM := Lib.hid (fun y (h : (clsV ns 120 y).isSome = true) => clsV_mem h)
    have CA := Lib.hid (fun g (h : g ∈ allN) => clsV_all (ns := ns) h)
    clear b5
    generalize clsN ns 120 = CN at *
    generalize clsV ns 120 = CV at *
    have hMlt := HM.lt
    go_wp2_with (at_range; refine range_start rfl _ rfl gm CN CV HM rfl ?_; intro w6 hR hgr hsz)
    go_frame
    replace H := H.grownNo hgr (by simp)
    replace Z := Z.grownNo hgr (by simp)
    replace F := F.grownNo hgr (by simp)
    replace HB : Hid (Kept w w6) := Lib.hid (HB.out.grown hgr HB.out.size (fun j hj => by cases hj))
    obtain ⟨cnt0, hR⟩ := hR
    replace hR := Lib.hid hR
    clear hgr hsz HM
    generalize w5.heap.size = r5 at *
    generalize hF0 : formL ns = f0 at *
    clear hF0
    go_loopg [6] cnt0 (fun gk s6 wr => ∃ (cnt : Nat) (S : List Int → Prop) (f : List Int), gk = cnt ∧ Hid (Rng wr gm r5 CN CV S cnt) ∧ Hid (Fst ns S f) ∧ Has wr (w.heap.size + 1) z24 24 ∧ Has wr c4 f 24 ∧ Hid (Kept w wr))
    case atStart => exact ⟨cnt0, _, _, rfl, hR, F0, Z, F, HB⟩
    case round =>
      obtain ⟨cnt, S, f, rfl, GR, GS, GZ, GF, GB⟩ := hrel
      have hf24 := GF.len
      go_wp2_with (at_next; refine range_step rfl _ rfl gm r5 CN gk CV S GR.out rfl ?_ ?_)
      · intro hall
        have hx := GF.lt
        have V := Lib.hid (fst_is HL.out GS.out (fun g hg => hall _ (rf_row HL.out HV.out hg) (CA.out g hg)))
        have S1 := GZ.putAll f hf24
        have S2 := Lib.hid (GB.out.puts (b := w.heap.size + 1) (by omega) 0 (ints f))
        clear hall GR GS
        go_wp2_with (first | (refine load_has rfl 28 _ rfl _ rfl ?_ 24 ?_ _ Try.underlying28 rfl ?_ ?_; rotate_left; (· (repeat (first | (with_reducible assumption) | ((with_reducible refine Has.box _ _ ?_ ?_) <;> (first | assumption | decide)) | (with_reducible refine Has.alloc ?_ _) | ((with_reducible refine Has.putOther ?_ _ _ ?_); rotate_left; omega; skip) | ((with_reducible refine Has.below ?_ ?_); rotate_left; assumption)))); (· kernel_rfl)) | (refine store_at rfl 28 _ _ rfl _ _ rfl rfl ?_ 24 ?_ ?_ ?_ ?_; rotate_left; (· (repeat (first | (with_reducible assumption) | ((with_reducible refine Has.box _ _ ?_ ?_) <;> (first | assumption | decide)) | (with_reducible refine Has.alloc ?_ _) | ((with_reducible refine Has.putOther ?_ _ _ ?_); rotate_left; omega; skip) | ((with_reducible refine Has.below ?_ ?_); rotate_left; assumption)))); (· (first | assumption | rfl)); (· kernel_rfl)))
        exact bodyPost_ret (res_has1 rfl _ _ (w.heap.size + 1) f 24 _ (.bool true) rfl rfl S1 Try.underlying28 rfl (by kernel_rfl)) rfl ⟨by rw [E1.out, HV.out, ← V.out], S2.out⟩
      · intro y v w7 cnt' hy hys hR7 hlt hgr hsz hen
        have hcy := CM.out y hys
        have ST := Lib.hid (GS.out.step HL.out hcy (S' := fun l => S l ∨ l = y) (fun l h => h))
        have VY : vR y = true := by obtain ⟨g, hg, e⟩ := hcy; rw [e]; exact formL_valid (renR_len ns g) (renR_valid HL.out HV.out hg)
        have VF : vR f = true := GS.out.valid HL.out HV.out
        have LA := Lib.hid (show lessA y f = ltL y f by unfold lessA lessOk; rw [VY, VF]; rfl)
        have LO := Lib.hid (show lessOk y f = true by unfold lessOk; rw [VY, VF]; rfl)
        have hy24 := hy.len
        have hne : c4 ≠ r5 := by omega
        replace GZ := GZ.grownNo hgr (fun e => by have e := Option.some.inj e; omega)
        replace GF := GF.grownNo hgr (fun e => by have e := Option.some.inj e; omega)
        replace GB : Hid (Kept w w7) := Lib.hid (GB.out.grown hgr GB.out.size (fun j hj => by have hj := Option.some.inj hj; omega))
        have GR7 := Lib.hid (hR7.alloc (.cells (ints y).toArray 49))
        have hZ7 := GZ.lt
        have hF7 := GF.lt
        have hR7l := hR7.lt
        replace GZ := GZ.alloc (.cells (ints y).toArray 49)
        replace GF := GF.alloc (.cells (ints y).toArray 49)
        replace GB := Lib.hid (GB.out.alloc (.cells (ints y).toArray 49))
        have GY := Has.box w7 49 hy24 (by omega)
        have hiy : (Try.prog.info? 49).map (·.size) = some (ints y).length := by rw [ints_len, hy24]; kernel_rfl
        have hif : (Try.prog.info? 28).map (·.size) = some (ints f).length := by rw [ints_len, hf24]; kernel_rfl
        have HCY := Lib.hid hcy
        clear hcy hys hy hgr hR7 VY VF GR GS hsz
        go_upto_region 7 with (refine store_new rfl 49 _ _ rfl _ _ _ rfl _ rfl _ rfl rfl ?_ ?_ ?_; (· (first | assumption | rfl)); (· kernel_rfl))
        generalize w7.alloc (.cells (ints y).toArray 49) = W8 at *
        generalize w7.heap.size = b8 at *
        have DZ := GZ.drew
        have DR := Lib.hid (GR7.out.drewN 1)
        change Hid (Rng (World.drew W8) _ _ _ _ _ _) at DR
        have DB := Lib.hid (keptDrewF GB.out)
        refine wp_region_held_drew (S := fun w' => Has w' b8 y 24 ∧ Has w' c4 f 24) (by kernel_rfl) ⟨GY.drew, GF.drew⟩ (fun hHeld => ?_)
        generalize hWD : World.drew _ = WD at *
        clear hWD GZ GF GB GR7 GY
        (refine wpAnyH_take (i := 0) (v := _) rfl (by kernel_rfl) (by kernel_rfl) (by kernel_rfl) (fun _ _ _ h => h) (yieldsIf_load_mid (by rfl) 49 _ rfl _ _ rfl (ints y) _ (fun w' hSw => hSw.1.holds.range) Try.underlying49 rfl (hiy)) hHeld ?_; (try simp only [List.getElem_toArray, List.getElem_cons_zero, List.getElem_cons_succ, Act.put, List.setIfInBounds_toArray, List.set_cons_zero, List.set_cons_succ]))
        (refine wpAnyH_take (i := 2) (v := _) rfl (by kernel_rfl) (by kernel_rfl) (by kernel_rfl) (fun _ _ _ h => h) (yieldsIf_load_mid (by rfl) 28 _ rfl _ _ rfl (ints f) _ (fun w' hSw => hSw.2.holds.range) Try.underlying28 rfl (hif)) hHeld ?_; (try simp only [List.getElem_toArray, List.getElem_cons_zero, List.getElem_cons_succ, Act.put, List.setIfInBounds_toArray, List.set_cons_zero, List.set_cons_succ]))
        (refine wpAnyH_ready (rs := [1]) (by kernel_rfl) (by simp) ?_; refine AllReadyH.cons (o := _) rfl (fun K hK => ?_) AllReadyH.nil; (simp only [List.getElem_toArray, List.getElem_cons_zero, List.getElem_cons_succ, Region.wanted, if_true]))
        go_simp
        refine (formRack_any y _ hy24).mono ?_
        rintro e wc1 ⟨rfl, bc1⟩
        dsimp only
        (try simp only [List.getElem_toArray, List.getElem_cons_zero, List.getElem_cons_succ, Act.put, List.setIfInBounds_toArray, List.set_cons_zero, List.set_cons_succ])
        refine hK.out _ _ ⟨hHeld.1.below bc1, hHeld.2.below bc1⟩ (fun hHeld => ?_)
        clear hK K
        replace DZ := DZ.below bc1
        replace DR := Lib.hid (DR.out.below bc1)
        replace DB := Lib.hid (DB.out.call bc1)
        clear bc1
        (refine wpAnyH_ready (rs := [3]) (by kernel_rfl) (by simp) ?_; refine AllReadyH.cons (o := _) rfl (fun K hK => ?_) AllReadyH.nil; (simp only [List.getElem_toArray, List.getElem_cons_zero, List.getElem_cons_succ, Region.wanted, if_true]))
        go_simp
        refine (implLessI y f _ hy24 hf24).mono ?_
        rintro e wc2 ⟨rfl, bc2⟩
        dsimp only
        (try simp only [List.getElem_toArray, List.getElem_cons_zero, List.getElem_cons_succ, Act.put, List.setIfInBounds_toArray, List.set_cons_zero, List.set_cons_succ])
        rw [LA.out, LO.out]
        refine hK.out _ _ ⟨hHeld.1.below bc2, hHeld.2.below bc2⟩ (fun hHeld => ?_)
        clear hK K
        replace DZ := DZ.below bc2
        replace DR := Lib.hid (DR.out.below bc2)
        replace DB := Lib.hid (DB.out.call bc2)
        clear bc2
        obtain ⟨bv, hbv⟩ : ∃ bv, ltL y f = bv := ⟨_, rfl⟩
        rw [hbv] at ST ⊢
        clear hbv LA LO
        (refine wpAnyH_take (i := 4) (v := ?_) rfl (by kernel_rfl) (by kernel_rfl) (by kernel_rfl) (fun _ _ _ h => h) (Or.inl ⟨by rfl, ?_⟩) hHeld ?_; rotate_left; (· (intro w' hSw; go_simp; try with_reducible rfl)); (try simp only [List.getElem_toArray, List.getElem_cons_zero, List.getElem_cons_succ, Act.put, List.setIfInBounds_toArray, List.set_cons_zero, List.set_cons_succ])); (refine wpAnyH_take (i := 5) (v := ?_) rfl (by kernel_rfl) (by kernel_rfl) (by kernel_rfl) (fun _ _ _ h => h) (Or.inl ⟨by rfl, ?_⟩) hHeld ?_; rotate_left; (· (intro w' hSw; go_simp; try with_reducible rfl)); (try simp only [List.getElem_toArray, List.getElem_cons_zero, List.getElem_cons_succ, Act.put, List.setIfInBounds_toArray, List.set_cons_zero, List.set_cons_succ])); (refine wpAnyH_take (i := 6) (v := ?_) rfl (by kernel_rfl) (by kernel_rfl) (by kernel_rfl) (fun _ _ _ h => h) (Or.inl ⟨by rfl, ?_⟩) hHeld ?_; rotate_left; (· (intro w' hSw; go_simp; try with_reducible rfl)); (try simp only [List.getElem_toArray, List.getElem_cons_zero, List.getElem_cons_succ, Act.put, List.setIfInBounds_toArray, List.set_cons_zero, List.set_cons_succ])); (refine wpAnyH_take (i := 7) (v := ?_) rfl (by kernel_rfl) (by kernel_rfl) (by kernel_rfl) (fun _ _ _ h => h) (Or.inl ⟨by rfl, ?_⟩) hHeld ?_; rotate_left; (· (intro w' hSw; go_simp; try with_reducible rfl)); (try simp only [List.getElem_toArray, List.getElem_cons_zero, List.getElem_cons_succ, Act.put, List.setIfInBounds_toArray, List.set_cons_zero, List.set_cons_succ])); (refine wpAnyH_take (i := 8) (v := ?_) rfl (by kernel_rfl) (by kernel_rfl) (by kernel_rfl) (fun _ _ _ h => h) (Or.inl ⟨by rfl, ?_⟩) hHeld ?_; rotate_left; (· (intro w' hSw; go_simp; try with_reducible rfl)); (try simp only [List.getElem_toArray, List.getElem_cons_zero, List.getElem_cons_succ, Act.put, List.setIfInBounds_toArray, List.set_cons_zero, List.set_cons_succ]))
        refine wpAnyH_done (by kernel_rfl) ?_ _
        obtain ⟨D1, D2⟩ := hHeld
        have hle : cnt' < gk := hlt
        cases bv with
        | true =>
          go_wp2_with (refine load_has rfl 49 _ rfl _ rfl ?_ 24 ?_ _ Try.underlying49 rfl ?_ ?_; rotate_left; (· (repeat (first | (with_reducible assumption) | ((with_reducible refine Has.box _ _ ?_ ?_) <;> (first | assumption | decide)) | (with_reducible refine Has.alloc ?_ _) | ((with_reducible refine Has.putOther ?_ _ _ ?_); rotate_left; omega; skip) | ((with_reducible refine Has.below ?_ ?_); rotate_left; assumption)))); (· kernel_rfl))
          refine (formRack_any y _ hy24).mono ?_
          rintro e w9 ⟨rfl, b9⟩
          replace D2 := D2.below b9
          replace DZ := DZ.below b9
          replace DR := Lib.hid (DR.out.below b9)
          replace DB := Lib.hid (DB.out.call b9)
          clear b9
          have K1 := D2.putAll y hy24
          have K2 := DZ.putOther (b' := c4) 0 (ints y) (by omega)
          have K3 := Lib.hid (DR.out.puts c4 0 (ints y) (by omega) (by omega))
          have K4 := Lib.hid (DB.out.puts (b := c4) (by omega) 0 (ints y))
          go_wp2_with (refine store_at rfl 28 _ _ rfl _ _ rfl rfl ?_ 24 ?_ ?_ ?_ ?_; rotate_left; (· (repeat (first | (with_reducible assumption) | ((with_reducible refine Has.box _ _ ?_ ?_) <;> (first | assumption | decide)) | (with_reducible refine Has.alloc ?_ _) | ((with_reducible refine Has.putOther ?_ _ _ ?_); rotate_left; omega; skip) | ((with_reducible refine Has.below ?_ ?_); rotate_left; assumption)))); (· (first | assumption | rfl)); (· kernel_rfl))
          go_roundg cnt'
          case rel => exact ⟨cnt', _, y, rfl, K3, ST, K2, K1, K4⟩
          case measure => omega
        | false =>
          go_wp2_with fail
          go_roundg cnt'
          case rel => exact ⟨cnt', _, f, rfl, DR, ST, DZ, D2, DB⟩
          case measure => omega
  · have hf : vR ns = false := by simpa using hv
    have E1 := Lib.hid (show firstR ns = z24 by unfold firstR; rw [if_neg hv])
    rw [hf]
    have HF := Lib.hid hf
    clear hv hf
    have S1 := Z.putAll z24 rfl
    have S2 := Lib.hid (HB.out.puts (b := w.heap.size + 1) (by omega) 0 (ints z24))
    go_wp2_with (first | (refine build_law rfl 28 rfl _ buildRack ?_) | (refine store_at rfl 28 _ _ rfl _ _ rfl rfl ?_ 24 ?_ ?_ ?_ ?_; rotate_left; (· (repeat (first | (with_reducible assumption) | ((with_reducible refine Has.box _ _ ?_ ?_) <;> (first | assumption | decide)) | (with_reducible refine Has.alloc ?_ _) | ((with_reducible refine Has.putOther ?_ _ _ ?_); rotate_left; omega; skip) | ((with_reducible refine Has.below ?_ ?_); rotate_left; assumption)))); (· (first | assumption | rfl)); (· kernel_rfl)))
    exact bodyPost_ret (res_has1 rfl _ _ (w.heap.size + 1) z24 24 _ (.bool false) rfl rfl S1 Try.underlying28 rfl (by kernel_rfl)) rfl ⟨by rw [E1.out, HF.out], S2.out⟩
end Go.Proofs.Ytlleenepinijdaa.base
