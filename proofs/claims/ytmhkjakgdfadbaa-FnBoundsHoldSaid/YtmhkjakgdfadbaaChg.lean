/-
  By how much a pour changes the runs, the boundaries and the bound, on both sides, walked.
-/
import Derived.Test.YtmhkjakgdfadbaaBndI
import Derived.Test.YtmhkjakgdfadbaaPMath
import Derived.Test.YtmhkjakgdfadbaaPourI
import Derived.BigRegion
namespace Go.Proofs.Ytmhkjakgdfadbaa.base
open Go.ChangeShapes Go.WideShapes Go.ChangeAt Go.RowKit
set_option linter.unusedVariables false
set_option linter.unusedSimpArgs false

theorem meas_in {ns : List Int} (h24 : ns.length = 24) (hv : vR ns = true) : (0 ≤ runsA ns ∧ runsA ns ≤ 24) ∧ (-6 ≤ edgeA ns ∧ edgeA ns ≤ 24) ∧ (-6 ≤ bndA ns ∧ bndA ns ≤ 49) := by
  have h1 := runUp_le h24 hv 6 (Nat.le_refl _)
  have h2 := edge_in h24 hv
  have h3 := bnd_in h24 hv 5
  unfold runsA edgeA bndA bndN
  rw [if_pos hv, if_pos hv, if_pos hv]
  omega
def meas (ns : List Int) : List Int := [runsA ns, edgeA ns, bndA ns]
def z3 : List Int := [0, 0, 0]
/-- The measures of one rack less those of another one, the first k of them. -/
def chgUp (m l : List Int) (k : Nat) : List Int := [if 0 < k then m.getD 0 0 - l.getD 0 0 else m.getD 0 0, if 1 < k then m.getD 1 0 - l.getD 1 0 else m.getD 1 0, if 2 < k then m.getD 2 0 - l.getD 2 0 else m.getD 2 0]
theorem chg_at (m l : List Int) (k : Nat) (hk : k < 3) : (chgUp m l k).getD k 0 = m.getD k 0 ∧ (chgUp m l k).set k (m.getD k 0 - l.getD k 0) = chgUp m l (k + 1) := by
  match k, hk with
  | 0, _ => exact ⟨rfl, rfl⟩
  | 1, _ => exact ⟨rfl, rfl⟩
  | 2, _ => exact ⟨rfl, rfl⟩
def chgA (ns : List Int) (i j : Int) : List Int := if pourOk ns i j = true then chgUp (meas (pourR ns i j)) (meas ns) 3 else z3
theorem chgA_len (ns : List Int) (i j : Int) : (chgA ns i j).length = 3 := by unfold chgA; split <;> rfl
theorem chgA_bnd {ns : List Int} {i j : Int} (h : pourOk ns i j = true) : (chgA ns i j).getD 2 0 = bndA (pourR ns i j) - bndA ns := by unfold chgA; rw [if_pos h]; rfl
theorem pourOk_v {ns : List Int} {i j : Int} (h : pourOk ns i j = true) : vR ns = true := by
  unfold pourOk twoOk at h
  simp only [Bool.and_eq_true] at h
  exact h.1.1.1.1
theorem Has.trip0 (w : World) (T : TypeId) : Has (w.alloc (.cells #[.int .i64 0, .int .i64 0, .int .i64 0] T)) w.heap.size z3 3 := Has.box (ns := z3) w T rfl (by decide)
theorem build3 (w : World) : (Instr.build 30 #[]).run Try.prog w = .ok (.agg (ints z3).toArray) w := by kernel_rfl
theorem l6Runs_A (ns : List Int) (w : World) (h24 : ns.length = 24) (hv : vR ns = true) :
    Calls Try.prog 30 #[row ns] w fun e w' => e = .returned (.int .i64 (runsA ns)) ∧ Kept w w' :=
  (l6Runs_any ns w h24 hv).mono fun e w' h => ⟨by rw [h.1]; unfold runsA; rw [if_pos hv], h.2⟩
theorem l6Boundaries_A (ns : List Int) (w : World) (h24 : ns.length = 24) (hv : vR ns = true) :
    Calls Try.prog 31 #[row ns] w fun e w' => e = .returned (.int .i64 (edgeA ns)) ∧ Kept w w' :=
  (l6Boundaries_any ns w h24 hv).mono fun e w' h => ⟨by rw [h.1]; unfold edgeA; rw [if_pos hv], h.2⟩
theorem l6Bound_A (ns : List Int) (w : World) (h24 : ns.length = 24) (hv : vR ns = true) :
    Calls Try.prog 32 #[row ns] w fun e w' => e = .returned (.int .i64 (bndA ns)) ∧ Kept w w' :=
  (l6Bound_any ns w h24 hv).mono fun e w' h => ⟨by rw [h.1]; unfold bndA; rw [if_pos hv], h.2⟩

set_option maxHeartbeats 400000 in
theorem measures_any (ns : List Int) (w : World) (h24 : ns.length = 24) :
    Calls Try.prog 28 #[row ns] w fun e w' => e = .returned (.agg (ints (meas ns)).toArray) ∧ Kept w w' := by
  have HB := Lib.hid (((kept_refl w).alloc (.cells (ints ns).toArray 27)).alloc (.cells #[.int .i64 0, .int .i64 0, .int .i64 0] 30))
  have H := (Has.box w 27 h24 (by omega)).alloc (.cells #[.int .i64 0, .int .i64 0, .int .i64 0] 30)
  have Z := (Has.trip0 (w.alloc (.cells (ints ns).toArray 27)) 30).at (size1 _ _)
  rw [row_ints]
  go_enter Try.func28, Try.ntmps28
  go_wp2_with (refine load_has rfl 27 _ rfl _ rfl ?_ 24 ?_ _ Try.underlying27 rfl ?_ ?_; rotate_left; (· (repeat (first | (with_reducible assumption) | ((with_reducible refine Has.box _ _ ?_ ?_) <;> (first | assumption | decide)) | (with_reducible refine Has.alloc ?_ _) | ((with_reducible refine Has.putOther ?_ _ _ ?_); rotate_left; omega; skip) | ((with_reducible refine Has.below ?_ ?_); rotate_left; assumption)))); (· kernel_rfl))
  refine (implCountRuns ns _ h24).mono ?_
  rintro e w1 ⟨rfl, b1⟩
  have H1 := H.below b1
  have Z1 := Z.below b1
  have HB1 := Lib.hid (HB.out.call b1)
  clear H HB Z b1
  go_wp2_with (refine load_has rfl 27 _ rfl _ rfl ?_ 24 ?_ _ Try.underlying27 rfl ?_ ?_; rotate_left; (· (repeat (first | (with_reducible assumption) | ((with_reducible refine Has.box _ _ ?_ ?_) <;> (first | assumption | decide)) | (with_reducible refine Has.alloc ?_ _) | ((with_reducible refine Has.putOther ?_ _ _ ?_); rotate_left; omega; skip) | ((with_reducible refine Has.below ?_ ?_); rotate_left; assumption)))); (· kernel_rfl))
  refine (implEdges ns _ h24).mono ?_
  rintro e w2 ⟨rfl, b2⟩
  have H2 := H1.below b2
  have Z2 := Z1.below b2
  have HB2 := Lib.hid (HB1.out.call b2)
  clear H1 HB1 Z1 b2
  go_wp2_with (refine load_has rfl 27 _ rfl _ rfl ?_ 24 ?_ _ Try.underlying27 rfl ?_ ?_; rotate_left; (· (repeat (first | (with_reducible assumption) | ((with_reducible refine Has.box _ _ ?_ ?_) <;> (first | assumption | decide)) | (with_reducible refine Has.alloc ?_ _) | ((with_reducible refine Has.putOther ?_ _ _ ?_); rotate_left; omega; skip) | ((with_reducible refine Has.below ?_ ?_); rotate_left; assumption)))); (· kernel_rfl))
  refine (implBound ns _ h24).mono ?_
  rintro e w3 ⟨rfl, b3⟩
  have Z3 := Z2.below b3
  have ZT := Lib.hid Z3.there
  have HB3 := Lib.hid ((HB2.out.call b3).puts (b := w.heap.size + 1) (by omega) 0 (ints (meas ns)))
  have S1 := Lib.hid (Z3.putAll (meas ns) rfl)
  clear H2 HB2 Z2 Z3 b3
  go_wp2_with (first | (refine store_has rfl 30 _ _ rfl (w.heap.size + 1) 0 (meas ns) rfl rfl 3 rfl ZT.out ?_ ?_; (· kernel_rfl)))
  exact bodyPost_ret (res_has rfl _ _ (w.heap.size + 1) (meas ns) 3 _ rfl S1.out Try.underlying30 rfl (by kernel_rfl)) rfl ⟨rfl, HB3.out⟩

set_option maxHeartbeats 3200000 in
set_option maxRecDepth 100000 in
theorem specChange (ns : List Int) (i j : Int) (w : World) (h24 : ns.length = 24) :
    Calls Try.prog 7 #[row ns, .int .i64 i, .int .i64 j] w fun e w' => e = .returned (.tuple #[.agg (ints (chgA ns i j)).toArray, .bool (pourOk ns i j)]) ∧ Kept w w' := by
  have HB := Lib.hid (((kept_refl w).alloc (.cells (ints ns).toArray 27)).alloc (.cells #[.int .i64 0, .int .i64 0, .int .i64 0] 30))
  have H := (Has.box w 27 h24 (by omega)).alloc (.cells #[.int .i64 0, .int .i64 0, .int .i64 0] 30)
  have Z := (Has.trip0 (w.alloc (.cells (ints ns).toArray 27)) 30).at (size1 _ _)
  have hlz : z3.length = 3 := rfl
  rw [row_ints]
  go_enter Try.func7, Try.ntmps7
  go_wp2_with (refine load_has rfl 27 _ rfl _ rfl ?_ 24 ?_ _ Try.underlying27 rfl ?_ ?_; rotate_left; (· (repeat (first | (with_reducible assumption) | ((with_reducible refine Has.box _ _ ?_ ?_) <;> (first | assumption | decide)) | (with_reducible refine Has.alloc ?_ _) | ((with_reducible refine Has.putOther ?_ _ _ ?_); rotate_left; omega; skip) | ((with_reducible refine Has.below ?_ ?_); rotate_left; assumption)))); (· kernel_rfl))
  refine (specPour ns i j _ h24).mono ?_
  rintro e w1 ⟨rfl, b1⟩
  have hl2 := pourR_len h24 i j
  have N1 := Has.box w1 27 hl2 (by omega)
  have hlt := H.lt
  have hl0 := (H.below b1).lt
  have hl1 := (Z.below b1).lt
  have H1 := (H.below b1).alloc (.cells (ints (pourR ns i j)).toArray 27)
  have Z1 := (Z.below b1).alloc (.cells (ints (pourR ns i j)).toArray 27)
  have HB1 := Lib.hid ((HB.out.call b1).alloc (.cells (ints (pourR ns i j)).toArray 27))
  clear H HB Z b1 hlt
  by_cases hp : pourOk ns i j = true
  · rw [hp]
    have NV := Lib.hid (pour_facts h24 hp).valid
    have HV := Lib.hid (pourOk_v hp)
    have M1 := meas_in h24 HV.out
    have M2 := meas_in hl2 NV.out
    have E := Lib.hid (show chgA ns i j = chgUp (meas (pourR ns i j)) (meas ns) 3 by unfold chgA; rw [if_pos hp])
    have HP := Lib.hid hp
    clear hp
    generalize pourR ns i j = R at *
    have H24 := Lib.hid h24
    have R24 := Lib.hid hl2
    have hi1 : (Try.prog.info? 27).map (·.size) = some (ints ns).length := by rw [ints_len, h24]; kernel_rfl
    have hi2 : (Try.prog.info? 27).map (·.size) = some (ints R).length := by rw [ints_len, hl2]; kernel_rfl
    go_wp2_with (first | (refine store_new rfl 27 _ _ rfl _ _ _ rfl _ rfl _ rfl rfl ?_ ?_ ?_; (· (first | assumption | rfl)); (· kernel_rfl)))
    refine wp_region_held_drew (S := fun w' => Has w' w.heap.size ns 24 ∧ Has w' w1.heap.size R 24 ∧ (∃ q : List Int, Has w' (w.heap.size + 1) q 3) ∧ Kept w w') (by kernel_rfl) ?_ (fun hHeld => ?_)
    · exact ⟨H1.drew, N1.drew, ⟨_, Z1.drew⟩, HB1.out.drewN 1⟩
    generalize World.drew _ = WD at *
    clear H1 N1 Z1 HB1
    (refine wpAnyH_take (i := 0) (v := _) rfl (by kernel_rfl) (by kernel_rfl) (by kernel_rfl) (fun _ _ _ h => h) (yieldsIf_load_mid (by rfl) 27 _ rfl _ _ rfl (ints R) _ (fun w' hSw => hSw.2.1.holds.range) Try.underlying27 rfl (hi2)) hHeld ?_; (try simp only [List.getElem_toArray, List.getElem_cons_zero, List.getElem_cons_succ, Act.put, List.setIfInBounds_toArray, List.set_cons_zero, List.set_cons_succ]))
    (refine wpAnyH_take (i := 2) (v := _) rfl (by kernel_rfl) (by kernel_rfl) (by kernel_rfl) (fun _ _ _ h => h) (yieldsIf_load_mid (by rfl) 27 _ rfl _ _ rfl (ints ns) _ (fun w' hSw => hSw.1.holds.range) Try.underlying27 rfl (hi1)) hHeld ?_; (try simp only [List.getElem_toArray, List.getElem_cons_zero, List.getElem_cons_succ, Act.put, List.setIfInBounds_toArray, List.set_cons_zero, List.set_cons_succ]))
    (refine wpAnyH_take (i := 5) (v := _) rfl (by kernel_rfl) (by kernel_rfl) (by kernel_rfl) (fun _ _ _ h => h) (yieldsIf_load_mid (by rfl) 27 _ rfl _ _ rfl (ints R) _ (fun w' hSw => hSw.2.1.holds.range) Try.underlying27 rfl (hi2)) hHeld ?_; (try simp only [List.getElem_toArray, List.getElem_cons_zero, List.getElem_cons_succ, Act.put, List.setIfInBounds_toArray, List.set_cons_zero, List.set_cons_succ]))
    (refine wpAnyH_take (i := 7) (v := _) rfl (by kernel_rfl) (by kernel_rfl) (by kernel_rfl) (fun _ _ _ h => h) (yieldsIf_load_mid (by rfl) 27 _ rfl _ _ rfl (ints ns) _ (fun w' hSw => hSw.1.holds.range) Try.underlying27 rfl (hi1)) hHeld ?_; (try simp only [List.getElem_toArray, List.getElem_cons_zero, List.getElem_cons_succ, Act.put, List.setIfInBounds_toArray, List.set_cons_zero, List.set_cons_succ]))
    (refine wpAnyH_take (i := 10) (v := _) rfl (by kernel_rfl) (by kernel_rfl) (by kernel_rfl) (fun _ _ _ h => h) (yieldsIf_load_mid (by rfl) 27 _ rfl _ _ rfl (ints R) _ (fun w' hSw => hSw.2.1.holds.range) Try.underlying27 rfl (hi2)) hHeld ?_; (try simp only [List.getElem_toArray, List.getElem_cons_zero, List.getElem_cons_succ, Act.put, List.setIfInBounds_toArray, List.set_cons_zero, List.set_cons_succ]))
    (refine wpAnyH_take (i := 12) (v := _) rfl (by kernel_rfl) (by kernel_rfl) (by kernel_rfl) (fun _ _ _ h => h) (yieldsIf_load_mid (by rfl) 27 _ rfl _ _ rfl (ints ns) _ (fun w' hSw => hSw.1.holds.range) Try.underlying27 rfl (hi1)) hHeld ?_; (try simp only [List.getElem_toArray, List.getElem_cons_zero, List.getElem_cons_succ, Act.put, List.setIfInBounds_toArray, List.set_cons_zero, List.set_cons_succ]))
    (refine wpAnyH_ready (rs := [1]) (by kernel_rfl) (by simp) ?_; refine AllReadyH.cons (o := _) rfl (fun K hK => ?_) AllReadyH.nil; (simp only [List.getElem_toArray, List.getElem_cons_zero, List.getElem_cons_succ, Region.wanted, if_true]))
    go_simp
    refine (l6Runs_A R _ R24.out NV.out).mono ?_
    rintro e w11 ⟨rfl, bq⟩
    dsimp only
    (try simp only [List.getElem_toArray, List.getElem_cons_zero, List.getElem_cons_succ, Act.put, List.setIfInBounds_toArray, List.set_cons_zero, List.set_cons_succ])
    refine hK.out _ _ ⟨hHeld.1.below bq, hHeld.2.1.below bq, hHeld.2.2.1.imp fun _ h => h.below bq, hHeld.2.2.2.call bq⟩ (fun hHeld => ?_)
    clear hK K bq
    (refine wpAnyH_ready (rs := [3]) (by kernel_rfl) (by simp) ?_; refine AllReadyH.cons (o := _) rfl (fun K hK => ?_) AllReadyH.nil; (simp only [List.getElem_toArray, List.getElem_cons_zero, List.getElem_cons_succ, Region.wanted, if_true]))
    go_simp
    refine (l6Runs_A ns _ H24.out HV.out).mono ?_
    rintro e w13 ⟨rfl, bq⟩
    dsimp only
    (try simp only [List.getElem_toArray, List.getElem_cons_zero, List.getElem_cons_succ, Act.put, List.setIfInBounds_toArray, List.set_cons_zero, List.set_cons_succ])
    refine hK.out _ _ ⟨hHeld.1.below bq, hHeld.2.1.below bq, hHeld.2.2.1.imp fun _ h => h.below bq, hHeld.2.2.2.call bq⟩ (fun hHeld => ?_)
    clear hK K bq
    have W1 : IntKind.i64.wrap (runsA R - runsA ns) = runsA R - runsA ns := IntWalk.i64_in _ (by omega)
    (refine wpAnyH_take (i := 4) (v := ?_) rfl (by kernel_rfl) (by kernel_rfl) (by kernel_rfl) (fun _ _ _ h => h) (Or.inl ⟨by rfl, ?_⟩) hHeld ?_; rotate_left; (· (intro w' hSw; go_simp; try with_reducible rfl)); (try simp only [List.getElem_toArray, List.getElem_cons_zero, List.getElem_cons_succ, Act.put, List.setIfInBounds_toArray, List.set_cons_zero, List.set_cons_succ]))
    (refine wpAnyH_ready (rs := [6]) (by kernel_rfl) (by simp) ?_; refine AllReadyH.cons (o := _) rfl (fun K hK => ?_) AllReadyH.nil; (simp only [List.getElem_toArray, List.getElem_cons_zero, List.getElem_cons_succ, Region.wanted, if_true]))
    go_simp
    refine (l6Boundaries_A R _ R24.out NV.out).mono ?_
    rintro e w16 ⟨rfl, bq⟩
    dsimp only
    (try simp only [List.getElem_toArray, List.getElem_cons_zero, List.getElem_cons_succ, Act.put, List.setIfInBounds_toArray, List.set_cons_zero, List.set_cons_succ])
    refine hK.out _ _ ⟨hHeld.1.below bq, hHeld.2.1.below bq, hHeld.2.2.1.imp fun _ h => h.below bq, hHeld.2.2.2.call bq⟩ (fun hHeld => ?_)
    clear hK K bq
    (refine wpAnyH_ready (rs := [8]) (by kernel_rfl) (by simp) ?_; refine AllReadyH.cons (o := _) rfl (fun K hK => ?_) AllReadyH.nil; (simp only [List.getElem_toArray, List.getElem_cons_zero, List.getElem_cons_succ, Region.wanted, if_true]))
    go_simp
    refine (l6Boundaries_A ns _ H24.out HV.out).mono ?_
    rintro e w18 ⟨rfl, bq⟩
    dsimp only
    (try simp only [List.getElem_toArray, List.getElem_cons_zero, List.getElem_cons_succ, Act.put, List.setIfInBounds_toArray, List.set_cons_zero, List.set_cons_succ])
    refine hK.out _ _ ⟨hHeld.1.below bq, hHeld.2.1.below bq, hHeld.2.2.1.imp fun _ h => h.below bq, hHeld.2.2.2.call bq⟩ (fun hHeld => ?_)
    clear hK K bq
    have W6 : IntKind.i64.wrap (edgeA R - edgeA ns) = edgeA R - edgeA ns := IntWalk.i64_in _ (by omega)
    (refine wpAnyH_take (i := 9) (v := ?_) rfl (by kernel_rfl) (by kernel_rfl) (by kernel_rfl) (fun _ _ _ h => h) (Or.inl ⟨by rfl, ?_⟩) hHeld ?_; rotate_left; (· (intro w' hSw; go_simp; try with_reducible rfl)); (try simp only [List.getElem_toArray, List.getElem_cons_zero, List.getElem_cons_succ, Act.put, List.setIfInBounds_toArray, List.set_cons_zero, List.set_cons_succ]))
    (refine wpAnyH_ready (rs := [11]) (by kernel_rfl) (by simp) ?_; refine AllReadyH.cons (o := _) rfl (fun K hK => ?_) AllReadyH.nil; (simp only [List.getElem_toArray, List.getElem_cons_zero, List.getElem_cons_succ, Region.wanted, if_true]))
    go_simp
    refine (l6Bound_A R _ R24.out NV.out).mono ?_
    rintro e w21 ⟨rfl, bq⟩
    dsimp only
    (try simp only [List.getElem_toArray, List.getElem_cons_zero, List.getElem_cons_succ, Act.put, List.setIfInBounds_toArray, List.set_cons_zero, List.set_cons_succ])
    refine hK.out _ _ ⟨hHeld.1.below bq, hHeld.2.1.below bq, hHeld.2.2.1.imp fun _ h => h.below bq, hHeld.2.2.2.call bq⟩ (fun hHeld => ?_)
    clear hK K bq
    (refine wpAnyH_ready (rs := [13]) (by kernel_rfl) (by simp) ?_; refine AllReadyH.cons (o := _) rfl (fun K hK => ?_) AllReadyH.nil; (simp only [List.getElem_toArray, List.getElem_cons_zero, List.getElem_cons_succ, Region.wanted, if_true]))
    go_simp
    refine (l6Bound_A ns _ H24.out HV.out).mono ?_
    rintro e w23 ⟨rfl, bq⟩
    dsimp only
    (try simp only [List.getElem_toArray, List.getElem_cons_zero, List.getElem_cons_succ, Act.put, List.setIfInBounds_toArray, List.set_cons_zero, List.set_cons_succ])
    refine hK.out _ _ ⟨hHeld.1.below bq, hHeld.2.1.below bq, hHeld.2.2.1.imp fun _ h => h.below bq, hHeld.2.2.2.call bq⟩ (fun hHeld => ?_)
    clear hK K bq
    have W11 : IntKind.i64.wrap (bndA R - bndA ns) = bndA R - bndA ns := IntWalk.i64_in _ (by omega)
    (refine wpAnyH_take (i := 14) (v := ?_) rfl (by kernel_rfl) (by kernel_rfl) (by kernel_rfl) (fun _ _ _ h => h) (Or.inl ⟨by rfl, ?_⟩) hHeld ?_; rotate_left; (· (intro w' hSw; go_simp; try with_reducible rfl)); (try simp only [List.getElem_toArray, List.getElem_cons_zero, List.getElem_cons_succ, Act.put, List.setIfInBounds_toArray, List.set_cons_zero, List.set_cons_succ]))
    have hi3 : (Try.prog.info? 30).map (·.size) = some 3 := by kernel_rfl
    have l3 : (ints (chgUp (meas R) (meas ns) 3)).length = 3 := rfl
    (refine wpAnyH_take (i := 15) (v := .agg #[.int .i64 (runsA R - runsA ns), .int .i64 (edgeA R - edgeA ns), .int .i64 (bndA R - bndA ns)]) rfl (by kernel_rfl) (by kernel_rfl) (by kernel_rfl) (fun _ _ _ h => h) (Or.inl ⟨by rfl, ?_⟩) hHeld ?_; (· (intro w' hSw; have q := hi3; clear hSw; go_simp; try with_reducible rfl)); (try simp only [List.getElem_toArray, List.getElem_cons_zero, List.getElem_cons_succ, Act.put, List.setIfInBounds_toArray, List.set_cons_zero, List.set_cons_succ]))
    (refine wpAnyH_ready (rs := [16]) (by kernel_rfl) (by simp) ?_; refine AllReadyH.cons (o := _) rfl (fun K hK => ?_) AllReadyH.nil; (simp only [List.getElem_toArray, List.getElem_cons_zero, List.getElem_cons_succ, Region.wanted, if_true]))
    refine wp_store_mid _ _ _ rfl _ _ (ints (chgUp (meas R) (meas ns) 3)).toArray rfl rfl (by obtain ⟨q, hq⟩ := hHeld.2.2.1; simpa [l3] using hq.there) (by simpa [l3] using hi3) (all_oneCell_toArray (ints_one _)) ?_
    (try simp only [List.getElem_toArray, List.getElem_cons_zero, List.getElem_cons_succ, Act.put, List.setIfInBounds_toArray, List.set_cons_zero, List.set_cons_succ, List.toList_toArray])
    obtain ⟨q, hq⟩ := hHeld.2.2.1
    have GB := hHeld.2.2.2.puts (b := w.heap.size + 1) (by omega) 0 (ints (chgUp (meas R) (meas ns) 3))
    have GZ := hq.putAll (chgUp (meas R) (meas ns) 3) rfl
    have GT : True := trivial
    refine hK.out _ _ ⟨hHeld.1.putOther (b' := w.heap.size + 1) 0 (ints (chgUp (meas R) (meas ns) 3)) (by omega), hHeld.2.1.putOther (b' := w.heap.size + 1) 0 (ints (chgUp (meas R) (meas ns) 3)) (by omega), ⟨_, GZ⟩, GB⟩ (fun hHeld => ?_)
    clear hK K
    (refine wpAnyH_take (i := 17) (v := ?_) rfl (by kernel_rfl) (by kernel_rfl) (by kernel_rfl) (fun _ _ _ h => h) (Or.inl ⟨by rfl, ?_⟩) hHeld ?_; rotate_left; (· (intro w' hSw; go_simp; try with_reducible rfl)); (try simp only [List.getElem_toArray, List.getElem_cons_zero, List.getElem_cons_succ, Act.put, List.setIfInBounds_toArray, List.set_cons_zero, List.set_cons_succ]))
    refine wpAnyH_done (by kernel_rfl) ?_ _
    have GB2 := Lib.hid GB
    have GZ2 := Lib.hid GZ
    clear hHeld GB GZ
    go_wp2_with fail
    exact bodyPost_ret (res_has1 rfl _ _ (w.heap.size + 1) (chgUp (meas R) (meas ns) 3) 3 _ (.bool true) rfl rfl GZ2.out Try.underlying30 rfl (by kernel_rfl)) rfl ⟨by rw [E.out, HP.out], GB2.out⟩
  · have hf : pourOk ns i j = false := by simpa using hp
    have E := Lib.hid (show chgA ns i j = z3 by unfold chgA; rw [if_neg hp])
    rw [hf]
    have HP := Lib.hid hf
    have S1 := Lib.hid (Z1.putAll z3 rfl)
    have S2 := Lib.hid (HB1.out.puts (b := w.heap.size + 1) (by omega) 0 (ints z3))
    clear hf hp N1 H1
    go_wp2_with (first | (refine store_new rfl 27 _ _ rfl _ _ _ rfl _ rfl _ rfl rfl ?_ ?_ ?_; (· (first | assumption | rfl)); (· kernel_rfl)) | (refine build_law rfl 30 rfl _ build3 ?_) | (refine store_at rfl 30 _ _ rfl _ _ rfl rfl ?_ 3 ?_ ?_ ?_ ?_; rotate_left; (· (repeat (first | (with_reducible assumption) | ((with_reducible refine Has.box _ _ ?_ ?_) <;> (first | assumption | decide)) | (with_reducible refine Has.alloc ?_ _) | ((with_reducible refine Has.putOther ?_ _ _ ?_); rotate_left; omega; skip) | ((with_reducible refine Has.below ?_ ?_); rotate_left; assumption)))); (· (first | assumption | rfl)); (· kernel_rfl)))
    exact bodyPost_ret (res_has1 rfl _ _ (w.heap.size + 1) z3 3 _ (.bool false) rfl rfl S1.out Try.underlying30 rfl (by kernel_rfl)) rfl ⟨by rw [E.out, HP.out], S2.out⟩

set_option maxHeartbeats 3200000 in
set_option maxRecDepth 100000 in
theorem implChange (ns : List Int) (i j : Int) (w : World) (h24 : ns.length = 24) :
    Calls Try.prog 6 #[row ns, .int .i64 i, .int .i64 j] w fun e w' => e = .returned (.tuple #[.agg (ints (chgA ns i j)).toArray, .bool (pourOk ns i j)]) ∧ Kept w w' := by
  have HB := Lib.hid (((kept_refl w).alloc (.cells (ints ns).toArray 27)).alloc (.cells #[.int .i64 0, .int .i64 0, .int .i64 0] 30))
  have H := (Has.box w 27 h24 (by omega)).alloc (.cells #[.int .i64 0, .int .i64 0, .int .i64 0] 30)
  have Z := (Has.trip0 (w.alloc (.cells (ints ns).toArray 27)) 30).at (size1 _ _)
  have hlz : z3.length = 3 := rfl
  rw [row_ints]
  go_enter Try.func6, Try.ntmps6
  go_wp2_with (refine load_has rfl 27 _ rfl _ rfl ?_ 24 ?_ _ Try.underlying27 rfl ?_ ?_; rotate_left; (· (repeat (first | (with_reducible assumption) | ((with_reducible refine Has.box _ _ ?_ ?_) <;> (first | assumption | decide)) | (with_reducible refine Has.alloc ?_ _) | ((with_reducible refine Has.putOther ?_ _ _ ?_); rotate_left; omega; skip) | ((with_reducible refine Has.below ?_ ?_); rotate_left; assumption)))); (· kernel_rfl))
  refine (implPour ns i j _ h24).mono ?_
  rintro e w1 ⟨rfl, b1⟩
  have hl2 := pourR_len h24 i j
  have N1 := Has.box w1 27 hl2 (by omega)
  have hlt := H.lt
  have hl0 := (H.below b1).lt
  have hl1 := (Z.below b1).lt
  have H1 := (H.below b1).alloc (.cells (ints (pourR ns i j)).toArray 27)
  have Z1 := (Z.below b1).alloc (.cells (ints (pourR ns i j)).toArray 27)
  have HB1 := Lib.hid ((HB.out.call b1).alloc (.cells (ints (pourR ns i j)).toArray 27))
  clear H HB Z b1 hlt
  by_cases hp : pourOk ns i j = true
  · rw [hp]
    have NV := Lib.hid (pour_facts h24 hp).valid
    have HV := Lib.hid (pourOk_v hp)
    have M1 := meas_in h24 HV.out
    have M2 := meas_in hl2 NV.out
    have E := Lib.hid (show chgA ns i j = chgUp (meas (pourR ns i j)) (meas ns) 3 by unfold chgA; rw [if_pos hp])
    have HP := Lib.hid hp
    clear hp
    generalize pourR ns i j = R at *
    have H24 := Lib.hid h24
    have R24 := Lib.hid hl2
    have hi1 : (Try.prog.info? 27).map (·.size) = some (ints ns).length := by rw [ints_len, h24]; kernel_rfl
    have hi2 : (Try.prog.info? 27).map (·.size) = some (ints R).length := by rw [ints_len, hl2]; kernel_rfl
    go_wp2_with (first | (refine store_new rfl 27 _ _ rfl _ _ _ rfl _ rfl _ rfl rfl ?_ ?_ ?_; (· (first | assumption | rfl)); (· kernel_rfl)))
    refine wp_region_held_drew (S := fun w' => Has w' w.heap.size ns 24 ∧ Has w' w1.heap.size R 24 ∧ (∃ q : List Int, q = z3 ∧ Has w' (w.heap.size + 1) q 3) ∧ Kept w w') (by kernel_rfl) ?_ (fun hHeld => ?_)
    · exact ⟨H1.drew, N1.drew, ⟨_, rfl, Z1.drew⟩, HB1.out.drewN 1⟩
    generalize World.drew _ = WD at *
    clear H1 N1 Z1 HB1
    (refine wpAnyH_take (i := 0) (v := _) rfl (by kernel_rfl) (by kernel_rfl) (by kernel_rfl) (fun _ _ _ h => h) (yieldsIf_load_mid (by rfl) 27 _ rfl _ _ rfl (ints ns) _ (fun w' hSw => hSw.1.holds.range) Try.underlying27 rfl (hi1)) hHeld ?_; (try simp only [List.getElem_toArray, List.getElem_cons_zero, List.getElem_cons_succ, Act.put, List.setIfInBounds_toArray, List.set_cons_zero, List.set_cons_succ]))
    (refine wpAnyH_take (i := 2) (v := _) rfl (by kernel_rfl) (by kernel_rfl) (by kernel_rfl) (fun _ _ _ h => h) (yieldsIf_load_mid (by rfl) 27 _ rfl _ _ rfl (ints R) _ (fun w' hSw => hSw.2.1.holds.range) Try.underlying27 rfl (hi2)) hHeld ?_; (try simp only [List.getElem_toArray, List.getElem_cons_zero, List.getElem_cons_succ, Act.put, List.setIfInBounds_toArray, List.set_cons_zero, List.set_cons_succ]))
    refine wpAnyH_ready (rs := [1, 4, 5]) (by kernel_rfl) (by simp) ?_
    refine AllReadyH.cons (o := _) rfl (fun K hK => ?_) (AllReadyH.cons (o := _) rfl (fun K hK => ?_) (AllReadyH.cons (o := _) rfl (fun K hK => ?_) AllReadyH.nil))
    (simp only [List.getElem_toArray, List.getElem_cons_zero, List.getElem_cons_succ, Region.wanted, if_true])
    go_simp
    refine (measures_any ns _ H24.out).mono ?_
    rintro e W1 ⟨rfl, bq⟩
    dsimp only
    (try simp only [List.getElem_toArray, List.getElem_cons_zero, List.getElem_cons_succ, Act.put, List.setIfInBounds_toArray, List.set_cons_zero, List.set_cons_succ])
    refine hK.out _ _ ⟨hHeld.1.below bq, hHeld.2.1.below bq, hHeld.2.2.1.imp fun _ h => ⟨h.1, h.2.below bq⟩, hHeld.2.2.2.call bq⟩ (fun hHeld => ?_)
    clear hK K
    clear bq
    refine wpAnyH_ready (rs := [3, 4, 5]) (by kernel_rfl) (by simp) ?_
    refine AllReadyH.cons (o := _) rfl (fun K hK => ?_) (AllReadyH.cons (o := _) rfl (fun K hK => ?_) (AllReadyH.cons (o := _) rfl (fun K hK => ?_) AllReadyH.nil))
    (simp only [List.getElem_toArray, List.getElem_cons_zero, List.getElem_cons_succ, Region.wanted, if_true])
    go_simp
    refine (measures_any R _ R24.out).mono ?_
    rintro e W13 ⟨rfl, bq⟩
    dsimp only
    (try simp only [List.getElem_toArray, List.getElem_cons_zero, List.getElem_cons_succ, Act.put, List.setIfInBounds_toArray, List.set_cons_zero, List.set_cons_succ])
    refine hK.out _ _ ⟨hHeld.1.below bq, hHeld.2.1.below bq, hHeld.2.2.1.imp fun _ h => ⟨h.1, h.2.below bq⟩, hHeld.2.2.2.call bq⟩ (fun hHeld => ?_)
    clear hK K
    clear bq
    refine wpAnyH_ready (rs := [4, 5]) (by kernel_rfl) (by simp) ?_
    refine AllReadyH.cons (o := _) rfl (fun K hK => ?_) (AllReadyH.cons (o := _) rfl (fun K hK => ?_) AllReadyH.nil)
    (simp only [List.getElem_toArray, List.getElem_cons_zero, List.getElem_cons_succ, Region.wanted, if_true])
    go_simp
    have la4 := hHeld.1.lt
    have lb4 := hHeld.2.1.lt
    have lc4 := hHeld.2.2.1.elim fun _ h => h.2.lt
    have ld4 := hHeld.2.2.2.size
    have Z4 := Has.trip0 W13 30
    refine hK.out _ _ ⟨hHeld.1.alloc _, hHeld.2.1.alloc _, hHeld.2.2.1.imp fun _ h => ⟨h.1, h.2.alloc _⟩, hHeld.2.2.2.alloc _⟩ (fun hHeld => ?_)
    clear hK K
    generalize W13.alloc (.cells #[.int .i64 0, .int .i64 0, .int .i64 0] 30) = W134 at *
    generalize W13.heap.size = b4 at *
    (refine wpAnyH_ready (rs := [5]) (by kernel_rfl) (by simp) ?_; refine AllReadyH.cons (o := _) rfl (fun K hK => ?_) AllReadyH.nil; (simp only [List.getElem_toArray, List.getElem_cons_zero, List.getElem_cons_succ, Region.wanted, if_true]))
    go_simp
    have la5 := hHeld.1.lt
    have lb5 := hHeld.2.1.lt
    have lc5 := hHeld.2.2.1.elim fun _ h => h.2.lt
    have ld5 := hHeld.2.2.2.size
    have lZ5 := Z4.lt
    have Z5 := Has.trip0 W134 30
    refine hK.out _ _ ⟨hHeld.1.alloc _, hHeld.2.1.alloc _, hHeld.2.2.1.imp fun _ h => ⟨h.1, h.2.alloc _⟩, hHeld.2.2.2.alloc _⟩ (fun hHeld => ?_)
    clear hK K
    replace Z4 := Z4.alloc (.cells #[.int .i64 0, .int .i64 0, .int .i64 0] 30)
    generalize W134.alloc (.cells #[.int .i64 0, .int .i64 0, .int .i64 0] 30) = W1345 at *
    generalize W134.heap.size = b5 at *
    rotate_left
    (simp only [List.getElem_toArray, List.getElem_cons_zero, List.getElem_cons_succ, Region.wanted, if_true])
    go_simp
    have la5 := hHeld.1.lt
    have lb5 := hHeld.2.1.lt
    have lc5 := hHeld.2.2.1.elim fun _ h => h.2.lt
    have ld5 := hHeld.2.2.2.size
    have Z5 := Has.trip0 W13 30
    refine hK.out _ _ ⟨hHeld.1.alloc _, hHeld.2.1.alloc _, hHeld.2.2.1.imp fun _ h => ⟨h.1, h.2.alloc _⟩, hHeld.2.2.2.alloc _⟩ (fun hHeld => ?_)
    clear hK K
    generalize W13.alloc (.cells #[.int .i64 0, .int .i64 0, .int .i64 0] 30) = W135 at *
    generalize W13.heap.size = b5 at *
    (refine wpAnyH_ready (rs := [4]) (by kernel_rfl) (by simp) ?_; refine AllReadyH.cons (o := _) rfl (fun K hK => ?_) AllReadyH.nil; (simp only [List.getElem_toArray, List.getElem_cons_zero, List.getElem_cons_succ, Region.wanted, if_true]))
    go_simp
    have la4 := hHeld.1.lt
    have lb4 := hHeld.2.1.lt
    have lc4 := hHeld.2.2.1.elim fun _ h => h.2.lt
    have ld4 := hHeld.2.2.2.size
    have lZ4 := Z5.lt
    have Z4 := Has.trip0 W135 30
    refine hK.out _ _ ⟨hHeld.1.alloc _, hHeld.2.1.alloc _, hHeld.2.2.1.imp fun _ h => ⟨h.1, h.2.alloc _⟩, hHeld.2.2.2.alloc _⟩ (fun hHeld => ?_)
    clear hK K
    replace Z5 := Z5.alloc (.cells #[.int .i64 0, .int .i64 0, .int .i64 0] 30)
    generalize W135.alloc (.cells #[.int .i64 0, .int .i64 0, .int .i64 0] 30) = W1345 at *
    generalize W135.heap.size = b4 at *
    rotate_left
    (simp only [List.getElem_toArray, List.getElem_cons_zero, List.getElem_cons_succ, Region.wanted, if_true])
    go_simp
    have la4 := hHeld.1.lt
    have lb4 := hHeld.2.1.lt
    have lc4 := hHeld.2.2.1.elim fun _ h => h.2.lt
    have ld4 := hHeld.2.2.2.size
    have Z4 := Has.trip0 W1 30
    refine hK.out _ _ ⟨hHeld.1.alloc _, hHeld.2.1.alloc _, hHeld.2.2.1.imp fun _ h => ⟨h.1, h.2.alloc _⟩, hHeld.2.2.2.alloc _⟩ (fun hHeld => ?_)
    clear hK K
    generalize W1.alloc (.cells #[.int .i64 0, .int .i64 0, .int .i64 0] 30) = W14 at *
    generalize W1.heap.size = b4 at *
    refine wpAnyH_ready (rs := [3, 5]) (by kernel_rfl) (by simp) ?_
    refine AllReadyH.cons (o := _) rfl (fun K hK => ?_) (AllReadyH.cons (o := _) rfl (fun K hK => ?_) AllReadyH.nil)
    (simp only [List.getElem_toArray, List.getElem_cons_zero, List.getElem_cons_succ, Region.wanted, if_true])
    go_simp
    refine (measures_any R _ R24.out).mono ?_
    rintro e W134 ⟨rfl, bq⟩
    dsimp only
    (try simp only [List.getElem_toArray, List.getElem_cons_zero, List.getElem_cons_succ, Act.put, List.setIfInBounds_toArray, List.set_cons_zero, List.set_cons_succ])
    refine hK.out _ _ ⟨hHeld.1.below bq, hHeld.2.1.below bq, hHeld.2.2.1.imp fun _ h => ⟨h.1, h.2.below bq⟩, hHeld.2.2.2.call bq⟩ (fun hHeld => ?_)
    clear hK K
    replace Z4 := Z4.below bq
    clear bq
    (refine wpAnyH_ready (rs := [5]) (by kernel_rfl) (by simp) ?_; refine AllReadyH.cons (o := _) rfl (fun K hK => ?_) AllReadyH.nil; (simp only [List.getElem_toArray, List.getElem_cons_zero, List.getElem_cons_succ, Region.wanted, if_true]))
    go_simp
    have la5 := hHeld.1.lt
    have lb5 := hHeld.2.1.lt
    have lc5 := hHeld.2.2.1.elim fun _ h => h.2.lt
    have ld5 := hHeld.2.2.2.size
    have lZ5 := Z4.lt
    have Z5 := Has.trip0 W134 30
    refine hK.out _ _ ⟨hHeld.1.alloc _, hHeld.2.1.alloc _, hHeld.2.2.1.imp fun _ h => ⟨h.1, h.2.alloc _⟩, hHeld.2.2.2.alloc _⟩ (fun hHeld => ?_)
    clear hK K
    replace Z4 := Z4.alloc (.cells #[.int .i64 0, .int .i64 0, .int .i64 0] 30)
    generalize W134.alloc (.cells #[.int .i64 0, .int .i64 0, .int .i64 0] 30) = W1345 at *
    generalize W134.heap.size = b5 at *
    rotate_left
    (simp only [List.getElem_toArray, List.getElem_cons_zero, List.getElem_cons_succ, Region.wanted, if_true])
    go_simp
    have la5 := hHeld.1.lt
    have lb5 := hHeld.2.1.lt
    have lc5 := hHeld.2.2.1.elim fun _ h => h.2.lt
    have ld5 := hHeld.2.2.2.size
    have lZ5 := Z4.lt
    have Z5 := Has.trip0 W14 30
    refine hK.out _ _ ⟨hHeld.1.alloc _, hHeld.2.1.alloc _, hHeld.2.2.1.imp fun _ h => ⟨h.1, h.2.alloc _⟩, hHeld.2.2.2.alloc _⟩ (fun hHeld => ?_)
    clear hK K
    replace Z4 := Z4.alloc (.cells #[.int .i64 0, .int .i64 0, .int .i64 0] 30)
    generalize W14.alloc (.cells #[.int .i64 0, .int .i64 0, .int .i64 0] 30) = W145 at *
    generalize W14.heap.size = b5 at *
    (refine wpAnyH_ready (rs := [3]) (by kernel_rfl) (by simp) ?_; refine AllReadyH.cons (o := _) rfl (fun K hK => ?_) AllReadyH.nil; (simp only [List.getElem_toArray, List.getElem_cons_zero, List.getElem_cons_succ, Region.wanted, if_true]))
    go_simp
    refine (measures_any R _ R24.out).mono ?_
    rintro e W1345 ⟨rfl, bq⟩
    dsimp only
    (try simp only [List.getElem_toArray, List.getElem_cons_zero, List.getElem_cons_succ, Act.put, List.setIfInBounds_toArray, List.set_cons_zero, List.set_cons_succ])
    refine hK.out _ _ ⟨hHeld.1.below bq, hHeld.2.1.below bq, hHeld.2.2.1.imp fun _ h => ⟨h.1, h.2.below bq⟩, hHeld.2.2.2.call bq⟩ (fun hHeld => ?_)
    clear hK K
    replace Z4 := Z4.below bq
    replace Z5 := Z5.below bq
    clear bq
    rotate_left
    (simp only [List.getElem_toArray, List.getElem_cons_zero, List.getElem_cons_succ, Region.wanted, if_true])
    go_simp
    have la5 := hHeld.1.lt
    have lb5 := hHeld.2.1.lt
    have lc5 := hHeld.2.2.1.elim fun _ h => h.2.lt
    have ld5 := hHeld.2.2.2.size
    have Z5 := Has.trip0 W1 30
    refine hK.out _ _ ⟨hHeld.1.alloc _, hHeld.2.1.alloc _, hHeld.2.2.1.imp fun _ h => ⟨h.1, h.2.alloc _⟩, hHeld.2.2.2.alloc _⟩ (fun hHeld => ?_)
    clear hK K
    generalize W1.alloc (.cells #[.int .i64 0, .int .i64 0, .int .i64 0] 30) = W15 at *
    generalize W1.heap.size = b5 at *
    refine wpAnyH_ready (rs := [3, 4]) (by kernel_rfl) (by simp) ?_
    refine AllReadyH.cons (o := _) rfl (fun K hK => ?_) (AllReadyH.cons (o := _) rfl (fun K hK => ?_) AllReadyH.nil)
    (simp only [List.getElem_toArray, List.getElem_cons_zero, List.getElem_cons_succ, Region.wanted, if_true])
    go_simp
    refine (measures_any R _ R24.out).mono ?_
    rintro e W135 ⟨rfl, bq⟩
    dsimp only
    (try simp only [List.getElem_toArray, List.getElem_cons_zero, List.getElem_cons_succ, Act.put, List.setIfInBounds_toArray, List.set_cons_zero, List.set_cons_succ])
    refine hK.out _ _ ⟨hHeld.1.below bq, hHeld.2.1.below bq, hHeld.2.2.1.imp fun _ h => ⟨h.1, h.2.below bq⟩, hHeld.2.2.2.call bq⟩ (fun hHeld => ?_)
    clear hK K
    replace Z5 := Z5.below bq
    clear bq
    (refine wpAnyH_ready (rs := [4]) (by kernel_rfl) (by simp) ?_; refine AllReadyH.cons (o := _) rfl (fun K hK => ?_) AllReadyH.nil; (simp only [List.getElem_toArray, List.getElem_cons_zero, List.getElem_cons_succ, Region.wanted, if_true]))
    go_simp
    have la4 := hHeld.1.lt
    have lb4 := hHeld.2.1.lt
    have lc4 := hHeld.2.2.1.elim fun _ h => h.2.lt
    have ld4 := hHeld.2.2.2.size
    have lZ4 := Z5.lt
    have Z4 := Has.trip0 W135 30
    refine hK.out _ _ ⟨hHeld.1.alloc _, hHeld.2.1.alloc _, hHeld.2.2.1.imp fun _ h => ⟨h.1, h.2.alloc _⟩, hHeld.2.2.2.alloc _⟩ (fun hHeld => ?_)
    clear hK K
    replace Z5 := Z5.alloc (.cells #[.int .i64 0, .int .i64 0, .int .i64 0] 30)
    generalize W135.alloc (.cells #[.int .i64 0, .int .i64 0, .int .i64 0] 30) = W1345 at *
    generalize W135.heap.size = b4 at *
    rotate_left
    (simp only [List.getElem_toArray, List.getElem_cons_zero, List.getElem_cons_succ, Region.wanted, if_true])
    go_simp
    have la4 := hHeld.1.lt
    have lb4 := hHeld.2.1.lt
    have lc4 := hHeld.2.2.1.elim fun _ h => h.2.lt
    have ld4 := hHeld.2.2.2.size
    have lZ4 := Z5.lt
    have Z4 := Has.trip0 W15 30
    refine hK.out _ _ ⟨hHeld.1.alloc _, hHeld.2.1.alloc _, hHeld.2.2.1.imp fun _ h => ⟨h.1, h.2.alloc _⟩, hHeld.2.2.2.alloc _⟩ (fun hHeld => ?_)
    clear hK K
    replace Z5 := Z5.alloc (.cells #[.int .i64 0, .int .i64 0, .int .i64 0] 30)
    generalize W15.alloc (.cells #[.int .i64 0, .int .i64 0, .int .i64 0] 30) = W145 at *
    generalize W15.heap.size = b4 at *
    (refine wpAnyH_ready (rs := [3]) (by kernel_rfl) (by simp) ?_; refine AllReadyH.cons (o := _) rfl (fun K hK => ?_) AllReadyH.nil; (simp only [List.getElem_toArray, List.getElem_cons_zero, List.getElem_cons_succ, Region.wanted, if_true]))
    go_simp
    refine (measures_any R _ R24.out).mono ?_
    rintro e W1345 ⟨rfl, bq⟩
    dsimp only
    (try simp only [List.getElem_toArray, List.getElem_cons_zero, List.getElem_cons_succ, Act.put, List.setIfInBounds_toArray, List.set_cons_zero, List.set_cons_succ])
    refine hK.out _ _ ⟨hHeld.1.below bq, hHeld.2.1.below bq, hHeld.2.2.1.imp fun _ h => ⟨h.1, h.2.below bq⟩, hHeld.2.2.2.call bq⟩ (fun hHeld => ?_)
    clear hK K
    replace Z4 := Z4.below bq
    replace Z5 := Z5.below bq
    clear bq
    rotate_left
    (simp only [List.getElem_toArray, List.getElem_cons_zero, List.getElem_cons_succ, Region.wanted, if_true])
    go_simp
    have la4 := hHeld.1.lt
    have lb4 := hHeld.2.1.lt
    have lc4 := hHeld.2.2.1.elim fun _ h => h.2.lt
    have ld4 := hHeld.2.2.2.size
    have Z4 := Has.trip0 WD 30
    refine hK.out _ _ ⟨hHeld.1.alloc _, hHeld.2.1.alloc _, hHeld.2.2.1.imp fun _ h => ⟨h.1, h.2.alloc _⟩, hHeld.2.2.2.alloc _⟩ (fun hHeld => ?_)
    clear hK K
    generalize WD.alloc (.cells #[.int .i64 0, .int .i64 0, .int .i64 0] 30) = W4 at *
    generalize WD.heap.size = b4 at *
    refine wpAnyH_ready (rs := [1, 5]) (by kernel_rfl) (by simp) ?_
    refine AllReadyH.cons (o := _) rfl (fun K hK => ?_) (AllReadyH.cons (o := _) rfl (fun K hK => ?_) AllReadyH.nil)
    (simp only [List.getElem_toArray, List.getElem_cons_zero, List.getElem_cons_succ, Region.wanted, if_true])
    go_simp
    refine (measures_any ns _ H24.out).mono ?_
    rintro e W14 ⟨rfl, bq⟩
    dsimp only
    (try simp only [List.getElem_toArray, List.getElem_cons_zero, List.getElem_cons_succ, Act.put, List.setIfInBounds_toArray, List.set_cons_zero, List.set_cons_succ])
    refine hK.out _ _ ⟨hHeld.1.below bq, hHeld.2.1.below bq, hHeld.2.2.1.imp fun _ h => ⟨h.1, h.2.below bq⟩, hHeld.2.2.2.call bq⟩ (fun hHeld => ?_)
    clear hK K
    replace Z4 := Z4.below bq
    clear bq
    refine wpAnyH_ready (rs := [3, 5]) (by kernel_rfl) (by simp) ?_
    refine AllReadyH.cons (o := _) rfl (fun K hK => ?_) (AllReadyH.cons (o := _) rfl (fun K hK => ?_) AllReadyH.nil)
    (simp only [List.getElem_toArray, List.getElem_cons_zero, List.getElem_cons_succ, Region.wanted, if_true])
    go_simp
    refine (measures_any R _ R24.out).mono ?_
    rintro e W134 ⟨rfl, bq⟩
    dsimp only
    (try simp only [List.getElem_toArray, List.getElem_cons_zero, List.getElem_cons_succ, Act.put, List.setIfInBounds_toArray, List.set_cons_zero, List.set_cons_succ])
    refine hK.out _ _ ⟨hHeld.1.below bq, hHeld.2.1.below bq, hHeld.2.2.1.imp fun _ h => ⟨h.1, h.2.below bq⟩, hHeld.2.2.2.call bq⟩ (fun hHeld => ?_)
    clear hK K
    replace Z4 := Z4.below bq
    clear bq
    (refine wpAnyH_ready (rs := [5]) (by kernel_rfl) (by simp) ?_; refine AllReadyH.cons (o := _) rfl (fun K hK => ?_) AllReadyH.nil; (simp only [List.getElem_toArray, List.getElem_cons_zero, List.getElem_cons_succ, Region.wanted, if_true]))
    go_simp
    have la5 := hHeld.1.lt
    have lb5 := hHeld.2.1.lt
    have lc5 := hHeld.2.2.1.elim fun _ h => h.2.lt
    have ld5 := hHeld.2.2.2.size
    have lZ5 := Z4.lt
    have Z5 := Has.trip0 W134 30
    refine hK.out _ _ ⟨hHeld.1.alloc _, hHeld.2.1.alloc _, hHeld.2.2.1.imp fun _ h => ⟨h.1, h.2.alloc _⟩, hHeld.2.2.2.alloc _⟩ (fun hHeld => ?_)
    clear hK K
    replace Z4 := Z4.alloc (.cells #[.int .i64 0, .int .i64 0, .int .i64 0] 30)
    generalize W134.alloc (.cells #[.int .i64 0, .int .i64 0, .int .i64 0] 30) = W1345 at *
    generalize W134.heap.size = b5 at *
    rotate_left
    (simp only [List.getElem_toArray, List.getElem_cons_zero, List.getElem_cons_succ, Region.wanted, if_true])
    go_simp
    have la5 := hHeld.1.lt
    have lb5 := hHeld.2.1.lt
    have lc5 := hHeld.2.2.1.elim fun _ h => h.2.lt
    have ld5 := hHeld.2.2.2.size
    have lZ5 := Z4.lt
    have Z5 := Has.trip0 W14 30
    refine hK.out _ _ ⟨hHeld.1.alloc _, hHeld.2.1.alloc _, hHeld.2.2.1.imp fun _ h => ⟨h.1, h.2.alloc _⟩, hHeld.2.2.2.alloc _⟩ (fun hHeld => ?_)
    clear hK K
    replace Z4 := Z4.alloc (.cells #[.int .i64 0, .int .i64 0, .int .i64 0] 30)
    generalize W14.alloc (.cells #[.int .i64 0, .int .i64 0, .int .i64 0] 30) = W145 at *
    generalize W14.heap.size = b5 at *
    (refine wpAnyH_ready (rs := [3]) (by kernel_rfl) (by simp) ?_; refine AllReadyH.cons (o := _) rfl (fun K hK => ?_) AllReadyH.nil; (simp only [List.getElem_toArray, List.getElem_cons_zero, List.getElem_cons_succ, Region.wanted, if_true]))
    go_simp
    refine (measures_any R _ R24.out).mono ?_
    rintro e W1345 ⟨rfl, bq⟩
    dsimp only
    (try simp only [List.getElem_toArray, List.getElem_cons_zero, List.getElem_cons_succ, Act.put, List.setIfInBounds_toArray, List.set_cons_zero, List.set_cons_succ])
    refine hK.out _ _ ⟨hHeld.1.below bq, hHeld.2.1.below bq, hHeld.2.2.1.imp fun _ h => ⟨h.1, h.2.below bq⟩, hHeld.2.2.2.call bq⟩ (fun hHeld => ?_)
    clear hK K
    replace Z4 := Z4.below bq
    replace Z5 := Z5.below bq
    clear bq
    rotate_left
    (simp only [List.getElem_toArray, List.getElem_cons_zero, List.getElem_cons_succ, Region.wanted, if_true])
    go_simp
    have la5 := hHeld.1.lt
    have lb5 := hHeld.2.1.lt
    have lc5 := hHeld.2.2.1.elim fun _ h => h.2.lt
    have ld5 := hHeld.2.2.2.size
    have lZ5 := Z4.lt
    have Z5 := Has.trip0 W4 30
    refine hK.out _ _ ⟨hHeld.1.alloc _, hHeld.2.1.alloc _, hHeld.2.2.1.imp fun _ h => ⟨h.1, h.2.alloc _⟩, hHeld.2.2.2.alloc _⟩ (fun hHeld => ?_)
    clear hK K
    replace Z4 := Z4.alloc (.cells #[.int .i64 0, .int .i64 0, .int .i64 0] 30)
    generalize W4.alloc (.cells #[.int .i64 0, .int .i64 0, .int .i64 0] 30) = W45 at *
    generalize W4.heap.size = b5 at *
    (refine wpAnyH_ready (rs := [1]) (by kernel_rfl) (by simp) ?_; refine AllReadyH.cons (o := _) rfl (fun K hK => ?_) AllReadyH.nil; (simp only [List.getElem_toArray, List.getElem_cons_zero, List.getElem_cons_succ, Region.wanted, if_true]))
    go_simp
    refine (measures_any ns _ H24.out).mono ?_
    rintro e W145 ⟨rfl, bq⟩
    dsimp only
    (try simp only [List.getElem_toArray, List.getElem_cons_zero, List.getElem_cons_succ, Act.put, List.setIfInBounds_toArray, List.set_cons_zero, List.set_cons_succ])
    refine hK.out _ _ ⟨hHeld.1.below bq, hHeld.2.1.below bq, hHeld.2.2.1.imp fun _ h => ⟨h.1, h.2.below bq⟩, hHeld.2.2.2.call bq⟩ (fun hHeld => ?_)
    clear hK K
    replace Z4 := Z4.below bq
    replace Z5 := Z5.below bq
    clear bq
    (refine wpAnyH_ready (rs := [3]) (by kernel_rfl) (by simp) ?_; refine AllReadyH.cons (o := _) rfl (fun K hK => ?_) AllReadyH.nil; (simp only [List.getElem_toArray, List.getElem_cons_zero, List.getElem_cons_succ, Region.wanted, if_true]))
    go_simp
    refine (measures_any R _ R24.out).mono ?_
    rintro e W1345 ⟨rfl, bq⟩
    dsimp only
    (try simp only [List.getElem_toArray, List.getElem_cons_zero, List.getElem_cons_succ, Act.put, List.setIfInBounds_toArray, List.set_cons_zero, List.set_cons_succ])
    refine hK.out _ _ ⟨hHeld.1.below bq, hHeld.2.1.below bq, hHeld.2.2.1.imp fun _ h => ⟨h.1, h.2.below bq⟩, hHeld.2.2.2.call bq⟩ (fun hHeld => ?_)
    clear hK K
    replace Z4 := Z4.below bq
    replace Z5 := Z5.below bq
    clear bq
    rotate_left
    (simp only [List.getElem_toArray, List.getElem_cons_zero, List.getElem_cons_succ, Region.wanted, if_true])
    go_simp
    have la5 := hHeld.1.lt
    have lb5 := hHeld.2.1.lt
    have lc5 := hHeld.2.2.1.elim fun _ h => h.2.lt
    have ld5 := hHeld.2.2.2.size
    have Z5 := Has.trip0 WD 30
    refine hK.out _ _ ⟨hHeld.1.alloc _, hHeld.2.1.alloc _, hHeld.2.2.1.imp fun _ h => ⟨h.1, h.2.alloc _⟩, hHeld.2.2.2.alloc _⟩ (fun hHeld => ?_)
    clear hK K
    generalize WD.alloc (.cells #[.int .i64 0, .int .i64 0, .int .i64 0] 30) = W5 at *
    generalize WD.heap.size = b5 at *
    refine wpAnyH_ready (rs := [1, 4]) (by kernel_rfl) (by simp) ?_
    refine AllReadyH.cons (o := _) rfl (fun K hK => ?_) (AllReadyH.cons (o := _) rfl (fun K hK => ?_) AllReadyH.nil)
    (simp only [List.getElem_toArray, List.getElem_cons_zero, List.getElem_cons_succ, Region.wanted, if_true])
    go_simp
    refine (measures_any ns _ H24.out).mono ?_
    rintro e W15 ⟨rfl, bq⟩
    dsimp only
    (try simp only [List.getElem_toArray, List.getElem_cons_zero, List.getElem_cons_succ, Act.put, List.setIfInBounds_toArray, List.set_cons_zero, List.set_cons_succ])
    refine hK.out _ _ ⟨hHeld.1.below bq, hHeld.2.1.below bq, hHeld.2.2.1.imp fun _ h => ⟨h.1, h.2.below bq⟩, hHeld.2.2.2.call bq⟩ (fun hHeld => ?_)
    clear hK K
    replace Z5 := Z5.below bq
    clear bq
    refine wpAnyH_ready (rs := [3, 4]) (by kernel_rfl) (by simp) ?_
    refine AllReadyH.cons (o := _) rfl (fun K hK => ?_) (AllReadyH.cons (o := _) rfl (fun K hK => ?_) AllReadyH.nil)
    (simp only [List.getElem_toArray, List.getElem_cons_zero, List.getElem_cons_succ, Region.wanted, if_true])
    go_simp
    refine (measures_any R _ R24.out).mono ?_
    rintro e W135 ⟨rfl, bq⟩
    dsimp only
    (try simp only [List.getElem_toArray, List.getElem_cons_zero, List.getElem_cons_succ, Act.put, List.setIfInBounds_toArray, List.set_cons_zero, List.set_cons_succ])
    refine hK.out _ _ ⟨hHeld.1.below bq, hHeld.2.1.below bq, hHeld.2.2.1.imp fun _ h => ⟨h.1, h.2.below bq⟩, hHeld.2.2.2.call bq⟩ (fun hHeld => ?_)
    clear hK K
    replace Z5 := Z5.below bq
    clear bq
    (refine wpAnyH_ready (rs := [4]) (by kernel_rfl) (by simp) ?_; refine AllReadyH.cons (o := _) rfl (fun K hK => ?_) AllReadyH.nil; (simp only [List.getElem_toArray, List.getElem_cons_zero, List.getElem_cons_succ, Region.wanted, if_true]))
    go_simp
    have la4 := hHeld.1.lt
    have lb4 := hHeld.2.1.lt
    have lc4 := hHeld.2.2.1.elim fun _ h => h.2.lt
    have ld4 := hHeld.2.2.2.size
    have lZ4 := Z5.lt
    have Z4 := Has.trip0 W135 30
    refine hK.out _ _ ⟨hHeld.1.alloc _, hHeld.2.1.alloc _, hHeld.2.2.1.imp fun _ h => ⟨h.1, h.2.alloc _⟩, hHeld.2.2.2.alloc _⟩ (fun hHeld => ?_)
    clear hK K
    replace Z5 := Z5.alloc (.cells #[.int .i64 0, .int .i64 0, .int .i64 0] 30)
    generalize W135.alloc (.cells #[.int .i64 0, .int .i64 0, .int .i64 0] 30) = W1345 at *
    generalize W135.heap.size = b4 at *
    rotate_left
    (simp only [List.getElem_toArray, List.getElem_cons_zero, List.getElem_cons_succ, Region.wanted, if_true])
    go_simp
    have la4 := hHeld.1.lt
    have lb4 := hHeld.2.1.lt
    have lc4 := hHeld.2.2.1.elim fun _ h => h.2.lt
    have ld4 := hHeld.2.2.2.size
    have lZ4 := Z5.lt
    have Z4 := Has.trip0 W15 30
    refine hK.out _ _ ⟨hHeld.1.alloc _, hHeld.2.1.alloc _, hHeld.2.2.1.imp fun _ h => ⟨h.1, h.2.alloc _⟩, hHeld.2.2.2.alloc _⟩ (fun hHeld => ?_)
    clear hK K
    replace Z5 := Z5.alloc (.cells #[.int .i64 0, .int .i64 0, .int .i64 0] 30)
    generalize W15.alloc (.cells #[.int .i64 0, .int .i64 0, .int .i64 0] 30) = W145 at *
    generalize W15.heap.size = b4 at *
    (refine wpAnyH_ready (rs := [3]) (by kernel_rfl) (by simp) ?_; refine AllReadyH.cons (o := _) rfl (fun K hK => ?_) AllReadyH.nil; (simp only [List.getElem_toArray, List.getElem_cons_zero, List.getElem_cons_succ, Region.wanted, if_true]))
    go_simp
    refine (measures_any R _ R24.out).mono ?_
    rintro e W1345 ⟨rfl, bq⟩
    dsimp only
    (try simp only [List.getElem_toArray, List.getElem_cons_zero, List.getElem_cons_succ, Act.put, List.setIfInBounds_toArray, List.set_cons_zero, List.set_cons_succ])
    refine hK.out _ _ ⟨hHeld.1.below bq, hHeld.2.1.below bq, hHeld.2.2.1.imp fun _ h => ⟨h.1, h.2.below bq⟩, hHeld.2.2.2.call bq⟩ (fun hHeld => ?_)
    clear hK K
    replace Z4 := Z4.below bq
    replace Z5 := Z5.below bq
    clear bq
    rotate_left
    (simp only [List.getElem_toArray, List.getElem_cons_zero, List.getElem_cons_succ, Region.wanted, if_true])
    go_simp
    have la4 := hHeld.1.lt
    have lb4 := hHeld.2.1.lt
    have lc4 := hHeld.2.2.1.elim fun _ h => h.2.lt
    have ld4 := hHeld.2.2.2.size
    have lZ4 := Z5.lt
    have Z4 := Has.trip0 W5 30
    refine hK.out _ _ ⟨hHeld.1.alloc _, hHeld.2.1.alloc _, hHeld.2.2.1.imp fun _ h => ⟨h.1, h.2.alloc _⟩, hHeld.2.2.2.alloc _⟩ (fun hHeld => ?_)
    clear hK K
    replace Z5 := Z5.alloc (.cells #[.int .i64 0, .int .i64 0, .int .i64 0] 30)
    generalize W5.alloc (.cells #[.int .i64 0, .int .i64 0, .int .i64 0] 30) = W45 at *
    generalize W5.heap.size = b4 at *
    (refine wpAnyH_ready (rs := [1]) (by kernel_rfl) (by simp) ?_; refine AllReadyH.cons (o := _) rfl (fun K hK => ?_) AllReadyH.nil; (simp only [List.getElem_toArray, List.getElem_cons_zero, List.getElem_cons_succ, Region.wanted, if_true]))
    go_simp
    refine (measures_any ns _ H24.out).mono ?_
    rintro e W145 ⟨rfl, bq⟩
    dsimp only
    (try simp only [List.getElem_toArray, List.getElem_cons_zero, List.getElem_cons_succ, Act.put, List.setIfInBounds_toArray, List.set_cons_zero, List.set_cons_succ])
    refine hK.out _ _ ⟨hHeld.1.below bq, hHeld.2.1.below bq, hHeld.2.2.1.imp fun _ h => ⟨h.1, h.2.below bq⟩, hHeld.2.2.2.call bq⟩ (fun hHeld => ?_)
    clear hK K
    replace Z4 := Z4.below bq
    replace Z5 := Z5.below bq
    clear bq
    (refine wpAnyH_ready (rs := [3]) (by kernel_rfl) (by simp) ?_; refine AllReadyH.cons (o := _) rfl (fun K hK => ?_) AllReadyH.nil; (simp only [List.getElem_toArray, List.getElem_cons_zero, List.getElem_cons_succ, Region.wanted, if_true]))
    go_simp
    refine (measures_any R _ R24.out).mono ?_
    rintro e W1345 ⟨rfl, bq⟩
    dsimp only
    (try simp only [List.getElem_toArray, List.getElem_cons_zero, List.getElem_cons_succ, Act.put, List.setIfInBounds_toArray, List.set_cons_zero, List.set_cons_succ])
    refine hK.out _ _ ⟨hHeld.1.below bq, hHeld.2.1.below bq, hHeld.2.2.1.imp fun _ h => ⟨h.1, h.2.below bq⟩, hHeld.2.2.2.call bq⟩ (fun hHeld => ?_)
    clear hK K
    replace Z4 := Z4.below bq
    replace Z5 := Z5.below bq
    clear bq
    rotate_left
    all_goals
      have hi3 : (Try.prog.info? 30).map (·.size) = some 3 := by kernel_rfl
      have lmns : (ints (meas ns)).length = 3 := rfl
      have lmR : (ints (meas R)).length = 3 := rfl
      (refine wpAnyH_ready (rs := [6]) (by kernel_rfl) (by simp) ?_; refine AllReadyH.cons (o := _) rfl (fun K hK => ?_) AllReadyH.nil; (simp only [List.getElem_toArray, List.getElem_cons_zero, List.getElem_cons_succ, Region.wanted, if_true]))
      refine wp_store_mid _ _ _ rfl _ _ (ints (meas ns)).toArray rfl rfl (by simpa [lmns] using Z4.there) (by simpa [lmns] using hi3) (all_oneCell_toArray (ints_one _)) ?_
      (try simp only [List.getElem_toArray, List.getElem_cons_zero, List.getElem_cons_succ, Act.put, List.setIfInBounds_toArray, List.set_cons_zero, List.set_cons_succ, List.toList_toArray])
      refine hK.out _ _ ⟨hHeld.1.putOther (b' := b4) 0 (ints (meas ns)) (by omega), hHeld.2.1.putOther (b' := b4) 0 (ints (meas ns)) (by omega), hHeld.2.2.1.imp fun _ h => ⟨h.1, h.2.putOther (b' := b4) 0 (ints (meas ns)) (by omega)⟩, hHeld.2.2.2.puts (b := b4) (by omega) 0 (ints (meas ns))⟩ (fun hHeld => ?_)
      clear hK K
      replace Z4 := Z4.putAll (meas ns) rfl
      replace Z5 := Z5.putOther (b' := b4) 0 (ints (meas ns)) (by omega)
      (refine wpAnyH_ready (rs := [7]) (by kernel_rfl) (by simp) ?_; refine AllReadyH.cons (o := _) rfl (fun K hK => ?_) AllReadyH.nil; (simp only [List.getElem_toArray, List.getElem_cons_zero, List.getElem_cons_succ, Region.wanted, if_true]))
      refine wp_store_mid _ _ _ rfl _ _ (ints (meas R)).toArray rfl rfl (by simpa [lmR] using Z5.there) (by simpa [lmR] using hi3) (all_oneCell_toArray (ints_one _)) ?_
      (try simp only [List.getElem_toArray, List.getElem_cons_zero, List.getElem_cons_succ, Act.put, List.setIfInBounds_toArray, List.set_cons_zero, List.set_cons_succ, List.toList_toArray])
      refine hK.out _ _ ⟨hHeld.1.putOther (b' := b5) 0 (ints (meas R)) (by omega), hHeld.2.1.putOther (b' := b5) 0 (ints (meas R)) (by omega), hHeld.2.2.1.imp fun _ h => ⟨h.1, h.2.putOther (b' := b5) 0 (ints (meas R)) (by omega)⟩, hHeld.2.2.2.puts (b := b5) (by omega) 0 (ints (meas R))⟩ (fun hHeld => ?_)
      clear hK K
      replace Z5 := Z5.putAll (meas R) rfl
      replace Z4 := Z4.putOther (b' := b5) 0 (ints (meas R)) (by omega)
      refine wpAnyH_done (by kernel_rfl) ?_ _
      obtain ⟨_, _, ⟨_, rfl, GR⟩, GB⟩ := hHeld
      have GB2 := Lib.hid GB
      clear GB
      generalize World.setCells (World.setCells _ b4 0 (ints (meas ns))) b5 0 (ints (meas R)) = WS at *
      have CA := Lib.hid (fun k hk => chg_at (meas R) (meas ns) k hk)
      have MB : Hid (∀ k, k < 3 → (-6 ≤ (meas R).getD k 0 ∧ (meas R).getD k 0 ≤ 49) ∧ (-6 ≤ (meas ns).getD k 0 ∧ (meas ns).getD k 0 ≤ 49)) := Lib.hid (fun k hk => by
        match k, hk with
        | 0, _ => exact ⟨⟨show -6 ≤ runsA R by omega, show runsA R ≤ 49 by omega⟩, ⟨show -6 ≤ runsA ns by omega, show runsA ns ≤ 49 by omega⟩⟩
        | 1, _ => exact ⟨⟨show -6 ≤ edgeA R by omega, show edgeA R ≤ 49 by omega⟩, ⟨show -6 ≤ edgeA ns by omega, show edgeA ns ≤ 49 by omega⟩⟩
        | 2, _ => exact ⟨⟨show -6 ≤ bndA R by omega, show bndA R ≤ 49 by omega⟩, ⟨show -6 ≤ bndA ns by omega, show bndA ns ≤ 49 by omega⟩⟩)
      have hle : w.heap.size + 1 < b4 ∧ w.heap.size + 1 < b5 ∧ b4 ≠ b5 := by omega
      have HQ := Lib.hid hle
      clear M1 M2 hle
      have Z6 : Has WS b5 (chgUp (meas R) (meas ns) 0) 3 := Z5
      go_wp2_with fail
      go_loopg [29] 3 (fun gk i wr => ∃ k : Nat, gk = 3 - k ∧ k ≤ 3 ∧ i = .int .i64 k ∧ Has wr b5 (chgUp (meas R) (meas ns) k) 3 ∧ Has wr b4 (meas ns) 3 ∧ Has wr (w.heap.size + 1) z3 3 ∧ Hid (Kept w wr))
      case atStart => exact ⟨0, rfl, by omega, rfl, Z6, Z4, GR, GB2⟩
      case round =>
        obtain ⟨k, rfl, hk, rfl, K5, K4, KR, KB⟩ := hrel
        have hQ := HQ.out
        by_cases hk3 : k < 3
        · have hki : (k : Int) < 3 := by omega
          have c5 := K5.cell k hk3
          have c4 := K4.cell k hk3
          have f5 := K5.free k hk3
          have ca := CA.out k hk3
          have mb := MB.out k hk3
          rw [ca.1] at c5
          have S5 := K5.set k ((meas R).getD k 0 - (meas ns).getD k 0) hk3
          rw [ca.2] at S5
          have S4 := K4.setOther (b' := b5) k (.int .i64 ((meas R).getD k 0 - (meas ns).getD k 0)) (by omega)
          have SR := KR.setOther (b' := b5) k (.int .i64 ((meas R).getD k 0 - (meas ns).getD k 0)) (by omega)
          have SB := KB.out.set (b := b5) (by omega) k (.int .i64 ((meas R).getD k 0 - (meas ns).getD k 0))
          have GG : Hid (∀ n : Nat, Has ((wr.drewN n).setCell ⟨b5, k, none⟩ (.int .i64 ((meas R).getD k 0 - (meas ns).getD k 0))) b5 (chgUp (meas R) (meas ns) (k + 1)) 3 ∧ Has ((wr.drewN n).setCell ⟨b5, k, none⟩ (.int .i64 ((meas R).getD k 0 - (meas ns).getD k 0))) b4 (meas ns) 3 ∧ Has ((wr.drewN n).setCell ⟨b5, k, none⟩ (.int .i64 ((meas R).getD k 0 - (meas ns).getD k 0))) (w.heap.size + 1) z3 3 ∧ Kept w ((wr.drewN n).setCell ⟨b5, k, none⟩ (.int .i64 ((meas R).getD k 0 - (meas ns).getD k 0)))) :=
            Lib.hid (fun n => ⟨S5.drewN n, S4.drewN n, SR.drewN n, SB.drewN n⟩)
          clear S5 S4 SR SB K5 K4 KR KB ca hQ
          generalize (meas R).getD k 0 = x at *
          generalize (meas ns).getD k 0 = y at *
          have W1 : IntKind.i64.wrap (x - y) = x - y := IntWalk.i64_in _ (by omega)
          go_wp2_with fail
          go_region
          all_goals
            go_wp2_with fail
            go_roundg (3 - (k + 1))
            case rel => exact ⟨k + 1, rfl, by omega, by go_num, (GG.out _).1, (GG.out _).2.1, (GG.out _).2.2.1, Lib.hid (GG.out _).2.2.2⟩
            case measure => omega
        · obtain rfl : k = 3 := by omega
          have S1 := Lib.hid (KR.putAll (chgUp (meas R) (meas ns) 3) rfl)
          have S2 := Lib.hid (KB.out.puts (b := w.heap.size + 1) (by omega) 0 (ints (chgUp (meas R) (meas ns) 3)))
          have hl3 : (chgUp (meas R) (meas ns) 3).length = 3 := rfl
          go_wp2_with (first | (refine load_has rfl 30 _ rfl _ rfl ?_ 3 ?_ _ Try.underlying30 rfl ?_ ?_; rotate_left; (· (repeat (first | (with_reducible assumption) | ((with_reducible refine Has.box _ _ ?_ ?_) <;> (first | assumption | decide)) | (with_reducible refine Has.alloc ?_ _) | ((with_reducible refine Has.putOther ?_ _ _ ?_); rotate_left; omega; skip) | ((with_reducible refine Has.below ?_ ?_); rotate_left; assumption)))); (· kernel_rfl)) | (refine store_at rfl 30 _ _ rfl _ _ rfl rfl ?_ 3 ?_ ?_ ?_ ?_; rotate_left; (· (repeat (first | (with_reducible assumption) | ((with_reducible refine Has.box _ _ ?_ ?_) <;> (first | assumption | decide)) | (with_reducible refine Has.alloc ?_ _) | ((with_reducible refine Has.putOther ?_ _ _ ?_); rotate_left; omega; skip) | ((with_reducible refine Has.below ?_ ?_); rotate_left; assumption)))); (· (first | assumption | rfl)); (· kernel_rfl)))
          exact bodyPost_ret (res_has1 rfl _ _ (w.heap.size + 1) (chgUp (meas R) (meas ns) 3) 3 _ (.bool true) rfl rfl S1.out Try.underlying30 rfl (by kernel_rfl)) rfl ⟨by rw [E.out, HP.out], S2.out⟩
  · have hf : pourOk ns i j = false := by simpa using hp
    have E := Lib.hid (show chgA ns i j = z3 by unfold chgA; rw [if_neg hp])
    rw [hf]
    have HP := Lib.hid hf
    have S1 := Lib.hid (Z1.putAll z3 rfl)
    have S2 := Lib.hid (HB1.out.puts (b := w.heap.size + 1) (by omega) 0 (ints z3))
    clear hf hp N1 H1
    go_wp2_with (first | (refine store_new rfl 27 _ _ rfl _ _ _ rfl _ rfl _ rfl rfl ?_ ?_ ?_; (· (first | assumption | rfl)); (· kernel_rfl)) | (refine build_law rfl 30 rfl _ build3 ?_) | (refine store_at rfl 30 _ _ rfl _ _ rfl rfl ?_ 3 ?_ ?_ ?_ ?_; rotate_left; (· (repeat (first | (with_reducible assumption) | ((with_reducible refine Has.box _ _ ?_ ?_) <;> (first | assumption | decide)) | (with_reducible refine Has.alloc ?_ _) | ((with_reducible refine Has.putOther ?_ _ _ ?_); rotate_left; omega; skip) | ((with_reducible refine Has.below ?_ ?_); rotate_left; assumption)))); (· (first | assumption | rfl)); (· kernel_rfl)))
    exact bodyPost_ret (res_has1 rfl _ _ (w.heap.size + 1) z3 3 _ (.bool false) rfl rfl S1.out Try.underlying30 rfl (by kernel_rfl)) rfl ⟨by rw [E.out, HP.out], S2.out⟩

end Go.Proofs.Ytmhkjakgdfadbaa.base
