/-
  Spare runs, and whether a rack fits, on both sides, walked.
-/
import Derived.Test.YtmhkjakgdfadbaaBndI
namespace Go.Proofs.Ytmhkjakgdfadbaa.base
open Go.ChangeShapes Go.WideShapes Go.ChangeAt Go.RowKit
set_option linter.unusedVariables false
set_option linter.unusedSimpArgs false

set_option maxHeartbeats 1600000 in
set_option maxRecDepth 100000 in
theorem specSpare (ns : List Int) (w : World) (h24 : ns.length = 24) :
    Calls Try.prog 16 #[row ns] w fun e w' => e = .returned (.tuple #[.int .i64 (spareA ns), .bool (vR ns)]) ∧ Kept w w' := by
  have HB := Lib.hid ((kept_refl w).alloc (.cells (ints ns).toArray 27))
  have H := Has.box w 27 h24 (by omega)
  have hi1 : (Try.prog.info? 27).map (·.size) = some (ints ns).length := by rw [ints_len, h24]; kernel_rfl
  have hi6 : (Try.prog.info? 36).map (·.size) = some 6 := by kernel_rfl
  rw [row_ints]
  go_enter Try.func16, Try.ntmps16
  go_wp2_with (refine load_has rfl 27 _ rfl _ rfl ?_ 24 ?_ _ Try.underlying27 rfl ?_ ?_; rotate_left; (· (repeat (first | (with_reducible assumption) | ((with_reducible refine Has.box _ _ ?_ ?_) <;> (first | assumption | decide)) | (with_reducible refine Has.alloc ?_ _) | ((with_reducible refine Has.putOther ?_ _ _ ?_); rotate_left; omega; skip) | ((with_reducible refine Has.below ?_ ?_); rotate_left; assumption)))); (· kernel_rfl))
  refine (l2Rack_any ns _ h24).mono ?_
  rintro e w1 ⟨rfl, b1⟩
  replace H := H.below b1
  replace HB := Lib.hid (HB.out.call b1)
  clear b1
  by_cases hv : vR ns = true
  case neg =>
    have hf : vR ns = false := by simpa using hv
    have E := Lib.hid (show spareA ns = 0 by unfold spareA; rw [if_neg hv])
    rw [hf]
    have HV := Lib.hid hf
    clear hf hv
    go_wp2_with fail
    go_ret2
    exact ⟨by rw [E.out, HV.out]; rfl, HB.out⟩
  rw [hv]
  have hl := (cnt_all ns 24).1
  have HC := Lib.hid (cnt_all ns 24).2
  have HI := Lib.hid (spare_in h24 hv)
  have l2 : (ints (cntUp ns 24)).length = 6 := by rw [ints_len]; exact hl
  have E := Lib.hid (show spareA ns = spareUp ns 5 by unfold spareA; rw [if_pos hv])
  have HV := Lib.hid hv
  have H24 := Lib.hid h24
  clear hv h24
  go_wp2_with fail
  refine wp_region_held_drew (S := fun w' => Has w' w.heap.size ns 24 ∧ Kept w w') (by kernel_rfl) ?_ (fun hHeld => ?_)
  · exact ⟨H.drew, HB.out.drewN 1⟩
  generalize World.drew _ = WD at *
  (refine wpAnyH_take (i := 0) (v := _) rfl (by kernel_rfl) (by kernel_rfl) (by kernel_rfl) (fun _ _ _ h => h) (yieldsIf_load_mid (by rfl) 27 _ rfl _ _ rfl (ints ns) _ (fun w' hSw => hSw.1.holds.range) Try.underlying27 rfl (hi1)) hHeld ?_; (try simp only [List.getElem_toArray, List.getElem_cons_zero, List.getElem_cons_succ, Act.put, List.setIfInBounds_toArray, List.set_cons_zero, List.set_cons_succ]))
  (refine wpAnyH_take (i := 2) (v := _) rfl (by kernel_rfl) (by kernel_rfl) (by kernel_rfl) (fun _ _ _ h => h) (yieldsIf_load_mid (by rfl) 27 _ rfl _ _ rfl (ints ns) _ (fun w' hSw => hSw.1.holds.range) Try.underlying27 rfl (hi1)) hHeld ?_; (try simp only [List.getElem_toArray, List.getElem_cons_zero, List.getElem_cons_succ, Act.put, List.setIfInBounds_toArray, List.set_cons_zero, List.set_cons_succ]))
  refine wpAnyH_ready (rs := [1, 4]) (by kernel_rfl) (by simp) ?_
  refine AllReadyH.cons (o := _) rfl (fun K hK => ?_) (AllReadyH.cons (o := _) rfl (fun K hK => ?_) AllReadyH.nil)
  (simp only [List.getElem_toArray, List.getElem_cons_zero, List.getElem_cons_succ, Region.wanted, if_true])
  go_simp
  refine (l2Counts_any ns _ H24.out HV.out).mono ?_
  rintro e wA ⟨rfl, bq⟩
  dsimp only
  (try simp only [List.getElem_toArray, List.getElem_cons_zero, List.getElem_cons_succ, Act.put, List.setIfInBounds_toArray, List.set_cons_zero, List.set_cons_succ])
  refine hK.out _ _ ⟨hHeld.1.below bq, hHeld.2.call bq⟩ (fun hHeld => ?_)
  clear hK K
  clear bq
  refine wpAnyH_ready (rs := [3, 4]) (by kernel_rfl) (by simp) ?_
  refine AllReadyH.cons (o := _) rfl (fun K hK => ?_) (AllReadyH.cons (o := _) rfl (fun K hK => ?_) AllReadyH.nil)
  (simp only [List.getElem_toArray, List.getElem_cons_zero, List.getElem_cons_succ, Region.wanted, if_true])
  go_simp
  refine (l6Runs_any ns _ H24.out HV.out).mono ?_
  rintro e wB ⟨rfl, bq⟩
  dsimp only
  (try simp only [List.getElem_toArray, List.getElem_cons_zero, List.getElem_cons_succ, Act.put, List.setIfInBounds_toArray, List.set_cons_zero, List.set_cons_succ])
  refine hK.out _ _ ⟨hHeld.1.below bq, hHeld.2.call bq⟩ (fun hHeld => ?_)
  clear hK K
  clear bq
  (refine wpAnyH_ready (rs := [4]) (by kernel_rfl) (by simp) ?_; refine AllReadyH.cons (o := _) rfl (fun K hK => ?_) AllReadyH.nil; (simp only [List.getElem_toArray, List.getElem_cons_zero, List.getElem_cons_succ, Region.wanted, if_true]))
  go_simp
  have lZ := hHeld.1.lt
  have lB := hHeld.2.size
  have ZZ := Has.zero6 wB 36
  refine hK.out _ _ ⟨hHeld.1.alloc _, hHeld.2.alloc _⟩ (fun hHeld => ?_)
  clear hK K
  generalize wB.alloc (.cells #[.int .i64 0, .int .i64 0, .int .i64 0, .int .i64 0, .int .i64 0, .int .i64 0] 36) = WZ at *
  generalize wB.heap.size = bz at *
  rotate_left
  (simp only [List.getElem_toArray, List.getElem_cons_zero, List.getElem_cons_succ, Region.wanted, if_true])
  go_simp
  have lZ := hHeld.1.lt
  have lB := hHeld.2.size
  have ZZ := Has.zero6 wA 36
  refine hK.out _ _ ⟨hHeld.1.alloc _, hHeld.2.alloc _⟩ (fun hHeld => ?_)
  clear hK K
  generalize wA.alloc (.cells #[.int .i64 0, .int .i64 0, .int .i64 0, .int .i64 0, .int .i64 0, .int .i64 0] 36) = WZ at *
  generalize wA.heap.size = bz at *
  (refine wpAnyH_ready (rs := [3]) (by kernel_rfl) (by simp) ?_; refine AllReadyH.cons (o := _) rfl (fun K hK => ?_) AllReadyH.nil; (simp only [List.getElem_toArray, List.getElem_cons_zero, List.getElem_cons_succ, Region.wanted, if_true]))
  go_simp
  refine (l6Runs_any ns _ H24.out HV.out).mono ?_
  rintro e wB ⟨rfl, bq⟩
  dsimp only
  (try simp only [List.getElem_toArray, List.getElem_cons_zero, List.getElem_cons_succ, Act.put, List.setIfInBounds_toArray, List.set_cons_zero, List.set_cons_succ])
  refine hK.out _ _ ⟨hHeld.1.below bq, hHeld.2.call bq⟩ (fun hHeld => ?_)
  clear hK K
  replace ZZ := ZZ.below bq
  clear bq
  rotate_left
  (simp only [List.getElem_toArray, List.getElem_cons_zero, List.getElem_cons_succ, Region.wanted, if_true])
  go_simp
  have lZ := hHeld.1.lt
  have lB := hHeld.2.size
  have ZZ := Has.zero6 WD 36
  refine hK.out _ _ ⟨hHeld.1.alloc _, hHeld.2.alloc _⟩ (fun hHeld => ?_)
  clear hK K
  generalize WD.alloc (.cells #[.int .i64 0, .int .i64 0, .int .i64 0, .int .i64 0, .int .i64 0, .int .i64 0] 36) = WZ at *
  generalize WD.heap.size = bz at *
  (refine wpAnyH_ready (rs := [1]) (by kernel_rfl) (by simp) ?_; refine AllReadyH.cons (o := _) rfl (fun K hK => ?_) AllReadyH.nil; (simp only [List.getElem_toArray, List.getElem_cons_zero, List.getElem_cons_succ, Region.wanted, if_true]))
  go_simp
  refine (l2Counts_any ns _ H24.out HV.out).mono ?_
  rintro e wA ⟨rfl, bq⟩
  dsimp only
  (try simp only [List.getElem_toArray, List.getElem_cons_zero, List.getElem_cons_succ, Act.put, List.setIfInBounds_toArray, List.set_cons_zero, List.set_cons_succ])
  refine hK.out _ _ ⟨hHeld.1.below bq, hHeld.2.call bq⟩ (fun hHeld => ?_)
  clear hK K
  replace ZZ := ZZ.below bq
  clear bq
  (refine wpAnyH_ready (rs := [3]) (by kernel_rfl) (by simp) ?_; refine AllReadyH.cons (o := _) rfl (fun K hK => ?_) AllReadyH.nil; (simp only [List.getElem_toArray, List.getElem_cons_zero, List.getElem_cons_succ, Region.wanted, if_true]))
  go_simp
  refine (l6Runs_any ns _ H24.out HV.out).mono ?_
  rintro e wB ⟨rfl, bq⟩
  dsimp only
  (try simp only [List.getElem_toArray, List.getElem_cons_zero, List.getElem_cons_succ, Act.put, List.setIfInBounds_toArray, List.set_cons_zero, List.set_cons_succ])
  refine hK.out _ _ ⟨hHeld.1.below bq, hHeld.2.call bq⟩ (fun hHeld => ?_)
  clear hK K
  replace ZZ := ZZ.below bq
  clear bq
  rotate_left
  all_goals
    clear H HB
    have E0 : Hid (spareUp ns 0 = (runUp ns 6 : Nat)) := Lib.hid rfl
    (refine wpAnyH_ready (rs := [5]) (by kernel_rfl) (by simp) ?_; refine AllReadyH.cons (o := _) rfl (fun K hK => ?_) AllReadyH.nil; (simp only [List.getElem_toArray, List.getElem_cons_zero, List.getElem_cons_succ, Region.wanted, if_true]))
    refine wp_store_mid _ _ _ rfl _ _ (ints (cntUp ns 24)).toArray rfl rfl (by simpa [l2] using ZZ.there) (by simpa [l2] using hi6) (all_oneCell_toArray (ints_one _)) ?_
    (try simp only [List.getElem_toArray, List.getElem_cons_zero, List.getElem_cons_succ, Act.put, List.setIfInBounds_toArray, List.set_cons_zero, List.set_cons_succ, List.toList_toArray])
    have G1 := hHeld.1.putOther (b' := bz) 0 (ints (cntUp ns 24)) (by omega)
    have GB := hHeld.2.puts (b := bz) (by omega) 0 (ints (cntUp ns 24))
    have GZ := ZZ.putAll (cntUp ns 24) hl
    refine hK.out _ _ ⟨G1, GB⟩ (fun hHeld => ?_)
    clear hK K
    (refine wpAnyH_take (i := 6) (v := ?_) rfl (by kernel_rfl) (by kernel_rfl) (by kernel_rfl) (fun _ _ _ h => h) (Or.inl ⟨by rfl, ?_⟩) hHeld ?_; rotate_left; (· (intro w' hSw; go_simp; try with_reducible rfl)); (try simp only [List.getElem_toArray, List.getElem_cons_zero, List.getElem_cons_succ, Act.put, List.setIfInBounds_toArray, List.set_cons_zero, List.set_cons_succ]))
    refine wpAnyH_done (by kernel_rfl) ?_ _
    have GB2 := Lib.hid GB
    clear hHeld GB G1 ZZ
    generalize World.setCells _ bz 0 (ints (cntUp ns 24)) = WS at *
    go_wp2_with fail
    go_loop [5, 6] (fun m i => ∃ c : Nat, c ≤ 5 ∧ i = .int .i64 ((c + 1 : Nat) : Int) ∧ m = .int .i64 (spareUp ns c)) (fun _ z => 6 - (intOf z).toNat)
    case atStart => exact ⟨0, by omega, rfl, by rw [E0.out]⟩
    case round =>
      obtain ⟨c, hc, rfl, rfl⟩ := hrel
      by_cases hc5 : c < 5
      · have hci : ((c + 1 : Nat) : Int) ≤ 5 := by omega
        have hc0 := GZ.cell (c + 1) (by omega)
        have hcc := HC.out (c + 1)
        have hbb := HI.out c
        have EB : Hid (spareUp ns (c + 1) = spareUp ns c - min ((cntUp ns 24).getD (c + 1) 0) 1) := Lib.hid rfl
        generalize (cntUp ns 24).getD (c + 1) 0 = x at *
        generalize spareUp ns c = y at *
        by_cases hx : 0 < x
        · have em : Hid (y - min x 1 = y - 1) := Lib.hid (by omega)
          go_wp2_with fail
          go_round
          case rel => exact ⟨c + 1, by omega, by go_num, by rw [EB.out, em.out]⟩
          case measure => simp [intOf]; omega
        · have em : Hid (y - min x 1 = y) := Lib.hid (by omega)
          have hxx : decide (0 < x) = false := by simpa using hx
          go_wp2_with fail
          go_round
          case rel => exact ⟨c + 1, by omega, by go_num, by rw [EB.out, em.out]⟩
          case measure => simp [intOf]; omega
      · obtain rfl : c = 5 := by omega
        go_wp2_with fail
        go_ret2
        exact ⟨by rw [E.out, HV.out]; rfl, GB2.out⟩

set_option maxHeartbeats 1600000 in
theorem implSpare (ns : List Int) (w : World) (h24 : ns.length = 24) :
    Calls Try.prog 15 #[row ns] w fun e w' => e = .returned (.tuple #[.int .i64 (spareA ns), .bool (vR ns)]) ∧ Kept w w' := by
  have HB := Lib.hid ((kept_refl w).alloc (.cells (ints ns).toArray 27))
  have H := Has.box w 27 h24 (by omega)
  rw [row_ints]
  go_enter Try.func15, Try.ntmps15
  go_wp2_with (refine load_has rfl 27 _ rfl _ rfl ?_ 24 ?_ _ Try.underlying27 rfl ?_ ?_; rotate_left; (· (repeat (first | (with_reducible assumption) | ((with_reducible refine Has.box _ _ ?_ ?_) <;> (first | assumption | decide)) | (with_reducible refine Has.alloc ?_ _) | ((with_reducible refine Has.putOther ?_ _ _ ?_); rotate_left; omega; skip) | ((with_reducible refine Has.below ?_ ?_); rotate_left; assumption)))); (· kernel_rfl))
  refine (implCountRuns ns _ h24).mono ?_
  rintro e w1 ⟨rfl, b1⟩
  have H1 := H.below b1
  have HB1 := Lib.hid (HB.out.call b1)
  clear H HB b1
  by_cases hv : vR ns = true
  · rw [hv]
    have HI := Lib.hid (spare_in h24 hv)
    have HV := Lib.hid hv
    rw [show runsA ns = spareUp ns 0 by unfold runsA; rw [if_pos hv]; rfl]
    have E := Lib.hid (show spareA ns = spareUp ns 5 by unfold spareA; rw [if_pos hv])
    have EB := Lib.hid (show countA ns = cntUp ns 24 by unfold countA; rw [if_pos hv])
    have hl := (cnt_all ns 24).1
    have HC := Lib.hid (cnt_all ns 24).2
    clear hv
    go_wp2_with (refine load_has rfl 27 _ rfl _ rfl ?_ 24 ?_ _ Try.underlying27 rfl ?_ ?_; rotate_left; (· (repeat (first | (with_reducible assumption) | ((with_reducible refine Has.box _ _ ?_ ?_) <;> (first | assumption | decide)) | (with_reducible refine Has.alloc ?_ _) | ((with_reducible refine Has.putOther ?_ _ _ ?_); rotate_left; omega; skip) | ((with_reducible refine Has.below ?_ ?_); rotate_left; assumption)))); (· kernel_rfl))
    refine (implCount ns _ h24).mono ?_
    rintro e w2 ⟨rfl, b2⟩
    rw [EB.out, HV.out]
    have HB2 := Lib.hid ((HB1.out.call b2).alloc (.cells (ints (cntUp ns 24)).toArray 36))
    have Z := Has.box w2 36 hl (by omega)
    clear b2 H1 HB1
    go_wp2_with (first | (refine store_new rfl 36 _ _ rfl _ _ _ rfl _ rfl _ rfl rfl ?_ ?_ ?_; (· (first | assumption | rfl)); (· kernel_rfl)))
    generalize w2.alloc (.cells (ints (cntUp ns 24)).toArray 36) = W3 at *
    go_loop [4, 21] (fun m i => ∃ c : Nat, c ≤ 5 ∧ i = .int .i64 (c : Int) ∧ m = .int .i64 (spareUp ns c)) (fun _ z => 5 - (intOf z).toNat)
    case atStart => exact ⟨0, by omega, rfl, rfl⟩
    case round =>
      obtain ⟨c, hc, rfl, rfl⟩ := hrel
      by_cases hc5 : c < 5
      · have hci : (c : Int) < 5 := by omega
        have hc0 := Z.cell (c + 1) (by omega)
        have hcc := HC.out (c + 1)
        have hbb := HI.out c
        have EN : Hid (spareUp ns (c + 1) = spareUp ns c - min ((cntUp ns 24).getD (c + 1) 0) 1) := Lib.hid rfl
        generalize (cntUp ns 24).getD (c + 1) 0 = x at *
        generalize spareUp ns c = y at *
        go_wp2_with fail
        all_goals
          go_round
          case rel => exact ⟨c + 1, by omega, by go_num, by rw [EN.out]; congr 1; omega⟩
          case measure => simp [intOf]; omega
      · obtain rfl : c = 5 := by omega
        go_wp2_with fail
        go_ret2
        exact ⟨by rw [E.out, HV.out]; rfl, HB2.out⟩
  · have hf : vR ns = false := by simpa using hv
    have E := Lib.hid (show spareA ns = 0 by unfold spareA; rw [if_neg hv])
    rw [hf]
    have HV := Lib.hid hf
    clear hf hv
    go_wp2_with fail
    go_ret2
    exact ⟨by rw [E.out, HV.out]; rfl, HB1.out⟩

set_option maxHeartbeats 400000 in
theorem specFits (ns : List Int) (w : World) (h24 : ns.length = 24) :
    Calls Try.prog 20 #[row ns] w fun e w' => e = .returned (.tuple #[.bool (fitsA ns), .bool (vR ns)]) ∧ Kept w w' := by
  have HB := Lib.hid ((kept_refl w).alloc (.cells (ints ns).toArray 27))
  have H := Has.box w 27 h24 (by omega)
  rw [row_ints]
  go_enter Try.func20, Try.ntmps20
  go_wp2_with (refine load_has rfl 27 _ rfl _ rfl ?_ 24 ?_ _ Try.underlying27 rfl ?_ ?_; rotate_left; (· (repeat (first | (with_reducible assumption) | ((with_reducible refine Has.box _ _ ?_ ?_) <;> (first | assumption | decide)) | (with_reducible refine Has.alloc ?_ _) | ((with_reducible refine Has.putOther ?_ _ _ ?_); rotate_left; omega; skip) | ((with_reducible refine Has.below ?_ ?_); rotate_left; assumption)))); (· kernel_rfl))
  refine (l2Rack_any ns _ h24).mono ?_
  rintro e w1 ⟨rfl, b1⟩
  have H1 := H.below b1
  have HB1 := Lib.hid (HB.out.call b1)
  clear H HB b1
  by_cases hv : vR ns = true
  · rw [hv]
    have HV := Lib.hid hv
    have E := Lib.hid (show fitsA ns = fitsUp ns 5 by unfold fitsA; rw [hv]; rfl)
    have hl := (cnt_all ns 24).1
    clear hv
    go_wp2_with (refine load_has rfl 27 _ rfl _ rfl ?_ 24 ?_ _ Try.underlying27 rfl ?_ ?_; rotate_left; (· (repeat (first | (with_reducible assumption) | ((with_reducible refine Has.box _ _ ?_ ?_) <;> (first | assumption | decide)) | (with_reducible refine Has.alloc ?_ _) | ((with_reducible refine Has.putOther ?_ _ _ ?_); rotate_left; omega; skip) | ((with_reducible refine Has.below ?_ ?_); rotate_left; assumption)))); (· kernel_rfl))
    refine (l2Counts_any ns _ h24 HV.out).mono ?_
    rintro e w2 ⟨rfl, b2⟩
    have HB2 := Lib.hid ((HB1.out.call b2).alloc (.cells (ints (cntUp ns 24)).toArray 36))
    have Z := Has.box w2 36 hl (by omega)
    clear b2 H1 HB1
    have F0 : Hid (fitsUp ns 0 = true) := Lib.hid rfl
    go_wp2_with (first | (refine store_new rfl 36 _ _ rfl _ _ _ rfl _ rfl _ rfl rfl ?_ ?_ ?_; (· (first | assumption | rfl)); (· kernel_rfl)))
    generalize w2.alloc (.cells (ints (cntUp ns 24)).toArray 36) = W3 at *
    go_loop [5] (fun i => ∃ c : Nat, c ≤ 5 ∧ i = .int .i64 ((c + 1 : Nat) : Int) ∧ Hid (fitsUp ns c = true)) (fun z => 6 - (intOf z).toNat)
    case atStart => exact ⟨0, by omega, rfl, F0⟩
    case round =>
      obtain ⟨c, hc, rfl, GF⟩ := hrel
      by_cases hc5 : c < 5
      · have hci : ((c + 1 : Nat) : Int) ≤ 5 := by omega
        have hc0 := Z.cell (c + 1) (by omega)
        have EN := Lib.hid (fits_step ns c)
        have NO := Lib.hid (fun h => fits_no (ns := ns) (c := c + 1) h 5 (by omega))
        generalize (cntUp ns 24).getD (c + 1) 0 = x at *
        by_cases hx : x ≤ 4
        · have G2 : Hid (fitsUp ns (c + 1) = true) := Lib.hid (by rw [EN.out, GF.out, decide_eq_true hx]; rfl)
          have hxx : decide (4 < x) = false := by simp; omega
          go_wp2_with fail
          go_round
          case rel => exact ⟨c + 1, by omega, by go_num, G2⟩
          case measure => simp [intOf]; omega
        · have G2 : Hid (fitsUp ns 5 = false) := Lib.hid (NO.out (by rw [EN.out, decide_eq_false hx, Bool.and_false]))
          have hx2 : 4 < x := by omega
          go_wp2_with fail
          go_ret2
          exact ⟨by rw [E.out, G2.out, HV.out]; rfl, HB2.out⟩
      · obtain rfl : c = 5 := by omega
        go_wp2_with fail
        go_ret2
        exact ⟨by rw [E.out, GF.out, HV.out]; rfl, HB2.out⟩
  · have hf : vR ns = false := by simpa using hv
    have E := Lib.hid (show fitsA ns = false by unfold fitsA; rw [hf]; rfl)
    rw [hf]
    have HV := Lib.hid hf
    clear hf hv
    go_wp2_with fail
    go_ret2
    exact ⟨by rw [E.out, HV.out]; rfl, HB1.out⟩

/-- The greatest of the counts of the colors. -/
def topUp (xs : List Int) : Nat → Int
  | 0 => xs.getD 1 0
  | k + 1 => max (topUp xs k) (xs.getD (k + 2) 0)
theorem top_fits (ns : List Int) : ∀ k : Nat, decide (topUp (cntUp ns 24) k ≤ 4) = fitsUp ns (k + 1)
  | 0 => by
    rw [fits_step, show fitsUp ns 0 = true from rfl, Bool.true_and]; rfl
  | k + 1 => by
    rw [fits_step, ← top_fits ns k, Bool.eq_iff_iff]
    simp only [Bool.and_eq_true, decide_eq_true_eq]
    change max (topUp (cntUp ns 24) k) ((cntUp ns 24).getD (k + 1 + 1) 0) ≤ 4 ↔ _
    omega

set_option maxHeartbeats 1600000 in
theorem max_any (xs : List Int) (b : Nat) (w : World) (H : Has w b xs 6) :
    Calls Try.prog 39 #[.slice (some ⟨b, 1, none⟩) 5 5] w fun e w' => e = .returned (.int .i64 (topUp xs 4)) ∧ w' = w := by
  have c0 := H.cell 1 (by omega)
  have E0 : Hid (topUp xs 0 = xs.getD 1 0) := Lib.hid rfl
  have HH := Lib.hid H
  clear H
  rw [← E0.out] at c0
  go_enter Try.func39, Try.ntmps39
  go_wp2_with fail
  go_loop [3, 4] (fun m i => ∃ c : Nat, c ≤ 4 ∧ i = .int .i64 ((c + 1 : Nat) : Int) ∧ m = .int .i64 (topUp xs c)) (fun _ z => 6 - (intOf z).toNat)
  case atStart => exact ⟨0, by omega, rfl, rfl⟩
  case round =>
    obtain ⟨c, hc, rfl, rfl⟩ := hrel
    by_cases hc4 : c < 4
    · have hci : ((c + 1 : Nat) : Int) < 5 := by omega
      have hci2 : (c : Int) + 1 < 5 := by omega
      have hc0 := HH.out.cell (1 + (c + 1)) (by omega)
      have EN : Hid (topUp xs (c + 1) = max (topUp xs c) (xs.getD (1 + (c + 1)) 0)) := Lib.hid (by rw [topUp, show 1 + (c + 1) = c + 2 by omega])
      generalize xs.getD (1 + (c + 1)) 0 = x at *
      generalize topUp xs c = y at *
      clear c0
      go_wp2_with fail
      all_goals
        go_round
        case rel => exact ⟨c + 1, by omega, by go_num, by rw [EN.out]; congr 1; omega⟩
        case measure => simp [intOf]; omega
    · obtain rfl : c = 4 := by omega
      go_wp2_with fail
      go_ret
      exact ⟨rfl, rfl⟩

set_option maxHeartbeats 400000 in
theorem implFits (ns : List Int) (w : World) (h24 : ns.length = 24) :
    Calls Try.prog 19 #[row ns] w fun e w' => e = .returned (.tuple #[.bool (fitsA ns), .bool (vR ns)]) ∧ Kept w w' := by
  have HB := Lib.hid ((kept_refl w).alloc (.cells (ints ns).toArray 27))
  have H := Has.box w 27 h24 (by omega)
  rw [row_ints]
  go_enter Try.func19, Try.ntmps19
  go_wp2_with (refine load_has rfl 27 _ rfl _ rfl ?_ 24 ?_ _ Try.underlying27 rfl ?_ ?_; rotate_left; (· (repeat (first | (with_reducible assumption) | ((with_reducible refine Has.box _ _ ?_ ?_) <;> (first | assumption | decide)) | (with_reducible refine Has.alloc ?_ _) | ((with_reducible refine Has.putOther ?_ _ _ ?_); rotate_left; omega; skip) | ((with_reducible refine Has.below ?_ ?_); rotate_left; assumption)))); (· kernel_rfl))
  refine (implCount ns _ h24).mono ?_
  rintro e w1 ⟨rfl, b1⟩
  have HB1 := Lib.hid ((HB.out.call b1).alloc (.cells (ints (countA ns)).toArray 36))
  have Z := Has.box w1 36 (countA_len ns) (by omega)
  clear H HB b1
  by_cases hv : vR ns = true
  · rw [hv]
    have HV := Lib.hid hv
    have EB := Lib.hid (show countA ns = cntUp ns 24 by unfold countA; rw [if_pos hv])
    have E := Lib.hid (show fitsA ns = decide (topUp (countA ns) 4 ≤ 4) by unfold fitsA; rw [hv, EB.out, top_fits]; rfl)
    have hl := countA_len ns
    clear hv
    go_wp2_with (first | (refine store_new rfl 36 _ _ rfl _ _ _ rfl _ rfl _ rfl rfl ?_ ?_ ?_; (· (first | assumption | rfl)); (· kernel_rfl)))
    refine (max_any (countA ns) _ _ Z).mono ?_
    rintro e w' ⟨rfl, rfl⟩
    go_wp2_with fail
    go_ret2
    exact ⟨by rw [E.out, HV.out]; rfl, HB1.out⟩
  · have hf : vR ns = false := by simpa using hv
    have E := Lib.hid (show fitsA ns = false by unfold fitsA; rw [hf]; rfl)
    rw [hf]
    have HV := Lib.hid hf
    have hl := countA_len ns
    clear hf hv
    go_wp2_with (first | (refine store_new rfl 36 _ _ rfl _ _ _ rfl _ rfl _ rfl rfl ?_ ?_ ?_; (· (first | assumption | rfl)); (· kernel_rfl)))
    go_ret2
    exact ⟨by rw [E.out, HV.out]; rfl, HB1.out⟩
end Go.Proofs.Ytmhkjakgdfadbaa.base
