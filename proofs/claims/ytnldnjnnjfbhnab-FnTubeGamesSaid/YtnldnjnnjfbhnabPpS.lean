/-
  PlayParty on the model's side, walked.
-/
import Derived.Test.YtnldnjnnjfbhnabGmPZ
import Derived.Test.YtnldnjnnjfbhnabGmQZ
import Derived.Test.YtnldnjnnjfbhnabCanZ
namespace Go.Proofs.Ytnldnjnnjfbhnab.base
open Go.ChangeShapes Go.WideShapes Go.ChangeAt Go.RowKit
set_option linter.unusedVariables false
set_option linter.unusedSimpArgs false
theorem pourOk_iffP {ns : List Int} (hv : vR ns = true) (x y : Int) : pourOk ns x y = (decide (0 ≤ x ∧ x < 6) && decide (0 ≤ y ∧ y < 6) && decide (x ≠ y ∧ 0 < canN (tub ns x.toNat) (tub ns y.toNat))) := by
  unfold pourOk twoOk
  rw [hv, Bool.true_and, Bool.eq_iff_iff]
  simp only [Bool.and_eq_true, decide_eq_true_eq]
  constructor
  · rintro ⟨⟨⟨h1, h2⟩, h3⟩, h4⟩; exact ⟨⟨h1, h2⟩, h3, h4⟩
  · rintro ⟨⟨h1, h2⟩, h3, h4⟩; exact ⟨⟨⟨h1, h2⟩, h3⟩, h4⟩

set_option maxHeartbeats 1600000 in
theorem l6CanP_any (ns : List Int) (x y : Int) (w : World) (h24 : ns.length = 24) (hv : vR ns = true) :
    Calls Try.prog 42 #[row ns, .agg (ints [x, y]).toArray] w fun e w' => e = .returned (.bool (pourOk ns x y)) ∧ Kept w w' := by
  have HB := Lib.hid (((kept_refl w).alloc (.cells (ints ns).toArray 27)).alloc (.cells (ints [x, y]).toArray 36))
  have H := (Has.box w 27 h24 (by omega)).alloc (.cells (ints [x, y]).toArray 36)
  have B := (Has.box (ns := [x, y]) (n := 2) (w.alloc (.cells (ints ns).toArray 27)) 36 rfl (by omega)).at (size1 _ _)
  have cc0 := B.cell 0 (by omega)
  have cc1 := B.cell 1 (by omega)
  have E := Lib.hid (pourOk_iffP hv x y)
  rw [List.getD_cons_zero] at cc0
  rw [List.getD_cons_succ, List.getD_cons_zero] at cc1
  rw [row_ints]
  go_enter Try.func42, Try.ntmps42
  go_wp2_with fail
  refine (l2Place_any x _).mono ?_
  rintro e w' ⟨rfl, rfl⟩
  by_cases hx : 0 ≤ x ∧ x < 6
  · rw [decide_eq_true hx]
    have HX := Lib.hid hx
    clear hx
    go_wp2_with fail
    refine (l2Place_any y _).mono ?_
    rintro e w' ⟨rfl, rfl⟩
    by_cases hy : 0 ≤ y ∧ y < 6
    · rw [decide_eq_true hy]
      have HY := Lib.hid hy
      clear hy
      obtain ⟨p, rfl⟩ : ∃ p : Nat, x = (p : Int) := ⟨x.toNat, by have := HX.out; omega⟩
      obtain ⟨q, rfl⟩ : ∃ q : Nat, y = (q : Int) := ⟨y.toNat, by have := HY.out; omega⟩
      have hp : p < 6 := by have := HX.out; omega
      have hq : q < 6 := by have := HY.out; omega
      have E2 : Hid (pourOk ns (p : Int) (q : Int) = decide (p ≠ q ∧ 0 < canN (tub ns p) (tub ns q))) := Lib.hid (by
        rw [E.out, decide_eq_true HX.out, decide_eq_true HY.out, Int.toNat_natCast, Int.toNat_natCast, Bool.true_and, Bool.true_and, decide_eq_decide]
        constructor
        · rintro ⟨h1, h2⟩; exact ⟨fun e => h1 (by rw [e]), h2⟩
        · rintro ⟨h1, h2⟩; exact ⟨fun e => h1 (by omega), h2⟩)
      go_wp2_with (refine load_has rfl 27 _ rfl _ rfl ?_ 24 ?_ _ Try.underlying27 rfl ?_ ?_; rotate_left; (· (repeat (first | (with_reducible assumption) | ((with_reducible refine Has.box _ _ ?_ ?_) <;> (first | assumption | decide)) | (with_reducible refine Has.alloc ?_ _) | ((with_reducible refine Has.putOther ?_ _ _ ?_); rotate_left; omega; skip) | ((with_reducible refine Has.below ?_ ?_); rotate_left; assumption)))); (· kernel_rfl))
      refine (l2Can_any ns p q _ h24 hv hp hq).mono ?_
      rintro e w1 ⟨rfl, b1⟩
      have HB1 := Lib.hid (HB.out.call b1)
      clear b1
      rw [← E2.out]
      go_wp2_with fail
      go_ret
      exact ⟨rfl, HB1.out⟩
    · rw [decide_eq_false hy]
      have E2 : Hid (pourOk ns x y = false) := Lib.hid (by rw [E.out, decide_eq_false hy, Bool.and_false]; rfl)
      clear hy
      go_wp2_with fail
      go_ret
      exact ⟨ret_bool E2.out.symm, HB.out⟩
  · rw [decide_eq_false hx]
    have E2 : Hid (pourOk ns x y = false) := Lib.hid (by rw [E.out, decide_eq_false hx]; rfl)
    clear hx
    go_wp2_with fail
    go_ret
    exact ⟨ret_bool E2.out.symm, HB.out⟩

set_option maxHeartbeats 6400000 in
set_option maxRecDepth 100000 in
theorem specParty (ns fs : List Int) (v : Value) (n b : Nat) (w : World) (h24 : ns.length = 24) (hn : n ≤ 1048576) (h : Rw w b v n fs) :
    Calls Try.prog 17 #[row ns, v] w fun e w' => e = .returned (.tuple #[row (ppRA ns fs n), row (ppPA ns fs n), .int .i64 (ppNA ns fs n : Nat), .bool (pathOkG ns n)]) ∧ Kept w w' := by
  have R0 := Lib.hid ((((((h.mono (b' := 0) (Nat.zero_le _)).alloc (.cells (ints ns).toArray 27)).alloc (.cells #[.int .i64 0, .int .i64 0, .int .i64 0, .int .i64 0, .int .i64 0, .int .i64 0, .int .i64 0, .int .i64 0, .int .i64 0, .int .i64 0, .int .i64 0, .int .i64 0, .int .i64 0, .int .i64 0, .int .i64 0, .int .i64 0, .int .i64 0, .int .i64 0, .int .i64 0, .int .i64 0, .int .i64 0, .int .i64 0, .int .i64 0, .int .i64 0] 27)).alloc (.cells #[.int .i64 0, .int .i64 0] 36)).alloc (.cells (ints [0, 0]).toArray 36)))
  have OW0 := Lib.hid (fun (hn : 0 < n) z hz => (Rw.ownltP h hn z hz))
  have HB := Lib.hid (((((kept_refl w).alloc (.cells (ints ns).toArray 27)).alloc (.cells #[.int .i64 0, .int .i64 0, .int .i64 0, .int .i64 0, .int .i64 0, .int .i64 0, .int .i64 0, .int .i64 0, .int .i64 0, .int .i64 0, .int .i64 0, .int .i64 0, .int .i64 0, .int .i64 0, .int .i64 0, .int .i64 0, .int .i64 0, .int .i64 0, .int .i64 0, .int .i64 0, .int .i64 0, .int .i64 0, .int .i64 0, .int .i64 0] 27)).alloc (.cells #[.int .i64 0, .int .i64 0] 36)).alloc (.cells (ints [0, 0]).toArray 36))
  have H := (((Has.box w 27 h24 (by omega)).alloc (.cells #[.int .i64 0, .int .i64 0, .int .i64 0, .int .i64 0, .int .i64 0, .int .i64 0, .int .i64 0, .int .i64 0, .int .i64 0, .int .i64 0, .int .i64 0, .int .i64 0, .int .i64 0, .int .i64 0, .int .i64 0, .int .i64 0, .int .i64 0, .int .i64 0, .int .i64 0, .int .i64 0, .int .i64 0, .int .i64 0, .int .i64 0, .int .i64 0] 27)).alloc (.cells #[.int .i64 0, .int .i64 0] 36)).alloc (.cells (ints [0, 0]).toArray 36)
  have Z := (((Has.zero24 (w.alloc (.cells (ints ns).toArray 27)) 27).at (size1 _ _)).alloc (.cells #[.int .i64 0, .int .i64 0] 36)).alloc (.cells (ints [0, 0]).toArray 36)
  have Y := ((Has.box (ns := [0, 0]) (n := 2) ((w.alloc (.cells (ints ns).toArray 27)).alloc (.cells #[.int .i64 0, .int .i64 0, .int .i64 0, .int .i64 0, .int .i64 0, .int .i64 0, .int .i64 0, .int .i64 0, .int .i64 0, .int .i64 0, .int .i64 0, .int .i64 0, .int .i64 0, .int .i64 0, .int .i64 0, .int .i64 0, .int .i64 0, .int .i64 0, .int .i64 0, .int .i64 0, .int .i64 0, .int .i64 0, .int .i64 0, .int .i64 0] 27)) 36 rfl (by omega)).at (c := w.heap.size + 1 + 1) (by simp)).alloc (.cells (ints [0, 0]).toArray 36)
  have PT := (Has.box (ns := [0, 0]) (n := 2) (((w.alloc (.cells (ints ns).toArray 27)).alloc (.cells #[.int .i64 0, .int .i64 0, .int .i64 0, .int .i64 0, .int .i64 0, .int .i64 0, .int .i64 0, .int .i64 0, .int .i64 0, .int .i64 0, .int .i64 0, .int .i64 0, .int .i64 0, .int .i64 0, .int .i64 0, .int .i64 0, .int .i64 0, .int .i64 0, .int .i64 0, .int .i64 0, .int .i64 0, .int .i64 0, .int .i64 0, .int .i64 0] 27)).alloc (.cells #[.int .i64 0, .int .i64 0] 36)) 36 rfl (by omega)).at (c := w.heap.size + 1 + 1 + 1) (by simp)
  obtain ⟨a, cap, rfl⟩ := h.shape
  have hi0 : (Try.prog.info? 27).map (·.size) = some 24 := by kernel_rfl
  have hiP : (Try.prog.info? 36).map (·.size) = some 2 := by kernel_rfl
  have ERA : Hid (ppRA ns fs n = if pathOkG ns n = true then ppR ns fs (ppN ns fs n) else z24) := Lib.hid rfl
  have EPA : Hid (ppPA ns fs n = if pathOkG ns n = true then ppP ns fs (ppN ns fs n) else [0, 0]) := Lib.hid rfl
  have ENA : Hid (ppNA ns fs n = if pathOkG ns n = true then ppN ns fs n else 0) := Lib.hid rfl
  rw [row_ints, row_ints, row_ints]
  clear h
  go_enter Try.func17, Try.ntmps17
  go_wp2_with (first | (refine load_has rfl 27 _ rfl _ rfl ?_ 24 ?_ _ Try.underlying27 rfl ?_ ?_; rotate_left; (· (repeat (first | (with_reducible assumption) | ((with_reducible refine Has.box _ _ ?_ ?_) <;> (first | assumption | decide)) | (with_reducible refine Has.alloc ?_ _) | ((with_reducible refine Has.putOther ?_ _ _ ?_); rotate_left; omega; skip) | ((with_reducible refine Has.below ?_ ?_); rotate_left; assumption)))); (· kernel_rfl)) | (refine build_law rfl 36 rfl _ build2P ?_) | (refine store_new rfl 36 _ _ rfl _ _ _ rfl _ (by simp) [0, 0] rfl rfl ?_ ?_ ?_; (· (first | assumption | rfl)); (· kernel_rfl)))
  refine (l2Rack_any ns _ h24).mono ?_
  rintro e w1 ⟨rfl, b1⟩
  replace H := H.below b1
  replace Z := Z.below b1
  replace Y := Y.below b1
  replace PT := PT.below b1
  replace R0 := Lib.hid (R0.out.below b1)
  replace HB := Lib.hid (HB.out.call b1)
  clear b1
  cases hv : vR ns with
  | false =>
    have hok : pathOkG ns n = false := by unfold pathOkG; rw [hv]; rfl
    clear hv
    have EO := Lib.hid hok
    obtain ⟨ZZ, hZZ⟩ : ∃ ZZ : List Int, ZZ = z24 := ⟨_, rfl⟩
    obtain ⟨QQ, hQQ⟩ : ∃ QQ : List Int, QQ = [0, 0] := ⟨_, rfl⟩
    have E := Lib.hid (show ppRA ns fs n = ZZ ∧ ppPA ns fs n = QQ ∧ ppNA ns fs n = 0 from ⟨by rw [ERA.out, if_neg (by rw [hok]; simp), hZZ], by rw [EPA.out, if_neg (by rw [hok]; simp), hQQ], by rw [ENA.out, if_neg (by rw [hok]; simp)]⟩)
    have ZL : ZZ.length = 24 := by rw [hZZ]; rfl
    have QL : QQ.length = 2 := by rw [hQQ]; rfl
    have BZ := Lib.hid (show ∀ W, (Instr.build 27 #[]).run Try.prog W = .ok (.agg (ints ZZ).toArray) W from fun W => by rw [hZZ]; exact buildRack W)
    have l24 : (ints ZZ).length = 24 := by rw [ints_len]; exact ZL
    have l02 : (ints QQ).length = 2 := by rw [ints_len]; exact QL
    have hiQ : (Try.prog.info? 36).map (·.size) = some (ints QQ).length := by rw [l02]; exact hiP
    rw [← hQQ] at PT
    clear hok hZZ hQQ
    go_wp2_with fail
    refine wp_region_held_drew (S := fun w' => Has w' (w.heap.size + 1 + 1 + 1) QQ 2) (by kernel_rfl) PT.drew (fun hHeld => ?_)
    replace Z := Z.drew
    replace Y := Y.drew
    replace HB := Lib.hid (keptDrew8G HB.out)
    clear H PT
    generalize World.drew _ = WF at *
    refine wpAnyH_take (i := 0) (v := .agg (ints ZZ).toArray) rfl (by kernel_rfl) (by kernel_rfl) (by kernel_rfl) (fun _ _ _ h => h) (Or.inl ⟨by rfl, ?_⟩) hHeld ?_
    · intro w' hSw
      exact exec_build0 rfl (BZ.out w')
    (try simp only [List.getElem_toArray, List.getElem_cons_zero, List.getElem_cons_succ, Act.put, List.setIfInBounds_toArray, List.set_cons_zero, List.set_cons_succ])
    (refine wpAnyH_take (i := 1) (v := _) rfl (by kernel_rfl) (by kernel_rfl) (by kernel_rfl) (fun _ _ _ h => h) (yieldsIf_load_mid (by rfl) 36 _ rfl _ _ rfl (ints QQ) _ (fun w' hSw => hSw.holds.range) Try.underlying36 rfl (hiQ)) hHeld ?_; (try simp only [List.getElem_toArray, List.getElem_cons_zero, List.getElem_cons_succ, Act.put, List.setIfInBounds_toArray, List.set_cons_zero, List.set_cons_succ]))
    (refine wpAnyH_ready (rs := [2]) (by kernel_rfl) (by simp) ?_; refine AllReadyH.cons (o := _) rfl (fun K hK => ?_) AllReadyH.nil; (simp only [List.getElem_toArray, List.getElem_cons_zero, List.getElem_cons_succ, Region.wanted, if_true]))
    refine wp_store_mid _ _ _ rfl _ _ (ints ZZ).toArray rfl rfl (by simpa [l24] using Z.there) (by simpa [l24] using hi0) (all_oneCell_toArray (ints_one _)) ?_
    (try simp only [List.getElem_toArray, List.getElem_cons_zero, List.getElem_cons_succ, Act.put, List.setIfInBounds_toArray, List.set_cons_zero, List.set_cons_succ, List.toList_toArray])
    refine hK.out _ _ (hHeld.putOther _ _ (by omega)) (fun hHeld => ?_)
    clear hK K
    have Z2 := Z.putAll ZZ ZL
    have Y2 := Y.putOther (b' := w.heap.size + 1) 0 (ints ZZ) (by omega)
    have HB2 := Lib.hid (HB.out.puts (b := w.heap.size + 1) (by omega) 0 (ints ZZ))
    (refine wpAnyH_ready (rs := [3]) (by kernel_rfl) (by simp) ?_; refine AllReadyH.cons (o := _) rfl (fun K hK => ?_) AllReadyH.nil; (simp only [List.getElem_toArray, List.getElem_cons_zero, List.getElem_cons_succ, Region.wanted, if_true]))
    refine wp_store_mid _ _ _ rfl _ _ (ints QQ).toArray rfl rfl (by simpa [l02] using Y2.there) (by simpa [l02] using hiP) (all_oneCell_toArray (ints_one _)) ?_
    (try simp only [List.getElem_toArray, List.getElem_cons_zero, List.getElem_cons_succ, Act.put, List.setIfInBounds_toArray, List.set_cons_zero, List.set_cons_succ, List.toList_toArray])
    refine hK.out _ _ (hHeld.putOther _ _ (by omega)) (fun hHeld => ?_)
    clear hK K
    have S1 := Lib.hid (Z2.putOther (b' := w.heap.size + 1 + 1) 0 (ints QQ) (by omega))
    have S2 := Lib.hid (Y2.putAll QQ QL)
    have S3 := Lib.hid (HB2.out.puts (b := w.heap.size + 1 + 1) (by omega) 0 (ints QQ))
    (refine wpAnyH_take (i := 4) (v := ?_) rfl (by kernel_rfl) (by kernel_rfl) (by kernel_rfl) (fun _ _ _ h => h) (Or.inl ⟨by rfl, ?_⟩) hHeld ?_; rotate_left; (· (intro w' hSw; go_simp; try with_reducible rfl)); (try simp only [List.getElem_toArray, List.getElem_cons_zero, List.getElem_cons_succ, Act.put, List.setIfInBounds_toArray, List.set_cons_zero, List.set_cons_succ])); (refine wpAnyH_take (i := 5) (v := ?_) rfl (by kernel_rfl) (by kernel_rfl) (by kernel_rfl) (fun _ _ _ h => h) (Or.inl ⟨by rfl, ?_⟩) hHeld ?_; rotate_left; (· (intro w' hSw; go_simp; try with_reducible rfl)); (try simp only [List.getElem_toArray, List.getElem_cons_zero, List.getElem_cons_succ, Act.put, List.setIfInBounds_toArray, List.set_cons_zero, List.set_cons_succ]))
    refine wpAnyH_done (by kernel_rfl) ?_ _
    clear hHeld Z Y Z2 Y2 HB HB2
    go_wp2_with fail
    exact bodyPost_ret (res_has4 rfl _ _ (w.heap.size + 1) (w.heap.size + 1 + 1) ZZ QQ 24 2 _ _ (.int .i64 0) (.bool false) rfl rfl rfl rfl S1.out S2.out Try.underlying27 rfl (by kernel_rfl) Try.underlying36 rfl (by kernel_rfl)) rfl ⟨by rw [E.out.1, E.out.2.1, E.out.2.2, EO.out]; rfl, S3.out⟩
  | true =>
  by_cases h60 : n ≤ 60
  rotate_left
  · have hok : pathOkG ns n = false := by unfold pathOkG; rw [decide_eq_false h60, Bool.and_false]
    have d6 : decide ((n : Int) > 60) = true := decide_eq_true (by omega)
    have d7 : decide ((60 : Int) < (n : Int)) = true := decide_eq_true (by omega)
    clear hv h60
    have EO := Lib.hid hok
    obtain ⟨ZZ, hZZ⟩ : ∃ ZZ : List Int, ZZ = z24 := ⟨_, rfl⟩
    obtain ⟨QQ, hQQ⟩ : ∃ QQ : List Int, QQ = [0, 0] := ⟨_, rfl⟩
    have E := Lib.hid (show ppRA ns fs n = ZZ ∧ ppPA ns fs n = QQ ∧ ppNA ns fs n = 0 from ⟨by rw [ERA.out, if_neg (by rw [hok]; simp), hZZ], by rw [EPA.out, if_neg (by rw [hok]; simp), hQQ], by rw [ENA.out, if_neg (by rw [hok]; simp)]⟩)
    have ZL : ZZ.length = 24 := by rw [hZZ]; rfl
    have QL : QQ.length = 2 := by rw [hQQ]; rfl
    have BZ := Lib.hid (show ∀ W, (Instr.build 27 #[]).run Try.prog W = .ok (.agg (ints ZZ).toArray) W from fun W => by rw [hZZ]; exact buildRack W)
    have l24 : (ints ZZ).length = 24 := by rw [ints_len]; exact ZL
    have l02 : (ints QQ).length = 2 := by rw [ints_len]; exact QL
    have hiQ : (Try.prog.info? 36).map (·.size) = some (ints QQ).length := by rw [l02]; exact hiP
    rw [← hQQ] at PT
    clear hok hZZ hQQ
    go_wp2_with fail
    refine wp_region_held_drew (S := fun w' => Has w' (w.heap.size + 1 + 1 + 1) QQ 2) (by kernel_rfl) PT.drew (fun hHeld => ?_)
    replace Z := Z.drew
    replace Y := Y.drew
    replace HB := Lib.hid (keptDrew8G HB.out)
    clear H PT
    generalize World.drew _ = WF at *
    refine wpAnyH_take (i := 0) (v := .agg (ints ZZ).toArray) rfl (by kernel_rfl) (by kernel_rfl) (by kernel_rfl) (fun _ _ _ h => h) (Or.inl ⟨by rfl, ?_⟩) hHeld ?_
    · intro w' hSw
      exact exec_build0 rfl (BZ.out w')
    (try simp only [List.getElem_toArray, List.getElem_cons_zero, List.getElem_cons_succ, Act.put, List.setIfInBounds_toArray, List.set_cons_zero, List.set_cons_succ])
    (refine wpAnyH_take (i := 1) (v := _) rfl (by kernel_rfl) (by kernel_rfl) (by kernel_rfl) (fun _ _ _ h => h) (yieldsIf_load_mid (by rfl) 36 _ rfl _ _ rfl (ints QQ) _ (fun w' hSw => hSw.holds.range) Try.underlying36 rfl (hiQ)) hHeld ?_; (try simp only [List.getElem_toArray, List.getElem_cons_zero, List.getElem_cons_succ, Act.put, List.setIfInBounds_toArray, List.set_cons_zero, List.set_cons_succ]))
    (refine wpAnyH_ready (rs := [2]) (by kernel_rfl) (by simp) ?_; refine AllReadyH.cons (o := _) rfl (fun K hK => ?_) AllReadyH.nil; (simp only [List.getElem_toArray, List.getElem_cons_zero, List.getElem_cons_succ, Region.wanted, if_true]))
    refine wp_store_mid _ _ _ rfl _ _ (ints ZZ).toArray rfl rfl (by simpa [l24] using Z.there) (by simpa [l24] using hi0) (all_oneCell_toArray (ints_one _)) ?_
    (try simp only [List.getElem_toArray, List.getElem_cons_zero, List.getElem_cons_succ, Act.put, List.setIfInBounds_toArray, List.set_cons_zero, List.set_cons_succ, List.toList_toArray])
    refine hK.out _ _ (hHeld.putOther _ _ (by omega)) (fun hHeld => ?_)
    clear hK K
    have Z2 := Z.putAll ZZ ZL
    have Y2 := Y.putOther (b' := w.heap.size + 1) 0 (ints ZZ) (by omega)
    have HB2 := Lib.hid (HB.out.puts (b := w.heap.size + 1) (by omega) 0 (ints ZZ))
    (refine wpAnyH_ready (rs := [3]) (by kernel_rfl) (by simp) ?_; refine AllReadyH.cons (o := _) rfl (fun K hK => ?_) AllReadyH.nil; (simp only [List.getElem_toArray, List.getElem_cons_zero, List.getElem_cons_succ, Region.wanted, if_true]))
    refine wp_store_mid _ _ _ rfl _ _ (ints QQ).toArray rfl rfl (by simpa [l02] using Y2.there) (by simpa [l02] using hiP) (all_oneCell_toArray (ints_one _)) ?_
    (try simp only [List.getElem_toArray, List.getElem_cons_zero, List.getElem_cons_succ, Act.put, List.setIfInBounds_toArray, List.set_cons_zero, List.set_cons_succ, List.toList_toArray])
    refine hK.out _ _ (hHeld.putOther _ _ (by omega)) (fun hHeld => ?_)
    clear hK K
    have S1 := Lib.hid (Z2.putOther (b' := w.heap.size + 1 + 1) 0 (ints QQ) (by omega))
    have S2 := Lib.hid (Y2.putAll QQ QL)
    have S3 := Lib.hid (HB2.out.puts (b := w.heap.size + 1 + 1) (by omega) 0 (ints QQ))
    (refine wpAnyH_take (i := 4) (v := ?_) rfl (by kernel_rfl) (by kernel_rfl) (by kernel_rfl) (fun _ _ _ h => h) (Or.inl ⟨by rfl, ?_⟩) hHeld ?_; rotate_left; (· (intro w' hSw; go_simp; try with_reducible rfl)); (try simp only [List.getElem_toArray, List.getElem_cons_zero, List.getElem_cons_succ, Act.put, List.setIfInBounds_toArray, List.set_cons_zero, List.set_cons_succ])); (refine wpAnyH_take (i := 5) (v := ?_) rfl (by kernel_rfl) (by kernel_rfl) (by kernel_rfl) (fun _ _ _ h => h) (Or.inl ⟨by rfl, ?_⟩) hHeld ?_; rotate_left; (· (intro w' hSw; go_simp; try with_reducible rfl)); (try simp only [List.getElem_toArray, List.getElem_cons_zero, List.getElem_cons_succ, Act.put, List.setIfInBounds_toArray, List.set_cons_zero, List.set_cons_succ]))
    refine wpAnyH_done (by kernel_rfl) ?_ _
    clear hHeld Z Y Z2 Y2 HB HB2
    go_wp2_with fail
    exact bodyPost_ret (res_has4 rfl _ _ (w.heap.size + 1) (w.heap.size + 1 + 1) ZZ QQ 24 2 _ _ (.int .i64 0) (.bool false) rfl rfl rfl rfl S1.out S2.out Try.underlying27 rfl (by kernel_rfl) Try.underlying36 rfl (by kernel_rfl)) rfl ⟨by rw [E.out.1, E.out.2.1, E.out.2.2, EO.out]; rfl, S3.out⟩
  · have hok : pathOkG ns n = true := by unfold pathOkG; rw [hv, decide_eq_true h60]; rfl
    have d6 : decide ((n : Int) > 60) = false := decide_eq_false (by omega)
    have d7 : decide ((60 : Int) < (n : Int)) = false := decide_eq_false (by omega)
    have EO := Lib.hid hok
    have G : GR ns := ⟨h24, hv⟩
    have GD := Lib.hid (fun k hk => pp_good fs G k hk)
    have N0 : Hid (ppN ns fs 0 = 0) := Lib.hid rfl
    have hi2p := hiP
    clear hok hv G h24
    go_wp2_with fail
    clear d6 d7
    go_loopw [9] (fun i wr => ∃ k : Nat, k ≤ n ∧ i = .int .i64 k ∧ Hid (ppN ns fs k = k) ∧ Has wr w.heap.size (ppR ns fs k) 24 ∧ Has wr (w.heap.size + 1 + 1 + 1) (ppP ns fs k) 2 ∧ Has wr (w.heap.size + 1) z24 24 ∧ Has wr (w.heap.size + 1 + 1) [0, 0] 2 ∧ Hid (Rw wr 0 (.slice a n cap) n fs) ∧ Hid (Kept w wr)) (fun z _ => n - (intOf z).toNat)
    case atStart => exact ⟨0, by omega, rfl, N0, H, PT, Z, Y, R0, HB⟩
    case round =>
      clear H PT Z Y R0 HB
      obtain ⟨k, hk, rfl, KN, H, PT, Z, Y, R0, HB⟩ := hrel
      have gk := GD.out k KN.out
      by_cases hkn : k < n
      · have hki : (k : Int) < (n : Int) := by omega
        have hk0 : (0 : Int) ≤ (k : Int) := by omega
        obtain ⟨g, gc, he, _, hgl⟩ := R0.out.form (by omega)
        injection he with e1 _ e3
        subst e1
        subst e3
        obtain ⟨x, hx⟩ : ∃ x, fs.getD (k * 2) 0 = x := ⟨_, rfl⟩
        obtain ⟨y, hy⟩ : ∃ y, fs.getD (k * 2 + 1) 0 = y := ⟨_, rfl⟩
        have C0 : Hid (∀ w', Kept wr w' → w'.cell? ⟨g, k * 2, none⟩ = some (.int .i64 x)) := Lib.hid (fun w' hw => (R0.out.below hw).cellX (by omega) hx)
        have C1 : Hid (∀ w', Kept wr w' → w'.cell? ⟨g, k * 2 + 1, none⟩ = some (.int .i64 y)) := Lib.hid (fun w' hw => (R0.out.below hw).cellX (by omega) hy)
        have STOP := Lib.hid (fun h => ppN_stop (ns := ns) (fs := fs) KN.out h n hk)
        have STEP := Lib.hid (fun h => ppN_step (ns := ns) (fs := fs) KN.out h)
        have ET : Hid (ppT ns fs k = (pourOk (ppR ns fs k) x y && !idl (ppR ns fs k) x.toNat y.toNat)) := Lib.hid (by unfold ppT tbOk; rw [hx, hy])
        have ER : Hid (ppR ns fs (k + 1) = pourR (ppR ns fs k) x y) := Lib.hid (by rw [ppR, hx, hy])
        have EP : Hid (ppP ns fs (k + 1) = (ppP ns fs k).set (k % 2) ((ppP ns fs k).getD (k % 2) 0 + ((cmN (ppR ns fs (k + 1)) : Int) - (cmN (ppR ns fs k) : Int)))) := Lib.hid rfl
        clear hx hy
        have EEND := Lib.hid (fun (h : ppT ns fs k = false) => show ppRA ns fs n = ppR ns fs k ∧ ppPA ns fs n = ppP ns fs k ∧ ppNA ns fs n = k from by
          have h1 := STOP.out h
          exact ⟨by rw [ERA.out, if_pos EO.out, h1], by rw [EPA.out, if_pos EO.out, h1], by rw [ENA.out, if_pos EO.out, h1]⟩)
        obtain ⟨A0, hA0⟩ : ∃ A0, ppR ns fs k = A0 := ⟨_, rfl⟩
        rw [hA0] at H ET ER EP EEND gk
        clear hA0 STOP
        have r24 := gk.1
        have C24 := Lib.hid gk.1
        have CV := Lib.hid gk.2
        have hi1 : (Try.prog.info? 27).map (·.size) = some (ints A0).length := by rw [ints_len, r24]; exact hi0
        have KC := Lib.hid (fun W => l6CanP_any A0 x y W r24 gk.2)
        have G1 := H
        have hH0 := H.lt
        have hP0 := PT.lt
        go_wp2_with fail
        refine wp_region_held_drew (S := fun w' => Kept wr w') (by kernel_rfl) ((kept_refl wr).drewN 1) (fun hHeld => ?_)
        (refine wpAnyH_take (i := 1) (v := ?_) rfl (by kernel_rfl) (by kernel_rfl) (by kernel_rfl) (fun _ _ _ h => h) (Or.inl ⟨by rfl, ?_⟩) hHeld ?_; rotate_left; (· (intro w' hSw; go_simp; try with_reducible rfl)); (try simp only [List.getElem_toArray, List.getElem_cons_zero, List.getElem_cons_succ, Act.put, List.setIfInBounds_toArray, List.set_cons_zero, List.set_cons_succ])); (refine wpAnyH_take (i := 2) (v := ?_) rfl (by kernel_rfl) (by kernel_rfl) (by kernel_rfl) (fun _ _ _ h => h) (Or.inl ⟨by rfl, ?_⟩) hHeld ?_; rotate_left; (· (intro w' hSw; go_simp; try with_reducible rfl)); (try simp only [List.getElem_toArray, List.getElem_cons_zero, List.getElem_cons_succ, Act.put, List.setIfInBounds_toArray, List.set_cons_zero, List.set_cons_succ])); (refine wpAnyH_take (i := 3) (v := ?_) rfl (by kernel_rfl) (by kernel_rfl) (by kernel_rfl) (fun _ _ _ h => h) (Or.inl ⟨by rfl, ?_⟩) hHeld ?_; rotate_left; (· (intro w' hSw; go_simp; try with_reducible rfl)); (try simp only [List.getElem_toArray, List.getElem_cons_zero, List.getElem_cons_succ, Act.put, List.setIfInBounds_toArray, List.set_cons_zero, List.set_cons_succ]))
        (refine wpAnyH_take (i := 0) (v := _) rfl (by kernel_rfl) (by kernel_rfl) (by kernel_rfl) (fun _ _ _ h => h) (yieldsIf_load_mid (by rfl) 27 _ rfl _ _ rfl (ints A0) _ (fun w' hSw => (G1.below hSw).holds.range) Try.underlying27 rfl (hi1)) hHeld ?_; (try simp only [List.getElem_toArray, List.getElem_cons_zero, List.getElem_cons_succ, Act.put, List.setIfInBounds_toArray, List.set_cons_zero, List.set_cons_succ]))
        (refine wpAnyH_take (i := 4) (v := _) rfl (by kernel_rfl) (by kernel_rfl) (by kernel_rfl) (fun _ _ _ h => h) (yieldsIf_load_mid (by rfl) 36 _ rfl _ _ rfl (ints [x, y]) _ (fun w' hSw => range_two (C0.out w' hSw) (C1.out w' hSw)) Try.underlying36 rfl (hi2p)) hHeld ?_; (try simp only [List.getElem_toArray, List.getElem_cons_zero, List.getElem_cons_succ, Act.put, List.setIfInBounds_toArray, List.set_cons_zero, List.set_cons_succ]))
        (refine wpAnyH_ready (rs := [5]) (by kernel_rfl) (by simp) ?_; refine AllReadyH.cons (o := _) rfl (fun K hK => ?_) AllReadyH.nil; (simp only [List.getElem_toArray, List.getElem_cons_zero, List.getElem_cons_succ, Region.wanted, if_true]))
        go_simp
        refine (KC.out _).mono ?_
        rintro e w3 ⟨rfl, b3⟩
        dsimp only
        (try simp only [List.getElem_toArray, List.getElem_cons_zero, List.getElem_cons_succ, Act.put, List.setIfInBounds_toArray, List.set_cons_zero, List.set_cons_succ])
        have KW := Kept.call hHeld b3
        clear hHeld
        refine hK.out _ _ KW (fun hHeld => ?_)
        clear hK K b3
        cases hok : pourOk A0 x y with
        | false =>
          have E := Lib.hid (EEND.out (by rw [ET.out, hok]; rfl))
          (refine wpAnyH_take (i := 6) (v := ?_) rfl (by kernel_rfl) (by kernel_rfl) (by kernel_rfl) (fun _ _ _ h => h) (Or.inl ⟨by rfl, ?_⟩) hHeld ?_; rotate_left; (· (intro w' hSw; go_simp; try with_reducible rfl)); (try simp only [List.getElem_toArray, List.getElem_cons_zero, List.getElem_cons_succ, Act.put, List.setIfInBounds_toArray, List.set_cons_zero, List.set_cons_succ])); (refine wpAnyH_take (i := 7) (v := ?_) rfl (by kernel_rfl) (by kernel_rfl) (by kernel_rfl) (fun _ _ _ h => h) (Or.inl ⟨by rfl, ?_⟩) hHeld ?_; rotate_left; (· (intro w' hSw; go_simp; try with_reducible rfl)); (try simp only [List.getElem_toArray, List.getElem_cons_zero, List.getElem_cons_succ, Act.put, List.setIfInBounds_toArray, List.set_cons_zero, List.set_cons_succ]))
          (refine wpAnyH_take (i := 8) (v := undef) rfl (by kernel_rfl) (by kernel_rfl) (by kernel_rfl) (fun _ _ _ h => h) (Or.inr ⟨by rfl, rfl⟩) hHeld ?_; (try simp only [List.getElem_toArray, List.getElem_cons_zero, List.getElem_cons_succ, Act.put, List.setIfInBounds_toArray, List.set_cons_zero, List.set_cons_succ])); (refine wpAnyH_take (i := 9) (v := undef) rfl (by kernel_rfl) (by kernel_rfl) (by kernel_rfl) (fun _ _ _ h => h) (Or.inr ⟨by rfl, rfl⟩) hHeld ?_; (try simp only [List.getElem_toArray, List.getElem_cons_zero, List.getElem_cons_succ, Act.put, List.setIfInBounds_toArray, List.set_cons_zero, List.set_cons_succ])); (refine wpAnyH_take (i := 10) (v := undef) rfl (by kernel_rfl) (by kernel_rfl) (by kernel_rfl) (fun _ _ _ h => h) (Or.inr ⟨by rfl, rfl⟩) hHeld ?_; (try simp only [List.getElem_toArray, List.getElem_cons_zero, List.getElem_cons_succ, Act.put, List.setIfInBounds_toArray, List.set_cons_zero, List.set_cons_succ])); (refine wpAnyH_take (i := 11) (v := undef) rfl (by kernel_rfl) (by kernel_rfl) (by kernel_rfl) (fun _ _ _ h => h) (Or.inr ⟨by rfl, rfl⟩) hHeld ?_; (try simp only [List.getElem_toArray, List.getElem_cons_zero, List.getElem_cons_succ, Act.put, List.setIfInBounds_toArray, List.set_cons_zero, List.set_cons_succ])); (refine wpAnyH_take (i := 12) (v := undef) rfl (by kernel_rfl) (by kernel_rfl) (by kernel_rfl) (fun _ _ _ h => h) (Or.inr ⟨by rfl, rfl⟩) hHeld ?_; (try simp only [List.getElem_toArray, List.getElem_cons_zero, List.getElem_cons_succ, Act.put, List.setIfInBounds_toArray, List.set_cons_zero, List.set_cons_succ])); (refine wpAnyH_take (i := 13) (v := undef) rfl (by kernel_rfl) (by kernel_rfl) (by kernel_rfl) (fun _ _ _ h => h) (Or.inr ⟨by rfl, rfl⟩) hHeld ?_; (try simp only [List.getElem_toArray, List.getElem_cons_zero, List.getElem_cons_succ, Act.put, List.setIfInBounds_toArray, List.set_cons_zero, List.set_cons_succ])); (refine wpAnyH_take (i := 14) (v := undef) rfl (by kernel_rfl) (by kernel_rfl) (by kernel_rfl) (fun _ _ _ h => h) (Or.inr ⟨by rfl, rfl⟩) hHeld ?_; (try simp only [List.getElem_toArray, List.getElem_cons_zero, List.getElem_cons_succ, Act.put, List.setIfInBounds_toArray, List.set_cons_zero, List.set_cons_succ])); (refine wpAnyH_take (i := 15) (v := undef) rfl (by kernel_rfl) (by kernel_rfl) (by kernel_rfl) (fun _ _ _ h => h) (Or.inr ⟨by rfl, rfl⟩) hHeld ?_; (try simp only [List.getElem_toArray, List.getElem_cons_zero, List.getElem_cons_succ, Act.put, List.setIfInBounds_toArray, List.set_cons_zero, List.set_cons_succ])); (refine wpAnyH_take (i := 16) (v := undef) rfl (by kernel_rfl) (by kernel_rfl) (by kernel_rfl) (fun _ _ _ h => h) (Or.inr ⟨by rfl, rfl⟩) hHeld ?_; (try simp only [List.getElem_toArray, List.getElem_cons_zero, List.getElem_cons_succ, Act.put, List.setIfInBounds_toArray, List.set_cons_zero, List.set_cons_succ])); (refine wpAnyH_take (i := 17) (v := undef) rfl (by kernel_rfl) (by kernel_rfl) (by kernel_rfl) (fun _ _ _ h => h) (Or.inr ⟨by rfl, rfl⟩) hHeld ?_; (try simp only [List.getElem_toArray, List.getElem_cons_zero, List.getElem_cons_succ, Act.put, List.setIfInBounds_toArray, List.set_cons_zero, List.set_cons_succ])); (refine wpAnyH_take (i := 18) (v := undef) rfl (by kernel_rfl) (by kernel_rfl) (by kernel_rfl) (fun _ _ _ h => h) (Or.inr ⟨by rfl, rfl⟩) hHeld ?_; (try simp only [List.getElem_toArray, List.getElem_cons_zero, List.getElem_cons_succ, Act.put, List.setIfInBounds_toArray, List.set_cons_zero, List.set_cons_succ])); (refine wpAnyH_take (i := 19) (v := undef) rfl (by kernel_rfl) (by kernel_rfl) (by kernel_rfl) (fun _ _ _ h => h) (Or.inr ⟨by rfl, rfl⟩) hHeld ?_; (try simp only [List.getElem_toArray, List.getElem_cons_zero, List.getElem_cons_succ, Act.put, List.setIfInBounds_toArray, List.set_cons_zero, List.set_cons_succ]))
          (refine wpAnyH_take (i := 20) (v := ?_) rfl (by kernel_rfl) (by kernel_rfl) (by kernel_rfl) (fun _ _ _ h => h) (Or.inl ⟨by rfl, ?_⟩) hHeld ?_; rotate_left; (· (intro w' hSw; go_simp; try with_reducible rfl)); (try simp only [List.getElem_toArray, List.getElem_cons_zero, List.getElem_cons_succ, Act.put, List.setIfInBounds_toArray, List.set_cons_zero, List.set_cons_succ]))
          refine wpAnyH_done (by kernel_rfl) ?_ _
          clear hHeld
          replace H := H.below KW
          replace PT := PT.below KW
          replace Z := Z.below KW
          replace Y := Y.below KW
          replace HB := Lib.hid (HB.out.call KW)
          clear hok KW KC EEND ET ER EP STEP C0 C1 R0 G1 gk hH0 hP0
          go_wp2_with fail

          have RL := r24
          have PL := ppP_len ns fs k
          have hiR : (Try.prog.info? 27).map (·.size) = some (ints A0).length := by rw [ints_len, RL]; exact hi0
          have hiQ : (Try.prog.info? 36).map (·.size) = some (ints (ppP ns fs k)).length := by rw [ints_len, PL]; exact hiP
          have l24 : (ints A0).length = 24 := by rw [ints_len]; exact RL
          have l02 : (ints (ppP ns fs k)).length = 2 := by rw [ints_len]; exact PL
          refine wp_region_held_drew (S := fun w' => Has w' w.heap.size A0 24 ∧ Has w' (w.heap.size + 1 + 1 + 1) (ppP ns fs k) 2) (by kernel_rfl) ⟨H.drew, PT.drew⟩ (fun hHeld => ?_)
          replace Z := Z.drew
          replace Y := Y.drew
          replace HB := Lib.hid (keptDrew8G HB.out)
          clear H PT
          generalize World.drew _ = WF at *
          (refine wpAnyH_take (i := 2) (v := ?_) rfl (by kernel_rfl) (by kernel_rfl) (by kernel_rfl) (fun _ _ _ h => h) (Or.inl ⟨by rfl, ?_⟩) hHeld ?_; rotate_left; (· (intro w' hSw; go_simp; try with_reducible rfl)); (try simp only [List.getElem_toArray, List.getElem_cons_zero, List.getElem_cons_succ, Act.put, List.setIfInBounds_toArray, List.set_cons_zero, List.set_cons_succ]))
          (refine wpAnyH_take (i := 0) (v := _) rfl (by kernel_rfl) (by kernel_rfl) (by kernel_rfl) (fun _ _ _ h => h) (yieldsIf_load_mid (by rfl) 27 _ rfl _ _ rfl (ints A0) _ (fun w' hSw => hSw.1.holds.range) Try.underlying27 rfl (hiR)) hHeld ?_; (try simp only [List.getElem_toArray, List.getElem_cons_zero, List.getElem_cons_succ, Act.put, List.setIfInBounds_toArray, List.set_cons_zero, List.set_cons_succ]))
          (refine wpAnyH_take (i := 1) (v := _) rfl (by kernel_rfl) (by kernel_rfl) (by kernel_rfl) (fun _ _ _ h => h) (yieldsIf_load_mid (by rfl) 36 _ rfl _ _ rfl (ints (ppP ns fs k)) _ (fun w' hSw => hSw.2.holds.range) Try.underlying36 rfl (hiQ)) hHeld ?_; (try simp only [List.getElem_toArray, List.getElem_cons_zero, List.getElem_cons_succ, Act.put, List.setIfInBounds_toArray, List.set_cons_zero, List.set_cons_succ]))
          (refine wpAnyH_ready (rs := [3]) (by kernel_rfl) (by simp) ?_; refine AllReadyH.cons (o := _) rfl (fun K hK => ?_) AllReadyH.nil; (simp only [List.getElem_toArray, List.getElem_cons_zero, List.getElem_cons_succ, Region.wanted, if_true]))
          refine wp_store_mid _ _ _ rfl _ _ (ints A0).toArray rfl rfl (by simpa [l24] using Z.there) (by simpa [l24] using hi0) (all_oneCell_toArray (ints_one _)) ?_
          (try simp only [List.getElem_toArray, List.getElem_cons_zero, List.getElem_cons_succ, Act.put, List.setIfInBounds_toArray, List.set_cons_zero, List.set_cons_succ, List.toList_toArray])
          refine hK.out _ _ ⟨hHeld.1.putOther _ _ (by omega), hHeld.2.putOther _ _ (by omega)⟩ (fun hHeld => ?_)
          clear hK K
          have Z2 := Z.putAll A0 RL
          have Y2 := Y.putOther (b' := w.heap.size + 1) 0 (ints A0) (by omega)
          have HB2 := Lib.hid (HB.out.puts (b := w.heap.size + 1) (by omega) 0 (ints A0))
          (refine wpAnyH_ready (rs := [4]) (by kernel_rfl) (by simp) ?_; refine AllReadyH.cons (o := _) rfl (fun K hK => ?_) AllReadyH.nil; (simp only [List.getElem_toArray, List.getElem_cons_zero, List.getElem_cons_succ, Region.wanted, if_true]))
          refine wp_store_mid _ _ _ rfl _ _ (ints (ppP ns fs k)).toArray rfl rfl (by simpa [l02] using Y2.there) (by simpa [l02] using hiP) (all_oneCell_toArray (ints_one _)) ?_
          (try simp only [List.getElem_toArray, List.getElem_cons_zero, List.getElem_cons_succ, Act.put, List.setIfInBounds_toArray, List.set_cons_zero, List.set_cons_succ, List.toList_toArray])
          refine hK.out _ _ ⟨hHeld.1.putOther _ _ (by omega), hHeld.2.putOther _ _ (by omega)⟩ (fun hHeld => ?_)
          clear hK K
          have S1 := Lib.hid (Z2.putOther (b' := w.heap.size + 1 + 1) 0 (ints (ppP ns fs k)) (by omega))
          have S2 := Lib.hid (Y2.putAll (ppP ns fs k) PL)
          have S3 := Lib.hid (HB2.out.puts (b := w.heap.size + 1 + 1) (by omega) 0 (ints (ppP ns fs k)))
          (refine wpAnyH_take (i := 5) (v := ?_) rfl (by kernel_rfl) (by kernel_rfl) (by kernel_rfl) (fun _ _ _ h => h) (Or.inl ⟨by rfl, ?_⟩) hHeld ?_; rotate_left; (· (intro w' hSw; go_simp; try with_reducible rfl)); (try simp only [List.getElem_toArray, List.getElem_cons_zero, List.getElem_cons_succ, Act.put, List.setIfInBounds_toArray, List.set_cons_zero, List.set_cons_succ])); (refine wpAnyH_take (i := 6) (v := ?_) rfl (by kernel_rfl) (by kernel_rfl) (by kernel_rfl) (fun _ _ _ h => h) (Or.inl ⟨by rfl, ?_⟩) hHeld ?_; rotate_left; (· (intro w' hSw; go_simp; try with_reducible rfl)); (try simp only [List.getElem_toArray, List.getElem_cons_zero, List.getElem_cons_succ, Act.put, List.setIfInBounds_toArray, List.set_cons_zero, List.set_cons_succ]))
          refine wpAnyH_done (by kernel_rfl) ?_ _
          clear hHeld Z Y Z2 Y2 HB HB2
          go_wp2_with fail
          exact bodyPost_ret (res_has4 rfl _ _ (w.heap.size + 1) (w.heap.size + 1 + 1) A0 (ppP ns fs k) 24 2 _ _ (.int .i64 (k : Nat)) (.bool true) rfl rfl rfl rfl S1.out S2.out Try.underlying27 rfl (by kernel_rfl) Try.underlying36 rfl (by kernel_rfl)) rfl ⟨by rw [E.out.1, E.out.2.1, E.out.2.2, EO.out], S3.out⟩
        | true =>
          obtain ⟨_, p, q, hx, hy, p6, q6, hne⟩ := pour_places hok
          subst hx
          subst hy
          have hpos : 0 < canN (tub A0 p) (tub A0 q) := by
            have h := (Bool.and_eq_true_iff.1 (show (twoOk A0 (p : Int) (q : Int) && decide (0 < canN (tub A0 (p : Int).toNat) (tub A0 (q : Int).toNat))) = true from hok)).2
            simpa using h
          have HNE := Lib.hid hne
          have HC := Lib.hid hpos
          have LZ := Lib.hid (can_lay (tub_len A0 _ r24 p6) (vR_tub gk.2 _ p6) hpos)
          have ER2 : Hid (ppR ns fs (k + 1) = pourT A0 p q) := Lib.hid (by rw [ER.out, pourR_TG hok])
          have ET2 : Hid (ppT ns fs k = !idl A0 p q) := Lib.hid (by rw [ET.out, hok, Int.toNat_natCast, Int.toNat_natCast]; rfl)
          have KI := Lib.hid (fun W => l2Idle_any A0 p q W r24 gk.2 p6 q6 LZ.out)
          (refine wpAnyH_take (i := 6) (v := ?_) rfl (by kernel_rfl) (by kernel_rfl) (by kernel_rfl) (fun _ _ _ h => h) (Or.inl ⟨by rfl, ?_⟩) hHeld ?_; rotate_left; (· (intro w' hSw; go_simp; try with_reducible rfl)); (try simp only [List.getElem_toArray, List.getElem_cons_zero, List.getElem_cons_succ, Act.put, List.setIfInBounds_toArray, List.set_cons_zero, List.set_cons_succ])); (refine wpAnyH_take (i := 7) (v := ?_) rfl (by kernel_rfl) (by kernel_rfl) (by kernel_rfl) (fun _ _ _ h => h) (Or.inl ⟨by rfl, ?_⟩) hHeld ?_; rotate_left; (· (intro w' hSw; go_simp; try with_reducible rfl)); (try simp only [List.getElem_toArray, List.getElem_cons_zero, List.getElem_cons_succ, Act.put, List.setIfInBounds_toArray, List.set_cons_zero, List.set_cons_succ])); (refine wpAnyH_take (i := 9) (v := ?_) rfl (by kernel_rfl) (by kernel_rfl) (by kernel_rfl) (fun _ _ _ h => h) (Or.inl ⟨by rfl, ?_⟩) hHeld ?_; rotate_left; (· (intro w' hSw; go_simp; try with_reducible rfl)); (try simp only [List.getElem_toArray, List.getElem_cons_zero, List.getElem_cons_succ, Act.put, List.setIfInBounds_toArray, List.set_cons_zero, List.set_cons_succ])); (refine wpAnyH_take (i := 10) (v := ?_) rfl (by kernel_rfl) (by kernel_rfl) (by kernel_rfl) (fun _ _ _ h => h) (Or.inl ⟨by rfl, ?_⟩) hHeld ?_; rotate_left; (· (intro w' hSw; go_simp; try with_reducible rfl)); (try simp only [List.getElem_toArray, List.getElem_cons_zero, List.getElem_cons_succ, Act.put, List.setIfInBounds_toArray, List.set_cons_zero, List.set_cons_succ])); (refine wpAnyH_take (i := 11) (v := ?_) rfl (by kernel_rfl) (by kernel_rfl) (by kernel_rfl) (fun _ _ _ h => h) (Or.inl ⟨by rfl, ?_⟩) hHeld ?_; rotate_left; (· (intro w' hSw; go_simp; try with_reducible rfl)); (try simp only [List.getElem_toArray, List.getElem_cons_zero, List.getElem_cons_succ, Act.put, List.setIfInBounds_toArray, List.set_cons_zero, List.set_cons_succ])); (refine wpAnyH_take (i := 12) (v := ?_) rfl (by kernel_rfl) (by kernel_rfl) (by kernel_rfl) (fun _ _ _ h => h) (Or.inl ⟨by rfl, ?_⟩) hHeld ?_; rotate_left; (· (intro w' hSw; go_simp; try with_reducible rfl)); (try simp only [List.getElem_toArray, List.getElem_cons_zero, List.getElem_cons_succ, Act.put, List.setIfInBounds_toArray, List.set_cons_zero, List.set_cons_succ])); (refine wpAnyH_take (i := 14) (v := ?_) rfl (by kernel_rfl) (by kernel_rfl) (by kernel_rfl) (fun _ _ _ h => h) (Or.inl ⟨by rfl, ?_⟩) hHeld ?_; rotate_left; (· (intro w' hSw; go_simp; try with_reducible rfl)); (try simp only [List.getElem_toArray, List.getElem_cons_zero, List.getElem_cons_succ, Act.put, List.setIfInBounds_toArray, List.set_cons_zero, List.set_cons_succ])); (refine wpAnyH_take (i := 15) (v := ?_) rfl (by kernel_rfl) (by kernel_rfl) (by kernel_rfl) (fun _ _ _ h => h) (Or.inl ⟨by rfl, ?_⟩) hHeld ?_; rotate_left; (· (intro w' hSw; go_simp; try with_reducible rfl)); (try simp only [List.getElem_toArray, List.getElem_cons_zero, List.getElem_cons_succ, Act.put, List.setIfInBounds_toArray, List.set_cons_zero, List.set_cons_succ])); (refine wpAnyH_take (i := 16) (v := ?_) rfl (by kernel_rfl) (by kernel_rfl) (by kernel_rfl) (fun _ _ _ h => h) (Or.inl ⟨by rfl, ?_⟩) hHeld ?_; rotate_left; (· (intro w' hSw; go_simp; try with_reducible rfl)); (try simp only [List.getElem_toArray, List.getElem_cons_zero, List.getElem_cons_succ, Act.put, List.setIfInBounds_toArray, List.set_cons_zero, List.set_cons_succ])); (refine wpAnyH_take (i := 17) (v := ?_) rfl (by kernel_rfl) (by kernel_rfl) (by kernel_rfl) (fun _ _ _ h => h) (Or.inl ⟨by rfl, ?_⟩) hHeld ?_; rotate_left; (· (intro w' hSw; go_simp; try with_reducible rfl)); (try simp only [List.getElem_toArray, List.getElem_cons_zero, List.getElem_cons_succ, Act.put, List.setIfInBounds_toArray, List.set_cons_zero, List.set_cons_succ]))
          (refine wpAnyH_take (i := 8) (v := _) rfl (by kernel_rfl) (by kernel_rfl) (by kernel_rfl) (fun _ _ _ h => h) (yieldsIf_load_mid (by rfl) 27 _ rfl _ _ rfl (ints A0) _ (fun w' hSw => (G1.below hSw).holds.range) Try.underlying27 rfl (hi1)) hHeld ?_; (try simp only [List.getElem_toArray, List.getElem_cons_zero, List.getElem_cons_succ, Act.put, List.setIfInBounds_toArray, List.set_cons_zero, List.set_cons_succ]))
          (refine wpAnyH_take (i := 13) (v := .int .i64 (p : Int)) rfl (by kernel_rfl) (by kernel_rfl) (by kernel_rfl) (fun _ _ _ h => h) (Or.inl ⟨by rfl, ?_⟩) hHeld ?_; (· (intro w' hSw; have q := C0.out w' hSw; clear hSw; go_simp; try with_reducible rfl)); (try simp only [List.getElem_toArray, List.getElem_cons_zero, List.getElem_cons_succ, Act.put, List.setIfInBounds_toArray, List.set_cons_zero, List.set_cons_succ]))
          (refine wpAnyH_take (i := 18) (v := .int .i64 (q : Int)) rfl (by kernel_rfl) (by kernel_rfl) (by kernel_rfl) (fun _ _ _ h => h) (Or.inl ⟨by rfl, ?_⟩) hHeld ?_; (· (intro w' hSw; have q := C1.out w' hSw; clear hSw; go_simp; try with_reducible rfl)); (try simp only [List.getElem_toArray, List.getElem_cons_zero, List.getElem_cons_succ, Act.put, List.setIfInBounds_toArray, List.set_cons_zero, List.set_cons_succ]))
          (refine wpAnyH_ready (rs := [19]) (by kernel_rfl) (by simp) ?_; refine AllReadyH.cons (o := _) rfl (fun K hK => ?_) AllReadyH.nil; (simp only [List.getElem_toArray, List.getElem_cons_zero, List.getElem_cons_succ, Region.wanted, if_true]))
          go_simp
          refine (KI.out _).mono ?_
          rintro e w4 ⟨rfl, b4⟩
          dsimp only
          (try simp only [List.getElem_toArray, List.getElem_cons_zero, List.getElem_cons_succ, Act.put, List.setIfInBounds_toArray, List.set_cons_zero, List.set_cons_succ])
          have KW2 := Kept.call KW b4
          have hw4 := KW2.size
          clear hHeld
          refine hK.out _ _ KW2 (fun hHeld => ?_)
          clear hK K b4
          (refine wpAnyH_take (i := 20) (v := ?_) rfl (by kernel_rfl) (by kernel_rfl) (by kernel_rfl) (fun _ _ _ h => h) (Or.inl ⟨by rfl, ?_⟩) hHeld ?_; rotate_left; (· (intro w' hSw; go_simp; try with_reducible rfl)); (try simp only [List.getElem_toArray, List.getElem_cons_zero, List.getElem_cons_succ, Act.put, List.setIfInBounds_toArray, List.set_cons_zero, List.set_cons_succ]))
          refine wpAnyH_done (by kernel_rfl) ?_ _
          clear hHeld
          replace H := H.below KW2
          replace PT := PT.below KW2
          replace Z := Z.below KW2
          replace Y := Y.below KW2
          replace HB := Lib.hid (HB.out.call KW2)
          cases hid : idl A0 p q with
          | true =>
            have E := Lib.hid (EEND.out (by rw [ET2.out, hid]; rfl))
            clear hok hid KW KW2 KC KI EEND ET ER ET2 ER2 EP STEP C0 C1 R0 G1 gk hH0 hP0 HNE HC LZ hpos hne
            go_wp2_with fail

            have RL := r24
            have PL := ppP_len ns fs k
            have hiR : (Try.prog.info? 27).map (·.size) = some (ints A0).length := by rw [ints_len, RL]; exact hi0
            have hiQ : (Try.prog.info? 36).map (·.size) = some (ints (ppP ns fs k)).length := by rw [ints_len, PL]; exact hiP
            have l24 : (ints A0).length = 24 := by rw [ints_len]; exact RL
            have l02 : (ints (ppP ns fs k)).length = 2 := by rw [ints_len]; exact PL
            refine wp_region_held_drew (S := fun w' => Has w' w.heap.size A0 24 ∧ Has w' (w.heap.size + 1 + 1 + 1) (ppP ns fs k) 2) (by kernel_rfl) ⟨H.drew, PT.drew⟩ (fun hHeld => ?_)
            replace Z := Z.drew
            replace Y := Y.drew
            replace HB := Lib.hid (keptDrew8G HB.out)
            clear H PT
            generalize World.drew _ = WF at *
            (refine wpAnyH_take (i := 2) (v := ?_) rfl (by kernel_rfl) (by kernel_rfl) (by kernel_rfl) (fun _ _ _ h => h) (Or.inl ⟨by rfl, ?_⟩) hHeld ?_; rotate_left; (· (intro w' hSw; go_simp; try with_reducible rfl)); (try simp only [List.getElem_toArray, List.getElem_cons_zero, List.getElem_cons_succ, Act.put, List.setIfInBounds_toArray, List.set_cons_zero, List.set_cons_succ]))
            (refine wpAnyH_take (i := 0) (v := _) rfl (by kernel_rfl) (by kernel_rfl) (by kernel_rfl) (fun _ _ _ h => h) (yieldsIf_load_mid (by rfl) 27 _ rfl _ _ rfl (ints A0) _ (fun w' hSw => hSw.1.holds.range) Try.underlying27 rfl (hiR)) hHeld ?_; (try simp only [List.getElem_toArray, List.getElem_cons_zero, List.getElem_cons_succ, Act.put, List.setIfInBounds_toArray, List.set_cons_zero, List.set_cons_succ]))
            (refine wpAnyH_take (i := 1) (v := _) rfl (by kernel_rfl) (by kernel_rfl) (by kernel_rfl) (fun _ _ _ h => h) (yieldsIf_load_mid (by rfl) 36 _ rfl _ _ rfl (ints (ppP ns fs k)) _ (fun w' hSw => hSw.2.holds.range) Try.underlying36 rfl (hiQ)) hHeld ?_; (try simp only [List.getElem_toArray, List.getElem_cons_zero, List.getElem_cons_succ, Act.put, List.setIfInBounds_toArray, List.set_cons_zero, List.set_cons_succ]))
            (refine wpAnyH_ready (rs := [3]) (by kernel_rfl) (by simp) ?_; refine AllReadyH.cons (o := _) rfl (fun K hK => ?_) AllReadyH.nil; (simp only [List.getElem_toArray, List.getElem_cons_zero, List.getElem_cons_succ, Region.wanted, if_true]))
            refine wp_store_mid _ _ _ rfl _ _ (ints A0).toArray rfl rfl (by simpa [l24] using Z.there) (by simpa [l24] using hi0) (all_oneCell_toArray (ints_one _)) ?_
            (try simp only [List.getElem_toArray, List.getElem_cons_zero, List.getElem_cons_succ, Act.put, List.setIfInBounds_toArray, List.set_cons_zero, List.set_cons_succ, List.toList_toArray])
            refine hK.out _ _ ⟨hHeld.1.putOther _ _ (by omega), hHeld.2.putOther _ _ (by omega)⟩ (fun hHeld => ?_)
            clear hK K
            have Z2 := Z.putAll A0 RL
            have Y2 := Y.putOther (b' := w.heap.size + 1) 0 (ints A0) (by omega)
            have HB2 := Lib.hid (HB.out.puts (b := w.heap.size + 1) (by omega) 0 (ints A0))
            (refine wpAnyH_ready (rs := [4]) (by kernel_rfl) (by simp) ?_; refine AllReadyH.cons (o := _) rfl (fun K hK => ?_) AllReadyH.nil; (simp only [List.getElem_toArray, List.getElem_cons_zero, List.getElem_cons_succ, Region.wanted, if_true]))
            refine wp_store_mid _ _ _ rfl _ _ (ints (ppP ns fs k)).toArray rfl rfl (by simpa [l02] using Y2.there) (by simpa [l02] using hiP) (all_oneCell_toArray (ints_one _)) ?_
            (try simp only [List.getElem_toArray, List.getElem_cons_zero, List.getElem_cons_succ, Act.put, List.setIfInBounds_toArray, List.set_cons_zero, List.set_cons_succ, List.toList_toArray])
            refine hK.out _ _ ⟨hHeld.1.putOther _ _ (by omega), hHeld.2.putOther _ _ (by omega)⟩ (fun hHeld => ?_)
            clear hK K
            have S1 := Lib.hid (Z2.putOther (b' := w.heap.size + 1 + 1) 0 (ints (ppP ns fs k)) (by omega))
            have S2 := Lib.hid (Y2.putAll (ppP ns fs k) PL)
            have S3 := Lib.hid (HB2.out.puts (b := w.heap.size + 1 + 1) (by omega) 0 (ints (ppP ns fs k)))
            (refine wpAnyH_take (i := 5) (v := ?_) rfl (by kernel_rfl) (by kernel_rfl) (by kernel_rfl) (fun _ _ _ h => h) (Or.inl ⟨by rfl, ?_⟩) hHeld ?_; rotate_left; (· (intro w' hSw; go_simp; try with_reducible rfl)); (try simp only [List.getElem_toArray, List.getElem_cons_zero, List.getElem_cons_succ, Act.put, List.setIfInBounds_toArray, List.set_cons_zero, List.set_cons_succ])); (refine wpAnyH_take (i := 6) (v := ?_) rfl (by kernel_rfl) (by kernel_rfl) (by kernel_rfl) (fun _ _ _ h => h) (Or.inl ⟨by rfl, ?_⟩) hHeld ?_; rotate_left; (· (intro w' hSw; go_simp; try with_reducible rfl)); (try simp only [List.getElem_toArray, List.getElem_cons_zero, List.getElem_cons_succ, Act.put, List.setIfInBounds_toArray, List.set_cons_zero, List.set_cons_succ]))
            refine wpAnyH_done (by kernel_rfl) ?_ _
            clear hHeld Z Y Z2 Y2 HB HB2
            go_wp2_with fail
            exact bodyPost_ret (res_has4 rfl _ _ (w.heap.size + 1) (w.heap.size + 1 + 1) A0 (ppP ns fs k) 24 2 _ _ (.int .i64 (k : Nat)) (.bool true) rfl rfl rfl rfl S1.out S2.out Try.underlying27 rfl (by kernel_rfl) Try.underlying36 rfl (by kernel_rfl)) rfl ⟨by rw [E.out.1, E.out.2.1, E.out.2.2, EO.out], S3.out⟩
          | false =>
            have KN2 := Lib.hid (STEP.out (by rw [ET2.out, hid]; rfl))
            have gk2 := GD.out (k + 1) KN2.out
            rw [ER2.out] at gk2 EP
            replace R0 := Lib.hid (R0.out.below KW2)
            have G1 := H
            replace C0 : Hid (∀ w', Kept w4 w' → w'.cell? ⟨g, k * 2, none⟩ = some (.int .i64 (p : Int))) := Lib.hid (fun w' hw => C0.out w' (KW2.call hw))
            replace C1 : Hid (∀ w', Kept w4 w' → w'.cell? ⟨g, k * 2 + 1, none⟩ = some (.int .i64 (q : Int))) := Lib.hid (fun w' hw => C1.out w' (KW2.call hw))
            have pin := ppP_in ns fs k (k % 2)
            have p2 := ppP_len ns fs k
            obtain ⟨Q, hQ⟩ : ∃ Q, ppP ns fs k = Q := ⟨_, rfl⟩
            rw [hQ] at PT pin EP p2
            obtain ⟨R, hR⟩ : ∃ R, pourT A0 p q = R := ⟨_, rfl⟩
            have HR := Lib.hid hR
            rw [hR] at gk2 EP ER2
            have HT0 := Lib.hid ER2.out
            have R24 := gk2.1
            have l2 : (ints R).length = 24 := by rw [ints_len]; exact R24
            have cm1 := cmN_le R
            have cm2 := cmN_le A0
            have tm : Int.tmod (k : Int) 2 = ((k % 2 : Nat) : Int) := by rw [Int.tmod_eq_emod_of_nonneg (by omega)]; omega
            have pr2 : k % 2 < 2 := Nat.mod_lt _ (by omega)
            obtain ⟨pr, hpr⟩ : ∃ pr, k % 2 = pr := ⟨_, rfl⟩
            rw [hpr] at tm pr2 pin EP
            have pri : (pr : Int) < 2 := by omega
            have pr0 : (0 : Int) ≤ (pr : Int) := by omega
            obtain ⟨qv, hqv⟩ : ∃ qv, Q.getD pr 0 = qv := ⟨_, rfl⟩
            have HQV := Lib.hid hqv
            rw [hqv] at pin EP
            obtain ⟨gv, hgv⟩ : ∃ gv, (cmN R : Int) - (cmN A0 : Int) = gv := ⟨_, rfl⟩
            have HGV := Lib.hid hgv
            rw [hgv] at EP
            have wp' : IntKind.i64.wrap (qv + gv) = qv + gv := IntWalk.i64_in _ (by omega)
            have WPQ := Lib.hid wp'
            clear hok hid KW KW2 KC KI EEND ET ER ET2 STEP gk gk2 hQ hR hpr hqv hgv wp' LZ hpos hne
            go_wp2_with fail
            refine wp_region_held_drew (S := fun w' => Kept w4 w') (by kernel_rfl) ?_ (fun hHeld => ?_)
            · exact (kept_refl w4).drewN 1
            (refine wpAnyH_take (i := 1) (v := ?_) rfl (by kernel_rfl) (by kernel_rfl) (by kernel_rfl) (fun _ _ _ h => h) (Or.inl ⟨by rfl, ?_⟩) hHeld ?_; rotate_left; (· (intro w' hSw; go_simp; try with_reducible rfl)); (try simp only [List.getElem_toArray, List.getElem_cons_zero, List.getElem_cons_succ, Act.put, List.setIfInBounds_toArray, List.set_cons_zero, List.set_cons_succ])); (refine wpAnyH_take (i := 2) (v := ?_) rfl (by kernel_rfl) (by kernel_rfl) (by kernel_rfl) (fun _ _ _ h => h) (Or.inl ⟨by rfl, ?_⟩) hHeld ?_; rotate_left; (· (intro w' hSw; go_simp; try with_reducible rfl)); (try simp only [List.getElem_toArray, List.getElem_cons_zero, List.getElem_cons_succ, Act.put, List.setIfInBounds_toArray, List.set_cons_zero, List.set_cons_succ])); (refine wpAnyH_take (i := 3) (v := ?_) rfl (by kernel_rfl) (by kernel_rfl) (by kernel_rfl) (fun _ _ _ h => h) (Or.inl ⟨by rfl, ?_⟩) hHeld ?_; rotate_left; (· (intro w' hSw; go_simp; try with_reducible rfl)); (try simp only [List.getElem_toArray, List.getElem_cons_zero, List.getElem_cons_succ, Act.put, List.setIfInBounds_toArray, List.set_cons_zero, List.set_cons_succ]))
            (refine wpAnyH_take (i := 0) (v := _) rfl (by kernel_rfl) (by kernel_rfl) (by kernel_rfl) (fun _ _ _ h => h) (yieldsIf_load_mid (by rfl) 27 _ rfl _ _ rfl (ints A0) _ (fun w' hSw => (G1.below hSw).holds.range) Try.underlying27 rfl (hi1)) hHeld ?_; (try simp only [List.getElem_toArray, List.getElem_cons_zero, List.getElem_cons_succ, Act.put, List.setIfInBounds_toArray, List.set_cons_zero, List.set_cons_succ]))
            (refine wpAnyH_take (i := 4) (v := _) rfl (by kernel_rfl) (by kernel_rfl) (by kernel_rfl) (fun _ _ _ h => h) (yieldsIf_load_mid (by rfl) 36 _ rfl _ _ rfl (ints [(p : Int), (q : Int)]) _ (fun w' hSw => range_two (C0.out w' hSw) (C1.out w' hSw)) Try.underlying36 rfl (hi2p)) hHeld ?_; (try simp only [List.getElem_toArray, List.getElem_cons_zero, List.getElem_cons_succ, Act.put, List.setIfInBounds_toArray, List.set_cons_zero, List.set_cons_succ]))
            refine wpAnyH_ready (rs := [5, 9]) (by kernel_rfl) (by simp) ?_
            refine AllReadyH.cons (o := _) rfl (fun K hK => ?callFirst) (AllReadyH.cons (o := _) rfl (fun K hK => ?makeFirst) AllReadyH.nil)
            case' callFirst =>
              (simp only [List.getElem_toArray, List.getElem_cons_zero, List.getElem_cons_succ, Region.wanted, if_true])
              go_simp
              refine (gain_any A0 p q _ C24.out CV.out p6 q6 HNE.out HC.out).mono ?_
              rintro e wp2 ⟨rfl, bp2⟩
              rw [HR.out]
              dsimp only
              (try simp only [List.getElem_toArray, List.getElem_cons_zero, List.getElem_cons_succ, Act.put, List.setIfInBounds_toArray, List.set_cons_zero, List.set_cons_succ])
              have KW := Kept.call hHeld bp2
              refine hK.out _ _ KW (fun hHeld => ?_)
              clear hK K bp2
              (refine wpAnyH_take (i := 6) (v := ?_) rfl (by kernel_rfl) (by kernel_rfl) (by kernel_rfl) (fun _ _ _ h => h) (Or.inl ⟨by rfl, ?_⟩) hHeld ?_; rotate_left; (· (intro w' hSw; go_simp; try with_reducible rfl)); (try simp only [List.getElem_toArray, List.getElem_cons_zero, List.getElem_cons_succ, Act.put, List.setIfInBounds_toArray, List.set_cons_zero, List.set_cons_succ])); (refine wpAnyH_take (i := 7) (v := ?_) rfl (by kernel_rfl) (by kernel_rfl) (by kernel_rfl) (fun _ _ _ h => h) (Or.inl ⟨by rfl, ?_⟩) hHeld ?_; rotate_left; (· (intro w' hSw; go_simp; try with_reducible rfl)); (try simp only [List.getElem_toArray, List.getElem_cons_zero, List.getElem_cons_succ, Act.put, List.setIfInBounds_toArray, List.set_cons_zero, List.set_cons_succ])); (refine wpAnyH_take (i := 8) (v := ?_) rfl (by kernel_rfl) (by kernel_rfl) (by kernel_rfl) (fun _ _ _ h => h) (Or.inl ⟨by rfl, ?_⟩) hHeld ?_; rotate_left; (· (intro w' hSw; go_simp; try with_reducible rfl)); (try simp only [List.getElem_toArray, List.getElem_cons_zero, List.getElem_cons_succ, Act.put, List.setIfInBounds_toArray, List.set_cons_zero, List.set_cons_succ]))
              (refine wpAnyH_ready (rs := [9]) (by kernel_rfl) (by simp) ?_; refine AllReadyH.cons (o := _) rfl (fun K hK => ?_) AllReadyH.nil; (simp only [List.getElem_toArray, List.getElem_cons_zero, List.getElem_cons_succ, Region.wanted, if_true]))
              go_simp
              have F9 := Has.zero24 wp2 27
              have h9 := KW.size
              replace KW := KW.alloc (.cells #[.int .i64 0, .int .i64 0, .int .i64 0, .int .i64 0, .int .i64 0, .int .i64 0, .int .i64 0, .int .i64 0, .int .i64 0, .int .i64 0, .int .i64 0, .int .i64 0, .int .i64 0, .int .i64 0, .int .i64 0, .int .i64 0, .int .i64 0, .int .i64 0, .int .i64 0, .int .i64 0, .int .i64 0, .int .i64 0, .int .i64 0, .int .i64 0] 27)
              refine hK.out _ _ KW (fun hHeld => ?_)
              clear hK K
              generalize wp2.alloc (.cells #[.int .i64 0, .int .i64 0, .int .i64 0, .int .i64 0, .int .i64 0, .int .i64 0, .int .i64 0, .int .i64 0, .int .i64 0, .int .i64 0, .int .i64 0, .int .i64 0, .int .i64 0, .int .i64 0, .int .i64 0, .int .i64 0, .int .i64 0, .int .i64 0, .int .i64 0, .int .i64 0, .int .i64 0, .int .i64 0, .int .i64 0, .int .i64 0] 27) = wp3 at *
              generalize wp2.heap.size = b9 at *
              (refine wpAnyH_take (i := 10) (v := ?_) rfl (by kernel_rfl) (by kernel_rfl) (by kernel_rfl) (fun _ _ _ h => h) (Or.inl ⟨by rfl, ?_⟩) hHeld ?_; rotate_left; (· (intro w' hSw; go_simp; try with_reducible rfl)); (try simp only [List.getElem_toArray, List.getElem_cons_zero, List.getElem_cons_succ, Act.put, List.setIfInBounds_toArray, List.set_cons_zero, List.set_cons_succ]))
            case' makeFirst =>
              (simp only [List.getElem_toArray, List.getElem_cons_zero, List.getElem_cons_succ, Region.wanted, if_true])
              go_simp
              have F9 : Has _ w4.heap.size z24 24 := Has.zero24 w4.drew 27
              have KW := Kept.alloc hHeld (.cells #[.int .i64 0, .int .i64 0, .int .i64 0, .int .i64 0, .int .i64 0, .int .i64 0, .int .i64 0, .int .i64 0, .int .i64 0, .int .i64 0, .int .i64 0, .int .i64 0, .int .i64 0, .int .i64 0, .int .i64 0, .int .i64 0, .int .i64 0, .int .i64 0, .int .i64 0, .int .i64 0, .int .i64 0, .int .i64 0, .int .i64 0, .int .i64 0] 27)
              obtain ⟨b9, hb9⟩ : ∃ b : Nat, b = w4.heap.size := ⟨_, rfl⟩
              have h9 : w4.heap.size ≤ b9 := by omega
              rw [← hb9] at F9
              refine hK.out _ _ KW (fun hHeld => ?_)
              clear hK K
              (refine wpAnyH_ready (rs := [5]) (by kernel_rfl) (by simp) ?_; refine AllReadyH.cons (o := _) rfl (fun K hK => ?_) AllReadyH.nil; (simp only [List.getElem_toArray, List.getElem_cons_zero, List.getElem_cons_succ, Region.wanted, if_true]))
              go_simp
              refine (gain_any A0 p q _ C24.out CV.out p6 q6 HNE.out HC.out).mono ?_
              rintro e wp3 ⟨rfl, bp2⟩
              rw [HR.out]
              dsimp only
              (try simp only [List.getElem_toArray, List.getElem_cons_zero, List.getElem_cons_succ, Act.put, List.setIfInBounds_toArray, List.set_cons_zero, List.set_cons_succ])
              replace F9 := F9.below bp2
              replace KW := KW.call bp2
              refine hK.out _ _ KW (fun hHeld => ?_)
              clear hK K bp2
              (refine wpAnyH_take (i := 6) (v := ?_) rfl (by kernel_rfl) (by kernel_rfl) (by kernel_rfl) (fun _ _ _ h => h) (Or.inl ⟨by rfl, ?_⟩) hHeld ?_; rotate_left; (· (intro w' hSw; go_simp; try with_reducible rfl)); (try simp only [List.getElem_toArray, List.getElem_cons_zero, List.getElem_cons_succ, Act.put, List.setIfInBounds_toArray, List.set_cons_zero, List.set_cons_succ])); (refine wpAnyH_take (i := 7) (v := ?_) rfl (by kernel_rfl) (by kernel_rfl) (by kernel_rfl) (fun _ _ _ h => h) (Or.inl ⟨by rfl, ?_⟩) hHeld ?_; rotate_left; (· (intro w' hSw; go_simp; try with_reducible rfl)); (try simp only [List.getElem_toArray, List.getElem_cons_zero, List.getElem_cons_succ, Act.put, List.setIfInBounds_toArray, List.set_cons_zero, List.set_cons_succ])); (refine wpAnyH_take (i := 8) (v := ?_) rfl (by kernel_rfl) (by kernel_rfl) (by kernel_rfl) (fun _ _ _ h => h) (Or.inl ⟨by rfl, ?_⟩) hHeld ?_; rotate_left; (· (intro w' hSw; go_simp; try with_reducible rfl)); (try simp only [List.getElem_toArray, List.getElem_cons_zero, List.getElem_cons_succ, Act.put, List.setIfInBounds_toArray, List.set_cons_zero, List.set_cons_succ])); (refine wpAnyH_take (i := 10) (v := ?_) rfl (by kernel_rfl) (by kernel_rfl) (by kernel_rfl) (fun _ _ _ h => h) (Or.inl ⟨by rfl, ?_⟩) hHeld ?_; rotate_left; (· (intro w' hSw; go_simp; try with_reducible rfl)); (try simp only [List.getElem_toArray, List.getElem_cons_zero, List.getElem_cons_succ, Act.put, List.setIfInBounds_toArray, List.set_cons_zero, List.set_cons_succ]))
              rw [← hb9]
              clear hb9
            all_goals
              (refine wpAnyH_ready (rs := [11]) (by kernel_rfl) (by simp) ?_; refine AllReadyH.cons (o := _) rfl (fun K hK => ?_) AllReadyH.nil; (simp only [List.getElem_toArray, List.getElem_cons_zero, List.getElem_cons_succ, Region.wanted, if_true]))
              refine wp_store_mid _ _ _ rfl _ _ (ints R).toArray rfl rfl (by simpa [l2] using F9.there) (by simpa [l2] using hi0) (all_oneCell_toArray (ints_one _)) ?_
              (try simp only [List.getElem_toArray, List.getElem_cons_zero, List.getElem_cons_succ, Act.put, List.setIfInBounds_toArray, List.set_cons_zero, List.set_cons_succ, List.toList_toArray])
              replace F9 := F9.putAll R R24
              replace KW := KW.puts (b := b9) h9 0 (ints R)
              refine hK.out _ _ KW (fun hHeld => ?_)
              clear hK K
              refine wpAnyH_done (by kernel_rfl) ?_ _
              clear hHeld
              generalize wp3.setCells b9 0 (ints R) = wp4 at *
              replace H := H.below KW
              replace PT := PT.below KW
              replace Z := Z.below KW
              replace Y := Y.below KW
              replace R0 := Lib.hid (R0.out.below KW)
              replace HB := Lib.hid (HB.out.call KW)
              have hkw := KW.size
              clear KW C0 C1 G1
              rw [HGV.out]
              have cc := PT.cellXg (k := pr) (x := qv) (by omega) HQV.out
              have ff := PT.free pr (by omega)
              have wp' := WPQ.out
              have PT2 := PT.set pr (qv + gv) (by omega)
              rw [← EP.out] at PT2
              have hb9 : w.heap.size + 1 + 1 + 1 < b9 := by have := hP0; omega
              have H2 := H.setOther (b' := w.heap.size + 1 + 1 + 1) pr (.int .i64 (qv + gv)) (by omega)
              have F2 := F9.setOther (b' := w.heap.size + 1 + 1 + 1) pr (.int .i64 (qv + gv)) (by omega)
              have Z2 := Z.setOther (b' := w.heap.size + 1 + 1 + 1) pr (.int .i64 (qv + gv)) (by omega)
              have Y2 := Y.setOther (b' := w.heap.size + 1 + 1 + 1) pr (.int .i64 (qv + gv)) (by omega)
              have HB2 := Lib.hid (HB.out.set (b := w.heap.size + 1 + 1 + 1) (by omega) pr (.int .i64 (qv + gv)))
              have R2 := Lib.hid (Rw.setOtherP R0.out (w.heap.size + 1 + 1 + 1) pr (.int .i64 (qv + gv)) (fun hn z hz => by have := OW0.out hn z hz; omega))
              clear H PT Z Y R0 HB F9 WPQ HQV HGV
              go_upto_region 11 with fail
              clear cc ff wp' tm
              generalize World.setCell _ _ _ = W7 at *
              have S1 := H2.putAll R R24
              have P7 := PT2.putOther (b' := w.heap.size) 0 (ints R) (by omega)
              have Z7 := Z2.putOther (b' := w.heap.size) 0 (ints R) (by omega)
              have Y7 := Y2.putOther (b' := w.heap.size) 0 (ints R) (by omega)
              have R7 := Lib.hid (R2.out.puts w.heap.size 0 (ints R) (fun hn e => by have := OW0.out hn _ e; omega))
              have K7 := Lib.hid (HB2.out.puts (b := w.heap.size) (Nat.le_refl _) 0 (ints R))
              go_wp2_with (first | (refine load_has rfl 27 _ rfl b9 rfl R 24 F2 _ Try.underlying27 rfl ?_ ?_; (· kernel_rfl)) | (refine store_at rfl 27 _ _ rfl _ R rfl rfl A0 24 H2 R24 ?_ ?_; (· kernel_rfl)))
              go_roundw
              case rel => exact ⟨k + 1, by omega, by go_num, KN2, by rw [HT0.out]; exact S1, P7, Z7, Y7, R7, K7⟩
              case measure => simp [intOf]; omega
      · obtain rfl : k = n := by omega
        have E := Lib.hid (show ppRA ns fs k = ppR ns fs k ∧ ppPA ns fs k = ppP ns fs k ∧ ppNA ns fs k = k from
          ⟨by rw [ERA.out, if_pos EO.out, KN.out], by rw [EPA.out, if_pos EO.out, KN.out], by rw [ENA.out, if_pos EO.out, KN.out]⟩)
        have r24 := gk.1
        clear gk
        go_wp2_with fail
        obtain ⟨RR, hRR⟩ : ∃ RR, ppR ns fs k = RR := ⟨_, rfl⟩
        rw [hRR] at H r24 E
        clear hRR
        have RL := r24
        have PL := ppP_len ns fs k
        have hiR : (Try.prog.info? 27).map (·.size) = some (ints RR).length := by rw [ints_len, RL]; exact hi0
        have hiQ : (Try.prog.info? 36).map (·.size) = some (ints (ppP ns fs k)).length := by rw [ints_len, PL]; exact hiP
        have l24 : (ints RR).length = 24 := by rw [ints_len]; exact RL
        have l02 : (ints (ppP ns fs k)).length = 2 := by rw [ints_len]; exact PL
        refine wp_region_held_drew (S := fun w' => Has w' w.heap.size RR 24 ∧ Has w' (w.heap.size + 1 + 1 + 1) (ppP ns fs k) 2) (by kernel_rfl) ⟨H.drew, PT.drew⟩ (fun hHeld => ?_)
        replace Z := Z.drew
        replace Y := Y.drew
        replace HB := Lib.hid (keptDrew8G HB.out)
        clear H PT
        generalize World.drew _ = WF at *
        (refine wpAnyH_take (i := 2) (v := ?_) rfl (by kernel_rfl) (by kernel_rfl) (by kernel_rfl) (fun _ _ _ h => h) (Or.inl ⟨by rfl, ?_⟩) hHeld ?_; rotate_left; (· (intro w' hSw; go_simp; try with_reducible rfl)); (try simp only [List.getElem_toArray, List.getElem_cons_zero, List.getElem_cons_succ, Act.put, List.setIfInBounds_toArray, List.set_cons_zero, List.set_cons_succ]))
        (refine wpAnyH_take (i := 0) (v := _) rfl (by kernel_rfl) (by kernel_rfl) (by kernel_rfl) (fun _ _ _ h => h) (yieldsIf_load_mid (by rfl) 27 _ rfl _ _ rfl (ints RR) _ (fun w' hSw => hSw.1.holds.range) Try.underlying27 rfl (hiR)) hHeld ?_; (try simp only [List.getElem_toArray, List.getElem_cons_zero, List.getElem_cons_succ, Act.put, List.setIfInBounds_toArray, List.set_cons_zero, List.set_cons_succ]))
        (refine wpAnyH_take (i := 1) (v := _) rfl (by kernel_rfl) (by kernel_rfl) (by kernel_rfl) (fun _ _ _ h => h) (yieldsIf_load_mid (by rfl) 36 _ rfl _ _ rfl (ints (ppP ns fs k)) _ (fun w' hSw => hSw.2.holds.range) Try.underlying36 rfl (hiQ)) hHeld ?_; (try simp only [List.getElem_toArray, List.getElem_cons_zero, List.getElem_cons_succ, Act.put, List.setIfInBounds_toArray, List.set_cons_zero, List.set_cons_succ]))
        refine wpAnyH_ready (rs := [3, 4]) (by kernel_rfl) (by simp) ?_
        refine AllReadyH.cons (o := _) rfl (fun K hK => ?_) (AllReadyH.cons (o := _) rfl (fun K hK => ?_) AllReadyH.nil)
        · (simp only [List.getElem_toArray, List.getElem_cons_zero, List.getElem_cons_succ, Region.wanted, if_true])
          go_simp
          (try simp only [List.getElem_toArray, List.getElem_cons_zero, List.getElem_cons_succ, Act.put, List.setIfInBounds_toArray, List.set_cons_zero, List.set_cons_succ])
          refine hK.out _ _ hHeld (fun hHeld => ?_)
          clear hK K
          (refine wpAnyH_ready (rs := [4]) (by kernel_rfl) (by simp) ?_; refine AllReadyH.cons (o := _) rfl (fun K hK => ?_) AllReadyH.nil; (simp only [List.getElem_toArray, List.getElem_cons_zero, List.getElem_cons_succ, Region.wanted, if_true]))
          refine wp_store_mid _ _ _ rfl _ _ (ints RR).toArray rfl rfl (by simpa [l24] using Z.there) (by simpa [l24] using hi0) (all_oneCell_toArray (ints_one _)) ?_
          (try simp only [List.getElem_toArray, List.getElem_cons_zero, List.getElem_cons_succ, Act.put, List.setIfInBounds_toArray, List.set_cons_zero, List.set_cons_succ, List.toList_toArray])
          refine hK.out _ _ ⟨hHeld.1.putOther _ _ (by omega), hHeld.2.putOther _ _ (by omega)⟩ (fun hHeld => ?_)
          clear hK K
          have Z2 := Z.putAll RR RL
          have Y2 := Y.putOther (b' := w.heap.size + 1) 0 (ints RR) (by omega)
          have HB2 := Lib.hid (HB.out.puts (b := w.heap.size + 1) (by omega) 0 (ints RR))
          (refine wpAnyH_ready (rs := [5]) (by kernel_rfl) (by simp) ?_; refine AllReadyH.cons (o := _) rfl (fun K hK => ?_) AllReadyH.nil; (simp only [List.getElem_toArray, List.getElem_cons_zero, List.getElem_cons_succ, Region.wanted, if_true]))
          refine wp_store_mid _ _ _ rfl _ _ (ints (ppP ns fs k)).toArray rfl rfl (by simpa [l02] using Y2.there) (by simpa [l02] using hiP) (all_oneCell_toArray (ints_one _)) ?_
          (try simp only [List.getElem_toArray, List.getElem_cons_zero, List.getElem_cons_succ, Act.put, List.setIfInBounds_toArray, List.set_cons_zero, List.set_cons_succ, List.toList_toArray])
          refine hK.out _ _ ⟨hHeld.1.putOther _ _ (by omega), hHeld.2.putOther _ _ (by omega)⟩ (fun hHeld => ?_)
          clear hK K
          have S1 := Lib.hid (Z2.putOther (b' := w.heap.size + 1 + 1) 0 (ints (ppP ns fs k)) (by omega))
          have S2 := Lib.hid (Y2.putAll (ppP ns fs k) PL)
          have S3 := Lib.hid (HB2.out.puts (b := w.heap.size + 1 + 1) (by omega) 0 (ints (ppP ns fs k)))
          (refine wpAnyH_take (i := 6) (v := ?_) rfl (by kernel_rfl) (by kernel_rfl) (by kernel_rfl) (fun _ _ _ h => h) (Or.inl ⟨by rfl, ?_⟩) hHeld ?_; rotate_left; (· (intro w' hSw; go_simp; try with_reducible rfl)); (try simp only [List.getElem_toArray, List.getElem_cons_zero, List.getElem_cons_succ, Act.put, List.setIfInBounds_toArray, List.set_cons_zero, List.set_cons_succ])); (refine wpAnyH_take (i := 7) (v := ?_) rfl (by kernel_rfl) (by kernel_rfl) (by kernel_rfl) (fun _ _ _ h => h) (Or.inl ⟨by rfl, ?_⟩) hHeld ?_; rotate_left; (· (intro w' hSw; go_simp; try with_reducible rfl)); (try simp only [List.getElem_toArray, List.getElem_cons_zero, List.getElem_cons_succ, Act.put, List.setIfInBounds_toArray, List.set_cons_zero, List.set_cons_succ]))
          refine wpAnyH_done (by kernel_rfl) ?_ _
          clear hHeld Z Y Z2 Y2 HB HB2
          go_wp2_with fail
          exact bodyPost_ret (res_has4 rfl _ _ (w.heap.size + 1) (w.heap.size + 1 + 1) RR (ppP ns fs k) 24 2 _ _ (.int .i64 (k : Nat)) (.bool true) rfl rfl rfl rfl S1.out S2.out Try.underlying27 rfl (by kernel_rfl) Try.underlying36 rfl (by kernel_rfl)) rfl ⟨by rw [E.out.1, E.out.2.1, E.out.2.2, EO.out], S3.out⟩
        · (simp only [List.getElem_toArray, List.getElem_cons_zero, List.getElem_cons_succ, Region.wanted, if_true])
          refine wp_store_mid _ _ _ rfl _ _ (ints RR).toArray rfl rfl (by simpa [l24] using Z.there) (by simpa [l24] using hi0) (all_oneCell_toArray (ints_one _)) ?_
          (try simp only [List.getElem_toArray, List.getElem_cons_zero, List.getElem_cons_succ, Act.put, List.setIfInBounds_toArray, List.set_cons_zero, List.set_cons_succ, List.toList_toArray])
          refine hK.out _ _ ⟨hHeld.1.putOther _ _ (by omega), hHeld.2.putOther _ _ (by omega)⟩ (fun hHeld => ?_)
          clear hK K
          have Z2 := Z.putAll RR RL
          have Y2 := Y.putOther (b' := w.heap.size + 1) 0 (ints RR) (by omega)
          have HB2 := Lib.hid (HB.out.puts (b := w.heap.size + 1) (by omega) 0 (ints RR))
          refine wpAnyH_ready (rs := [3, 5]) (by kernel_rfl) (by simp) ?_
          refine AllReadyH.cons (o := _) rfl (fun K hK => ?_) (AllReadyH.cons (o := _) rfl (fun K hK => ?_) AllReadyH.nil)
          · (simp only [List.getElem_toArray, List.getElem_cons_zero, List.getElem_cons_succ, Region.wanted, if_true])
            go_simp
            (try simp only [List.getElem_toArray, List.getElem_cons_zero, List.getElem_cons_succ, Act.put, List.setIfInBounds_toArray, List.set_cons_zero, List.set_cons_succ])
            refine hK.out _ _ hHeld (fun hHeld => ?_)
            clear hK K
            (refine wpAnyH_ready (rs := [5]) (by kernel_rfl) (by simp) ?_; refine AllReadyH.cons (o := _) rfl (fun K hK => ?_) AllReadyH.nil; (simp only [List.getElem_toArray, List.getElem_cons_zero, List.getElem_cons_succ, Region.wanted, if_true]))
            refine wp_store_mid _ _ _ rfl _ _ (ints (ppP ns fs k)).toArray rfl rfl (by simpa [l02] using Y2.there) (by simpa [l02] using hiP) (all_oneCell_toArray (ints_one _)) ?_
            (try simp only [List.getElem_toArray, List.getElem_cons_zero, List.getElem_cons_succ, Act.put, List.setIfInBounds_toArray, List.set_cons_zero, List.set_cons_succ, List.toList_toArray])
            refine hK.out _ _ ⟨hHeld.1.putOther _ _ (by omega), hHeld.2.putOther _ _ (by omega)⟩ (fun hHeld => ?_)
            clear hK K
            have S1 := Lib.hid (Z2.putOther (b' := w.heap.size + 1 + 1) 0 (ints (ppP ns fs k)) (by omega))
            have S2 := Lib.hid (Y2.putAll (ppP ns fs k) PL)
            have S3 := Lib.hid (HB2.out.puts (b := w.heap.size + 1 + 1) (by omega) 0 (ints (ppP ns fs k)))
            (refine wpAnyH_take (i := 6) (v := ?_) rfl (by kernel_rfl) (by kernel_rfl) (by kernel_rfl) (fun _ _ _ h => h) (Or.inl ⟨by rfl, ?_⟩) hHeld ?_; rotate_left; (· (intro w' hSw; go_simp; try with_reducible rfl)); (try simp only [List.getElem_toArray, List.getElem_cons_zero, List.getElem_cons_succ, Act.put, List.setIfInBounds_toArray, List.set_cons_zero, List.set_cons_succ])); (refine wpAnyH_take (i := 7) (v := ?_) rfl (by kernel_rfl) (by kernel_rfl) (by kernel_rfl) (fun _ _ _ h => h) (Or.inl ⟨by rfl, ?_⟩) hHeld ?_; rotate_left; (· (intro w' hSw; go_simp; try with_reducible rfl)); (try simp only [List.getElem_toArray, List.getElem_cons_zero, List.getElem_cons_succ, Act.put, List.setIfInBounds_toArray, List.set_cons_zero, List.set_cons_succ]))
            refine wpAnyH_done (by kernel_rfl) ?_ _
            clear hHeld Z Y Z2 Y2 HB HB2
            go_wp2_with fail
            exact bodyPost_ret (res_has4 rfl _ _ (w.heap.size + 1) (w.heap.size + 1 + 1) RR (ppP ns fs k) 24 2 _ _ (.int .i64 (k : Nat)) (.bool true) rfl rfl rfl rfl S1.out S2.out Try.underlying27 rfl (by kernel_rfl) Try.underlying36 rfl (by kernel_rfl)) rfl ⟨by rw [E.out.1, E.out.2.1, E.out.2.2, EO.out], S3.out⟩
          · (simp only [List.getElem_toArray, List.getElem_cons_zero, List.getElem_cons_succ, Region.wanted, if_true])
            refine wp_store_mid _ _ _ rfl _ _ (ints (ppP ns fs k)).toArray rfl rfl (by simpa [l02] using Y2.there) (by simpa [l02] using hiP) (all_oneCell_toArray (ints_one _)) ?_
            (try simp only [List.getElem_toArray, List.getElem_cons_zero, List.getElem_cons_succ, Act.put, List.setIfInBounds_toArray, List.set_cons_zero, List.set_cons_succ, List.toList_toArray])
            refine hK.out _ _ ⟨hHeld.1.putOther _ _ (by omega), hHeld.2.putOther _ _ (by omega)⟩ (fun hHeld => ?_)
            clear hK K
            have S1 := Lib.hid (Z2.putOther (b' := w.heap.size + 1 + 1) 0 (ints (ppP ns fs k)) (by omega))
            have S2 := Lib.hid (Y2.putAll (ppP ns fs k) PL)
            have S3 := Lib.hid (HB2.out.puts (b := w.heap.size + 1 + 1) (by omega) 0 (ints (ppP ns fs k)))
            (refine wpAnyH_ready (rs := [3]) (by kernel_rfl) (by simp) ?_; refine AllReadyH.cons (o := _) rfl (fun K hK => ?_) AllReadyH.nil; (simp only [List.getElem_toArray, List.getElem_cons_zero, List.getElem_cons_succ, Region.wanted, if_true]))
            go_simp
            (try simp only [List.getElem_toArray, List.getElem_cons_zero, List.getElem_cons_succ, Act.put, List.setIfInBounds_toArray, List.set_cons_zero, List.set_cons_succ])
            refine hK.out _ _ hHeld (fun hHeld => ?_)
            clear hK K
            (refine wpAnyH_take (i := 6) (v := ?_) rfl (by kernel_rfl) (by kernel_rfl) (by kernel_rfl) (fun _ _ _ h => h) (Or.inl ⟨by rfl, ?_⟩) hHeld ?_; rotate_left; (· (intro w' hSw; go_simp; try with_reducible rfl)); (try simp only [List.getElem_toArray, List.getElem_cons_zero, List.getElem_cons_succ, Act.put, List.setIfInBounds_toArray, List.set_cons_zero, List.set_cons_succ])); (refine wpAnyH_take (i := 7) (v := ?_) rfl (by kernel_rfl) (by kernel_rfl) (by kernel_rfl) (fun _ _ _ h => h) (Or.inl ⟨by rfl, ?_⟩) hHeld ?_; rotate_left; (· (intro w' hSw; go_simp; try with_reducible rfl)); (try simp only [List.getElem_toArray, List.getElem_cons_zero, List.getElem_cons_succ, Act.put, List.setIfInBounds_toArray, List.set_cons_zero, List.set_cons_succ]))
            refine wpAnyH_done (by kernel_rfl) ?_ _
            clear hHeld Z Y Z2 Y2 HB HB2
            go_wp2_with fail
            exact bodyPost_ret (res_has4 rfl _ _ (w.heap.size + 1) (w.heap.size + 1 + 1) RR (ppP ns fs k) 24 2 _ _ (.int .i64 (k : Nat)) (.bool true) rfl rfl rfl rfl S1.out S2.out Try.underlying27 rfl (by kernel_rfl) Try.underlying36 rfl (by kernel_rfl)) rfl ⟨by rw [E.out.1, E.out.2.1, E.out.2.2, EO.out], S3.out⟩
end Go.Proofs.Ytnldnjnnjfbhnab.base
