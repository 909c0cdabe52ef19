/-
  The greatest number of layers that one pour moves, on the program's side, walked.
-/
import Derived.Test.YtmhkjakgdfadbabMostS
namespace Go.Proofs.Ytmhkjakgdfadbab.base
open Go.ChangeShapes Go.WideShapes Go.ChangeAt Go.RowKit
set_option linter.unusedVariables false
set_option linter.unusedSimpArgs false

set_option maxHeartbeats 3200000 in
set_option maxRecDepth 100000 in
theorem implMost (ns : List Int) (w : World) (h24 : ns.length = 24) :
    Calls Try.prog 18 #[row ns] w (MostPost ns w) := by
  have hip : ∀ x y : Int, (Try.prog.info? 44).map (·.size) = some (ints [x, y]).length := fun x y => by kernel_rfl
  have hi0 : (Try.prog.info? 27).map (·.size) = some 24 := by kernel_rfl
  have hi1 : (Try.prog.info? 27).map (·.size) = some (ints ns).length := by rw [ints_len, h24]; exact hi0
  have HB := Lib.hid ((((kept_refl w).alloc (.cells (ints ns).toArray 27)).alloc (.cells #[.int .i64 0, .int .i64 0] 44)).alloc (.cells #[.int .i64 0, .int .i64 0] 44))
  have H := ((Has.box w 27 h24 (by omega)).alloc (.cells #[.int .i64 0, .int .i64 0] 44)).alloc (.cells #[.int .i64 0, .int .i64 0] 44)
  have Z := ((Has.pair0 (w.alloc (.cells (ints ns).toArray 27)) 44).at (size1 _ _)).alloc (.cells #[.int .i64 0, .int .i64 0] 44)
  have Y := (Has.pair0 ((w.alloc (.cells (ints ns).toArray 27)).alloc (.cells #[.int .i64 0, .int .i64 0] 44)) 44).at (c := w.heap.size + 1 + 1) (by simp)
  have hz2 : ([0, 0] : List Int).length = 2 := rfl
  rw [row_ints]
  go_enter Try.func18, Try.ntmps18
  go_wp2_with (first | (refine build_law rfl 44 rfl _ build2 ?_) | (refine store_new rfl 44 _ _ rfl _ _ _ rfl _ (by simp) _ rfl rfl ?_ ?_ ?_; (· (first | assumption | rfl)); (· kernel_rfl)) | (refine load_has rfl 27 _ rfl _ rfl ?_ 24 ?_ _ Try.underlying27 rfl ?_ ?_; rotate_left; (· (repeat (first | (with_reducible assumption) | ((with_reducible refine Has.box _ _ ?_ ?_) <;> (first | assumption | decide)) | (with_reducible refine Has.alloc ?_ _) | ((with_reducible refine Has.putOther ?_ _ _ ?_); rotate_left; omega; skip) | ((with_reducible refine Has.below ?_ ?_); rotate_left; assumption)))); (· kernel_rfl)))
  refine (implPours ns _ h24).mono ?_
  rintro e w1 ⟨pv, rfl, q1, b1⟩
  replace H := H.below b1
  replace Z := Z.below b1
  replace Y := Y.below b1
  replace HB := Lib.hid (HB.out.call b1)
  obtain ⟨a, cap, rfl⟩ := prs_shape q1
  rw [size1, size1, size1] at q1
  have R0 := Lib.hid (q1.rw.mono (b' := w.heap.size + 3) (by omega))
  clear b1 q1
  have EF : Hid (mostA ns = mostUp ns (poursFA ns) (poursNA ns)) := Lib.hid rfl
  have hN := poursNA_le ns
  have MI := Lib.hid (fun k => most_in ns (poursFA ns) k)
  have C24 := Lib.hid h24
  have M0 : Hid (mostUp ns (poursFA ns) 0 = (0, 0, 0)) := Lib.hid rfl
  generalize poursNA ns = n at *
  generalize poursFA ns = fs at *
  go_wp2_with fail
  go_loopw [5, 22] (fun m i wr => ∃ k : Nat, k ≤ n ∧ i = .int .i64 k ∧ m = .int .i64 (mostUp ns fs k).1 ∧ Has wr w.heap.size ns 24 ∧ Has wr (w.heap.size + 1) [0, 0] 2 ∧ Has wr (w.heap.size + 1 + 1) [(mostUp ns fs k).2.1, (mostUp ns fs k).2.2] 2 ∧ Hid (Rw wr (w.heap.size + 3) (.slice a n cap) n fs) ∧ Hid (Kept w wr)) (fun _ i _ => n - (intOf i).toNat)
  case atStart => exact ⟨0, by omega, rfl, rfl, H, Z, Y, R0, HB⟩
  case round =>
    clear H Z Y R0 HB
    obtain ⟨k, hk, rfl, rfl, G1, GZ, GY, GR, GB⟩ := hrel
    have hm := MI.out k
    by_cases hlt : k < n
    · have ki : (k : Int) < ((n : Nat) : Int) := by omega
      have k0 : (0 : Int) ≤ (k : Int) := by omega
      obtain ⟨g, cap2, hv', _, _⟩ := GR.out.form (by omega)
      injection hv' with ha _ hcap
      subst ha
      subst hcap
      have hgl := GR.out.lt (by omega)
      have KY := Lib.hid (fun h => most_yes (ns := ns) (fs := fs) (k := k) h)
      have KN := Lib.hid (fun h => most_no (ns := ns) (fs := fs) (k := k) h)
      have r0 := GR.out.cell (k * 2) (by omega)
      have r1 := GR.out.cell (k * 2 + 1) (by omega)
      have hA := pourA_small ns (fs.getD (k * 2) 0) (fs.getD (k * 2 + 1) 0)
      have hl2 := pourR_len C24.out (fs.getD (k * 2) 0) (fs.getD (k * 2 + 1) 0)
      generalize fs.getD (k * 2) 0 = x at *
      generalize fs.getD (k * 2 + 1) 0 = y at *
      generalize hmm : mostUp ns fs k = mm at *
      obtain ⟨m0, fx, fy⟩ := mm
      clear hmm
      dsimp only at *
      have RG := Lib.hid (range_two r0 r1)
      have hP2 : ([x, y] : List Int).length = 2 := rfl
      have B8 := Has.box (ns := [x, y]) (n := 2) wr 44 rfl (by omega)
      have cc0 := B8.cell 0 (by omega)
      have cc1 := B8.cell 1 (by omega)
      rw [List.getD_cons_zero] at cc0
      rw [List.getD_cons_succ, List.getD_cons_zero] at cc1
      have l1 := G1.lt
      have l2 := GZ.lt
      have l3 := GY.lt
      have hbx : w.heap.size + 2 < wr.heap.size := by omega
      replace G1 := G1.alloc (.cells (ints [x, y]).toArray 44)
      replace GZ := GZ.alloc (.cells (ints [x, y]).toArray 44)
      replace GY := GY.alloc (.cells (ints [x, y]).toArray 44)
      replace GR := Lib.hid (GR.out.alloc (.cells (ints [x, y]).toArray 44))
      replace GB := Lib.hid (GB.out.alloc (.cells (ints [x, y]).toArray 44))
      have h24 := C24.out
      clear r0 r1
      go_wp2_with (first | (refine wpList_load_mid rfl 44 _ rfl g (k * 2) rfl (ints [x, y]) _ RG.out Try.underlying44 rfl (by kernel_rfl) ?_) | (refine store_new rfl 44 _ _ rfl _ _ _ rfl _ rfl _ rfl rfl ?_ ?_ ?_; (· (first | assumption | rfl)); (· kernel_rfl)) | (refine load_has rfl 27 _ rfl _ rfl ?_ 24 ?_ _ Try.underlying27 rfl ?_ ?_; rotate_left; (· (repeat (first | (with_reducible assumption) | ((with_reducible refine Has.box _ _ ?_ ?_) <;> (first | assumption | decide)) | (with_reducible refine Has.alloc ?_ _) | ((with_reducible refine Has.putOther ?_ _ _ ?_); rotate_left; omega; skip) | ((with_reducible refine Has.below ?_ ?_); rotate_left; assumption)))); (· kernel_rfl)))
      refine (implPour ns x y _ h24).mono ?_
      rintro e w2 ⟨rfl, b2⟩
      replace B8 := (B8.below b2).alloc (.cells (ints (pourR ns x y)).toArray 27)
      replace G1 := (G1.below b2).alloc (.cells (ints (pourR ns x y)).toArray 27)
      replace GZ := (GZ.below b2).alloc (.cells (ints (pourR ns x y)).toArray 27)
      replace GY := (GY.below b2).alloc (.cells (ints (pourR ns x y)).toArray 27)
      replace GR := Lib.hid ((GR.out.below b2).alloc (.cells (ints (pourR ns x y)).toArray 27))
      replace GB := Lib.hid ((GB.out.call b2).alloc (.cells (ints (pourR ns x y)).toArray 27))
      clear b2 cc0 cc1 RG h24
      generalize pourR ns x y = R at *
      generalize pourA ns x y = cn at *
      by_cases hgt : m0 < cn
      · have Z := Lib.hid (KY.out hgt)
        have hgt2 : decide (m0 < cn) = true := by simpa using hgt
        go_wp2_with (refine store_new rfl 27 _ _ rfl _ _ _ rfl _ rfl _ rfl rfl ?_ ?_ ?_; (· (first | assumption | rfl)); (· kernel_rfl))
        generalize w2.alloc (.cells (ints R).toArray 27) = W3 at *
        generalize wr.heap.size = b8 at *
        refine wp_region_held_drew (S := fun w' => Has w' b8 [x, y] 2 ∧ Kept w w') (by kernel_rfl) ?_ (fun hHeld => ?_)
        · exact ⟨B8.drew, GB.out.drewN 1⟩
        (refine wpAnyH_take (i := 0) (v := ?_) rfl (by kernel_rfl) (by kernel_rfl) (by kernel_rfl) (fun _ _ _ h => h) (Or.inl ⟨by rfl, ?_⟩) hHeld ?_; rotate_left; (· (intro w' hSw; go_simp; try with_reducible rfl)); (try simp only [List.getElem_toArray, List.getElem_cons_zero, List.getElem_cons_succ, Act.put, List.setIfInBounds_toArray, List.set_cons_zero, List.set_cons_succ])); (refine wpAnyH_take (i := 2) (v := ?_) rfl (by kernel_rfl) (by kernel_rfl) (by kernel_rfl) (fun _ _ _ h => h) (Or.inl ⟨by rfl, ?_⟩) hHeld ?_; rotate_left; (· (intro w' hSw; go_simp; try with_reducible rfl)); (try simp only [List.getElem_toArray, List.getElem_cons_zero, List.getElem_cons_succ, Act.put, List.setIfInBounds_toArray, List.set_cons_zero, List.set_cons_succ]))
        (refine wpAnyH_take (i := 1) (v := _) rfl (by kernel_rfl) (by kernel_rfl) (by kernel_rfl) (fun _ _ _ h => h) (yieldsIf_load_mid (by rfl) 44 _ rfl _ _ rfl (ints [x, y]) _ (fun w' hSw => hSw.1.holds.range) Try.underlying44 rfl (hip x y)) hHeld ?_; (try simp only [List.getElem_toArray, List.getElem_cons_zero, List.getElem_cons_succ, Act.put, List.setIfInBounds_toArray, List.set_cons_zero, List.set_cons_succ]))
        (refine wpAnyH_ready (rs := [3]) (by kernel_rfl) (by simp) ?_; refine AllReadyH.cons (o := _) rfl (fun K hK => ?_) AllReadyH.nil; (simp only [List.getElem_toArray, List.getElem_cons_zero, List.getElem_cons_succ, Region.wanted, if_true]))
        refine wp_store_mid _ _ _ rfl _ _ (ints [x, y]).toArray rfl rfl (GY.there) (by simpa using hip x y) (all_oneCell_toArray (ints_one _)) ?_
        (try simp only [List.getElem_toArray, List.getElem_cons_zero, List.getElem_cons_succ, Act.put, List.setIfInBounds_toArray, List.set_cons_zero, List.set_cons_succ, List.toList_toArray])
        refine hK.out _ _ ⟨hHeld.1.putOther (b' := (w.heap.size + 1 + 1)) 0 (ints [x, y]) (by omega), hHeld.2.puts (b := (w.heap.size + 1 + 1)) (by omega) 0 (ints [x, y])⟩ (fun hHeld => ?_)
        clear hK K
        refine wpAnyH_done (by kernel_rfl) ?_ _
        have M1 := (G1.drew).putOther (b' := w.heap.size + 1 + 1) 0 (ints [x, y]) (by omega)
        have M2 := (GZ.drew).putOther (b' := w.heap.size + 1 + 1) 0 (ints [x, y]) (by omega)
        have M3 := (GY.drew).putAll [x, y] rfl
        have M4 := Lib.hid ((GR.out.drew).puts (w.heap.size + 1 + 1) 0 (ints [x, y]) (fun _ e => by simp only [Value.ownBlock, Option.some.injEq] at e; omega))
        have M5 := Lib.hid hHeld.2
        clear hHeld G1 GZ GY GR GB
        go_wp2_with fail
        go_roundw
        case rel => exact ⟨k + 1, by omega, by go_num, by rw [Z.out], M1, M2, by rw [Z.out]; exact M3, M4, M5⟩
        case measure => simp [intOf]; omega
      · have Z := Lib.hid (KN.out (by omega))
        have hgt2 : decide (m0 < cn) = false := by simpa using hgt
        go_wp2_with (refine store_new rfl 27 _ _ rfl _ _ _ rfl _ rfl _ rfl rfl ?_ ?_ ?_; (· (first | assumption | rfl)); (· kernel_rfl))
        go_roundw
        case rel => exact ⟨k + 1, by omega, by go_num, by rw [Z.out], G1, GZ, by rw [Z.out]; exact GY, GR, GB⟩
        case measure => simp [intOf]; omega
    · obtain rfl : k = n := by omega
      generalize hmm : mostUp ns fs k = mm at *
      obtain ⟨m0, fx, fy⟩ := mm
      have E : Hid (mostA ns = (m0, fx, fy)) := Lib.hid (by rw [EF.out])
      clear hmm
      dsimp only at *
      go_wp2_with fail
      go_wp2_with fail
      refine wp_region_held_drew (S := fun w' => Has w' (w.heap.size + 1 + 1) [fx, fy] 2 ∧ Kept w w') (by kernel_rfl) ?_ (fun hHeld => ?_)
      · exact ⟨GY.drew, GB.out.drewN 1⟩
      (refine wpAnyH_take (i := 0) (v := ?_) rfl (by kernel_rfl) (by kernel_rfl) (by kernel_rfl) (fun _ _ _ h => h) (Or.inl ⟨by rfl, ?_⟩) hHeld ?_; rotate_left; (· (intro w' hSw; go_simp; try with_reducible rfl)); (try simp only [List.getElem_toArray, List.getElem_cons_zero, List.getElem_cons_succ, Act.put, List.setIfInBounds_toArray, List.set_cons_zero, List.set_cons_succ])); (refine wpAnyH_take (i := 2) (v := ?_) rfl (by kernel_rfl) (by kernel_rfl) (by kernel_rfl) (fun _ _ _ h => h) (Or.inl ⟨by rfl, ?_⟩) hHeld ?_; rotate_left; (· (intro w' hSw; go_simp; try with_reducible rfl)); (try simp only [List.getElem_toArray, List.getElem_cons_zero, List.getElem_cons_succ, Act.put, List.setIfInBounds_toArray, List.set_cons_zero, List.set_cons_succ])); (refine wpAnyH_take (i := 3) (v := ?_) rfl (by kernel_rfl) (by kernel_rfl) (by kernel_rfl) (fun _ _ _ h => h) (Or.inl ⟨by rfl, ?_⟩) hHeld ?_; rotate_left; (· (intro w' hSw; go_simp; try with_reducible rfl)); (try simp only [List.getElem_toArray, List.getElem_cons_zero, List.getElem_cons_succ, Act.put, List.setIfInBounds_toArray, List.set_cons_zero, List.set_cons_succ]))
      (refine wpAnyH_take (i := 1) (v := _) rfl (by kernel_rfl) (by kernel_rfl) (by kernel_rfl) (fun _ _ _ h => h) (yieldsIf_load_mid (by rfl) 44 _ rfl _ _ rfl (ints [fx, fy]) _ (fun w' hSw => hSw.1.holds.range) Try.underlying44 rfl (hip fx fy)) hHeld ?_; (try simp only [List.getElem_toArray, List.getElem_cons_zero, List.getElem_cons_succ, Act.put, List.setIfInBounds_toArray, List.set_cons_zero, List.set_cons_succ]))
      (refine wpAnyH_take (i := 4) (v := ?_) rfl (by kernel_rfl) (by kernel_rfl) (by kernel_rfl) (fun _ _ _ h => h) (Or.inl ⟨by rfl, ?_⟩) hHeld ?_; rotate_left; (· (intro w' hSw; go_simp; try with_reducible rfl)); (try simp only [List.getElem_toArray, List.getElem_cons_zero, List.getElem_cons_succ, Act.put, List.setIfInBounds_toArray, List.set_cons_zero, List.set_cons_succ]))
      (refine wpAnyH_ready (rs := [5]) (by kernel_rfl) (by simp) ?_; refine AllReadyH.cons (o := _) rfl (fun K hK => ?_) AllReadyH.nil; (simp only [List.getElem_toArray, List.getElem_cons_zero, List.getElem_cons_succ, Region.wanted, if_true]))
      refine wp_store_mid _ _ _ rfl _ _ (ints [fx, fy]).toArray rfl rfl (GZ.there) (by simpa using hip fx fy) (all_oneCell_toArray (ints_one _)) ?_
      (try simp only [List.getElem_toArray, List.getElem_cons_zero, List.getElem_cons_succ, Act.put, List.setIfInBounds_toArray, List.set_cons_zero, List.set_cons_succ, List.toList_toArray])
      refine hK.out _ _ ⟨hHeld.1.putOther (b' := (w.heap.size + 1)) 0 (ints [fx, fy]) (by omega), hHeld.2.puts (b := (w.heap.size + 1)) (by omega) 0 (ints [fx, fy])⟩ (fun hHeld => ?_)
      clear hK K
      (refine wpAnyH_take (i := 6) (v := ?_) rfl (by kernel_rfl) (by kernel_rfl) (by kernel_rfl) (fun _ _ _ h => h) (Or.inl ⟨by rfl, ?_⟩) hHeld ?_; rotate_left; (· (intro w' hSw; go_simp; try with_reducible rfl)); (try simp only [List.getElem_toArray, List.getElem_cons_zero, List.getElem_cons_succ, Act.put, List.setIfInBounds_toArray, List.set_cons_zero, List.set_cons_succ]))
      refine wpAnyH_done (by kernel_rfl) ?_ _
      have S1 := GZ.drew.putAll [fx, fy] rfl
      have GB2 := Lib.hid hHeld.2
      clear hHeld
      go_wp2_with fail
      exact bodyPost_ret (res_tct rfl _ _ (w.heap.size + 1) [fx, fy] 2 _ (.int .i64 m0) (.bool (decide (0 < m0))) rfl rfl rfl S1 Try.underlying44 rfl (by kernel_rfl)) rfl ⟨by rw [E.out], GB2.out⟩
end Go.Proofs.Ytmhkjakgdfadbab.base
