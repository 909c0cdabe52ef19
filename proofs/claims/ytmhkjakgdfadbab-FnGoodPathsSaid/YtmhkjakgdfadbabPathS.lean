/-
  Paths on the model's side, walked: what can be poured, and whether all pours are good.
-/
import Derived.Test.YtmhkjakgdfadbabPathMZ
import Derived.Test.YtmhkjakgdfadbabGoodS
namespace Go.Proofs.Ytmhkjakgdfadbab.base
open Go.ChangeShapes Go.WideShapes Go.ChangeAt Go.RowKit
set_option linter.unusedVariables false
set_option linter.unusedSimpArgs false

set_option maxHeartbeats 1600000 in
theorem l6Can_any (ns : List Int) (x y : Int) (w : World) (h24 : ns.length = 24) (hv : vR ns = true) :
    Calls Try.prog 34 #[row ns, .agg (ints [x, y]).toArray] w fun e w' => e = .returned (.bool (pourOk ns x y)) ∧ Kept w w' := by
  have HB := Lib.hid (((kept_refl w).alloc (.cells (ints ns).toArray 27)).alloc (.cells (ints [x, y]).toArray 44))
  have H := (Has.box w 27 h24 (by omega)).alloc (.cells (ints [x, y]).toArray 44)
  have B := (Has.box (ns := [x, y]) (n := 2) (w.alloc (.cells (ints ns).toArray 27)) 44 rfl (by omega)).at (size1 _ _)
  have cc0 := B.cell 0 (by omega)
  have cc1 := B.cell 1 (by omega)
  have E := Lib.hid (pourOk_iff hv x y)
  rw [List.getD_cons_zero] at cc0
  rw [List.getD_cons_succ, List.getD_cons_zero] at cc1
  rw [row_ints]
  go_enter Try.func34, Try.ntmps34
  go_wp2_with fail
  refine (l2Place_any x _).mono ?_
  rintro e w' ⟨rfl, rfl⟩
  by_cases hx : 0 ≤ x ∧ x < 6
  · rw [decide_eq_true hx]
    have HX := Lib.hid hx
    clear hx
    go_wp2_with fail
    refine (l2Place_any y _).mono ?_
    rintro e w' ⟨rfl, rfl⟩
    by_cases hy : 0 ≤ y ∧ y < 6
    · rw [decide_eq_true hy]
      have HY := Lib.hid hy
      clear hy
      obtain ⟨p, rfl⟩ : ∃ p : Nat, x = (p : Int) := ⟨x.toNat, by have := HX.out; omega⟩
      obtain ⟨q, rfl⟩ : ∃ q : Nat, y = (q : Int) := ⟨y.toNat, by have := HY.out; omega⟩
      have hp : p < 6 := by have := HX.out; omega
      have hq : q < 6 := by have := HY.out; omega
      have E2 : Hid (pourOk ns (p : Int) (q : Int) = decide (p ≠ q ∧ 0 < canN (tub ns p) (tub ns q))) := Lib.hid (by
        rw [E.out, decide_eq_true HX.out, decide_eq_true HY.out, Int.toNat_natCast, Int.toNat_natCast, Bool.true_and, Bool.true_and, decide_eq_decide]
        constructor
        · rintro ⟨h1, h2⟩; exact ⟨fun e => h1 (by rw [e]), h2⟩
        · rintro ⟨h1, h2⟩; exact ⟨fun e => h1 (by omega), h2⟩)
      go_wp2_with (refine load_has rfl 27 _ rfl _ rfl ?_ 24 ?_ _ Try.underlying27 rfl ?_ ?_; rotate_left; (· (repeat (first | (with_reducible assumption) | ((with_reducible refine Has.box _ _ ?_ ?_) <;> (first | assumption | decide)) | (with_reducible refine Has.alloc ?_ _) | ((with_reducible refine Has.putOther ?_ _ _ ?_); rotate_left; omega; skip) | ((with_reducible refine Has.below ?_ ?_); rotate_left; assumption)))); (· kernel_rfl))
      refine (l2Can_any ns p q _ h24 hv hp hq).mono ?_
      rintro e w1 ⟨rfl, b1⟩
      have HB1 := Lib.hid (HB.out.call b1)
      clear b1
      rw [← E2.out]
      go_wp2_with fail
      go_ret
      exact ⟨rfl, HB1.out⟩
    · rw [decide_eq_false hy]
      have E2 : Hid (pourOk ns x y = false) := Lib.hid (by rw [E.out, decide_eq_false hy, Bool.and_false]; rfl)
      clear hy
      go_wp2_with fail
      go_ret
      exact ⟨ret_bool E2.out.symm, HB.out⟩
  · rw [decide_eq_false hx]
    have E2 : Hid (pourOk ns x y = false) := Lib.hid (by rw [E.out, decide_eq_false hx]; rfl)
    clear hx
    go_wp2_with fail
    go_ret
    exact ⟨ret_bool E2.out.symm, HB.out⟩

set_option maxHeartbeats 3200000 in
set_option maxRecDepth 100000 in
theorem specIsGood (ns fs : List Int) (v : Value) (n b : Nat) (w : World) (h24 : ns.length = 24) (hn : n ≤ 1048576) (h : Rw w b v n fs) :
    Calls Try.prog 14 #[row ns, v] w fun e w' => e = .returned (.tuple #[.bool (pathA ns fs n), .bool (pathOk ns n)]) ∧ Kept w w' := by
  have HB := Lib.hid ((kept_refl w).alloc (.cells (ints ns).toArray 27))
  have H := Has.box w 27 h24 (by omega)
  have HR0 := Lib.hid (h.alloc (.cells (ints ns).toArray 27))
  have AP := Lib.hid (fun hn0 k hk => (h.ownlt hn0 k hk).2)
  obtain ⟨a, cap, rfl⟩ := h.shape
  have hi0 : (Try.prog.info? 27).map (·.size) = some 24 := by kernel_rfl
  have hip : ∀ x y : Int, (Try.prog.info? 44).map (·.size) = some (ints [x, y]).length := fun x y => by kernel_rfl
  clear h
  rw [row_ints]
  go_enter Try.func14, Try.ntmps14
  go_wp2_with (refine load_has rfl 27 _ rfl _ rfl ?_ 24 ?_ _ Try.underlying27 rfl ?_ ?_; rotate_left; (· (repeat (first | (with_reducible assumption) | ((with_reducible refine Has.box _ _ ?_ ?_) <;> (first | assumption | decide)) | (with_reducible refine Has.alloc ?_ _) | ((with_reducible refine Has.putOther ?_ _ _ ?_); rotate_left; omega; skip) | ((with_reducible refine Has.below ?_ ?_); rotate_left; assumption)))); (· kernel_rfl))
  refine (l2Rack_any ns _ h24).mono ?_
  rintro e w1 ⟨rfl, b1⟩
  replace H := H.below b1
  replace HB := Lib.hid (HB.out.call b1)
  replace HR0 := Lib.hid (HR0.out.below b1)
  clear b1
  by_cases hv : vR ns = true
  rotate_left
  · have hf : vR ns = false := by simpa using hv
    have E : Hid (pathOk ns n = false) := Lib.hid (by unfold pathOk; rw [hf]; rfl)
    have E2 : Hid (pathA ns fs n = false) := Lib.hid (by unfold pathA; rw [E.out]; rfl)
    rw [hf]
    clear hf hv
    go_wp2_with fail
    go_ret2
    exact ⟨by rw [E.out, E2.out]; rfl, HB.out⟩
  rw [hv]
  have HV := Lib.hid hv
  clear hv
  by_cases hn60 : n ≤ 60
  rotate_left
  · have E : Hid (pathOk ns n = false) := Lib.hid (by unfold pathOk; rw [decide_eq_false hn60, Bool.and_false])
    have E2 : Hid (pathA ns fs n = false) := Lib.hid (by unfold pathA; rw [E.out]; rfl)
    have hni : (60 : Int) < (n : Int) := by omega
    clear hn60
    go_wp2_with fail
    go_ret2
    exact ⟨by rw [E.out, E2.out]; rfl, HB.out⟩
  have E : Hid (pathOk ns n = true) := Lib.hid (by unfold pathOk; rw [HV.out, decide_eq_true hn60]; rfl)
  have E2 : Hid (pathA ns fs n = pathUp ns fs n) := Lib.hid (by unfold pathA; rw [E.out]; rfl)
  have hni : (n : Int) ≤ 60 := by omega
  have hnf : decide ((60 : Int) < (n : Int)) = false := by simp; omega
  have H24 := Lib.hid h24
  have V0 : Hid (vR (doR ns fs 0) = true) := HV
  have U0 : Hid (pathUp ns fs 0 = true) := Lib.hid rfl
  clear hn h24 hn60
  go_wp2_with fail
  clear hnf
  go_loopw [6] (fun i wr => ∃ k : Nat, k ≤ n ∧ i = .int .i64 k ∧ Has wr w.heap.size (doR ns fs k) 24 ∧ Hid (Rw wr b (.slice a n cap) n fs) ∧ Hid (Kept w wr) ∧ Hid (vR (doR ns fs k) = true) ∧ Hid (pathUp ns fs k = true)) (fun i _ => n - (intOf i).toNat)
  case atStart => exact ⟨0, by omega, rfl, H, HR0, HB, V0, U0⟩
  case round =>
    clear H HR0 HB V0 U0
    obtain ⟨k, hk, rfl, G1, GR, GB, CV, GU⟩ := hrel
    by_cases hlt : k < n
    · have hgw := AP.out (by omega)
      have ki : (k : Int) < ((n : Nat) : Int) := by omega
      have k0 : (0 : Int) ≤ (k : Int) := by omega
      obtain ⟨g, cap2, hv', _, _⟩ := GR.out.form (by omega)
      injection hv' with ha _ hcap
      subst ha
      subst hcap
      have hlt := GR.out.lt (by omega)
      have C0 : Hid (∀ w', Kept wr w' → w'.cell? ⟨g, k * 2, none⟩ = some (.int .i64 (fs.getD (k * 2) 0))) := Lib.hid (fun w' hw => (GR.out.below hw).cell (k * 2) (by omega))
      have C1 : Hid (∀ w', Kept wr w' → w'.cell? ⟨g, k * 2 + 1, none⟩ = some (.int .i64 (fs.getD (k * 2 + 1) 0))) := Lib.hid (fun w' hw => (GR.out.below hw).cell (k * 2 + 1) (by omega))
      have C24 := Lib.hid (doR_len H24.out fs k)
      have ER := Lib.hid (doR_next (ns := ns) (fs := fs) k)
      have EU : Hid (pathUp ns fs (k + 1) = (pathUp ns fs k && goodP (doR ns fs k) (fs.getD (k * 2) 0) (fs.getD (k * 2 + 1) 0))) := Lib.hid rfl
      have NO := Lib.hid (fun h => path_no (ns := ns) (fs := fs) (k := k + 1) h n (by omega))
      rw [GU.out, Bool.true_and] at EU
      generalize fs.getD (k * 2) 0 = x at *
      generalize fs.getD (k * 2 + 1) 0 = y at *
      generalize doR ns fs k = C at *
      have RG : Hid (∀ w', Kept wr w' → w'.rangeAt g (k * 2) (ints [x, y])) := Lib.hid (fun w' hw => range_two (C0.out w' hw) (C1.out w' hw))
      have hi2 := hip x y
      have hi1 : (Try.prog.info? 27).map (·.size) = some (ints C).length := by rw [ints_len, C24.out]; exact hi0
      have hgb := hgw g rfl
      go_wp2_with fail
      refine wp_region_held_drew (S := fun w' => Kept wr w') (by kernel_rfl) ?_ (fun hHeld => ?_)
      · exact (kept_refl wr).drewN 1
      (refine wpAnyH_take (i := 1) (v := ?_) rfl (by kernel_rfl) (by kernel_rfl) (by kernel_rfl) (fun _ _ _ h => h) (Or.inl ⟨by rfl, ?_⟩) hHeld ?_; rotate_left; (· (intro w' hSw; go_simp; try with_reducible rfl)); (try simp only [List.getElem_toArray, List.getElem_cons_zero, List.getElem_cons_succ, Act.put, List.setIfInBounds_toArray, List.set_cons_zero, List.set_cons_succ])); (refine wpAnyH_take (i := 2) (v := ?_) rfl (by kernel_rfl) (by kernel_rfl) (by kernel_rfl) (fun _ _ _ h => h) (Or.inl ⟨by rfl, ?_⟩) hHeld ?_; rotate_left; (· (intro w' hSw; go_simp; try with_reducible rfl)); (try simp only [List.getElem_toArray, List.getElem_cons_zero, List.getElem_cons_succ, Act.put, List.setIfInBounds_toArray, List.set_cons_zero, List.set_cons_succ])); (refine wpAnyH_take (i := 3) (v := ?_) rfl (by kernel_rfl) (by kernel_rfl) (by kernel_rfl) (fun _ _ _ h => h) (Or.inl ⟨by rfl, ?_⟩) hHeld ?_; rotate_left; (· (intro w' hSw; go_simp; try with_reducible rfl)); (try simp only [List.getElem_toArray, List.getElem_cons_zero, List.getElem_cons_succ, Act.put, List.setIfInBounds_toArray, List.set_cons_zero, List.set_cons_succ]))
      (refine wpAnyH_take (i := 0) (v := _) rfl (by kernel_rfl) (by kernel_rfl) (by kernel_rfl) (fun _ _ _ h => h) (yieldsIf_load_mid (by rfl) 27 _ rfl _ _ rfl (ints C) _ (fun w' hSw => (G1.below hSw).holds.range) Try.underlying27 rfl (hi1)) hHeld ?_; (try simp only [List.getElem_toArray, List.getElem_cons_zero, List.getElem_cons_succ, Act.put, List.setIfInBounds_toArray, List.set_cons_zero, List.set_cons_succ]))
      (refine wpAnyH_take (i := 4) (v := _) rfl (by kernel_rfl) (by kernel_rfl) (by kernel_rfl) (fun _ _ _ h => h) (yieldsIf_load_mid (by rfl) 44 _ rfl _ _ rfl (ints [x, y]) _ (fun w' hSw => RG.out w' hSw) Try.underlying44 rfl (hi2)) hHeld ?_; (try simp only [List.getElem_toArray, List.getElem_cons_zero, List.getElem_cons_succ, Act.put, List.setIfInBounds_toArray, List.set_cons_zero, List.set_cons_succ]))
      (refine wpAnyH_ready (rs := [5]) (by kernel_rfl) (by simp) ?_; refine AllReadyH.cons (o := _) rfl (fun K hK => ?_) AllReadyH.nil; (simp only [List.getElem_toArray, List.getElem_cons_zero, List.getElem_cons_succ, Region.wanted, if_true]))
      go_simp
      refine (l6Can_any C x y _ C24.out CV.out).mono ?_
      rintro e wc ⟨rfl, bc⟩
      dsimp only
      (try simp only [List.getElem_toArray, List.getElem_cons_zero, List.getElem_cons_succ, Act.put, List.setIfInBounds_toArray, List.set_cons_zero, List.set_cons_succ])
      have KC := Kept.call hHeld bc
      refine hK.out _ _ KC (fun hHeld => ?_)
      clear hK K bc
      (refine wpAnyH_take (i := 6) (v := ?_) rfl (by kernel_rfl) (by kernel_rfl) (by kernel_rfl) (fun _ _ _ h => h) (Or.inl ⟨by rfl, ?_⟩) hHeld ?_; rotate_left; (· (intro w' hSw; go_simp; try with_reducible rfl)); (try simp only [List.getElem_toArray, List.getElem_cons_zero, List.getElem_cons_succ, Act.put, List.setIfInBounds_toArray, List.set_cons_zero, List.set_cons_succ]))
      refine wpAnyH_done (by kernel_rfl) ?_ _
      clear hHeld
      by_cases hp : pourOk C x y = true
      · have PV := (pour_facts C24.out hp).valid
        have GP := good_of hp
        obtain ⟨p, q, rfl, rfl, p6, q6, hne, hc⟩ := pourOk_parts hp
        rw [hp]
        rw [pourR_T hp] at PV GP ER
        have R24 := pourR_len C24.out (p : Int) (q : Int)
        rw [pourR_T hp] at R24
        have RV := Lib.hid PV
        have GPH := Lib.hid GP
        have HNE := Lib.hid hne
        have HC := Lib.hid hc
        clear hp PV GP hne hc
        generalize hR : pourT C p q = R at *
        have HR := Lib.hid hR
        clear hR
        have HR24 := Lib.hid R24
        have l2 : (ints R).length = 24 := by rw [ints_len]; exact R24
        have hiR : (Try.prog.info? 27).map (·.size) = some (ints R).length := by rw [l2]; exact hi0
        have D0 : Hid (∀ w', Kept wc w' → w'.cell? ⟨g, k * 2, none⟩ = some (.int .i64 (p : Int))) := Lib.hid (fun w' hw => C0.out w' (KC.call hw))
        have D1 : Hid (∀ w', Kept wc w' → w'.cell? ⟨g, k * 2 + 1, none⟩ = some (.int .i64 (q : Int))) := Lib.hid (fun w' hw => C1.out w' (KC.call hw))
        replace G1 := G1.below KC
        replace GR := Lib.hid (GR.out.below KC)
        replace GB := Lib.hid (GB.out.call KC)
        clear KC C0 C1 RG
        go_wp2_with fail
        refine wp_region_held_drew (S := fun w' => Kept wc w') (by kernel_rfl) ?_ (fun hHeld => ?_)
        · exact (kept_refl wc).drewN 1
        (refine wpAnyH_take (i := 1) (v := ?_) rfl (by kernel_rfl) (by kernel_rfl) (by kernel_rfl) (fun _ _ _ h => h) (Or.inl ⟨by rfl, ?_⟩) hHeld ?_; rotate_left; (· (intro w' hSw; go_simp; try with_reducible rfl)); (try simp only [List.getElem_toArray, List.getElem_cons_zero, List.getElem_cons_succ, Act.put, List.setIfInBounds_toArray, List.set_cons_zero, List.set_cons_succ])); (refine wpAnyH_take (i := 2) (v := ?_) rfl (by kernel_rfl) (by kernel_rfl) (by kernel_rfl) (fun _ _ _ h => h) (Or.inl ⟨by rfl, ?_⟩) hHeld ?_; rotate_left; (· (intro w' hSw; go_simp; try with_reducible rfl)); (try simp only [List.getElem_toArray, List.getElem_cons_zero, List.getElem_cons_succ, Act.put, List.setIfInBounds_toArray, List.set_cons_zero, List.set_cons_succ])); (refine wpAnyH_take (i := 3) (v := ?_) rfl (by kernel_rfl) (by kernel_rfl) (by kernel_rfl) (fun _ _ _ h => h) (Or.inl ⟨by rfl, ?_⟩) hHeld ?_; rotate_left; (· (intro w' hSw; go_simp; try with_reducible rfl)); (try simp only [List.getElem_toArray, List.getElem_cons_zero, List.getElem_cons_succ, Act.put, List.setIfInBounds_toArray, List.set_cons_zero, List.set_cons_succ])); (refine wpAnyH_take (i := 4) (v := ?_) rfl (by kernel_rfl) (by kernel_rfl) (by kernel_rfl) (fun _ _ _ h => h) (Or.inl ⟨by rfl, ?_⟩) hHeld ?_; rotate_left; (· (intro w' hSw; go_simp; try with_reducible rfl)); (try simp only [List.getElem_toArray, List.getElem_cons_zero, List.getElem_cons_succ, Act.put, List.setIfInBounds_toArray, List.set_cons_zero, List.set_cons_succ])); (refine wpAnyH_take (i := 6) (v := ?_) rfl (by kernel_rfl) (by kernel_rfl) (by kernel_rfl) (fun _ _ _ h => h) (Or.inl ⟨by rfl, ?_⟩) hHeld ?_; rotate_left; (· (intro w' hSw; go_simp; try with_reducible rfl)); (try simp only [List.getElem_toArray, List.getElem_cons_zero, List.getElem_cons_succ, Act.put, List.setIfInBounds_toArray, List.set_cons_zero, List.set_cons_succ])); (refine wpAnyH_take (i := 7) (v := ?_) rfl (by kernel_rfl) (by kernel_rfl) (by kernel_rfl) (fun _ _ _ h => h) (Or.inl ⟨by rfl, ?_⟩) hHeld ?_; rotate_left; (· (intro w' hSw; go_simp; try with_reducible rfl)); (try simp only [List.getElem_toArray, List.getElem_cons_zero, List.getElem_cons_succ, Act.put, List.setIfInBounds_toArray, List.set_cons_zero, List.set_cons_succ])); (refine wpAnyH_take (i := 8) (v := ?_) rfl (by kernel_rfl) (by kernel_rfl) (by kernel_rfl) (fun _ _ _ h => h) (Or.inl ⟨by rfl, ?_⟩) hHeld ?_; rotate_left; (· (intro w' hSw; go_simp; try with_reducible rfl)); (try simp only [List.getElem_toArray, List.getElem_cons_zero, List.getElem_cons_succ, Act.put, List.setIfInBounds_toArray, List.set_cons_zero, List.set_cons_succ])); (refine wpAnyH_take (i := 9) (v := ?_) rfl (by kernel_rfl) (by kernel_rfl) (by kernel_rfl) (fun _ _ _ h => h) (Or.inl ⟨by rfl, ?_⟩) hHeld ?_; rotate_left; (· (intro w' hSw; go_simp; try with_reducible rfl)); (try simp only [List.getElem_toArray, List.getElem_cons_zero, List.getElem_cons_succ, Act.put, List.setIfInBounds_toArray, List.set_cons_zero, List.set_cons_succ]))
        (refine wpAnyH_take (i := 0) (v := _) rfl (by kernel_rfl) (by kernel_rfl) (by kernel_rfl) (fun _ _ _ h => h) (yieldsIf_load_mid (by rfl) 27 _ rfl _ _ rfl (ints C) _ (fun w' hSw => (G1.below hSw).holds.range) Try.underlying27 rfl (hi1)) hHeld ?_; (try simp only [List.getElem_toArray, List.getElem_cons_zero, List.getElem_cons_succ, Act.put, List.setIfInBounds_toArray, List.set_cons_zero, List.set_cons_succ]))
        refine wpAnyH_take (i := 5) (v := .int .i64 (p : Int)) rfl (by kernel_rfl) (by kernel_rfl) (by kernel_rfl) (fun _ _ _ h => h) (Or.inl ⟨by rfl, ?_⟩) hHeld ?_
        · intro w' hSw
          have cc := D0.out w' hSw
          go_simp
        (try simp only [List.getElem_toArray, List.getElem_cons_zero, List.getElem_cons_succ, Act.put, List.setIfInBounds_toArray, List.set_cons_zero, List.set_cons_succ])
        refine wpAnyH_take (i := 10) (v := .int .i64 (q : Int)) rfl (by kernel_rfl) (by kernel_rfl) (by kernel_rfl) (fun _ _ _ h => h) (Or.inl ⟨by rfl, ?_⟩) hHeld ?_
        · intro w' hSw
          have cc := D1.out w' hSw
          go_simp
        (try simp only [List.getElem_toArray, List.getElem_cons_zero, List.getElem_cons_succ, Act.put, List.setIfInBounds_toArray, List.set_cons_zero, List.set_cons_succ])
        refine wpAnyH_ready (rs := [11, 15]) (by kernel_rfl) (by simp) ?_
        refine AllReadyH.cons (o := _) rfl (fun K hK => ?callFirst) (AllReadyH.cons (o := _) rfl (fun K hK => ?makeFirst) AllReadyH.nil)
        case' callFirst =>
          (simp only [List.getElem_toArray, List.getElem_cons_zero, List.getElem_cons_succ, Region.wanted, if_true])
          go_simp
          refine (l2Pour_any C p q _ C24.out CV.out p6 q6 HNE.out HC.out).mono ?_
          rintro e wp2 ⟨rfl, bp2⟩
          rw [HR.out]
          dsimp only
          (try simp only [List.getElem_toArray, List.getElem_cons_zero, List.getElem_cons_succ, Act.put, List.setIfInBounds_toArray, List.set_cons_zero, List.set_cons_succ])
          have KW := Kept.call hHeld bp2
          refine hK.out _ _ KW (fun hHeld => ?_)
          clear hK K bp2
          (refine wpAnyH_take (i := 12) (v := ?_) rfl (by kernel_rfl) (by kernel_rfl) (by kernel_rfl) (fun _ _ _ h => h) (Or.inl ⟨by rfl, ?_⟩) hHeld ?_; rotate_left; (· (intro w' hSw; go_simp; try with_reducible rfl)); (try simp only [List.getElem_toArray, List.getElem_cons_zero, List.getElem_cons_succ, Act.put, List.setIfInBounds_toArray, List.set_cons_zero, List.set_cons_succ])); (refine wpAnyH_take (i := 13) (v := ?_) rfl (by kernel_rfl) (by kernel_rfl) (by kernel_rfl) (fun _ _ _ h => h) (Or.inl ⟨by rfl, ?_⟩) hHeld ?_; rotate_left; (· (intro w' hSw; go_simp; try with_reducible rfl)); (try simp only [List.getElem_toArray, List.getElem_cons_zero, List.getElem_cons_succ, Act.put, List.setIfInBounds_toArray, List.set_cons_zero, List.set_cons_succ])); (refine wpAnyH_take (i := 14) (v := ?_) rfl (by kernel_rfl) (by kernel_rfl) (by kernel_rfl) (fun _ _ _ h => h) (Or.inl ⟨by rfl, ?_⟩) hHeld ?_; rotate_left; (· (intro w' hSw; go_simp; try with_reducible rfl)); (try simp only [List.getElem_toArray, List.getElem_cons_zero, List.getElem_cons_succ, Act.put, List.setIfInBounds_toArray, List.set_cons_zero, List.set_cons_succ]))
          (refine wpAnyH_ready (rs := [15]) (by kernel_rfl) (by simp) ?_; refine AllReadyH.cons (o := _) rfl (fun K hK => ?_) AllReadyH.nil; (simp only [List.getElem_toArray, List.getElem_cons_zero, List.getElem_cons_succ, Region.wanted, if_true]))
          go_simp
          have F9 := Has.zero24 wp2 27
          have h9 := KW.size
          replace KW := KW.alloc (.cells #[.int .i64 0, .int .i64 0, .int .i64 0, .int .i64 0, .int .i64 0, .int .i64 0, .int .i64 0, .int .i64 0, .int .i64 0, .int .i64 0, .int .i64 0, .int .i64 0, .int .i64 0, .int .i64 0, .int .i64 0, .int .i64 0, .int .i64 0, .int .i64 0, .int .i64 0, .int .i64 0, .int .i64 0, .int .i64 0, .int .i64 0, .int .i64 0] 27)
          refine hK.out _ _ KW (fun hHeld => ?_)
          clear hK K
          generalize wp2.alloc (.cells #[.int .i64 0, .int .i64 0, .int .i64 0, .int .i64 0, .int .i64 0, .int .i64 0, .int .i64 0, .int .i64 0, .int .i64 0, .int .i64 0, .int .i64 0, .int .i64 0, .int .i64 0, .int .i64 0, .int .i64 0, .int .i64 0, .int .i64 0, .int .i64 0, .int .i64 0, .int .i64 0, .int .i64 0, .int .i64 0, .int .i64 0, .int .i64 0] 27) = wp3 at *
          generalize wp2.heap.size = b9 at *
        case' makeFirst =>
          (simp only [List.getElem_toArray, List.getElem_cons_zero, List.getElem_cons_succ, Region.wanted, if_true])
          go_simp
          have F9 : Has _ wc.heap.size z24 24 := Has.zero24 wc.drew 27
          have KW := Kept.alloc hHeld (.cells #[.int .i64 0, .int .i64 0, .int .i64 0, .int .i64 0, .int .i64 0, .int .i64 0, .int .i64 0, .int .i64 0, .int .i64 0, .int .i64 0, .int .i64 0, .int .i64 0, .int .i64 0, .int .i64 0, .int .i64 0, .int .i64 0, .int .i64 0, .int .i64 0, .int .i64 0, .int .i64 0, .int .i64 0, .int .i64 0, .int .i64 0, .int .i64 0] 27)
          obtain ⟨b9, hb9⟩ : ∃ b : Nat, b = wc.heap.size := ⟨_, rfl⟩
          have h9 : wc.heap.size ≤ b9 := by omega
          rw [← hb9] at F9
          refine hK.out _ _ KW (fun hHeld => ?_)
          clear hK K
          (refine wpAnyH_ready (rs := [11]) (by kernel_rfl) (by simp) ?_; refine AllReadyH.cons (o := _) rfl (fun K hK => ?_) AllReadyH.nil; (simp only [List.getElem_toArray, List.getElem_cons_zero, List.getElem_cons_succ, Region.wanted, if_true]))
          go_simp
          refine (l2Pour_any C p q _ C24.out CV.out p6 q6 HNE.out HC.out).mono ?_
          rintro e wp3 ⟨rfl, bp2⟩
          rw [HR.out]
          dsimp only
          (try simp only [List.getElem_toArray, List.getElem_cons_zero, List.getElem_cons_succ, Act.put, List.setIfInBounds_toArray, List.set_cons_zero, List.set_cons_succ])
          replace F9 := F9.below bp2
          replace KW := KW.call bp2
          refine hK.out _ _ KW (fun hHeld => ?_)
          clear hK K bp2
          (refine wpAnyH_take (i := 12) (v := ?_) rfl (by kernel_rfl) (by kernel_rfl) (by kernel_rfl) (fun _ _ _ h => h) (Or.inl ⟨by rfl, ?_⟩) hHeld ?_; rotate_left; (· (intro w' hSw; go_simp; try with_reducible rfl)); (try simp only [List.getElem_toArray, List.getElem_cons_zero, List.getElem_cons_succ, Act.put, List.setIfInBounds_toArray, List.set_cons_zero, List.set_cons_succ])); (refine wpAnyH_take (i := 13) (v := ?_) rfl (by kernel_rfl) (by kernel_rfl) (by kernel_rfl) (fun _ _ _ h => h) (Or.inl ⟨by rfl, ?_⟩) hHeld ?_; rotate_left; (· (intro w' hSw; go_simp; try with_reducible rfl)); (try simp only [List.getElem_toArray, List.getElem_cons_zero, List.getElem_cons_succ, Act.put, List.setIfInBounds_toArray, List.set_cons_zero, List.set_cons_succ])); (refine wpAnyH_take (i := 14) (v := ?_) rfl (by kernel_rfl) (by kernel_rfl) (by kernel_rfl) (fun _ _ _ h => h) (Or.inl ⟨by rfl, ?_⟩) hHeld ?_; rotate_left; (· (intro w' hSw; go_simp; try with_reducible rfl)); (try simp only [List.getElem_toArray, List.getElem_cons_zero, List.getElem_cons_succ, Act.put, List.setIfInBounds_toArray, List.set_cons_zero, List.set_cons_succ]))
          rw [← hb9]
          clear hb9
        all_goals
          (refine wpAnyH_ready (rs := [16]) (by kernel_rfl) (by simp) ?_; refine AllReadyH.cons (o := _) rfl (fun K hK => ?_) AllReadyH.nil; (simp only [List.getElem_toArray, List.getElem_cons_zero, List.getElem_cons_succ, Region.wanted, if_true]))
          refine wp_store_mid _ _ _ rfl _ _ (ints R).toArray rfl rfl (by simpa [l2] using F9.there) (by simpa [l2] using hi0) (all_oneCell_toArray (ints_one _)) ?_
          (try simp only [List.getElem_toArray, List.getElem_cons_zero, List.getElem_cons_succ, Act.put, List.setIfInBounds_toArray, List.set_cons_zero, List.set_cons_succ, List.toList_toArray])
          replace F9 := F9.putAll R R24
          replace KW := KW.puts (b := b9) h9 0 (ints R)
          refine hK.out _ _ KW (fun hHeld => ?_)
          clear hK K
          (refine wpAnyH_take (i := 17) (v := ?_) rfl (by kernel_rfl) (by kernel_rfl) (by kernel_rfl) (fun _ _ _ h => h) (Or.inl ⟨by rfl, ?_⟩) hHeld ?_; rotate_left; (· (intro w' hSw; go_simp; try with_reducible rfl)); (try simp only [List.getElem_toArray, List.getElem_cons_zero, List.getElem_cons_succ, Act.put, List.setIfInBounds_toArray, List.set_cons_zero, List.set_cons_succ]))
          refine wpAnyH_done (by kernel_rfl) ?_ _
          clear hHeld
          generalize wp3.setCells b9 0 (ints R) = wp4 at *
          replace G1 := G1.below KW
          replace GR := Lib.hid (GR.out.below KW)
          replace GB := Lib.hid (GB.out.call KW)
          clear KW D0 D1
          go_wp2_with fail
          refine wp_region_held_drew (S := fun w' => Kept wp4 w') (by kernel_rfl) ?_ (fun hHeld => ?_)
          · exact (kept_refl wp4).drewN 1
          (refine wpAnyH_take (i := 0) (v := _) rfl (by kernel_rfl) (by kernel_rfl) (by kernel_rfl) (fun _ _ _ h => h) (yieldsIf_load_mid (by rfl) 27 _ rfl _ _ rfl (ints R) _ (fun w' hSw => (F9.below hSw).holds.range) Try.underlying27 rfl (hiR)) hHeld ?_; (try simp only [List.getElem_toArray, List.getElem_cons_zero, List.getElem_cons_succ, Act.put, List.setIfInBounds_toArray, List.set_cons_zero, List.set_cons_succ]))
          (refine wpAnyH_take (i := 2) (v := _) rfl (by kernel_rfl) (by kernel_rfl) (by kernel_rfl) (fun _ _ _ h => h) (yieldsIf_load_mid (by rfl) 27 _ rfl _ _ rfl (ints C) _ (fun w' hSw => (G1.below hSw).holds.range) Try.underlying27 rfl (hi1)) hHeld ?_; (try simp only [List.getElem_toArray, List.getElem_cons_zero, List.getElem_cons_succ, Act.put, List.setIfInBounds_toArray, List.set_cons_zero, List.set_cons_succ]))
          (refine wpAnyH_ready (rs := [1]) (by kernel_rfl) (by simp) ?_; refine AllReadyH.cons (o := _) rfl (fun K hK => ?_) AllReadyH.nil; (simp only [List.getElem_toArray, List.getElem_cons_zero, List.getElem_cons_succ, Region.wanted, if_true]))
          go_simp
          refine (l6Bound_A R _ HR24.out RV.out).mono ?_
          rintro e wq6 ⟨rfl, bq6⟩
          dsimp only
          (try simp only [List.getElem_toArray, List.getElem_cons_zero, List.getElem_cons_succ, Act.put, List.setIfInBounds_toArray, List.set_cons_zero, List.set_cons_succ])
          have KX := Kept.call hHeld bq6
          refine hK.out _ _ KX (fun hHeld => ?_)
          clear hK K bq6
          (refine wpAnyH_ready (rs := [3]) (by kernel_rfl) (by simp) ?_; refine AllReadyH.cons (o := _) rfl (fun K hK => ?_) AllReadyH.nil; (simp only [List.getElem_toArray, List.getElem_cons_zero, List.getElem_cons_succ, Region.wanted, if_true]))
          go_simp
          refine (l6Bound_A C _ C24.out CV.out).mono ?_
          rintro e wq7 ⟨rfl, bq7⟩
          dsimp only
          (try simp only [List.getElem_toArray, List.getElem_cons_zero, List.getElem_cons_succ, Act.put, List.setIfInBounds_toArray, List.set_cons_zero, List.set_cons_succ])
          replace KX := KX.call bq7
          refine hK.out _ _ KX (fun hHeld => ?_)
          clear hK K bq7
          (refine wpAnyH_take (i := 4) (v := ?_) rfl (by kernel_rfl) (by kernel_rfl) (by kernel_rfl) (fun _ _ _ h => h) (Or.inl ⟨by rfl, ?_⟩) hHeld ?_; rotate_left; (· (intro w' hSw; go_simp; try with_reducible rfl)); (try simp only [List.getElem_toArray, List.getElem_cons_zero, List.getElem_cons_succ, Act.put, List.setIfInBounds_toArray, List.set_cons_zero, List.set_cons_succ]))
          refine wpAnyH_done (by kernel_rfl) ?_ _
          clear hHeld
          have lG := (G1.below KX).lt
          have N9 := F9.below KX
          replace G1 := G1.below KX
          replace GR := Lib.hid (GR.out.below KX)
          replace GB := Lib.hid (GB.out.call KX)
          clear KX F9
          by_cases hge : bndA C ≤ bndA R
          · have Z : Hid (pathUp ns fs n = false) := Lib.hid (NO.out (by rw [EU.out, GPH.out, decide_eq_false (by omega)]))
            rw [decide_eq_true hge]
            clear hge
            go_wp2_with fail
            go_ret2
            exact ⟨by rw [E2.out, Z.out, E.out]; rfl, GB.out⟩
          · have Z : Hid (pathUp ns fs (k + 1) = true) := Lib.hid (by rw [EU.out, GPH.out, decide_eq_true (by omega)])
            have V2 : Hid (vR (doR ns fs (k + 1)) = true) := Lib.hid (by rw [ER.out]; exact RV.out)
            have M1 : Has (wq7.setCells w.heap.size 0 (ints R)) w.heap.size (doR ns fs (k + 1)) 24 := by rw [ER.out]; exact G1.putAll R R24
            have M2 := Lib.hid (GR.out.puts w.heap.size 0 (ints R) (fun _ e => by simp only [Value.ownBlock, Option.some.injEq] at e; omega))
            have M3 := Lib.hid (GB.out.puts (b := w.heap.size) (Nat.le_refl _) 0 (ints R))
            rw [decide_eq_false hge]
            clear hge
            go_wp2_with (first | (refine load_has rfl 27 _ rfl _ rfl ?_ 24 ?_ _ Try.underlying27 rfl ?_ ?_; rotate_left; (· (repeat (first | (with_reducible assumption) | ((with_reducible refine Has.box _ _ ?_ ?_) <;> (first | assumption | decide)) | (with_reducible refine Has.alloc ?_ _) | ((with_reducible refine Has.putOther ?_ _ _ ?_); rotate_left; omega; skip) | ((with_reducible refine Has.below ?_ ?_); rotate_left; assumption)))); (· kernel_rfl)) | (refine store_at rfl 27 _ _ rfl _ _ rfl rfl ?_ 24 ?_ ?_ ?_ ?_; rotate_left; (· (repeat (first | (with_reducible assumption) | ((with_reducible refine Has.box _ _ ?_ ?_) <;> (first | assumption | decide)) | (with_reducible refine Has.alloc ?_ _) | ((with_reducible refine Has.putOther ?_ _ _ ?_); rotate_left; omega; skip) | ((with_reducible refine Has.below ?_ ?_); rotate_left; assumption)))); (· (first | assumption | rfl)); (· kernel_rfl)))
            go_roundw
            case rel => exact ⟨k + 1, by omega, by go_num, M1, M2, M3, V2, Z⟩
            case measure => simp [intOf]; omega
      · have hf : pourOk C x y = false := by simpa using hp
        have Z : Hid (pathUp ns fs n = false) := Lib.hid (NO.out (by rw [EU.out]; unfold goodP; rw [hf]; rfl))
        have GB2 := Lib.hid (GB.out.call KC)
        rw [hf]
        clear hf hp
        go_wp2_with fail
        go_ret2
        exact ⟨by rw [E2.out, Z.out, E.out]; rfl, GB2.out⟩
    · obtain rfl : k = n := by omega
      go_wp2_with fail
      go_ret2
      exact ⟨by rw [E2.out, GU.out, E.out]; rfl, GB.out⟩
end Go.Proofs.Ytmhkjakgdfadbab.base
