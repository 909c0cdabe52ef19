/-
  Games on the model's side, walked: complete tubes, lost racks, pours that can hurt, and replies.
-/
import Derived.Test.YtpbfdjiglacbbabGmC
import Derived.Test.YtpbfdjiglacbbabUseS
import Derived.Test.YtpbfdjiglacbbabPourS
import Derived.Test.YtpbfdjiglacbbabSpecW
namespace Go.Proofs.Ytpbfdjiglacbbab.base
open Go.ChangeShapes Go.WideShapes Go.ChangeAt Go.RowKit
set_option linter.unusedVariables false
set_option linter.unusedSimpArgs false

theorem World.ownsRow.mono' {w : World} {b b' : Nat} {v : Value} {n : Nat} {fs : List Int} (h : Nu w b v n fs) (hb : b' ≤ b) : Nu w b' v n fs := by
  refine ⟨h.1, ?_⟩
  rcases h.2 with h0 | ⟨g, cap, cur, hv, hg, rest⟩
  · exact .inl h0
  · exact .inr ⟨g, cap, cur, hv, by omega, rest⟩

set_option maxHeartbeats 1600000 in
set_option maxRecDepth 100000 in
theorem l10Complete_any (ns : List Int) (w : World) (h24 : ns.length = 24) (hv : vR ns = true) :
    Calls Try.prog 33 #[row ns] w fun e w' => ∃ v : Value, e = .returned v ∧ Nu w' w.heap.size v (cmpl ns 6).length (cmpl ns 6) ∧ Kept w w' := by
  obtain ⟨i0, hi, hz0, hz1, hz2⟩ := infoN_parts infoN
  have HB := Lib.hid (((kept_refl w).alloc (.cells (ints ns).toArray 28)).alloc (.cells #[] 3))
  have H := (Has.box w 28 h24 (by omega)).alloc (.cells #[] 3)
  have P0 := Lib.hid (by have := nu_none0 (w.alloc (.cells (ints ns).toArray 28)) (w.heap.size + 1) (by simp); rwa [size1] at this)
  have E := Lib.hid hv
  have H24 := Lib.hid h24
  have P1 : Hid (Nu ((w.alloc (.cells (ints ns).toArray 28)).alloc (.cells #[] 3)) (w.heap.size + 1) (.slice (some ⟨w.heap.size + 1, 0, none⟩) 0 0) (cmpl ns 0).length (cmpl ns 0)) := Lib.hid P0.out
  rw [row_ints]
  clear h24 hv P0
  go_enter Try.func33, Try.ntmps33
  go_wp2_with fail
  generalize (w.alloc (.cells (ints ns).toArray 28)).alloc (.cells #[] 3) = W at *
  go_loopw [3, 4] (fun u i wr => ∃ p : Nat, p ≤ 6 ∧ i = .int .i64 p ∧ Has wr w.heap.size ns 24 ∧ Hid (Nu wr (w.heap.size + 1) u (cmpl ns p).length (cmpl ns p)) ∧ Hid (Kept w wr)) (fun _ z _ => 6 - (intOf z).toNat)
  case atStart => exact ⟨0, by omega, rfl, H, P1, HB⟩
  case round =>
    clear H P1 HB
    obtain ⟨p, hp, rfl, G1, GU, GB⟩ := hrel
    rcases Nat.lt_or_ge p 6 with hp6 | hge
    · have hpi : (p : Int) < 6 := by omega
      have h4 := tub_len ns p H24.out hp6
      have hvt := vR_tub E.out p hp6
      have ML := cmpl_le ns p
      have YES := Lib.hid (fun h => cmpl_yes (ns := ns) (k := p) h)
      have NO := Lib.hid (fun h => cmpl_no (ns := ns) (k := p) h)
      go_wp2_with (refine load_tub rfl 22 _ rfl _ (p) _ rfl ?_ ?_ ?_ ?_ _ Try.underlying22 rfl ?_ ?_; (· (first | rfl | omega)); rotate_left; (· (repeat (first | (with_reducible assumption) | ((with_reducible refine Has.box _ _ ?_ ?_) <;> (first | assumption | decide)) | (with_reducible refine Has.alloc ?_ _) | ((with_reducible refine Has.putOther ?_ _ _ ?_); rotate_left; omega; skip) | ((with_reducible refine Has.below ?_ ?_); rotate_left; assumption)))); (· omega); (· kernel_rfl))
      refine (l2Top_any (tub ns p) _ h4 hvt).mono ?_
      rintro e w3 ⟨rfl, b3⟩
      replace G1 := G1.below b3
      replace GU := Lib.hid (GU.out.below b3)
      replace GB := Lib.hid (GB.out.call b3)
      clear b3 hvt h4
      generalize topC (tub ns p) = tc at *
      by_cases he : topN (tub ns p) = 4
      · have SN := Lib.hid (YES.out he)
        rw [he]
        have hbs := GB.out.size
        have owu := Lib.hid (fun z hz => (GU.out.own z hz))
        clear YES NO he
        generalize cmpl ns p = M at *
        go_wp2_with (first | (at_builtin; refine wpList_append_own _ rfl _ _ 31 rfl (w.heap.size + 1) 3 i0 (.int .i64 0) 1 8 Try.underlying31 hi hz0 hz1 hz2 rfl (by decide) _ M.length (ints M) rfl (World.ownsRow.alloc GU.out _) ⟨w3.heap.size, 0, none⟩ 1 1 [.int .i64 (p : Int)] rfl rfl (cell_one_new _ _ _) (fun x hx => by simp at hx; subst hx; rfl) (by unfold maxLen; omega) (by omega) (by simp; omega) ?_; intro v' w6 hown' hgrow3 hnil3))
        have F1 := (G1.alloc (.cells #[.int .i64 (p : Int)] 3)).grownNo hgrow3 (fun e => by
          have h1 := (owu.out w.heap.size e.symm).1
          omega)
        have F3 := Lib.hid (show Kept w w6 from (GB.out.alloc (.cells #[.int .i64 (p : Int)] 3)).grown hgrow3 (by rw [size1]; omega) (fun j hj => by have := (owu.out j hj).1; omega))
        have F4 : Hid (Nu w6 (w.heap.size + 1) v' (cmpl ns (p + 1)).length (cmpl ns (p + 1))) := Lib.hid (by rw [SN.out, List.length_append]; unfold Nu; rw [ints_more0]; exact hown')
        clear hown' hgrow3 hnil3 GU GB owu
        go_wp2_with fail
        go_roundw
        case rel => exact ⟨p + 1, by omega, by go_num, F1, F4, F3⟩
        case measure => simp [intOf]; omega
      · have q0 : ((topN (tub ns p) : Int) == 4) = false := by simp; omega
        have SN := Lib.hid (NO.out he)
        clear YES NO he
        generalize topN (tub ns p) = tn at *
        go_wp2_with fail
        go_roundw
        case rel => exact ⟨p + 1, by omega, by go_num, G1, by rw [SN.out]; exact GU, GB⟩
        case measure => simp [intOf]; omega
    · obtain rfl : p = 6 := by omega
      go_wp2_with fail
      go_ret
      exact ⟨_, rfl, World.ownsRow.mono' GU.out (by omega), GB.out⟩

set_option maxHeartbeats 800000 in
theorem specComplete (ns : List Int) (w : World) (h24 : ns.length = 24) :
    Calls Try.prog 11 #[row ns] w (CmPost ns w) := by
  have HB := Lib.hid ((kept_refl w).alloc (.cells (ints ns).toArray 28))
  have H := Has.box w 28 h24 (by omega)
  rw [row_ints]
  go_enter Try.func11, Try.ntmps11
  go_wp2_with (refine load_has rfl 28 _ rfl _ rfl ?_ 24 ?_ _ Try.underlying28 rfl ?_ ?_; rotate_left; (· (repeat (first | (with_reducible assumption) | ((with_reducible refine Has.box _ _ ?_ ?_) <;> (first | assumption | decide)) | (with_reducible refine Has.alloc ?_ _) | ((with_reducible refine Has.putOther ?_ _ _ ?_); rotate_left; omega; skip) | ((with_reducible refine Has.below ?_ ?_); rotate_left; assumption)))); (· kernel_rfl))
  refine (l2Rack_any ns _ h24).mono ?_
  rintro e w1 ⟨rfl, b1⟩
  replace H := H.below b1
  replace HB := Lib.hid (HB.out.call b1)
  clear b1
  by_cases hv : vR ns = true
  · have E := Lib.hid hv
    have Z := Lib.hid (show cmFA ns = cmpl ns 6 by unfold cmFA; rw [if_pos hv])
    have KC := Lib.hid (fun W => l10Complete_any ns W h24 hv)
    have hbs := HB.out.size
    rw [hv]
    clear hv
    go_wp2_with (refine load_has rfl 28 _ rfl _ rfl ?_ 24 ?_ _ Try.underlying28 rfl ?_ ?_; rotate_left; (· (repeat (first | (with_reducible assumption) | ((with_reducible refine Has.box _ _ ?_ ?_) <;> (first | assumption | decide)) | (with_reducible refine Has.alloc ?_ _) | ((with_reducible refine Has.putOther ?_ _ _ ?_); rotate_left; omega; skip) | ((with_reducible refine Has.below ?_ ?_); rotate_left; assumption)))); (· kernel_rfl))
    refine (KC.out _).mono ?_
    rintro e w2 ⟨v, rfl, q2, b2⟩
    have Q2 := Lib.hid (World.ownsRow.mono' (b' := w.heap.size) q2 hbs)
    replace HB := Lib.hid (HB.out.call b2)
    clear q2 b2
    go_wp2_with fail
    go_ret2
    exact ⟨_, by rw [E.out]; rfl, by rw [Z.out]; exact Q2.out, HB.out⟩
  · have hf : vR ns = false := by simpa using hv
    have E := Lib.hid hf
    have Z := Lib.hid (show cmFA ns = [] by unfold cmFA; rw [if_neg hv])
    have P0 := Lib.hid (nu_none0 w1 w.heap.size HB.out.size)
    have HB2 := Lib.hid (HB.out.alloc (.cells #[] 3))
    rw [hf]
    clear hf hv
    go_wp2_with fail
    go_ret2
    exact ⟨_, by rw [E.out]; rfl, by rw [Z.out]; exact P0.out, HB2.out⟩

set_option maxHeartbeats 800000 in
theorem specLost (ns : List Int) (w : World) (h24 : ns.length = 24) :
    Calls Try.prog 8 #[row ns] w fun e w' => e = .returned (.tuple #[.bool (lostA ns), .bool (vR ns)]) ∧ Kept w w' := by
  have HB := Lib.hid ((kept_refl w).alloc (.cells (ints ns).toArray 28))
  have H := Has.box w 28 h24 (by omega)
  have EL : Hid (lostA ns = (vR ns && decide (usefNA ns = 0))) := Lib.hid rfl
  rw [row_ints]
  go_enter Try.func8, Try.ntmps8
  go_wp2_with (refine load_has rfl 28 _ rfl _ rfl ?_ 24 ?_ _ Try.underlying28 rfl ?_ ?_; rotate_left; (· (repeat (first | (with_reducible assumption) | ((with_reducible refine Has.box _ _ ?_ ?_) <;> (first | assumption | decide)) | (with_reducible refine Has.alloc ?_ _) | ((with_reducible refine Has.putOther ?_ _ _ ?_); rotate_left; omega; skip) | ((with_reducible refine Has.below ?_ ?_); rotate_left; assumption)))); (· kernel_rfl))
  refine (l2Rack_any ns _ h24).mono ?_
  rintro e w1 ⟨rfl, b1⟩
  replace H := H.below b1
  replace HB := Lib.hid (HB.out.call b1)
  clear b1
  cases hv : vR ns with
  | false =>
    have EV := Lib.hid hv
    clear hv
    go_wp2_with fail
    go_ret2
    exact ⟨by rw [EL.out, EV.out]; rfl, HB.out⟩
  | true =>
    have EV := Lib.hid hv
    have KU := Lib.hid (fun W => l2Useful_any ns W h24 hv)
    have E1 := Lib.hid (show usefNA ns = usefN ns (poursN ns 36) by unfold usefNA; rw [if_pos hv])
    clear hv
    go_wp2_with (refine load_has rfl 28 _ rfl _ rfl ?_ 24 ?_ _ Try.underlying28 rfl ?_ ?_; rotate_left; (· (repeat (first | (with_reducible assumption) | ((with_reducible refine Has.box _ _ ?_ ?_) <;> (first | assumption | decide)) | (with_reducible refine Has.alloc ?_ _) | ((with_reducible refine Has.putOther ?_ _ _ ?_); rotate_left; omega; skip) | ((with_reducible refine Has.below ?_ ?_); rotate_left; assumption)))); (· kernel_rfl))
    refine (KU.out _).mono ?_
    rintro e w2 ⟨v, rfl, q2, b2⟩
    obtain ⟨a0, cap0, rfl⟩ := q2.rw.shape
    replace HB := Lib.hid (HB.out.call b2)
    rw [← E1.out]
    clear q2 b2 H
    by_cases h0 : usefNA ns = 0
    · have E0 := Lib.hid h0
      rw [h0]
      clear h0
      go_wp2_with fail
      go_ret2
      exact ⟨by rw [EL.out, EV.out, E0.out]; rfl, HB.out⟩
    · have n0 : ((usefNA ns : Int) == 0) = false := by simp; omega
      have EL2 := Lib.hid (show lostA ns = false by rw [EL.out, EV.out, decide_eq_false h0]; rfl)
      clear h0 EL
      generalize usefNA ns = N at *
      go_wp2_with fail
      go_ret2
      exact ⟨by rw [EL2.out, EV.out]; rfl, HB.out⟩

set_option maxHeartbeats 3200000 in
set_option maxRecDepth 100000 in
theorem completesS_any (ns : List Int) (w : World) (h24 : ns.length = 24) (hv : vR ns = true) :
    Calls Try.prog 45 #[row ns] w fun e w' => e = .returned (.bool (anyCA ns)) ∧ Kept w w' := by
  have G : GR ns := ⟨h24, hv⟩
  have HB := Lib.hid ((kept_refl w).alloc (.cells (ints ns).toArray 28))
  have H := Has.box w 28 h24 (by omega)
  have KU := Lib.hid (fun W => l2Useful_any ns W h24 hv)
  have E1 := Lib.hid (show usefNA ns = usefN ns (poursN ns 36) by unfold usefNA; rw [if_pos hv])
  have E2 := Lib.hid (show usefFA ns = usefF ns (poursN ns 36) by unfold usefFA; rw [if_pos hv])
  have UN := Lib.hid (fun k hk => up_natG G k hk)
  have NG := Lib.hid (fun k hk => nx_good G k hk)
  have EA : Hid (anyCA ns = anyC ns (usefNA ns)) := Lib.hid rfl
  have C24 := Lib.hid h24
  have CV := Lib.hid hv
  have hi0 : (Try.prog.info? 28).map (·.size) = some 24 := by kernel_rfl
  have hi1 : (Try.prog.info? 28).map (·.size) = some (ints ns).length := by rw [ints_len, h24]; exact hi0
  have N30 := use30 ns
  rw [row_ints]
  clear h24 hv G
  go_enter Try.func45, Try.ntmps45
  go_wp2_with (refine load_has rfl 28 _ rfl _ rfl ?_ 24 ?_ _ Try.underlying28 rfl ?_ ?_; rotate_left; (· (repeat (first | (with_reducible assumption) | ((with_reducible refine Has.box _ _ ?_ ?_) <;> (first | assumption | decide)) | (with_reducible refine Has.alloc ?_ _) | ((with_reducible refine Has.putOther ?_ _ _ ?_); rotate_left; omega; skip) | ((with_reducible refine Has.below ?_ ?_); rotate_left; assumption)))); (· kernel_rfl))
  refine (KU.out _).mono ?_
  rintro e w1 ⟨v, rfl, q1, b1⟩
  rw [← E1.out, ← E2.out] at q1
  obtain ⟨va, vc, rfl⟩ := q1.rw.shape
  have R0 := Lib.hid ((q1.mono (b' := 0) (Nat.zero_le _)).rw)
  replace H := H.below b1
  replace HB := Lib.hid (HB.out.call b1)
  clear b1 q1 KU E1 E2
  obtain ⟨N, hN⟩ : ∃ N, usefNA ns = N := ⟨_, rfl⟩
  rw [hN] at R0 UN NG N30 EA ⊢
  clear hN
  go_wp2_with fail
  go_loopw [4] (fun z wr => ∃ k : Nat, k ≤ N ∧ z = .int .i64 k ∧ Hid (anyC ns k = false) ∧ Has wr w.heap.size ns 24 ∧ Hid (Rw wr 0 (.slice va N vc) N (usefFA ns)) ∧ Hid (Kept w wr)) (fun z _ => N - (intOf z).toNat)
  case atStart => exact ⟨0, by omega, rfl, Lib.hid rfl, H, R0, HB⟩
  case round =>
    clear H R0 HB
    obtain ⟨k, hk, rfl, KA, G1, GR', GB⟩ := hrel
    by_cases hkN : k < N
    · have Np : 0 < N := by omega
      obtain ⟨gg, gcap, he, hgb, hgl⟩ := GR'.out.form Np
      injection he with e1 _ e3
      subst e1
      subst e3
      have hki : (k : Int) < (N : Int) := by omega
      have hk0 : (0 : Int) ≤ (k : Int) := by omega
      obtain ⟨p, q, p6, q6, hne, hcn, hid, hx, hy, hnx, hok⟩ := UN.out k hkN
      have gx := NG.out k hkN
      have ES := Lib.hid (anyC_succ ns k)
      rw [hnx] at gx
      have C0 : Hid (∀ w', Kept wr w' → w'.cell? ⟨gg, k * 2, none⟩ = some (.int .i64 (p : Int))) := Lib.hid (fun w' hw => (GR'.out.below hw).cellX (by omega) hx)
      have C1 : Hid (∀ w', Kept wr w' → w'.cell? ⟨gg, k * 2 + 1, none⟩ = some (.int .i64 (q : Int))) := Lib.hid (fun w' hw => (GR'.out.below hw).cellX (by omega) hy)
      have R24 := gx.1
      have RV := Lib.hid gx.2
      have HNE := Lib.hid hne
      have HC := Lib.hid hcn
      obtain ⟨R, hR⟩ : ∃ R, pourT ns p q = R := ⟨_, rfl⟩
      rw [hR] at R24 RV hnx
      have HR := Lib.hid hR
      have HNX := Lib.hid hnx
      have HY := Lib.hid hy
      have HX := Lib.hid hx
      have l2 : (ints R).length = 24 := by rw [ints_len]; exact R24
      have HR24 := Lib.hid R24
      clear hne hcn hx hy hid hok hR hnx gx
      have EC : Hid (cpl ns k = decide (topN (tub R q) = 4)) := Lib.hid (by unfold cpl; rw [HNX.out, HY.out, Int.toNat_natCast])
      have NB : Hid (decide ((q : Int) ∈ cmpl ns 6) = false) := Lib.hid (by
        rw [decide_eq_false_iff_not, cmpl_mem]
        rintro ⟨_, h4⟩
        have F := tubeFacts (tub_len ns q C24.out q6) (vR_tub CV.out q q6)
        have h1 := F.topN
        have h2 := HC.out
        have h3 := (canN_le (tub_len ns p C24.out p6) (tub_len ns q C24.out q6) (vR_tub CV.out p p6) (vR_tub CV.out q q6)).2.1
        omega)
      have NA : Hid (decide ((q : Int) ∈ cmpl R 6) = decide (topN (tub R q) = 4)) := Lib.hid (by
        apply decide_eq_decide.2
        rw [cmpl_mem]
        exact ⟨fun h => h.2, fun h => ⟨q6, h⟩⟩)
      have KC1 := Lib.hid (fun W => l10Complete_any ns W C24.out CV.out)
      have KC2 := Lib.hid (fun W => l10Complete_any R W R24 RV.out)
      have hgl2 := hgl
      go_wp2_with fail
      refine wp_region_held_drew (S := fun w' => Kept wr w') (by kernel_rfl) ?_ (fun hHeld => ?_)
      · exact (kept_refl wr).drewN 1
      (refine wpAnyH_take (i := 1) (v := ?_) rfl (by kernel_rfl) (by kernel_rfl) (by kernel_rfl) (fun _ _ _ h => h) (Or.inl ⟨by rfl, ?_⟩) hHeld ?_; rotate_left; (· (intro w' hSw; go_simp; try with_reducible rfl)); (try simp only [List.getElem_toArray, List.getElem_cons_zero, List.getElem_cons_succ, Act.put, List.setIfInBounds_toArray, List.set_cons_zero, List.set_cons_succ])); (refine wpAnyH_take (i := 2) (v := ?_) rfl (by kernel_rfl) (by kernel_rfl) (by kernel_rfl) (fun _ _ _ h => h) (Or.inl ⟨by rfl, ?_⟩) hHeld ?_; rotate_left; (· (intro w' hSw; go_simp; try with_reducible rfl)); (try simp only [List.getElem_toArray, List.getElem_cons_zero, List.getElem_cons_succ, Act.put, List.setIfInBounds_toArray, List.set_cons_zero, List.set_cons_succ])); (refine wpAnyH_take (i := 3) (v := ?_) rfl (by kernel_rfl) (by kernel_rfl) (by kernel_rfl) (fun _ _ _ h => h) (Or.inl ⟨by rfl, ?_⟩) hHeld ?_; rotate_left; (· (intro w' hSw; go_simp; try with_reducible rfl)); (try simp only [List.getElem_toArray, List.getElem_cons_zero, List.getElem_cons_succ, Act.put, List.setIfInBounds_toArray, List.set_cons_zero, List.set_cons_succ])); (refine wpAnyH_take (i := 4) (v := ?_) rfl (by kernel_rfl) (by kernel_rfl) (by kernel_rfl) (fun _ _ _ h => h) (Or.inl ⟨by rfl, ?_⟩) hHeld ?_; rotate_left; (· (intro w' hSw; go_simp; try with_reducible rfl)); (try simp only [List.getElem_toArray, List.getElem_cons_zero, List.getElem_cons_succ, Act.put, List.setIfInBounds_toArray, List.set_cons_zero, List.set_cons_succ])); (refine wpAnyH_take (i := 6) (v := ?_) rfl (by kernel_rfl) (by kernel_rfl) (by kernel_rfl) (fun _ _ _ h => h) (Or.inl ⟨by rfl, ?_⟩) hHeld ?_; rotate_left; (· (intro w' hSw; go_simp; try with_reducible rfl)); (try simp only [List.getElem_toArray, List.getElem_cons_zero, List.getElem_cons_succ, Act.put, List.setIfInBounds_toArray, List.set_cons_zero, List.set_cons_succ])); (refine wpAnyH_take (i := 7) (v := ?_) rfl (by kernel_rfl) (by kernel_rfl) (by kernel_rfl) (fun _ _ _ h => h) (Or.inl ⟨by rfl, ?_⟩) hHeld ?_; rotate_left; (· (intro w' hSw; go_simp; try with_reducible rfl)); (try simp only [List.getElem_toArray, List.getElem_cons_zero, List.getElem_cons_succ, Act.put, List.setIfInBounds_toArray, List.set_cons_zero, List.set_cons_succ])); (refine wpAnyH_take (i := 8) (v := ?_) rfl (by kernel_rfl) (by kernel_rfl) (by kernel_rfl) (fun _ _ _ h => h) (Or.inl ⟨by rfl, ?_⟩) hHeld ?_; rotate_left; (· (intro w' hSw; go_simp; try with_reducible rfl)); (try simp only [List.getElem_toArray, List.getElem_cons_zero, List.getElem_cons_succ, Act.put, List.setIfInBounds_toArray, List.set_cons_zero, List.set_cons_succ])); (refine wpAnyH_take (i := 9) (v := ?_) rfl (by kernel_rfl) (by kernel_rfl) (by kernel_rfl) (fun _ _ _ h => h) (Or.inl ⟨by rfl, ?_⟩) hHeld ?_; rotate_left; (· (intro w' hSw; go_simp; try with_reducible rfl)); (try simp only [List.getElem_toArray, List.getElem_cons_zero, List.getElem_cons_succ, Act.put, List.setIfInBounds_toArray, List.set_cons_zero, List.set_cons_succ]))
      (refine wpAnyH_take (i := 0) (v := _) rfl (by kernel_rfl) (by kernel_rfl) (by kernel_rfl) (fun _ _ _ h => h) (yieldsIf_load_mid (by rfl) 28 _ rfl _ _ rfl (ints ns) _ (fun w' hSw => (G1.below hSw).holds.range) Try.underlying28 rfl (hi1)) hHeld ?_; (try simp only [List.getElem_toArray, List.getElem_cons_zero, List.getElem_cons_succ, Act.put, List.setIfInBounds_toArray, List.set_cons_zero, List.set_cons_succ]))
      refine wpAnyH_take (i := 5) (v := .int .i64 (p : Int)) rfl (by kernel_rfl) (by kernel_rfl) (by kernel_rfl) (fun _ _ _ h => h) (Or.inl ⟨by rfl, ?_⟩) hHeld ?_
      · intro w' hSw
        have cc := C0.out w' hSw
        go_simp
      (try simp only [List.getElem_toArray, List.getElem_cons_zero, List.getElem_cons_succ, Act.put, List.setIfInBounds_toArray, List.set_cons_zero, List.set_cons_succ])
      refine wpAnyH_take (i := 10) (v := .int .i64 (q : Int)) rfl (by kernel_rfl) (by kernel_rfl) (by kernel_rfl) (fun _ _ _ h => h) (Or.inl ⟨by rfl, ?_⟩) hHeld ?_
      · intro w' hSw
        have cc := C1.out w' hSw
        go_simp
      (try simp only [List.getElem_toArray, List.getElem_cons_zero, List.getElem_cons_succ, Act.put, List.setIfInBounds_toArray, List.set_cons_zero, List.set_cons_succ])
      refine wpAnyH_ready (rs := [11, 15]) (by kernel_rfl) (by simp) ?_
      refine AllReadyH.cons (o := _) rfl (fun K hK => ?callFirst) (AllReadyH.cons (o := _) rfl (fun K hK => ?makeFirst) AllReadyH.nil)
      case' callFirst =>
        (simp only [List.getElem_toArray, List.getElem_cons_zero, List.getElem_cons_succ, Region.wanted, if_true])
        go_simp
        refine (l2Pour_any ns p q _ C24.out CV.out p6 q6 HNE.out HC.out).mono ?_
        rintro e wp2 ⟨rfl, bp2⟩
        rw [HR.out]
        dsimp only
        (try simp only [List.getElem_toArray, List.getElem_cons_zero, List.getElem_cons_succ, Act.put, List.setIfInBounds_toArray, List.set_cons_zero, List.set_cons_succ])
        have KW := Kept.call hHeld bp2
        refine hK.out _ _ KW (fun hHeld => ?_)
        clear hK K bp2
        (refine wpAnyH_take (i := 12) (v := ?_) rfl (by kernel_rfl) (by kernel_rfl) (by kernel_rfl) (fun _ _ _ h => h) (Or.inl ⟨by rfl, ?_⟩) hHeld ?_; rotate_left; (· (intro w' hSw; go_simp; try with_reducible rfl)); (try simp only [List.getElem_toArray, List.getElem_cons_zero, List.getElem_cons_succ, Act.put, List.setIfInBounds_toArray, List.set_cons_zero, List.set_cons_succ])); (refine wpAnyH_take (i := 13) (v := ?_) rfl (by kernel_rfl) (by kernel_rfl) (by kernel_rfl) (fun _ _ _ h => h) (Or.inl ⟨by rfl, ?_⟩) hHeld ?_; rotate_left; (· (intro w' hSw; go_simp; try with_reducible rfl)); (try simp only [List.getElem_toArray, List.getElem_cons_zero, List.getElem_cons_succ, Act.put, List.setIfInBounds_toArray, List.set_cons_zero, List.set_cons_succ])); (refine wpAnyH_take (i := 14) (v := ?_) rfl (by kernel_rfl) (by kernel_rfl) (by kernel_rfl) (fun _ _ _ h => h) (Or.inl ⟨by rfl, ?_⟩) hHeld ?_; rotate_left; (· (intro w' hSw; go_simp; try with_reducible rfl)); (try simp only [List.getElem_toArray, List.getElem_cons_zero, List.getElem_cons_succ, Act.put, List.setIfInBounds_toArray, List.set_cons_zero, List.set_cons_succ]))
        (refine wpAnyH_ready (rs := [15]) (by kernel_rfl) (by simp) ?_; refine AllReadyH.cons (o := _) rfl (fun K hK => ?_) AllReadyH.nil; (simp only [List.getElem_toArray, List.getElem_cons_zero, List.getElem_cons_succ, Region.wanted, if_true]))
        go_simp
        have F9 := Has.zero24 wp2 28
        have h9 := KW.size
        replace KW := KW.alloc (.cells #[.int .i64 0, .int .i64 0, .int .i64 0, .int .i64 0, .int .i64 0, .int .i64 0, .int .i64 0, .int .i64 0, .int .i64 0, .int .i64 0, .int .i64 0, .int .i64 0, .int .i64 0, .int .i64 0, .int .i64 0, .int .i64 0, .int .i64 0, .int .i64 0, .int .i64 0, .int .i64 0, .int .i64 0, .int .i64 0, .int .i64 0, .int .i64 0] 28)
        refine hK.out _ _ KW (fun hHeld => ?_)
        clear hK K
        generalize wp2.alloc (.cells #[.int .i64 0, .int .i64 0, .int .i64 0, .int .i64 0, .int .i64 0, .int .i64 0, .int .i64 0, .int .i64 0, .int .i64 0, .int .i64 0, .int .i64 0, .int .i64 0, .int .i64 0, .int .i64 0, .int .i64 0, .int .i64 0, .int .i64 0, .int .i64 0, .int .i64 0, .int .i64 0, .int .i64 0, .int .i64 0, .int .i64 0, .int .i64 0] 28) = wp3 at *
        generalize wp2.heap.size = b9 at *
      case' makeFirst =>
        (simp only [List.getElem_toArray, List.getElem_cons_zero, List.getElem_cons_succ, Region.wanted, if_true])
        go_simp
        have F9 : Has _ wr.heap.size z24 24 := Has.zero24 wr.drew 28
        have KW := Kept.alloc hHeld (.cells #[.int .i64 0, .int .i64 0, .int .i64 0, .int .i64 0, .int .i64 0, .int .i64 0, .int .i64 0, .int .i64 0, .int .i64 0, .int .i64 0, .int .i64 0, .int .i64 0, .int .i64 0, .int .i64 0, .int .i64 0, .int .i64 0, .int .i64 0, .int .i64 0, .int .i64 0, .int .i64 0, .int .i64 0, .int .i64 0, .int .i64 0, .int .i64 0] 28)
        obtain ⟨b9, hb9⟩ : ∃ b : Nat, b = wr.heap.size := ⟨_, rfl⟩
        have h9 : wr.heap.size ≤ b9 := by omega
        rw [← hb9] at F9
        refine hK.out _ _ KW (fun hHeld => ?_)
        clear hK K
        (refine wpAnyH_ready (rs := [11]) (by kernel_rfl) (by simp) ?_; refine AllReadyH.cons (o := _) rfl (fun K hK => ?_) AllReadyH.nil; (simp only [List.getElem_toArray, List.getElem_cons_zero, List.getElem_cons_succ, Region.wanted, if_true]))
        go_simp
        refine (l2Pour_any ns p q _ C24.out CV.out p6 q6 HNE.out HC.out).mono ?_
        rintro e wp3 ⟨rfl, bp2⟩
        rw [HR.out]
        dsimp only
        (try simp only [List.getElem_toArray, List.getElem_cons_zero, List.getElem_cons_succ, Act.put, List.setIfInBounds_toArray, List.set_cons_zero, List.set_cons_succ])
        replace F9 := F9.below bp2
        replace KW := KW.call bp2
        refine hK.out _ _ KW (fun hHeld => ?_)
        clear hK K bp2
        (refine wpAnyH_take (i := 12) (v := ?_) rfl (by kernel_rfl) (by kernel_rfl) (by kernel_rfl) (fun _ _ _ h => h) (Or.inl ⟨by rfl, ?_⟩) hHeld ?_; rotate_left; (· (intro w' hSw; go_simp; try with_reducible rfl)); (try simp only [List.getElem_toArray, List.getElem_cons_zero, List.getElem_cons_succ, Act.put, List.setIfInBounds_toArray, List.set_cons_zero, List.set_cons_succ])); (refine wpAnyH_take (i := 13) (v := ?_) rfl (by kernel_rfl) (by kernel_rfl) (by kernel_rfl) (fun _ _ _ h => h) (Or.inl ⟨by rfl, ?_⟩) hHeld ?_; rotate_left; (· (intro w' hSw; go_simp; try with_reducible rfl)); (try simp only [List.getElem_toArray, List.getElem_cons_zero, List.getElem_cons_succ, Act.put, List.setIfInBounds_toArray, List.set_cons_zero, List.set_cons_succ])); (refine wpAnyH_take (i := 14) (v := ?_) rfl (by kernel_rfl) (by kernel_rfl) (by kernel_rfl) (fun _ _ _ h => h) (Or.inl ⟨by rfl, ?_⟩) hHeld ?_; rotate_left; (· (intro w' hSw; go_simp; try with_reducible rfl)); (try simp only [List.getElem_toArray, List.getElem_cons_zero, List.getElem_cons_succ, Act.put, List.setIfInBounds_toArray, List.set_cons_zero, List.set_cons_succ]))
        rw [← hb9]
        clear hb9
      all_goals
        (refine wpAnyH_ready (rs := [16]) (by kernel_rfl) (by simp) ?_; refine AllReadyH.cons (o := _) rfl (fun K hK => ?_) AllReadyH.nil; (simp only [List.getElem_toArray, List.getElem_cons_zero, List.getElem_cons_succ, Region.wanted, if_true]))
        refine wp_store_mid _ _ _ rfl _ _ (ints R).toArray rfl rfl (by simpa [l2] using F9.there) (by simpa [l2] using hi0) (all_oneCell_toArray (ints_one _)) ?_
        (try simp only [List.getElem_toArray, List.getElem_cons_zero, List.getElem_cons_succ, Act.put, List.setIfInBounds_toArray, List.set_cons_zero, List.set_cons_succ, List.toList_toArray])
        replace F9 := F9.putAll R R24
        replace KW := KW.puts (b := b9) h9 0 (ints R)
        refine hK.out _ _ KW (fun hHeld => ?_)
        clear hK K
        (refine wpAnyH_take (i := 17) (v := ?_) rfl (by kernel_rfl) (by kernel_rfl) (by kernel_rfl) (fun _ _ _ h => h) (Or.inl ⟨by rfl, ?_⟩) hHeld ?_; rotate_left; (· (intro w' hSw; go_simp; try with_reducible rfl)); (try simp only [List.getElem_toArray, List.getElem_cons_zero, List.getElem_cons_succ, Act.put, List.setIfInBounds_toArray, List.set_cons_zero, List.set_cons_succ]))
        refine wpAnyH_done (by kernel_rfl) ?_ _
        clear hHeld
        generalize wp3.setCells b9 0 (ints R) = wp4 at *
        replace G1 := G1.below KW
        replace GR' := Lib.hid (GR'.out.below KW)
        replace GB := Lib.hid (GB.out.call KW)
        have C2 : Hid (∀ w', Kept wp4 w' → w'.cell? ⟨gg, k * 2 + 1, none⟩ = some (.int .i64 (q : Int))) := Lib.hid (fun w' hw => C1.out w' (KW.call hw))
        clear KW C0 C1 h9
        have hi2 : (Try.prog.info? 28).map (·.size) = some (ints R).length := by rw [l2]; exact hi0
        go_wp2_with (refine load_has rfl 28 _ rfl _ rfl ?_ 24 ?_ _ Try.underlying28 rfl ?_ ?_; rotate_left; (· (repeat (first | (with_reducible assumption) | ((with_reducible refine Has.box _ _ ?_ ?_) <;> (first | assumption | decide)) | (with_reducible refine Has.alloc ?_ _) | ((with_reducible refine Has.putOther ?_ _ _ ?_); rotate_left; omega; skip) | ((with_reducible refine Has.below ?_ ?_); rotate_left; assumption)))); (· kernel_rfl))
        refine (KC1.out _).mono ?_
        rintro e w5 ⟨v5, rfl, q5, b5⟩
        have Q5 := Lib.hid q5
        replace G1 := G1.below b5
        replace F9 := F9.below b5
        replace GR' := Lib.hid (GR'.out.below b5)
        replace GB := Lib.hid (GB.out.call b5)
        replace C2 : Hid (∀ w', Kept w5 w' → w'.cell? ⟨gg, k * 2 + 1, none⟩ = some (.int .i64 (q : Int))) := Lib.hid (fun w' hw => C2.out w' (b5.call hw))
        clear q5 b5
        go_wp2_with fail
        refine wp_region_held_drew (S := fun w' => Kept w5 w') (by kernel_rfl) ((kept_refl w5).drewN 1) (fun hHeld => ?_)
        generalize w5.drew = WD at *
        (refine wpAnyH_take (i := 0) (v := ?_) rfl (by kernel_rfl) (by kernel_rfl) (by kernel_rfl) (fun _ _ _ h => h) (Or.inl ⟨by rfl, ?_⟩) hHeld ?_; rotate_left; (· (intro w' hSw; go_simp; try with_reducible rfl)); (try simp only [List.getElem_toArray, List.getElem_cons_zero, List.getElem_cons_succ, Act.put, List.setIfInBounds_toArray, List.set_cons_zero, List.set_cons_succ])); (refine wpAnyH_take (i := 1) (v := ?_) rfl (by kernel_rfl) (by kernel_rfl) (by kernel_rfl) (fun _ _ _ h => h) (Or.inl ⟨by rfl, ?_⟩) hHeld ?_; rotate_left; (· (intro w' hSw; go_simp; try with_reducible rfl)); (try simp only [List.getElem_toArray, List.getElem_cons_zero, List.getElem_cons_succ, Act.put, List.setIfInBounds_toArray, List.set_cons_zero, List.set_cons_succ])); (refine wpAnyH_take (i := 2) (v := ?_) rfl (by kernel_rfl) (by kernel_rfl) (by kernel_rfl) (fun _ _ _ h => h) (Or.inl ⟨by rfl, ?_⟩) hHeld ?_; rotate_left; (· (intro w' hSw; go_simp; try with_reducible rfl)); (try simp only [List.getElem_toArray, List.getElem_cons_zero, List.getElem_cons_succ, Act.put, List.setIfInBounds_toArray, List.set_cons_zero, List.set_cons_succ])); (refine wpAnyH_take (i := 3) (v := ?_) rfl (by kernel_rfl) (by kernel_rfl) (by kernel_rfl) (fun _ _ _ h => h) (Or.inl ⟨by rfl, ?_⟩) hHeld ?_; rotate_left; (· (intro w' hSw; go_simp; try with_reducible rfl)); (try simp only [List.getElem_toArray, List.getElem_cons_zero, List.getElem_cons_succ, Act.put, List.setIfInBounds_toArray, List.set_cons_zero, List.set_cons_succ])); (refine wpAnyH_take (i := 4) (v := ?_) rfl (by kernel_rfl) (by kernel_rfl) (by kernel_rfl) (fun _ _ _ h => h) (Or.inl ⟨by rfl, ?_⟩) hHeld ?_; rotate_left; (· (intro w' hSw; go_simp; try with_reducible rfl)); (try simp only [List.getElem_toArray, List.getElem_cons_zero, List.getElem_cons_succ, Act.put, List.setIfInBounds_toArray, List.set_cons_zero, List.set_cons_succ]))
        (refine wpAnyH_take (i := 5) (v := .int .i64 (q : Int)) rfl (by kernel_rfl) (by kernel_rfl) (by kernel_rfl) (fun _ _ _ h => h) (Or.inl ⟨by rfl, ?_⟩) hHeld ?_; (· (intro w' hSw; have q := C2.out w' hSw; clear hSw; go_simp; try with_reducible rfl)); (try simp only [List.getElem_toArray, List.getElem_cons_zero, List.getElem_cons_succ, Act.put, List.setIfInBounds_toArray, List.set_cons_zero, List.set_cons_succ]))
        (refine wpAnyH_ready (rs := [6]) (by kernel_rfl) (by simp) ?_; refine AllReadyH.cons (o := _) rfl (fun K hK => ?_) AllReadyH.nil; (simp only [List.getElem_toArray, List.getElem_cons_zero, List.getElem_cons_succ, Region.wanted, if_true]))
        go_simp
        refine (l1Has_any v5 _ _ (q : Int) _ _ (show Ow WD _ v5 _ _ from Q5.out.below hHeld) (cmpl_le ns 6)).mono ?_
        rintro e wq ⟨rfl, rfl⟩
        rw [NB.out]
        dsimp only
        (try simp only [List.getElem_toArray, List.getElem_cons_zero, List.getElem_cons_succ, Act.put, List.setIfInBounds_toArray, List.set_cons_zero, List.set_cons_succ])
        refine hK.out _ _ hHeld (fun hHeld => ?_)
        clear hK K
        (refine wpAnyH_take (i := 7) (v := ?_) rfl (by kernel_rfl) (by kernel_rfl) (by kernel_rfl) (fun _ _ _ h => h) (Or.inl ⟨by rfl, ?_⟩) hHeld ?_; rotate_left; (· (intro w' hSw; go_simp; try with_reducible rfl)); (try simp only [List.getElem_toArray, List.getElem_cons_zero, List.getElem_cons_succ, Act.put, List.setIfInBounds_toArray, List.set_cons_zero, List.set_cons_succ])); (refine wpAnyH_take (i := 8) (v := ?_) rfl (by kernel_rfl) (by kernel_rfl) (by kernel_rfl) (fun _ _ _ h => h) (Or.inl ⟨by rfl, ?_⟩) hHeld ?_; rotate_left; (· (intro w' hSw; go_simp; try with_reducible rfl)); (try simp only [List.getElem_toArray, List.getElem_cons_zero, List.getElem_cons_succ, Act.put, List.setIfInBounds_toArray, List.set_cons_zero, List.set_cons_succ])); (refine wpAnyH_take (i := 11) (v := ?_) rfl (by kernel_rfl) (by kernel_rfl) (by kernel_rfl) (fun _ _ _ h => h) (Or.inl ⟨by rfl, ?_⟩) hHeld ?_; rotate_left; (· (intro w' hSw; go_simp; try with_reducible rfl)); (try simp only [List.getElem_toArray, List.getElem_cons_zero, List.getElem_cons_succ, Act.put, List.setIfInBounds_toArray, List.set_cons_zero, List.set_cons_succ])); (refine wpAnyH_take (i := 12) (v := ?_) rfl (by kernel_rfl) (by kernel_rfl) (by kernel_rfl) (fun _ _ _ h => h) (Or.inl ⟨by rfl, ?_⟩) hHeld ?_; rotate_left; (· (intro w' hSw; go_simp; try with_reducible rfl)); (try simp only [List.getElem_toArray, List.getElem_cons_zero, List.getElem_cons_succ, Act.put, List.setIfInBounds_toArray, List.set_cons_zero, List.set_cons_succ])); (refine wpAnyH_take (i := 13) (v := ?_) rfl (by kernel_rfl) (by kernel_rfl) (by kernel_rfl) (fun _ _ _ h => h) (Or.inl ⟨by rfl, ?_⟩) hHeld ?_; rotate_left; (· (intro w' hSw; go_simp; try with_reducible rfl)); (try simp only [List.getElem_toArray, List.getElem_cons_zero, List.getElem_cons_succ, Act.put, List.setIfInBounds_toArray, List.set_cons_zero, List.set_cons_succ])); (refine wpAnyH_take (i := 14) (v := ?_) rfl (by kernel_rfl) (by kernel_rfl) (by kernel_rfl) (fun _ _ _ h => h) (Or.inl ⟨by rfl, ?_⟩) hHeld ?_; rotate_left; (· (intro w' hSw; go_simp; try with_reducible rfl)); (try simp only [List.getElem_toArray, List.getElem_cons_zero, List.getElem_cons_succ, Act.put, List.setIfInBounds_toArray, List.set_cons_zero, List.set_cons_succ]))
        (refine wpAnyH_take (i := 9) (v := _) rfl (by kernel_rfl) (by kernel_rfl) (by kernel_rfl) (fun _ _ _ h => h) (yieldsIf_load_mid (by rfl) 28 _ rfl _ _ rfl (ints R) _ (fun w' hSw => (F9.below hSw).holds.range) Try.underlying28 rfl (hi2)) hHeld ?_; (try simp only [List.getElem_toArray, List.getElem_cons_zero, List.getElem_cons_succ, Act.put, List.setIfInBounds_toArray, List.set_cons_zero, List.set_cons_succ]))
        (refine wpAnyH_take (i := 15) (v := .int .i64 (q : Int)) rfl (by kernel_rfl) (by kernel_rfl) (by kernel_rfl) (fun _ _ _ h => h) (Or.inl ⟨by rfl, ?_⟩) hHeld ?_; (· (intro w' hSw; have q := C2.out w' hSw; clear hSw; go_simp; try with_reducible rfl)); (try simp only [List.getElem_toArray, List.getElem_cons_zero, List.getElem_cons_succ, Act.put, List.setIfInBounds_toArray, List.set_cons_zero, List.set_cons_succ]))
        (refine wpAnyH_ready (rs := [10]) (by kernel_rfl) (by simp) ?_; refine AllReadyH.cons (o := _) rfl (fun K hK => ?_) AllReadyH.nil; (simp only [List.getElem_toArray, List.getElem_cons_zero, List.getElem_cons_succ, Region.wanted, if_true]))
        go_simp
        refine (KC2.out _).mono ?_
        rintro e w7 ⟨v7, rfl, q7, b7⟩
        dsimp only
        (try simp only [List.getElem_toArray, List.getElem_cons_zero, List.getElem_cons_succ, Act.put, List.setIfInBounds_toArray, List.set_cons_zero, List.set_cons_succ])
        have KH := Kept.call hHeld b7
        refine hK.out _ _ KH (fun hHeld => ?_)
        clear hK K
        (refine wpAnyH_ready (rs := [16]) (by kernel_rfl) (by simp) ?_; refine AllReadyH.cons (o := _) rfl (fun K hK => ?_) AllReadyH.nil; (simp only [List.getElem_toArray, List.getElem_cons_zero, List.getElem_cons_succ, Region.wanted, if_true]))
        go_simp
        refine (l1Has_any v7 _ _ (q : Int) _ _ (show Ow w7 _ v7 _ _ from q7) (cmpl_le R 6)).mono ?_
        rintro e wq ⟨rfl, rfl⟩
        rw [NA.out, ← EC.out]
        dsimp only
        (try simp only [List.getElem_toArray, List.getElem_cons_zero, List.getElem_cons_succ, Act.put, List.setIfInBounds_toArray, List.set_cons_zero, List.set_cons_succ])
        refine hK.out _ _ KH (fun hHeld => ?_)
        clear hK K
        (refine wpAnyH_take (i := 17) (v := ?_) rfl (by kernel_rfl) (by kernel_rfl) (by kernel_rfl) (fun _ _ _ h => h) (Or.inl ⟨by rfl, ?_⟩) hHeld ?_; rotate_left; (· (intro w' hSw; go_simp; try with_reducible rfl)); (try simp only [List.getElem_toArray, List.getElem_cons_zero, List.getElem_cons_succ, Act.put, List.setIfInBounds_toArray, List.set_cons_zero, List.set_cons_succ]))
        refine wpAnyH_done (by kernel_rfl) ?_ _
        replace G1 := G1.below KH
        replace GR' := Lib.hid (GR'.out.below KH)
        replace GB := Lib.hid (GB.out.call KH)
        clear hHeld KH q7 b7 F9 Q5 C2
        cases hcc : cpl ns k with
        | true =>
          have E2 := Lib.hid (show ∃ j, j < N ∧ cpl ns j = true from ⟨k, hkN, hcc⟩)
          clear hcc
          go_wp2_with fail
          go_ret
          refine ⟨ret_bool ?_, GB.out⟩
          rw [EA.out]
          obtain ⟨j, hj, hc⟩ := E2.out
          exact (List.any_eq_true.2 ⟨j, List.mem_range.2 hj, hc⟩).symm
        | false =>
          have E2 := Lib.hid (show anyC ns (k + 1) = false by rw [ES.out, KA.out, hcc]; rfl)
          clear hcc
          go_wp2_with fail
          go_roundw
          case rel => exact ⟨k + 1, by omega, by go_num, E2, G1, GR', GB⟩
          case measure => simp [intOf]; omega
    · obtain rfl : k = N := by omega
      go_wp2_with fail
      go_ret
      exact ⟨ret_bool (by rw [EA.out, KA.out]), GB.out⟩
end Go.Proofs.Ytpbfdjiglacbbab.base
