/-
  Games on the model's side, walked: whether a tube can be completed.
-/
/-
  Games on the model's side, walked: pours that can hurt.
-/
import Derived.Test.YtnldnjnnjfbhnabGmQZ
import Derived.Test.YtnldnjnnjfbhnabGmXZ

section
namespace Go.Proofs.Ytnldnjnnjfbhnab.base
open Go.ChangeShapes Go.WideShapes Go.ChangeAt Go.RowKit
set_option linter.unusedVariables false
set_option linter.unusedSimpArgs false


set_option maxHeartbeats 3200000 in
set_option maxRecDepth 100000 in
theorem completesS_any (ns : List Int) (w : World) (h24 : ns.length = 24) (hv : vR ns = true) :
    Calls Try.prog 51 #[row ns] w fun e w' => e = .returned (.bool (anyCA ns)) ∧ Kept w w' := by
  have G : GR ns := ⟨h24, hv⟩
  have HB := Lib.hid ((kept_refl w).alloc (.cells (ints ns).toArray 27))
  have H := Has.box w 27 h24 (by omega)
  have KU := Lib.hid (fun W => l2Useful_any ns W h24 hv)
  have E1 := Lib.hid (show usefNA ns = usefN ns (poursN ns 36) by unfold usefNA; rw [if_pos hv])
  have E2 := Lib.hid (show usefFA ns = usefF ns (poursN ns 36) by unfold usefFA; rw [if_pos hv])
  have UN := Lib.hid (fun k hk => up_natG G k hk)
  have NG := Lib.hid (fun k hk => nx_good G k hk)
  have EA : Hid (anyCA ns = anyC ns (usefNA ns)) := Lib.hid rfl
  have C24 := Lib.hid h24
  have CV := Lib.hid hv
  have hi0 : (Try.prog.info? 27).map (·.size) = some 24 := by kernel_rfl
  have hi1 : (Try.prog.info? 27).map (·.size) = some (ints ns).length := by rw [ints_len, h24]; exact hi0
  have N30 := use30 ns
  rw [row_ints]
  clear h24 hv G
  go_enter Try.func51, Try.ntmps51
  go_wp2_with (refine load_has rfl 27 _ rfl _ rfl ?_ 24 ?_ _ Try.underlying27 rfl ?_ ?_; rotate_left; (· (repeat (first | (with_reducible assumption) | ((with_reducible refine Has.box _ _ ?_ ?_) <;> (first | assumption | decide)) | (with_reducible refine Has.alloc ?_ _) | ((with_reducible refine Has.putOther ?_ _ _ ?_); rotate_left; omega; skip) | ((with_reducible refine Has.below ?_ ?_); rotate_left; assumption)))); (· kernel_rfl))
  refine (KU.out _).mono ?_
  rintro e w1 ⟨v, rfl, q1, b1⟩
  rw [← E1.out, ← E2.out] at q1
  obtain ⟨va, vc, rfl⟩ := q1.rw.shape
  have R0 := Lib.hid ((q1.mono (b' := 0) (Nat.zero_le _)).rw)
  replace H := H.below b1
  replace HB := Lib.hid (HB.out.call b1)
  clear b1 q1 KU E1 E2
  obtain ⟨N, hN⟩ : ∃ N, usefNA ns = N := ⟨_, rfl⟩
  rw [hN] at R0 UN NG N30 EA ⊢
  clear hN
  go_wp2_with fail
  go_loopw [4] (fun z wr => ∃ k : Nat, k ≤ N ∧ z = .int .i64 k ∧ Hid (anyC ns k = false) ∧ Has wr w.heap.size ns 24 ∧ Hid (Rw wr 0 (.slice va N vc) N (usefFA ns)) ∧ Hid (Kept w wr)) (fun z _ => N - (intOf z).toNat)
  case atStart => exact ⟨0, by omega, rfl, Lib.hid rfl, H, R0, HB⟩
  case round =>
    clear H R0 HB
    obtain ⟨k, hk, rfl, KA, G1, GR', GB⟩ := hrel
    by_cases hkN : k < N
    · have Np : 0 < N := by omega
      obtain ⟨gg, gcap, he, hgb, hgl⟩ := GR'.out.form Np
      injection he with e1 _ e3
      subst e1
      subst e3
      have hki : (k : Int) < (N : Int) := by omega
      have hk0 : (0 : Int) ≤ (k : Int) := by omega
      obtain ⟨p, q, p6, q6, hne, hcn, hid, hx, hy, hnx, hok⟩ := UN.out k hkN
      have gx := NG.out k hkN
      have ES := Lib.hid (anyC_succ ns k)
      rw [hnx] at gx
      have C0 : Hid (∀ w', Kept wr w' → w'.cell? ⟨gg, k * 2, none⟩ = some (.int .i64 (p : Int))) := Lib.hid (fun w' hw => (GR'.out.below hw).cellX (by omega) hx)
      have C1 : Hid (∀ w', Kept wr w' → w'.cell? ⟨gg, k * 2 + 1, none⟩ = some (.int .i64 (q : Int))) := Lib.hid (fun w' hw => (GR'.out.below hw).cellX (by omega) hy)
      have R24 := gx.1
      have RV := Lib.hid gx.2
      have HNE := Lib.hid hne
      have HC := Lib.hid hcn
      obtain ⟨R, hR⟩ : ∃ R, pourT ns p q = R := ⟨_, rfl⟩
      rw [hR] at R24 RV hnx
      have HR := Lib.hid hR
      have HNX := Lib.hid hnx
      have HY := Lib.hid hy
      have HX := Lib.hid hx
      have l2 : (ints R).length = 24 := by rw [ints_len]; exact R24
      have HR24 := Lib.hid R24
      clear hne hcn hx hy hid hok hR hnx gx
      have EC : Hid (cpl ns k = decide (topN (tub R q) = 4)) := Lib.hid (by unfold cpl; rw [HNX.out, HY.out, Int.toNat_natCast])
      have NB : Hid (decide ((q : Int) ∈ cmpl ns 6) = false) := Lib.hid (by
        rw [decide_eq_false_iff_not, cmpl_mem]
        rintro ⟨_, h4⟩
        have F := tubeFacts (tub_len ns q C24.out q6) (vR_tub CV.out q q6)
        have h1 := F.topN
        have h2 := HC.out
        have h3 := (canN_le (tub_len ns p C24.out p6) (tub_len ns q C24.out q6) (vR_tub CV.out p p6) (vR_tub CV.out q q6)).2.1
        omega)
      have NA : Hid (decide ((q : Int) ∈ cmpl R 6) = decide (topN (tub R q) = 4)) := Lib.hid (by
        apply decide_eq_decide.2
        rw [cmpl_mem]
        exact ⟨fun h => h.2, fun h => ⟨q6, h⟩⟩)
      have KC1 := Lib.hid (fun W => l10Complete_any ns W C24.out CV.out)
      have KC2 := Lib.hid (fun W => l10Complete_any R W R24 RV.out)
      have hgl2 := hgl
      go_wp2_with fail
      refine wp_region_held_drew (S := fun w' => Kept wr w') (by kernel_rfl) ?_ (fun hHeld => ?_)
      · exact (kept_refl wr).drewN 1
      (refine wpAnyH_take (i := 1) (v := ?_) rfl (by kernel_rfl) (by kernel_rfl) (by kernel_rfl) (fun _ _ _ h => h) (Or.inl ⟨by rfl, ?_⟩) hHeld ?_; rotate_left; (· (intro w' hSw; go_simp; try with_reducible rfl)); (try simp only [List.getElem_toArray, List.getElem_cons_zero, List.getElem_cons_succ, Act.put, List.setIfInBounds_toArray, List.set_cons_zero, List.set_cons_succ])); (refine wpAnyH_take (i := 2) (v := ?_) rfl (by kernel_rfl) (by kernel_rfl) (by kernel_rfl) (fun _ _ _ h => h) (Or.inl ⟨by rfl, ?_⟩) hHeld ?_; rotate_left; (· (intro w' hSw; go_simp; try with_reducible rfl)); (try simp only [List.getElem_toArray, List.getElem_cons_zero, List.getElem_cons_succ, Act.put, List.setIfInBounds_toArray, List.set_cons_zero, List.set_cons_succ])); (refine wpAnyH_take (i := 3) (v := ?_) rfl (by kernel_rfl) (by kernel_rfl) (by kernel_rfl) (fun _ _ _ h => h) (Or.inl ⟨by rfl, ?_⟩) hHeld ?_; rotate_left; (· (intro w' hSw; go_simp; try with_reducible rfl)); (try simp only [List.getElem_toArray, List.getElem_cons_zero, List.getElem_cons_succ, Act.put, List.setIfInBounds_toArray, List.set_cons_zero, List.set_cons_succ])); (refine wpAnyH_take (i := 4) (v := ?_) rfl (by kernel_rfl) (by kernel_rfl) (by kernel_rfl) (fun _ _ _ h => h) (Or.inl ⟨by rfl, ?_⟩) hHeld ?_; rotate_left; (· (intro w' hSw; go_simp; try with_reducible rfl)); (try simp only [List.getElem_toArray, List.getElem_cons_zero, List.getElem_cons_succ, Act.put, List.setIfInBounds_toArray, List.set_cons_zero, List.set_cons_succ])); (refine wpAnyH_take (i := 6) (v := ?_) rfl (by kernel_rfl) (by kernel_rfl) (by kernel_rfl) (fun _ _ _ h => h) (Or.inl ⟨by rfl, ?_⟩) hHeld ?_; rotate_left; (· (intro w' hSw; go_simp; try with_reducible rfl)); (try simp only [List.getElem_toArray, List.getElem_cons_zero, List.getElem_cons_succ, Act.put, List.setIfInBounds_toArray, List.set_cons_zero, List.set_cons_succ])); (refine wpAnyH_take (i := 7) (v := ?_) rfl (by kernel_rfl) (by kernel_rfl) (by kernel_rfl) (fun _ _ _ h => h) (Or.inl ⟨by rfl, ?_⟩) hHeld ?_; rotate_left; (· (intro w' hSw; go_simp; try with_reducible rfl)); (try simp only [List.getElem_toArray, List.getElem_cons_zero, List.getElem_cons_succ, Act.put, List.setIfInBounds_toArray, List.set_cons_zero, List.set_cons_succ])); (refine wpAnyH_take (i := 8) (v := ?_) rfl (by kernel_rfl) (by kernel_rfl) (by kernel_rfl) (fun _ _ _ h => h) (Or.inl ⟨by rfl, ?_⟩) hHeld ?_; rotate_left; (· (intro w' hSw; go_simp; try with_reducible rfl)); (try simp only [List.getElem_toArray, List.getElem_cons_zero, List.getElem_cons_succ, Act.put, List.setIfInBounds_toArray, List.set_cons_zero, List.set_cons_succ])); (refine wpAnyH_take (i := 9) (v := ?_) rfl (by kernel_rfl) (by kernel_rfl) (by kernel_rfl) (fun _ _ _ h => h) (Or.inl ⟨by rfl, ?_⟩) hHeld ?_; rotate_left; (· (intro w' hSw; go_simp; try with_reducible rfl)); (try simp only [List.getElem_toArray, List.getElem_cons_zero, List.getElem_cons_succ, Act.put, List.setIfInBounds_toArray, List.set_cons_zero, List.set_cons_succ]))
      (refine wpAnyH_take (i := 0) (v := _) rfl (by kernel_rfl) (by kernel_rfl) (by kernel_rfl) (fun _ _ _ h => h) (yieldsIf_load_mid (by rfl) 27 _ rfl _ _ rfl (ints ns) _ (fun w' hSw => (G1.below hSw).holds.range) Try.underlying27 rfl (hi1)) hHeld ?_; (try simp only [List.getElem_toArray, List.getElem_cons_zero, List.getElem_cons_succ, Act.put, List.setIfInBounds_toArray, List.set_cons_zero, List.set_cons_succ]))
      refine wpAnyH_take (i := 5) (v := .int .i64 (p : Int)) rfl (by kernel_rfl) (by kernel_rfl) (by kernel_rfl) (fun _ _ _ h => h) (Or.inl ⟨by rfl, ?_⟩) hHeld ?_
      · intro w' hSw
        have cc := C0.out w' hSw
        go_simp
      (try simp only [List.getElem_toArray, List.getElem_cons_zero, List.getElem_cons_succ, Act.put, List.setIfInBounds_toArray, List.set_cons_zero, List.set_cons_succ])
      refine wpAnyH_take (i := 10) (v := .int .i64 (q : Int)) rfl (by kernel_rfl) (by kernel_rfl) (by kernel_rfl) (fun _ _ _ h => h) (Or.inl ⟨by rfl, ?_⟩) hHeld ?_
      · intro w' hSw
        have cc := C1.out w' hSw
        go_simp
      (try simp only [List.getElem_toArray, List.getElem_cons_zero, List.getElem_cons_succ, Act.put, List.setIfInBounds_toArray, List.set_cons_zero, List.set_cons_succ])
      refine wpAnyH_ready (rs := [11, 15]) (by kernel_rfl) (by simp) ?_
      refine AllReadyH.cons (o := _) rfl (fun K hK => ?callFirst) (AllReadyH.cons (o := _) rfl (fun K hK => ?makeFirst) AllReadyH.nil)
      case' callFirst =>
        (simp only [List.getElem_toArray, List.getElem_cons_zero, List.getElem_cons_succ, Region.wanted, if_true])
        go_simp
        refine (l2Pour_any ns p q _ C24.out CV.out p6 q6 HNE.out HC.out).mono ?_
        rintro e wp2 ⟨rfl, bp2⟩
        rw [HR.out]
        dsimp only
        (try simp only [List.getElem_toArray, List.getElem_cons_zero, List.getElem_cons_succ, Act.put, List.setIfInBounds_toArray, List.set_cons_zero, List.set_cons_succ])
        have KW := Kept.call hHeld bp2
        refine hK.out _ _ KW (fun hHeld => ?_)
        clear hK K bp2
        (refine wpAnyH_take (i := 12) (v := ?_) rfl (by kernel_rfl) (by kernel_rfl) (by kernel_rfl) (fun _ _ _ h => h) (Or.inl ⟨by rfl, ?_⟩) hHeld ?_; rotate_left; (· (intro w' hSw; go_simp; try with_reducible rfl)); (try simp only [List.getElem_toArray, List.getElem_cons_zero, List.getElem_cons_succ, Act.put, List.setIfInBounds_toArray, List.set_cons_zero, List.set_cons_succ])); (refine wpAnyH_take (i := 13) (v := ?_) rfl (by kernel_rfl) (by kernel_rfl) (by kernel_rfl) (fun _ _ _ h => h) (Or.inl ⟨by rfl, ?_⟩) hHeld ?_; rotate_left; (· (intro w' hSw; go_simp; try with_reducible rfl)); (try simp only [List.getElem_toArray, List.getElem_cons_zero, List.getElem_cons_succ, Act.put, List.setIfInBounds_toArray, List.set_cons_zero, List.set_cons_succ])); (refine wpAnyH_take (i := 14) (v := ?_) rfl (by kernel_rfl) (by kernel_rfl) (by kernel_rfl) (fun _ _ _ h => h) (Or.inl ⟨by rfl, ?_⟩) hHeld ?_; rotate_left; (· (intro w' hSw; go_simp; try with_reducible rfl)); (try simp only [List.getElem_toArray, List.getElem_cons_zero, List.getElem_cons_succ, Act.put, List.setIfInBounds_toArray, List.set_cons_zero, List.set_cons_succ]))
        (refine wpAnyH_ready (rs := [15]) (by kernel_rfl) (by simp) ?_; refine AllReadyH.cons (o := _) rfl (fun K hK => ?_) AllReadyH.nil; (simp only [List.getElem_toArray, List.getElem_cons_zero, List.getElem_cons_succ, Region.wanted, if_true]))
        go_simp
        have F9 := Has.zero24 wp2 27
        have h9 := KW.size
        replace KW := KW.alloc (.cells #[.int .i64 0, .int .i64 0, .int .i64 0, .int .i64 0, .int .i64 0, .int .i64 0, .int .i64 0, .int .i64 0, .int .i64 0, .int .i64 0, .int .i64 0, .int .i64 0, .int .i64 0, .int .i64 0, .int .i64 0, .int .i64 0, .int .i64 0, .int .i64 0, .int .i64 0, .int .i64 0, .int .i64 0, .int .i64 0, .int .i64 0, .int .i64 0] 27)
        refine hK.out _ _ KW (fun hHeld => ?_)
        clear hK K
        generalize wp2.alloc (.cells #[.int .i64 0, .int .i64 0, .int .i64 0, .int .i64 0, .int .i64 0, .int .i64 0, .int .i64 0, .int .i64 0, .int .i64 0, .int .i64 0, .int .i64 0, .int .i64 0, .int .i64 0, .int .i64 0, .int .i64 0, .int .i64 0, .int .i64 0, .int .i64 0, .int .i64 0, .int .i64 0, .int .i64 0, .int .i64 0, .int .i64 0, .int .i64 0] 27) = wp3 at *
        generalize wp2.heap.size = b9 at *
      case' makeFirst =>
        (simp only [List.getElem_toArray, List.getElem_cons_zero, List.getElem_cons_succ, Region.wanted, if_true])
        go_simp
        have F9 : Has _ wr.heap.size z24 24 := Has.zero24 wr.drew 27
        have KW := Kept.alloc hHeld (.cells #[.int .i64 0, .int .i64 0, .int .i64 0, .int .i64 0, .int .i64 0, .int .i64 0, .int .i64 0, .int .i64 0, .int .i64 0, .int .i64 0, .int .i64 0, .int .i64 0, .int .i64 0, .int .i64 0, .int .i64 0, .int .i64 0, .int .i64 0, .int .i64 0, .int .i64 0, .int .i64 0, .int .i64 0, .int .i64 0, .int .i64 0, .int .i64 0] 27)
        obtain ⟨b9, hb9⟩ : ∃ b : Nat, b = wr.heap.size := ⟨_, rfl⟩
        have h9 : wr.heap.size ≤ b9 := by omega
        rw [← hb9] at F9
        refine hK.out _ _ KW (fun hHeld => ?_)
        clear hK K
        (refine wpAnyH_ready (rs := [11]) (by kernel_rfl) (by simp) ?_; refine AllReadyH.cons (o := _) rfl (fun K hK => ?_) AllReadyH.nil; (simp only [List.getElem_toArray, List.getElem_cons_zero, List.getElem_cons_succ, Region.wanted, if_true]))
        go_simp
        refine (l2Pour_any ns p q _ C24.out CV.out p6 q6 HNE.out HC.out).mono ?_
        rintro e wp3 ⟨rfl, bp2⟩
        rw [HR.out]
        dsimp only
        (try simp only [List.getElem_toArray, List.getElem_cons_zero, List.getElem_cons_succ, Act.put, List.setIfInBounds_toArray, List.set_cons_zero, List.set_cons_succ])
        replace F9 := F9.below bp2
        replace KW := KW.call bp2
        refine hK.out _ _ KW (fun hHeld => ?_)
        clear hK K bp2
        (refine wpAnyH_take (i := 12) (v := ?_) rfl (by kernel_rfl) (by kernel_rfl) (by kernel_rfl) (fun _ _ _ h => h) (Or.inl ⟨by rfl, ?_⟩) hHeld ?_; rotate_left; (· (intro w' hSw; go_simp; try with_reducible rfl)); (try simp only [List.getElem_toArray, List.getElem_cons_zero, List.getElem_cons_succ, Act.put, List.setIfInBounds_toArray, List.set_cons_zero, List.set_cons_succ])); (refine wpAnyH_take (i := 13) (v := ?_) rfl (by kernel_rfl) (by kernel_rfl) (by kernel_rfl) (fun _ _ _ h => h) (Or.inl ⟨by rfl, ?_⟩) hHeld ?_; rotate_left; (· (intro w' hSw; go_simp; try with_reducible rfl)); (try simp only [List.getElem_toArray, List.getElem_cons_zero, List.getElem_cons_succ, Act.put, List.setIfInBounds_toArray, List.set_cons_zero, List.set_cons_succ])); (refine wpAnyH_take (i := 14) (v := ?_) rfl (by kernel_rfl) (by kernel_rfl) (by kernel_rfl) (fun _ _ _ h => h) (Or.inl ⟨by rfl, ?_⟩) hHeld ?_; rotate_left; (· (intro w' hSw; go_simp; try with_reducible rfl)); (try simp only [List.getElem_toArray, List.getElem_cons_zero, List.getElem_cons_succ, Act.put, List.setIfInBounds_toArray, List.set_cons_zero, List.set_cons_succ]))
        rw [← hb9]
        clear hb9
      all_goals
        (refine wpAnyH_ready (rs := [16]) (by kernel_rfl) (by simp) ?_; refine AllReadyH.cons (o := _) rfl (fun K hK => ?_) AllReadyH.nil; (simp only [List.getElem_toArray, List.getElem_cons_zero, List.getElem_cons_succ, Region.wanted, if_true]))
        refine wp_store_mid _ _ _ rfl _ _ (ints R).toArray rfl rfl (by simpa [l2] using F9.there) (by simpa [l2] using hi0) (all_oneCell_toArray (ints_one _)) ?_
        (try simp only [List.getElem_toArray, List.getElem_cons_zero, List.getElem_cons_succ, Act.put, List.setIfInBounds_toArray, List.set_cons_zero, List.set_cons_succ, List.toList_toArray])
        replace F9 := F9.putAll R R24
        replace KW := KW.puts (b := b9) h9 0 (ints R)
        refine hK.out _ _ KW (fun hHeld => ?_)
        clear hK K
        (refine wpAnyH_take (i := 17) (v := ?_) rfl (by kernel_rfl) (by kernel_rfl) (by kernel_rfl) (fun _ _ _ h => h) (Or.inl ⟨by rfl, ?_⟩) hHeld ?_; rotate_left; (· (intro w' hSw; go_simp; try with_reducible rfl)); (try simp only [List.getElem_toArray, List.getElem_cons_zero, List.getElem_cons_succ, Act.put, List.setIfInBounds_toArray, List.set_cons_zero, List.set_cons_succ]))
        refine wpAnyH_done (by kernel_rfl) ?_ _
        clear hHeld
        generalize wp3.setCells b9 0 (ints R) = wp4 at *
        replace G1 := G1.below KW
        replace GR' := Lib.hid (GR'.out.below KW)
        replace GB := Lib.hid (GB.out.call KW)
        have C2 : Hid (∀ w', Kept wp4 w' → w'.cell? ⟨gg, k * 2 + 1, none⟩ = some (.int .i64 (q : Int))) := Lib.hid (fun w' hw => C1.out w' (KW.call hw))
        clear KW C0 C1 h9
        have hi2 : (Try.prog.info? 27).map (·.size) = some (ints R).length := by rw [l2]; exact hi0
        go_wp2_with (refine load_has rfl 27 _ rfl _ rfl ?_ 24 ?_ _ Try.underlying27 rfl ?_ ?_; rotate_left; (· (repeat (first | (with_reducible assumption) | ((with_reducible refine Has.box _ _ ?_ ?_) <;> (first | assumption | decide)) | (with_reducible refine Has.alloc ?_ _) | ((with_reducible refine Has.putOther ?_ _ _ ?_); rotate_left; omega; skip) | ((with_reducible refine Has.below ?_ ?_); rotate_left; assumption)))); (· kernel_rfl))
        refine (KC1.out _).mono ?_
        rintro e w5 ⟨v5, rfl, q5, b5⟩
        have Q5 := Lib.hid q5
        replace G1 := G1.below b5
        replace F9 := F9.below b5
        replace GR' := Lib.hid (GR'.out.below b5)
        replace GB := Lib.hid (GB.out.call b5)
        replace C2 : Hid (∀ w', Kept w5 w' → w'.cell? ⟨gg, k * 2 + 1, none⟩ = some (.int .i64 (q : Int))) := Lib.hid (fun w' hw => C2.out w' (b5.call hw))
        clear q5 b5
        go_wp2_with fail
        refine wp_region_held_drew (S := fun w' => Kept w5 w') (by kernel_rfl) ((kept_refl w5).drewN 1) (fun hHeld => ?_)
        generalize w5.drew = WD at *
        (refine wpAnyH_take (i := 0) (v := ?_) rfl (by kernel_rfl) (by kernel_rfl) (by kernel_rfl) (fun _ _ _ h => h) (Or.inl ⟨by rfl, ?_⟩) hHeld ?_; rotate_left; (· (intro w' hSw; go_simp; try with_reducible rfl)); (try simp only [List.getElem_toArray, List.getElem_cons_zero, List.getElem_cons_succ, Act.put, List.setIfInBounds_toArray, List.set_cons_zero, List.set_cons_succ])); (refine wpAnyH_take (i := 1) (v := ?_) rfl (by kernel_rfl) (by kernel_rfl) (by kernel_rfl) (fun _ _ _ h => h) (Or.inl ⟨by rfl, ?_⟩) hHeld ?_; rotate_left; (· (intro w' hSw; go_simp; try with_reducible rfl)); (try simp only [List.getElem_toArray, List.getElem_cons_zero, List.getElem_cons_succ, Act.put, List.setIfInBounds_toArray, List.set_cons_zero, List.set_cons_succ])); (refine wpAnyH_take (i := 2) (v := ?_) rfl (by kernel_rfl) (by kernel_rfl) (by kernel_rfl) (fun _ _ _ h => h) (Or.inl ⟨by rfl, ?_⟩) hHeld ?_; rotate_left; (· (intro w' hSw; go_simp; try with_reducible rfl)); (try simp only [List.getElem_toArray, List.getElem_cons_zero, List.getElem_cons_succ, Act.put, List.setIfInBounds_toArray, List.set_cons_zero, List.set_cons_succ])); (refine wpAnyH_take (i := 3) (v := ?_) rfl (by kernel_rfl) (by kernel_rfl) (by kernel_rfl) (fun _ _ _ h => h) (Or.inl ⟨by rfl, ?_⟩) hHeld ?_; rotate_left; (· (intro w' hSw; go_simp; try with_reducible rfl)); (try simp only [List.getElem_toArray, List.getElem_cons_zero, List.getElem_cons_succ, Act.put, List.setIfInBounds_toArray, List.set_cons_zero, List.set_cons_succ])); (refine wpAnyH_take (i := 4) (v := ?_) rfl (by kernel_rfl) (by kernel_rfl) (by kernel_rfl) (fun _ _ _ h => h) (Or.inl ⟨by rfl, ?_⟩) hHeld ?_; rotate_left; (· (intro w' hSw; go_simp; try with_reducible rfl)); (try simp only [List.getElem_toArray, List.getElem_cons_zero, List.getElem_cons_succ, Act.put, List.setIfInBounds_toArray, List.set_cons_zero, List.set_cons_succ]))
        (refine wpAnyH_take (i := 5) (v := .int .i64 (q : Int)) rfl (by kernel_rfl) (by kernel_rfl) (by kernel_rfl) (fun _ _ _ h => h) (Or.inl ⟨by rfl, ?_⟩) hHeld ?_; (· (intro w' hSw; have q := C2.out w' hSw; clear hSw; go_simp; try with_reducible rfl)); (try simp only [List.getElem_toArray, List.getElem_cons_zero, List.getElem_cons_succ, Act.put, List.setIfInBounds_toArray, List.set_cons_zero, List.set_cons_succ]))
        (refine wpAnyH_ready (rs := [6]) (by kernel_rfl) (by simp) ?_; refine AllReadyH.cons (o := _) rfl (fun K hK => ?_) AllReadyH.nil; (simp only [List.getElem_toArray, List.getElem_cons_zero, List.getElem_cons_succ, Region.wanted, if_true]))
        go_simp
        refine (l1Has_any v5 _ _ (q : Int) _ _ (show Ow WD _ v5 _ _ from Q5.out.below hHeld) (cmpl_le ns 6)).mono ?_
        rintro e wq ⟨rfl, rfl⟩
        rw [NB.out]
        dsimp only
        (try simp only [List.getElem_toArray, List.getElem_cons_zero, List.getElem_cons_succ, Act.put, List.setIfInBounds_toArray, List.set_cons_zero, List.set_cons_succ])
        refine hK.out _ _ hHeld (fun hHeld => ?_)
        clear hK K
        (refine wpAnyH_take (i := 7) (v := ?_) rfl (by kernel_rfl) (by kernel_rfl) (by kernel_rfl) (fun _ _ _ h => h) (Or.inl ⟨by rfl, ?_⟩) hHeld ?_; rotate_left; (· (intro w' hSw; go_simp; try with_reducible rfl)); (try simp only [List.getElem_toArray, List.getElem_cons_zero, List.getElem_cons_succ, Act.put, List.setIfInBounds_toArray, List.set_cons_zero, List.set_cons_succ])); (refine wpAnyH_take (i := 8) (v := ?_) rfl (by kernel_rfl) (by kernel_rfl) (by kernel_rfl) (fun _ _ _ h => h) (Or.inl ⟨by rfl, ?_⟩) hHeld ?_; rotate_left; (· (intro w' hSw; go_simp; try with_reducible rfl)); (try simp only [List.getElem_toArray, List.getElem_cons_zero, List.getElem_cons_succ, Act.put, List.setIfInBounds_toArray, List.set_cons_zero, List.set_cons_succ])); (refine wpAnyH_take (i := 11) (v := ?_) rfl (by kernel_rfl) (by kernel_rfl) (by kernel_rfl) (fun _ _ _ h => h) (Or.inl ⟨by rfl, ?_⟩) hHeld ?_; rotate_left; (· (intro w' hSw; go_simp; try with_reducible rfl)); (try simp only [List.getElem_toArray, List.getElem_cons_zero, List.getElem_cons_succ, Act.put, List.setIfInBounds_toArray, List.set_cons_zero, List.set_cons_succ])); (refine wpAnyH_take (i := 12) (v := ?_) rfl (by kernel_rfl) (by kernel_rfl) (by kernel_rfl) (fun _ _ _ h => h) (Or.inl ⟨by rfl, ?_⟩) hHeld ?_; rotate_left; (· (intro w' hSw; go_simp; try with_reducible rfl)); (try simp only [List.getElem_toArray, List.getElem_cons_zero, List.getElem_cons_succ, Act.put, List.setIfInBounds_toArray, List.set_cons_zero, List.set_cons_succ])); (refine wpAnyH_take (i := 13) (v := ?_) rfl (by kernel_rfl) (by kernel_rfl) (by kernel_rfl) (fun _ _ _ h => h) (Or.inl ⟨by rfl, ?_⟩) hHeld ?_; rotate_left; (· (intro w' hSw; go_simp; try with_reducible rfl)); (try simp only [List.getElem_toArray, List.getElem_cons_zero, List.getElem_cons_succ, Act.put, List.setIfInBounds_toArray, List.set_cons_zero, List.set_cons_succ])); (refine wpAnyH_take (i := 14) (v := ?_) rfl (by kernel_rfl) (by kernel_rfl) (by kernel_rfl) (fun _ _ _ h => h) (Or.inl ⟨by rfl, ?_⟩) hHeld ?_; rotate_left; (· (intro w' hSw; go_simp; try with_reducible rfl)); (try simp only [List.getElem_toArray, List.getElem_cons_zero, List.getElem_cons_succ, Act.put, List.setIfInBounds_toArray, List.set_cons_zero, List.set_cons_succ]))
        (refine wpAnyH_take (i := 9) (v := _) rfl (by kernel_rfl) (by kernel_rfl) (by kernel_rfl) (fun _ _ _ h => h) (yieldsIf_load_mid (by rfl) 27 _ rfl _ _ rfl (ints R) _ (fun w' hSw => (F9.below hSw).holds.range) Try.underlying27 rfl (hi2)) hHeld ?_; (try simp only [List.getElem_toArray, List.getElem_cons_zero, List.getElem_cons_succ, Act.put, List.setIfInBounds_toArray, List.set_cons_zero, List.set_cons_succ]))
        (refine wpAnyH_take (i := 15) (v := .int .i64 (q : Int)) rfl (by kernel_rfl) (by kernel_rfl) (by kernel_rfl) (fun _ _ _ h => h) (Or.inl ⟨by rfl, ?_⟩) hHeld ?_; (· (intro w' hSw; have q := C2.out w' hSw; clear hSw; go_simp; try with_reducible rfl)); (try simp only [List.getElem_toArray, List.getElem_cons_zero, List.getElem_cons_succ, Act.put, List.setIfInBounds_toArray, List.set_cons_zero, List.set_cons_succ]))
        (refine wpAnyH_ready (rs := [10]) (by kernel_rfl) (by simp) ?_; refine AllReadyH.cons (o := _) rfl (fun K hK => ?_) AllReadyH.nil; (simp only [List.getElem_toArray, List.getElem_cons_zero, List.getElem_cons_succ, Region.wanted, if_true]))
        go_simp
        refine (KC2.out _).mono ?_
        rintro e w7 ⟨v7, rfl, q7, b7⟩
        dsimp only
        (try simp only [List.getElem_toArray, List.getElem_cons_zero, List.getElem_cons_succ, Act.put, List.setIfInBounds_toArray, List.set_cons_zero, List.set_cons_succ])
        have KH := Kept.call hHeld b7
        refine hK.out _ _ KH (fun hHeld => ?_)
        clear hK K
        (refine wpAnyH_ready (rs := [16]) (by kernel_rfl) (by simp) ?_; refine AllReadyH.cons (o := _) rfl (fun K hK => ?_) AllReadyH.nil; (simp only [List.getElem_toArray, List.getElem_cons_zero, List.getElem_cons_succ, Region.wanted, if_true]))
        go_simp
        refine (l1Has_any v7 _ _ (q : Int) _ _ (show Ow w7 _ v7 _ _ from q7) (cmpl_le R 6)).mono ?_
        rintro e wq ⟨rfl, rfl⟩
        rw [NA.out, ← EC.out]
        dsimp only
        (try simp only [List.getElem_toArray, List.getElem_cons_zero, List.getElem_cons_succ, Act.put, List.setIfInBounds_toArray, List.set_cons_zero, List.set_cons_succ])
        refine hK.out _ _ KH (fun hHeld => ?_)
        clear hK K
        (refine wpAnyH_take (i := 17) (v := ?_) rfl (by kernel_rfl) (by kernel_rfl) (by kernel_rfl) (fun _ _ _ h => h) (Or.inl ⟨by rfl, ?_⟩) hHeld ?_; rotate_left; (· (intro w' hSw; go_simp; try with_reducible rfl)); (try simp only [List.getElem_toArray, List.getElem_cons_zero, List.getElem_cons_succ, Act.put, List.setIfInBounds_toArray, List.set_cons_zero, List.set_cons_succ]))
        refine wpAnyH_done (by kernel_rfl) ?_ _
        replace G1 := G1.below KH
        replace GR' := Lib.hid (GR'.out.below KH)
        replace GB := Lib.hid (GB.out.call KH)
        clear hHeld KH q7 b7 F9 Q5 C2
        cases hcc : cpl ns k with
        | true =>
          have E2 := Lib.hid (show ∃ j, j < N ∧ cpl ns j = true from ⟨k, hkN, hcc⟩)
          clear hcc
          go_wp2_with fail
          go_ret
          refine ⟨ret_bool ?_, GB.out⟩
          rw [EA.out]
          obtain ⟨j, hj, hc⟩ := E2.out
          exact (List.any_eq_true.2 ⟨j, List.mem_range.2 hj, hc⟩).symm
        | false =>
          have E2 := Lib.hid (show anyC ns (k + 1) = false by rw [ES.out, KA.out, hcc]; rfl)
          clear hcc
          go_wp2_with fail
          go_roundw
          case rel => exact ⟨k + 1, by omega, by go_num, E2, G1, GR', GB⟩
          case measure => simp [intOf]; omega
    · obtain rfl : k = N := by omega
      go_wp2_with fail
      go_ret
      exact ⟨ret_bool (by rw [EA.out, KA.out]), GB.out⟩
end Go.Proofs.Ytnldnjnnjfbhnab.base
end

section
namespace Go.Proofs.Ytnldnjnnjfbhnab.base
open Go.ChangeShapes Go.WideShapes Go.ChangeAt Go.RowKit
set_option linter.unusedVariables false
set_option linter.unusedSimpArgs false

set_option maxHeartbeats 3200000 in
set_option maxRecDepth 100000 in
theorem specCanHurt (ns : List Int) (w : World) (h24 : ns.length = 24) :
    Calls Try.prog 23 #[row ns] w (HurPost ns w) := by
  obtain ⟨i0, hi, hz0, hz1, hz2⟩ := info_parts infoPair
  have HB := Lib.hid (((kept_refl w).alloc (.cells (ints ns).toArray 27)).alloc (.cells #[] 36))
  have H := (Has.box w 27 h24 (by omega)).alloc (.cells #[] 36)
  have P0 := Lib.hid (by have := Prs.none (w.alloc (.cells (ints ns).toArray 27)) (w.heap.size + 1) (by simp); rwa [size1] at this)
  have N30 := use30 ns
  have hi0 : (Try.prog.info? 27).map (·.size) = some 24 := by kernel_rfl
  have hi1 : (Try.prog.info? 27).map (·.size) = some (ints ns).length := by rw [ints_len, h24]; exact hi0
  rw [row_ints]
  go_enter Try.func23, Try.ntmps23
  go_wp2_with (refine load_has rfl 27 _ rfl _ rfl ?_ 24 ?_ _ Try.underlying27 rfl ?_ ?_; rotate_left; (· (repeat (first | (with_reducible assumption) | ((with_reducible refine Has.box _ _ ?_ ?_) <;> (first | assumption | decide)) | (with_reducible refine Has.alloc ?_ _) | ((with_reducible refine Has.putOther ?_ _ _ ?_); rotate_left; omega; skip) | ((with_reducible refine Has.below ?_ ?_); rotate_left; assumption)))); (· kernel_rfl))
  refine (l2Rack_any ns _ h24).mono ?_
  rintro e w1 ⟨rfl, b1⟩
  have hs1 := b1.size
  simp only [size1] at hs1
  replace H := H.below b1
  replace HB := Lib.hid (HB.out.call b1)
  replace P0 := Lib.hid (P0.out.below b1)
  clear b1
  by_cases hv : vR ns = true
  rotate_left
  · have hf : vR ns = false := by simpa using hv
    have E := Lib.hid hf
    have Z := Lib.hid (use_no hf)
    rw [hf]
    clear hf hv
    go_wp2_with fail
    go_ret2
    exact ⟨_, by rw [E.out]; rfl, by rw [Z.out]; rw [(hur0 ns).1, (hur0 ns).2]; exact P0.out.mono (by omega), HB.out⟩
  rw [hv]
  have E := Lib.hid hv
  have G : GR ns := ⟨h24, hv⟩
  have KU := Lib.hid (fun W => l2Useful_any ns W h24 hv)
  have E1 := Lib.hid (show usefNA ns = usefN ns (poursN ns 36) by unfold usefNA; rw [if_pos hv])
  have E2 := Lib.hid (show usefFA ns = usefF ns (poursN ns 36) by unfold usefFA; rw [if_pos hv])
  have UN := Lib.hid (fun k hk => up_natG G k hk)
  have NG := Lib.hid (fun k hk => nx_good G k hk)
  have C24 := Lib.hid h24
  have CV := Lib.hid hv
  clear h24 hv G
  go_wp2_with (refine load_has rfl 27 _ rfl _ rfl ?_ 24 ?_ _ Try.underlying27 rfl ?_ ?_; rotate_left; (· (repeat (first | (with_reducible assumption) | ((with_reducible refine Has.box _ _ ?_ ?_) <;> (first | assumption | decide)) | (with_reducible refine Has.alloc ?_ _) | ((with_reducible refine Has.putOther ?_ _ _ ?_); rotate_left; omega; skip) | ((with_reducible refine Has.below ?_ ?_); rotate_left; assumption)))); (· kernel_rfl))
  refine (KU.out _).mono ?_
  rintro e w2 ⟨v, rfl, q2, b2⟩
  rw [← E1.out, ← E2.out] at q2
  obtain ⟨va, vc, rfl⟩ := q2.rw.shape
  have R0 := Lib.hid ((q2.mono (b' := 0) (Nat.zero_le _)).rw)
  replace H := H.below b2
  replace HB := Lib.hid (HB.out.call b2)
  have P1 := Lib.hid (P0.out.below b2)
  have AP : Hid (∀ z, (Value.slice (some ⟨w.heap.size + 1, 0, none⟩) 0 0).ownBlock = some z → (Value.slice va (usefNA ns) vc).ownBlock ≠ some z) := Lib.hid (fun z hz e => by
    have h1 := (q2.own z e)
    have h2 := Option.some.inj (show some (w.heap.size + 1) = some z from hz)
    omega)
  clear q2 b2 KU P0 E1 E2
  obtain ⟨N, hN⟩ : ∃ N, usefNA ns = N := ⟨_, rfl⟩
  have HN := Lib.hid hN
  rw [hN] at R0 AP UN NG N30 ⊢
  clear hN
  go_wp2_with fail
  go_loopw [4, 6] (fun u i wr => ∃ k : Nat, k ≤ N ∧ i = .int .i64 k ∧ Has wr w.heap.size ns 24 ∧ Hid (Prs wr (w.heap.size + 1) u (hurN ns k) (hurF ns k)) ∧ Hid (Rw wr 0 (.slice va N vc) N (usefFA ns)) ∧ Hid (∀ z, u.ownBlock = some z → (Value.slice va N vc).ownBlock ≠ some z) ∧ Hid (Kept w wr)) (fun _ z _ => N - (intOf z).toNat)
  case atStart => exact ⟨0, by omega, rfl, H, by rw [(hur0 ns).1, (hur0 ns).2]; exact P1, R0, AP, HB⟩
  case round =>
    clear H P1 R0 AP HB
    obtain ⟨k, hk, rfl, G1, GU, GR', GA, GB⟩ := hrel
    by_cases hkN : k < N
    · have Np : 0 < N := by omega
      obtain ⟨gg, gcap, he, hgb, hgl⟩ := GR'.out.form Np
      injection he with e1 _ e3
      subst e1
      subst e3
      have hki : (k : Int) < (N : Int) := by omega
      have hk0 : (0 : Int) ≤ (k : Int) := by omega
      obtain ⟨p, q, p6, q6, hne, hcn, hid, hx, hy, hnx, hok⟩ := UN.out k hkN
      have gx := NG.out k hkN
      have EY := Lib.hid (fun h => hur_yes (ns := ns) (k := k) h)
      have EN := Lib.hid (fun h => hur_no (ns := ns) (k := k) h)
      have hU := (hur_le ns k).1
      rw [hnx] at gx
      have C0 : Hid (∀ w', Kept wr w' → w'.cell? ⟨gg, k * 2, none⟩ = some (.int .i64 (p : Int))) := Lib.hid (fun w' hw => (GR'.out.below hw).cellX (by omega) hx)
      have C1 : Hid (∀ w', Kept wr w' → w'.cell? ⟨gg, k * 2 + 1, none⟩ = some (.int .i64 (q : Int))) := Lib.hid (fun w' hw => (GR'.out.below hw).cellX (by omega) hy)
      have R24 := gx.1
      have RV := Lib.hid gx.2
      have HNE := Lib.hid hne
      have HC := Lib.hid hcn
      obtain ⟨R, hR⟩ : ∃ R, pourT ns p q = R := ⟨_, rfl⟩
      rw [hR] at R24 RV hnx
      have HR := Lib.hid hR
      have HNX := Lib.hid hnx
      have HY := Lib.hid hy
      have HX := Lib.hid hx
      have l2 : (ints R).length = 24 := by rw [ints_len]; exact R24
      have HR24 := Lib.hid R24
      clear hne hcn hx hy hid hok hR hnx gx
      have EC : Hid (anyC (nxR ns k) (usefNA (nxR ns k)) = anyCA R) := Lib.hid (by rw [HNX.out]; rfl)
      rw [HX.out, HY.out] at EY
      have KC := Lib.hid (fun W => completesS_any R W R24 RV.out)
      have D0 := Lib.hid (fun W (h : Kept wr W) => range_two (C0.out W h) (C1.out W h))
      go_wp2_with fail
      refine wp_region_held_drew (S := fun w' => Kept wr w') (by kernel_rfl) ?_ (fun hHeld => ?_)
      · exact (kept_refl wr).drewN 1
      (refine wpAnyH_take (i := 1) (v := ?_) rfl (by kernel_rfl) (by kernel_rfl) (by kernel_rfl) (fun _ _ _ h => h) (Or.inl ⟨by rfl, ?_⟩) hHeld ?_; rotate_left; (· (intro w' hSw; go_simp; try with_reducible rfl)); (try simp only [List.getElem_toArray, List.getElem_cons_zero, List.getElem_cons_succ, Act.put, List.setIfInBounds_toArray, List.set_cons_zero, List.set_cons_succ])); (refine wpAnyH_take (i := 2) (v := ?_) rfl (by kernel_rfl) (by kernel_rfl) (by kernel_rfl) (fun _ _ _ h => h) (Or.inl ⟨by rfl, ?_⟩) hHeld ?_; rotate_left; (· (intro w' hSw; go_simp; try with_reducible rfl)); (try simp only [List.getElem_toArray, List.getElem_cons_zero, List.getElem_cons_succ, Act.put, List.setIfInBounds_toArray, List.set_cons_zero, List.set_cons_succ])); (refine wpAnyH_take (i := 3) (v := ?_) rfl (by kernel_rfl) (by kernel_rfl) (by kernel_rfl) (fun _ _ _ h => h) (Or.inl ⟨by rfl, ?_⟩) hHeld ?_; rotate_left; (· (intro w' hSw; go_simp; try with_reducible rfl)); (try simp only [List.getElem_toArray, List.getElem_cons_zero, List.getElem_cons_succ, Act.put, List.setIfInBounds_toArray, List.set_cons_zero, List.set_cons_succ])); (refine wpAnyH_take (i := 4) (v := ?_) rfl (by kernel_rfl) (by kernel_rfl) (by kernel_rfl) (fun _ _ _ h => h) (Or.inl ⟨by rfl, ?_⟩) hHeld ?_; rotate_left; (· (intro w' hSw; go_simp; try with_reducible rfl)); (try simp only [List.getElem_toArray, List.getElem_cons_zero, List.getElem_cons_succ, Act.put, List.setIfInBounds_toArray, List.set_cons_zero, List.set_cons_succ])); (refine wpAnyH_take (i := 6) (v := ?_) rfl (by kernel_rfl) (by kernel_rfl) (by kernel_rfl) (fun _ _ _ h => h) (Or.inl ⟨by rfl, ?_⟩) hHeld ?_; rotate_left; (· (intro w' hSw; go_simp; try with_reducible rfl)); (try simp only [List.getElem_toArray, List.getElem_cons_zero, List.getElem_cons_succ, Act.put, List.setIfInBounds_toArray, List.set_cons_zero, List.set_cons_succ])); (refine wpAnyH_take (i := 7) (v := ?_) rfl (by kernel_rfl) (by kernel_rfl) (by kernel_rfl) (fun _ _ _ h => h) (Or.inl ⟨by rfl, ?_⟩) hHeld ?_; rotate_left; (· (intro w' hSw; go_simp; try with_reducible rfl)); (try simp only [List.getElem_toArray, List.getElem_cons_zero, List.getElem_cons_succ, Act.put, List.setIfInBounds_toArray, List.set_cons_zero, List.set_cons_succ])); (refine wpAnyH_take (i := 8) (v := ?_) rfl (by kernel_rfl) (by kernel_rfl) (by kernel_rfl) (fun _ _ _ h => h) (Or.inl ⟨by rfl, ?_⟩) hHeld ?_; rotate_left; (· (intro w' hSw; go_simp; try with_reducible rfl)); (try simp only [List.getElem_toArray, List.getElem_cons_zero, List.getElem_cons_succ, Act.put, List.setIfInBounds_toArray, List.set_cons_zero, List.set_cons_succ])); (refine wpAnyH_take (i := 9) (v := ?_) rfl (by kernel_rfl) (by kernel_rfl) (by kernel_rfl) (fun _ _ _ h => h) (Or.inl ⟨by rfl, ?_⟩) hHeld ?_; rotate_left; (· (intro w' hSw; go_simp; try with_reducible rfl)); (try simp only [List.getElem_toArray, List.getElem_cons_zero, List.getElem_cons_succ, Act.put, List.setIfInBounds_toArray, List.set_cons_zero, List.set_cons_succ]))
      (refine wpAnyH_take (i := 0) (v := _) rfl (by kernel_rfl) (by kernel_rfl) (by kernel_rfl) (fun _ _ _ h => h) (yieldsIf_load_mid (by rfl) 27 _ rfl _ _ rfl (ints ns) _ (fun w' hSw => (G1.below hSw).holds.range) Try.underlying27 rfl (hi1)) hHeld ?_; (try simp only [List.getElem_toArray, List.getElem_cons_zero, List.getElem_cons_succ, Act.put, List.setIfInBounds_toArray, List.set_cons_zero, List.set_cons_succ]))
      refine wpAnyH_take (i := 5) (v := .int .i64 (p : Int)) rfl (by kernel_rfl) (by kernel_rfl) (by kernel_rfl) (fun _ _ _ h => h) (Or.inl ⟨by rfl, ?_⟩) hHeld ?_
      · intro w' hSw
        have cc := C0.out w' hSw
        go_simp
      (try simp only [List.getElem_toArray, List.getElem_cons_zero, List.getElem_cons_succ, Act.put, List.setIfInBounds_toArray, List.set_cons_zero, List.set_cons_succ])
      refine wpAnyH_take (i := 10) (v := .int .i64 (q : Int)) rfl (by kernel_rfl) (by kernel_rfl) (by kernel_rfl) (fun _ _ _ h => h) (Or.inl ⟨by rfl, ?_⟩) hHeld ?_
      · intro w' hSw
        have cc := C1.out w' hSw
        go_simp
      (try simp only [List.getElem_toArray, List.getElem_cons_zero, List.getElem_cons_succ, Act.put, List.setIfInBounds_toArray, List.set_cons_zero, List.set_cons_succ])
      refine wpAnyH_ready (rs := [11, 15]) (by kernel_rfl) (by simp) ?_
      refine AllReadyH.cons (o := _) rfl (fun K hK => ?callFirst) (AllReadyH.cons (o := _) rfl (fun K hK => ?makeFirst) AllReadyH.nil)
      case' callFirst =>
        (simp only [List.getElem_toArray, List.getElem_cons_zero, List.getElem_cons_succ, Region.wanted, if_true])
        go_simp
        refine (l2Pour_any ns p q _ C24.out CV.out p6 q6 HNE.out HC.out).mono ?_
        rintro e wp2 ⟨rfl, bp2⟩
        rw [HR.out]
        dsimp only
        (try simp only [List.getElem_toArray, List.getElem_cons_zero, List.getElem_cons_succ, Act.put, List.setIfInBounds_toArray, List.set_cons_zero, List.set_cons_succ])
        have KW := Kept.call hHeld bp2
        refine hK.out _ _ KW (fun hHeld => ?_)
        clear hK K bp2
        (refine wpAnyH_take (i := 12) (v := ?_) rfl (by kernel_rfl) (by kernel_rfl) (by kernel_rfl) (fun _ _ _ h => h) (Or.inl ⟨by rfl, ?_⟩) hHeld ?_; rotate_left; (· (intro w' hSw; go_simp; try with_reducible rfl)); (try simp only [List.getElem_toArray, List.getElem_cons_zero, List.getElem_cons_succ, Act.put, List.setIfInBounds_toArray, List.set_cons_zero, List.set_cons_succ])); (refine wpAnyH_take (i := 13) (v := ?_) rfl (by kernel_rfl) (by kernel_rfl) (by kernel_rfl) (fun _ _ _ h => h) (Or.inl ⟨by rfl, ?_⟩) hHeld ?_; rotate_left; (· (intro w' hSw; go_simp; try with_reducible rfl)); (try simp only [List.getElem_toArray, List.getElem_cons_zero, List.getElem_cons_succ, Act.put, List.setIfInBounds_toArray, List.set_cons_zero, List.set_cons_succ])); (refine wpAnyH_take (i := 14) (v := ?_) rfl (by kernel_rfl) (by kernel_rfl) (by kernel_rfl) (fun _ _ _ h => h) (Or.inl ⟨by rfl, ?_⟩) hHeld ?_; rotate_left; (· (intro w' hSw; go_simp; try with_reducible rfl)); (try simp only [List.getElem_toArray, List.getElem_cons_zero, List.getElem_cons_succ, Act.put, List.setIfInBounds_toArray, List.set_cons_zero, List.set_cons_succ]))
        (refine wpAnyH_ready (rs := [15]) (by kernel_rfl) (by simp) ?_; refine AllReadyH.cons (o := _) rfl (fun K hK => ?_) AllReadyH.nil; (simp only [List.getElem_toArray, List.getElem_cons_zero, List.getElem_cons_succ, Region.wanted, if_true]))
        go_simp
        have F9 := Has.zero24 wp2 27
        have h9 := KW.size
        replace KW := KW.alloc (.cells #[.int .i64 0, .int .i64 0, .int .i64 0, .int .i64 0, .int .i64 0, .int .i64 0, .int .i64 0, .int .i64 0, .int .i64 0, .int .i64 0, .int .i64 0, .int .i64 0, .int .i64 0, .int .i64 0, .int .i64 0, .int .i64 0, .int .i64 0, .int .i64 0, .int .i64 0, .int .i64 0, .int .i64 0, .int .i64 0, .int .i64 0, .int .i64 0] 27)
        refine hK.out _ _ KW (fun hHeld => ?_)
        clear hK K
        generalize wp2.alloc (.cells #[.int .i64 0, .int .i64 0, .int .i64 0, .int .i64 0, .int .i64 0, .int .i64 0, .int .i64 0, .int .i64 0, .int .i64 0, .int .i64 0, .int .i64 0, .int .i64 0, .int .i64 0, .int .i64 0, .int .i64 0, .int .i64 0, .int .i64 0, .int .i64 0, .int .i64 0, .int .i64 0, .int .i64 0, .int .i64 0, .int .i64 0, .int .i64 0] 27) = wp3 at *
        generalize wp2.heap.size = b9 at *
      case' makeFirst =>
        (simp only [List.getElem_toArray, List.getElem_cons_zero, List.getElem_cons_succ, Region.wanted, if_true])
        go_simp
        have F9 : Has _ wr.heap.size z24 24 := Has.zero24 wr.drew 27
        have KW := Kept.alloc hHeld (.cells #[.int .i64 0, .int .i64 0, .int .i64 0, .int .i64 0, .int .i64 0, .int .i64 0, .int .i64 0, .int .i64 0, .int .i64 0, .int .i64 0, .int .i64 0, .int .i64 0, .int .i64 0, .int .i64 0, .int .i64 0, .int .i64 0, .int .i64 0, .int .i64 0, .int .i64 0, .int .i64 0, .int .i64 0, .int .i64 0, .int .i64 0, .int .i64 0] 27)
        obtain ⟨b9, hb9⟩ : ∃ b : Nat, b = wr.heap.size := ⟨_, rfl⟩
        have h9 : wr.heap.size ≤ b9 := by omega
        rw [← hb9] at F9
        refine hK.out _ _ KW (fun hHeld => ?_)
        clear hK K
        (refine wpAnyH_ready (rs := [11]) (by kernel_rfl) (by simp) ?_; refine AllReadyH.cons (o := _) rfl (fun K hK => ?_) AllReadyH.nil; (simp only [List.getElem_toArray, List.getElem_cons_zero, List.getElem_cons_succ, Region.wanted, if_true]))
        go_simp
        refine (l2Pour_any ns p q _ C24.out CV.out p6 q6 HNE.out HC.out).mono ?_
        rintro e wp3 ⟨rfl, bp2⟩
        rw [HR.out]
        dsimp only
        (try simp only [List.getElem_toArray, List.getElem_cons_zero, List.getElem_cons_succ, Act.put, List.setIfInBounds_toArray, List.set_cons_zero, List.set_cons_succ])
        replace F9 := F9.below bp2
        replace KW := KW.call bp2
        refine hK.out _ _ KW (fun hHeld => ?_)
        clear hK K bp2
        (refine wpAnyH_take (i := 12) (v := ?_) rfl (by kernel_rfl) (by kernel_rfl) (by kernel_rfl) (fun _ _ _ h => h) (Or.inl ⟨by rfl, ?_⟩) hHeld ?_; rotate_left; (· (intro w' hSw; go_simp; try with_reducible rfl)); (try simp only [List.getElem_toArray, List.getElem_cons_zero, List.getElem_cons_succ, Act.put, List.setIfInBounds_toArray, List.set_cons_zero, List.set_cons_succ])); (refine wpAnyH_take (i := 13) (v := ?_) rfl (by kernel_rfl) (by kernel_rfl) (by kernel_rfl) (fun _ _ _ h => h) (Or.inl ⟨by rfl, ?_⟩) hHeld ?_; rotate_left; (· (intro w' hSw; go_simp; try with_reducible rfl)); (try simp only [List.getElem_toArray, List.getElem_cons_zero, List.getElem_cons_succ, Act.put, List.setIfInBounds_toArray, List.set_cons_zero, List.set_cons_succ])); (refine wpAnyH_take (i := 14) (v := ?_) rfl (by kernel_rfl) (by kernel_rfl) (by kernel_rfl) (fun _ _ _ h => h) (Or.inl ⟨by rfl, ?_⟩) hHeld ?_; rotate_left; (· (intro w' hSw; go_simp; try with_reducible rfl)); (try simp only [List.getElem_toArray, List.getElem_cons_zero, List.getElem_cons_succ, Act.put, List.setIfInBounds_toArray, List.set_cons_zero, List.set_cons_succ]))
        rw [← hb9]
        clear hb9
      all_goals
        (refine wpAnyH_ready (rs := [16]) (by kernel_rfl) (by simp) ?_; refine AllReadyH.cons (o := _) rfl (fun K hK => ?_) AllReadyH.nil; (simp only [List.getElem_toArray, List.getElem_cons_zero, List.getElem_cons_succ, Region.wanted, if_true]))
        refine wp_store_mid _ _ _ rfl _ _ (ints R).toArray rfl rfl (by simpa [l2] using F9.there) (by simpa [l2] using hi0) (all_oneCell_toArray (ints_one _)) ?_
        (try simp only [List.getElem_toArray, List.getElem_cons_zero, List.getElem_cons_succ, Act.put, List.setIfInBounds_toArray, List.set_cons_zero, List.set_cons_succ, List.toList_toArray])
        replace F9 := F9.putAll R R24
        replace KW := KW.puts (b := b9) h9 0 (ints R)
        refine hK.out _ _ KW (fun hHeld => ?_)
        clear hK K
        (refine wpAnyH_take (i := 17) (v := ?_) rfl (by kernel_rfl) (by kernel_rfl) (by kernel_rfl) (fun _ _ _ h => h) (Or.inl ⟨by rfl, ?_⟩) hHeld ?_; rotate_left; (· (intro w' hSw; go_simp; try with_reducible rfl)); (try simp only [List.getElem_toArray, List.getElem_cons_zero, List.getElem_cons_succ, Act.put, List.setIfInBounds_toArray, List.set_cons_zero, List.set_cons_succ]))
        refine wpAnyH_done (by kernel_rfl) ?_ _
        clear hHeld
        generalize wp3.setCells b9 0 (ints R) = wp4 at *
        replace G1 := G1.below KW
        replace GU := Lib.hid (GU.out.below KW)
        replace GR' := Lib.hid (GR'.out.below KW)
        replace GB := Lib.hid (GB.out.call KW)
        replace D0 : Hid (∀ W, Kept wp4 W → W.rangeAt gg (k * 2) [.int .i64 (p : Int), .int .i64 (q : Int)]) := Lib.hid (fun W hw => D0.out W (KW.call hw))
        clear KW C0 C1 h9
        go_wp2_with (refine load_has rfl 27 _ rfl _ rfl ?_ 24 ?_ _ Try.underlying27 rfl ?_ ?_; rotate_left; (· (repeat (first | (with_reducible assumption) | ((with_reducible refine Has.box _ _ ?_ ?_) <;> (first | assumption | decide)) | (with_reducible refine Has.alloc ?_ _) | ((with_reducible refine Has.putOther ?_ _ _ ?_); rotate_left; omega; skip) | ((with_reducible refine Has.below ?_ ?_); rotate_left; assumption)))); (· kernel_rfl))
        refine (KC.out _).mono ?_
        rintro e w5 ⟨rfl, b5⟩
        replace G1 := G1.below b5
        replace GU := Lib.hid (GU.out.below b5)
        replace GR' := Lib.hid (GR'.out.below b5)
        replace GB := Lib.hid (GB.out.call b5)
        have RP := Lib.hid (D0.out w5 b5)
        clear b5 D0 F9 KC
        cases hcc : anyCA R with
        | false =>
          obtain ⟨Y, Y2⟩ := EN.out (by rw [EC.out]; exact hcc)
          have B2 := Lib.hid (show Prs w5 (w.heap.size + 1) u4 (hurN ns (k + 1)) (hurF ns (k + 1)) by rw [Y, Y2]; exact GU.out)
          clear hcc Y Y2 EY EN EC
          go_wp2_with fail
          go_roundw
          case rel => exact ⟨k + 1, by omega, by go_num, G1, B2, GR', GA, GB⟩
          case measure => simp [intOf]; omega
        | true =>
          obtain ⟨Y, Y2⟩ := EY.out (by rw [EC.out]; exact hcc)
          have HY2 := Lib.hid Y
          have HY3 := Lib.hid Y2
          have hbs := GB.out.size
          have hg1 := G1.lt
          clear hcc Y Y2 EY EN EC
          go_wp2_with (first | (refine wpList_load_mid rfl 36 _ rfl gg (k * 2) rfl [.int .i64 (p : Int), .int .i64 (q : Int)] _ RP.out Try.underlying36 rfl (by kernel_rfl) ?_) | (at_builtin; refine wpList_append_lies _ rfl _ _ 32 rfl (w.heap.size + 1) 36 i0 (.agg #[.int .i64 0, .int .i64 0]) 2 16 Try.underlying32 hi hz0 hz1 hz2 rfl (by decide) _ (hurN ns k) (ints (hurF ns k)) rfl (World.ownsRow.alloc GU.out _) ⟨w5.heap.size, 0, none⟩ 1 1 [.int .i64 (p : Int), .int .i64 (q : Int)] rfl rfl (cell_two_new _ _ _ _) (fun z hz => by simp at hz; rcases hz with rfl | rfl <;> rfl) (by decide) (by unfold maxLen; omega) (by omega) (by simp; omega) _ rfl ?_; intro g' cap' w6 hown' hgrow3 hlie hlt3))
          obtain ⟨A2, A3⟩ := prs_app GU.out GB.out (Nat.le_refl _) hown' hgrow3
          have A1 := (G1.alloc (.cells #[.int .i64 (p : Int), .int .i64 (q : Int)] 36)).grown hgrow3 (Prs.own GU.out)
          have A0 := Lib.hid ((GR'.out.alloc (.cells #[.int .i64 (p : Int), .int .i64 (q : Int)] 36)).grownP hgrow3 (fun _ z hz => .inr (GA.out z hz)))
          have GA2 : Hid (∀ z, (Value.slice (some ⟨g', 0, none⟩) (hurN ns k + 1) cap').ownBlock = some z → (Value.slice (some ⟨gg, 0, none⟩) N vc).ownBlock ≠ some z) := Lib.hid (fun z hz e => by
            have h5 := Option.some.inj (show some g' = some z from hz)
            subst h5
            rcases hlie with h1 | h1
            · exact GA.out _ h1 e
            · have h6 := Option.some.inj (show some gg = some g' from e)
              have h7 := (GR'.out.lt Np).2
              rw [size1] at h1; omega)
          rw [← HY2.out, ← HY3.out] at A2
          have B2 := Lib.hid A2
          have B3 : Hid (Kept w w6) := Lib.hid A3
          clear hown' hgrow3 hlie hlt3 A2 A3
          go_wp2_with fail
          go_roundw
          case rel => exact ⟨k + 1, by omega, by go_num, A1, by rw [← HY3.out]; exact B2, A0, by rw [← HY3.out]; rw [← HY3.out] at GA2; exact GA2, B3⟩
          case measure => simp [intOf]; omega
    · obtain rfl : k = N := by omega
      go_wp2_with fail
      go_ret2
      exact ⟨_, by rw [E.out]; rfl, by rw [HN.out]; exact GU.out.mono (by omega), GB.out⟩
end Go.Proofs.Ytnldnjnnjfbhnab.base
end
