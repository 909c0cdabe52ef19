/-
  Games on the model's side, walked: complete tubes, lost racks, pours that can hurt, and replies.
-/
/-
  Games on the model's side, walked: what a pour gains.
-/
import Derived.Test.YtnldnjnnjfbhnabGmWZ
import Derived.Test.YtnldnjnnjfbhnabSortZ
import Derived.Test.YtnldnjnnjfbhnabPourMZ
import Derived.Test.YtnldnjnnjfbhnabSpecWZ

section
namespace Go.Proofs.Ytnldnjnnjfbhnab.base
open Go.ChangeShapes Go.WideShapes Go.ChangeAt Go.RowKit
set_option linter.unusedVariables false
set_option linter.unusedSimpArgs false

theorem World.ownsRow.mono' {w : World} {b b' : Nat} {v : Value} {n : Nat} {fs : List Int} (h : Nu w b v n fs) (hb : b' ≤ b) : Nu w b' v n fs := by
  refine ⟨h.1, ?_⟩
  rcases h.2 with h0 | ⟨g, cap, cur, hv, hg, rest⟩
  · exact .inl h0
  · exact .inr ⟨g, cap, cur, hv, by omega, rest⟩

set_option maxHeartbeats 1600000 in
set_option maxRecDepth 100000 in
theorem l10Complete_any (ns : List Int) (w : World) (h24 : ns.length = 24) (hv : vR ns = true) :
    Calls Try.prog 46 #[row ns] w fun e w' => ∃ v : Value, e = .returned v ∧ Nu w' w.heap.size v (cmpl ns 6).length (cmpl ns 6) ∧ Kept w w' := by
  obtain ⟨i0, hi, hz0, hz1, hz2⟩ := infoN_parts infoN
  have HB := Lib.hid (((kept_refl w).alloc (.cells (ints ns).toArray 27)).alloc (.cells #[] 3))
  have H := (Has.box w 27 h24 (by omega)).alloc (.cells #[] 3)
  have P0 := Lib.hid (by have := nu_none0 (w.alloc (.cells (ints ns).toArray 27)) (w.heap.size + 1) (by simp); rwa [size1] at this)
  have E := Lib.hid hv
  have H24 := Lib.hid h24
  have P1 : Hid (Nu ((w.alloc (.cells (ints ns).toArray 27)).alloc (.cells #[] 3)) (w.heap.size + 1) (.slice (some ⟨w.heap.size + 1, 0, none⟩) 0 0) (cmpl ns 0).length (cmpl ns 0)) := Lib.hid P0.out
  rw [row_ints]
  clear h24 hv P0
  go_enter Try.func46, Try.ntmps46
  go_wp2_with fail
  generalize (w.alloc (.cells (ints ns).toArray 27)).alloc (.cells #[] 3) = W at *
  go_loopw [3, 4] (fun u i wr => ∃ p : Nat, p ≤ 6 ∧ i = .int .i64 p ∧ Has wr w.heap.size ns 24 ∧ Hid (Nu wr (w.heap.size + 1) u (cmpl ns p).length (cmpl ns p)) ∧ Hid (Kept w wr)) (fun _ z _ => 6 - (intOf z).toNat)
  case atStart => exact ⟨0, by omega, rfl, H, P1, HB⟩
  case round =>
    clear H P1 HB
    obtain ⟨p, hp, rfl, G1, GU, GB⟩ := hrel
    rcases Nat.lt_or_ge p 6 with hp6 | hge
    · have hpi : (p : Int) < 6 := by omega
      have h4 := tub_len ns p H24.out hp6
      have hvt := vR_tub E.out p hp6
      have ML := cmpl_le ns p
      have YES := Lib.hid (fun h => cmpl_yes (ns := ns) (k := p) h)
      have NO := Lib.hid (fun h => cmpl_no (ns := ns) (k := p) h)
      go_wp2_with (refine load_tub rfl 24 _ rfl _ (p) _ rfl ?_ ?_ ?_ ?_ _ Try.underlying24 rfl ?_ ?_; (· (first | rfl | omega)); rotate_left; (· (repeat (first | (with_reducible assumption) | ((with_reducible refine Has.box _ _ ?_ ?_) <;> (first | assumption | decide)) | (with_reducible refine Has.alloc ?_ _) | ((with_reducible refine Has.putOther ?_ _ _ ?_); rotate_left; omega; skip) | ((with_reducible refine Has.below ?_ ?_); rotate_left; assumption)))); (· omega); (· kernel_rfl))
      refine (l2Top_any (tub ns p) _ h4 hvt).mono ?_
      rintro e w3 ⟨rfl, b3⟩
      replace G1 := G1.below b3
      replace GU := Lib.hid (GU.out.below b3)
      replace GB := Lib.hid (GB.out.call b3)
      clear b3 hvt h4
      generalize topC (tub ns p) = tc at *
      by_cases he : topN (tub ns p) = 4
      · have SN := Lib.hid (YES.out he)
        rw [he]
        have hbs := GB.out.size
        have owu := Lib.hid (fun z hz => (GU.out.own z hz))
        clear YES NO he
        generalize cmpl ns p = M at *
        go_wp2_with (first | (at_builtin; refine wpList_append_own _ rfl _ _ 43 rfl (w.heap.size + 1) 3 i0 (.int .i64 0) 1 8 Try.underlying43 hi hz0 hz1 hz2 rfl (by decide) _ M.length (ints M) rfl (World.ownsRow.alloc GU.out _) ⟨w3.heap.size, 0, none⟩ 1 1 [.int .i64 (p : Int)] rfl rfl (cell_one_new _ _ _) (fun x hx => by simp at hx; subst hx; rfl) (by unfold maxLen; omega) (by omega) (by simp; omega) ?_; intro v' w6 hown' hgrow3 hnil3))
        have F1 := (G1.alloc (.cells #[.int .i64 (p : Int)] 3)).grownNo hgrow3 (fun e => by
          have h1 := (owu.out w.heap.size e.symm).1
          omega)
        have F3 := Lib.hid (show Kept w w6 from (GB.out.alloc (.cells #[.int .i64 (p : Int)] 3)).grown hgrow3 (by rw [size1]; omega) (fun j hj => by have := (owu.out j hj).1; omega))
        have F4 : Hid (Nu w6 (w.heap.size + 1) v' (cmpl ns (p + 1)).length (cmpl ns (p + 1))) := Lib.hid (by rw [SN.out, List.length_append]; unfold Nu; rw [ints_more0]; exact hown')
        clear hown' hgrow3 hnil3 GU GB owu
        go_wp2_with fail
        go_roundw
        case rel => exact ⟨p + 1, by omega, by go_num, F1, F4, F3⟩
        case measure => simp [intOf]; omega
      · have q0 : ((topN (tub ns p) : Int) == 4) = false := by simp; omega
        have SN := Lib.hid (NO.out he)
        clear YES NO he
        generalize topN (tub ns p) = tn at *
        go_wp2_with fail
        go_roundw
        case rel => exact ⟨p + 1, by omega, by go_num, G1, by rw [SN.out]; exact GU, GB⟩
        case measure => simp [intOf]; omega
    · obtain rfl : p = 6 := by omega
      go_wp2_with fail
      go_ret
      exact ⟨_, rfl, World.ownsRow.mono' GU.out (by omega), GB.out⟩

set_option maxHeartbeats 800000 in
theorem specComplete (ns : List Int) (w : World) (h24 : ns.length = 24) :
    Calls Try.prog 19 #[row ns] w (CmPost ns w) := by
  have HB := Lib.hid ((kept_refl w).alloc (.cells (ints ns).toArray 27))
  have H := Has.box w 27 h24 (by omega)
  rw [row_ints]
  go_enter Try.func19, Try.ntmps19
  go_wp2_with (refine load_has rfl 27 _ rfl _ rfl ?_ 24 ?_ _ Try.underlying27 rfl ?_ ?_; rotate_left; (· (repeat (first | (with_reducible assumption) | ((with_reducible refine Has.box _ _ ?_ ?_) <;> (first | assumption | decide)) | (with_reducible refine Has.alloc ?_ _) | ((with_reducible refine Has.putOther ?_ _ _ ?_); rotate_left; omega; skip) | ((with_reducible refine Has.below ?_ ?_); rotate_left; assumption)))); (· kernel_rfl))
  refine (l2Rack_any ns _ h24).mono ?_
  rintro e w1 ⟨rfl, b1⟩
  replace H := H.below b1
  replace HB := Lib.hid (HB.out.call b1)
  clear b1
  by_cases hv : vR ns = true
  · have E := Lib.hid hv
    have Z := Lib.hid (show cmFA ns = cmpl ns 6 by unfold cmFA; rw [if_pos hv])
    have KC := Lib.hid (fun W => l10Complete_any ns W h24 hv)
    have hbs := HB.out.size
    rw [hv]
    clear hv
    go_wp2_with (refine load_has rfl 27 _ rfl _ rfl ?_ 24 ?_ _ Try.underlying27 rfl ?_ ?_; rotate_left; (· (repeat (first | (with_reducible assumption) | ((with_reducible refine Has.box _ _ ?_ ?_) <;> (first | assumption | decide)) | (with_reducible refine Has.alloc ?_ _) | ((with_reducible refine Has.putOther ?_ _ _ ?_); rotate_left; omega; skip) | ((with_reducible refine Has.below ?_ ?_); rotate_left; assumption)))); (· kernel_rfl))
    refine (KC.out _).mono ?_
    rintro e w2 ⟨v, rfl, q2, b2⟩
    have Q2 := Lib.hid (World.ownsRow.mono' (b' := w.heap.size) q2 hbs)
    replace HB := Lib.hid (HB.out.call b2)
    clear q2 b2
    go_wp2_with fail
    go_ret2
    exact ⟨_, by rw [E.out]; rfl, by rw [Z.out]; exact Q2.out, HB.out⟩
  · have hf : vR ns = false := by simpa using hv
    have E := Lib.hid hf
    have Z := Lib.hid (show cmFA ns = [] by unfold cmFA; rw [if_neg hv])
    have P0 := Lib.hid (nu_none0 w1 w.heap.size HB.out.size)
    have HB2 := Lib.hid (HB.out.alloc (.cells #[] 3))
    rw [hf]
    clear hf hv
    go_wp2_with fail
    go_ret2
    exact ⟨_, by rw [E.out]; rfl, by rw [Z.out]; exact P0.out, HB2.out⟩

end Go.Proofs.Ytnldnjnnjfbhnab.base
end

section
namespace Go.Proofs.Ytnldnjnnjfbhnab.base
open Go.ChangeShapes Go.WideShapes Go.ChangeAt Go.RowKit
set_option linter.unusedVariables false
set_option linter.unusedSimpArgs false

theorem pourR_TG {ns : List Int} {p q : Nat} (h : pourOk ns (p : Int) (q : Int) = true) : pourR ns (p : Int) (q : Int) = pourT ns p q := by unfold pourR; rw [if_pos h]; simp
theorem res_hasG {P : Program} {fn : Func} {p q : Tmp} {T : TypeId} (h : fn.results = #[.tmp q, .cell p T]) (tmps : Array Value) (w : World) (b : Nat) (ns : List Int) (n : Nat) (d : TypeDesc) (v : Value)
    (hp : tmps.getD p undef = .pointer (some ⟨b, 0, none⟩)) (hq : tmps.getD q undef = v) (H : Has w b ns n) (hu : P.underlying T = some d) (hd : d.isRow = true) (hi : (P.info? T).map (·.size) = some n) :
    (results fn tmps).run P w = .ok (.tuple #[v, .agg (ints ns).toArray]) w := by
  have hp' : tmps[p]?.getD undef = .pointer (some ⟨b, 0, none⟩) := by simpa using hp
  have hq' : tmps[q]?.getD undef = v := by simpa using hq
  have hl := run_loadVar_mid (P := P) w b 0 T (ints ns) d H.holds.range hu hd (by rw [ints_len, H.len]; exact hi)
  simp [results, h, hp', hq', asAddr, hl]

set_option maxHeartbeats 3200000 in
set_option maxRecDepth 100000 in
theorem gain_any (ns : List Int) (p q : Nat) (w : World) (h24 : ns.length = 24) (hv : vR ns = true) (p6 : p < 6) (q6 : q < 6) (hne : p ≠ q) (hpos : 0 < canN (tub ns p) (tub ns q)) :
    Calls Try.prog 44 #[row ns, row [(p : Int), (q : Int)]] w fun e w' => e = .returned (.tuple #[.int .i64 ((cmN (pourT ns p q) : Int) - (cmN ns : Int)), row (pourT ns p q)]) ∧ Kept w w' := by
  have hok : pourOk ns (p : Int) (q : Int) = true := by
    unfold pourOk; rw [twoOk_yes hv p6 q6 hne, Int.toNat_natCast, Int.toNat_natCast, decide_eq_true hpos]; rfl
  have R24 : (pourT ns p q).length = 24 := by have := pourR_len h24 (p : Int) (q : Int); rwa [pourR_TG hok] at this
  have RV : vR (pourT ns p q) = true := by have := (pour_facts h24 hok).valid; rwa [pourR_TG hok] at this
  have HB := Lib.hid ((((kept_refl w).alloc (.cells (ints ns).toArray 27)).alloc (.cells (ints [(p : Int), (q : Int)]).toArray 36)).alloc (.cells #[.int .i64 0, .int .i64 0, .int .i64 0, .int .i64 0, .int .i64 0, .int .i64 0, .int .i64 0, .int .i64 0, .int .i64 0, .int .i64 0, .int .i64 0, .int .i64 0, .int .i64 0, .int .i64 0, .int .i64 0, .int .i64 0, .int .i64 0, .int .i64 0, .int .i64 0, .int .i64 0, .int .i64 0, .int .i64 0, .int .i64 0, .int .i64 0] 27))
  have H := ((Has.box w 27 h24 (by omega)).alloc (.cells (ints [(p : Int), (q : Int)]).toArray 36)).alloc (.cells #[.int .i64 0, .int .i64 0, .int .i64 0, .int .i64 0, .int .i64 0, .int .i64 0, .int .i64 0, .int .i64 0, .int .i64 0, .int .i64 0, .int .i64 0, .int .i64 0, .int .i64 0, .int .i64 0, .int .i64 0, .int .i64 0, .int .i64 0, .int .i64 0, .int .i64 0, .int .i64 0, .int .i64 0, .int .i64 0, .int .i64 0, .int .i64 0] 27)
  have HP := ((Has.box (ns := [(p : Int), (q : Int)]) (n := 2) (w.alloc (.cells (ints ns).toArray 27)) 36 rfl (by omega)).at (size1 _ _)).alloc (.cells #[.int .i64 0, .int .i64 0, .int .i64 0, .int .i64 0, .int .i64 0, .int .i64 0, .int .i64 0, .int .i64 0, .int .i64 0, .int .i64 0, .int .i64 0, .int .i64 0, .int .i64 0, .int .i64 0, .int .i64 0, .int .i64 0, .int .i64 0, .int .i64 0, .int .i64 0, .int .i64 0, .int .i64 0, .int .i64 0, .int .i64 0, .int .i64 0] 27)
  have Z := (Has.zero24 ((w.alloc (.cells (ints ns).toArray 27)).alloc (.cells (ints [(p : Int), (q : Int)]).toArray 36)) 27).at (c := w.heap.size + 1 + 1) (by simp)
  have c0 := HP.cellXg (k := 0) (x := (p : Int)) (by omega) rfl
  have c1 := HP.cellXg (k := 1) (x := (q : Int)) (by omega) rfl
  have KP := Lib.hid (fun W => l2Pour_any ns p q W h24 hv p6 q6 hne hpos)
  have K1 := Lib.hid (fun W => l10Complete_any (pourT ns p q) W R24 RV)
  have K2 := Lib.hid (fun W => l10Complete_any ns W h24 hv)
  have b1 : (cmpl (pourT ns p q) 6).length ≤ 6 := cmpl_le _ 6
  have b2 : (cmpl ns 6).length ≤ 6 := cmpl_le _ 6
  have EC : Hid (∀ l, cmN l = (cmpl l 6).length) := Lib.hid (fun l => rfl)
  have H24 := Lib.hid h24
  obtain ⟨R, hR⟩ : ∃ R, pourT ns p q = R := ⟨_, rfl⟩
  rw [hR] at R24 RV KP K1 b1 ⊢
  have l2 : (ints R).length = 24 := by rw [ints_len]; exact R24
  have hi0 : (Try.prog.info? 27).map (·.size) = some 24 := by kernel_rfl
  have hi1 : (Try.prog.info? 27).map (·.size) = some (ints ns).length := by rw [ints_len, h24]; exact hi0
  have hi2 : (Try.prog.info? 27).map (·.size) = some (ints R).length := by rw [l2]; exact hi0
  rw [row_ints, row_ints, row_ints]
  clear hok hR RV
  go_enter Try.func44, Try.ntmps44
  go_wp2_with (refine load_has rfl 27 _ rfl _ rfl ?_ 24 ?_ _ Try.underlying27 rfl ?_ ?_; rotate_left; (· (repeat (first | (with_reducible assumption) | ((with_reducible refine Has.box _ _ ?_ ?_) <;> (first | assumption | decide)) | (with_reducible refine Has.alloc ?_ _) | ((with_reducible refine Has.putOther ?_ _ _ ?_); rotate_left; omega; skip) | ((with_reducible refine Has.below ?_ ?_); rotate_left; assumption)))); (· kernel_rfl))
  refine (KP.out _).mono ?_
  rintro e w1 ⟨rfl, k1⟩
  have hs1 := k1.size
  simp only [size1] at hs1
  have HX := Has.box w1 27 R24 (by omega)
  replace H := (H.below k1).alloc (.cells (ints R).toArray 27)
  replace Z := (Z.below k1).alloc (.cells (ints R).toArray 27)
  replace HB := Lib.hid ((HB.out.call k1).alloc (.cells (ints R).toArray 27))
  clear k1 KP HP c0 c1
  go_upto_region 2 with (refine store_new rfl 27 _ _ rfl _ _ _ rfl _ rfl _ rfl rfl ?_ ?_ ?_; (· (first | assumption | rfl)); (· kernel_rfl))
  obtain ⟨xb, hxb⟩ : ∃ xb, w1.heap.size = xb := ⟨_, rfl⟩
  rw [hxb] at HX hs1 ⊢
  generalize w1.alloc (.cells (ints R).toArray 27) = W at *
  clear hxb
  refine wp_region_held_drew (S := fun w' => Has w' w.heap.size ns 24 ∧ Has w' xb R 24) (by kernel_rfl) ⟨H.drew, HX.drew⟩ (fun hHeld => ?_)
  replace Z := Z.drew
  replace HB := Lib.hid (keptDrew8G HB.out)
  clear H HX
  generalize W.drew = WD at *
  (refine wpAnyH_take (i := 0) (v := _) rfl (by kernel_rfl) (by kernel_rfl) (by kernel_rfl) (fun _ _ _ h => h) (yieldsIf_load_mid (by rfl) 27 _ rfl _ _ rfl (ints R) _ (fun w' hSw => hSw.2.holds.range) Try.underlying27 rfl (hi2)) hHeld ?_; (try simp only [List.getElem_toArray, List.getElem_cons_zero, List.getElem_cons_succ, Act.put, List.setIfInBounds_toArray, List.set_cons_zero, List.set_cons_succ]))
  (refine wpAnyH_take (i := 3) (v := _) rfl (by kernel_rfl) (by kernel_rfl) (by kernel_rfl) (fun _ _ _ h => h) (yieldsIf_load_mid (by rfl) 27 _ rfl _ _ rfl (ints ns) _ (fun w' hSw => hSw.1.holds.range) Try.underlying27 rfl (hi1)) hHeld ?_; (try simp only [List.getElem_toArray, List.getElem_cons_zero, List.getElem_cons_succ, Act.put, List.setIfInBounds_toArray, List.set_cons_zero, List.set_cons_succ]))
  (refine wpAnyH_take (i := 7) (v := _) rfl (by kernel_rfl) (by kernel_rfl) (by kernel_rfl) (fun _ _ _ h => h) (yieldsIf_load_mid (by rfl) 27 _ rfl _ _ rfl (ints R) _ (fun w' hSw => hSw.2.holds.range) Try.underlying27 rfl (hi2)) hHeld ?_; (try simp only [List.getElem_toArray, List.getElem_cons_zero, List.getElem_cons_succ, Act.put, List.setIfInBounds_toArray, List.set_cons_zero, List.set_cons_succ]))
  (refine wpAnyH_ready (rs := [1]) (by kernel_rfl) (by simp) ?_; refine AllReadyH.cons (o := _) rfl (fun K hK => ?_) AllReadyH.nil; (simp only [List.getElem_toArray, List.getElem_cons_zero, List.getElem_cons_succ, Region.wanted, if_true]))
  go_simp
  refine (K1.out _).mono ?_
  rintro e w2 ⟨v2, rfl, q2, k2⟩
  obtain ⟨a2, c2, rfl⟩ := q2.shape
  dsimp only
  (try simp only [List.getElem_toArray, List.getElem_cons_zero, List.getElem_cons_succ, Act.put, List.setIfInBounds_toArray, List.set_cons_zero, List.set_cons_succ])
  have hH2 : Has w2 w.heap.size ns 24 ∧ Has w2 xb R 24 := ⟨hHeld.1.below k2, hHeld.2.below k2⟩
  refine hK.out _ _ hH2 (fun hHeld => ?_)
  clear hK K
  replace Z := Z.below k2
  replace HB := Lib.hid (HB.out.call k2)
  clear q2 k2
  refine wpAnyH_ready (rs := [2, 4]) (by kernel_rfl) (by simp) ?_
  refine AllReadyH.cons (o := _) rfl (fun K hK => ?_) (AllReadyH.cons (o := _) rfl (fun K hK => ?_) AllReadyH.nil)
  · (simp only [List.getElem_toArray, List.getElem_cons_zero, List.getElem_cons_succ, Region.wanted, if_true])
    go_simp
    (try simp only [List.getElem_toArray, List.getElem_cons_zero, List.getElem_cons_succ, Act.put, List.setIfInBounds_toArray, List.set_cons_zero, List.set_cons_succ])
    refine hK.out _ _ hH2 (fun hHeld => ?_)
    clear hK K
    (refine wpAnyH_ready (rs := [4]) (by kernel_rfl) (by simp) ?_; refine AllReadyH.cons (o := _) rfl (fun K hK => ?_) AllReadyH.nil; (simp only [List.getElem_toArray, List.getElem_cons_zero, List.getElem_cons_succ, Region.wanted, if_true]))
    go_simp
    refine (K2.out _).mono ?_
    rintro e w3 ⟨v3, rfl, q3, k3⟩
    obtain ⟨a3, c3, rfl⟩ := q3.shape
    dsimp only
    (try simp only [List.getElem_toArray, List.getElem_cons_zero, List.getElem_cons_succ, Act.put, List.setIfInBounds_toArray, List.set_cons_zero, List.set_cons_succ])
    have hH3 : Has w3 w.heap.size ns 24 ∧ Has w3 xb R 24 := ⟨hH2.1.below k3, hH2.2.below k3⟩
    refine hK.out _ _ hH3 (fun hHeld => ?_)
    clear hK K
    replace Z := Z.below k3
    replace HB := Lib.hid (HB.out.call k3)
    clear q3 k3
    (refine wpAnyH_ready (rs := [5]) (by kernel_rfl) (by simp) ?_; refine AllReadyH.cons (o := _) rfl (fun K hK => ?_) AllReadyH.nil; (simp only [List.getElem_toArray, List.getElem_cons_zero, List.getElem_cons_succ, Region.wanted, if_true]))
    go_simp
    (try simp only [List.getElem_toArray, List.getElem_cons_zero, List.getElem_cons_succ, Act.put, List.setIfInBounds_toArray, List.set_cons_zero, List.set_cons_succ])
    refine hK.out _ _ hH3 (fun hHeld => ?_)
    clear hK K
    have wx : IntKind.i64.wrap (((cmpl R 6).length : Int) - ((cmpl ns 6).length : Int)) = ((cmpl R 6).length : Int) - ((cmpl ns 6).length : Int) := IntWalk.i64_in _ (by omega)
    (refine wpAnyH_take (i := 6) (v := ?_) rfl (by kernel_rfl) (by kernel_rfl) (by kernel_rfl) (fun _ _ _ h => h) (Or.inl ⟨by rfl, ?_⟩) hHeld ?_; rotate_left; (· (intro w' hSw; go_simp; try with_reducible rfl)); (try simp only [List.getElem_toArray, List.getElem_cons_zero, List.getElem_cons_succ, Act.put, List.setIfInBounds_toArray, List.set_cons_zero, List.set_cons_succ])); (refine wpAnyH_take (i := 8) (v := ?_) rfl (by kernel_rfl) (by kernel_rfl) (by kernel_rfl) (fun _ _ _ h => h) (Or.inl ⟨by rfl, ?_⟩) hHeld ?_; rotate_left; (· (intro w' hSw; go_simp; try with_reducible rfl)); (try simp only [List.getElem_toArray, List.getElem_cons_zero, List.getElem_cons_succ, Act.put, List.setIfInBounds_toArray, List.set_cons_zero, List.set_cons_succ]))
    (refine wpAnyH_ready (rs := [9]) (by kernel_rfl) (by simp) ?_; refine AllReadyH.cons (o := _) rfl (fun K hK => ?_) AllReadyH.nil; (simp only [List.getElem_toArray, List.getElem_cons_zero, List.getElem_cons_succ, Region.wanted, if_true]))
    refine wp_store_mid _ _ _ rfl _ _ (ints R).toArray rfl rfl (by simpa [l2] using Z.there) (by simpa [l2] using hi0) (all_oneCell_toArray (ints_one _)) ?_
    (try simp only [List.getElem_toArray, List.getElem_cons_zero, List.getElem_cons_succ, Act.put, List.setIfInBounds_toArray, List.set_cons_zero, List.set_cons_succ, List.toList_toArray])
    have S1 := Lib.hid (Z.putAll R R24)
    have S2 := Lib.hid (HB.out.puts (b := w.heap.size + 1 + 1) (by omega) 0 (ints R))
    refine hK.out _ _ ⟨hH3.1.putOther _ _ (by omega), hH3.2.putOther _ _ (by omega)⟩ (fun hHeld => ?_)
    clear hK K
    refine wpAnyH_done (by kernel_rfl) ?_ _
    clear hHeld hH3
    go_wp2_with fail
    exact bodyPost_ret (res_hasG rfl _ _ (w.heap.size + 1 + 1) R 24 _ (.int .i64 (((cmpl R 6).length : Int) - ((cmpl ns 6).length : Int))) rfl rfl S1.out Try.underlying27 rfl (by kernel_rfl)) rfl ⟨by rw [EC.out, EC.out], S2.out⟩
  · (simp only [List.getElem_toArray, List.getElem_cons_zero, List.getElem_cons_succ, Region.wanted, if_true])
    go_simp
    refine (K2.out _).mono ?_
    rintro e w3 ⟨v3, rfl, q3, k3⟩
    obtain ⟨a3, c3, rfl⟩ := q3.shape
    dsimp only
    (try simp only [List.getElem_toArray, List.getElem_cons_zero, List.getElem_cons_succ, Act.put, List.setIfInBounds_toArray, List.set_cons_zero, List.set_cons_succ])
    have hH3 : Has w3 w.heap.size ns 24 ∧ Has w3 xb R 24 := ⟨hH2.1.below k3, hH2.2.below k3⟩
    refine hK.out _ _ hH3 (fun hHeld => ?_)
    clear hK K
    replace Z := Z.below k3
    replace HB := Lib.hid (HB.out.call k3)
    clear q3 k3
    refine wpAnyH_ready (rs := [2, 5]) (by kernel_rfl) (by simp) ?_
    refine AllReadyH.cons (o := _) rfl (fun K hK => ?_) (AllReadyH.cons (o := _) rfl (fun K hK => ?_) AllReadyH.nil)
    · (simp only [List.getElem_toArray, List.getElem_cons_zero, List.getElem_cons_succ, Region.wanted, if_true])
      go_simp
      (try simp only [List.getElem_toArray, List.getElem_cons_zero, List.getElem_cons_succ, Act.put, List.setIfInBounds_toArray, List.set_cons_zero, List.set_cons_succ])
      refine hK.out _ _ hH3 (fun hHeld => ?_)
      clear hK K
      (refine wpAnyH_ready (rs := [5]) (by kernel_rfl) (by simp) ?_; refine AllReadyH.cons (o := _) rfl (fun K hK => ?_) AllReadyH.nil; (simp only [List.getElem_toArray, List.getElem_cons_zero, List.getElem_cons_succ, Region.wanted, if_true]))
      go_simp
      (try simp only [List.getElem_toArray, List.getElem_cons_zero, List.getElem_cons_succ, Act.put, List.setIfInBounds_toArray, List.set_cons_zero, List.set_cons_succ])
      refine hK.out _ _ hH3 (fun hHeld => ?_)
      clear hK K
      have wx : IntKind.i64.wrap (((cmpl R 6).length : Int) - ((cmpl ns 6).length : Int)) = ((cmpl R 6).length : Int) - ((cmpl ns 6).length : Int) := IntWalk.i64_in _ (by omega)
      (refine wpAnyH_take (i := 6) (v := ?_) rfl (by kernel_rfl) (by kernel_rfl) (by kernel_rfl) (fun _ _ _ h => h) (Or.inl ⟨by rfl, ?_⟩) hHeld ?_; rotate_left; (· (intro w' hSw; go_simp; try with_reducible rfl)); (try simp only [List.getElem_toArray, List.getElem_cons_zero, List.getElem_cons_succ, Act.put, List.setIfInBounds_toArray, List.set_cons_zero, List.set_cons_succ])); (refine wpAnyH_take (i := 8) (v := ?_) rfl (by kernel_rfl) (by kernel_rfl) (by kernel_rfl) (fun _ _ _ h => h) (Or.inl ⟨by rfl, ?_⟩) hHeld ?_; rotate_left; (· (intro w' hSw; go_simp; try with_reducible rfl)); (try simp only [List.getElem_toArray, List.getElem_cons_zero, List.getElem_cons_succ, Act.put, List.setIfInBounds_toArray, List.set_cons_zero, List.set_cons_succ]))
      (refine wpAnyH_ready (rs := [9]) (by kernel_rfl) (by simp) ?_; refine AllReadyH.cons (o := _) rfl (fun K hK => ?_) AllReadyH.nil; (simp only [List.getElem_toArray, List.getElem_cons_zero, List.getElem_cons_succ, Region.wanted, if_true]))
      refine wp_store_mid _ _ _ rfl _ _ (ints R).toArray rfl rfl (by simpa [l2] using Z.there) (by simpa [l2] using hi0) (all_oneCell_toArray (ints_one _)) ?_
      (try simp only [List.getElem_toArray, List.getElem_cons_zero, List.getElem_cons_succ, Act.put, List.setIfInBounds_toArray, List.set_cons_zero, List.set_cons_succ, List.toList_toArray])
      have S1 := Lib.hid (Z.putAll R R24)
      have S2 := Lib.hid (HB.out.puts (b := w.heap.size + 1 + 1) (by omega) 0 (ints R))
      refine hK.out _ _ ⟨hH3.1.putOther _ _ (by omega), hH3.2.putOther _ _ (by omega)⟩ (fun hHeld => ?_)
      clear hK K
      refine wpAnyH_done (by kernel_rfl) ?_ _
      clear hHeld hH3
      go_wp2_with fail
      exact bodyPost_ret (res_hasG rfl _ _ (w.heap.size + 1 + 1) R 24 _ (.int .i64 (((cmpl R 6).length : Int) - ((cmpl ns 6).length : Int))) rfl rfl S1.out Try.underlying27 rfl (by kernel_rfl)) rfl ⟨by rw [EC.out, EC.out], S2.out⟩
    · (simp only [List.getElem_toArray, List.getElem_cons_zero, List.getElem_cons_succ, Region.wanted, if_true])
      go_simp
      (try simp only [List.getElem_toArray, List.getElem_cons_zero, List.getElem_cons_succ, Act.put, List.setIfInBounds_toArray, List.set_cons_zero, List.set_cons_succ])
      refine hK.out _ _ hH3 (fun hHeld => ?_)
      clear hK K
      (refine wpAnyH_ready (rs := [2]) (by kernel_rfl) (by simp) ?_; refine AllReadyH.cons (o := _) rfl (fun K hK => ?_) AllReadyH.nil; (simp only [List.getElem_toArray, List.getElem_cons_zero, List.getElem_cons_succ, Region.wanted, if_true]))
      go_simp
      (try simp only [List.getElem_toArray, List.getElem_cons_zero, List.getElem_cons_succ, Act.put, List.setIfInBounds_toArray, List.set_cons_zero, List.set_cons_succ])
      refine hK.out _ _ hH3 (fun hHeld => ?_)
      clear hK K
      have wx : IntKind.i64.wrap (((cmpl R 6).length : Int) - ((cmpl ns 6).length : Int)) = ((cmpl R 6).length : Int) - ((cmpl ns 6).length : Int) := IntWalk.i64_in _ (by omega)
      (refine wpAnyH_take (i := 6) (v := ?_) rfl (by kernel_rfl) (by kernel_rfl) (by kernel_rfl) (fun _ _ _ h => h) (Or.inl ⟨by rfl, ?_⟩) hHeld ?_; rotate_left; (· (intro w' hSw; go_simp; try with_reducible rfl)); (try simp only [List.getElem_toArray, List.getElem_cons_zero, List.getElem_cons_succ, Act.put, List.setIfInBounds_toArray, List.set_cons_zero, List.set_cons_succ])); (refine wpAnyH_take (i := 8) (v := ?_) rfl (by kernel_rfl) (by kernel_rfl) (by kernel_rfl) (fun _ _ _ h => h) (Or.inl ⟨by rfl, ?_⟩) hHeld ?_; rotate_left; (· (intro w' hSw; go_simp; try with_reducible rfl)); (try simp only [List.getElem_toArray, List.getElem_cons_zero, List.getElem_cons_succ, Act.put, List.setIfInBounds_toArray, List.set_cons_zero, List.set_cons_succ]))
      (refine wpAnyH_ready (rs := [9]) (by kernel_rfl) (by simp) ?_; refine AllReadyH.cons (o := _) rfl (fun K hK => ?_) AllReadyH.nil; (simp only [List.getElem_toArray, List.getElem_cons_zero, List.getElem_cons_succ, Region.wanted, if_true]))
      refine wp_store_mid _ _ _ rfl _ _ (ints R).toArray rfl rfl (by simpa [l2] using Z.there) (by simpa [l2] using hi0) (all_oneCell_toArray (ints_one _)) ?_
      (try simp only [List.getElem_toArray, List.getElem_cons_zero, List.getElem_cons_succ, Act.put, List.setIfInBounds_toArray, List.set_cons_zero, List.set_cons_succ, List.toList_toArray])
      have S1 := Lib.hid (Z.putAll R R24)
      have S2 := Lib.hid (HB.out.puts (b := w.heap.size + 1 + 1) (by omega) 0 (ints R))
      refine hK.out _ _ ⟨hH3.1.putOther _ _ (by omega), hH3.2.putOther _ _ (by omega)⟩ (fun hHeld => ?_)
      clear hK K
      refine wpAnyH_done (by kernel_rfl) ?_ _
      clear hHeld hH3
      go_wp2_with fail
      exact bodyPost_ret (res_hasG rfl _ _ (w.heap.size + 1 + 1) R 24 _ (.int .i64 (((cmpl R 6).length : Int) - ((cmpl ns 6).length : Int))) rfl rfl S1.out Try.underlying27 rfl (by kernel_rfl)) rfl ⟨by rw [EC.out, EC.out], S2.out⟩
end Go.Proofs.Ytnldnjnnjfbhnab.base
end
