/-
  The first renaming that takes a rack to another one, on the model's side, walked.
-/
import Derived.Test.YtlleenepinijdaaClsV
import Derived.Test.YtlleenepinijdaaAllS
import Derived.Test.YtlleenepinijdaaSixB
import Derived.Test.YtlleenepinijdaaFormS
import Derived.Test.YtlleenepinijdaaEqR
import Derived.Deep.Cut
import Derived.Deep.CutRange
import Derived.Deep.RegionHeld3
namespace Go.Proofs.Ytlleenepinijdaa.base
open Go.ChangeShapes Go.WideShapes Go.ChangeAt Go.RowKit
set_option linter.unusedVariables false
set_option linter.unusedSimpArgs false

theorem keptDrewS {w w' : World} (h : Kept w w') : Kept w w'.drew := h.drewN 1
theorem eqRackRunS {P : Program} (ev : Operand → Value) (o : Oper) (T T2 : TypeId) (x y : Operand) (ho : o.op = .binOp .eql T x y T2) (xs ys : List Int) (hx : ev x = .agg (ints xs).toArray) (hy : ev y = .agg (ints ys).toArray)
    (hm : P.eqGuardType P.depth T = false) (hq : ∀ w, (Op.equalIn 10000 T (.agg (ints xs).toArray) (.agg (ints ys).toArray)).run P w = .ok (decide (xs = ys)) w) (b : Bool) (hb : decide (xs = ys) = b) {w : World} :
    (execOp ev o).run P w = .ok (.value (.bool b)) w := by
  rw [← hb]; exact eql_run ev o T T2 x y ho xs ys hx hy hm hq
theorem clsF_keep (ns : List Int) (f g : List Int) : ∀ (m k : Nat), k + m ≤ 120 → clsF ns k f = some g → clsF ns (k + m) f = some g
  | 0, _, _, h => h
  | m + 1, k, hk, h => by
    rw [← Nat.add_assoc, clsF_succ ns (by omega), clsF_keep ns f g m k (by omega) h]
theorem clsF_hit {ns f : List Int} {k : Nat} (hk : k < 120) (h : clsF ns k f = none) (e : rf ns (ag k) = f) : clsF ns 120 f = some (ag k) := by
  have h1 : clsF ns (k + 1) f = some (ag k) := by rw [clsF_succ ns hk, h]; simp [e]
  have := clsF_keep ns f (ag k) (120 - (k + 1)) (k + 1) (by omega) h1
  rwa [show k + 1 + (120 - (k + 1)) = 120 by omega] at this
theorem clsF_miss {ns f : List Int} {k : Nat} (hk : k < 120) (h : clsF ns k f = none) (e : rf ns (ag k) ≠ f) : clsF ns (k + 1) f = none := by
  rw [clsF_succ ns hk, h]; simp [e]

set_option maxHeartbeats 1600000 in
set_option maxRecDepth 100000 in
theorem l4Renaming_any (a b : List Int) (w : World) (ha : a.length = 24) (hb : b.length = 24) (va : vR a = true) :
    Calls Try.prog 28 #[row a, row b] w fun e w' => e = .returned (.tuple #[.agg (ints ((rnTo a b).getD z6x)).toArray, .bool (rnTo a b).isSome]) ∧ Kept w w' := by
  have HB := Lib.hid ((((kept_refl w).alloc (.cells (ints a).toArray 28)).alloc (.cells (ints b).toArray 28)).alloc (.cells #[.int .i64 0, .int .i64 0, .int .i64 0, .int .i64 0, .int .i64 0, .int .i64 0] 31))
  have H := ((Has.box w 28 ha (by omega)).alloc (.cells (ints b).toArray 28)).alloc (.cells #[.int .i64 0, .int .i64 0, .int .i64 0, .int .i64 0, .int .i64 0, .int .i64 0] 31)
  have G := ((Has.box (w.alloc (.cells (ints a).toArray 28)) 28 hb (by omega)).at (size1 _ _)).alloc (.cells #[.int .i64 0, .int .i64 0, .int .i64 0, .int .i64 0, .int .i64 0, .int .i64 0] 31)
  have Z := (Has.zero6x ((w.alloc (.cells (ints a).toArray 28)).alloc (.cells (ints b).toArray 28)) 31).at (c := w.heap.size + 1 + 1) (by simp)
  have hz : z6x.length = 6 := rfl
  have hfl : (formL b).length = 24 := formL_len b hb
  rw [row_ints, row_ints]
  go_enter Try.func28, Try.ntmps28
  go_wp2_with (refine load_has rfl 28 _ rfl _ rfl ?_ 24 ?_ _ Try.underlying28 rfl ?_ ?_; rotate_left; (· (repeat (first | (with_reducible assumption) | ((with_reducible refine Has.box _ _ ?_ ?_) <;> (first | assumption | decide)) | (with_reducible refine Has.alloc ?_ _) | ((with_reducible refine Has.putOther ?_ _ _ ?_); rotate_left; omega; skip) | ((with_reducible refine Has.below ?_ ?_); rotate_left; assumption)))); (· kernel_rfl))
  refine (l3Form_any b _ hb).mono ?_
  rintro e w1 ⟨rfl, b1⟩
  replace H := H.below b1
  replace Z := Z.below b1
  replace HB := Lib.hid (HB.out.call b1)
  clear b1 G
  go_wp2_with fail
  refine (l4AllNames_any _).mono ?_
  rintro e w2 ⟨v, rfl, q1, b2⟩
  replace H := (H.below b2).alloc (.cells (ints (formL b)).toArray 28)
  replace Z := (Z.below b2).alloc (.cells (ints (formL b)).toArray 28)
  have hw1 := HB.out.size
  replace HB := Lib.hid ((HB.out.call b2).alloc (.cells (ints (formL b)).toArray 28))
  have F := Has.box w2 28 hfl (by omega)
  obtain ⟨a0, cap0, rfl⟩ := q1.shape
  obtain ⟨gp, cap, hv', hbp, hgp⟩ := q1.form (by rw [allN_len]; omega)
  injection hv' with h1 _ h3
  subst h1
  subst h3
  have Q := Lib.hid ((q1.mono (b' := w.heap.size) (by omega)).alloc (.cells (ints (formL b)).toArray 28))
  rw [allN_len] at Q ⊢
  clear q1 b2
  have RV : (rnTo a b) = clsF a 120 (formL b) := rfl
  have HRV := Lib.hid RV
  have N0 : Hid (clsF a 0 (formL b) = none) := Lib.hid rfl
  have HA := Lib.hid ha
  have VA := Lib.hid va
  have HM := Lib.hid (fun (k : Nat) (hk : k < 120) (h : clsF a k (formL b) = none) => And.intro (clsF_hit hk h) (clsF_miss hk h))
  have hi1 : (Try.prog.info? 28).map (·.size) = some (ints a).length := by rw [ints_len, ha]; kernel_rfl
  have hi2 : (Try.prog.info? 28).map (·.size) = some (ints (formL b)).length := by rw [ints_len, hfl]; kernel_rfl
  have HMR : Hid (Try.prog.eqGuardType Try.prog.depth 28 = false) := Lib.hid (by kernel_rfl)
  clear RV ha va hb
  generalize formL b = fb at *
  go_wp2_with (refine store_new rfl 28 _ _ rfl _ _ _ rfl _ rfl _ rfl rfl ?_ ?_ ?_; (· (first | assumption | rfl)); (· kernel_rfl))
  generalize w2.alloc (.cells (ints fb).toArray 28) = W at *
  generalize w2.heap.size = c6 at *
  go_loopg [8] 120 (fun gk i wr => ∃ k : Nat, gk = 120 - k ∧ k ≤ 120 ∧ i = .int .i64 k ∧ Has wr w.heap.size a 24 ∧ Has wr (w.heap.size + 1 + 1) z6x 6 ∧ Has wr c6 fb 24 ∧ Hid (Gr wr w.heap.size 31 6 (.slice (some ⟨gp, 0, none⟩) 120 cap0) allN) ∧ Hid (clsF a k fb = none) ∧ Hid (Kept w wr))
  case atStart => exact ⟨0, rfl, by omega, rfl, H, Z, F, Q, N0, HB⟩
  case round =>
    obtain ⟨k, rfl, hk, rfl, GH, GZ, GF, GQ, GN, GB⟩ := hrel
    by_cases hk1 : k < 120
    · have hki : (k : Int) < 120 := by omega
      have hk0 : (0 : Int) ≤ (k : Int) := by omega
      have hgm := ag_mem hk1
      have hg6 := (allN_names hgm).2
      have HMk := HM.out k hk1 GN.out
      have HRG := Lib.hid (fun (W : World) (h : Gr W w.heap.size 31 6 (.slice (some ⟨gp, 0, none⟩) 120 cap0) allN) => (show W.rangeAt gp (k * 6) (ints (ag k)) from h.range allN_len.symm k hk1))
      have hrl := renR_len a (ag k)
      have hrf : (rf a (ag k)).length = 24 := formL_len _ hrl
      have EQ := Lib.hid (eqRackT (rf a (ag k)) fb hrf hfl)
      have HRF := Lib.hid (show formL (renR a (ag k)) = rf a (ag k) from rfl)
      have HMh := Lib.hid HMk
      clear hgm HMk
      generalize ag k = g at *
      have hi6 : (Try.prog.info? 31).map (·.size) = some (ints g).length := by rw [ints_len, hg6]; kernel_rfl
      go_wp2_with fail
      have DZ := GZ.drew
      have DB := Lib.hid (keptDrewS GB.out)
      refine wp_region_held_drew (S := fun w' => Has w' w.heap.size a 24 ∧ Has w' c6 fb 24 ∧ Gr w' w.heap.size 31 6 (.slice (some ⟨gp, 0, none⟩) 120 cap0) allN) (by kernel_rfl) ⟨GH.drew, GF.drew, GQ.out.drewN 1⟩ (fun hHeld => ?_)
      generalize hWD : World.drew wr = WD at *
      clear hWD GH GZ GF GQ GB
      (refine wpAnyH_take (i := 1) (v := ?_) rfl (by kernel_rfl) (by kernel_rfl) (by kernel_rfl) (fun _ _ _ h => h) (Or.inl ⟨by rfl, ?_⟩) hHeld ?_; rotate_left; (· (intro w' hSw; go_simp; try with_reducible rfl)); (try simp only [List.getElem_toArray, List.getElem_cons_zero, List.getElem_cons_succ, Act.put, List.setIfInBounds_toArray, List.set_cons_zero, List.set_cons_succ])); (refine wpAnyH_take (i := 2) (v := ?_) rfl (by kernel_rfl) (by kernel_rfl) (by kernel_rfl) (fun _ _ _ h => h) (Or.inl ⟨by rfl, ?_⟩) hHeld ?_; rotate_left; (· (intro w' hSw; go_simp; try with_reducible rfl)); (try simp only [List.getElem_toArray, List.getElem_cons_zero, List.getElem_cons_succ, Act.put, List.setIfInBounds_toArray, List.set_cons_zero, List.set_cons_succ])); (refine wpAnyH_take (i := 3) (v := ?_) rfl (by kernel_rfl) (by kernel_rfl) (by kernel_rfl) (fun _ _ _ h => h) (Or.inl ⟨by rfl, ?_⟩) hHeld ?_; rotate_left; (· (intro w' hSw; go_simp; try with_reducible rfl)); (try simp only [List.getElem_toArray, List.getElem_cons_zero, List.getElem_cons_succ, Act.put, List.setIfInBounds_toArray, List.set_cons_zero, List.set_cons_succ]))
      (refine wpAnyH_take (i := 0) (v := _) rfl (by kernel_rfl) (by kernel_rfl) (by kernel_rfl) (fun _ _ _ h => h) (yieldsIf_load_mid (by rfl) 28 _ rfl _ _ rfl (ints a) _ (fun w' hSw => hSw.1.holds.range) Try.underlying28 rfl (hi1)) hHeld ?_; (try simp only [List.getElem_toArray, List.getElem_cons_zero, List.getElem_cons_succ, Act.put, List.setIfInBounds_toArray, List.set_cons_zero, List.set_cons_succ]))
      (refine wpAnyH_take (i := 4) (v := _) rfl (by kernel_rfl) (by kernel_rfl) (by kernel_rfl) (fun _ _ _ h => h) (yieldsIf_load_mid (by rfl) 31 _ rfl _ _ rfl (ints g) _ (fun w' hSw => HRG.out w' hSw.2.2) Try.underlying31 rfl (hi6)) hHeld ?_; (try simp only [List.getElem_toArray, List.getElem_cons_zero, List.getElem_cons_succ, Act.put, List.setIfInBounds_toArray, List.set_cons_zero, List.set_cons_succ]))
      (refine wpAnyH_take (i := 7) (v := _) rfl (by kernel_rfl) (by kernel_rfl) (by kernel_rfl) (fun _ _ _ h => h) (yieldsIf_load_mid (by rfl) 28 _ rfl _ _ rfl (ints fb) _ (fun w' hSw => hSw.2.1.holds.range) Try.underlying28 rfl (hi2)) hHeld ?_; (try simp only [List.getElem_toArray, List.getElem_cons_zero, List.getElem_cons_succ, Act.put, List.setIfInBounds_toArray, List.set_cons_zero, List.set_cons_succ]))
      (refine wpAnyH_ready (rs := [5]) (by kernel_rfl) (by simp) ?_; refine AllReadyH.cons (o := _) rfl (fun K hK => ?_) AllReadyH.nil; (simp only [List.getElem_toArray, List.getElem_cons_zero, List.getElem_cons_succ, Region.wanted, if_true]))
      go_simp
      refine (l4Rename_any a g _ HA.out hg6 VA.out).mono ?_
      rintro e w5 ⟨rfl, b5⟩
      dsimp only
      (try simp only [List.getElem_toArray, List.getElem_cons_zero, List.getElem_cons_succ, Act.put, List.setIfInBounds_toArray, List.set_cons_zero, List.set_cons_succ])
      refine hK.out _ _ ⟨hHeld.1.below b5, hHeld.2.1.below b5, hHeld.2.2.below b5⟩ (fun hHeld => ?_)
      clear hK K
      replace DZ := DZ.below b5
      replace DB := Lib.hid (DB.out.call b5)
      clear b5
      (refine wpAnyH_ready (rs := [6]) (by kernel_rfl) (by simp) ?_; refine AllReadyH.cons (o := _) rfl (fun K hK => ?_) AllReadyH.nil; (simp only [List.getElem_toArray, List.getElem_cons_zero, List.getElem_cons_succ, Region.wanted, if_true]))
      go_simp
      refine (l3Form_any (renR a g) _ hrl).mono ?_
      rintro e w6 ⟨rfl, b6⟩
      dsimp only
      (try simp only [List.getElem_toArray, List.getElem_cons_zero, List.getElem_cons_succ, Act.put, List.setIfInBounds_toArray, List.set_cons_zero, List.set_cons_succ])
      rw [HRF.out]
      refine hK.out _ _ ⟨hHeld.1.below b6, hHeld.2.1.below b6, hHeld.2.2.below b6⟩ (fun hHeld => ?_)
      clear hK K
      replace DZ := DZ.below b6
      replace DB := Lib.hid (DB.out.call b6)
      clear b6
      obtain ⟨bv, hbv⟩ : ∃ bv, decide (rf a g = fb) = bv := ⟨_, rfl⟩
      have E := Lib.hid hbv
      clear hbv
      refine wpAnyH_take (i := 8) (v := .bool bv) rfl (by kernel_rfl) (by kernel_rfl) (by kernel_rfl) (fun _ _ _ h => h) (Or.inl ⟨by rfl, fun w' hSw => eqRackRunS _ _ _ _ _ _ rfl _ _ rfl rfl HMR.out EQ.out bv E.out⟩) hHeld ?_
      (try simp only [List.getElem_toArray, List.getElem_cons_zero, List.getElem_cons_succ, Act.put, List.setIfInBounds_toArray, List.set_cons_zero, List.set_cons_succ])
      refine wpAnyH_done (by kernel_rfl) ?_ _
      obtain ⟨D1, D2, D3⟩ := hHeld
      cases bv with
      | true =>
        have RG := Lib.hid (HRG.out _ D3)
        have V := Lib.hid (HMh.out.1 (of_decide_eq_true E.out))
        have S1 := DZ.putAll g hg6
        have S2 := Lib.hid (DB.out.puts (b := w.heap.size + 1 + 1) (by omega) 0 (ints g))
        clear E EQ D1 D2 D3
        go_wp2_with (first | (refine wpList_load_mid rfl 31 _ rfl gp (k * 6) rfl (ints g) _ RG.out Try.underlying31 rfl hi6 ?_) | (refine store_at rfl 31 _ _ rfl _ _ rfl rfl ?_ 6 ?_ ?_ ?_ ?_; rotate_left; (· (repeat (first | (with_reducible assumption) | ((with_reducible refine Has.box _ _ ?_ ?_) <;> (first | assumption | decide)) | (with_reducible refine Has.alloc ?_ _) | ((with_reducible refine Has.putOther ?_ _ _ ?_); rotate_left; omega; skip) | ((with_reducible refine Has.below ?_ ?_); rotate_left; assumption)))); (· (first | assumption | rfl)); (· kernel_rfl)))
        exact bodyPost_ret (res_has1 rfl _ _ (w.heap.size + 1 + 1) g 6 _ (.bool true) rfl rfl S1 Try.underlying31 rfl (by kernel_rfl)) rfl ⟨by rw [HRV.out, V.out]; rfl, S2.out⟩
      | false =>
        have N2 := Lib.hid (HMh.out.2 (of_decide_eq_false E.out))
        replace D3 := Lib.hid D3
        clear E EQ
        go_wp2_with fail
        go_roundg (120 - (k + 1))
        case rel => exact ⟨k + 1, rfl, by omega, by go_num, D1, DZ, D2, D3, N2, DB⟩
        case measure => omega
    · obtain rfl : k = 120 := by omega
      have S1 := GZ.putAll z6x rfl
      have S2 := Lib.hid (GB.out.puts (b := w.heap.size + 1 + 1) (by omega) 0 (ints z6x))
      go_wp2_with (first | (refine build_law rfl 31 rfl _ build6o ?_) | (refine store_at rfl 31 _ _ rfl _ _ rfl rfl ?_ 6 ?_ ?_ ?_ ?_; rotate_left; (· (repeat (first | (with_reducible assumption) | ((with_reducible refine Has.box _ _ ?_ ?_) <;> (first | assumption | decide)) | (with_reducible refine Has.alloc ?_ _) | ((with_reducible refine Has.putOther ?_ _ _ ?_); rotate_left; omega; skip) | ((with_reducible refine Has.below ?_ ?_); rotate_left; assumption)))); (· (first | assumption | rfl)); (· kernel_rfl)))
      exact bodyPost_ret (res_has1 rfl _ _ (w.heap.size + 1 + 1) z6x 6 _ (.bool false) rfl rfl S1 Try.underlying31 rfl (by kernel_rfl)) rfl ⟨by rw [HRV.out, GN.out]; rfl, S2.out⟩
end Go.Proofs.Ytlleenepinijdaa.base
