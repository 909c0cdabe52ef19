/-
  The program's comparing of two racks, walked: what it returns, and that it only draws and makes blocks.
-/
import Derived.Test.YthnkfdhnbafcjabRowSort
import Derived.Test.YthnkfdhnbafcjabLessI
import Derived.Deep.RegionHeld3
namespace Go.Proofs.Ythnkfdhnbafcjab.base
open Go.ChangeShapes Go.WideShapes Go.ChangeAt Go.RowKit
set_option linter.unusedVariables false
set_option linter.unusedSimpArgs false

set_option maxHeartbeats 1600000 in
set_option maxRecDepth 100000 in
theorem differsG (ns ms : List Int) (w : World) (h24 : ns.length = 24) (m24 : ms.length = 24) (hne : ns ≠ ms) :
    Calls Try.prog 70 #[row ns, row ms] w fun e w' => e = .returned (.bool (ltL ns ms)) ∧ ∃ q os, w' = Go.Sort.grow (w.drewN q) os := by
  have H := (Has.box w 29 h24 (by omega)).alloc (.cells (ints ms).toArray 29)
  have G := (Has.box (w.alloc (.cells (ints ns).toArray 29)) 29 m24 (by omega)).at (size1 _ _)
  have EW : Hid (∀ d, ∃ q os, ((w.alloc (.cells (ints ns).toArray 29)).alloc (.cells (ints ms).toArray 29)).drewN d = Go.Sort.grow (w.drewN q) os) := Lib.hid (fun d => ⟨d, _, by rw [Go.Sort.alloc_eq_grow, Go.Sort.alloc_eq_grow, Go.Sort.grow_grow]; rfl⟩)
  rw [row_ints, row_ints]
  go_enter Try.func70, Try.ntmps70
  go_wp2_with fail
  have HN := Lib.hid hne
  have HL := Lib.hid h24
  have ML := Lib.hid m24
  have HH := Lib.hid H
  have GG := Lib.hid G
  clear h24 m24 hne H G
  generalize ((w.alloc (.cells (ints ns).toArray 29)).alloc (.cells (ints ms).toArray 29)) = W at *
  go_loopw [5] (fun i wr => ∃ p d : Nat, p ≤ 6 ∧ i = .int .i64 p ∧ Hid (∀ q, q < p → tub ns q = tub ms q) ∧ Hid (wr = W.drewN d)) (fun z _ => 6 - (intOf z).toNat)
  case atStart => exact ⟨0, 0, by omega, rfl, Lib.hid (fun j hj => by omega), Lib.hid rfl⟩
  case round =>
    obtain ⟨p, d, hp, rfl, GE, GW⟩ := hrel
    have hp6 : p < 6 := by
      by_cases h : p < 6
      · exact h
      · exact absurd (rack_ext HL.out ML.out (fun i hi => GE.out i (by omega))) HN.out
    have hpi : (p : Int) < 6 := by omega
    have sp := tub_len ns p HL.out hp6
    have sq := tub_len ms p ML.out hp6
    have l1 : (ints (tub ns p)).length = 4 := by rw [ints_len]; exact sp
    have l2 : (ints (tub ms p)).length = 4 := by rw [ints_len]; exact sq
    have hi1 : (Try.prog.info? 22).map (·.size) = some (ints (tub ns p)).length := by rw [l1]; kernel_rfl
    have hi2 : (Try.prog.info? 22).map (·.size) = some (ints (tub ms p)).length := by rw [l2]; kernel_rfl
    have EQ := Lib.hid (eqArr4 (tub ns p) (tub ms p) sp sq)
    have S0 : Has wr.drew w.heap.size ns 24 ∧ Has wr.drew (w.heap.size + 1) ms 24 ∧ Hid (wr.drew = W.drewN (d + 1)) := by
      have := GW.out; subst this; exact ⟨HH.out.drewN (d + 1), GG.out.drewN (d + 1), Lib.hid rfl⟩
    go_wp2_with fail
    refine wp_region_held_drew (S := fun w' => Has w' w.heap.size ns 24 ∧ Has w' (w.heap.size + 1) ms 24 ∧ Hid (w' = W.drewN (d + 1))) (by kernel_rfl) S0 (fun hHeld => ?_)
    (refine wpAnyH_take (i := 0) (v := ?_) rfl (by kernel_rfl) (by kernel_rfl) (by kernel_rfl) (fun _ _ _ h => h) (Or.inl ⟨by rfl, ?_⟩) hHeld ?_; rotate_left; (· (intro w' hSw; go_simp; try with_reducible rfl)); (try simp only [List.getElem_toArray, List.getElem_cons_zero, List.getElem_cons_succ, Act.put, List.setIfInBounds_toArray, List.set_cons_zero, List.set_cons_succ])); (refine wpAnyH_take (i := 1) (v := ?_) rfl (by kernel_rfl) (by kernel_rfl) (by kernel_rfl) (fun _ _ _ h => h) (Or.inl ⟨by rfl, ?_⟩) hHeld ?_; rotate_left; (· (intro w' hSw; go_simp; try with_reducible rfl)); (try simp only [List.getElem_toArray, List.getElem_cons_zero, List.getElem_cons_succ, Act.put, List.setIfInBounds_toArray, List.set_cons_zero, List.set_cons_succ])); (refine wpAnyH_take (i := 2) (v := ?_) rfl (by kernel_rfl) (by kernel_rfl) (by kernel_rfl) (fun _ _ _ h => h) (Or.inl ⟨by rfl, ?_⟩) hHeld ?_; rotate_left; (· (intro w' hSw; go_simp; try with_reducible rfl)); (try simp only [List.getElem_toArray, List.getElem_cons_zero, List.getElem_cons_succ, Act.put, List.setIfInBounds_toArray, List.set_cons_zero, List.set_cons_succ])); (refine wpAnyH_take (i := 4) (v := ?_) rfl (by kernel_rfl) (by kernel_rfl) (by kernel_rfl) (fun _ _ _ h => h) (Or.inl ⟨by rfl, ?_⟩) hHeld ?_; rotate_left; (· (intro w' hSw; go_simp; try with_reducible rfl)); (try simp only [List.getElem_toArray, List.getElem_cons_zero, List.getElem_cons_succ, Act.put, List.setIfInBounds_toArray, List.set_cons_zero, List.set_cons_succ])); (refine wpAnyH_take (i := 5) (v := ?_) rfl (by kernel_rfl) (by kernel_rfl) (by kernel_rfl) (fun _ _ _ h => h) (Or.inl ⟨by rfl, ?_⟩) hHeld ?_; rotate_left; (· (intro w' hSw; go_simp; try with_reducible rfl)); (try simp only [List.getElem_toArray, List.getElem_cons_zero, List.getElem_cons_succ, Act.put, List.setIfInBounds_toArray, List.set_cons_zero, List.set_cons_succ])); (refine wpAnyH_take (i := 6) (v := ?_) rfl (by kernel_rfl) (by kernel_rfl) (by kernel_rfl) (fun _ _ _ h => h) (Or.inl ⟨by rfl, ?_⟩) hHeld ?_; rotate_left; (· (intro w' hSw; go_simp; try with_reducible rfl)); (try simp only [List.getElem_toArray, List.getElem_cons_zero, List.getElem_cons_succ, Act.put, List.setIfInBounds_toArray, List.set_cons_zero, List.set_cons_succ]))
    (refine wpAnyH_take (i := 3) (v := _) rfl (by kernel_rfl) (by kernel_rfl) (by kernel_rfl) (fun _ _ _ h => h) (yieldsIf_load_mid (by rfl) 22 _ rfl _ _ rfl (ints (tub ns p)) _ (fun w' hSw => hSw.1.holds.sub (p * 4) 4) Try.underlying22 rfl (hi1)) hHeld ?_; (try simp only [List.getElem_toArray, List.getElem_cons_zero, List.getElem_cons_succ, Act.put, List.setIfInBounds_toArray, List.set_cons_zero, List.set_cons_succ]))
    (refine wpAnyH_take (i := 7) (v := _) rfl (by kernel_rfl) (by kernel_rfl) (by kernel_rfl) (fun _ _ _ h => h) (yieldsIf_load_mid (by rfl) 22 _ rfl _ _ rfl (ints (tub ms p)) _ (fun w' hSw => hSw.2.1.holds.sub (p * 4) 4) Try.underlying22 rfl (hi2)) hHeld ?_; (try simp only [List.getElem_toArray, List.getElem_cons_zero, List.getElem_cons_succ, Act.put, List.setIfInBounds_toArray, List.set_cons_zero, List.set_cons_succ]))
    have hm : Try.prog.eqGuardType Try.prog.depth 22 = false := by kernel_rfl
    refine wpAnyH_take (i := 8) (v := .bool (decide (tub ns p = tub ms p))) rfl (by kernel_rfl) (by kernel_rfl) (by kernel_rfl) (fun _ _ _ h => h) (Or.inl ⟨by rfl, ?_⟩) hHeld ?_
    · intro w' hSw
      exact eql_run _ _ _ _ _ _ rfl _ _ rfl rfl hm EQ.out
    (try simp only [List.getElem_toArray, List.getElem_cons_zero, List.getElem_cons_succ, Act.put, List.setIfInBounds_toArray, List.set_cons_zero, List.set_cons_succ])
    refine wpAnyH_done (by kernel_rfl) ?_ _
    have GW2 := hHeld.2.2
    clear hHeld GW S0 hi1 hi2 l1 l2 EQ
    by_cases e : tub ns p = tub ms p
    · have E2 := Lib.hid (show ∀ q, q < p + 1 → tub ns q = tub ms q from fun q hq => by
        by_cases hqp : q = p
        · subst hqp; exact e
        · exact GE.out q (by omega))
      rw [decide_eq_true e]
      clear e
      go_wp2_with fail
      go_roundw
      case rel => exact ⟨p + 1, d + 1, by omega, by go_num, E2, GW2⟩
      case measure => simp [intOf]; omega
    · have R := Lib.hid (ltL_tub HL.out ML.out p hp6 GE.out e)
      have NE := Lib.hid e
      rw [decide_eq_false e]
      clear e
      go_wp2_with fail
      generalize wr.drew = W1 at *
      have S1 : Has W1.drew w.heap.size ns 24 ∧ Has W1.drew (w.heap.size + 1) ms 24 ∧ Hid (W1.drew = W.drewN (d + 1 + 1)) := by
        have := GW2.out; subst this; exact ⟨HH.out.drewN (d + 1 + 1), GG.out.drewN (d + 1 + 1), Lib.hid rfl⟩
      refine wp_region_held_drew (S := fun w' => Has w' w.heap.size ns 24 ∧ Has w' (w.heap.size + 1) ms 24 ∧ Hid (w' = W.drewN (d + 1 + 1))) (by kernel_rfl) S1 (fun hHeld => ?_)
      (refine wpAnyH_take (i := 0) (v := ?_) rfl (by kernel_rfl) (by kernel_rfl) (by kernel_rfl) (fun _ _ _ h => h) (Or.inl ⟨by rfl, ?_⟩) hHeld ?_; rotate_left; (· (intro w' hSw; go_simp; try with_reducible rfl)); (try simp only [List.getElem_toArray, List.getElem_cons_zero, List.getElem_cons_succ, Act.put, List.setIfInBounds_toArray, List.set_cons_zero, List.set_cons_succ])); (refine wpAnyH_take (i := 1) (v := ?_) rfl (by kernel_rfl) (by kernel_rfl) (by kernel_rfl) (fun _ _ _ h => h) (Or.inl ⟨by rfl, ?_⟩) hHeld ?_; rotate_left; (· (intro w' hSw; go_simp; try with_reducible rfl)); (try simp only [List.getElem_toArray, List.getElem_cons_zero, List.getElem_cons_succ, Act.put, List.setIfInBounds_toArray, List.set_cons_zero, List.set_cons_succ])); (refine wpAnyH_take (i := 2) (v := ?_) rfl (by kernel_rfl) (by kernel_rfl) (by kernel_rfl) (fun _ _ _ h => h) (Or.inl ⟨by rfl, ?_⟩) hHeld ?_; rotate_left; (· (intro w' hSw; go_simp; try with_reducible rfl)); (try simp only [List.getElem_toArray, List.getElem_cons_zero, List.getElem_cons_succ, Act.put, List.setIfInBounds_toArray, List.set_cons_zero, List.set_cons_succ])); (refine wpAnyH_take (i := 4) (v := ?_) rfl (by kernel_rfl) (by kernel_rfl) (by kernel_rfl) (fun _ _ _ h => h) (Or.inl ⟨by rfl, ?_⟩) hHeld ?_; rotate_left; (· (intro w' hSw; go_simp; try with_reducible rfl)); (try simp only [List.getElem_toArray, List.getElem_cons_zero, List.getElem_cons_succ, Act.put, List.setIfInBounds_toArray, List.set_cons_zero, List.set_cons_succ])); (refine wpAnyH_take (i := 5) (v := ?_) rfl (by kernel_rfl) (by kernel_rfl) (by kernel_rfl) (fun _ _ _ h => h) (Or.inl ⟨by rfl, ?_⟩) hHeld ?_; rotate_left; (· (intro w' hSw; go_simp; try with_reducible rfl)); (try simp only [List.getElem_toArray, List.getElem_cons_zero, List.getElem_cons_succ, Act.put, List.setIfInBounds_toArray, List.set_cons_zero, List.set_cons_succ])); (refine wpAnyH_take (i := 6) (v := ?_) rfl (by kernel_rfl) (by kernel_rfl) (by kernel_rfl) (fun _ _ _ h => h) (Or.inl ⟨by rfl, ?_⟩) hHeld ?_; rotate_left; (· (intro w' hSw; go_simp; try with_reducible rfl)); (try simp only [List.getElem_toArray, List.getElem_cons_zero, List.getElem_cons_succ, Act.put, List.setIfInBounds_toArray, List.set_cons_zero, List.set_cons_succ]))
      (refine wpAnyH_take (i := 3) (v := ?_) rfl (by kernel_rfl) (by kernel_rfl) (by kernel_rfl) (fun _ _ _ h => h) (Or.inl ⟨by rfl, ?_⟩) hHeld ?_; rotate_left; (· (intro w' hSw; go_simp; try with_reducible rfl)); (try simp only [List.getElem_toArray, List.getElem_cons_zero, List.getElem_cons_succ, Act.put, List.setIfInBounds_toArray, List.set_cons_zero, List.set_cons_succ])); (refine wpAnyH_take (i := 7) (v := ?_) rfl (by kernel_rfl) (by kernel_rfl) (by kernel_rfl) (fun _ _ _ h => h) (Or.inl ⟨by rfl, ?_⟩) hHeld ?_; rotate_left; (· (intro w' hSw; go_simp; try with_reducible rfl)); (try simp only [List.getElem_toArray, List.getElem_cons_zero, List.getElem_cons_succ, Act.put, List.setIfInBounds_toArray, List.set_cons_zero, List.set_cons_succ]))
      (refine wpAnyH_ready (rs := [8]) (by kernel_rfl) (by simp) ?_; refine AllReadyH.cons (o := _) rfl (fun K hK => ?_) AllReadyH.nil; (simp only [List.getElem_toArray, List.getElem_cons_zero, List.getElem_cons_succ, Region.wanted, if_true]))
      go_simp
      refine (compareK_any (tub ns p) (tub ms p) w.heap.size (p * 4) (w.heap.size + 1) (p * 4) _ sp sq NE.out (fun k hk => hHeld.1.rackCell p k hp6 hk) (fun k hk => hHeld.2.1.rackCell p k hp6 hk)).mono ?_
      rintro e w' ⟨rfl, rfl⟩
      dsimp only
      (try simp only [List.getElem_toArray, List.getElem_cons_zero, List.getElem_cons_succ, Act.put, List.setIfInBounds_toArray, List.set_cons_zero, List.set_cons_succ])
      refine hK.out _ _ hHeld (fun hHeld => ?_)
      clear hK K
      (refine wpAnyH_take (i := 9) (v := ?_) rfl (by kernel_rfl) (by kernel_rfl) (by kernel_rfl) (fun _ _ _ h => h) (Or.inl ⟨by rfl, ?_⟩) hHeld ?_; rotate_left; (· (intro w' hSw; go_simp; try with_reducible rfl)); (try simp only [List.getElem_toArray, List.getElem_cons_zero, List.getElem_cons_succ, Act.put, List.setIfInBounds_toArray, List.set_cons_zero, List.set_cons_succ])); (refine wpAnyH_take (i := 10) (v := ?_) rfl (by kernel_rfl) (by kernel_rfl) (by kernel_rfl) (fun _ _ _ h => h) (Or.inl ⟨by rfl, ?_⟩) hHeld ?_; rotate_left; (· (intro w' hSw; go_simp; try with_reducible rfl)); (try simp only [List.getElem_toArray, List.getElem_cons_zero, List.getElem_cons_succ, Act.put, List.setIfInBounds_toArray, List.set_cons_zero, List.set_cons_succ]))
      refine wpAnyH_done (by kernel_rfl) ?_ _
      have GW4 := hHeld.2.2
      clear hHeld S1
      go_wp2_with fail
      go_ret
      exact ⟨ret_bool (by rw [R.out]; cases ltL (tub ns p) (tub ms p) <;> rfl), by rw [GW4.out]; exact EW.out _⟩

set_option maxHeartbeats 800000 in
set_option maxRecDepth 100000 in
theorem cmpRacks_any (ns ms : List Int) (w : World) (h24 : ns.length = 24) (m24 : ms.length = 24) :
    Calls Try.prog 46 #[.agg (ints ns).toArray, .agg (ints ms).toArray] w fun e w' => e = .returned (.int .i64 (cmpR ns ms)) ∧ ∃ q os, w' = Go.Sort.grow (w.drewN q) os := by
  have H := (Has.box w 29 h24 (by omega)).alloc (.cells (ints ms).toArray 29)
  have G := (Has.box (w.alloc (.cells (ints ns).toArray 29)) 29 m24 (by omega)).at (size1 _ _)
  have EW : Hid (∀ d os', ∃ q os, Go.Sort.grow (((w.alloc (.cells (ints ns).toArray 29)).alloc (.cells (ints ms).toArray 29)).drewN d) os' = Go.Sort.grow (w.drewN q) os) := Lib.hid (fun d os' => by
    have e : ((w.alloc (.cells (ints ns).toArray 29)).alloc (.cells (ints ms).toArray 29)).drewN d = Go.Sort.grow (w.drewN d) (#[(.cells (ints ns).toArray 29)] ++ #[(.cells (ints ms).toArray 29)]) := by rw [Go.Sort.alloc_eq_grow, Go.Sort.alloc_eq_grow, Go.Sort.grow_grow]; rfl
    exact ⟨d, _, by rw [e]; exact Go.Sort.grow_grow _ _ _⟩)
  have EZ : Hid (∃ q os, (w.alloc (.cells (ints ns).toArray 29)).alloc (.cells (ints ms).toArray 29) = Go.Sort.grow (w.drewN q) os) := Lib.hid ⟨0, _, by rw [Go.Sort.alloc_eq_grow, Go.Sort.alloc_eq_grow, Go.Sort.grow_grow]; rfl⟩
  have EQ := Lib.hid (eqRackT ns ms h24 m24)
  have EM : Hid (Try.prog.eqGuardType Try.prog.depth 29 = false) := Lib.hid (by kernel_rfl)
  go_enter Try.func46, Try.ntmps46
  by_cases hr : ns = ms
  · have C := Lib.hid (show cmpR ns ms = 0 by unfold cmpR; rw [if_pos hr])
    have HR := decide_eq_true hr
    clear hr
    go_wp2_with (first | (refine load_has rfl 29 _ rfl _ rfl ?_ 24 ?_ _ Try.underlying29 rfl ?_ ?_; rotate_left; (· (repeat (first | (with_reducible assumption) | ((with_reducible refine Has.box _ _ ?_ ?_) <;> (first | assumption | decide)) | (with_reducible refine Has.alloc ?_ _) | ((with_reducible refine Has.putOther ?_ _ _ ?_); rotate_left; omega; skip) | ((with_reducible refine Has.below ?_ ?_); rotate_left; assumption)))); (· kernel_rfl)) | (refine eql_has rfl 29 29 _ _ rfl ns ms rfl rfl EM.out EQ.out ?_; rw [HR]))
    go_ret
    exact ⟨by rw [C.out]; rfl, EZ.out⟩
  · have HR := decide_eq_false hr
    have NE := Lib.hid hr
    clear hr
    go_wp2_with (first | (refine load_has rfl 29 _ rfl _ rfl ?_ 24 ?_ _ Try.underlying29 rfl ?_ ?_; rotate_left; (· (repeat (first | (with_reducible assumption) | ((with_reducible refine Has.box _ _ ?_ ?_) <;> (first | assumption | decide)) | (with_reducible refine Has.alloc ?_ _) | ((with_reducible refine Has.putOther ?_ _ _ ?_); rotate_left; omega; skip) | ((with_reducible refine Has.below ?_ ?_); rotate_left; assumption)))); (· kernel_rfl)) | (refine eql_has rfl 29 29 _ _ rfl ns ms rfl rfl EM.out EQ.out ?_; rw [HR]))
    refine (differsG ns ms _ h24 m24 NE.out).mono ?_
    rintro e w1 ⟨rfl, q, os, rfl⟩
    by_cases hl : ltL ns ms = true
    · have C := Lib.hid (show cmpR ns ms = -1 by unfold cmpR; rw [if_neg NE.out, if_pos hl])
      rw [hl]
      clear hl
      go_wp2_with fail
      go_ret
      exact ⟨by rw [C.out]; rfl, EW.out _ _⟩
    · have C := Lib.hid (show cmpR ns ms = 1 by unfold cmpR; rw [if_neg NE.out, if_neg hl])
      have hf : ltL ns ms = false := by simpa using hl
      rw [hf]
      clear hl hf
      go_wp2_with fail
      go_ret
      exact ⟨by rw [C.out]; rfl, EW.out _ _⟩
end Go.Proofs.Ythnkfdhnbafcjab.base
