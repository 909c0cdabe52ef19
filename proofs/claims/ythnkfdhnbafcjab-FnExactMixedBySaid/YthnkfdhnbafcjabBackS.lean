/-
  The model's way of pouring back, walked.
-/
import Derived.Test.YthnkfdhnbafcjabBackM
import Derived.Test.YthnkfdhnbafcjabEqR
import Derived.Deep.Cut
import Derived.Deep.CutRange
import Derived.Deep.RegionHeld3
namespace Go.Proofs.Ythnkfdhnbafcjab.base
open Go.ChangeShapes Go.WideShapes Go.ChangeAt Go.RowKit
set_option linter.unusedVariables false
set_option linter.unusedSimpArgs false

theorem src3 {w : World} {b : Nat} {i j m : Int} (H : Has w b [i, j, m] 3) : w.cell? ⟨b, 0, none⟩ = some (.int .i64 i) ∧ w.cell? ⟨b, 1, none⟩ = some (.int .i64 j) ∧ w.cell? ⟨b, 2, none⟩ = some (.int .i64 m) :=
  ⟨H.cell 0 (by decide), H.cell 1 (by decide), H.cell 2 (by decide)⟩
theorem putOk_eq {ns : List Int} {p q : Nat} (m : Int) (hv : vR ns = true) (hp : p < 6) (hq : q < 6) (hne : p ≠ q) : putOk ns (p : Int) (q : Int) m = decide (1 ≤ m ∧ m ≤ min ((topN (tub ns q) : Nat) : Int) (4 - ((lay (tub ns p) : Nat) : Int))) := by
  unfold putOk; rw [twoOk_yes hv hp hq hne, Bool.true_and, Bool.decide_and]; simp
theorem back_no {ns : List Int} {i j m : Int} (h : putOk ns i j m = false) : backOk ns i j m = false := by unfold backOk; rw [h]; rfl
theorem putOk_two {ns : List Int} {i j : Int} (m : Int) (h : twoOk ns i j = false) : putOk ns i j m = false := by unfold putOk; rw [h]; rfl

set_option maxHeartbeats 6400000 in
set_option maxRecDepth 100000 in
theorem l5Back_any (ns : List Int) (i j m : Int) (w : World) (h24 : ns.length = 24) (hv : vR ns = true) :
    Calls Try.prog 37 #[row ns, .agg #[.int .i64 i, .int .i64 j, .int .i64 m]] w fun e w' => e = .returned (.tuple #[.agg (ints (backR ns i j m)).toArray, .bool (backOk ns i j m)]) ∧ Kept w w' := by
  have HB := Lib.hid ((((kept_refl w).alloc (.cells (ints ns).toArray 29)).alloc (.cells #[.int .i64 i, .int .i64 j, .int .i64 m] 60)).alloc (.cells #[.int .i64 0, .int .i64 0, .int .i64 0, .int .i64 0, .int .i64 0, .int .i64 0, .int .i64 0, .int .i64 0, .int .i64 0, .int .i64 0, .int .i64 0, .int .i64 0, .int .i64 0, .int .i64 0, .int .i64 0, .int .i64 0, .int .i64 0, .int .i64 0, .int .i64 0, .int .i64 0, .int .i64 0, .int .i64 0, .int .i64 0, .int .i64 0] 29))
  have H := ((Has.box w 29 h24 (by omega)).alloc (.cells #[.int .i64 i, .int .i64 j, .int .i64 m] 60)).alloc (.cells #[.int .i64 0, .int .i64 0, .int .i64 0, .int .i64 0, .int .i64 0, .int .i64 0, .int .i64 0, .int .i64 0, .int .i64 0, .int .i64 0, .int .i64 0, .int .i64 0, .int .i64 0, .int .i64 0, .int .i64 0, .int .i64 0, .int .i64 0, .int .i64 0, .int .i64 0, .int .i64 0, .int .i64 0, .int .i64 0, .int .i64 0, .int .i64 0] 29)
  have HS : Has (((w.alloc (.cells (ints ns).toArray 29)).alloc (.cells #[.int .i64 i, .int .i64 j, .int .i64 m] 60)).alloc (.cells #[.int .i64 0, .int .i64 0, .int .i64 0, .int .i64 0, .int .i64 0, .int .i64 0, .int .i64 0, .int .i64 0, .int .i64 0, .int .i64 0, .int .i64 0, .int .i64 0, .int .i64 0, .int .i64 0, .int .i64 0, .int .i64 0, .int .i64 0, .int .i64 0, .int .i64 0, .int .i64 0, .int .i64 0, .int .i64 0, .int .i64 0, .int .i64 0] 29)) (w.heap.size + 1) [i, j, m] 3 := ((Has.box (ns := [i, j, m]) (w.alloc (.cells (ints ns).toArray 29)) 60 rfl (by simp)).at (size1 _ _)).alloc (.cells #[.int .i64 0, .int .i64 0, .int .i64 0, .int .i64 0, .int .i64 0, .int .i64 0, .int .i64 0, .int .i64 0, .int .i64 0, .int .i64 0, .int .i64 0, .int .i64 0, .int .i64 0, .int .i64 0, .int .i64 0, .int .i64 0, .int .i64 0, .int .i64 0, .int .i64 0, .int .i64 0, .int .i64 0, .int .i64 0, .int .i64 0, .int .i64 0] 29)
  have Z := (Has.zero24 ((w.alloc (.cells (ints ns).toArray 29)).alloc (.cells #[.int .i64 i, .int .i64 j, .int .i64 m] 60)) 29).at (c := w.heap.size + 1 + 1) (by simp)
  rw [row_ints]
  go_enter Try.func37, Try.ntmps37
  obtain ⟨s0, s1, s2⟩ := src3 HS
  go_upto_region 1 with fail
  generalize ((w.alloc (.cells (ints ns).toArray 29)).alloc (.cells #[.int .i64 i, .int .i64 j, .int .i64 m] 60)).alloc (.cells #[.int .i64 0, .int .i64 0, .int .i64 0, .int .i64 0, .int .i64 0, .int .i64 0, .int .i64 0, .int .i64 0, .int .i64 0, .int .i64 0, .int .i64 0, .int .i64 0, .int .i64 0, .int .i64 0, .int .i64 0, .int .i64 0, .int .i64 0, .int .i64 0, .int .i64 0, .int .i64 0, .int .i64 0, .int .i64 0, .int .i64 0, .int .i64 0] 29) = W at *
  go_wp2_with fail
  refine (l2Place_any i _).mono ?_
  rintro e w' ⟨rfl, rfl⟩
  by_cases hp : 0 ≤ i ∧ i < 6
  · rw [decide_eq_true hp]
    obtain ⟨p, rfl⟩ : ∃ p : Nat, i = (p : Int) := ⟨i.toNat, by omega⟩
    have hp6 : p < 6 := by omega
    clear hp
    go_wp2_with fail
    refine (l2Place_any j _).mono ?_
    rintro e w' ⟨rfl, rfl⟩
    by_cases hq : 0 ≤ j ∧ j < 6
    · rw [decide_eq_true hq]
      obtain ⟨q, rfl⟩ : ∃ q : Nat, j = (q : Int) := ⟨j.toNat, by omega⟩
      have hq6 : q < 6 := by omega
      clear hq
      by_cases hne : p = q
      · have O := Lib.hid (back_no (putOk_two m (twoOk_not (ns := ns) (i := (p : Int)) (j := (q : Int)) fun h => h.2.2.2 (by omega))))
        have e1 : ((p : Int) == (q : Int)) = true := by simp [hne]
        have e2 : (p == q) = true := by simp [hne]
        clear hne
        have S1 := Lib.hid (Z.putAll z24 rfl)
        have S2 := Lib.hid (HB.out.puts (b := w.heap.size + 1 + 1) (by omega) 0 (ints z24))
        go_wp2_with (first | (refine build_law rfl 29 rfl _ buildRack ?_) | (refine store_at rfl 29 _ _ rfl _ _ rfl rfl ?_ 24 ?_ ?_ ?_ ?_; rotate_left; (· (repeat (first | (with_reducible assumption) | ((with_reducible refine Has.box _ _ ?_ ?_) <;> (first | assumption | decide)) | (with_reducible refine Has.alloc ?_ _) | ((with_reducible refine Has.putOther ?_ _ _ ?_); rotate_left; omega; skip) | ((with_reducible refine Has.below ?_ ?_); rotate_left; assumption)))); (· (first | assumption | rfl)); (· kernel_rfl)))
        exact bodyPost_ret (res_has1 rfl _ _ (w.heap.size + 1 + 1) z24 24 _ (.bool false) rfl rfl S1.out Try.underlying29 rfl (by kernel_rfl)) rfl ⟨by unfold backR; rw [O.out]; rfl, S2.out⟩
      · have e1 : ((p : Int) == (q : Int)) = false := by simp; omega
        have e2 : (p == q) = false := by simp; omega
        have HN := Lib.hid hne
        have HPE := Lib.hid (putOk_eq m hv hp6 hq6 hne)
        have HV := Lib.hid hv
        have sp := tub_len ns p h24 hp6
        have sq := tub_len ns q h24 hq6
        have vp := vR_tub hv p hp6
        have vq := vR_tub hv q hq6
        have hpi : (p : Int) < 6 := by omega
        have hp0 : (0 : Int) ≤ (p : Int) := by omega
        have hqi : (q : Int) < 6 := by omega
        have hq0 : (0 : Int) ≤ (q : Int) := by omega
        clear hne hv
        go_wp2_with (refine load_tub rfl 22 _ rfl _ (q) _ rfl ?_ ?_ ?_ ?_ _ Try.underlying22 rfl ?_ ?_; (· (first | rfl | omega)); rotate_left; (· (repeat (first | (with_reducible assumption) | ((with_reducible refine Has.box _ _ ?_ ?_) <;> (first | assumption | decide)) | (with_reducible refine Has.alloc ?_ _) | ((with_reducible refine Has.putOther ?_ _ _ ?_); rotate_left; omega; skip) | ((with_reducible refine Has.below ?_ ?_); rotate_left; assumption)))); (· omega); (· kernel_rfl))
        refine (l2Top_any (tub ns q) _ sq vq).mono ?_
        rintro e w1 ⟨rfl, b1⟩
        replace H := H.below b1
        replace HS := HS.below b1
        replace Z := Z.below b1
        replace HB := Lib.hid (HB.out.call b1)
        clear s0 s1 s2 b1 e1 e2
        go_wp2_with fail
        have l1 : (ints (tub ns p)).length = 4 := by rw [ints_len]; exact sp
        have l2 : (ints (tub ns q)).length = 4 := by rw [ints_len]; exact sq
        have hi1 : (Try.prog.info? 22).map (·.size) = some (ints (tub ns p)).length := by rw [l1]; kernel_rfl
        have hi2 : (Try.prog.info? 22).map (·.size) = some (ints (tub ns q)).length := by rw [l2]; kernel_rfl
        refine wp_region_held_drew (S := fun w' => Has w' w.heap.size ns 24 ∧ Has w' (w.heap.size + 1) [(p : Int), (q : Int), m] 3 ∧ Has w' (w.heap.size + 1 + 1) z24 24 ∧ Kept w w') (by kernel_rfl) ⟨H.drew, HS.drew, Z.drew, HB.out.drewN 1⟩ (fun hHeld => ?_)
        clear H HS Z HB
        (refine wpAnyH_take (i := 0) (v := ?_) rfl (by kernel_rfl) (by kernel_rfl) (by kernel_rfl) (fun _ _ _ h => h) (Or.inl ⟨by rfl, ?_⟩) hHeld ?_; rotate_left; (· (intro w' hSw; go_simp; try with_reducible rfl)); (try simp only [List.getElem_toArray, List.getElem_cons_zero, List.getElem_cons_succ, Act.put, List.setIfInBounds_toArray, List.set_cons_zero, List.set_cons_succ]))
        (refine wpAnyH_take (i := 1) (v := .int .i64 (p : Nat)) rfl (by kernel_rfl) (by kernel_rfl) (by kernel_rfl) (fun _ _ _ h => h) (Or.inl ⟨by rfl, ?_⟩) hHeld ?_; (· (intro w' hSw; have q := (src3 hSw.2.1).1; clear hSw; go_simp; try with_reducible rfl)); (try simp only [List.getElem_toArray, List.getElem_cons_zero, List.getElem_cons_succ, Act.put, List.setIfInBounds_toArray, List.set_cons_zero, List.set_cons_succ]))
        (refine wpAnyH_take (i := 2) (v := ?_) rfl (by kernel_rfl) (by kernel_rfl) (by kernel_rfl) (fun _ _ _ h => h) (Or.inl ⟨by rfl, ?_⟩) hHeld ?_; rotate_left; (· (intro w' hSw; go_simp; try with_reducible rfl)); (try simp only [List.getElem_toArray, List.getElem_cons_zero, List.getElem_cons_succ, Act.put, List.setIfInBounds_toArray, List.set_cons_zero, List.set_cons_succ])); (refine wpAnyH_take (i := 3) (v := ?_) rfl (by kernel_rfl) (by kernel_rfl) (by kernel_rfl) (fun _ _ _ h => h) (Or.inl ⟨by rfl, ?_⟩) hHeld ?_; rotate_left; (· (intro w' hSw; go_simp; try with_reducible rfl)); (try simp only [List.getElem_toArray, List.getElem_cons_zero, List.getElem_cons_succ, Act.put, List.setIfInBounds_toArray, List.set_cons_zero, List.set_cons_succ])); (refine wpAnyH_take (i := 6) (v := ?_) rfl (by kernel_rfl) (by kernel_rfl) (by kernel_rfl) (fun _ _ _ h => h) (Or.inl ⟨by rfl, ?_⟩) hHeld ?_; rotate_left; (· (intro w' hSw; go_simp; try with_reducible rfl)); (try simp only [List.getElem_toArray, List.getElem_cons_zero, List.getElem_cons_succ, Act.put, List.setIfInBounds_toArray, List.set_cons_zero, List.set_cons_succ]))
        (refine wpAnyH_take (i := 7) (v := .int .i64 (q : Nat)) rfl (by kernel_rfl) (by kernel_rfl) (by kernel_rfl) (fun _ _ _ h => h) (Or.inl ⟨by rfl, ?_⟩) hHeld ?_; (· (intro w' hSw; have q := (src3 hSw.2.1).2.1; clear hSw; go_simp; try with_reducible rfl)); (try simp only [List.getElem_toArray, List.getElem_cons_zero, List.getElem_cons_succ, Act.put, List.setIfInBounds_toArray, List.set_cons_zero, List.set_cons_succ]))
        (refine wpAnyH_take (i := 8) (v := ?_) rfl (by kernel_rfl) (by kernel_rfl) (by kernel_rfl) (fun _ _ _ h => h) (Or.inl ⟨by rfl, ?_⟩) hHeld ?_; rotate_left; (· (intro w' hSw; go_simp; try with_reducible rfl)); (try simp only [List.getElem_toArray, List.getElem_cons_zero, List.getElem_cons_succ, Act.put, List.setIfInBounds_toArray, List.set_cons_zero, List.set_cons_succ])); (refine wpAnyH_take (i := 9) (v := ?_) rfl (by kernel_rfl) (by kernel_rfl) (by kernel_rfl) (fun _ _ _ h => h) (Or.inl ⟨by rfl, ?_⟩) hHeld ?_; rotate_left; (· (intro w' hSw; go_simp; try with_reducible rfl)); (try simp only [List.getElem_toArray, List.getElem_cons_zero, List.getElem_cons_succ, Act.put, List.setIfInBounds_toArray, List.set_cons_zero, List.set_cons_succ]))
        (refine wpAnyH_take (i := 4) (v := _) rfl (by kernel_rfl) (by kernel_rfl) (by kernel_rfl) (fun _ _ _ h => h) (yieldsIf_load_mid (by rfl) 22 _ rfl _ _ rfl (ints (tub ns p)) _ (fun w' hSw => hSw.1.holds.sub (p * 4) 4) Try.underlying22 rfl (hi1)) hHeld ?_; (try simp only [List.getElem_toArray, List.getElem_cons_zero, List.getElem_cons_succ, Act.put, List.setIfInBounds_toArray, List.set_cons_zero, List.set_cons_succ]))
        (refine wpAnyH_take (i := 10) (v := _) rfl (by kernel_rfl) (by kernel_rfl) (by kernel_rfl) (fun _ _ _ h => h) (yieldsIf_load_mid (by rfl) 22 _ rfl _ _ rfl (ints (tub ns q)) _ (fun w' hSw => hSw.1.holds.sub (q * 4) 4) Try.underlying22 rfl (hi2)) hHeld ?_; (try simp only [List.getElem_toArray, List.getElem_cons_zero, List.getElem_cons_succ, Act.put, List.setIfInBounds_toArray, List.set_cons_zero, List.set_cons_succ]))
        (refine wpAnyH_ready (rs := [5]) (by kernel_rfl) (by simp) ?_; refine AllReadyH.cons (o := _) rfl (fun K hK => ?_) AllReadyH.nil; (simp only [List.getElem_toArray, List.getElem_cons_zero, List.getElem_cons_succ, Region.wanted, if_true]))
        go_simp
        refine (l2Many_any (tub ns p) _ sp vp).mono ?_
        rintro e w2 ⟨rfl, b2⟩
        have G := And.intro (hHeld.1.below b2) (And.intro (hHeld.2.1.below b2) (And.intro (hHeld.2.2.1.below b2) (hHeld.2.2.2.call b2)))
        dsimp only
        (try simp only [List.getElem_toArray, List.getElem_cons_zero, List.getElem_cons_succ, Act.put, List.setIfInBounds_toArray, List.set_cons_zero, List.set_cons_succ])
        refine hK.out _ _ G (fun hHeld => ?_)
        clear hK K G b2
        (refine wpAnyH_ready (rs := [11]) (by kernel_rfl) (by simp) ?_; refine AllReadyH.cons (o := _) rfl (fun K hK => ?_) AllReadyH.nil; (simp only [List.getElem_toArray, List.getElem_cons_zero, List.getElem_cons_succ, Region.wanted, if_true]))
        go_simp
        refine (l2Many_any (tub ns q) _ sq vq).mono ?_
        rintro e w3 ⟨rfl, b3⟩
        have G := And.intro (hHeld.1.below b3) (And.intro (hHeld.2.1.below b3) (And.intro (hHeld.2.2.1.below b3) (hHeld.2.2.2.call b3)))
        dsimp only
        (try simp only [List.getElem_toArray, List.getElem_cons_zero, List.getElem_cons_succ, Act.put, List.setIfInBounds_toArray, List.set_cons_zero, List.set_cons_succ])
        refine hK.out _ _ G (fun hHeld => ?_)
        clear hK K G b3
        (refine wpAnyH_take (i := 12) (v := ?_) rfl (by kernel_rfl) (by kernel_rfl) (by kernel_rfl) (fun _ _ _ h => h) (Or.inl ⟨by rfl, ?_⟩) hHeld ?_; rotate_left; (· (intro w' hSw; go_simp; try with_reducible rfl)); (try simp only [List.getElem_toArray, List.getElem_cons_zero, List.getElem_cons_succ, Act.put, List.setIfInBounds_toArray, List.set_cons_zero, List.set_cons_succ])); (refine wpAnyH_take (i := 13) (v := ?_) rfl (by kernel_rfl) (by kernel_rfl) (by kernel_rfl) (fun _ _ _ h => h) (Or.inl ⟨by rfl, ?_⟩) hHeld ?_; rotate_left; (· (intro w' hSw; go_simp; try with_reducible rfl)); (try simp only [List.getElem_toArray, List.getElem_cons_zero, List.getElem_cons_succ, Act.put, List.setIfInBounds_toArray, List.set_cons_zero, List.set_cons_succ]))
        refine wpAnyH_done (by kernel_rfl) ?_ _
        have H3 := hHeld.1
        have HS3 := hHeld.2.1
        have Z3 := hHeld.2.2.1
        have HB3 := Lib.hid hHeld.2.2.2
        clear hHeld hi1 hi2 l1 l2
        have hTQ := Lib.hid (tubeFacts sq vq)
        have hTP := Lib.hid (tubeFacts sp vp)
        have hl4 := hTP.out.lay4
        have hln := hTQ.out.topN
        have hl5 := hTQ.out.lay4
        go_wp2_with fail
        have MIN := Lib.hid (l1Least_any ((topN (tub ns q) : Nat) : Int) (4 - ((lay (tub ns p) : Nat) : Int)))
        refine wp_region_held_drew (S := fun w' => w' = w3.drew) (by kernel_rfl) rfl (fun hHeld => ?_)
        (refine wpAnyH_take (i := 0) (v := ?_) rfl (by kernel_rfl) (by kernel_rfl) (by kernel_rfl) (fun _ _ _ h => h) (Or.inl ⟨by rfl, ?_⟩) hHeld ?_; rotate_left; (· (intro w' hSw; go_simp; try with_reducible rfl)); (try simp only [List.getElem_toArray, List.getElem_cons_zero, List.getElem_cons_succ, Act.put, List.setIfInBounds_toArray, List.set_cons_zero, List.set_cons_succ])); (refine wpAnyH_take (i := 2) (v := ?_) rfl (by kernel_rfl) (by kernel_rfl) (by kernel_rfl) (fun _ _ _ h => h) (Or.inl ⟨by rfl, ?_⟩) hHeld ?_; rotate_left; (· (intro w' hSw; go_simp; try with_reducible rfl)); (try simp only [List.getElem_toArray, List.getElem_cons_zero, List.getElem_cons_succ, Act.put, List.setIfInBounds_toArray, List.set_cons_zero, List.set_cons_succ])); (refine wpAnyH_take (i := 3) (v := ?_) rfl (by kernel_rfl) (by kernel_rfl) (by kernel_rfl) (fun _ _ _ h => h) (Or.inl ⟨by rfl, ?_⟩) hHeld ?_; rotate_left; (· (intro w' hSw; go_simp; try with_reducible rfl)); (try simp only [List.getElem_toArray, List.getElem_cons_zero, List.getElem_cons_succ, Act.put, List.setIfInBounds_toArray, List.set_cons_zero, List.set_cons_succ])); (refine wpAnyH_take (i := 4) (v := ?_) rfl (by kernel_rfl) (by kernel_rfl) (by kernel_rfl) (fun _ _ _ h => h) (Or.inl ⟨by rfl, ?_⟩) hHeld ?_; rotate_left; (· (intro w' hSw; go_simp; try with_reducible rfl)); (try simp only [List.getElem_toArray, List.getElem_cons_zero, List.getElem_cons_succ, Act.put, List.setIfInBounds_toArray, List.set_cons_zero, List.set_cons_succ]))
        (refine wpAnyH_take (i := 1) (v := .int .i64 m) rfl (by kernel_rfl) (by kernel_rfl) (by kernel_rfl) (fun _ _ _ h => h) (Or.inl ⟨by rfl, ?_⟩) hHeld ?_; (· (intro w' hSw; have q := (hSw ▸ (src3 HS3.drew).2.2 : w'.cell? ⟨w.heap.size + 1, 2, none⟩ = some (.int .i64 m)); clear hSw; go_simp; try with_reducible rfl)); (try simp only [List.getElem_toArray, List.getElem_cons_zero, List.getElem_cons_succ, Act.put, List.setIfInBounds_toArray, List.set_cons_zero, List.set_cons_succ]))
        have hwr : IntKind.i64.wrap (4 - ((lay (tub ns p) : Nat) : Int)) = 4 - ((lay (tub ns p) : Nat) : Int) := IntWalk.i64_in _ (by omega)
        (refine wpAnyH_ready (rs := [5]) (by kernel_rfl) (by simp) ?_; refine AllReadyH.cons (o := _) rfl (fun K hK => ?_) AllReadyH.nil; (simp only [List.getElem_toArray, List.getElem_cons_zero, List.getElem_cons_succ, Region.wanted, if_true]))
        go_simp
        refine (MIN.out _).mono ?_
        rintro e w' ⟨rfl, rfl⟩
        dsimp only
        (try simp only [List.getElem_toArray, List.getElem_cons_zero, List.getElem_cons_succ, Act.put, List.setIfInBounds_toArray, List.set_cons_zero, List.set_cons_succ])
        refine hK.out _ _ rfl (fun hHeld => ?_)
        clear hK K
        (refine wpAnyH_ready (rs := [6]) (by kernel_rfl) (by simp) ?_; refine AllReadyH.cons (o := _) rfl (fun K hK => ?_) AllReadyH.nil; (simp only [List.getElem_toArray, List.getElem_cons_zero, List.getElem_cons_succ, Region.wanted, if_true]))
        go_simp
        refine (l1In_any _ _ _ _).mono ?_
        rintro e w' ⟨rfl, rfl⟩
        rw [← HPE.out]
        dsimp only
        (try simp only [List.getElem_toArray, List.getElem_cons_zero, List.getElem_cons_succ, Act.put, List.setIfInBounds_toArray, List.set_cons_zero, List.set_cons_succ])
        refine hK.out _ _ rfl (fun hHeld => ?_)
        clear hK K
        (refine wpAnyH_take (i := 7) (v := ?_) rfl (by kernel_rfl) (by kernel_rfl) (by kernel_rfl) (fun _ _ _ h => h) (Or.inl ⟨by rfl, ?_⟩) hHeld ?_; rotate_left; (· (intro w' hSw; go_simp; try with_reducible rfl)); (try simp only [List.getElem_toArray, List.getElem_cons_zero, List.getElem_cons_succ, Act.put, List.setIfInBounds_toArray, List.set_cons_zero, List.set_cons_succ]))
        refine wpAnyH_done (by kernel_rfl) ?_ _
        clear hHeld MIN
        replace H3 := H3.drew
        replace HS3 := HS3.drew
        replace Z3 := Z3.drew
        replace HB3 : Hid (Kept w w3.drew) := Lib.hid (HB3.out.drewN 1)
        generalize hW3 : w3.drew = W3 at *
        clear hW3
        by_cases hO : putOk ns (p : Int) (q : Int) m = true
        · rw [hO]
          obtain ⟨p', q', k, e1, e2, rfl, MO, hkt⟩ := putOk_of h24 hO
          obtain rfl : p = p' := by omega
          obtain rfl : q = q' := by omega
          clear e1 e2
          have HI := Lib.hid (back_iff h24 hO)
          have HPR := Lib.hid (putR_yes hO)
          have HM := Lib.hid MO
          have hm4 : k ≤ 4 := by omega
          have R3 := Has.box W3 29 h24 (by omega)
          have GH3 := H3.alloc (.cells (ints ns).toArray 29)
          have GS3 := HS3.alloc (.cells (ints ns).toArray 29)
          have GZ3 := Z3.alloc (.cells (ints ns).toArray 29)
          have GB3 := Lib.hid (HB3.out.alloc (.cells (ints ns).toArray 29))
          have hOB := Z3.lt
          obtain ⟨OB, hob⟩ : ∃ OB, OB = W3.heap.size := ⟨_, rfl⟩
          have hs := two_self h24 hq6 hp6 (Ne.symm HN.out)
          have R4 : Has (W3.alloc (.cells (ints ns).toArray 29)) OB (two ns q p (fromK (tub ns q) 0) (toK (tub ns p) (topC (tub ns q)) 0)) 24 := by
            show Has _ OB (two ns q p (tub ns q) (tub ns p)) 24
            rw [hs, hob]; exact R3
          have HOB : w.heap.size + 1 + 1 < OB := by omega
          have FP := Lib.hid (fun k hk => fromK_facts sq vq k hk)
          have FQ := Lib.hid (fun k hk => toK_facts sp vp (topC (tub ns q)) HM.out.color k hk)
          have HL := Lib.hid h24
          have HC := Lib.hid (And.intro MO.hm MO.hq4)
          have HOBW := Lib.hid hob
          clear MO hs R3
          go_wp2_with (first | (refine store_new rfl 29 _ _ rfl _ _ _ rfl _ rfl _ rfl rfl ?_ ?_ ?_; (· (first | assumption | rfl)); (· kernel_rfl)) | (refine load_has rfl 29 _ rfl _ rfl ?_ 24 ?_ _ Try.underlying29 rfl ?_ ?_; rotate_left; (· (repeat (first | (with_reducible assumption) | ((with_reducible refine Has.box _ _ ?_ ?_) <;> (first | assumption | decide)) | (with_reducible refine Has.alloc ?_ _) | ((with_reducible refine Has.putOther ?_ _ _ ?_); rotate_left; omega; skip) | ((with_reducible refine Has.below ?_ ?_); rotate_left; assumption)))); (· kernel_rfl)))
          rw [← hob]
          clear H3 HS3 Z3 HB3 hOB hob h24 hO
          generalize (W3.alloc (.cells (ints ns).toArray 29)) = W4 at *
          go_loopw [11] (fun z wr => ∃ x : Nat, x ≤ k ∧ z = .int .i64 x ∧ Has wr w.heap.size ns 24 ∧ Has wr (w.heap.size + 1) [(p : Int), (q : Int), (k : Int)] 3 ∧ Has wr (w.heap.size + 1 + 1) z24 24 ∧ Has wr OB (two ns q p (fromK (tub ns q) x) (toK (tub ns p) (topC (tub ns q)) x)) 24 ∧ Hid (Kept w wr)) (fun z _ => k - (intOf z).toNat)
          case atStart => exact ⟨0, by omega, rfl, GH3, GS3, GZ3, R4, GB3⟩
          case round =>
            obtain ⟨x, hx, rfl, G0, GS, GZ, G1, GB⟩ := hrel
            clear GH3 GS3 GZ3 R4 GB3
            by_cases h : x < k
            · have hki : (x : Int) < (k : Int) := by omega
              have fp := FP.out x (by have := HC.out; omega)
              have fq := FQ.out x (by have := HC.out; omega)
              have hkl : x < lay (tub ns q) := by have := HC.out; omega
              have hkq : x + lay (tub ns p) < 4 := by have := HC.out; omega
              have i1 : ((lay (tub ns q) : Int) - 1 - (x : Int)).toNat = lay (tub ns q) - 1 - x := by omega
              have i2 : ((lay (tub ns p) : Int) + (x : Int)).toNat = lay (tub ns p) + x := by omega
              have j1 : (0 : Int) ≤ (lay (tub ns q) : Int) - 1 - (x : Int) := by omega
              have j2 : (lay (tub ns q) : Int) - 1 - (x : Int) < 4 := by omega
              have j3 : (lay (tub ns p) : Int) + (x : Int) < 4 := by omega
              have j4 : (0 : Int) ≤ (lay (tub ns p) : Int) + (x : Int) := by omega
              have c1 := G1.cell (q * 4 + (lay (tub ns q) - 1 - x)) (by omega)
              have f1 := G1.free (q * 4 + (lay (tub ns q) - 1 - x)) (by omega)
              have G3 := G1.set (q * 4 + (lay (tub ns q) - 1 - x)) 0 (by omega)
              rw [two_set_p HL.out hq6 hp6 fp.2.2 fq.2.2 (Ne.symm HN.out) _ (by omega)] at G3
              have e3 : (fromK (tub ns q) x).set (lay (tub ns q) - 1 - x) 0 = fromK (tub ns q) (x + 1) := by
                show _ = takeT (fromK (tub ns q) x)
                unfold takeT; rw [fp.1]; congr 1; omega
              rw [e3] at G3
              have fp3 := (FP.out (x + 1) (by have := HC.out; omega)).2.2
              have c2 := G3.cell (p * 4 + (lay (tub ns p) + x)) (by omega)
              have f2 := G3.free (p * 4 + (lay (tub ns p) + x)) (by omega)
              have G4 := G3.set (p * 4 + (lay (tub ns p) + x)) (topC (tub ns q)) (by omega)
              rw [two_set_q HL.out hq6 hp6 fp3 fq.2.2 (Ne.symm HN.out) _ (by omega)] at G4
              have e4 : (toK (tub ns p) (topC (tub ns q)) x).set (lay (tub ns p) + x) (topC (tub ns q)) = toK (tub ns p) (topC (tub ns q)) (x + 1) := by
                show _ = putT (toK (tub ns p) (topC (tub ns q)) x) (topC (tub ns q))
                unfold putT; rw [fq.1]
              rw [e4] at G4
              have GS2 := GS.setOther (b' := OB) (q * 4 + (lay (tub ns q) - 1 - x)) (.int .i64 0) (by omega)
              have G5 := Lib.hid G4
              have X5 := Lib.hid ((G0.setOther (b' := OB) (q * 4 + (lay (tub ns q) - 1 - x)) (.int .i64 0) (by omega)).setOther (b' := OB) (p * 4 + (lay (tub ns p) + x)) (.int .i64 (topC (tub ns q))) (by omega))
              have Y5 := Lib.hid ((GZ.setOther (b' := OB) (q * 4 + (lay (tub ns q) - 1 - x)) (.int .i64 0) (by omega)).setOther (b' := OB) (p * 4 + (lay (tub ns p) + x)) (.int .i64 (topC (tub ns q))) (by omega))
              have V5 := Lib.hid (GS2.setOther (b' := OB) (p * 4 + (lay (tub ns p) + x)) (.int .i64 (topC (tub ns q))) (by omega))
              have K5 := Lib.hid ((GB.out.set (b := OB) (by omega) (q * 4 + (lay (tub ns q) - 1 - x)) (.int .i64 0)).set (b := OB) (by omega) (p * 4 + (lay (tub ns p) + x)) (.int .i64 (topC (tub ns q))))
              obtain ⟨s0, s1, s2⟩ := src3 GS
              obtain ⟨r0, r1, r2⟩ := src3 GS2
              clear fp fq e3 e4 fp3 G0 G1 GZ GS GS2 G3 G4 GB
              generalize (two ns q p (fromK (tub ns q) x) (toK (tub ns p) (topC (tub ns q)) x)).getD (q * 4 + (lay (tub ns q) - 1 - x)) 0 = x1 at *
              generalize (two ns q p (fromK (tub ns q) (x + 1)) (toK (tub ns p) (topC (tub ns q)) x)).getD (p * 4 + (lay (tub ns p) + x)) 0 = x2 at *
              go_wp2_with fail
              go_roundw
              case rel => exact ⟨x + 1, by omega, by go_num, X5.out, V5.out, Y5.out, G5.out, K5⟩
              case measure => simp [intOf]; omega
            · obtain rfl : x = k := by omega
              have hq1 : decide ((x : Int) < (x : Int)) = false := by simp
              replace G1 : Has wr OB (moveT ns q p x) 24 := G1
              have hL := HM.out.len24
              have hV := HM.out.valid
              obtain ⟨s0, s1, s2⟩ := src3 GS
              go_wp2_with (refine load_has rfl 29 _ rfl _ rfl ?_ 24 ?_ _ Try.underlying29 rfl ?_ ?_; rotate_left; (· (repeat (first | (with_reducible assumption) | ((with_reducible refine Has.box _ _ ?_ ?_) <;> (first | assumption | decide)) | (with_reducible refine Has.alloc ?_ _) | ((with_reducible refine Has.putOther ?_ _ _ ?_); rotate_left; omega; skip) | ((with_reducible refine Has.below ?_ ?_); rotate_left; assumption)))); (· kernel_rfl))
              refine (l2Can_any (moveT ns q p x) p q _ hL hV hp6 hq6).mono ?_
              rintro e w5 ⟨rfl, b5⟩
              replace G0 := G0.below b5
              replace G1 := G1.below b5
              replace GS := GS.below b5
              replace GZ := GZ.below b5
              replace GB := Lib.hid (GB.out.call b5)
              clear s0 s1 s2 b5 hq1
              by_cases hc : 0 < canN (tub (moveT ns q p x) p) (tub (moveT ns q p x) q)
              · rw [decide_eq_true (And.intro HN.out hc)]
                have HCC := Lib.hid hc
                obtain ⟨s0, s1, s2⟩ := src3 GS
                clear hc
                go_wp2_with (refine load_has rfl 29 _ rfl _ rfl ?_ 24 ?_ _ Try.underlying29 rfl ?_ ?_; rotate_left; (· (repeat (first | (with_reducible assumption) | ((with_reducible refine Has.box _ _ ?_ ?_) <;> (first | assumption | decide)) | (with_reducible refine Has.alloc ?_ _) | ((with_reducible refine Has.putOther ?_ _ _ ?_); rotate_left; omega; skip) | ((with_reducible refine Has.below ?_ ?_); rotate_left; assumption)))); (· kernel_rfl))
                refine (l2Pour_any (moveT ns q p x) p q _ hL hV hp6 hq6 HN.out HCC.out).mono ?_
                rintro e w6 ⟨rfl, b6⟩
                have hPL : (pourT (moveT ns q p x) p q).length = 24 := (pour_moveOk hL hV hp6 hq6 HN.out HCC.out).len24
                replace G0 := (G0.below b6).alloc (.cells (ints (pourT (moveT ns q p x) p q)).toArray 29)
                replace G1 := (G1.below b6).alloc (.cells (ints (pourT (moveT ns q p x) p q)).toArray 29)
                replace GS := (GS.below b6).alloc (.cells (ints (pourT (moveT ns q p x) p q)).toArray 29)
                replace GZ := (GZ.below b6).alloc (.cells (ints (pourT (moveT ns q p x) p q)).toArray 29)
                replace GB := Lib.hid ((GB.out.call b6).alloc (.cells (ints (pourT (moveT ns q p x) p q)).toArray 29))
                have GP := Has.box w6 29 hPL (by omega)
                have EQ := Lib.hid (eqRackT (pourT (moveT ns q p x) p q) ns hPL HL.out)
                have EM : Hid (Try.prog.eqGuardType Try.prog.depth 29 = false) := Lib.hid (by kernel_rfl)
                have HLL := HL.out
                clear s0 s1 s2 b6
                obtain ⟨s0, s1, s2⟩ := src3 GS
                have HI1 := Lib.hid HI.out.1
                by_cases hr : pourT (moveT ns q p x) p q = ns
                · have O := Lib.hid (show backOk ns (p : Int) (q : Int) (x : Int) = true by rw [HI1.out, decide_eq_true HCC.out, decide_eq_true hr]; rfl)
                  have hcn := HI.out.2 O.out
                  rw [hcn]
                  have HR := Lib.hid hr
                  have S1 := Lib.hid (GZ.putAll (moveT ns q p x) hL)
                  have S2 := Lib.hid (GB.out.puts (b := w.heap.size + 1 + 1) (by omega) 0 (ints (moveT ns q p x)))
                  have e5 : ((x : Int) != (x : Int)) = false := by simp
                  have e6 : (x != x) = false := by simp
                  clear hr hcn
                  go_wp2_with (first | (refine store_new rfl 29 _ _ rfl _ _ _ rfl _ rfl _ rfl rfl ?_ ?_ ?_; (· (first | assumption | rfl)); (· kernel_rfl)) | (refine load_has rfl 29 _ rfl _ rfl ?_ 24 ?_ _ Try.underlying29 rfl ?_ ?_; rotate_left; (· (repeat (first | (with_reducible assumption) | ((with_reducible refine Has.box _ _ ?_ ?_) <;> (first | assumption | decide)) | (with_reducible refine Has.alloc ?_ _) | ((with_reducible refine Has.putOther ?_ _ _ ?_); rotate_left; omega; skip) | ((with_reducible refine Has.below ?_ ?_); rotate_left; assumption)))); (· kernel_rfl)) | (refine store_at rfl 29 _ _ rfl _ _ rfl rfl ?_ 24 ?_ ?_ ?_ ?_; rotate_left; (· (repeat (first | (with_reducible assumption) | ((with_reducible refine Has.box _ _ ?_ ?_) <;> (first | assumption | decide)) | (with_reducible refine Has.alloc ?_ _) | ((with_reducible refine Has.putOther ?_ _ _ ?_); rotate_left; omega; skip) | ((with_reducible refine Has.below ?_ ?_); rotate_left; assumption)))); (· (first | assumption | rfl)); (· kernel_rfl)) | (refine neq_no rfl 29 29 _ _ rfl (pourT (moveT ns q p x) p q) ns rfl rfl EM.out EQ.out HR.out ?_))
                  exact bodyPost_ret (res_has1 rfl _ _ (w.heap.size + 1 + 1) (moveT ns q p x) 24 _ (.bool true) rfl rfl S1.out Try.underlying29 rfl (by kernel_rfl)) rfl ⟨by rw [back_putR O.out, HPR.out, O.out], S2.out⟩
                · have O := Lib.hid (show backOk ns (p : Int) (q : Int) (x : Int) = false by rw [HI1.out, decide_eq_false hr, Bool.and_false])
                  have HR := Lib.hid hr
                  have S1 := Lib.hid (GZ.putAll z24 rfl)
                  have S2 := Lib.hid (GB.out.puts (b := w.heap.size + 1 + 1) (by omega) 0 (ints z24))
                  clear hr
                  go_wp2_with (first | (refine build_law rfl 29 rfl _ buildRack ?_) | (refine store_new rfl 29 _ _ rfl _ _ _ rfl _ rfl _ rfl rfl ?_ ?_ ?_; (· (first | assumption | rfl)); (· kernel_rfl)) | (refine load_has rfl 29 _ rfl _ rfl ?_ 24 ?_ _ Try.underlying29 rfl ?_ ?_; rotate_left; (· (repeat (first | (with_reducible assumption) | ((with_reducible refine Has.box _ _ ?_ ?_) <;> (first | assumption | decide)) | (with_reducible refine Has.alloc ?_ _) | ((with_reducible refine Has.putOther ?_ _ _ ?_); rotate_left; omega; skip) | ((with_reducible refine Has.below ?_ ?_); rotate_left; assumption)))); (· kernel_rfl)) | (refine store_at rfl 29 _ _ rfl _ _ rfl rfl ?_ 24 ?_ ?_ ?_ ?_; rotate_left; (· (repeat (first | (with_reducible assumption) | ((with_reducible refine Has.box _ _ ?_ ?_) <;> (first | assumption | decide)) | (with_reducible refine Has.alloc ?_ _) | ((with_reducible refine Has.putOther ?_ _ _ ?_); rotate_left; omega; skip) | ((with_reducible refine Has.below ?_ ?_); rotate_left; assumption)))); (· (first | assumption | rfl)); (· kernel_rfl)) | (refine neq_yes rfl 29 29 _ _ rfl (pourT (moveT ns q p x) p q) ns rfl rfl EM.out EQ.out HR.out ?_))
                  exact bodyPost_ret (res_has1 rfl _ _ (w.heap.size + 1 + 1) z24 24 _ (.bool false) rfl rfl S1.out Try.underlying29 rfl (by kernel_rfl)) rfl ⟨by unfold backR; rw [O.out]; rfl, S2.out⟩
              · rw [decide_eq_false (fun h => hc h.2)]
                have O := Lib.hid (show backOk ns (p : Int) (q : Int) (x : Int) = false by rw [HI.out.1, decide_eq_false hc]; rfl)
                clear hc
                have S1 := Lib.hid (GZ.putAll z24 rfl)
                have S2 := Lib.hid (GB.out.puts (b := w.heap.size + 1 + 1) (by omega) 0 (ints z24))
                go_wp2_with (first | (refine build_law rfl 29 rfl _ buildRack ?_) | (refine store_at rfl 29 _ _ rfl _ _ rfl rfl ?_ 24 ?_ ?_ ?_ ?_; rotate_left; (· (repeat (first | (with_reducible assumption) | ((with_reducible refine Has.box _ _ ?_ ?_) <;> (first | assumption | decide)) | (with_reducible refine Has.alloc ?_ _) | ((with_reducible refine Has.putOther ?_ _ _ ?_); rotate_left; omega; skip) | ((with_reducible refine Has.below ?_ ?_); rotate_left; assumption)))); (· (first | assumption | rfl)); (· kernel_rfl)))
                exact bodyPost_ret (res_has1 rfl _ _ (w.heap.size + 1 + 1) z24 24 _ (.bool false) rfl rfl S1.out Try.underlying29 rfl (by kernel_rfl)) rfl ⟨by unfold backR; rw [O.out]; rfl, S2.out⟩
        · have hf : putOk ns (p : Int) (q : Int) m = false := by simpa using hO
          have O := Lib.hid (back_no hf)
          rw [hf]
          clear hf hO
          have S1 := Lib.hid (Z3.putAll z24 rfl)
          have S2 := Lib.hid (HB3.out.puts (b := w.heap.size + 1 + 1) (by omega) 0 (ints z24))
          go_wp2_with (first | (refine build_law rfl 29 rfl _ buildRack ?_) | (refine store_at rfl 29 _ _ rfl _ _ rfl rfl ?_ 24 ?_ ?_ ?_ ?_; rotate_left; (· (repeat (first | (with_reducible assumption) | ((with_reducible refine Has.box _ _ ?_ ?_) <;> (first | assumption | decide)) | (with_reducible refine Has.alloc ?_ _) | ((with_reducible refine Has.putOther ?_ _ _ ?_); rotate_left; omega; skip) | ((with_reducible refine Has.below ?_ ?_); rotate_left; assumption)))); (· (first | assumption | rfl)); (· kernel_rfl)))
          exact bodyPost_ret (res_has1 rfl _ _ (w.heap.size + 1 + 1) z24 24 _ (.bool false) rfl rfl S1.out Try.underlying29 rfl (by kernel_rfl)) rfl ⟨by unfold backR; rw [O.out]; rfl, S2.out⟩
    · rw [decide_eq_false hq]
      have O := Lib.hid (back_no (putOk_two m (twoOk_not (ns := ns) (i := (p : Int)) (j := j) fun h => hq h.2.2.1)))
      clear hq
      have S1 := Lib.hid (Z.putAll z24 rfl)
      have S2 := Lib.hid (HB.out.puts (b := w.heap.size + 1 + 1) (by omega) 0 (ints z24))
      go_wp2_with (first | (refine build_law rfl 29 rfl _ buildRack ?_) | (refine store_at rfl 29 _ _ rfl _ _ rfl rfl ?_ 24 ?_ ?_ ?_ ?_; rotate_left; (· (repeat (first | (with_reducible assumption) | ((with_reducible refine Has.box _ _ ?_ ?_) <;> (first | assumption | decide)) | (with_reducible refine Has.alloc ?_ _) | ((with_reducible refine Has.putOther ?_ _ _ ?_); rotate_left; omega; skip) | ((with_reducible refine Has.below ?_ ?_); rotate_left; assumption)))); (· (first | assumption | rfl)); (· kernel_rfl)))
      exact bodyPost_ret (res_has1 rfl _ _ (w.heap.size + 1 + 1) z24 24 _ (.bool false) rfl rfl S1.out Try.underlying29 rfl (by kernel_rfl)) rfl ⟨by unfold backR; rw [O.out]; rfl, S2.out⟩
  · rw [decide_eq_false hp]
    have O := Lib.hid (back_no (putOk_two m (twoOk_not (ns := ns) (i := i) (j := j) fun h => hp h.2.1)))
    clear hp
    have S1 := Lib.hid (Z.putAll z24 rfl)
    have S2 := Lib.hid (HB.out.puts (b := w.heap.size + 1 + 1) (by omega) 0 (ints z24))
    go_wp2_with (first | (refine build_law rfl 29 rfl _ buildRack ?_) | (refine store_at rfl 29 _ _ rfl _ _ rfl rfl ?_ 24 ?_ ?_ ?_ ?_; rotate_left; (· (repeat (first | (with_reducible assumption) | ((with_reducible refine Has.box _ _ ?_ ?_) <;> (first | assumption | decide)) | (with_reducible refine Has.alloc ?_ _) | ((with_reducible refine Has.putOther ?_ _ _ ?_); rotate_left; omega; skip) | ((with_reducible refine Has.below ?_ ?_); rotate_left; assumption)))); (· (first | assumption | rfl)); (· kernel_rfl)))
    exact bodyPost_ret (res_has1 rfl _ _ (w.heap.size + 1 + 1) z24 24 _ (.bool false) rfl rfl S1.out Try.underlying29 rfl (by kernel_rfl)) rfl ⟨by unfold backR; rw [O.out]; rfl, S2.out⟩
end Go.Proofs.Ythnkfdhnbafcjab.base
