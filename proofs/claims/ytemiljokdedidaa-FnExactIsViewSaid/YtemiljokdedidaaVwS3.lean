/-
  Hidden counts and the number of candidates, on the model's side, walked.
-/
import Derived.Test.YtemiljokdedidaaVwS2
import Derived.Test.YtemiljokdedidaaVwI2
namespace Go.Proofs.Ytemiljokdedidaa.base
open Go.ChangeShapes Go.WideShapes Go.ChangeAt Go.RowKit
set_option linter.unusedVariables false
set_option linter.unusedSimpArgs false

theorem hid_same {vs : List Int} (h : vs.length = 18) (hv : vV vs = true) : wrL (hid vs) = hid vs := by
  have F := viewFacts h hv
  refine wrL_id fun x hx => ?_
  obtain ⟨j, hj, e⟩ := List.mem_iff_getElem.1 hx
  have hl := hid_len h
  have e2 : (hid vs).getD j 0 = x := by rw [List.getD_eq_getElem?_getD, List.getElem?_eq_getElem hj, e]; rfl
  have := F.nat j (by omega)
  have := F.each j (by omega)
  omega

set_option maxHeartbeats 800000 in
set_option maxRecDepth 100000 in
theorem specCountHidden (vs : List Int) (w : World) (h : vs.length = 18) (hw : Wf vs) :
    Calls Try.prog 26 #[row vs] w fun e w' => e = .returned (.tuple #[.int .i64 (belA vs), .agg (ints (hidA vs)).toArray, .bool (vV vs)]) ∧ Kept w w' := by
  have H := (Has.box w 36 h (by omega)).alloc (.cells #[.int .i64 0, .int .i64 0, .int .i64 0, .int .i64 0, .int .i64 0, .int .i64 0] 22)
  have Z := (Has.zero6 (w.alloc (.cells (ints vs).toArray 36)) 22).at (size1 _ _)
  have HB := Lib.hid (((kept_refl w).alloc (.cells (ints vs).toArray 36)).alloc (.cells #[.int .i64 0, .int .i64 0, .int .i64 0, .int .i64 0, .int .i64 0, .int .i64 0] 22))
  rw [row_ints]
  go_enter Try.func26, Try.ntmps26
  go_wp2_with (refine load_has rfl 36 _ rfl _ rfl ?_ 18 ?_ _ Try.underlying36 rfl ?_ ?_; rotate_left; (· (repeat (first | (with_reducible assumption) | ((with_reducible refine Has.box _ _ ?_ ?_) <;> (first | assumption | decide)) | (with_reducible refine Has.alloc ?_ _) | ((with_reducible refine Has.putOther ?_ _ _ ?_); rotate_left; omega; skip) | ((with_reducible refine Has.below ?_ ?_); rotate_left; assumption)))); (· kernel_rfl))
  refine (l7Good_any vs _ h hw).mono ?_
  rintro e w1 ⟨rfl, b1⟩
  have H1 := H.below b1
  have Z1 := Z.below b1
  have HB1 := Lib.hid (HB.out.call b1)
  clear H Z HB b1
  by_cases hv : vV vs = true
  · rw [hv]
    have F := Lib.hid (viewFacts h hv)
    have EA := Lib.hid (show hidA vs = hid vs by unfold hidA; rw [if_pos hv])
    have EB := Lib.hid (show belA vs = belUp vs 6 by unfold belA; rw [if_pos hv])
    have h6 := hid_len h
    have ES := hid_same h hv
    have HV := Lib.hid hv
    have KH := l7Hidden_any vs
    clear hv
    go_wp2_with (refine load_has rfl 36 _ rfl _ rfl ?_ 18 ?_ _ Try.underlying36 rfl ?_ ?_; rotate_left; (· (repeat (first | (with_reducible assumption) | ((with_reducible refine Has.box _ _ ?_ ?_) <;> (first | assumption | decide)) | (with_reducible refine Has.alloc ?_ _) | ((with_reducible refine Has.putOther ?_ _ _ ?_); rotate_left; omega; skip) | ((with_reducible refine Has.below ?_ ?_); rotate_left; assumption)))); (· kernel_rfl))
    refine (l7Hidden_any vs _ h F.out.tops hw).mono ?_
    rintro e w3 ⟨rfl, b3⟩
    rw [ES]
    have Z3 := (Z1.below b3).alloc (.cells (ints (hid vs)).toArray 22)
    have HB3 := Lib.hid ((HB1.out.call b3).alloc (.cells (ints (hid vs)).toArray 22))
    have Y := Has.box w3 22 h6 (by omega)
    have lz := b3.size
    have l1 := Z1.lt
    clear H1 HB1 b3 Z1 KH ES
    go_wp2_with (refine store_new rfl 22 _ _ rfl _ _ _ rfl _ rfl _ rfl rfl ?_ ?_ ?_; (· (first | assumption | rfl)); (· kernel_rfl))
    have li : (ints (hid vs)).length = 6 := by rw [ints_len]; exact h6
    have hi6 : (Try.prog.info? 22).map (·.size) = some (ints (hid vs)).length := by rw [li]; kernel_rfl
    have hne : w.heap.size + 1 < w3.heap.size := by omega
    generalize w3.alloc (.cells (ints (hid vs)).toArray 22) = W3 at *
    generalize w3.heap.size = b at *
    refine wp_region_held_drew (S := fun w' => Has w' b (hid vs) 6) (by kernel_rfl) Y.drew (fun hHeld => ?_)
    have S0 := Z3.drew
    have SB := HB3.out.drewN 1
    change Kept w (World.drew W3) at SB
    clear Y Z3 HB3
    generalize World.drew _ = WD at *
    have S1 := S0.putAll (hid vs) h6
    have S2 := SB.puts (b := w.heap.size + 1) (by omega) 0 (ints (hid vs))
    (refine wpAnyH_take (i := 0) (v := ?_) rfl (by kernel_rfl) (by kernel_rfl) (by kernel_rfl) (fun _ _ _ h => h) (Or.inl ⟨by rfl, ?_⟩) hHeld ?_; rotate_left; (· (intro w' hSw; go_simp; try with_reducible rfl)); (try simp only [List.getElem_toArray, List.getElem_cons_zero, List.getElem_cons_succ, Act.put, List.setIfInBounds_toArray, List.set_cons_zero, List.set_cons_succ])); (refine wpAnyH_take (i := 2) (v := ?_) rfl (by kernel_rfl) (by kernel_rfl) (by kernel_rfl) (fun _ _ _ h => h) (Or.inl ⟨by rfl, ?_⟩) hHeld ?_; rotate_left; (· (intro w' hSw; go_simp; try with_reducible rfl)); (try simp only [List.getElem_toArray, List.getElem_cons_zero, List.getElem_cons_succ, Act.put, List.setIfInBounds_toArray, List.set_cons_zero, List.set_cons_succ]))
    (refine wpAnyH_take (i := 1) (v := _) rfl (by kernel_rfl) (by kernel_rfl) (by kernel_rfl) (fun _ _ _ h => h) (yieldsIf_load_mid (by rfl) 22 _ rfl _ _ rfl (ints (hid vs)) _ (fun w' hSw => hSw.holds.range) Try.underlying22 rfl (hi6)) hHeld ?_; (try simp only [List.getElem_toArray, List.getElem_cons_zero, List.getElem_cons_succ, Act.put, List.setIfInBounds_toArray, List.set_cons_zero, List.set_cons_succ]))
    (refine wpAnyH_ready (rs := [3]) (by kernel_rfl) (by simp) ?_; refine AllReadyH.cons (o := _) rfl (fun K hK => ?_) AllReadyH.nil; (simp only [List.getElem_toArray, List.getElem_cons_zero, List.getElem_cons_succ, Region.wanted, if_true]); refine wp_store_mid _ _ _ rfl _ _ (ints (hid vs)).toArray rfl rfl (by simpa [li] using S0.there) (by simpa [li] using hi6) (all_oneCell_toArray (ints_one _)) ?_; (try simp only [List.getElem_toArray, List.getElem_cons_zero, List.getElem_cons_succ, Act.put, List.setIfInBounds_toArray, List.set_cons_zero, List.set_cons_succ, List.toList_toArray]); refine hK.out _ _ (hHeld.putOther _ _ (by omega)) (fun hHeld => ?_); clear hK K)
    (refine wpAnyH_take (i := 4) (v := ?_) rfl (by kernel_rfl) (by kernel_rfl) (by kernel_rfl) (fun _ _ _ h => h) (Or.inl ⟨by rfl, ?_⟩) hHeld ?_; rotate_left; (· (intro w' hSw; go_simp; try with_reducible rfl)); (try simp only [List.getElem_toArray, List.getElem_cons_zero, List.getElem_cons_succ, Act.put, List.setIfInBounds_toArray, List.set_cons_zero, List.set_cons_succ]))
    refine wpAnyH_done (by kernel_rfl) ?_ _
    clear hHeld hi6 li S0 SB
    go_wp2_with fail
    exact bodyPost_ret (res_tat rfl _ _ (w.heap.size + 1) (hid vs) 6 _ (.int .i64 (belUp vs 6)) (.bool true) rfl rfl rfl S1 Try.underlying22 rfl (by kernel_rfl)) rfl ⟨by rw [EA.out, EB.out, HV.out], S2⟩
  · have hf : vV vs = false := by simpa using hv
    have EA := Lib.hid (show hidA vs = z6 by unfold hidA; rw [if_neg hv])
    have EB := Lib.hid (show belA vs = 0 by unfold belA; rw [if_neg hv])
    rw [hf]
    have HV := Lib.hid hf
    clear hf hv
    have S1 := Lib.hid (Z1.putAll z6 rfl)
    have S2 := Lib.hid (HB1.out.puts (b := w.heap.size + 1) (by omega) 0 (ints z6))
    have hz : z6.length = 6 := rfl
    have hbu : ∀ w : World, (Instr.build 22 #[]).run Try.prog w = .ok (.agg (ints z6).toArray) w := fun _ => by kernel_rfl
    have HZB := Lib.hid hbu
    clear hbu
    go_wp2_with (first | (refine build_law rfl 22 rfl _ HZB.out ?_) | (refine store_at rfl 22 _ _ rfl _ _ rfl rfl ?_ 6 ?_ ?_ ?_ ?_; rotate_left; (· (repeat (first | (with_reducible assumption) | ((with_reducible refine Has.box _ _ ?_ ?_) <;> (first | assumption | decide)) | (with_reducible refine Has.alloc ?_ _) | ((with_reducible refine Has.putOther ?_ _ _ ?_); rotate_left; omega; skip) | ((with_reducible refine Has.below ?_ ?_); rotate_left; assumption)))); (· (first | assumption | rfl)); (· kernel_rfl)))
    exact bodyPost_ret (res_tat rfl _ _ (w.heap.size + 1) z6 6 _ (.int .i64 0) (.bool false) rfl rfl rfl S1.out Try.underlying22 rfl (by kernel_rfl)) rfl ⟨by rw [EA.out, EB.out, HV.out], S2.out⟩

theorem specCountCand (vs : List Int) (w : World) (h : vs.length = 18) (hw : Wf vs) :
    Calls Try.prog 29 #[row vs] w fun e w' => e = .returned (.tuple #[.int .i64 (candA vs : Nat), .bool (vV vs)]) ∧ Kept w w' := by
  have H := Has.box w 36 h (by omega)
  have HB := Lib.hid ((kept_refl w).alloc (.cells (ints vs).toArray 36))
  rw [row_ints]
  go_enter Try.func29, Try.ntmps29
  go_wp2_with (refine load_has rfl 36 _ rfl _ rfl ?_ 18 ?_ _ Try.underlying36 rfl ?_ ?_; rotate_left; (· (repeat (first | (with_reducible assumption) | ((with_reducible refine Has.box _ _ ?_ ?_) <;> (first | assumption | decide)) | (with_reducible refine Has.alloc ?_ _) | ((with_reducible refine Has.putOther ?_ _ _ ?_); rotate_left; omega; skip) | ((with_reducible refine Has.below ?_ ?_); rotate_left; assumption)))); (· kernel_rfl))
  refine (l7Good_any vs _ h hw).mono ?_
  rintro e w1 ⟨rfl, b1⟩
  have H1 := H.below b1
  have HB1 := Lib.hid (HB.out.call b1)
  clear H HB b1
  by_cases hv : vV vs = true
  · rw [hv]
    have F := Lib.hid (viewFacts h hv)
    have EA := Lib.hid (show candA vs = ordA (hid vs) by unfold candA; rw [if_pos hv])
    have h6 := hid_len h
    have hp := F.out.small
    have ES := hid_same h hv
    have HV := Lib.hid hv
    clear hv
    go_wp2_with (refine load_has rfl 36 _ rfl _ rfl ?_ 18 ?_ _ Try.underlying36 rfl ?_ ?_; rotate_left; (· (repeat (first | (with_reducible assumption) | ((with_reducible refine Has.box _ _ ?_ ?_) <;> (first | assumption | decide)) | (with_reducible refine Has.alloc ?_ _) | ((with_reducible refine Has.putOther ?_ _ _ ?_); rotate_left; omega; skip) | ((with_reducible refine Has.below ?_ ?_); rotate_left; assumption)))); (· kernel_rfl))
    refine (l7Hidden_any vs _ h F.out.tops hw).mono ?_
    rintro e w3 ⟨rfl, b3⟩
    rw [ES]
    have HB3 := Lib.hid ((HB1.out.call b3).alloc (.cells (ints (hid vs)).toArray 22))
    have Y := Has.box w3 22 h6 (by omega)
    clear H1 HB1 b3 ES
    go_wp2_with (first | (refine store_new rfl 22 _ _ rfl _ _ _ rfl _ rfl _ rfl rfl ?_ ?_ ?_; (· (first | assumption | rfl)); (· kernel_rfl)) | (refine load_has rfl 22 _ rfl _ rfl ?_ 6 ?_ _ Try.underlying22 rfl ?_ ?_; rotate_left; (· (repeat (first | (with_reducible assumption) | ((with_reducible refine Has.box _ _ ?_ ?_) <;> (first | assumption | decide)) | (with_reducible refine Has.alloc ?_ _) | ((with_reducible refine Has.putOther ?_ _ _ ?_); rotate_left; omega; skip) | ((with_reducible refine Has.below ?_ ?_); rotate_left; assumption)))); (· kernel_rfl)))
    refine (l7Ways_any (hid vs) _ h6 F.out.nat F.out.zero hp).mono ?_
    rintro e w4 ⟨rfl, b4⟩
    have HB4 := Lib.hid (HB3.out.call b4)
    clear HB3 b4
    go_wp2_with fail
    go_ret2
    exact ⟨by rw [EA.out, HV.out]; rfl, HB4.out⟩
  · have hf : vV vs = false := by simpa using hv
    have EA := Lib.hid (show candA vs = 0 by unfold candA; rw [if_neg hv])
    rw [hf]
    have HV := Lib.hid hf
    clear hf hv
    go_wp2_with fail
    go_ret2
    exact ⟨by rw [EA.out, HV.out]; rfl, HB1.out⟩
end Go.Proofs.Ytemiljokdedidaa.base
