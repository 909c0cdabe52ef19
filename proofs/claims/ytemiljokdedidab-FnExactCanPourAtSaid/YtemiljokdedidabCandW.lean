/-
  The candidate with a rank and the first one, on both sides, and their laws, walked.
-/
import Derived.Test.YtemiljokdedidabMdW
namespace Go.Proofs.Ytemiljokdedidab.base
open Go.ChangeShapes Go.WideShapes Go.ChangeAt Go.RowKit
set_option linter.unusedVariables false
set_option linter.unusedSimpArgs false

def candOk (vs : List Int) (r : Int) : Bool := vV vs && decide (0 ≤ r ∧ r < (candA vs : Int))
def candM (vs : List Int) (r : Nat) : List Int := madR vs (ordL (hid vs) r (offB vs 6)) 6
def candR (vs : List Int) (r : Int) : List Int := if candOk vs r = true then candM vs r.toNat else z24
theorem candM_len (vs : List Int) (r : Nat) : (candM vs r).length = 24 := madR_len _ _ _
theorem candR_len (vs : List Int) (r : Int) : (candR vs r).length = 24 := by
  unfold candR; split
  · exact candM_len _ _
  · rfl
theorem candOk_not {vs : List Int} {r : Int} (h : ¬ (vV vs = true ∧ 0 ≤ r ∧ r < (candA vs : Int))) : candOk vs r = false ∧ candR vs r = z24 := by
  have : candOk vs r = false := by
    cases hb : candOk vs r with
    | false => rfl
    | true =>
      unfold candOk at hb
      simp only [Bool.and_eq_true, decide_eq_true_eq] at hb
      exact absurd hb h
  refine ⟨this, ?_⟩
  unfold candR; rw [this]; rfl
theorem candOk_yes {vs : List Int} {q : Nat} (hv : vV vs = true) (hq : q < candA vs) : candOk vs (q : Int) = true ∧ candR vs (q : Int) = candM vs q := by
  have : candOk vs (q : Int) = true := by
    unfold candOk
    simp only [Bool.and_eq_true, decide_eq_true_eq]
    exact ⟨hv, by omega, by omega⟩
  refine ⟨this, ?_⟩
  unfold candR; rw [if_pos this, Int.toNat_natCast]
theorem cand_yes {vs : List Int} (hv : vV vs = true) : candA vs = ordA (hid vs) := by unfold candA; rw [if_pos hv]
theorem cand_stk {vs : List Int} (h : vs.length = 18) (hv : vV vs = true) : Stk (hid vs) (offB vs 6) ∧ offB vs 6 ≤ 18 := by
  have F := viewFacts h hv
  have e : plUp (hid vs) 6 = offB vs 6 := by have := F.pl; unfold offB; omega
  refine ⟨⟨hid_len h, F.nat, F.zero, e⟩, ?_⟩
  rw [← e]; exact F.small
def firstR (vs : List Int) : List Int := if vV vs = true then candM vs 0 else z24
theorem first_cand {vs : List Int} (h : vs.length = 18) : candOk vs 0 = vV vs ∧ candR vs 0 = firstR vs := by
  unfold firstR
  by_cases hv : vV vs = true
  · have hp : 0 < candA vs := by rw [cand_yes hv]; exact (cand_stk h hv).1.pos
    obtain ⟨h1, h2⟩ := candOk_yes (q := 0) hv hp
    rw [if_pos hv, hv]
    exact ⟨h1, h2⟩
  · have hf : vV vs = false := by simpa using hv
    obtain ⟨h1, h2⟩ := candOk_not (vs := vs) (r := 0) (fun hh => hv hh.1)
    rw [if_neg hv, hf]
    exact ⟨h1, h2⟩
theorem firstR_len {vs : List Int} (h : vs.length = 18) : (firstR vs).length = 24 := by
  rw [← (first_cand h).2]; exact candR_len _ _
set_option maxHeartbeats 1600000 in
set_option maxRecDepth 100000 in
theorem implCandAt (vs : List Int) (r : Int) (w : World) (h : vs.length = 18) (hr : -9223372036854775808 ≤ r ∧ r ≤ 9223372036854775807) :
    Calls Try.prog 19 #[row vs, .int .i64 r] w fun e w' => e = .returned (.tuple #[.agg (ints (candR vs r)).toArray, .bool (candOk vs r)]) ∧ Kept w w' := by
  have H := (Has.box w 31 h (by omega)).alloc (.cells #[.int .i64 0, .int .i64 0, .int .i64 0, .int .i64 0, .int .i64 0, .int .i64 0, .int .i64 0, .int .i64 0, .int .i64 0, .int .i64 0, .int .i64 0, .int .i64 0, .int .i64 0, .int .i64 0, .int .i64 0, .int .i64 0, .int .i64 0, .int .i64 0, .int .i64 0, .int .i64 0, .int .i64 0, .int .i64 0, .int .i64 0, .int .i64 0] 28)
  have Z := (Has.zero24 (w.alloc (.cells (ints vs).toArray 31)) 28).at (size1 _ _)
  have HB := Lib.hid (((kept_refl w).alloc (.cells (ints vs).toArray 31)).alloc (.cells #[.int .i64 0, .int .i64 0, .int .i64 0, .int .i64 0, .int .i64 0, .int .i64 0, .int .i64 0, .int .i64 0, .int .i64 0, .int .i64 0, .int .i64 0, .int .i64 0, .int .i64 0, .int .i64 0, .int .i64 0, .int .i64 0, .int .i64 0, .int .i64 0, .int .i64 0, .int .i64 0, .int .i64 0, .int .i64 0, .int .i64 0, .int .i64 0] 28))
  have hz : z24.length = 24 := rfl
  rw [row_ints]
  go_enter Try.func19, Try.ntmps19
  go_wp2_with (refine load_has rfl 31 _ rfl _ rfl ?_ 18 ?_ _ Try.underlying31 rfl ?_ ?_; rotate_left; (· (repeat (first | (with_reducible assumption) | ((with_reducible refine Has.box _ _ ?_ ?_) <;> (first | assumption | decide)) | (with_reducible refine Has.alloc ?_ _) | ((with_reducible refine Has.putOther ?_ _ _ ?_); rotate_left; omega; skip) | ((with_reducible refine Has.below ?_ ?_); rotate_left; assumption)))); (· kernel_rfl))
  refine (implCountCand vs _ h).mono ?_
  rintro e w1 ⟨rfl, b1⟩
  have H1 := H.below b1
  have Z1 := Z.below b1
  have HB1 := Lib.hid (HB.out.call b1)
  clear H Z HB b1
  by_cases hv : vV vs = true
  rotate_left
  · have hf : vV vs = false := by simpa using hv
    rw [hf]
    generalize hca : candA vs = ca at *
    have O := Lib.hid (candOk_not (vs := vs) (r := r) (fun hh => hv hh.1))
    have S1 := Lib.hid (Z1.putAll z24 rfl)
    have S2 := Lib.hid (HB1.out.puts (b := w.heap.size + 1) (by omega) 0 (ints z24))
    clear hv hf
    go_wp2_with (first | (refine build_law rfl 28 rfl _ buildRack ?_) | (refine store_at rfl 28 _ _ rfl _ _ rfl rfl ?_ 24 ?_ ?_ ?_ ?_; rotate_left; (· (repeat (first | (with_reducible assumption) | ((with_reducible refine Has.box _ _ ?_ ?_) <;> (first | assumption | decide)) | (with_reducible refine Has.alloc ?_ _) | ((with_reducible refine Has.putOther ?_ _ _ ?_); rotate_left; omega; skip) | ((with_reducible refine Has.below ?_ ?_); rotate_left; assumption)))); (· (first | assumption | rfl)); (· kernel_rfl)))
    exact bodyPost_ret (res_has1 rfl _ _ (w.heap.size + 1) z24 24 _ (.bool false) rfl rfl S1.out Try.underlying28 rfl (by kernel_rfl)) rfl ⟨by rw [O.out.1, O.out.2], S2.out⟩
  have ST := Lib.hid (cand_stk h hv)
  have CE := Lib.hid (cand_yes hv)
  have big := ST.out.1.le18 ST.out.2
  rw [← CE.out] at big
  have HV := Lib.hid hv
  rw [hv]
  clear hv
  by_cases hr0 : r < 0
  · have d0 : decide (r < 0) = true := decide_eq_true hr0
    generalize hca : candA vs = ca at *
    have O := Lib.hid (candOk_not (vs := vs) (r := r) (fun hh => by have := hh.2.1; omega))
    have S1 := Lib.hid (Z1.putAll z24 rfl)
    have S2 := Lib.hid (HB1.out.puts (b := w.heap.size + 1) (by omega) 0 (ints z24))
    clear hr0
    go_wp2_with (first | (refine build_law rfl 28 rfl _ buildRack ?_) | (refine store_at rfl 28 _ _ rfl _ _ rfl rfl ?_ 24 ?_ ?_ ?_ ?_; rotate_left; (· (repeat (first | (with_reducible assumption) | ((with_reducible refine Has.box _ _ ?_ ?_) <;> (first | assumption | decide)) | (with_reducible refine Has.alloc ?_ _) | ((with_reducible refine Has.putOther ?_ _ _ ?_); rotate_left; omega; skip) | ((with_reducible refine Has.below ?_ ?_); rotate_left; assumption)))); (· (first | assumption | rfl)); (· kernel_rfl)))
    exact bodyPost_ret (res_has1 rfl _ _ (w.heap.size + 1) z24 24 _ (.bool false) rfl rfl S1.out Try.underlying28 rfl (by kernel_rfl)) rfl ⟨by rw [O.out.1, O.out.2], S2.out⟩
  obtain ⟨q, rfl⟩ : ∃ q : Nat, r = (q : Int) := ⟨r.toNat, by omega⟩
  have d0 : decide ((q : Int) < 0) = false := decide_eq_false hr0
  by_cases hq : candA vs ≤ q
  · have d1 : decide (((candA vs : Nat) : Int) ≤ (q : Int)) = true := decide_eq_true (by omega)
    have O := Lib.hid (candOk_not (vs := vs) (r := (q : Int)) (fun hh => by have := hh.2.2; omega))
    have d2 : decide (candA vs ≤ q) = true := decide_eq_true hq
    generalize hca : candA vs = ca at *
    have S1 := Lib.hid (Z1.putAll z24 rfl)
    have S2 := Lib.hid (HB1.out.puts (b := w.heap.size + 1) (by omega) 0 (ints z24))
    clear hr0
    go_wp2_with (first | (refine build_law rfl 28 rfl _ buildRack ?_) | (refine store_at rfl 28 _ _ rfl _ _ rfl rfl ?_ 24 ?_ ?_ ?_ ?_; rotate_left; (· (repeat (first | (with_reducible assumption) | ((with_reducible refine Has.box _ _ ?_ ?_) <;> (first | assumption | decide)) | (with_reducible refine Has.alloc ?_ _) | ((with_reducible refine Has.putOther ?_ _ _ ?_); rotate_left; omega; skip) | ((with_reducible refine Has.below ?_ ?_); rotate_left; assumption)))); (· (first | assumption | rfl)); (· kernel_rfl)))
    exact bodyPost_ret (res_has1 rfl _ _ (w.heap.size + 1) z24 24 _ (.bool false) rfl rfl S1.out Try.underlying28 rfl (by kernel_rfl)) rfl ⟨by rw [O.out.1, O.out.2], S2.out⟩
  have d1 : decide (((candA vs : Nat) : Int) ≤ (q : Int)) = false := decide_eq_false (by omega)
  have d2 : decide (candA vs ≤ q) = false := decide_eq_false hq
  have OY := Lib.hid (candOk_yes (q := q) HV.out (by omega))
  have hqo : q < ordA (hid vs) := by rw [← CE.out]; omega
  have F := viewFacts h HV.out
  have hb := vV_bounds h HV.out
  have K1 := Lib.hid (fun W => hidden_any vs W h F.tops hb)
  have K2 := Lib.hid (fun W => orderAt_any (hid vs) (offB vs 6) q W ST.out.1 ST.out.2 hqo)
  have K3 := Lib.hid (fun g cap b W hN => withHidden_any vs (ordL (hid vs) q (offB vs 6)) g (offB vs 6) cap b W h F.tops rfl ST.out.2 hN)
  have EM : Hid (candM vs q = madR vs (ordL (hid vs) q (offB vs 6)) 6) := Lib.hid rfl
  rw [← EM.out] at K3
  have lm := candM_len vs q
  have li : (ints vs).length = 18 := by rw [ints_len]; exact h
  have hi1 : (Try.prog.info? 31).map (·.size) = some (ints vs).length := by rw [li]; kernel_rfl
  have lf : (ints (candM vs q)).length = 24 := by rw [ints_len]; exact lm
  have hi2 : (Try.prog.info? 28).map (·.size) = some (ints (candM vs q)).length := by rw [lf]; kernel_rfl
  clear hr0 hq F hb hqo big
  generalize candA vs = ca at *
  generalize candM vs q = R at *
  go_wp2_with fail
  refine wp_region_held_drew (S := fun w' => Has w' w.heap.size vs 18 ∧ (∃ zs, Has w' (w.heap.size + 1) zs 24) ∧ Kept w w') (by kernel_rfl) ⟨H1.drew, ⟨_, Z1.drew⟩, HB1.out.drewN 1⟩ (fun hHeld => ?_)
  clear H1 Z1 HB1 d0 d1 d2
  generalize World.drew _ = WD at *
  (refine wpAnyH_take (i := 0) (v := _) rfl (by kernel_rfl) (by kernel_rfl) (by kernel_rfl) (fun _ _ _ h => h) (yieldsIf_load_mid (by rfl) 31 _ rfl _ _ rfl (ints vs) _ (fun w' hSw => hSw.1.holds.range) Try.underlying31 rfl (hi1)) hHeld ?_; (try simp only [List.getElem_toArray, List.getElem_cons_zero, List.getElem_cons_succ, Act.put, List.setIfInBounds_toArray, List.set_cons_zero, List.set_cons_succ]))
  (refine wpAnyH_take (i := 1) (v := _) rfl (by kernel_rfl) (by kernel_rfl) (by kernel_rfl) (fun _ _ _ h => h) (yieldsIf_load_mid (by rfl) 31 _ rfl _ _ rfl (ints vs) _ (fun w' hSw => hSw.1.holds.range) Try.underlying31 rfl (hi1)) hHeld ?_; (try simp only [List.getElem_toArray, List.getElem_cons_zero, List.getElem_cons_succ, Act.put, List.setIfInBounds_toArray, List.set_cons_zero, List.set_cons_succ]))
  (refine wpAnyH_take (i := 3) (v := ?_) rfl (by kernel_rfl) (by kernel_rfl) (by kernel_rfl) (fun _ _ _ h => h) (Or.inl ⟨by rfl, ?_⟩) hHeld ?_; rotate_left; (· (intro w' hSw; go_simp; try with_reducible rfl)); (try simp only [List.getElem_toArray, List.getElem_cons_zero, List.getElem_cons_succ, Act.put, List.setIfInBounds_toArray, List.set_cons_zero, List.set_cons_succ]))
  (refine wpAnyH_ready (rs := [2]) (by kernel_rfl) (by simp) ?_; refine AllReadyH.cons (o := _) rfl (fun K hK => ?_) AllReadyH.nil; (simp only [List.getElem_toArray, List.getElem_cons_zero, List.getElem_cons_succ, Region.wanted, if_true]))
  go_simp
  refine (K1.out _).mono ?_
  rintro e wA ⟨rfl, bq⟩
  dsimp only
  (try simp only [List.getElem_toArray, List.getElem_cons_zero, List.getElem_cons_succ, Act.put, List.setIfInBounds_toArray, List.set_cons_zero, List.set_cons_succ])
  refine hK.out _ _ ⟨hHeld.1.below bq, ⟨_, hHeld.2.1.choose_spec.below bq⟩, hHeld.2.2.call bq⟩ (fun hHeld => ?_)
  clear hK K bq
  (refine wpAnyH_ready (rs := [4]) (by kernel_rfl) (by simp) ?_; refine AllReadyH.cons (o := _) rfl (fun K hK => ?_) AllReadyH.nil; (simp only [List.getElem_toArray, List.getElem_cons_zero, List.getElem_cons_succ, Region.wanted, if_true]))
  go_simp
  refine (K2.out _).mono ?_
  rintro e wB ⟨g, cap, rfl, NV, bq⟩
  dsimp only
  (try simp only [List.getElem_toArray, List.getElem_cons_zero, List.getElem_cons_succ, Act.put, List.setIfInBounds_toArray, List.set_cons_zero, List.set_cons_succ])
  refine hK.out _ _ ⟨hHeld.1.below bq, ⟨_, hHeld.2.1.choose_spec.below bq⟩, hHeld.2.2.call bq⟩ (fun hHeld => ?_)
  clear hK K bq
  (refine wpAnyH_ready (rs := [5]) (by kernel_rfl) (by simp) ?_; refine AllReadyH.cons (o := _) rfl (fun K hK => ?_) AllReadyH.nil; (simp only [List.getElem_toArray, List.getElem_cons_zero, List.getElem_cons_succ, Region.wanted, if_true]))
  go_simp
  refine (K3.out g cap _ _ NV).mono ?_
  rintro e wC ⟨rfl, bq⟩
  dsimp only
  (try simp only [List.getElem_toArray, List.getElem_cons_zero, List.getElem_cons_succ, Act.put, List.setIfInBounds_toArray, List.set_cons_zero, List.set_cons_succ])
  refine hK.out _ _ ⟨hHeld.1.below bq, ⟨_, hHeld.2.1.choose_spec.below bq⟩, hHeld.2.2.call bq⟩ (fun hHeld => ?_)
  clear hK K bq
  have S0 := hHeld.2.1.choose_spec
  have S1 := S0.putAll R lm
  have S2 := hHeld.2.2.puts (b := w.heap.size + 1) (by omega) 0 (ints R)
  (refine wpAnyH_ready (rs := [6]) (by kernel_rfl) (by simp) ?_; refine AllReadyH.cons (o := _) rfl (fun K hK => ?_) AllReadyH.nil; (simp only [List.getElem_toArray, List.getElem_cons_zero, List.getElem_cons_succ, Region.wanted, if_true]); refine wp_store_mid _ _ _ rfl _ _ (ints R).toArray rfl rfl (by simpa [lf] using S0.there) (by simpa [lf] using hi2) (all_oneCell_toArray (ints_one _)) ?_; (try simp only [List.getElem_toArray, List.getElem_cons_zero, List.getElem_cons_succ, Act.put, List.setIfInBounds_toArray, List.set_cons_zero, List.set_cons_succ, List.toList_toArray]); refine hK.out _ _ (⟨hHeld.1.putOther _ _ (by omega), ⟨_, S1⟩, S2⟩) (fun hHeld => ?_); clear hK K)
  (refine wpAnyH_take (i := 7) (v := ?_) rfl (by kernel_rfl) (by kernel_rfl) (by kernel_rfl) (fun _ _ _ h => h) (Or.inl ⟨by rfl, ?_⟩) hHeld ?_; rotate_left; (· (intro w' hSw; go_simp; try with_reducible rfl)); (try simp only [List.getElem_toArray, List.getElem_cons_zero, List.getElem_cons_succ, Act.put, List.setIfInBounds_toArray, List.set_cons_zero, List.set_cons_succ]))
  refine wpAnyH_done (by kernel_rfl) ?_ _
  clear hHeld NV
  go_wp2_with fail
  exact bodyPost_ret (res_has1 rfl _ _ (w.heap.size + 1) R 24 _ (.bool true) rfl rfl S1 Try.underlying28 rfl (by kernel_rfl)) rfl ⟨by rw [OY.out.1, OY.out.2], S2⟩
set_option maxHeartbeats 1600000 in
set_option maxRecDepth 100000 in
theorem specCandAt (vs : List Int) (r : Int) (w : World) (h : vs.length = 18) (hw : Wf vs) (hr : -9223372036854775808 ≤ r ∧ r ≤ 9223372036854775807) :
    Calls Try.prog 18 #[row vs, .int .i64 r] w fun e w' => e = .returned (.tuple #[.agg (ints (candR vs r)).toArray, .bool (candOk vs r)]) ∧ Kept w w' := by
  have H := (Has.box w 31 h (by omega)).alloc (.cells #[.int .i64 0, .int .i64 0, .int .i64 0, .int .i64 0, .int .i64 0, .int .i64 0, .int .i64 0, .int .i64 0, .int .i64 0, .int .i64 0, .int .i64 0, .int .i64 0, .int .i64 0, .int .i64 0, .int .i64 0, .int .i64 0, .int .i64 0, .int .i64 0, .int .i64 0, .int .i64 0, .int .i64 0, .int .i64 0, .int .i64 0, .int .i64 0] 28)
  have Z := (Has.zero24 (w.alloc (.cells (ints vs).toArray 31)) 28).at (size1 _ _)
  have HB := Lib.hid (((kept_refl w).alloc (.cells (ints vs).toArray 31)).alloc (.cells #[.int .i64 0, .int .i64 0, .int .i64 0, .int .i64 0, .int .i64 0, .int .i64 0, .int .i64 0, .int .i64 0, .int .i64 0, .int .i64 0, .int .i64 0, .int .i64 0, .int .i64 0, .int .i64 0, .int .i64 0, .int .i64 0, .int .i64 0, .int .i64 0, .int .i64 0, .int .i64 0, .int .i64 0, .int .i64 0, .int .i64 0, .int .i64 0] 28))
  have hz : z24.length = 24 := rfl
  rw [row_ints]
  go_enter Try.func18, Try.ntmps18
  go_wp2_with (refine load_has rfl 31 _ rfl _ rfl ?_ 18 ?_ _ Try.underlying31 rfl ?_ ?_; rotate_left; (· (repeat (first | (with_reducible assumption) | ((with_reducible refine Has.box _ _ ?_ ?_) <;> (first | assumption | decide)) | (with_reducible refine Has.alloc ?_ _) | ((with_reducible refine Has.putOther ?_ _ _ ?_); rotate_left; omega; skip) | ((with_reducible refine Has.below ?_ ?_); rotate_left; assumption)))); (· kernel_rfl))
  refine (specCountCand vs _ h hw).mono ?_
  rintro e w1 ⟨rfl, b1⟩
  have H1 := H.below b1
  have Z1 := Z.below b1
  have HB1 := Lib.hid (HB.out.call b1)
  clear H Z HB b1
  by_cases hv : vV vs = true
  rotate_left
  · have hf : vV vs = false := by simpa using hv
    rw [hf]
    generalize hca : candA vs = ca at *
    have O := Lib.hid (candOk_not (vs := vs) (r := r) (fun hh => hv hh.1))
    have S1 := Lib.hid (Z1.putAll z24 rfl)
    have S2 := Lib.hid (HB1.out.puts (b := w.heap.size + 1) (by omega) 0 (ints z24))
    clear hv hf
    go_wp2_with (first | (refine build_law rfl 28 rfl _ buildRack ?_) | (refine store_at rfl 28 _ _ rfl _ _ rfl rfl ?_ 24 ?_ ?_ ?_ ?_; rotate_left; (· (repeat (first | (with_reducible assumption) | ((with_reducible refine Has.box _ _ ?_ ?_) <;> (first | assumption | decide)) | (with_reducible refine Has.alloc ?_ _) | ((with_reducible refine Has.putOther ?_ _ _ ?_); rotate_left; omega; skip) | ((with_reducible refine Has.below ?_ ?_); rotate_left; assumption)))); (· (first | assumption | rfl)); (· kernel_rfl)))
    exact bodyPost_ret (res_has1 rfl _ _ (w.heap.size + 1) z24 24 _ (.bool false) rfl rfl S1.out Try.underlying28 rfl (by kernel_rfl)) rfl ⟨by rw [O.out.1, O.out.2], S2.out⟩
  have ST := Lib.hid (cand_stk h hv)
  have CE := Lib.hid (cand_yes hv)
  have big := ST.out.1.le18 ST.out.2
  rw [← CE.out] at big
  have HV := Lib.hid hv
  rw [hv]
  clear hv
  have hpos : 0 < candA vs := by rw [CE.out]; exact ST.out.1.pos
  have HI := Lib.hid (fun W => l1In_any r 0 (((candA vs : Nat) : Int) - 1) W)
  have wc : IntKind.i64.wrap (((candA vs : Nat) : Int) - 1) = ((candA vs : Nat) : Int) - 1 := IntWalk.i64_in _ (by omega)
  obtain ⟨ca, hca⟩ : ∃ ca, ca = candA vs := ⟨_, rfl⟩
  rw [← hca] at HI wc ⊢
  have HCA := Lib.hid hca
  clear hca
  have c1 : 1 ≤ ca := by rw [HCA.out]; exact hpos
  have c2 : ca ≤ 101559956668416 := by rw [HCA.out]; exact big
  clear hpos big
  go_wp2_with fail
  refine (HI.out _).mono ?_
  rintro e w' ⟨rfl, rfl⟩
  by_cases hin : 0 ≤ r ∧ r ≤ (ca : Int) - 1
  rotate_left
  · rw [decide_eq_false hin]
    have O := Lib.hid (candOk_not (vs := vs) (r := r) (fun hh => hin (by rw [HCA.out]; omega)))
    have S1 := Lib.hid (Z1.putAll z24 rfl)
    have S2 := Lib.hid (HB1.out.puts (b := w.heap.size + 1) (by omega) 0 (ints z24))
    clear hin
    go_wp2_with (first | (refine build_law rfl 28 rfl _ buildRack ?_) | (refine store_at rfl 28 _ _ rfl _ _ rfl rfl ?_ 24 ?_ ?_ ?_ ?_; rotate_left; (· (repeat (first | (with_reducible assumption) | ((with_reducible refine Has.box _ _ ?_ ?_) <;> (first | assumption | decide)) | (with_reducible refine Has.alloc ?_ _) | ((with_reducible refine Has.putOther ?_ _ _ ?_); rotate_left; omega; skip) | ((with_reducible refine Has.below ?_ ?_); rotate_left; assumption)))); (· (first | assumption | rfl)); (· kernel_rfl)))
    exact bodyPost_ret (res_has1 rfl _ _ (w.heap.size + 1) z24 24 _ (.bool false) rfl rfl S1.out Try.underlying28 rfl (by kernel_rfl)) rfl ⟨by rw [O.out.1, O.out.2], S2.out⟩
  rw [decide_eq_true hin]
  obtain ⟨q, rfl⟩ : ∃ q : Nat, r = (q : Int) := ⟨r.toNat, by omega⟩
  have OY := Lib.hid (candOk_yes (q := q) HV.out (by rw [← HCA.out]; omega))
  have hqo : q < ordA (hid vs) := by rw [← CE.out, ← HCA.out]; omega
  have K3 := Lib.hid (fun W => l7Made_any vs q W h HV.out hw hqo)
  have EM : Hid (candM vs q = madR vs (ordL (hid vs) q (offB vs 6)) 6) := Lib.hid rfl
  rw [← EM.out] at K3
  have lm := candM_len vs q
  clear hin hqo hr
  generalize candM vs q = R at *
  go_wp2_with (refine load_has rfl 31 _ rfl _ rfl ?_ 18 ?_ _ Try.underlying31 rfl ?_ ?_; rotate_left; (· (repeat (first | (with_reducible assumption) | ((with_reducible refine Has.box _ _ ?_ ?_) <;> (first | assumption | decide)) | (with_reducible refine Has.alloc ?_ _) | ((with_reducible refine Has.putOther ?_ _ _ ?_); rotate_left; omega; skip) | ((with_reducible refine Has.below ?_ ?_); rotate_left; assumption)))); (· kernel_rfl))
  refine (K3.out _).mono ?_
  rintro e w5 ⟨rfl, b5⟩
  have Z5 := Z1.below b5
  have S1 := Lib.hid (Z5.putAll R lm)
  have S2 := Lib.hid ((HB1.out.call b5).puts (b := w.heap.size + 1) (by omega) 0 (ints R))
  clear b5 H1 HB1 Z1
  go_wp2_with (refine store_at rfl 28 _ _ rfl _ _ rfl rfl ?_ 24 ?_ ?_ ?_ ?_; rotate_left; (· (repeat (first | (with_reducible assumption) | ((with_reducible refine Has.box _ _ ?_ ?_) <;> (first | assumption | decide)) | (with_reducible refine Has.alloc ?_ _) | ((with_reducible refine Has.putOther ?_ _ _ ?_); rotate_left; omega; skip) | ((with_reducible refine Has.below ?_ ?_); rotate_left; assumption)))); (· (first | assumption | rfl)); (· kernel_rfl))
  exact bodyPost_ret (res_has1 rfl _ _ (w.heap.size + 1) R 24 _ (.bool true) rfl rfl S1.out Try.underlying28 rfl (by kernel_rfl)) rfl ⟨by rw [OY.out.1, OY.out.2], S2.out⟩
set_option maxHeartbeats 1600000 in
set_option maxRecDepth 100000 in
theorem implFirst (vs : List Int) (w : World) (h : vs.length = 18) :
    Calls Try.prog 13 #[row vs] w fun e w' => e = .returned (.tuple #[.agg (ints (firstR vs)).toArray, .bool (vV vs)]) ∧ Kept w w' := by
  have H := (Has.box w 31 h (by omega)).alloc (.cells #[.int .i64 0, .int .i64 0, .int .i64 0, .int .i64 0, .int .i64 0, .int .i64 0, .int .i64 0, .int .i64 0, .int .i64 0, .int .i64 0, .int .i64 0, .int .i64 0, .int .i64 0, .int .i64 0, .int .i64 0, .int .i64 0, .int .i64 0, .int .i64 0, .int .i64 0, .int .i64 0, .int .i64 0, .int .i64 0, .int .i64 0, .int .i64 0] 28)
  have Z := (Has.zero24 (w.alloc (.cells (ints vs).toArray 31)) 28).at (size1 _ _)
  have HB := Lib.hid (((kept_refl w).alloc (.cells (ints vs).toArray 31)).alloc (.cells #[.int .i64 0, .int .i64 0, .int .i64 0, .int .i64 0, .int .i64 0, .int .i64 0, .int .i64 0, .int .i64 0, .int .i64 0, .int .i64 0, .int .i64 0, .int .i64 0, .int .i64 0, .int .i64 0, .int .i64 0, .int .i64 0, .int .i64 0, .int .i64 0, .int .i64 0, .int .i64 0, .int .i64 0, .int .i64 0, .int .i64 0, .int .i64 0] 28))
  have hz : z24.length = 24 := rfl
  rw [row_ints]
  go_enter Try.func13, Try.ntmps13
  go_wp2_with (refine load_has rfl 31 _ rfl _ rfl ?_ 18 ?_ _ Try.underlying31 rfl ?_ ?_; rotate_left; (· (repeat (first | (with_reducible assumption) | ((with_reducible refine Has.box _ _ ?_ ?_) <;> (first | assumption | decide)) | (with_reducible refine Has.alloc ?_ _) | ((with_reducible refine Has.putOther ?_ _ _ ?_); rotate_left; omega; skip) | ((with_reducible refine Has.below ?_ ?_); rotate_left; assumption)))); (· kernel_rfl))
  have K := Lib.hid (fun W => implCandAt vs 0 W h (by omega))
  rw [(first_cand h).1, (first_cand h).2] at K
  have lm := firstR_len h
  refine (K.out _).mono ?_
  rintro e w1 ⟨rfl, b1⟩
  have Z1 := Z.below b1
  have S1 := Lib.hid (Z1.putAll (firstR vs) lm)
  have S2 := Lib.hid ((HB.out.call b1).puts (b := w.heap.size + 1) (by omega) 0 (ints (firstR vs)))
  clear b1 H HB Z
  go_wp2_with (refine store_at rfl 28 _ _ rfl _ _ rfl rfl ?_ 24 ?_ ?_ ?_ ?_; rotate_left; (· (repeat (first | (with_reducible assumption) | ((with_reducible refine Has.box _ _ ?_ ?_) <;> (first | assumption | decide)) | (with_reducible refine Has.alloc ?_ _) | ((with_reducible refine Has.putOther ?_ _ _ ?_); rotate_left; omega; skip) | ((with_reducible refine Has.below ?_ ?_); rotate_left; assumption)))); (· (first | assumption | rfl)); (· kernel_rfl))
  exact bodyPost_ret (res_has1 rfl _ _ (w.heap.size + 1) (firstR vs) 24 _ (.bool (vV vs)) rfl rfl S1.out Try.underlying28 rfl (by kernel_rfl)) rfl ⟨rfl, S2.out⟩
set_option maxHeartbeats 1600000 in
set_option maxRecDepth 100000 in
theorem specFirst (vs : List Int) (w : World) (h : vs.length = 18) (hw : Wf vs) :
    Calls Try.prog 11 #[row vs] w fun e w' => e = .returned (.tuple #[.agg (ints (firstR vs)).toArray, .bool (vV vs)]) ∧ Kept w w' := by
  have H := (Has.box w 31 h (by omega)).alloc (.cells #[.int .i64 0, .int .i64 0, .int .i64 0, .int .i64 0, .int .i64 0, .int .i64 0, .int .i64 0, .int .i64 0, .int .i64 0, .int .i64 0, .int .i64 0, .int .i64 0, .int .i64 0, .int .i64 0, .int .i64 0, .int .i64 0, .int .i64 0, .int .i64 0, .int .i64 0, .int .i64 0, .int .i64 0, .int .i64 0, .int .i64 0, .int .i64 0] 28)
  have Z := (Has.zero24 (w.alloc (.cells (ints vs).toArray 31)) 28).at (size1 _ _)
  have HB := Lib.hid (((kept_refl w).alloc (.cells (ints vs).toArray 31)).alloc (.cells #[.int .i64 0, .int .i64 0, .int .i64 0, .int .i64 0, .int .i64 0, .int .i64 0, .int .i64 0, .int .i64 0, .int .i64 0, .int .i64 0, .int .i64 0, .int .i64 0, .int .i64 0, .int .i64 0, .int .i64 0, .int .i64 0, .int .i64 0, .int .i64 0, .int .i64 0, .int .i64 0, .int .i64 0, .int .i64 0, .int .i64 0, .int .i64 0] 28))
  have hz : z24.length = 24 := rfl
  rw [row_ints]
  go_enter Try.func11, Try.ntmps11
  go_wp2_with (refine load_has rfl 31 _ rfl _ rfl ?_ 18 ?_ _ Try.underlying31 rfl ?_ ?_; rotate_left; (· (repeat (first | (with_reducible assumption) | ((with_reducible refine Has.box _ _ ?_ ?_) <;> (first | assumption | decide)) | (with_reducible refine Has.alloc ?_ _) | ((with_reducible refine Has.putOther ?_ _ _ ?_); rotate_left; omega; skip) | ((with_reducible refine Has.below ?_ ?_); rotate_left; assumption)))); (· kernel_rfl))
  refine (l7Good_any vs _ h hw).mono ?_
  rintro e w1 ⟨rfl, b1⟩
  have H1 := H.below b1
  have Z1 := Z.below b1
  have HB1 := Lib.hid (HB.out.call b1)
  clear H Z HB b1
  by_cases hv : vV vs = true
  rotate_left
  · have hf : vV vs = false := by simpa using hv
    have O := Lib.hid (show firstR vs = z24 by unfold firstR; rw [if_neg hv])
    have HV := Lib.hid hf
    rw [hf]
    have S1 := Lib.hid (Z1.putAll z24 rfl)
    have S2 := Lib.hid (HB1.out.puts (b := w.heap.size + 1) (by omega) 0 (ints z24))
    clear hv hf
    go_wp2_with (first | (refine build_law rfl 28 rfl _ buildRack ?_) | (refine store_at rfl 28 _ _ rfl _ _ rfl rfl ?_ 24 ?_ ?_ ?_ ?_; rotate_left; (· (repeat (first | (with_reducible assumption) | ((with_reducible refine Has.box _ _ ?_ ?_) <;> (first | assumption | decide)) | (with_reducible refine Has.alloc ?_ _) | ((with_reducible refine Has.putOther ?_ _ _ ?_); rotate_left; omega; skip) | ((with_reducible refine Has.below ?_ ?_); rotate_left; assumption)))); (· (first | assumption | rfl)); (· kernel_rfl)))
    exact bodyPost_ret (res_has1 rfl _ _ (w.heap.size + 1) z24 24 _ (.bool false) rfl rfl S1.out Try.underlying28 rfl (by kernel_rfl)) rfl ⟨by rw [O.out, HV.out], S2.out⟩
  have O := Lib.hid (show firstR vs = candM vs 0 by unfold firstR; rw [if_pos hv])
  have K3 := Lib.hid (fun W => l7Made_any vs 0 W h hv hw (cand_stk h hv).1.pos)
  have EM : Hid (candM vs 0 = madR vs (ordL (hid vs) 0 (offB vs 6)) 6) := Lib.hid rfl
  rw [← EM.out] at K3
  have lm := candM_len vs 0
  have HV := Lib.hid hv
  rw [hv]
  clear hv
  generalize candM vs 0 = R at *
  go_wp2_with (refine load_has rfl 31 _ rfl _ rfl ?_ 18 ?_ _ Try.underlying31 rfl ?_ ?_; rotate_left; (· (repeat (first | (with_reducible assumption) | ((with_reducible refine Has.box _ _ ?_ ?_) <;> (first | assumption | decide)) | (with_reducible refine Has.alloc ?_ _) | ((with_reducible refine Has.putOther ?_ _ _ ?_); rotate_left; omega; skip) | ((with_reducible refine Has.below ?_ ?_); rotate_left; assumption)))); (· kernel_rfl))
  refine (K3.out _).mono ?_
  rintro e w5 ⟨rfl, b5⟩
  have Z5 := Z1.below b5
  have S1 := Lib.hid (Z5.putAll R lm)
  have S2 := Lib.hid ((HB1.out.call b5).puts (b := w.heap.size + 1) (by omega) 0 (ints R))
  clear b5 H1 HB1 Z1
  go_wp2_with (refine store_at rfl 28 _ _ rfl _ _ rfl rfl ?_ 24 ?_ ?_ ?_ ?_; rotate_left; (· (repeat (first | (with_reducible assumption) | ((with_reducible refine Has.box _ _ ?_ ?_) <;> (first | assumption | decide)) | (with_reducible refine Has.alloc ?_ _) | ((with_reducible refine Has.putOther ?_ _ _ ?_); rotate_left; omega; skip) | ((with_reducible refine Has.below ?_ ?_); rotate_left; assumption)))); (· (first | assumption | rfl)); (· kernel_rfl))
  exact bodyPost_ret (res_has1 rfl _ _ (w.heap.size + 1) R 24 _ (.bool true) rfl rfl S1.out Try.underlying28 rfl (by kernel_rfl)) rfl ⟨by rw [O.out, HV.out], S2.out⟩
set_option maxHeartbeats 400000 in
theorem lawCandidateAt (vs : List Int) (r : Int) (w : World) (h0 : vs.length = 18 ∧ ∀ n ∈ vs, (Lit.int .i64 n).wf = true) (fr : (Lit.int .i64 r).wf = true) :
    Calls Try.prog 5 #[row vs, .int .i64 r] w fun e w' => e = .returned (.bool true) ∧ Kept w w' := by
  obtain ⟨h, hw⟩ := h0
  have wr := wf_in fr
  have hl : (candR vs r).length = 24 := candR_len vs r
  have HB := Lib.hid ((kept_refl w).alloc (.cells (ints vs).toArray 24))
  have H := Has.box w 24 h (by omega)
  have KS := Lib.hid (fun _W => specCandAt vs r _W h hw wr)
  have KI := Lib.hid (fun _W => implCandAt vs r _W h wr)
  clear hw fr
  rw [row_ints]
  go_enter Try.func5, Try.ntmps5
  go_wp2_with (refine load_has rfl 24 _ rfl _ rfl ?_ 18 ?_ _ Try.underlying24 rfl ?_ ?_; rotate_left; (· (repeat (first | (with_reducible assumption) | ((with_reducible refine Has.box _ _ ?_ ?_) <;> (first | assumption | decide)) | (with_reducible refine Has.alloc ?_ _) | ((with_reducible refine Has.putOther ?_ _ _ ?_); rotate_left; omega; skip) | ((with_reducible refine Has.below ?_ ?_); rotate_left; assumption)))); (· kernel_rfl))
  refine (toView_any vs _ h).mono ?_
  rintro e w1 ⟨rfl, b1⟩
  have H1 := H.below b1
  have HB1 := Lib.hid (HB.out.call b1)
  clear H HB b1
  go_wp2_with fail
  refine (KS.out _).mono ?_
  rintro e w2 ⟨rfl, b2⟩
  have H2 := (H1.below b2).alloc (.cells (ints (candR vs r)).toArray 28)
  have R2 := Has.box w2 28 hl (by omega)
  have HB2 := Lib.hid ((HB1.out.call b2).alloc (.cells (ints (candR vs r)).toArray 28))
  clear H1 HB1 b2
  go_wp2_with (first | (refine store_new rfl 28 _ _ rfl _ _ _ rfl _ rfl _ rfl rfl ?_ ?_ ?_; (· (first | assumption | rfl)); (· kernel_rfl)) | (refine load_has rfl 24 _ rfl _ rfl ?_ 18 ?_ _ Try.underlying24 rfl ?_ ?_; rotate_left; (· (repeat (first | (with_reducible assumption) | ((with_reducible refine Has.box _ _ ?_ ?_) <;> (first | assumption | decide)) | (with_reducible refine Has.alloc ?_ _) | ((with_reducible refine Has.putOther ?_ _ _ ?_); rotate_left; omega; skip) | ((with_reducible refine Has.below ?_ ?_); rotate_left; assumption)))); (· kernel_rfl)))
  refine (toView_any vs _ h).mono ?_
  rintro e w3 ⟨rfl, b3⟩
  have R3 := R2.below b3
  have HB3 := Lib.hid (HB2.out.call b3)
  clear H2 R2 HB2 b3
  go_wp2_with fail
  refine (KI.out _).mono ?_
  rintro e w4 ⟨rfl, b4⟩
  have R4 := (R3.below b4).alloc (.cells (ints (candR vs r)).toArray 28)
  have Q4 := Has.box w4 28 hl (by omega)
  have HB4 := Lib.hid ((HB3.out.call b4).alloc (.cells (ints (candR vs r)).toArray 28))
  clear R3 HB3 b4
  go_wp2_with (first | (refine store_new rfl 28 _ _ rfl _ _ _ rfl _ rfl _ rfl rfl ?_ ?_ ?_; (· (first | assumption | rfl)); (· kernel_rfl)) | (refine load_has rfl 28 _ rfl _ rfl ?_ 24 ?_ _ Try.underlying28 rfl ?_ ?_; rotate_left; (· (repeat (first | (with_reducible assumption) | ((with_reducible refine Has.box _ _ ?_ ?_) <;> (first | assumption | decide)) | (with_reducible refine Has.alloc ?_ _) | ((with_reducible refine Has.putOther ?_ _ _ ?_); rotate_left; omega; skip) | ((with_reducible refine Has.below ?_ ?_); rotate_left; assumption)))); (· kernel_rfl)))
  refine (eqRack_same (candR vs r) _ hl).mono ?_
  rintro e w5 ⟨rfl, b5⟩
  have HB5 := Lib.hid (HB4.out.call b5)
  clear R4 Q4 HB4 b5
  go_wp2_with fail
  go_ret
  exact ⟨rfl, HB5.out⟩
set_option maxHeartbeats 400000 in
theorem lawFirstCandidate (vs : List Int) (w : World) (h0 : vs.length = 18 ∧ ∀ n ∈ vs, (Lit.int .i64 n).wf = true) :
    Calls Try.prog 3 #[row vs] w fun e w' => e = .returned (.bool true) ∧ Kept w w' := by
  obtain ⟨h, hw⟩ := h0
  have hl : (firstR vs).length = 24 := firstR_len h
  have HB := Lib.hid ((kept_refl w).alloc (.cells (ints vs).toArray 24))
  have H := Has.box w 24 h (by omega)
  have KS := Lib.hid (fun _W => specFirst vs _W h hw)
  have KI := Lib.hid (fun _W => implFirst vs _W h)
  clear hw
  rw [row_ints]
  go_enter Try.func3, Try.ntmps3
  go_wp2_with (refine load_has rfl 24 _ rfl _ rfl ?_ 18 ?_ _ Try.underlying24 rfl ?_ ?_; rotate_left; (· (repeat (first | (with_reducible assumption) | ((with_reducible refine Has.box _ _ ?_ ?_) <;> (first | assumption | decide)) | (with_reducible refine Has.alloc ?_ _) | ((with_reducible refine Has.putOther ?_ _ _ ?_); rotate_left; omega; skip) | ((with_reducible refine Has.below ?_ ?_); rotate_left; assumption)))); (· kernel_rfl))
  refine (toView_any vs _ h).mono ?_
  rintro e w1 ⟨rfl, b1⟩
  have H1 := H.below b1
  have HB1 := Lib.hid (HB.out.call b1)
  clear H HB b1
  go_wp2_with fail
  refine (KS.out _).mono ?_
  rintro e w2 ⟨rfl, b2⟩
  have H2 := (H1.below b2).alloc (.cells (ints (firstR vs)).toArray 28)
  have R2 := Has.box w2 28 hl (by omega)
  have HB2 := Lib.hid ((HB1.out.call b2).alloc (.cells (ints (firstR vs)).toArray 28))
  clear H1 HB1 b2
  go_wp2_with (first | (refine store_new rfl 28 _ _ rfl _ _ _ rfl _ rfl _ rfl rfl ?_ ?_ ?_; (· (first | assumption | rfl)); (· kernel_rfl)) | (refine load_has rfl 24 _ rfl _ rfl ?_ 18 ?_ _ Try.underlying24 rfl ?_ ?_; rotate_left; (· (repeat (first | (with_reducible assumption) | ((with_reducible refine Has.box _ _ ?_ ?_) <;> (first | assumption | decide)) | (with_reducible refine Has.alloc ?_ _) | ((with_reducible refine Has.putOther ?_ _ _ ?_); rotate_left; omega; skip) | ((with_reducible refine Has.below ?_ ?_); rotate_left; assumption)))); (· kernel_rfl)))
  refine (toView_any vs _ h).mono ?_
  rintro e w3 ⟨rfl, b3⟩
  have R3 := R2.below b3
  have HB3 := Lib.hid (HB2.out.call b3)
  clear H2 R2 HB2 b3
  go_wp2_with fail
  refine (KI.out _).mono ?_
  rintro e w4 ⟨rfl, b4⟩
  have R4 := (R3.below b4).alloc (.cells (ints (firstR vs)).toArray 28)
  have Q4 := Has.box w4 28 hl (by omega)
  have HB4 := Lib.hid ((HB3.out.call b4).alloc (.cells (ints (firstR vs)).toArray 28))
  clear R3 HB3 b4
  go_wp2_with (first | (refine store_new rfl 28 _ _ rfl _ _ _ rfl _ rfl _ rfl rfl ?_ ?_ ?_; (· (first | assumption | rfl)); (· kernel_rfl)) | (refine load_has rfl 28 _ rfl _ rfl ?_ 24 ?_ _ Try.underlying28 rfl ?_ ?_; rotate_left; (· (repeat (first | (with_reducible assumption) | ((with_reducible refine Has.box _ _ ?_ ?_) <;> (first | assumption | decide)) | (with_reducible refine Has.alloc ?_ _) | ((with_reducible refine Has.putOther ?_ _ _ ?_); rotate_left; omega; skip) | ((with_reducible refine Has.below ?_ ?_); rotate_left; assumption)))); (· kernel_rfl)))
  refine (eqRack_same (firstR vs) _ hl).mono ?_
  rintro e w5 ⟨rfl, b5⟩
  have HB5 := Lib.hid (HB4.out.call b5)
  clear R4 Q4 HB4 b5
  go_wp2_with fail
  go_ret
  exact ⟨rfl, HB5.out⟩
end Go.Proofs.Ytemiljokdedidab.base
