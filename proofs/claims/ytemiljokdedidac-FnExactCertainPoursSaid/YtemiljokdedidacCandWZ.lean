/-
  The candidate with a rank and the first one, on both sides, and their laws, walked.
-/
/-
  What can be poured by a view, on both sides, and its law, walked.
-/
import Derived.Test.YtemiljokdedidacMadMZ
import Derived.Test.YtemiljokdedidacMadV
import Derived.Test.YtemiljokdedidacCanZ

section
namespace Go.Proofs.Ytemiljokdedidac.base
open Go.ChangeShapes Go.WideShapes Go.ChangeAt Go.RowKit
set_option linter.unusedVariables false
set_option linter.unusedSimpArgs false

def candOk (vs : List Int) (r : Int) : Bool := vV vs && decide (0 ≤ r ∧ r < (candA vs : Int))
def candM (vs : List Int) (r : Nat) : List Int := madR vs (ordL (hid vs) r (offB vs 6)) 6
def candR (vs : List Int) (r : Int) : List Int := if candOk vs r = true then candM vs r.toNat else z24
theorem candM_len (vs : List Int) (r : Nat) : (candM vs r).length = 24 := madR_len _ _ _
theorem candR_len (vs : List Int) (r : Int) : (candR vs r).length = 24 := by
  unfold candR; split
  · exact candM_len _ _
  · rfl
theorem candOk_not {vs : List Int} {r : Int} (h : ¬ (vV vs = true ∧ 0 ≤ r ∧ r < (candA vs : Int))) : candOk vs r = false ∧ candR vs r = z24 := by
  have : candOk vs r = false := by
    cases hb : candOk vs r with
    | false => rfl
    | true =>
      unfold candOk at hb
      simp only [Bool.and_eq_true, decide_eq_true_eq] at hb
      exact absurd hb h
  refine ⟨this, ?_⟩
  unfold candR; rw [this]; rfl
theorem candOk_yes {vs : List Int} {q : Nat} (hv : vV vs = true) (hq : q < candA vs) : candOk vs (q : Int) = true ∧ candR vs (q : Int) = candM vs q := by
  have : candOk vs (q : Int) = true := by
    unfold candOk
    simp only [Bool.and_eq_true, decide_eq_true_eq]
    exact ⟨hv, by omega, by omega⟩
  refine ⟨this, ?_⟩
  unfold candR; rw [if_pos this, Int.toNat_natCast]
theorem cand_yes {vs : List Int} (hv : vV vs = true) : candA vs = ordA (hid vs) := by unfold candA; rw [if_pos hv]
theorem cand_stk {vs : List Int} (h : vs.length = 18) (hv : vV vs = true) : Stk (hid vs) (offB vs 6) ∧ offB vs 6 ≤ 18 := by
  have F := viewFacts h hv
  have e : plUp (hid vs) 6 = offB vs 6 := by have := F.pl; unfold offB; omega
  refine ⟨⟨hid_len h, F.nat, F.zero, e⟩, ?_⟩
  rw [← e]; exact F.small
def firstR (vs : List Int) : List Int := if vV vs = true then candM vs 0 else z24
theorem first_cand {vs : List Int} (h : vs.length = 18) : candOk vs 0 = vV vs ∧ candR vs 0 = firstR vs := by
  unfold firstR
  by_cases hv : vV vs = true
  · have hp : 0 < candA vs := by rw [cand_yes hv]; exact (cand_stk h hv).1.pos
    obtain ⟨h1, h2⟩ := candOk_yes (q := 0) hv hp
    rw [if_pos hv, hv]
    exact ⟨h1, h2⟩
  · have hf : vV vs = false := by simpa using hv
    obtain ⟨h1, h2⟩ := candOk_not (vs := vs) (r := 0) (fun hh => hv hh.1)
    rw [if_neg hv, hf]
    exact ⟨h1, h2⟩
theorem firstR_len {vs : List Int} (h : vs.length = 18) : (firstR vs).length = 24 := by
  rw [← (first_cand h).2]; exact candR_len _ _
set_option maxHeartbeats 1600000 in
set_option maxRecDepth 100000 in
theorem implCandAt (vs : List Int) (r : Int) (w : World) (h : vs.length = 18) (hr : -9223372036854775808 ≤ r ∧ r ≤ 9223372036854775807) :
    Calls Try.prog 70 #[row vs, .int .i64 r] w fun e w' => e = .returned (.tuple #[.agg (ints (candR vs r)).toArray, .bool (candOk vs r)]) ∧ Kept w w' := by
  have H := (Has.box w 28 h (by omega)).alloc (.cells #[.int .i64 0, .int .i64 0, .int .i64 0, .int .i64 0, .int .i64 0, .int .i64 0, .int .i64 0, .int .i64 0, .int .i64 0, .int .i64 0, .int .i64 0, .int .i64 0, .int .i64 0, .int .i64 0, .int .i64 0, .int .i64 0, .int .i64 0, .int .i64 0, .int .i64 0, .int .i64 0, .int .i64 0, .int .i64 0, .int .i64 0, .int .i64 0] 42)
  have Z := (Has.zero24 (w.alloc (.cells (ints vs).toArray 28)) 42).at (size1 _ _)
  have HB := Lib.hid (((kept_refl w).alloc (.cells (ints vs).toArray 28)).alloc (.cells #[.int .i64 0, .int .i64 0, .int .i64 0, .int .i64 0, .int .i64 0, .int .i64 0, .int .i64 0, .int .i64 0, .int .i64 0, .int .i64 0, .int .i64 0, .int .i64 0, .int .i64 0, .int .i64 0, .int .i64 0, .int .i64 0, .int .i64 0, .int .i64 0, .int .i64 0, .int .i64 0, .int .i64 0, .int .i64 0, .int .i64 0, .int .i64 0] 42))
  have hz : z24.length = 24 := rfl
  rw [row_ints]
  go_enter Try.func70, Try.ntmps70
  go_wp2_with (refine load_has rfl 28 _ rfl _ rfl ?_ 18 ?_ _ Try.underlying28 rfl ?_ ?_; rotate_left; (· (repeat (first | (with_reducible assumption) | ((with_reducible refine Has.box _ _ ?_ ?_) <;> (first | assumption | decide)) | (with_reducible refine Has.alloc ?_ _) | ((with_reducible refine Has.putOther ?_ _ _ ?_); rotate_left; omega; skip) | ((with_reducible refine Has.below ?_ ?_); rotate_left; assumption)))); (· kernel_rfl))
  refine (implCountCand vs _ h).mono ?_
  rintro e w1 ⟨rfl, b1⟩
  have H1 := H.below b1
  have Z1 := Z.below b1
  have HB1 := Lib.hid (HB.out.call b1)
  clear H Z HB b1
  by_cases hv : vV vs = true
  rotate_left
  · have hf : vV vs = false := by simpa using hv
    rw [hf]
    generalize hca : candA vs = ca at *
    have O := Lib.hid (candOk_not (vs := vs) (r := r) (fun hh => hv hh.1))
    have S1 := Lib.hid (Z1.putAll z24 rfl)
    have S2 := Lib.hid (HB1.out.puts (b := w.heap.size + 1) (by omega) 0 (ints z24))
    clear hv hf
    go_wp2_with (first | (refine build_law rfl 42 rfl _ buildRack ?_) | (refine store_at rfl 42 _ _ rfl _ _ rfl rfl ?_ 24 ?_ ?_ ?_ ?_; rotate_left; (· (repeat (first | (with_reducible assumption) | ((with_reducible refine Has.box _ _ ?_ ?_) <;> (first | assumption | decide)) | (with_reducible refine Has.alloc ?_ _) | ((with_reducible refine Has.putOther ?_ _ _ ?_); rotate_left; omega; skip) | ((with_reducible refine Has.below ?_ ?_); rotate_left; assumption)))); (· (first | assumption | rfl)); (· kernel_rfl)))
    exact bodyPost_ret (res_has1 rfl _ _ (w.heap.size + 1) z24 24 _ (.bool false) rfl rfl S1.out Try.underlying42 rfl (by kernel_rfl)) rfl ⟨by rw [O.out.1, O.out.2], S2.out⟩
  have ST := Lib.hid (cand_stk h hv)
  have CE := Lib.hid (cand_yes hv)
  have big := ST.out.1.le18 ST.out.2
  rw [← CE.out] at big
  have HV := Lib.hid hv
  rw [hv]
  clear hv
  by_cases hr0 : r < 0
  · have d0 : decide (r < 0) = true := decide_eq_true hr0
    generalize hca : candA vs = ca at *
    have O := Lib.hid (candOk_not (vs := vs) (r := r) (fun hh => by have := hh.2.1; omega))
    have S1 := Lib.hid (Z1.putAll z24 rfl)
    have S2 := Lib.hid (HB1.out.puts (b := w.heap.size + 1) (by omega) 0 (ints z24))
    clear hr0
    go_wp2_with (first | (refine build_law rfl 42 rfl _ buildRack ?_) | (refine store_at rfl 42 _ _ rfl _ _ rfl rfl ?_ 24 ?_ ?_ ?_ ?_; rotate_left; (· (repeat (first | (with_reducible assumption) | ((with_reducible refine Has.box _ _ ?_ ?_) <;> (first | assumption | decide)) | (with_reducible refine Has.alloc ?_ _) | ((with_reducible refine Has.putOther ?_ _ _ ?_); rotate_left; omega; skip) | ((with_reducible refine Has.below ?_ ?_); rotate_left; assumption)))); (· (first | assumption | rfl)); (· kernel_rfl)))
    exact bodyPost_ret (res_has1 rfl _ _ (w.heap.size + 1) z24 24 _ (.bool false) rfl rfl S1.out Try.underlying42 rfl (by kernel_rfl)) rfl ⟨by rw [O.out.1, O.out.2], S2.out⟩
  obtain ⟨q, rfl⟩ : ∃ q : Nat, r = (q : Int) := ⟨r.toNat, by omega⟩
  have d0 : decide ((q : Int) < 0) = false := decide_eq_false hr0
  by_cases hq : candA vs ≤ q
  · have d1 : decide (((candA vs : Nat) : Int) ≤ (q : Int)) = true := decide_eq_true (by omega)
    have O := Lib.hid (candOk_not (vs := vs) (r := (q : Int)) (fun hh => by have := hh.2.2; omega))
    have d2 : decide (candA vs ≤ q) = true := decide_eq_true hq
    generalize hca : candA vs = ca at *
    have S1 := Lib.hid (Z1.putAll z24 rfl)
    have S2 := Lib.hid (HB1.out.puts (b := w.heap.size + 1) (by omega) 0 (ints z24))
    clear hr0
    go_wp2_with (first | (refine build_law rfl 42 rfl _ buildRack ?_) | (refine store_at rfl 42 _ _ rfl _ _ rfl rfl ?_ 24 ?_ ?_ ?_ ?_; rotate_left; (· (repeat (first | (with_reducible assumption) | ((with_reducible refine Has.box _ _ ?_ ?_) <;> (first | assumption | decide)) | (with_reducible refine Has.alloc ?_ _) | ((with_reducible refine Has.putOther ?_ _ _ ?_); rotate_left; omega; skip) | ((with_reducible refine Has.below ?_ ?_); rotate_left; assumption)))); (· (first | assumption | rfl)); (· kernel_rfl)))
    exact bodyPost_ret (res_has1 rfl _ _ (w.heap.size + 1) z24 24 _ (.bool false) rfl rfl S1.out Try.underlying42 rfl (by kernel_rfl)) rfl ⟨by rw [O.out.1, O.out.2], S2.out⟩
  have d1 : decide (((candA vs : Nat) : Int) ≤ (q : Int)) = false := decide_eq_false (by omega)
  have d2 : decide (candA vs ≤ q) = false := decide_eq_false hq
  have OY := Lib.hid (candOk_yes (q := q) HV.out (by omega))
  have hqo : q < ordA (hid vs) := by rw [← CE.out]; omega
  have F := viewFacts h HV.out
  have hb := vV_bounds h HV.out
  have K1 := Lib.hid (fun W => hidden_any vs W h F.tops hb)
  have K2 := Lib.hid (fun W => orderAt_any (hid vs) (offB vs 6) q W ST.out.1 ST.out.2 hqo)
  have K3 := Lib.hid (fun g cap b W hN => withHidden_any vs (ordL (hid vs) q (offB vs 6)) g (offB vs 6) cap b W h F.tops rfl ST.out.2 hN)
  have EM : Hid (candM vs q = madR vs (ordL (hid vs) q (offB vs 6)) 6) := Lib.hid rfl
  rw [← EM.out] at K3
  have lm := candM_len vs q
  have li : (ints vs).length = 18 := by rw [ints_len]; exact h
  have hi1 : (Try.prog.info? 28).map (·.size) = some (ints vs).length := by rw [li]; kernel_rfl
  have lf : (ints (candM vs q)).length = 24 := by rw [ints_len]; exact lm
  have hi2 : (Try.prog.info? 42).map (·.size) = some (ints (candM vs q)).length := by rw [lf]; kernel_rfl
  clear hr0 hq F hb hqo big
  generalize candA vs = ca at *
  generalize candM vs q = R at *
  go_wp2_with fail
  refine wp_region_held_drew (S := fun w' => Has w' w.heap.size vs 18 ∧ (∃ zs, Has w' (w.heap.size + 1) zs 24) ∧ Kept w w') (by kernel_rfl) ⟨H1.drew, ⟨_, Z1.drew⟩, HB1.out.drewN 1⟩ (fun hHeld => ?_)
  clear H1 Z1 HB1 d0 d1 d2
  generalize World.drew _ = WD at *
  (refine wpAnyH_take (i := 0) (v := _) rfl (by kernel_rfl) (by kernel_rfl) (by kernel_rfl) (fun _ _ _ h => h) (yieldsIf_load_mid (by rfl) 28 _ rfl _ _ rfl (ints vs) _ (fun w' hSw => hSw.1.holds.range) Try.underlying28 rfl (hi1)) hHeld ?_; (try simp only [List.getElem_toArray, List.getElem_cons_zero, List.getElem_cons_succ, Act.put, List.setIfInBounds_toArray, List.set_cons_zero, List.set_cons_succ]))
  (refine wpAnyH_take (i := 1) (v := _) rfl (by kernel_rfl) (by kernel_rfl) (by kernel_rfl) (fun _ _ _ h => h) (yieldsIf_load_mid (by rfl) 28 _ rfl _ _ rfl (ints vs) _ (fun w' hSw => hSw.1.holds.range) Try.underlying28 rfl (hi1)) hHeld ?_; (try simp only [List.getElem_toArray, List.getElem_cons_zero, List.getElem_cons_succ, Act.put, List.setIfInBounds_toArray, List.set_cons_zero, List.set_cons_succ]))
  (refine wpAnyH_take (i := 3) (v := ?_) rfl (by kernel_rfl) (by kernel_rfl) (by kernel_rfl) (fun _ _ _ h => h) (Or.inl ⟨by rfl, ?_⟩) hHeld ?_; rotate_left; (· (intro w' hSw; go_simp; try with_reducible rfl)); (try simp only [List.getElem_toArray, List.getElem_cons_zero, List.getElem_cons_succ, Act.put, List.setIfInBounds_toArray, List.set_cons_zero, List.set_cons_succ]))
  (refine wpAnyH_ready (rs := [2]) (by kernel_rfl) (by simp) ?_; refine AllReadyH.cons (o := _) rfl (fun K hK => ?_) AllReadyH.nil; (simp only [List.getElem_toArray, List.getElem_cons_zero, List.getElem_cons_succ, Region.wanted, if_true]))
  go_simp
  refine (K1.out _).mono ?_
  rintro e wA ⟨rfl, bq⟩
  dsimp only
  (try simp only [List.getElem_toArray, List.getElem_cons_zero, List.getElem_cons_succ, Act.put, List.setIfInBounds_toArray, List.set_cons_zero, List.set_cons_succ])
  refine hK.out _ _ ⟨hHeld.1.below bq, ⟨_, hHeld.2.1.choose_spec.below bq⟩, hHeld.2.2.call bq⟩ (fun hHeld => ?_)
  clear hK K bq
  (refine wpAnyH_ready (rs := [4]) (by kernel_rfl) (by simp) ?_; refine AllReadyH.cons (o := _) rfl (fun K hK => ?_) AllReadyH.nil; (simp only [List.getElem_toArray, List.getElem_cons_zero, List.getElem_cons_succ, Region.wanted, if_true]))
  go_simp
  refine (K2.out _).mono ?_
  rintro e wB ⟨g, cap, rfl, NV, bq⟩
  dsimp only
  (try simp only [List.getElem_toArray, List.getElem_cons_zero, List.getElem_cons_succ, Act.put, List.setIfInBounds_toArray, List.set_cons_zero, List.set_cons_succ])
  refine hK.out _ _ ⟨hHeld.1.below bq, ⟨_, hHeld.2.1.choose_spec.below bq⟩, hHeld.2.2.call bq⟩ (fun hHeld => ?_)
  clear hK K bq
  (refine wpAnyH_ready (rs := [5]) (by kernel_rfl) (by simp) ?_; refine AllReadyH.cons (o := _) rfl (fun K hK => ?_) AllReadyH.nil; (simp only [List.getElem_toArray, List.getElem_cons_zero, List.getElem_cons_succ, Region.wanted, if_true]))
  go_simp
  refine (K3.out g cap _ _ NV).mono ?_
  rintro e wC ⟨rfl, bq⟩
  dsimp only
  (try simp only [List.getElem_toArray, List.getElem_cons_zero, List.getElem_cons_succ, Act.put, List.setIfInBounds_toArray, List.set_cons_zero, List.set_cons_succ])
  refine hK.out _ _ ⟨hHeld.1.below bq, ⟨_, hHeld.2.1.choose_spec.below bq⟩, hHeld.2.2.call bq⟩ (fun hHeld => ?_)
  clear hK K bq
  have S0 := hHeld.2.1.choose_spec
  have S1 := S0.putAll R lm
  have S2 := hHeld.2.2.puts (b := w.heap.size + 1) (by omega) 0 (ints R)
  (refine wpAnyH_ready (rs := [6]) (by kernel_rfl) (by simp) ?_; refine AllReadyH.cons (o := _) rfl (fun K hK => ?_) AllReadyH.nil; (simp only [List.getElem_toArray, List.getElem_cons_zero, List.getElem_cons_succ, Region.wanted, if_true]); refine wp_store_mid _ _ _ rfl _ _ (ints R).toArray rfl rfl (by simpa [lf] using S0.there) (by simpa [lf] using hi2) (all_oneCell_toArray (ints_one _)) ?_; (try simp only [List.getElem_toArray, List.getElem_cons_zero, List.getElem_cons_succ, Act.put, List.setIfInBounds_toArray, List.set_cons_zero, List.set_cons_succ, List.toList_toArray]); refine hK.out _ _ (⟨hHeld.1.putOther _ _ (by omega), ⟨_, S1⟩, S2⟩) (fun hHeld => ?_); clear hK K)
  (refine wpAnyH_take (i := 7) (v := ?_) rfl (by kernel_rfl) (by kernel_rfl) (by kernel_rfl) (fun _ _ _ h => h) (Or.inl ⟨by rfl, ?_⟩) hHeld ?_; rotate_left; (· (intro w' hSw; go_simp; try with_reducible rfl)); (try simp only [List.getElem_toArray, List.getElem_cons_zero, List.getElem_cons_succ, Act.put, List.setIfInBounds_toArray, List.set_cons_zero, List.set_cons_succ]))
  refine wpAnyH_done (by kernel_rfl) ?_ _
  clear hHeld NV
  go_wp2_with fail
  exact bodyPost_ret (res_has1 rfl _ _ (w.heap.size + 1) R 24 _ (.bool true) rfl rfl S1 Try.underlying42 rfl (by kernel_rfl)) rfl ⟨by rw [OY.out.1, OY.out.2], S2⟩
set_option maxHeartbeats 1600000 in
set_option maxRecDepth 100000 in
theorem implFirst (vs : List Int) (w : World) (h : vs.length = 18) :
    Calls Try.prog 36 #[row vs] w fun e w' => e = .returned (.tuple #[.agg (ints (firstR vs)).toArray, .bool (vV vs)]) ∧ Kept w w' := by
  have H := (Has.box w 28 h (by omega)).alloc (.cells #[.int .i64 0, .int .i64 0, .int .i64 0, .int .i64 0, .int .i64 0, .int .i64 0, .int .i64 0, .int .i64 0, .int .i64 0, .int .i64 0, .int .i64 0, .int .i64 0, .int .i64 0, .int .i64 0, .int .i64 0, .int .i64 0, .int .i64 0, .int .i64 0, .int .i64 0, .int .i64 0, .int .i64 0, .int .i64 0, .int .i64 0, .int .i64 0] 42)
  have Z := (Has.zero24 (w.alloc (.cells (ints vs).toArray 28)) 42).at (size1 _ _)
  have HB := Lib.hid (((kept_refl w).alloc (.cells (ints vs).toArray 28)).alloc (.cells #[.int .i64 0, .int .i64 0, .int .i64 0, .int .i64 0, .int .i64 0, .int .i64 0, .int .i64 0, .int .i64 0, .int .i64 0, .int .i64 0, .int .i64 0, .int .i64 0, .int .i64 0, .int .i64 0, .int .i64 0, .int .i64 0, .int .i64 0, .int .i64 0, .int .i64 0, .int .i64 0, .int .i64 0, .int .i64 0, .int .i64 0, .int .i64 0] 42))
  have hz : z24.length = 24 := rfl
  rw [row_ints]
  go_enter Try.func36, Try.ntmps36
  go_wp2_with (refine load_has rfl 28 _ rfl _ rfl ?_ 18 ?_ _ Try.underlying28 rfl ?_ ?_; rotate_left; (· (repeat (first | (with_reducible assumption) | ((with_reducible refine Has.box _ _ ?_ ?_) <;> (first | assumption | decide)) | (with_reducible refine Has.alloc ?_ _) | ((with_reducible refine Has.putOther ?_ _ _ ?_); rotate_left; omega; skip) | ((with_reducible refine Has.below ?_ ?_); rotate_left; assumption)))); (· kernel_rfl))
  have K := Lib.hid (fun W => implCandAt vs 0 W h (by omega))
  rw [(first_cand h).1, (first_cand h).2] at K
  have lm := firstR_len h
  refine (K.out _).mono ?_
  rintro e w1 ⟨rfl, b1⟩
  have Z1 := Z.below b1
  have S1 := Lib.hid (Z1.putAll (firstR vs) lm)
  have S2 := Lib.hid ((HB.out.call b1).puts (b := w.heap.size + 1) (by omega) 0 (ints (firstR vs)))
  clear b1 H HB Z
  go_wp2_with (refine store_at rfl 42 _ _ rfl _ _ rfl rfl ?_ 24 ?_ ?_ ?_ ?_; rotate_left; (· (repeat (first | (with_reducible assumption) | ((with_reducible refine Has.box _ _ ?_ ?_) <;> (first | assumption | decide)) | (with_reducible refine Has.alloc ?_ _) | ((with_reducible refine Has.putOther ?_ _ _ ?_); rotate_left; omega; skip) | ((with_reducible refine Has.below ?_ ?_); rotate_left; assumption)))); (· (first | assumption | rfl)); (· kernel_rfl))
  exact bodyPost_ret (res_has1 rfl _ _ (w.heap.size + 1) (firstR vs) 24 _ (.bool (vV vs)) rfl rfl S1.out Try.underlying42 rfl (by kernel_rfl)) rfl ⟨rfl, S2.out⟩
end Go.Proofs.Ytemiljokdedidac.base
end

section
namespace Go.Proofs.Ytemiljokdedidac.base
open Go.ChangeShapes Go.WideShapes Go.ChangeAt Go.RowKit
set_option linter.unusedVariables false
set_option linter.unusedSimpArgs false

def twoB (i j : Int) : Bool := decide (0 ≤ i ∧ i < 6) && decide (0 ≤ j ∧ j < 6) && decide (i ≠ j)
def cpaOk (vs : List Int) (i j : Int) : Bool := vV vs && twoB i j
def cpaA (vs : List Int) (i j : Int) : Bool := cpaOk vs i j && canV vs i.toNat j.toNat
theorem cand_col {vs : List Int} (h : vs.length = 18) (hv : vV vs = true) (r : Nat) (hr : r < ordA (hid vs)) : ColL (ordL (hid vs) r (offB vs 6)) (offB vs 6) := fun k hk => by
  obtain ⟨hS, _⟩ := cand_stk h hv
  have P := colAt_ok hS hr k hk
  rw [ordL_getD _ _ _ _ hk]
  have := P.lo
  have := P.hi
  omega
theorem first_valid {vs : List Int} (h : vs.length = 18) (hv : vV vs = true) : vR (firstR vs) = true ∧ ∀ i j, i < 6 → j < 6 → i ≠ j → decide (0 < canN (tub (firstR vs) i) (tub (firstR vs) j)) = canV vs i j := by
  have F := viewFacts h hv
  have hc := cand_col h hv 0 (cand_stk h hv).1.pos
  have e : firstR vs = madR vs (ordL (hid vs) 0 (offB vs 6)) 6 := by unfold firstR; rw [if_pos hv]; rfl
  rw [e]
  exact ⟨madR_valid F.tops hc, fun i j hi hj hne => can_mad F.tops hc i j hi hj hne⟩
theorem cpa_first {vs : List Int} (h : vs.length = 18) (hv : vV vs = true) (i j : Int) : canA (firstR vs) i j = cpaA vs i j ∧ twoOk (firstR vs) i j = cpaOk vs i j := by
  obtain ⟨h1, h2⟩ := first_valid h hv
  have e : twoOk (firstR vs) i j = cpaOk vs i j := by
    unfold twoOk cpaOk twoB
    rw [h1, hv]
    simp only [Bool.true_and]
  refine ⟨?_, e⟩
  unfold canA cpaA
  rw [e]
  by_cases ho : cpaOk vs i j = true
  · unfold cpaOk twoB at ho
    simp only [Bool.and_eq_true, decide_eq_true_eq] at ho
    rw [h2 i.toNat j.toNat (by omega) (by omega) (by omega)]
  · have hf : cpaOk vs i j = false := by simpa using ho
    rw [hf]; rfl
theorem cpa_not {vs : List Int} {i j : Int} (h : ¬ (vV vs = true ∧ (0 ≤ i ∧ i < 6) ∧ (0 ≤ j ∧ j < 6) ∧ i ≠ j)) : cpaOk vs i j = false ∧ cpaA vs i j = false := by
  have : cpaOk vs i j = false := by
    cases hb : cpaOk vs i j with
    | false => rfl
    | true =>
      unfold cpaOk twoB at hb
      simp only [Bool.and_eq_true, decide_eq_true_eq] at hb
      exact absurd ⟨hb.1, hb.2.1.1, hb.2.1.2, hb.2.2⟩ h
  refine ⟨this, ?_⟩
  unfold cpaA; rw [this]; rfl
theorem cpa_yes {vs : List Int} {p q : Nat} (hv : vV vs = true) (hp : p < 6) (hq : q < 6) (hne : p ≠ q) : cpaOk vs p q = true ∧ cpaA vs p q = canV vs p q := by
  have : cpaOk vs p q = true := by
    unfold cpaOk twoB
    simp only [Bool.and_eq_true, decide_eq_true_eq]
    exact ⟨hv, ⟨by omega, by omega⟩, by omega⟩
  refine ⟨this, ?_⟩
  unfold cpaA; rw [this, Int.toNat_natCast, Int.toNat_natCast]; rfl

set_option maxHeartbeats 1600000 in
theorem l7Can_any (vs : List Int) (i j : Nat) (w : World) (h : vs.length = 18) (hi : i < 6) (hj : j < 6) :
    Calls Try.prog 31 #[row vs, .int .i64 i, .int .i64 j] w fun e w' => e = .returned (.bool (canV vs i j)) ∧ Kept w w' := by
  have H := Has.box w 28 h (by omega)
  have HB := Lib.hid ((kept_refl w).alloc (.cells (ints vs).toArray 28))
  have EV : Hid (canV vs i j = (decide (i ≠ j) && decide (0 < vMany vs i) && decide (vMany vs j < 4) && (decide (vMany vs j = 0) || decide (vTop vs i = vTop vs j)))) := Lib.hid rfl
  have ci := H.mCellX i hi rfl
  have cj := H.mCellX j hj rfl
  have ti := H.tCell i hi
  have tj := H.tCell j hj
  have hii : (i : Int) < 6 := by omega
  have hjj : (j : Int) < 6 := by omega
  have hi0 : (0 : Int) ≤ (i : Int) := by omega
  have hj0 : (0 : Int) ≤ (j : Int) := by omega
  rw [row_ints]
  go_enter Try.func31, Try.ntmps31
  go_upto_region 1 with fail
  generalize w.alloc (.cells (ints vs).toArray 28) = W at *
  generalize vMany vs i = mi at *
  generalize vMany vs j = mj at *
  generalize vTop vs i = a at *
  generalize vTop vs j = b at *
  clear H h
  by_cases hij : i = j
  · have e0 := Lib.hid (decide_eq_false (show ¬ i ≠ j from fun h => h hij))
    have q1 : ((i : Int) == (j : Int)) = true := by simp; omega
    have q2 : ((i : Int) != (j : Int)) = false := by simp; omega
    clear hij
    go_quiet (fail)
    have HB2 := Lib.hid (HB.out.drewN nq)
    go_wp2_with fail
    go_ret
    exact ⟨by rw [EV.out, e0.out]; rfl, HB2.out⟩
  have e0 := Lib.hid (decide_eq_true (show i ≠ j from hij))
  have q1 : ((i : Int) == (j : Int)) = false := by simp; omega
  have q2 : ((i : Int) != (j : Int)) = true := by simp; omega
  have q3 : (i == j) = false := by simpa using hij
  have q4 : (i != j) = true := by simpa using hij
  clear hij
  by_cases h1 : 0 < mi
  rotate_left
  · have e1 := Lib.hid (decide_eq_false h1)
    have d1 : decide (0 < mi) = false := decide_eq_false h1
    clear h1
    go_quiet (fail)
    have HB2 := Lib.hid (HB.out.drewN nq)
    go_wp2_with fail
    go_ret
    exact ⟨by rw [EV.out, e0.out, e1.out]; rfl, HB2.out⟩
  have e1 := Lib.hid (decide_eq_true h1)
  have d1 : decide (0 < mi) = true := decide_eq_true h1
  clear h1
  by_cases h2 : mj < 4
  rotate_left
  · have e2 := Lib.hid (decide_eq_false h2)
    have d2 : decide (mj < 4) = false := decide_eq_false h2
    clear h2
    go_quiet (fail)
    have HB2 := Lib.hid (HB.out.drewN nq)
    go_wp2_with fail
    go_ret
    exact ⟨by rw [EV.out, e0.out, e1.out, e2.out]; rfl, HB2.out⟩
  have e2 := Lib.hid (decide_eq_true h2)
  have d2 : decide (mj < 4) = true := decide_eq_true h2
  clear h2
  by_cases h3 : mj = 0
  · have e3 := Lib.hid (decide_eq_true h3)
    have d3 : (mj == 0) = true := by simpa using h3
    clear h3
    go_quiet (fail)
    have HB2 := Lib.hid (HB.out.drewN nq)
    go_wp2_with fail
    go_ret
    exact ⟨by rw [EV.out, e0.out, e1.out, e2.out, e3.out]; rfl, HB2.out⟩
  have e3 := Lib.hid (decide_eq_false h3)
  have d3 : (mj == 0) = false := by simpa using h3
  clear h3
  by_cases h4 : a = b
  · have e4 := Lib.hid (decide_eq_true h4)
    have d4 : (a == b) = true := by simpa using h4
    clear h4
    go_quiet (fail)
    have HB2 := Lib.hid (HB.out.drewN nq)
    go_wp2_with fail
    go_ret
    exact ⟨by rw [EV.out, e0.out, e1.out, e2.out, e3.out, e4.out]; rfl, HB2.out⟩
  · have e4 := Lib.hid (decide_eq_false h4)
    have d4 : (a == b) = false := by simpa using h4
    clear h4
    go_quiet (fail)
    have HB2 := Lib.hid (HB.out.drewN nq)
    go_wp2_with fail
    go_ret
    exact ⟨by rw [EV.out, e0.out, e1.out, e2.out, e3.out, e4.out]; rfl, HB2.out⟩
end Go.Proofs.Ytemiljokdedidac.base
end
