/-
  Valid views, hidden counts and the number of candidates, on the program's side, walked.
-/
import Derived.Test.YtemiljokdedidaaVwI
import Derived.Test.YtemiljokdedidaaVwS
namespace Go.Proofs.Ytemiljokdedidaa.base
open Go.ChangeShapes Go.WideShapes Go.ChangeAt Go.RowKit
set_option linter.unusedVariables false
set_option linter.unusedSimpArgs false

/-- The least of six numbers. -/
def minUp (xs : List Int) : Nat → Int
  | 0 => xs.getD 0 0
  | k + 1 => min (minUp xs k) (xs.getD (k + 1) 0)
theorem minUp_debt (xs : List Int) : ∀ k : Nat, decide (0 ≤ minUp xs k) = noDebt xs (k + 1)
  | 0 => by rw [minUp]; simp [noDebt]
  | k + 1 => by
    have ih := minUp_debt xs k
    rw [Bool.eq_iff_iff, noDebt_iff, decide_eq_true_iff]
    rw [Bool.eq_iff_iff, noDebt_iff, decide_eq_true_iff] at ih
    rw [minUp]
    constructor
    · intro h j hj
      by_cases e : j = k + 1
      · subst e; omega
      · exact ih.1 (by omega) j (by omega)
    · intro h
      have h1 := ih.2 (fun j hj => h j (by omega))
      have h2 := h (k + 1) (by omega)
      omega

set_option maxHeartbeats 400000 in
theorem min_any (xs : List Int) (b : Nat) (w : World) (H : Has w b xs 6) :
    Calls Try.prog 51 #[.slice (some ⟨b, 0, none⟩) 6 6] w fun e w' => e = .returned (.int .i64 (minUp xs 5)) ∧ w' = w := by
  have c0 := H.cell 0 (by omega)
  have E0 : Hid (minUp xs 0 = xs.getD 0 0) := Lib.hid rfl
  have HH := Lib.hid H
  clear H
  rw [← E0.out] at c0
  go_enter Try.func51, Try.ntmps51
  go_wp2_with fail
  go_loop [3, 4] (fun m i => ∃ c : Nat, c ≤ 5 ∧ i = .int .i64 ((c + 1 : Nat) : Int) ∧ m = .int .i64 (minUp xs c)) (fun _ z => 7 - (intOf z).toNat)
  case atStart => exact ⟨0, by omega, rfl, rfl⟩
  case round =>
    obtain ⟨c, hc, rfl, rfl⟩ := hrel
    by_cases hc4 : c < 5
    · have hci : ((c + 1 : Nat) : Int) < 6 := by omega
      have hci2 : (c : Int) + 1 < 6 := by omega
      have hc0 := HH.out.cell (c + 1) (by omega)
      have EN : Hid (minUp xs (c + 1) = min (minUp xs c) (xs.getD (c + 1) 0)) := Lib.hid rfl
      generalize xs.getD (c + 1) 0 = x at *
      generalize minUp xs c = y at *
      clear c0
      go_wp2_with fail
      all_goals
        go_round
        case rel => exact ⟨c + 1, by omega, by go_num, by rw [EN.out]; congr 1; omega⟩
        case measure => simp [intOf]; omega
    · obtain rfl : c = 5 := by omega
      go_wp2_with fail
      go_ret
      exact ⟨rfl, rfl⟩

theorem cnt_bounds {vs : List Int} (ht : topV vs = true) (hc : cntVV vs = true) : ∀ c, c < 6 → -900 ≤ vCnt vs c ∧ vCnt vs c ≤ 900 := fun c h => by
  unfold cntVV at hc
  simp only [Bool.and_eq_true] at hc
  have := (cnt_small ht 6 (by omega) hc.1.1).2 c h
  omega
theorem vV_bounds {vs : List Int} (h : vs.length = 18) (hv : vV vs = true) : ∀ c, c < 6 → -900 ≤ vCnt vs c ∧ vCnt vs c ≤ 900 := by
  have F := viewFacts h hv
  refine cnt_bounds F.tops ?_
  have := vV_code h F.tops
  rw [hv] at this
  exact (Bool.and_eq_true_iff.1 this.symm).1

set_option maxHeartbeats 400000 in
theorem implIsView (vs : List Int) (w : World) (h : vs.length = 18) :
    Calls Try.prog 25 #[row vs] w fun e w' => e = .returned (.bool (vV vs)) ∧ Kept w w' := by
  have H := Has.box w 36 h (by omega)
  have HB := Lib.hid ((kept_refl w).alloc (.cells (ints vs).toArray 36))
  rw [row_ints]
  go_enter Try.func25, Try.ntmps25
  go_wp2_with (refine load_has rfl 36 _ rfl _ rfl ?_ 18 ?_ _ Try.underlying36 rfl ?_ ?_; rotate_left; (· (repeat (first | (with_reducible assumption) | ((with_reducible refine Has.box _ _ ?_ ?_) <;> (first | assumption | decide)) | (with_reducible refine Has.alloc ?_ _) | ((with_reducible refine Has.putOther ?_ _ _ ?_); rotate_left; omega; skip) | ((with_reducible refine Has.below ?_ ?_); rotate_left; assumption)))); (· kernel_rfl))
  refine (hasTops_any vs _ h).mono ?_
  rintro e w1 ⟨rfl, b1⟩
  have H1 := H.below b1
  have HB1 := Lib.hid (HB.out.call b1)
  clear H HB b1
  by_cases ht : topV vs = true
  · rw [ht]
    have HC := Lib.hid (vV_code h ht)
    have HCB := Lib.hid (cnt_bounds ht)
    have HMN := Lib.hid (show ∀ i, i < 6 → 0 ≤ (prt vs 1).getD i 0 ∧ (prt vs 1).getD i 0 ≤ 4 from fun i hi => by
      have := topV_at ht i hi
      unfold vMany at this
      omega)
    go_wp2_with (first | (refine load_prt rfl 22 _ rfl _ (1) _ rfl ?_ ?_ ?_ ?_ _ Try.underlying22 rfl ?_ ?_; (· (first | rfl | omega)); rotate_left; (· (repeat (first | (with_reducible assumption) | ((with_reducible refine Has.box _ _ ?_ ?_) <;> (first | assumption | decide)) | (with_reducible refine Has.alloc ?_ _) | ((with_reducible refine Has.putOther ?_ _ _ ?_); rotate_left; omega; skip) | ((with_reducible refine Has.below ?_ ?_); rotate_left; assumption)))); (· omega); (· kernel_rfl)) | (refine load_prt rfl 22 _ rfl _ (2) _ rfl ?_ ?_ ?_ ?_ _ Try.underlying22 rfl ?_ ?_; (· (first | rfl | omega)); rotate_left; (· (repeat (first | (with_reducible assumption) | ((with_reducible refine Has.box _ _ ?_ ?_) <;> (first | assumption | decide)) | (with_reducible refine Has.alloc ?_ _) | ((with_reducible refine Has.putOther ?_ _ _ ?_); rotate_left; omega; skip) | ((with_reducible refine Has.below ?_ ?_); rotate_left; assumption)))); (· omega); (· kernel_rfl)))
    refine (addUp_any (prt vs 1) (prt vs 2) _ (prt_len vs 1 h (by omega)) (prt_len vs 2 h (by omega)) HMN.out).mono ?_
    rintro e w2 ⟨rfl, b2⟩
    rw [← cntVV_B]
    have H2 := H1.below b2
    have HB2 := Lib.hid (HB1.out.call b2)
    clear H1 HB1 b2
    by_cases hc : cntVV vs = true
    · rw [hc] at HC ⊢
      have hb := HCB.out hc
      clear hc HCB
      have h6 := hid_len h
      go_wp2_with (refine load_has rfl 36 _ rfl _ rfl ?_ 18 ?_ _ Try.underlying36 rfl ?_ ?_; rotate_left; (· (repeat (first | (with_reducible assumption) | ((with_reducible refine Has.box _ _ ?_ ?_) <;> (first | assumption | decide)) | (with_reducible refine Has.alloc ?_ _) | ((with_reducible refine Has.putOther ?_ _ _ ?_); rotate_left; omega; skip) | ((with_reducible refine Has.below ?_ ?_); rotate_left; assumption)))); (· kernel_rfl))
      refine (hidden_any vs _ h ht hb).mono ?_
      rintro e w3 ⟨rfl, b3⟩
      have HB3 := Lib.hid ((HB2.out.call b3).alloc (.cells (ints (hid vs)).toArray 45))
      have Z := Has.box w3 45 h6 (by omega)
      clear H2 HB2 b3 hb ht
      rw [row_ints]
      go_wp2_with (refine store_new rfl 45 _ _ rfl _ _ _ rfl _ rfl _ rfl rfl ?_ ?_ ?_; (· (first | assumption | rfl)); (· kernel_rfl))
      refine (min_any (hid vs) _ _ Z).mono ?_
      rintro e w' ⟨rfl, rfl⟩
      have E := Lib.hid (show vV vs = decide (0 ≤ minUp (hid vs) 5) by rw [HC.out, Bool.true_and, minUp_debt])
      clear HC
      go_wp2_with fail
      go_ret
      exact ⟨by rw [E.out]; rfl, HB3.out⟩
    · have hf : cntVV vs = false := by simpa using hc
      rw [hf] at HC ⊢
      clear hf hc HCB ht
      go_wp2_with fail
      go_ret
      exact ⟨by rw [HC.out]; rfl, HB2.out⟩
  · have hf : topV vs = false := by simpa using ht
    have N := Lib.hid (vV_tops hf)
    rw [hf]
    clear hf ht
    go_wp2_with fail
    go_ret
    exact ⟨by rw [N.out]; rfl, HB1.out⟩

/-- What is hidden, for any view. -/
def hidA (vs : List Int) : List Int := if vV vs = true then hid vs else z6
def belA (vs : List Int) : Int := if vV vs = true then belUp vs 6 else 0
def candA (vs : List Int) : Nat := if vV vs = true then ordA (hid vs) else 0
theorem hidA_len {vs : List Int} (h : vs.length = 18) : (hidA vs).length = 6 := by
  unfold hidA
  by_cases hv : vV vs = true
  · rw [if_pos hv]; exact hid_len h
  · rw [if_neg hv]; rfl

set_option maxHeartbeats 800000 in
set_option maxRecDepth 100000 in
theorem implCountHidden (vs : List Int) (w : World) (h : vs.length = 18) :
    Calls Try.prog 27 #[row vs] w fun e w' => e = .returned (.tuple #[.int .i64 (belA vs), .agg (ints (hidA vs)).toArray, .bool (vV vs)]) ∧ Kept w w' := by
  have H := (Has.box w 36 h (by omega)).alloc (.cells #[.int .i64 0, .int .i64 0, .int .i64 0, .int .i64 0, .int .i64 0, .int .i64 0] 22)
  have Z := (Has.zero6 (w.alloc (.cells (ints vs).toArray 36)) 22).at (size1 _ _)
  have HB := Lib.hid (((kept_refl w).alloc (.cells (ints vs).toArray 36)).alloc (.cells #[.int .i64 0, .int .i64 0, .int .i64 0, .int .i64 0, .int .i64 0, .int .i64 0] 22))
  rw [row_ints]
  go_enter Try.func27, Try.ntmps27
  go_wp2_with (refine load_has rfl 36 _ rfl _ rfl ?_ 18 ?_ _ Try.underlying36 rfl ?_ ?_; rotate_left; (· (repeat (first | (with_reducible assumption) | ((with_reducible refine Has.box _ _ ?_ ?_) <;> (first | assumption | decide)) | (with_reducible refine Has.alloc ?_ _) | ((with_reducible refine Has.putOther ?_ _ _ ?_); rotate_left; omega; skip) | ((with_reducible refine Has.below ?_ ?_); rotate_left; assumption)))); (· kernel_rfl))
  refine (implIsView vs _ h).mono ?_
  rintro e w1 ⟨rfl, b1⟩
  have H1 := H.below b1
  have Z1 := Z.below b1
  have HB1 := Lib.hid (HB.out.call b1)
  clear H Z HB b1
  by_cases hv : vV vs = true
  · rw [hv]
    have F := Lib.hid (viewFacts h hv)
    have EA := Lib.hid (show hidA vs = hid vs by unfold hidA; rw [if_pos hv])
    have EB := Lib.hid (show belA vs = belUp vs 6 by unfold belA; rw [if_pos hv])
    have hb := vV_bounds h hv
    have h6 := hid_len h
    have hs : ∀ j, j < 6 → -1000 ≤ (hid vs).getD j 0 ∧ (hid vs).getD j 0 ≤ 1000 := fun j hj => by
      have := F.out.nat j hj
      have := F.out.each j hj
      omega
    have HV := Lib.hid hv
    clear hv
    go_wp2_with (refine load_has rfl 36 _ rfl _ rfl ?_ 18 ?_ _ Try.underlying36 rfl ?_ ?_; rotate_left; (· (repeat (first | (with_reducible assumption) | ((with_reducible refine Has.box _ _ ?_ ?_) <;> (first | assumption | decide)) | (with_reducible refine Has.alloc ?_ _) | ((with_reducible refine Has.putOther ?_ _ _ ?_); rotate_left; omega; skip) | ((with_reducible refine Has.below ?_ ?_); rotate_left; assumption)))); (· kernel_rfl))
    refine (hidden_any vs _ h F.out.tops hb).mono ?_
    rintro e w3 ⟨rfl, b3⟩
    have Z3 := (Z1.below b3).alloc (.cells (ints (hid vs)).toArray 45)
    have HB3 := Lib.hid ((HB1.out.call b3).alloc (.cells (ints (hid vs)).toArray 45))
    have Y := Has.box w3 45 h6 (by omega)
    have ly := Y.lt
    have lz := b3.size
    have lw := HB1.out.size
    have l1 := Z1.lt
    clear H1 HB1 b3 hb Z1
    rw [row_ints]
    go_wp2_with (refine store_new rfl 45 _ _ rfl _ _ _ rfl _ rfl _ rfl rfl ?_ ?_ ?_; (· (first | assumption | rfl)); (· kernel_rfl))
    have li : (ints (hid vs)).length = 6 := by rw [ints_len]; exact h6
    have hi1 : (Try.prog.info? 45).map (·.size) = some (ints (hid vs)).length := by rw [li]; kernel_rfl
    have hi6 : (Try.prog.info? 22).map (·.size) = some (ints (hid vs)).length := by rw [li]; kernel_rfl
    have hne : w.heap.size + 1 < w3.heap.size := by omega
    clear ly
    generalize w3.alloc (.cells (ints (hid vs)).toArray 45) = W3 at *
    generalize w3.heap.size = b at *
    refine wp_region_held_drew (S := fun w' => Has w' b (hid vs) 6 ∧ (∃ zs, Has w' (w.heap.size + 1) zs 6) ∧ Kept w w') (by kernel_rfl) ⟨Y.drew, ⟨_, Z3.drew⟩, HB3.out.drewN 1⟩ (fun hHeld => ?_)
    clear Y Z3 HB3
    generalize World.drew _ = WD at *
    (refine wpAnyH_take (i := 0) (v := _) rfl (by kernel_rfl) (by kernel_rfl) (by kernel_rfl) (fun _ _ _ h => h) (yieldsIf_load_mid (by rfl) 45 _ rfl _ _ rfl (ints (hid vs)) _ (fun w' hSw => hSw.1.holds.range) Try.underlying45 rfl (hi1)) hHeld ?_; (try simp only [List.getElem_toArray, List.getElem_cons_zero, List.getElem_cons_succ, Act.put, List.setIfInBounds_toArray, List.set_cons_zero, List.set_cons_succ]))
    (refine wpAnyH_take (i := 2) (v := _) rfl (by kernel_rfl) (by kernel_rfl) (by kernel_rfl) (fun _ _ _ h => h) (yieldsIf_load_mid (by rfl) 45 _ rfl _ _ rfl (ints (hid vs)) _ (fun w' hSw => hSw.1.holds.range) Try.underlying45 rfl (hi1)) hHeld ?_; (try simp only [List.getElem_toArray, List.getElem_cons_zero, List.getElem_cons_succ, Act.put, List.setIfInBounds_toArray, List.set_cons_zero, List.set_cons_succ]))
    (refine wpAnyH_ready (rs := [1]) (by kernel_rfl) (by simp) ?_; refine AllReadyH.cons (o := _) rfl (fun K hK => ?_) AllReadyH.nil; (simp only [List.getElem_toArray, List.getElem_cons_zero, List.getElem_cons_succ, Region.wanted, if_true]))
    go_simp
    refine (size_any (hid vs) _ h6 hs).mono ?_
    rintro e wA ⟨rfl, bq⟩
    dsimp only
    (try simp only [List.getElem_toArray, List.getElem_cons_zero, List.getElem_cons_succ, Act.put, List.setIfInBounds_toArray, List.set_cons_zero, List.set_cons_succ])
    refine hK.out _ _ ⟨hHeld.1.below bq, ⟨_, hHeld.2.1.choose_spec.below bq⟩, hHeld.2.2.call bq⟩ (fun hHeld => ?_)
    clear hK K bq
    (refine wpAnyH_take (i := 3) (v := ?_) rfl (by kernel_rfl) (by kernel_rfl) (by kernel_rfl) (fun _ _ _ h => h) (Or.inl ⟨by rfl, ?_⟩) hHeld ?_; rotate_left; (· (intro w' hSw; go_simp; try with_reducible rfl)); (try simp only [List.getElem_toArray, List.getElem_cons_zero, List.getElem_cons_succ, Act.put, List.setIfInBounds_toArray, List.set_cons_zero, List.set_cons_succ]))
    have S1 := hHeld.2.1.choose_spec.putAll (hid vs) h6
    have S2 := hHeld.2.2.puts (b := w.heap.size + 1) (by omega) 0 (ints (hid vs))
    have T1 := hHeld.2.1.choose_spec.there
    (refine wpAnyH_ready (rs := [4]) (by kernel_rfl) (by simp) ?_; refine AllReadyH.cons (o := _) rfl (fun K hK => ?_) AllReadyH.nil; (simp only [List.getElem_toArray, List.getElem_cons_zero, List.getElem_cons_succ, Region.wanted, if_true]); refine wp_store_mid _ _ _ rfl _ _ (ints (hid vs)).toArray rfl rfl (by simpa [li] using T1) (by simpa [li] using hi6) (all_oneCell_toArray (ints_one _)) ?_; (try simp only [List.getElem_toArray, List.getElem_cons_zero, List.getElem_cons_succ, Act.put, List.setIfInBounds_toArray, List.set_cons_zero, List.set_cons_succ, List.toList_toArray]); refine hK.out _ _ (⟨hHeld.1.putOther _ _ (by omega), ⟨_, S1⟩, hHeld.2.2.puts (by omega) _ _⟩) (fun hHeld => ?_); clear hK K)
    (refine wpAnyH_take (i := 5) (v := ?_) rfl (by kernel_rfl) (by kernel_rfl) (by kernel_rfl) (fun _ _ _ h => h) (Or.inl ⟨by rfl, ?_⟩) hHeld ?_; rotate_left; (· (intro w' hSw; go_simp; try with_reducible rfl)); (try simp only [List.getElem_toArray, List.getElem_cons_zero, List.getElem_cons_succ, Act.put, List.setIfInBounds_toArray, List.set_cons_zero, List.set_cons_succ]))
    refine wpAnyH_done (by kernel_rfl) ?_ _
    have EBL := Lib.hid F.out.sum
    clear hHeld T1 hi1 hi6 li
    go_wp2_with fail
    exact bodyPost_ret (res_tat rfl _ _ (w.heap.size + 1) (hid vs) 6 _ (.int .i64 (sumUp (hid vs) 6)) (.bool true) rfl rfl rfl S1 Try.underlying22 rfl (by kernel_rfl)) rfl ⟨by rw [EA.out, EB.out, HV.out, EBL.out], S2⟩
  · have hf : vV vs = false := by simpa using hv
    have EA := Lib.hid (show hidA vs = z6 by unfold hidA; rw [if_neg hv])
    have EB := Lib.hid (show belA vs = 0 by unfold belA; rw [if_neg hv])
    rw [hf]
    have HV := Lib.hid hf
    clear hf hv
    have S1 := Lib.hid (Z1.putAll z6 rfl)
    have S2 := Lib.hid (HB1.out.puts (b := w.heap.size + 1) (by omega) 0 (ints z6))
    have hz : z6.length = 6 := rfl
    have hbu : ∀ w : World, (Instr.build 22 #[]).run Try.prog w = .ok (.agg (ints z6).toArray) w := fun _ => by kernel_rfl
    have HZB := Lib.hid hbu
    clear hbu
    go_wp2_with (first | (refine build_law rfl 22 rfl _ HZB.out ?_) | (refine store_at rfl 22 _ _ rfl _ _ rfl rfl ?_ 6 ?_ ?_ ?_ ?_; rotate_left; (· (repeat (first | (with_reducible assumption) | ((with_reducible refine Has.box _ _ ?_ ?_) <;> (first | assumption | decide)) | (with_reducible refine Has.alloc ?_ _) | ((with_reducible refine Has.putOther ?_ _ _ ?_); rotate_left; omega; skip) | ((with_reducible refine Has.below ?_ ?_); rotate_left; assumption)))); (· (first | assumption | rfl)); (· kernel_rfl)))
    exact bodyPost_ret (res_tat rfl _ _ (w.heap.size + 1) z6 6 _ (.int .i64 0) (.bool false) rfl rfl rfl S1.out Try.underlying22 rfl (by kernel_rfl)) rfl ⟨by rw [EA.out, EB.out, HV.out], S2.out⟩

theorem implCountCand (vs : List Int) (w : World) (h : vs.length = 18) :
    Calls Try.prog 30 #[row vs] w fun e w' => e = .returned (.tuple #[.int .i64 (candA vs : Nat), .bool (vV vs)]) ∧ Kept w w' := by
  have H := Has.box w 36 h (by omega)
  have HB := Lib.hid ((kept_refl w).alloc (.cells (ints vs).toArray 36))
  rw [row_ints]
  go_enter Try.func30, Try.ntmps30
  go_wp2_with (refine load_has rfl 36 _ rfl _ rfl ?_ 18 ?_ _ Try.underlying36 rfl ?_ ?_; rotate_left; (· (repeat (first | (with_reducible assumption) | ((with_reducible refine Has.box _ _ ?_ ?_) <;> (first | assumption | decide)) | (with_reducible refine Has.alloc ?_ _) | ((with_reducible refine Has.putOther ?_ _ _ ?_); rotate_left; omega; skip) | ((with_reducible refine Has.below ?_ ?_); rotate_left; assumption)))); (· kernel_rfl))
  refine (implIsView vs _ h).mono ?_
  rintro e w1 ⟨rfl, b1⟩
  have H1 := H.below b1
  have HB1 := Lib.hid (HB.out.call b1)
  clear H HB b1
  by_cases hv : vV vs = true
  · rw [hv]
    have F := Lib.hid (viewFacts h hv)
    have EA := Lib.hid (show candA vs = ordA (hid vs) by unfold candA; rw [if_pos hv])
    have hb := vV_bounds h hv
    have h6 := hid_len h
    have hp := F.out.small
    have HV := Lib.hid hv
    clear hv
    go_wp2_with (refine load_has rfl 36 _ rfl _ rfl ?_ 18 ?_ _ Try.underlying36 rfl ?_ ?_; rotate_left; (· (repeat (first | (with_reducible assumption) | ((with_reducible refine Has.box _ _ ?_ ?_) <;> (first | assumption | decide)) | (with_reducible refine Has.alloc ?_ _) | ((with_reducible refine Has.putOther ?_ _ _ ?_); rotate_left; omega; skip) | ((with_reducible refine Has.below ?_ ?_); rotate_left; assumption)))); (· kernel_rfl))
    refine (hidden_any vs _ h F.out.tops hb).mono ?_
    rintro e w3 ⟨rfl, b3⟩
    have HB3 := Lib.hid (HB1.out.call b3)
    clear H1 HB1 b3 hb
    go_wp2_with fail
    refine (orders_any (hid vs) _ h6 hp).mono ?_
    rintro e w4 ⟨rfl, b4⟩
    have HB4 := Lib.hid (HB3.out.call b4)
    clear HB3 b4
    go_wp2_with fail
    go_ret2
    exact ⟨by rw [EA.out, HV.out]; rfl, HB4.out⟩
  · have hf : vV vs = false := by simpa using hv
    have EA := Lib.hid (show candA vs = 0 by unfold candA; rw [if_neg hv])
    rw [hf]
    have HV := Lib.hid hf
    clear hf hv
    go_wp2_with fail
    go_ret2
    exact ⟨by rw [EA.out, HV.out]; rfl, HB1.out⟩
end Go.Proofs.Ytemiljokdedidaa.base
