/-
  Valid views, hidden counts and the number of candidates, on the program's side, walked.
-/
import Derived.Test.YtemiljokdedidacVwI
import Derived.Test.YtemiljokdedidacVwS
namespace Go.Proofs.Ytemiljokdedidac.base
open Go.ChangeShapes Go.WideShapes Go.ChangeAt Go.RowKit
set_option linter.unusedVariables false
set_option linter.unusedSimpArgs false

/-- The least of six numbers. -/
def minUp (xs : List Int) : Nat → Int
  | 0 => xs.getD 0 0
  | k + 1 => min (minUp xs k) (xs.getD (k + 1) 0)
theorem minUp_debt (xs : List Int) : ∀ k : Nat, decide (0 ≤ minUp xs k) = noDebt xs (k + 1)
  | 0 => by rw [minUp]; simp [noDebt]
  | k + 1 => by
    have ih := minUp_debt xs k
    rw [Bool.eq_iff_iff, noDebt_iff, decide_eq_true_iff]
    rw [Bool.eq_iff_iff, noDebt_iff, decide_eq_true_iff] at ih
    rw [minUp]
    constructor
    · intro h j hj
      by_cases e : j = k + 1
      · subst e; omega
      · exact ih.1 (by omega) j (by omega)
    · intro h
      have h1 := ih.2 (fun j hj => h j (by omega))
      have h2 := h (k + 1) (by omega)
      omega

set_option maxHeartbeats 400000 in
theorem min_any (xs : List Int) (b : Nat) (w : World) (H : Has w b xs 6) :
    Calls Try.prog 110 #[.slice (some ⟨b, 0, none⟩) 6 6] w fun e w' => e = .returned (.int .i64 (minUp xs 5)) ∧ w' = w := by
  have c0 := H.cell 0 (by omega)
  have E0 : Hid (minUp xs 0 = xs.getD 0 0) := Lib.hid rfl
  have HH := Lib.hid H
  clear H
  rw [← E0.out] at c0
  go_enter Try.func110, Try.ntmps110
  go_wp2_with fail
  go_loop [3, 4] (fun m i => ∃ c : Nat, c ≤ 5 ∧ i = .int .i64 ((c + 1 : Nat) : Int) ∧ m = .int .i64 (minUp xs c)) (fun _ z => 7 - (intOf z).toNat)
  case atStart => exact ⟨0, by omega, rfl, rfl⟩
  case round =>
    obtain ⟨c, hc, rfl, rfl⟩ := hrel
    by_cases hc4 : c < 5
    · have hci : ((c + 1 : Nat) : Int) < 6 := by omega
      have hci2 : (c : Int) + 1 < 6 := by omega
      have hc0 := HH.out.cell (c + 1) (by omega)
      have EN : Hid (minUp xs (c + 1) = min (minUp xs c) (xs.getD (c + 1) 0)) := Lib.hid rfl
      generalize xs.getD (c + 1) 0 = x at *
      generalize minUp xs c = y at *
      clear c0
      go_wp2_with fail
      all_goals
        go_round
        case rel => exact ⟨c + 1, by omega, by go_num, by rw [EN.out]; congr 1; omega⟩
        case measure => simp [intOf]; omega
    · obtain rfl : c = 5 := by omega
      go_wp2_with fail
      go_ret
      exact ⟨rfl, rfl⟩

theorem cnt_bounds {vs : List Int} (ht : topV vs = true) (hc : cntVV vs = true) : ∀ c, c < 6 → -900 ≤ vCnt vs c ∧ vCnt vs c ≤ 900 := fun c h => by
  unfold cntVV at hc
  simp only [Bool.and_eq_true] at hc
  have := (cnt_small ht 6 (by omega) hc.1.1).2 c h
  omega
theorem vV_bounds {vs : List Int} (h : vs.length = 18) (hv : vV vs = true) : ∀ c, c < 6 → -900 ≤ vCnt vs c ∧ vCnt vs c ≤ 900 := by
  have F := viewFacts h hv
  refine cnt_bounds F.tops ?_
  have := vV_code h F.tops
  rw [hv] at this
  exact (Bool.and_eq_true_iff.1 this.symm).1

set_option maxHeartbeats 400000 in
theorem implIsView (vs : List Int) (w : World) (h : vs.length = 18) :
    Calls Try.prog 79 #[row vs] w fun e w' => e = .returned (.bool (vV vs)) ∧ Kept w w' := by
  have H := Has.box w 28 h (by omega)
  have HB := Lib.hid ((kept_refl w).alloc (.cells (ints vs).toArray 28))
  rw [row_ints]
  go_enter Try.func79, Try.ntmps79
  go_wp2_with (refine load_has rfl 28 _ rfl _ rfl ?_ 18 ?_ _ Try.underlying28 rfl ?_ ?_; rotate_left; (· (repeat (first | (with_reducible assumption) | ((with_reducible refine Has.box _ _ ?_ ?_) <;> (first | assumption | decide)) | (with_reducible refine Has.alloc ?_ _) | ((with_reducible refine Has.putOther ?_ _ _ ?_); rotate_left; omega; skip) | ((with_reducible refine Has.below ?_ ?_); rotate_left; assumption)))); (· kernel_rfl))
  refine (hasTops_any vs _ h).mono ?_
  rintro e w1 ⟨rfl, b1⟩
  have H1 := H.below b1
  have HB1 := Lib.hid (HB.out.call b1)
  clear H HB b1
  by_cases ht : topV vs = true
  · rw [ht]
    have HC := Lib.hid (vV_code h ht)
    have HCB := Lib.hid (cnt_bounds ht)
    have HMN := Lib.hid (show ∀ i, i < 6 → 0 ≤ (prt vs 1).getD i 0 ∧ (prt vs 1).getD i 0 ≤ 4 from fun i hi => by
      have := topV_at ht i hi
      unfold vMany at this
      omega)
    go_wp2_with (first | (refine load_prt rfl 22 _ rfl _ (1) _ rfl ?_ ?_ ?_ ?_ _ Try.underlying22 rfl ?_ ?_; (· (first | rfl | omega)); rotate_left; (· (repeat (first | (with_reducible assumption) | ((with_reducible refine Has.box _ _ ?_ ?_) <;> (first | assumption | decide)) | (with_reducible refine Has.alloc ?_ _) | ((with_reducible refine Has.putOther ?_ _ _ ?_); rotate_left; omega; skip) | ((with_reducible refine Has.below ?_ ?_); rotate_left; assumption)))); (· omega); (· kernel_rfl)) | (refine load_prt rfl 22 _ rfl _ (2) _ rfl ?_ ?_ ?_ ?_ _ Try.underlying22 rfl ?_ ?_; (· (first | rfl | omega)); rotate_left; (· (repeat (first | (with_reducible assumption) | ((with_reducible refine Has.box _ _ ?_ ?_) <;> (first | assumption | decide)) | (with_reducible refine Has.alloc ?_ _) | ((with_reducible refine Has.putOther ?_ _ _ ?_); rotate_left; omega; skip) | ((with_reducible refine Has.below ?_ ?_); rotate_left; assumption)))); (· omega); (· kernel_rfl)))
    refine (addUp_any (prt vs 1) (prt vs 2) _ (prt_len vs 1 h (by omega)) (prt_len vs 2 h (by omega)) HMN.out).mono ?_
    rintro e w2 ⟨rfl, b2⟩
    rw [← cntVV_B]
    have H2 := H1.below b2
    have HB2 := Lib.hid (HB1.out.call b2)
    clear H1 HB1 b2
    by_cases hc : cntVV vs = true
    · rw [hc] at HC ⊢
      have hb := HCB.out hc
      clear hc HCB
      have h6 := hid_len h
      go_wp2_with (refine load_has rfl 28 _ rfl _ rfl ?_ 18 ?_ _ Try.underlying28 rfl ?_ ?_; rotate_left; (· (repeat (first | (with_reducible assumption) | ((with_reducible refine Has.box _ _ ?_ ?_) <;> (first | assumption | decide)) | (with_reducible refine Has.alloc ?_ _) | ((with_reducible refine Has.putOther ?_ _ _ ?_); rotate_left; omega; skip) | ((with_reducible refine Has.below ?_ ?_); rotate_left; assumption)))); (· kernel_rfl))
      refine (hidden_any vs _ h ht hb).mono ?_
      rintro e w3 ⟨rfl, b3⟩
      have HB3 := Lib.hid ((HB2.out.call b3).alloc (.cells (ints (hid vs)).toArray 104))
      have Z := Has.box w3 104 h6 (by omega)
      clear H2 HB2 b3 hb ht
      rw [row_ints]
      go_wp2_with (refine store_new rfl 104 _ _ rfl _ _ _ rfl _ rfl _ rfl rfl ?_ ?_ ?_; (· (first | assumption | rfl)); (· kernel_rfl))
      refine (min_any (hid vs) _ _ Z).mono ?_
      rintro e w' ⟨rfl, rfl⟩
      have E := Lib.hid (show vV vs = decide (0 ≤ minUp (hid vs) 5) by rw [HC.out, Bool.true_and, minUp_debt])
      clear HC
      go_wp2_with fail
      go_ret
      exact ⟨by rw [E.out]; rfl, HB3.out⟩
    · have hf : cntVV vs = false := by simpa using hc
      rw [hf] at HC ⊢
      clear hf hc HCB ht
      go_wp2_with fail
      go_ret
      exact ⟨by rw [HC.out]; rfl, HB2.out⟩
  · have hf : topV vs = false := by simpa using ht
    have N := Lib.hid (vV_tops hf)
    rw [hf]
    clear hf ht
    go_wp2_with fail
    go_ret
    exact ⟨by rw [N.out]; rfl, HB1.out⟩

/-- What is hidden, for any view. -/
def hidA (vs : List Int) : List Int := if vV vs = true then hid vs else z6
def belA (vs : List Int) : Int := if vV vs = true then belUp vs 6 else 0
def candA (vs : List Int) : Nat := if vV vs = true then ordA (hid vs) else 0
theorem hidA_len {vs : List Int} (h : vs.length = 18) : (hidA vs).length = 6 := by
  unfold hidA
  by_cases hv : vV vs = true
  · rw [if_pos hv]; exact hid_len h
  · rw [if_neg hv]; rfl

theorem implCountCand (vs : List Int) (w : World) (h : vs.length = 18) :
    Calls Try.prog 46 #[row vs] w fun e w' => e = .returned (.tuple #[.int .i64 (candA vs : Nat), .bool (vV vs)]) ∧ Kept w w' := by
  have H := Has.box w 28 h (by omega)
  have HB := Lib.hid ((kept_refl w).alloc (.cells (ints vs).toArray 28))
  rw [row_ints]
  go_enter Try.func46, Try.ntmps46
  go_wp2_with (refine load_has rfl 28 _ rfl _ rfl ?_ 18 ?_ _ Try.underlying28 rfl ?_ ?_; rotate_left; (· (repeat (first | (with_reducible assumption) | ((with_reducible refine Has.box _ _ ?_ ?_) <;> (first | assumption | decide)) | (with_reducible refine Has.alloc ?_ _) | ((with_reducible refine Has.putOther ?_ _ _ ?_); rotate_left; omega; skip) | ((with_reducible refine Has.below ?_ ?_); rotate_left; assumption)))); (· kernel_rfl))
  refine (implIsView vs _ h).mono ?_
  rintro e w1 ⟨rfl, b1⟩
  have H1 := H.below b1
  have HB1 := Lib.hid (HB.out.call b1)
  clear H HB b1
  by_cases hv : vV vs = true
  · rw [hv]
    have F := Lib.hid (viewFacts h hv)
    have EA := Lib.hid (show candA vs = ordA (hid vs) by unfold candA; rw [if_pos hv])
    have hb := vV_bounds h hv
    have h6 := hid_len h
    have hp := F.out.small
    have HV := Lib.hid hv
    clear hv
    go_wp2_with (refine load_has rfl 28 _ rfl _ rfl ?_ 18 ?_ _ Try.underlying28 rfl ?_ ?_; rotate_left; (· (repeat (first | (with_reducible assumption) | ((with_reducible refine Has.box _ _ ?_ ?_) <;> (first | assumption | decide)) | (with_reducible refine Has.alloc ?_ _) | ((with_reducible refine Has.putOther ?_ _ _ ?_); rotate_left; omega; skip) | ((with_reducible refine Has.below ?_ ?_); rotate_left; assumption)))); (· kernel_rfl))
    refine (hidden_any vs _ h F.out.tops hb).mono ?_
    rintro e w3 ⟨rfl, b3⟩
    have HB3 := Lib.hid (HB1.out.call b3)
    clear H1 HB1 b3 hb
    go_wp2_with fail
    refine (orders_any (hid vs) _ h6 hp).mono ?_
    rintro e w4 ⟨rfl, b4⟩
    have HB4 := Lib.hid (HB3.out.call b4)
    clear HB3 b4
    go_wp2_with fail
    go_ret2
    exact ⟨by rw [EA.out, HV.out]; rfl, HB4.out⟩
  · have hf : vV vs = false := by simpa using hv
    have EA := Lib.hid (show candA vs = 0 by unfold candA; rw [if_neg hv])
    rw [hf]
    have HV := Lib.hid hf
    clear hf hv
    go_wp2_with fail
    go_ret2
    exact ⟨by rw [EA.out, HV.out]; rfl, HB1.out⟩
end Go.Proofs.Ytemiljokdedidac.base
