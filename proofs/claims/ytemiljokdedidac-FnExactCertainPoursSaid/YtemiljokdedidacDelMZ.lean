/-
  Deals: numbers of layers and counts of colors, chances of one color, runs and plain tubes: plain mathematics.
-/
/-
  The counts of colors add up to the layers of all tubes: walked.
-/
import Derived.Test.YtemiljokdedidacVwMZ
import Derived.Test.YtemiljokdedidacMulMZ
import Derived.IntWalk
import Derived.Test.YtemiljokdedidacSixVZ
import Derived.Deep.Cut
import Derived.Deep.CutRange

section
namespace Go.Proofs.Ytemiljokdedidac.base
set_option linter.unusedVariables false
set_option linter.unusedSimpArgs false

/-- How far the counts go, taken off the layers one by one. -/
def cnO (ms cs : List Int) : Nat → Bool
  | 0 => true
  | c + 1 => cnO ms cs c && decide (0 ≤ cs.getD c 0) && decide (cs.getD c 0 ≤ sumUp ms 6 - sumUp cs c)
/-- The counts add up to the layers. -/
def cntB (ms cs : List Int) : Bool := cnO ms cs 6 && decide (sumUp ms 6 - sumUp cs 6 = 0) && decide (cs.getD 0 0 = 0)
theorem mny_sum (vs : List Int) : ∀ i, mnyUp vs i = sumUp (prt vs 1) i
  | 0 => rfl
  | i + 1 => by rw [mnyUp, sumUp, mny_sum vs i]; rfl
theorem cntOk_cnO (vs : List Int) : ∀ c, cntOk vs c = cnO (prt vs 1) (prt vs 2) c
  | 0 => rfl
  | c + 1 => by rw [cntOk, cnO, cntOk_cnO vs c, mny_sum]; rfl
theorem cntVV_B (vs : List Int) : cntVV vs = cntB (prt vs 1) (prt vs 2) := by
  unfold cntVV cntB; rw [cntOk_cnO, mny_sum]; rfl
/-- All tubes have 0 to 4 layers. -/
def manyOk (ms : List Int) : Bool := (List.range 6).all fun i => decide (0 ≤ ms.getD i 0 ∧ ms.getD i 0 ≤ 4)
theorem manyOk_iff (ms : List Int) : manyOk ms = true ↔ ∀ i, i < 6 → 0 ≤ ms.getD i 0 ∧ ms.getD i 0 ≤ 4 := by
  unfold manyOk; rw [List.all_eq_true]
  constructor
  · intro h i hi; have := h i (by simp; exact hi); exact of_decide_eq_true this
  · intro h i hi; exact decide_eq_true (h i (by simpa using hi))
theorem many_in {ms : List Int} (hm : ∀ i, i < 6 → 0 ≤ ms.getD i 0 ∧ ms.getD i 0 ≤ 4) : ∀ i, i ≤ 6 → 0 ≤ sumUp ms i ∧ sumUp ms i ≤ 4 * (i : Int)
  | 0, _ => by simp [sumUp]
  | i + 1, hi => by
    have := many_in hm i (by omega)
    have := hm i (by omega)
    rw [sumUp]; omega
theorem cnO_in {ms cs : List Int} (hm : ∀ i, i < 6 → 0 ≤ ms.getD i 0 ∧ ms.getD i 0 ≤ 4) : ∀ c, c ≤ 6 → cnO ms cs c = true → (0 ≤ sumUp cs c ∧ sumUp cs c ≤ 24) ∧ ∀ j, j < c → 0 ≤ cs.getD j 0 ∧ cs.getD j 0 ≤ 24
  | 0, _, _ => ⟨by simp [sumUp], fun j hj => by omega⟩
  | c + 1, hc, ho => by
    simp only [cnO, Bool.and_eq_true, decide_eq_true_eq] at ho
    obtain ⟨i1, i2⟩ := cnO_in hm c (by omega) ho.1.1
    have hm6 := many_in hm 6 (by omega)
    have h1 := ho.1.2
    have h2 := ho.2
    rw [sumUp]
    refine ⟨by omega, fun j hj => ?_⟩
    by_cases e2 : j = c
    · subst e2; omega
    · exact i2 j (by omega)
theorem cnO_of {ms cs : List Int} (hn : ∀ j, j < 6 → 0 ≤ cs.getD j 0) (hs : sumUp cs 6 ≤ sumUp ms 6) : ∀ c, c ≤ 6 → cnO ms cs c = true
  | 0, _ => rfl
  | c + 1, hc => by
    have ih := cnO_of hn hs c (by omega)
    have hm : ∀ a b, a ≤ b → b ≤ 6 → sumUp cs a ≤ sumUp cs b := by
      intro a b hab
      induction b with
      | zero => intro _; obtain rfl : a = 0 := by omega
                exact Int.le_refl _
      | succ b jh =>
        intro hb
        by_cases e : a = b + 1
        · subst e; exact Int.le_refl _
        · have := jh (by omega) (by omega)
          have := hn b (by omega)
          rw [sumUp]; omega
    have h1 := hm (c + 1) 6 (by omega) (by omega)
    have h2 := hn c (by omega)
    rw [sumUp] at h1
    simp only [cnO, Bool.and_eq_true, decide_eq_true_eq]
    exact ⟨⟨ih, h2⟩, by omega⟩
/-- Numbers of layers and counts of a deal. -/
def dV (ms cs : List Int) : Bool := manyOk ms && cntB ms cs
structure DealFacts (ms cs : List Int) (L : Nat) : Prop where
  many : ∀ i, i < 6 → 0 ≤ ms.getD i 0 ∧ ms.getD i 0 ≤ 4
  cnt : ∀ c, c < 6 → 0 ≤ cs.getD c 0 ∧ cs.getD c 0 ≤ 24
  zero : cs.getD 0 0 = 0
  msum : sumUp ms 6 = (L : Int)
  csum : sumUp cs 6 = (L : Int)
  mpl : plUp ms 6 = L
  cpl : plUp cs 6 = L
  small : L ≤ 24
theorem dealFacts {ms cs : List Int} (h : dV ms cs = true) : ∃ L, DealFacts ms cs L := by
  unfold dV cntB at h
  simp only [Bool.and_eq_true, decide_eq_true_eq] at h
  obtain ⟨h1, ⟨h2, h3⟩, h4⟩ := h
  have hm := (manyOk_iff ms).1 h1
  have mi := many_in hm 6 (by omega)
  obtain ⟨ci, hc⟩ := cnO_in hm 6 (by omega) h2
  have p1 := sumUp_pl (fun j hj => (hm j hj).1) 6 (by omega)
  have p2 := sumUp_pl (fun j hj => (hc j hj).1) 6 (by omega)
  exact ⟨plUp ms 6, hm, hc, h4, p1, by omega, rfl, by omega, by omega⟩
theorem dV_of {ms cs : List Int} (hm : ∀ i, i < 6 → 0 ≤ ms.getD i 0 ∧ ms.getD i 0 ≤ 4) (hc : ∀ c, c < 6 → 0 ≤ cs.getD c 0) (h0 : cs.getD 0 0 = 0) (hs : sumUp ms 6 = sumUp cs 6) : dV ms cs = true := by
  unfold dV cntB
  simp only [Bool.and_eq_true, decide_eq_true_eq]
  exact ⟨(manyOk_iff ms).2 hm, ⟨cnO_of hc (by omega) 6 (by omega), by omega⟩, h0⟩
theorem dV_many {ms cs : List Int} (h : manyOk ms = false) : dV ms cs = false := by unfold dV; rw [h]; rfl
theorem dV_cnt {ms cs : List Int} (h : manyOk ms = true) : dV ms cs = cntB ms cs := by unfold dV; rw [h]; rfl
theorem manyOk_not {ms : List Int} (i : Nat) (hi : i < 6) (h : ¬ (0 ≤ ms.getD i 0 ∧ ms.getD i 0 ≤ 4)) : manyOk ms = false := by
  cases e : manyOk ms with
  | false => rfl
  | true => exact absurd ((manyOk_iff ms).1 e i hi) h
theorem dV_not {ms cs : List Int} (h : ∀ L, ¬ DealFacts ms cs L) : dV ms cs = false := by
  cases e : dV ms cs with
  | false => rfl
  | true => obtain ⟨L, hL⟩ := dealFacts e; exact absurd hL (h L)

/-- In how many orders layers of five colors can be put. -/
theorem ordA_le5 (n : Nat) : ∀ s : List Int, s.length = 6 → (∀ j, j < 6 → 0 ≤ s.getD j 0) → s.getD 0 0 = 0 → plUp s 6 = n → ordA s ≤ 5 ^ n := by
  induction n with
  | zero =>
    intro s h6 h h0 hn
    have := ordA_le 0 s h6 h hn
    simpa using this
  | succ n ih =>
    intro s h6 h hz hn
    obtain ⟨c, hc, hc0, hb⟩ : ∃ c, c < 6 ∧ c ≠ 0 ∧ n + 1 ≤ 5 * (s.getD c 0).toNat := by
      refine Decidable.byContradiction fun hno => ?_
      have hx : ∀ c, c < 6 → c ≠ 0 → 5 * (s.getD c 0).toNat < n + 1 := fun c hc h0 => Decidable.byContradiction fun h2 => hno ⟨c, hc, h0, by omega⟩
      have x1 := hx 1 (by omega) (by omega); have x2 := hx 2 (by omega) (by omega)
      have x3 := hx 3 (by omega) (by omega); have x4 := hx 4 (by omega) (by omega); have x5 := hx 5 (by omega) (by omega)
      simp only [plUp, hz] at hn
      omega
    have h0 := h c hc
    obtain ⟨k, hk⟩ : ∃ k : Nat, s.getD c 0 = (k : Int) + 1 := ⟨(s.getD c 0 - 1).toNat, by omega⟩
    have e1 := plUp_set s c k h6 hc hk
    have r := ord_ratio s c k h6 hc hk
    have i := ih (s.set c (k : Int)) (by rw [List.length_set]; exact h6) (set_nat h6 hc h) (by rw [set_getD s c 0 _ (by omega), if_neg (by omega)]; exact hz) (by omega)
    rw [ordA_of (set_nat h6 hc h)] at i
    rw [ordA_of h]
    rw [hn] at r
    have hb2 : n + 1 ≤ 5 * (k + 1) := by rw [hk] at hb; omega
    have hp : 0 < k + 1 := by omega
    apply Nat.le_of_mul_le_mul_right _ hp
    rw [← r, Nat.pow_succ]
    generalize mulUp (s.set c (k : Int)) 6 = x at *
    generalize 5 ^ n = y at *
    calc x * (n + 1) ≤ y * (n + 1) := Nat.mul_le_mul_right _ i
      _ ≤ y * (5 * (k + 1)) := Nat.mul_le_mul_left _ hb2
      _ = y * 5 * (k + 1) := by rw [Nat.mul_assoc]
theorem ordA_24 {s : List Int} (h6 : s.length = 6) (h : ∀ j, j < 6 → 0 ≤ s.getD j 0) (h0 : s.getD 0 0 = 0) (hp : plUp s 6 ≤ 24) : ordA s ≤ 59604644775390625 := by
  have h1 := ordA_le5 (plUp s 6) s h6 h h0 rfl
  have h3 : 5 ^ plUp s 6 ≤ 5 ^ 24 := Nat.pow_le_pow_right (by omega) hp
  have h4 : (5 : Nat) ^ 24 = 59604644775390625 := by decide
  omega

/-- How many ordered pairs of layers have the same color. -/
def prUp (cs : List Int) : Nat → Nat
  | 0 => 0
  | c + 1 => prUp cs c + (cs.getD c 0).toNat * ((cs.getD c 0).toNat - 1)
theorem sq_add (p k : Nat) : p * (p - 1) + k * (k - 1) ≤ (p + k) * (p + k - 1) := by
  cases p with
  | zero => simp
  | succ p =>
    cases k with
    | zero => simp
    | succ k =>
      simp only [Nat.add_sub_cancel]
      have : p + 1 + (k + 1) - 1 = p + k + 1 := by omega
      rw [this]
      grind
theorem prUp_le (cs : List Int) : ∀ c, prUp cs c ≤ plUp cs c * (plUp cs c - 1)
  | 0 => by simp [prUp, plUp]
  | c + 1 => by
    have := prUp_le cs c
    have := sq_add (plUp cs c) (cs.getD c 0).toNat
    rw [prUp, plUp]; omega
def onePl (L : Nat) : Nat := max (L * (L - 1)) 1
theorem onePl_pos (L : Nat) : 0 < onePl L := by unfold onePl; omega
theorem onePl_of {L : Nat} (h : 2 ≤ L) : onePl L = L * (L - 1) := by
  unfold onePl
  have : 2 * 1 ≤ L * (L - 1) := Nat.mul_le_mul h (by omega)
  omega
theorem onePl_le {L : Nat} (h : L ≤ 24) : onePl L ≤ 552 := by
  unfold onePl
  have : L * (L - 1) ≤ 24 * 23 := Nat.mul_le_mul h (by omega)
  omega
theorem pr_le_one {cs : List Int} {L : Nat} (h : plUp cs 6 = L) : prUp cs 6 ≤ onePl L := by
  have := prUp_le cs 6
  rw [h] at this
  unfold onePl; omega
/-- Tubes that are not empty, and layers above others. -/
def tbUp (ms : List Int) : Nat → Nat
  | 0 => 0
  | i + 1 => tbUp ms i + (if 0 < ms.getD i 0 then 1 else 0)
def abUp (ms : List Int) : Nat → Nat
  | 0 => 0
  | i + 1 => abUp ms i + ((ms.getD i 0).toNat - 1)
theorem tb_ab {ms : List Int} (hm : ∀ i, i < 6 → 0 ≤ ms.getD i 0 ∧ ms.getD i 0 ≤ 4) : ∀ i, i ≤ 6 → tbUp ms i + abUp ms i = plUp ms i
  | 0, _ => rfl
  | i + 1, hi => by
    have := tb_ab hm i (by omega)
    have := hm i (by omega)
    rw [tbUp, abUp, plUp]
    split <;> omega
theorem tb_le (ms : List Int) : ∀ i, tbUp ms i ≤ i
  | 0 => by simp [tbUp]
  | i + 1 => by have := tb_le ms i; rw [tbUp]; split <;> omega
theorem ab_le {ms : List Int} (hm : ∀ i, i < 6 → 0 ≤ ms.getD i 0 ∧ ms.getD i 0 ≤ 4) : ∀ i, i ≤ 6 → abUp ms i ≤ 3 * i
  | 0, _ => by simp [abUp]
  | i + 1, hi => by
    have := ab_le hm i (by omega)
    have := hm i (by omega)
    rw [abUp]; omega

/-- In how many ways tubes can be filled with one color each. -/
def fiveSum (f : Nat → Nat) : Nat → Nat
  | 0 => 0
  | c + 1 => fiveSum f c + f (c + 1)
def sameL : List Int → List Int → Nat
  | [], _ => 1
  | m :: ms, s => if m = 0 then sameL ms s else fiveSum (fun c => if m ≤ s.getD c 0 then sameL ms (s.set c (s.getD c 0 - m)) else 0) 5
theorem fiveSum_le (f : Nat → Nat) (B : Nat) (h : ∀ c, f c ≤ B) : ∀ c, fiveSum f c ≤ c * B
  | 0 => by simp [fiveSum]
  | c + 1 => by
    have := fiveSum_le f B h c
    have := h (c + 1)
    rw [fiveSum, Nat.succ_mul]; omega
theorem sameL_le : ∀ (ms s : List Int), sameL ms s ≤ 5 ^ ms.length
  | [], _ => by simp [sameL]
  | m :: ms, s => by
    rw [sameL, List.length_cons, Nat.pow_succ]
    have h0 := sameL_le ms s
    have h1 := fiveSum_le (fun c => if m ≤ s.getD c 0 then sameL ms (s.set c (s.getD c 0 - m)) else 0) (5 ^ ms.length) (fun c => by
        split
        · exact sameL_le ms _
        · exact Nat.zero_le _) 5
    generalize 5 ^ ms.length = B at *
    split <;> omega

/-- The mean of runs: all that the two sides reckon. -/
def frL (a b : Nat) : List Int := [(cutN a b : Int), (cutD a b : Int)]
theorem cut_muled (x d : Nat) (hd : 0 < d) : cutN (x * d) d = x ∧ cutD (x * d) d = 1 := by
  have h := cut_eq (a := x * d) (b := d) (c := x) (d := 1) hd (by omega) (by omega)
  rw [h.1, h.2]
  unfold cutN cutD; simp
theorem runs_code (L A P D : Nat) (hD : 0 < D) (hP : P ≤ D) (hA : A ≤ L) :
    A * cutN P D ≤ L * cutD P D ∧ frL (L * cutD P D - A * cutN P D) (cutD P D) = frL (L * D - A * P) D := by
  have hc := cut_cross P D
  have hq := cutD_pos P D hD
  have hpq : cutN P D ≤ cutD P D := by
    apply Nat.le_of_mul_le_mul_right _ hD
    rw [hc, Nat.mul_comm (cutD P D) D]
    exact Nat.mul_le_mul_right _ hP
  have h := cut_eq (a := L * cutD P D - A * cutN P D) (b := cutD P D) (c := L * D - A * P) (d := D) hq hD (by
    rw [Nat.sub_mul, Nat.sub_mul]
    have e1 : A * cutN P D * D = A * P * cutD P D := by rw [Nat.mul_assoc, hc, Nat.mul_assoc]
    rw [e1]
    congr 1
    rw [Nat.mul_assoc, Nat.mul_assoc, Nat.mul_comm (cutD P D) D])
  refine ⟨Nat.mul_le_mul hA hpq, ?_⟩
  unfold frL; rw [h.1, h.2]
theorem runs_model (T A P D : Nat) (hD : 0 < D) (hP : P ≤ D) :
    frL (T * cutD (A * (D - P)) D + cutN (A * (D - P)) D * 1) (1 * cutD (A * (D - P)) D) = frL ((T + A) * D - A * P) D := by
  have hc := cut_cross (A * (D - P)) D
  have hq := cutD_pos (A * (D - P)) D hD
  have hs : A * (D - P) = A * D - A * P := Nat.mul_sub _ _ _
  have hle : A * P ≤ A * D := Nat.mul_le_mul_left _ hP
  have h := cut_eq (a := T * cutD (A * (D - P)) D + cutN (A * (D - P)) D * 1) (b := 1 * cutD (A * (D - P)) D) (c := (T + A) * D - A * P) (d := D) (by omega) hD (by
    rw [Nat.add_mul, Nat.mul_one, Nat.one_mul, hc]
    have e : (T + A) * D - A * P = T * D + A * (D - P) := by rw [Nat.add_mul, hs]; omega
    rw [e, Nat.add_mul]
    congr 1
    rw [Nat.mul_assoc, Nat.mul_assoc, Nat.mul_comm (cutD (A * (D - P)) D) D])
  unfold frL; rw [h.1, h.2]
theorem runs_flat (L D : Nat) (hD : 0 < D) : frL (L * D - 0 * 0) D = [(L : Int), 1] := by
  unfold frL
  have := cut_muled L D hD
  rw [Nat.zero_mul, Nat.sub_zero, this.1, this.2]; rfl
end Go.Proofs.Ytemiljokdedidac.base
end

section
namespace Go.Proofs.Ytemiljokdedidac.base
open Go.ChangeShapes Go.WideShapes Go.ChangeAt Go.RowKit
set_option linter.unusedVariables false
set_option linter.unusedSimpArgs false

set_option maxHeartbeats 400000 in
set_option maxRecDepth 100000 in
theorem addUp_any (ms cs : List Int) (w : World) (h1 : ms.length = 6) (h2 : cs.length = 6) (hm : ∀ i, i < 6 → 0 ≤ ms.getD i 0 ∧ ms.getD i 0 ≤ 4) :
    Calls Try.prog 109 #[row ms, row cs] w fun e w' => e = .returned (.bool (cntB ms cs)) ∧ Kept w w' := by
  have HB := Lib.hid (((kept_refl w).alloc (.cells (ints ms).toArray 22)).alloc (.cells (ints cs).toArray 22))
  have H1 := (Has.box w 22 h1 (by omega)).alloc (.cells (ints cs).toArray 22)
  have H := (Has.box (w.alloc (.cells (ints ms).toArray 22)) 22 h2 (by omega)).at (size1 _ _)
  have gi := index6v 22 Try.underlying22 ms h1
  have HG := Lib.hid gi
  have gj := index6v 22 Try.underlying22 cs h2
  have HJ := Lib.hid gj
  have HM := Lib.hid hm
  have HU := Lib.hid (fun i hi => many_in hm i hi)
  have HT := Lib.hid (fun c hc ho => cnO_in (cs := cs) hm c hc ho)
  have EC : Hid (cntB ms cs = (cnO ms cs 6 && decide (sumUp ms 6 - sumUp cs 6 = 0) && decide (cs.getD 0 0 = 0))) := Lib.hid rfl
  rw [row_ints, row_ints]
  clear gi gj hm
  go_enter Try.func109, Try.ntmps109
  go_upto_region 3 with (refine load_has rfl 22 _ rfl _ rfl ?_ 6 ?_ _ Try.underlying22 rfl ?_ ?_; rotate_left; (· (repeat (first | (with_reducible assumption) | ((with_reducible refine Has.box _ _ ?_ ?_) <;> (first | assumption | decide)) | (with_reducible refine Has.alloc ?_ _) | ((with_reducible refine Has.putOther ?_ _ _ ?_); rotate_left; omega; skip) | ((with_reducible refine Has.below ?_ ?_); rotate_left; assumption)))); (· kernel_rfl))
  generalize (w.alloc (.cells (ints ms).toArray 22)).alloc (.cells (ints cs).toArray 22) = W at *
  go_loopg [5, 11] 6 (fun gk m i wr => ∃ k : Nat, gk = 6 - k ∧ k ≤ 6 ∧ i = .int .i64 k ∧ m = .int .i64 (sumUp ms k) ∧ W = wr)
  case atStart => exact ⟨0, rfl, by omega, rfl, rfl, rfl⟩
  case round =>
    obtain ⟨k, rfl, hk, rfl, rfl, rfl⟩ := hrel
    by_cases hlt : k < 6
    · have hki : (k : Int) < 6 := by omega
      have g0 := HG.out k hlt
      have mk := HM.out k hlt
      have uk := HU.out k (by omega)
      have E : Hid (sumUp ms (k + 1) = sumUp ms k + ms.getD k 0) := Lib.hid rfl
      have m0 : 0 ≤ ms.getD k 0 := by omega
      have m4 : ms.getD k 0 ≤ 4 := by omega
      have u0 := uk.1
      have u4 : sumUp ms k ≤ 24 := by omega
      clear mk uk
      generalize ms.getD k 0 = m at *
      generalize sumUp ms k = u at *
      go_wp2_with fail
      go_roundg (6 - (k + 1))
      case rel => exact ⟨k + 1, rfl, by omega, by go_num, by rw [E.out], rfl⟩
      case measure => omega
    · obtain rfl : k = 6 := by omega
      go_upto_region 8 with (refine load_has rfl 22 _ rfl _ rfl ?_ 6 ?_ _ Try.underlying22 rfl ?_ ?_; rotate_left; (· (repeat (first | (with_reducible assumption) | ((with_reducible refine Has.box _ _ ?_ ?_) <;> (first | assumption | decide)) | (with_reducible refine Has.alloc ?_ _) | ((with_reducible refine Has.putOther ?_ _ _ ?_); rotate_left; omega; skip) | ((with_reducible refine Has.below ?_ ?_); rotate_left; assumption)))); (· kernel_rfl))
      go_loopg [5, 19] 6 (fun gk m i wr => ∃ c : Nat, gk = 6 - c ∧ c ≤ 6 ∧ i = .int .i64 c ∧ m = .int .i64 (sumUp ms 6 - sumUp cs c) ∧ Hid (cnO ms cs c = true) ∧ W = wr)
      case atStart => exact ⟨0, rfl, by omega, rfl, by simp [sumUp], Lib.hid rfl, rfl⟩
      case round =>
        obtain ⟨c, rfl, hc, rfl, rfl, CO, rfl⟩ := hrel
        have ub := HU.out 6 (by omega)
        have sb := (HT.out c hc CO.out).1
        by_cases hct : c < 6
        · have hci : (c : Int) < 6 := by omega
          have g1 := HJ.out c hct
          have E : Hid (sumUp cs (c + 1) = sumUp cs c + cs.getD c 0) := Lib.hid rfl
          have EO : Hid (cnO ms cs (c + 1) = (cnO ms cs c && decide (0 ≤ cs.getD c 0) && decide (cs.getD c 0 ≤ sumUp ms 6 - sumUp cs c))) := Lib.hid rfl
          have NO := Lib.hid (show cnO ms cs (c + 1) = false → cntB ms cs = false from fun hn => by
            rw [EC.out]
            have : cnO ms cs 6 = false := by
              have : ∀ d, c + 1 + d ≤ 6 → cnO ms cs (c + 1 + d) = false := by
                intro d
                induction d with
                | zero => intro _; exact hn
                | succ d ih => intro hd; show (cnO ms cs (c + 1 + d) && _ && _) = false; rw [ih (by omega)]; rfl
              have := this (5 - c) (by omega)
              rwa [show c + 1 + (5 - c) = 6 by omega] at this
            rw [this]; rfl)
          have u1 := ub.2
          have u0 := ub.1
          have s0 := sb.1
          have s1 := sb.2
          clear ub sb
          generalize cs.getD c 0 = x at *
          have y0 : -24 ≤ sumUp ms 6 - sumUp cs c := by omega
          have y1 : sumUp ms 6 - sumUp cs c ≤ 24 := by omega
          have E2 := Lib.hid (show sumUp ms 6 - sumUp cs (c + 1) = sumUp ms 6 - sumUp cs c - x by rw [E.out]; omega)
          clear u0 u1 s0 s1 E
          generalize sumUp ms 6 - sumUp cs c = y at *
          by_cases hx : x < 0
          · have N := Lib.hid (NO.out (by rw [EO.out, decide_eq_false (show ¬ 0 ≤ x by omega)]; simp))
            have x0 : decide (x < 0) = true := decide_eq_true hx
            clear hx NO EO
            go_wp2_with fail
            go_ret
            exact ⟨by rw [N.out]; rfl, HB.out⟩
          · have x0 : decide (x < 0) = false := decide_eq_false hx
            by_cases hy : y < x
            · have N := Lib.hid (NO.out (by rw [EO.out, decide_eq_false (show ¬ x ≤ y by omega)]; simp))
              have x1 : decide (y < x) = true := decide_eq_true hy
              clear hx hy NO EO
              go_wp2_with fail
              go_ret
              exact ⟨by rw [N.out]; rfl, HB.out⟩
            · have x1 : decide (y < x) = false := decide_eq_false hy
              have N := Lib.hid (show cnO ms cs (c + 1) = true by rw [EO.out, CO.out, decide_eq_true (show 0 ≤ x by omega), decide_eq_true (show x ≤ y by omega)]; rfl)
              have x2 : 0 ≤ x := by omega
              have x3 : x ≤ y := by omega
              clear hx hy NO EO CO
              go_wp2_with fail
              go_roundg (6 - (c + 1))
              case rel => exact ⟨c + 1, rfl, by omega, by go_num, by rw [E2.out], N, rfl⟩
              case measure => omega
        · obtain rfl : c = 6 := by omega
          have c0 := H.cell 0 (by omega)
          have EC2 := Lib.hid (show cntB ms cs = (decide (sumUp ms 6 - sumUp cs 6 = 0) && decide (cs.getD 0 0 = 0)) by rw [EC.out, CO.out, Bool.true_and])
          clear ub sb CO EC
          generalize sumUp ms 6 - sumUp cs 6 = y at *
          generalize cs.getD 0 0 = z at *
          by_cases hy : y = 0
          · subst hy
            go_wp2_with fail
            go_ret
            exact ⟨by rw [EC2.out]; rfl, HB.out⟩
          · have y0 : (y == 0) = false := by simpa using hy
            have E3 := Lib.hid (decide_eq_false hy)
            clear hy
            go_wp2_with fail
            go_ret
            exact ⟨by rw [EC2.out, E3.out]; rfl, HB.out⟩
end Go.Proofs.Ytemiljokdedidac.base
end
