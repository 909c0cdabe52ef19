/-
  Fractions in lowest terms, and how many orders are left: plain mathematics, nothing of the program.
-/
import Derived.Test.YtpbfdjiglacbbabMulM
namespace Go.Proofs.Ytpbfdjiglacbbab.base
set_option linter.unusedVariables false
set_option linter.unusedSimpArgs false

def cutN (a b : Nat) : Nat := a / Nat.gcd a b
def cutD (a b : Nat) : Nat := b / Nat.gcd a b
theorem cutN_mul (a b : Nat) : cutN a b * Nat.gcd a b = a := Nat.div_mul_cancel (Nat.gcd_dvd_left a b)
theorem cutD_mul (a b : Nat) : cutD a b * Nat.gcd a b = b := Nat.div_mul_cancel (Nat.gcd_dvd_right a b)
theorem cut_gcd_pos (a b : Nat) (hb : 0 < b) : 0 < Nat.gcd a b := Nat.gcd_pos_of_pos_right a hb
theorem cut_cross (a b : Nat) : cutN a b * b = a * cutD a b := by
  have h1 := cutN_mul a b
  have h2 := cutD_mul a b
  generalize cutN a b = x at *
  generalize cutD a b = y at *
  generalize Nat.gcd a b = g at *
  subst h1; subst h2
  grind
theorem cutD_pos (a b : Nat) (hb : 0 < b) : 0 < cutD a b := by
  have h := cutD_mul a b
  rcases Nat.eq_zero_or_pos (cutD a b) with h0 | h0
  · rw [h0, Nat.zero_mul] at h; omega
  · exact h0
theorem cutN_le (a b : Nat) : cutN a b ≤ a := Nat.div_le_self _ _
theorem cutD_le (a b : Nat) : cutD a b ≤ b := Nat.div_le_self _ _
theorem cutN_pos (a b : Nat) (hb : 0 < b) : 0 < cutN a b ↔ 0 < a := by
  have h := cutN_mul a b
  have g := cut_gcd_pos a b hb
  constructor
  · intro hx; rw [← h]; exact Nat.mul_pos hx g
  · intro ha
    rcases Nat.eq_zero_or_pos (cutN a b) with h0 | h0
    · rw [h0, Nat.zero_mul] at h; omega
    · exact h0
theorem cut_eq {a b c d : Nat} (hb : 0 < b) (hd : 0 < d) (h : a * d = c * b) : cutN a b = cutN c d ∧ cutD a b = cutD c d := by
  have g1 : Nat.gcd (a * d) (b * d) = Nat.gcd a b * d := Nat.gcd_mul_right a d b
  have g2 : Nat.gcd (c * b) (d * b) = Nat.gcd c d * b := Nat.gcd_mul_right c b d
  rw [h, Nat.mul_comm b d, g2] at g1
  have pg := cut_gcd_pos a b hb
  have ph := cut_gcd_pos c d hd
  have a1 := cutN_mul a b
  have b1 := cutD_mul a b
  have c1 := cutN_mul c d
  have d1 := cutD_mul c d
  have hq := cutD_pos a b hb
  generalize cutN a b = a' at *
  generalize cutD a b = b' at *
  generalize cutN c d = c' at *
  generalize cutD c d = d' at *
  generalize Nat.gcd a b = g at *
  generalize Nat.gcd c d = k at *
  have e : b' = d' := by
    have : (k * g) * b' = (k * g) * d' := by
      rw [← b1, ← d1] at g1
      grind
    exact Nat.eq_of_mul_eq_mul_left (Nat.mul_pos ph pg) this
  refine ⟨?_, e⟩
  subst e
  have : (k * g * b') * a' = (k * g * b') * c' := by
    rw [← a1, ← b1, ← c1, ← d1] at h
    grind
  exact Nat.eq_of_mul_eq_mul_left (Nat.mul_pos (Nat.mul_pos ph pg) hq) this
theorem cut_mul (a b x y : Nat) (hb : 0 < b) (hy : 0 < y) : cutN (cutN a b * x) (cutD a b * y) = cutN (a * x) (b * y) ∧ cutD (cutN a b * x) (cutD a b * y) = cutD (a * x) (b * y) := by
  refine cut_eq (Nat.mul_pos (cutD_pos a b hb) hy) (Nat.mul_pos hb hy) ?_
  have h := cut_cross a b
  generalize cutN a b = p at *
  generalize cutD a b = q at *
  have e : p * x * (b * y) = p * b * (x * y) := by grind
  rw [e, h]; grind
/-- The sum of two fractions over one denominator. -/
theorem cut_add (a b d : Nat) (hd : 0 < d) : cutN (cutN a d * cutD b d + cutN b d * cutD a d) (cutD a d * cutD b d) = cutN (a + b) d ∧ cutD (cutN a d * cutD b d + cutN b d * cutD a d) (cutD a d * cutD b d) = cutD (a + b) d := by
  refine cut_eq (Nat.mul_pos (cutD_pos a d hd) (cutD_pos b d hd)) hd ?_
  have h1 := cut_cross a d
  have h2 := cut_cross b d
  generalize cutN a d = p at *
  generalize cutD a d = q at *
  generalize cutN b d = r at *
  generalize cutD b d = t at *
  have e : (p * t + r * q) * d = p * d * t + r * d * q := by grind
  rw [e, h1, h2]; grind
theorem cut_one (b : Nat) : cutN 1 b = 1 ∧ cutD 1 b = b := by
  unfold cutN cutD; rw [Nat.gcd_one_left]; simp
theorem cut_zero (b : Nat) (hb : 0 < b) : cutN 0 b = 0 ∧ cutD 0 b = 1 := by
  unfold cutN cutD; rw [Nat.gcd_zero_left]; exact ⟨by simp, Nat.div_self hb⟩
theorem cut_self (b : Nat) (hb : 0 < b) : cutN b b = 1 ∧ cutD b b = 1 := by
  unfold cutN cutD; rw [Nat.gcd_self]; exact ⟨Nat.div_self hb, Nat.div_self hb⟩

/-- How many orders there are with k layers of a color less. -/
def leftN (s : List Int) (c k : Nat) : Nat := ordA (s.set c (s.getD c 0 - (k : Int)))
theorem plUp_setN (s : List Int) (c : Nat) (x : Int) (h6 : s.length = 6) (hc : c < 6) : plUp (s.set c x) 6 + (s.getD c 0).toNat = plUp s 6 + x.toNat := by
  have e := fun j => set_getD s c j x (by omega)
  simp only [plUp, e]
  match c, hc with
  | 0, _ => simp; omega
  | 1, _ => simp; omega
  | 2, _ => simp; omega
  | 3, _ => simp; omega
  | 4, _ => simp; omega
  | 5, _ => simp; omega
theorem getD_le_plUp (s : List Int) (c : Nat) (hc : c < 6) : (s.getD c 0).toNat ≤ plUp s 6 := by
  simp only [plUp]
  match c, hc with
  | 0, _ => omega
  | 1, _ => omega
  | 2, _ => omega
  | 3, _ => omega
  | 4, _ => omega
  | 5, _ => omega
theorem left_zero (s : List Int) (c : Nat) (h6 : s.length = 6) (hc : c < 6) : leftN s c 0 = ordA s := by
  have e : s.set c (s.getD c 0 - ((0 : Nat) : Int)) = s := by
    apply List.ext_getElem?
    intro j
    rw [List.getElem?_set]
    split
    · rename_i h; subst h
      rw [if_pos (by omega), List.getD_eq_getElem?_getD, List.getElem?_eq_getElem (by omega)]; simp
    · rfl
  unfold leftN; rw [e]
theorem left_step (s : List Int) (c k : Nat) (h6 : s.length = 6) (hc : c < 6) (h : ∀ j, j < 6 → 0 ≤ s.getD j 0) : leftN s c (k + 1) * (plUp s 6 - k) = leftN s c k * ((s.getD c 0).toNat - k) := by
  have g0 := h c hc
  have gl := getD_le_plUp s c hc
  unfold leftN
  by_cases e : (k : Int) ≤ s.getD c 0
  · obtain ⟨m, hm⟩ : ∃ m : Nat, s.getD c 0 - (k : Int) = (m : Int) := ⟨(s.getD c 0 - (k : Int)).toNat, by omega⟩
    have hn := set_nat (k := m) h6 hc h
    have r := ordA_ratio (s.set c (m : Int)) c (by rw [List.length_set]; exact h6) hc hn
    have p := plUp_setN s c (m : Int) h6 hc
    rw [set_getD s c c _ (by omega), if_pos rfl, List.set_set] at r
    rw [hm, show s.getD c 0 - ((k + 1 : Nat) : Int) = (m : Int) - 1 by omega]
    rw [show plUp s 6 - k = plUp (s.set c (m : Int)) 6 by omega, r]
    congr 1
    omega
  · rw [ordA_not (j := c) hc (by rw [set_getD s c c _ (by omega), if_pos rfl]; omega), ordA_not (j := c) (s := s.set c (s.getD c 0 - (k : Int))) hc (by rw [set_getD s c c _ (by omega), if_pos rfl]; omega)]
    simp
theorem left_mono (s : List Int) (c k : Nat) (h6 : s.length = 6) (hc : c < 6) (h : ∀ j, j < 6 → 0 ≤ s.getD j 0) (hk : k < plUp s 6) : leftN s c (k + 1) ≤ leftN s c k := by
  have r := left_step s c k h6 hc h
  have gl := getD_le_plUp s c hc
  have hp : 0 < plUp s 6 - k := by omega
  apply Nat.le_of_mul_le_mul_right _ hp
  rw [r]
  exact Nat.mul_le_mul_left _ (by omega)
/-- The chance that k further layers have the color, multiplied up. -/
theorem left_chain (s : List Int) (c k : Nat) (h6 : s.length = 6) (hc : c < 6) (h : ∀ j, j < 6 → 0 ≤ s.getD j 0) (hk : k < plUp s 6) :
    cutN (cutN (leftN s c k) (ordA s) * ((s.getD c 0).toNat - k)) (cutD (leftN s c k) (ordA s) * (plUp s 6 - k)) = cutN (leftN s c (k + 1)) (ordA s)
    ∧ cutD (cutN (leftN s c k) (ordA s) * ((s.getD c 0).toNat - k)) (cutD (leftN s c k) (ordA s) * (plUp s 6 - k)) = cutD (leftN s c (k + 1)) (ordA s) := by
  have hp := ordA_pos h
  have hy : 0 < plUp s 6 - k := by omega
  obtain ⟨e1, e2⟩ := cut_mul (leftN s c k) (ordA s) ((s.getD c 0).toNat - k) (plUp s 6 - k) hp hy
  rw [e1, e2]
  refine cut_eq (Nat.mul_pos hp hy) hp ?_
  rw [← left_step s c k h6 hc h]
  grind
/-- .. and then another color. -/
theorem left_stop (s : List Int) (c k : Nat) (h6 : s.length = 6) (hc : c < 6) (h : ∀ j, j < 6 → 0 ≤ s.getD j 0) (hk : k < plUp s 6) :
    cutN (cutN (leftN s c k) (ordA s) * (plUp s 6 - k - ((s.getD c 0).toNat - k))) (cutD (leftN s c k) (ordA s) * (plUp s 6 - k)) = cutN (leftN s c k - leftN s c (k + 1)) (ordA s)
    ∧ cutD (cutN (leftN s c k) (ordA s) * (plUp s 6 - k - ((s.getD c 0).toNat - k))) (cutD (leftN s c k) (ordA s) * (plUp s 6 - k)) = cutD (leftN s c k - leftN s c (k + 1)) (ordA s) := by
  have hp := ordA_pos h
  have hy : 0 < plUp s 6 - k := by omega
  obtain ⟨e1, e2⟩ := cut_mul (leftN s c k) (ordA s) (plUp s 6 - k - ((s.getD c 0).toNat - k)) (plUp s 6 - k) hp hy
  rw [e1, e2]
  refine cut_eq (Nat.mul_pos hp hy) hp ?_
  have r := left_step s c k h6 hc h
  have e : (leftN s c k - leftN s c (k + 1)) * (plUp s 6 - k) = leftN s c k * (plUp s 6 - k - ((s.getD c 0).toNat - k)) := by
    rw [Nat.sub_mul, r, Nat.mul_sub (leftN s c k) (plUp s 6 - k)]
  rw [← e]; grind
/-- A common divisor, found by dividing on. -/
theorem gcd_round (x y : Nat) (hy : y ≠ 0) : Nat.gcd y (x % y) = Nat.gcd x y := by
  rw [Nat.gcd_comm x y, Nat.gcd_rec y x, Nat.gcd_comm]
end Go.Proofs.Ytpbfdjiglacbbab.base
