/-
  In how many orders the layers of a stock can be put: plain mathematics, nothing of the program.
-/
/-
  Fractions in lowest terms, and how many orders are left: plain mathematics, nothing of the program.
-/
import Derived.Test.YtnldnjnnjfbhnabRackCopyZ

section
namespace Go.Proofs.Ytnldnjnnjfbhnab.base
set_option linter.unusedVariables false
set_option linter.unusedSimpArgs false

def fact : Nat → Nat
  | 0 => 1
  | n + 1 => (n + 1) * fact n
theorem fact_pos : ∀ n, 0 < fact n
  | 0 => by decide
  | n + 1 => by unfold fact; exact Nat.mul_pos (by omega) (fact_pos n)
/-- The number of ways to mix a layers with b others. -/
def bin : Nat → Nat → Nat
  | 0, _ => 1
  | _ + 1, 0 => 1
  | a + 1, b + 1 => bin a (b + 1) + bin (a + 1) b
theorem bin_zero (a : Nat) : bin a 0 = 1 := by cases a <;> simp [bin]
theorem zero_bin (b : Nat) : bin 0 b = 1 := by simp [bin]
theorem bin_fact (a b : Nat) : bin a b * (fact a * fact b) = fact (a + b) := by
  induction a generalizing b with
  | zero => rw [zero_bin]; simp [fact]
  | succ a ih =>
    induction b with
    | zero => rw [bin_zero]; simp [fact]
    | succ b jh =>
      have h1 := ih (b + 1)
      have e1 : fact (a + 1 + (b + 1)) = (a + 1 + b + 1) * fact (a + 1 + b) := rfl
      have e2 : fact (a + 1) = (a + 1) * fact a := rfl
      have e3 : fact (b + 1) = (b + 1) * fact b := rfl
      have e4 : a + (b + 1) = a + 1 + b := by omega
      rw [e4] at h1
      rw [bin, e1]
      rw [e2] at jh ⊢
      rw [e3] at h1 ⊢
      generalize fact (a + 1 + b) = F at *
      generalize bin a (b + 1) = x at *
      generalize bin (a + 1) b = y at *
      generalize fact a = p at *
      generalize fact b = q at *
      have t1 : (x + y) * ((a + 1) * p * ((b + 1) * q)) = (a + 1) * (x * (p * ((b + 1) * q))) + (b + 1) * (y * ((a + 1) * p * q)) := by grind
      rw [t1, h1, jh]
      grind
theorem bin_pos (a b : Nat) : 0 < bin a b := by
  have h := bin_fact a b
  have := fact_pos (a + b)
  rcases Nat.eq_zero_or_pos (bin a b) with h0 | h0
  · rw [h0, Nat.zero_mul] at h; omega
  · exact h0
theorem bin_step (a b : Nat) : bin a b * (a + b + 1) = bin a (b + 1) * (b + 1) := by
  have h1 := bin_fact a b
  have h2 := bin_fact a (b + 1)
  have e1 : fact (a + (b + 1)) = (a + b + 1) * fact (a + b) := rfl
  have e3 : fact (b + 1) = (b + 1) * fact b := rfl
  have pa := fact_pos a
  have pb := fact_pos b
  rw [e1, e3, ← h1] at h2
  have hp : 0 < fact a * fact b := Nat.mul_pos pa pb
  apply Nat.eq_of_mul_eq_mul_right hp
  generalize fact a = p at *
  generalize fact b = q at *
  grind
theorem bin_div (a b : Nat) : bin a b * (a + b + 1) / (b + 1) = bin a (b + 1) := by
  rw [bin_step, Nat.mul_div_cancel _ (by omega)]
theorem bin_mono (a b : Nat) : bin a b ≤ bin a (b + 1) := by
  cases a with
  | zero => rw [zero_bin, zero_bin]; exact Nat.le_refl _
  | succ a => rw [bin.eq_3]; omega
theorem bin_le (a : Nat) {b c : Nat} (h : b ≤ c) : bin a b ≤ bin a c := by
  induction c with
  | zero => obtain rfl : b = 0 := by omega
            exact Nat.le_refl _
  | succ c ih =>
    by_cases e : b = c + 1
    · subst e; exact Nat.le_refl _
    · exact Nat.le_trans (ih (by omega)) (bin_mono a c)

/-- How many layers the first c colors of a stock have. -/
def plUp (s : List Int) : Nat → Nat
  | 0 => 0
  | c + 1 => plUp s c + (s.getD c 0).toNat
/-- In how many orders they can be put. -/
def mulUp (s : List Int) : Nat → Nat
  | 0 => 1
  | c + 1 => mulUp s c * bin (plUp s c) (s.getD c 0).toNat
def facUp (s : List Int) : Nat → Nat
  | 0 => 1
  | c + 1 => facUp s c * fact (s.getD c 0).toNat
theorem mulUp_fact (s : List Int) : ∀ c, mulUp s c * facUp s c = fact (plUp s c)
  | 0 => by simp [mulUp, facUp, plUp, fact]
  | c + 1 => by
    have h := mulUp_fact s c
    have hb := bin_fact (plUp s c) (s.getD c 0).toNat
    rw [mulUp, facUp, plUp, ← hb, ← h]
    grind
theorem mulUp_pos (s : List Int) : ∀ c, 0 < mulUp s c
  | 0 => by simp [mulUp]
  | c + 1 => by rw [mulUp]; exact Nat.mul_pos (mulUp_pos s c) (bin_pos _ _)
theorem facUp_pos (s : List Int) : ∀ c, 0 < facUp s c
  | 0 => by simp [facUp]
  | c + 1 => by rw [facUp]; exact Nat.mul_pos (facUp_pos s c) (fact_pos _)
theorem mulUp_mono (s : List Int) (c : Nat) : mulUp s c ≤ mulUp s (c + 1) := by
  rw [mulUp]; exact Nat.le_mul_of_pos_right _ (bin_pos _ _)
theorem mulUp_le (s : List Int) {a b : Nat} (h : a ≤ b) : mulUp s a ≤ mulUp s b := by
  induction b with
  | zero => obtain rfl : a = 0 := by omega
            exact Nat.le_refl _
  | succ b ih =>
    by_cases e : a = b + 1
    · subst e; exact Nat.le_refl _
    · exact Nat.le_trans (ih (by omega)) (mulUp_mono s b)
theorem set_getD (s : List Int) (c j : Nat) (x : Int) (hc : c < s.length) : (s.set c x).getD j 0 = if j = c then x else s.getD j 0 := by
  rw [List.getD_eq_getElem?_getD, List.getElem?_set, List.getD_eq_getElem?_getD]
  by_cases h : c = j
  · subst h; simp [hc]
  · rw [if_neg h, if_neg (fun e => h e.symm)]
/-- A layer less in a stock. -/
theorem plUp_set (s : List Int) (c k : Nat) (h6 : s.length = 6) (hc : c < 6) (hk : s.getD c 0 = (k : Int) + 1) : plUp s 6 = plUp (s.set c (k : Int)) 6 + 1 := by
  have e := fun j => set_getD s c j (k : Int) (by omega)
  simp only [plUp, e]
  match c, hc with
  | 0, _ => simp only [hk]; simp; omega
  | 1, _ => simp only [hk]; simp; omega
  | 2, _ => simp only [hk]; simp; omega
  | 3, _ => simp only [hk]; simp; omega
  | 4, _ => simp only [hk]; simp; omega
  | 5, _ => simp only [hk]; simp; omega
theorem facUp_set (s : List Int) (c k : Nat) (h6 : s.length = 6) (hc : c < 6) (hk : s.getD c 0 = (k : Int) + 1) : facUp s 6 = facUp (s.set c (k : Int)) 6 * (k + 1) := by
  have e := fun j => set_getD s c j (k : Int) (by omega)
  have hf : fact (((k : Int) + 1).toNat) = (k + 1) * fact k := by rw [show ((k : Int) + 1).toNat = k + 1 by omega]; rfl
  have hg : fact ((k : Int).toNat) = fact k := by simp
  simp only [facUp, e]
  match c, hc with
  | 0, _ => rw [hk, hf]; simp only [if_pos, if_true, hg]; simp; grind
  | 1, _ => rw [hk, hf]; simp only [if_pos, if_true, hg]; simp; grind
  | 2, _ => rw [hk, hf]; simp only [if_pos, if_true, hg]; simp; grind
  | 3, _ => rw [hk, hf]; simp only [if_pos, if_true, hg]; simp; grind
  | 4, _ => rw [hk, hf]; simp only [if_pos, if_true, hg]; simp; grind
  | 5, _ => rw [hk, hf]; simp only [if_pos, if_true, hg]; simp; grind
theorem ord_ratio (s : List Int) (c k : Nat) (h6 : s.length = 6) (hc : c < 6) (hk : s.getD c 0 = (k : Int) + 1) : mulUp (s.set c (k : Int)) 6 * plUp s 6 = mulUp s 6 * (k + 1) := by
  have h1 := mulUp_fact s 6
  have h2 := mulUp_fact (s.set c (k : Int)) 6
  have e1 := plUp_set s c k h6 hc hk
  have e2 := facUp_set s c k h6 hc hk
  have e3 : fact (plUp (s.set c (k : Int)) 6 + 1) = (plUp (s.set c (k : Int)) 6 + 1) * fact (plUp (s.set c (k : Int)) 6) := rfl
  rw [e1, e2, e3, ← h2] at h1
  rw [e1]
  have hp := facUp_pos (s.set c (k : Int)) 6
  apply Nat.eq_of_mul_eq_mul_right hp
  generalize facUp (s.set c (k : Int)) 6 = F at *
  generalize mulUp (s.set c (k : Int)) 6 = x at *
  generalize mulUp s 6 = y at *
  generalize plUp (s.set c (k : Int)) 6 = n at *
  grind
/-- No layers are owed. -/
def noDebt (s : List Int) (c : Nat) : Bool := (List.range c).all fun j => decide (0 ≤ s.getD j 0)
theorem noDebt_iff (s : List Int) (c : Nat) : noDebt s c = true ↔ ∀ j, j < c → 0 ≤ s.getD j 0 := by
  unfold noDebt; rw [List.all_eq_true]
  constructor
  · intro h j hj; have := h j (by simp; exact hj); simpa using this
  · intro h j hj; have := h j (by simpa using hj); simpa using this
/-- The number of orders, 0 if some are owed. -/
def ordA (s : List Int) : Nat := if noDebt s 6 = true then mulUp s 6 else 0
theorem ordA_of {s : List Int} (h : ∀ j, j < 6 → 0 ≤ s.getD j 0) : ordA s = mulUp s 6 := by unfold ordA; rw [if_pos ((noDebt_iff s 6).2 h)]
theorem ordA_pos {s : List Int} (h : ∀ j, j < 6 → 0 ≤ s.getD j 0) : 0 < ordA s := by rw [ordA_of h]; exact mulUp_pos s 6
theorem ordA_not {s : List Int} {j : Nat} (hj : j < 6) (h : s.getD j 0 < 0) : ordA s = 0 := by
  unfold ordA
  rw [if_neg]
  intro hn
  have := (noDebt_iff s 6).1 hn j hj
  omega
theorem set_nat {s : List Int} {c k : Nat} (h6 : s.length = 6) (hc : c < 6) (h : ∀ j, j < 6 → 0 ≤ s.getD j 0) : ∀ j, j < 6 → 0 ≤ (s.set c (k : Int)).getD j 0 := fun j hj => by
  rw [set_getD s c j _ (by omega)]
  split
  · omega
  · exact h j hj
/-- With one layer of a color less: so many orders begin with it. -/
theorem ordA_ratio (s : List Int) (c : Nat) (h6 : s.length = 6) (hc : c < 6) (h : ∀ j, j < 6 → 0 ≤ s.getD j 0) : ordA (s.set c (s.getD c 0 - 1)) * plUp s 6 = ordA s * (s.getD c 0).toNat := by
  have h0 := h c hc
  by_cases e : s.getD c 0 = 0
  · rw [e, ordA_not (j := c) hc (by rw [set_getD s c c _ (by omega)]; simp)]; simp
  · obtain ⟨k, hk⟩ : ∃ k : Nat, s.getD c 0 = (k : Int) + 1 := ⟨(s.getD c 0 - 1).toNat, by omega⟩
    rw [hk, show (k : Int) + 1 - 1 = (k : Int) by omega, ordA_of (set_nat h6 hc h), ordA_of h, ord_ratio s c k h6 hc hk]
    congr 1
def bef (s : List Int) : Nat → Nat
  | 0 => 0
  | c + 1 => bef s c + (if c = 0 then 0 else ordA (s.set c (s.getD c 0 - 1)))
theorem bef_all (s : List Int) (h6 : s.length = 6) (h : ∀ j, j < 6 → 0 ≤ s.getD j 0) (h0 : s.getD 0 0 = 0) (hn : 0 < plUp s 6) : bef s 6 = ordA s := by
  apply Nat.eq_of_mul_eq_mul_right hn
  have r := fun c hc => ordA_ratio s c h6 hc h
  have r1 := r 1 (by omega)
  have r2 := r 2 (by omega)
  have r3 := r 3 (by omega)
  have r4 := r 4 (by omega)
  have r5 := r 5 (by omega)
  have e : plUp s 6 = (s.getD 1 0).toNat + (s.getD 2 0).toNat + (s.getD 3 0).toNat + (s.getD 4 0).toNat + (s.getD 5 0).toNat := by
    simp only [plUp, h0]; simp
  simp only [bef]
  simp
  rw [Nat.add_mul, Nat.add_mul, Nat.add_mul, Nat.add_mul]
  simp only [List.getD_eq_getElem?_getD] at r1 r2 r3 r4 r5 e
  rw [r1, r2, r3, r4, r5, e]
  grind
theorem ordA_le (n : Nat) : ∀ s : List Int, s.length = 6 → (∀ j, j < 6 → 0 ≤ s.getD j 0) → plUp s 6 = n → ordA s ≤ 6 ^ n := by
  induction n with
  | zero =>
    intro s h6 h hn
    have hz : ∀ j, j < 6 → (s.getD j 0).toNat = 0 := by
      simp only [plUp] at hn
      intro j hj
      match j, hj with
      | 0, _ => omega
      | 1, _ => omega
      | 2, _ => omega
      | 3, _ => omega
      | 4, _ => omega
      | 5, _ => omega
    rw [ordA_of h]
    simp only [mulUp, hz 0 (by omega), hz 1 (by omega), hz 2 (by omega), hz 3 (by omega), hz 4 (by omega), hz 5 (by omega), bin_zero]
    decide
  | succ n ih =>
    intro s h6 h hn
    obtain ⟨c, hc, hb⟩ : ∃ c, c < 6 ∧ n + 1 ≤ 6 * (s.getD c 0).toNat := by
      refine Decidable.byContradiction fun hno => ?_
      have hx : ∀ c, c < 6 → 6 * (s.getD c 0).toNat < n + 1 := fun c hc => Decidable.byContradiction fun h2 => hno ⟨c, hc, by omega⟩
      have x0 := hx 0 (by omega); have x1 := hx 1 (by omega); have x2 := hx 2 (by omega)
      have x3 := hx 3 (by omega); have x4 := hx 4 (by omega); have x5 := hx 5 (by omega)
      simp only [plUp] at hn
      omega
    have h0 := h c hc
    obtain ⟨k, hk⟩ : ∃ k : Nat, s.getD c 0 = (k : Int) + 1 := ⟨(s.getD c 0 - 1).toNat, by omega⟩
    have e1 := plUp_set s c k h6 hc hk
    have r := ord_ratio s c k h6 hc hk
    have i := ih (s.set c (k : Int)) (by rw [List.length_set]; exact h6) (set_nat h6 hc h) (by omega)
    rw [ordA_of (set_nat h6 hc h)] at i
    rw [ordA_of h]
    rw [hn] at r
    have hb2 : n + 1 ≤ 6 * (k + 1) := by rw [hk] at hb; omega
    have hp : 0 < k + 1 := by omega
    apply Nat.le_of_mul_le_mul_right _ hp
    rw [← r, Nat.pow_succ]
    generalize mulUp (s.set c (k : Int)) 6 = x at *
    generalize 6 ^ n = y at *
    calc x * (n + 1) ≤ y * (n + 1) := Nat.mul_le_mul_right _ i
      _ ≤ y * (6 * (k + 1)) := Nat.mul_le_mul_left _ hb2
      _ = y * 6 * (k + 1) := by rw [Nat.mul_assoc]
end Go.Proofs.Ytnldnjnnjfbhnab.base
end

section
namespace Go.Proofs.Ytnldnjnnjfbhnab.base
set_option linter.unusedVariables false
set_option linter.unusedSimpArgs false

def cutN (a b : Nat) : Nat := a / Nat.gcd a b
def cutD (a b : Nat) : Nat := b / Nat.gcd a b
theorem cutN_mul (a b : Nat) : cutN a b * Nat.gcd a b = a := Nat.div_mul_cancel (Nat.gcd_dvd_left a b)
theorem cutD_mul (a b : Nat) : cutD a b * Nat.gcd a b = b := Nat.div_mul_cancel (Nat.gcd_dvd_right a b)
theorem cut_gcd_pos (a b : Nat) (hb : 0 < b) : 0 < Nat.gcd a b := Nat.gcd_pos_of_pos_right a hb
theorem cut_cross (a b : Nat) : cutN a b * b = a * cutD a b := by
  have h1 := cutN_mul a b
  have h2 := cutD_mul a b
  generalize cutN a b = x at *
  generalize cutD a b = y at *
  generalize Nat.gcd a b = g at *
  subst h1; subst h2
  grind
theorem cutD_pos (a b : Nat) (hb : 0 < b) : 0 < cutD a b := by
  have h := cutD_mul a b
  rcases Nat.eq_zero_or_pos (cutD a b) with h0 | h0
  · rw [h0, Nat.zero_mul] at h; omega
  · exact h0
theorem cutN_le (a b : Nat) : cutN a b ≤ a := Nat.div_le_self _ _
theorem cutD_le (a b : Nat) : cutD a b ≤ b := Nat.div_le_self _ _
theorem cutN_pos (a b : Nat) (hb : 0 < b) : 0 < cutN a b ↔ 0 < a := by
  have h := cutN_mul a b
  have g := cut_gcd_pos a b hb
  constructor
  · intro hx; rw [← h]; exact Nat.mul_pos hx g
  · intro ha
    rcases Nat.eq_zero_or_pos (cutN a b) with h0 | h0
    · rw [h0, Nat.zero_mul] at h; omega
    · exact h0
theorem cut_eq {a b c d : Nat} (hb : 0 < b) (hd : 0 < d) (h : a * d = c * b) : cutN a b = cutN c d ∧ cutD a b = cutD c d := by
  have g1 : Nat.gcd (a * d) (b * d) = Nat.gcd a b * d := Nat.gcd_mul_right a d b
  have g2 : Nat.gcd (c * b) (d * b) = Nat.gcd c d * b := Nat.gcd_mul_right c b d
  rw [h, Nat.mul_comm b d, g2] at g1
  have pg := cut_gcd_pos a b hb
  have ph := cut_gcd_pos c d hd
  have a1 := cutN_mul a b
  have b1 := cutD_mul a b
  have c1 := cutN_mul c d
  have d1 := cutD_mul c d
  have hq := cutD_pos a b hb
  generalize cutN a b = a' at *
  generalize cutD a b = b' at *
  generalize cutN c d = c' at *
  generalize cutD c d = d' at *
  generalize Nat.gcd a b = g at *
  generalize Nat.gcd c d = k at *
  have e : b' = d' := by
    have : (k * g) * b' = (k * g) * d' := by
      rw [← b1, ← d1] at g1
      grind
    exact Nat.eq_of_mul_eq_mul_left (Nat.mul_pos ph pg) this
  refine ⟨?_, e⟩
  subst e
  have : (k * g * b') * a' = (k * g * b') * c' := by
    rw [← a1, ← b1, ← c1, ← d1] at h
    grind
  exact Nat.eq_of_mul_eq_mul_left (Nat.mul_pos (Nat.mul_pos ph pg) hq) this
theorem cut_mul (a b x y : Nat) (hb : 0 < b) (hy : 0 < y) : cutN (cutN a b * x) (cutD a b * y) = cutN (a * x) (b * y) ∧ cutD (cutN a b * x) (cutD a b * y) = cutD (a * x) (b * y) := by
  refine cut_eq (Nat.mul_pos (cutD_pos a b hb) hy) (Nat.mul_pos hb hy) ?_
  have h := cut_cross a b
  generalize cutN a b = p at *
  generalize cutD a b = q at *
  have e : p * x * (b * y) = p * b * (x * y) := by grind
  rw [e, h]; grind
/-- The sum of two fractions over one denominator. -/
theorem cut_add (a b d : Nat) (hd : 0 < d) : cutN (cutN a d * cutD b d + cutN b d * cutD a d) (cutD a d * cutD b d) = cutN (a + b) d ∧ cutD (cutN a d * cutD b d + cutN b d * cutD a d) (cutD a d * cutD b d) = cutD (a + b) d := by
  refine cut_eq (Nat.mul_pos (cutD_pos a d hd) (cutD_pos b d hd)) hd ?_
  have h1 := cut_cross a d
  have h2 := cut_cross b d
  generalize cutN a d = p at *
  generalize cutD a d = q at *
  generalize cutN b d = r at *
  generalize cutD b d = t at *
  have e : (p * t + r * q) * d = p * d * t + r * d * q := by grind
  rw [e, h1, h2]; grind
theorem cut_one (b : Nat) : cutN 1 b = 1 ∧ cutD 1 b = b := by
  unfold cutN cutD; rw [Nat.gcd_one_left]; simp
theorem cut_zero (b : Nat) (hb : 0 < b) : cutN 0 b = 0 ∧ cutD 0 b = 1 := by
  unfold cutN cutD; rw [Nat.gcd_zero_left]; exact ⟨by simp, Nat.div_self hb⟩
theorem cut_self (b : Nat) (hb : 0 < b) : cutN b b = 1 ∧ cutD b b = 1 := by
  unfold cutN cutD; rw [Nat.gcd_self]; exact ⟨Nat.div_self hb, Nat.div_self hb⟩

/-- How many orders there are with k layers of a color less. -/
def leftN (s : List Int) (c k : Nat) : Nat := ordA (s.set c (s.getD c 0 - (k : Int)))
theorem plUp_setN (s : List Int) (c : Nat) (x : Int) (h6 : s.length = 6) (hc : c < 6) : plUp (s.set c x) 6 + (s.getD c 0).toNat = plUp s 6 + x.toNat := by
  have e := fun j => set_getD s c j x (by omega)
  simp only [plUp, e]
  match c, hc with
  | 0, _ => simp; omega
  | 1, _ => simp; omega
  | 2, _ => simp; omega
  | 3, _ => simp; omega
  | 4, _ => simp; omega
  | 5, _ => simp; omega
theorem getD_le_plUp (s : List Int) (c : Nat) (hc : c < 6) : (s.getD c 0).toNat ≤ plUp s 6 := by
  simp only [plUp]
  match c, hc with
  | 0, _ => omega
  | 1, _ => omega
  | 2, _ => omega
  | 3, _ => omega
  | 4, _ => omega
  | 5, _ => omega
theorem left_zero (s : List Int) (c : Nat) (h6 : s.length = 6) (hc : c < 6) : leftN s c 0 = ordA s := by
  have e : s.set c (s.getD c 0 - ((0 : Nat) : Int)) = s := by
    apply List.ext_getElem?
    intro j
    rw [List.getElem?_set]
    split
    · rename_i h; subst h
      rw [if_pos (by omega), List.getD_eq_getElem?_getD, List.getElem?_eq_getElem (by omega)]; simp
    · rfl
  unfold leftN; rw [e]
theorem left_step (s : List Int) (c k : Nat) (h6 : s.length = 6) (hc : c < 6) (h : ∀ j, j < 6 → 0 ≤ s.getD j 0) : leftN s c (k + 1) * (plUp s 6 - k) = leftN s c k * ((s.getD c 0).toNat - k) := by
  have g0 := h c hc
  have gl := getD_le_plUp s c hc
  unfold leftN
  by_cases e : (k : Int) ≤ s.getD c 0
  · obtain ⟨m, hm⟩ : ∃ m : Nat, s.getD c 0 - (k : Int) = (m : Int) := ⟨(s.getD c 0 - (k : Int)).toNat, by omega⟩
    have hn := set_nat (k := m) h6 hc h
    have r := ordA_ratio (s.set c (m : Int)) c (by rw [List.length_set]; exact h6) hc hn
    have p := plUp_setN s c (m : Int) h6 hc
    rw [set_getD s c c _ (by omega), if_pos rfl, List.set_set] at r
    rw [hm, show s.getD c 0 - ((k + 1 : Nat) : Int) = (m : Int) - 1 by omega]
    rw [show plUp s 6 - k = plUp (s.set c (m : Int)) 6 by omega, r]
    congr 1
    omega
  · rw [ordA_not (j := c) hc (by rw [set_getD s c c _ (by omega), if_pos rfl]; omega), ordA_not (j := c) (s := s.set c (s.getD c 0 - (k : Int))) hc (by rw [set_getD s c c _ (by omega), if_pos rfl]; omega)]
    simp
theorem left_mono (s : List Int) (c k : Nat) (h6 : s.length = 6) (hc : c < 6) (h : ∀ j, j < 6 → 0 ≤ s.getD j 0) (hk : k < plUp s 6) : leftN s c (k + 1) ≤ leftN s c k := by
  have r := left_step s c k h6 hc h
  have gl := getD_le_plUp s c hc
  have hp : 0 < plUp s 6 - k := by omega
  apply Nat.le_of_mul_le_mul_right _ hp
  rw [r]
  exact Nat.mul_le_mul_left _ (by omega)
/-- The chance that k further layers have the color, multiplied up. -/
theorem left_chain (s : List Int) (c k : Nat) (h6 : s.length = 6) (hc : c < 6) (h : ∀ j, j < 6 → 0 ≤ s.getD j 0) (hk : k < plUp s 6) :
    cutN (cutN (leftN s c k) (ordA s) * ((s.getD c 0).toNat - k)) (cutD (leftN s c k) (ordA s) * (plUp s 6 - k)) = cutN (leftN s c (k + 1)) (ordA s)
    ∧ cutD (cutN (leftN s c k) (ordA s) * ((s.getD c 0).toNat - k)) (cutD (leftN s c k) (ordA s) * (plUp s 6 - k)) = cutD (leftN s c (k + 1)) (ordA s) := by
  have hp := ordA_pos h
  have hy : 0 < plUp s 6 - k := by omega
  obtain ⟨e1, e2⟩ := cut_mul (leftN s c k) (ordA s) ((s.getD c 0).toNat - k) (plUp s 6 - k) hp hy
  rw [e1, e2]
  refine cut_eq (Nat.mul_pos hp hy) hp ?_
  rw [← left_step s c k h6 hc h]
  grind
/-- .. and then another color. -/
theorem left_stop (s : List Int) (c k : Nat) (h6 : s.length = 6) (hc : c < 6) (h : ∀ j, j < 6 → 0 ≤ s.getD j 0) (hk : k < plUp s 6) :
    cutN (cutN (leftN s c k) (ordA s) * (plUp s 6 - k - ((s.getD c 0).toNat - k))) (cutD (leftN s c k) (ordA s) * (plUp s 6 - k)) = cutN (leftN s c k - leftN s c (k + 1)) (ordA s)
    ∧ cutD (cutN (leftN s c k) (ordA s) * (plUp s 6 - k - ((s.getD c 0).toNat - k))) (cutD (leftN s c k) (ordA s) * (plUp s 6 - k)) = cutD (leftN s c k - leftN s c (k + 1)) (ordA s) := by
  have hp := ordA_pos h
  have hy : 0 < plUp s 6 - k := by omega
  obtain ⟨e1, e2⟩ := cut_mul (leftN s c k) (ordA s) (plUp s 6 - k - ((s.getD c 0).toNat - k)) (plUp s 6 - k) hp hy
  rw [e1, e2]
  refine cut_eq (Nat.mul_pos hp hy) hp ?_
  have r := left_step s c k h6 hc h
  have e : (leftN s c k - leftN s c (k + 1)) * (plUp s 6 - k) = leftN s c k * (plUp s 6 - k - ((s.getD c 0).toNat - k)) := by
    rw [Nat.sub_mul, r, Nat.mul_sub (leftN s c k) (plUp s 6 - k)]
  rw [← e]; grind
/-- A common divisor, found by dividing on. -/
theorem gcd_round (x y : Nat) (hy : y ≠ 0) : Nat.gcd y (x % y) = Nat.gcd x y := by
  rw [Nat.gcd_comm x y, Nat.gcd_rec y x, Nat.gcd_comm]
end Go.Proofs.Ytnldnjnnjfbhnab.base
end
