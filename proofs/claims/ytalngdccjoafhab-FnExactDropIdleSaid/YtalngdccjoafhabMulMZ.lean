/-
  In how many orders the layers of a stock can be put: plain mathematics, nothing of the program.
-/
/-
  Fractions in lowest terms, and how many orders are left: plain mathematics, nothing of the program.
-/
/-
  Plays: next racks, how many plays are at each rack, means over them: plain mathematics.
-/
/-
  Games: complete tubes, values, best pours: plain mathematics.
-/
import Derived.Test.YtalngdccjoafhabRackCopyZ
import Derived.Test.YtalngdccjoafhabPMath

section
namespace Go.Proofs.Ytalngdccjoafhab.base
set_option linter.unusedVariables false
set_option linter.unusedSimpArgs false

def fact : Nat → Nat
  | 0 => 1
  | n + 1 => (n + 1) * fact n
theorem fact_pos : ∀ n, 0 < fact n
  | 0 => by decide
  | n + 1 => by unfold fact; exact Nat.mul_pos (by omega) (fact_pos n)
/-- The number of ways to mix a layers with b others. -/
def bin : Nat → Nat → Nat
  | 0, _ => 1
  | _ + 1, 0 => 1
  | a + 1, b + 1 => bin a (b + 1) + bin (a + 1) b
theorem bin_zero (a : Nat) : bin a 0 = 1 := by cases a <;> simp [bin]
theorem zero_bin (b : Nat) : bin 0 b = 1 := by simp [bin]
theorem bin_fact (a b : Nat) : bin a b * (fact a * fact b) = fact (a + b) := by
  induction a generalizing b with
  | zero => rw [zero_bin]; simp [fact]
  | succ a ih =>
    induction b with
    | zero => rw [bin_zero]; simp [fact]
    | succ b jh =>
      have h1 := ih (b + 1)
      have e1 : fact (a + 1 + (b + 1)) = (a + 1 + b + 1) * fact (a + 1 + b) := rfl
      have e2 : fact (a + 1) = (a + 1) * fact a := rfl
      have e3 : fact (b + 1) = (b + 1) * fact b := rfl
      have e4 : a + (b + 1) = a + 1 + b := by omega
      rw [e4] at h1
      rw [bin, e1]
      rw [e2] at jh ⊢
      rw [e3] at h1 ⊢
      generalize fact (a + 1 + b) = F at *
      generalize bin a (b + 1) = x at *
      generalize bin (a + 1) b = y at *
      generalize fact a = p at *
      generalize fact b = q at *
      have t1 : (x + y) * ((a + 1) * p * ((b + 1) * q)) = (a + 1) * (x * (p * ((b + 1) * q))) + (b + 1) * (y * ((a + 1) * p * q)) := by grind
      rw [t1, h1, jh]
      grind
theorem bin_pos (a b : Nat) : 0 < bin a b := by
  have h := bin_fact a b
  have := fact_pos (a + b)
  rcases Nat.eq_zero_or_pos (bin a b) with h0 | h0
  · rw [h0, Nat.zero_mul] at h; omega
  · exact h0
theorem bin_step (a b : Nat) : bin a b * (a + b + 1) = bin a (b + 1) * (b + 1) := by
  have h1 := bin_fact a b
  have h2 := bin_fact a (b + 1)
  have e1 : fact (a + (b + 1)) = (a + b + 1) * fact (a + b) := rfl
  have e3 : fact (b + 1) = (b + 1) * fact b := rfl
  have pa := fact_pos a
  have pb := fact_pos b
  rw [e1, e3, ← h1] at h2
  have hp : 0 < fact a * fact b := Nat.mul_pos pa pb
  apply Nat.eq_of_mul_eq_mul_right hp
  generalize fact a = p at *
  generalize fact b = q at *
  grind
theorem bin_div (a b : Nat) : bin a b * (a + b + 1) / (b + 1) = bin a (b + 1) := by
  rw [bin_step, Nat.mul_div_cancel _ (by omega)]
theorem bin_mono (a b : Nat) : bin a b ≤ bin a (b + 1) := by
  cases a with
  | zero => rw [zero_bin, zero_bin]; exact Nat.le_refl _
  | succ a => rw [bin.eq_3]; omega
theorem bin_le (a : Nat) {b c : Nat} (h : b ≤ c) : bin a b ≤ bin a c := by
  induction c with
  | zero => obtain rfl : b = 0 := by omega
            exact Nat.le_refl _
  | succ c ih =>
    by_cases e : b = c + 1
    · subst e; exact Nat.le_refl _
    · exact Nat.le_trans (ih (by omega)) (bin_mono a c)

/-- How many layers the first c colors of a stock have. -/
def plUp (s : List Int) : Nat → Nat
  | 0 => 0
  | c + 1 => plUp s c + (s.getD c 0).toNat
/-- In how many orders they can be put. -/
def mulUp (s : List Int) : Nat → Nat
  | 0 => 1
  | c + 1 => mulUp s c * bin (plUp s c) (s.getD c 0).toNat
def facUp (s : List Int) : Nat → Nat
  | 0 => 1
  | c + 1 => facUp s c * fact (s.getD c 0).toNat
theorem mulUp_fact (s : List Int) : ∀ c, mulUp s c * facUp s c = fact (plUp s c)
  | 0 => by simp [mulUp, facUp, plUp, fact]
  | c + 1 => by
    have h := mulUp_fact s c
    have hb := bin_fact (plUp s c) (s.getD c 0).toNat
    rw [mulUp, facUp, plUp, ← hb, ← h]
    grind
theorem mulUp_pos (s : List Int) : ∀ c, 0 < mulUp s c
  | 0 => by simp [mulUp]
  | c + 1 => by rw [mulUp]; exact Nat.mul_pos (mulUp_pos s c) (bin_pos _ _)
theorem facUp_pos (s : List Int) : ∀ c, 0 < facUp s c
  | 0 => by simp [facUp]
  | c + 1 => by rw [facUp]; exact Nat.mul_pos (facUp_pos s c) (fact_pos _)
theorem mulUp_mono (s : List Int) (c : Nat) : mulUp s c ≤ mulUp s (c + 1) := by
  rw [mulUp]; exact Nat.le_mul_of_pos_right _ (bin_pos _ _)
theorem mulUp_le (s : List Int) {a b : Nat} (h : a ≤ b) : mulUp s a ≤ mulUp s b := by
  induction b with
  | zero => obtain rfl : a = 0 := by omega
            exact Nat.le_refl _
  | succ b ih =>
    by_cases e : a = b + 1
    · subst e; exact Nat.le_refl _
    · exact Nat.le_trans (ih (by omega)) (mulUp_mono s b)
theorem set_getD (s : List Int) (c j : Nat) (x : Int) (hc : c < s.length) : (s.set c x).getD j 0 = if j = c then x else s.getD j 0 := by
  rw [List.getD_eq_getElem?_getD, List.getElem?_set, List.getD_eq_getElem?_getD]
  by_cases h : c = j
  · subst h; simp [hc]
  · rw [if_neg h, if_neg (fun e => h e.symm)]
/-- A layer less in a stock. -/
theorem plUp_set (s : List Int) (c k : Nat) (h6 : s.length = 6) (hc : c < 6) (hk : s.getD c 0 = (k : Int) + 1) : plUp s 6 = plUp (s.set c (k : Int)) 6 + 1 := by
  have e := fun j => set_getD s c j (k : Int) (by omega)
  simp only [plUp, e]
  match c, hc with
  | 0, _ => simp only [hk]; simp; omega
  | 1, _ => simp only [hk]; simp; omega
  | 2, _ => simp only [hk]; simp; omega
  | 3, _ => simp only [hk]; simp; omega
  | 4, _ => simp only [hk]; simp; omega
  | 5, _ => simp only [hk]; simp; omega
theorem facUp_set (s : List Int) (c k : Nat) (h6 : s.length = 6) (hc : c < 6) (hk : s.getD c 0 = (k : Int) + 1) : facUp s 6 = facUp (s.set c (k : Int)) 6 * (k + 1) := by
  have e := fun j => set_getD s c j (k : Int) (by omega)
  have hf : fact (((k : Int) + 1).toNat) = (k + 1) * fact k := by rw [show ((k : Int) + 1).toNat = k + 1 by omega]; rfl
  have hg : fact ((k : Int).toNat) = fact k := by simp
  simp only [facUp, e]
  match c, hc with
  | 0, _ => rw [hk, hf]; simp only [if_pos, if_true, hg]; simp; grind
  | 1, _ => rw [hk, hf]; simp only [if_pos, if_true, hg]; simp; grind
  | 2, _ => rw [hk, hf]; simp only [if_pos, if_true, hg]; simp; grind
  | 3, _ => rw [hk, hf]; simp only [if_pos, if_true, hg]; simp; grind
  | 4, _ => rw [hk, hf]; simp only [if_pos, if_true, hg]; simp; grind
  | 5, _ => rw [hk, hf]; simp only [if_pos, if_true, hg]; simp; grind
theorem ord_ratio (s : List Int) (c k : Nat) (h6 : s.length = 6) (hc : c < 6) (hk : s.getD c 0 = (k : Int) + 1) : mulUp (s.set c (k : Int)) 6 * plUp s 6 = mulUp s 6 * (k + 1) := by
  have h1 := mulUp_fact s 6
  have h2 := mulUp_fact (s.set c (k : Int)) 6
  have e1 := plUp_set s c k h6 hc hk
  have e2 := facUp_set s c k h6 hc hk
  have e3 : fact (plUp (s.set c (k : Int)) 6 + 1) = (plUp (s.set c (k : Int)) 6 + 1) * fact (plUp (s.set c (k : Int)) 6) := rfl
  rw [e1, e2, e3, ← h2] at h1
  rw [e1]
  have hp := facUp_pos (s.set c (k : Int)) 6
  apply Nat.eq_of_mul_eq_mul_right hp
  generalize facUp (s.set c (k : Int)) 6 = F at *
  generalize mulUp (s.set c (k : Int)) 6 = x at *
  generalize mulUp s 6 = y at *
  generalize plUp (s.set c (k : Int)) 6 = n at *
  grind
/-- No layers are owed. -/
def noDebt (s : List Int) (c : Nat) : Bool := (List.range c).all fun j => decide (0 ≤ s.getD j 0)
theorem noDebt_iff (s : List Int) (c : Nat) : noDebt s c = true ↔ ∀ j, j < c → 0 ≤ s.getD j 0 := by
  unfold noDebt; rw [List.all_eq_true]
  constructor
  · intro h j hj; have := h j (by simp; exact hj); simpa using this
  · intro h j hj; have := h j (by simpa using hj); simpa using this
/-- The number of orders, 0 if some are owed. -/
def ordA (s : List Int) : Nat := if noDebt s 6 = true then mulUp s 6 else 0
theorem ordA_of {s : List Int} (h : ∀ j, j < 6 → 0 ≤ s.getD j 0) : ordA s = mulUp s 6 := by unfold ordA; rw [if_pos ((noDebt_iff s 6).2 h)]
theorem ordA_pos {s : List Int} (h : ∀ j, j < 6 → 0 ≤ s.getD j 0) : 0 < ordA s := by rw [ordA_of h]; exact mulUp_pos s 6
theorem ordA_not {s : List Int} {j : Nat} (hj : j < 6) (h : s.getD j 0 < 0) : ordA s = 0 := by
  unfold ordA
  rw [if_neg]
  intro hn
  have := (noDebt_iff s 6).1 hn j hj
  omega
theorem set_nat {s : List Int} {c k : Nat} (h6 : s.length = 6) (hc : c < 6) (h : ∀ j, j < 6 → 0 ≤ s.getD j 0) : ∀ j, j < 6 → 0 ≤ (s.set c (k : Int)).getD j 0 := fun j hj => by
  rw [set_getD s c j _ (by omega)]
  split
  · omega
  · exact h j hj
/-- With one layer of a color less: so many orders begin with it. -/
theorem ordA_ratio (s : List Int) (c : Nat) (h6 : s.length = 6) (hc : c < 6) (h : ∀ j, j < 6 → 0 ≤ s.getD j 0) : ordA (s.set c (s.getD c 0 - 1)) * plUp s 6 = ordA s * (s.getD c 0).toNat := by
  have h0 := h c hc
  by_cases e : s.getD c 0 = 0
  · rw [e, ordA_not (j := c) hc (by rw [set_getD s c c _ (by omega)]; simp)]; simp
  · obtain ⟨k, hk⟩ : ∃ k : Nat, s.getD c 0 = (k : Int) + 1 := ⟨(s.getD c 0 - 1).toNat, by omega⟩
    rw [hk, show (k : Int) + 1 - 1 = (k : Int) by omega, ordA_of (set_nat h6 hc h), ordA_of h, ord_ratio s c k h6 hc hk]
    congr 1
def bef (s : List Int) : Nat → Nat
  | 0 => 0
  | c + 1 => bef s c + (if c = 0 then 0 else ordA (s.set c (s.getD c 0 - 1)))
theorem bef_all (s : List Int) (h6 : s.length = 6) (h : ∀ j, j < 6 → 0 ≤ s.getD j 0) (h0 : s.getD 0 0 = 0) (hn : 0 < plUp s 6) : bef s 6 = ordA s := by
  apply Nat.eq_of_mul_eq_mul_right hn
  have r := fun c hc => ordA_ratio s c h6 hc h
  have r1 := r 1 (by omega)
  have r2 := r 2 (by omega)
  have r3 := r 3 (by omega)
  have r4 := r 4 (by omega)
  have r5 := r 5 (by omega)
  have e : plUp s 6 = (s.getD 1 0).toNat + (s.getD 2 0).toNat + (s.getD 3 0).toNat + (s.getD 4 0).toNat + (s.getD 5 0).toNat := by
    simp only [plUp, h0]; simp
  simp only [bef]
  simp
  rw [Nat.add_mul, Nat.add_mul, Nat.add_mul, Nat.add_mul]
  simp only [List.getD_eq_getElem?_getD] at r1 r2 r3 r4 r5 e
  rw [r1, r2, r3, r4, r5, e]
  grind
theorem ordA_le (n : Nat) : ∀ s : List Int, s.length = 6 → (∀ j, j < 6 → 0 ≤ s.getD j 0) → plUp s 6 = n → ordA s ≤ 6 ^ n := by
  induction n with
  | zero =>
    intro s h6 h hn
    have hz : ∀ j, j < 6 → (s.getD j 0).toNat = 0 := by
      simp only [plUp] at hn
      intro j hj
      match j, hj with
      | 0, _ => omega
      | 1, _ => omega
      | 2, _ => omega
      | 3, _ => omega
      | 4, _ => omega
      | 5, _ => omega
    rw [ordA_of h]
    simp only [mulUp, hz 0 (by omega), hz 1 (by omega), hz 2 (by omega), hz 3 (by omega), hz 4 (by omega), hz 5 (by omega), bin_zero]
    decide
  | succ n ih =>
    intro s h6 h hn
    obtain ⟨c, hc, hb⟩ : ∃ c, c < 6 ∧ n + 1 ≤ 6 * (s.getD c 0).toNat := by
      refine Decidable.byContradiction fun hno => ?_
      have hx : ∀ c, c < 6 → 6 * (s.getD c 0).toNat < n + 1 := fun c hc => Decidable.byContradiction fun h2 => hno ⟨c, hc, by omega⟩
      have x0 := hx 0 (by omega); have x1 := hx 1 (by omega); have x2 := hx 2 (by omega)
      have x3 := hx 3 (by omega); have x4 := hx 4 (by omega); have x5 := hx 5 (by omega)
      simp only [plUp] at hn
      omega
    have h0 := h c hc
    obtain ⟨k, hk⟩ : ∃ k : Nat, s.getD c 0 = (k : Int) + 1 := ⟨(s.getD c 0 - 1).toNat, by omega⟩
    have e1 := plUp_set s c k h6 hc hk
    have r := ord_ratio s c k h6 hc hk
    have i := ih (s.set c (k : Int)) (by rw [List.length_set]; exact h6) (set_nat h6 hc h) (by omega)
    rw [ordA_of (set_nat h6 hc h)] at i
    rw [ordA_of h]
    rw [hn] at r
    have hb2 : n + 1 ≤ 6 * (k + 1) := by rw [hk] at hb; omega
    have hp : 0 < k + 1 := by omega
    apply Nat.le_of_mul_le_mul_right _ hp
    rw [← r, Nat.pow_succ]
    generalize mulUp (s.set c (k : Int)) 6 = x at *
    generalize 6 ^ n = y at *
    calc x * (n + 1) ≤ y * (n + 1) := Nat.mul_le_mul_right _ i
      _ ≤ y * (6 * (k + 1)) := Nat.mul_le_mul_left _ hb2
      _ = y * 6 * (k + 1) := by rw [Nat.mul_assoc]
end Go.Proofs.Ytalngdccjoafhab.base
end

section
namespace Go.Proofs.Ytalngdccjoafhab.base
set_option linter.unusedVariables false
set_option linter.unusedSimpArgs false

def cutN (a b : Nat) : Nat := a / Nat.gcd a b
def cutD (a b : Nat) : Nat := b / Nat.gcd a b
theorem cutN_mul (a b : Nat) : cutN a b * Nat.gcd a b = a := Nat.div_mul_cancel (Nat.gcd_dvd_left a b)
theorem cutD_mul (a b : Nat) : cutD a b * Nat.gcd a b = b := Nat.div_mul_cancel (Nat.gcd_dvd_right a b)
theorem cut_gcd_pos (a b : Nat) (hb : 0 < b) : 0 < Nat.gcd a b := Nat.gcd_pos_of_pos_right a hb
theorem cut_cross (a b : Nat) : cutN a b * b = a * cutD a b := by
  have h1 := cutN_mul a b
  have h2 := cutD_mul a b
  generalize cutN a b = x at *
  generalize cutD a b = y at *
  generalize Nat.gcd a b = g at *
  subst h1; subst h2
  grind
theorem cutD_pos (a b : Nat) (hb : 0 < b) : 0 < cutD a b := by
  have h := cutD_mul a b
  rcases Nat.eq_zero_or_pos (cutD a b) with h0 | h0
  · rw [h0, Nat.zero_mul] at h; omega
  · exact h0
theorem cutN_le (a b : Nat) : cutN a b ≤ a := Nat.div_le_self _ _
theorem cutD_le (a b : Nat) : cutD a b ≤ b := Nat.div_le_self _ _
theorem cutN_pos (a b : Nat) (hb : 0 < b) : 0 < cutN a b ↔ 0 < a := by
  have h := cutN_mul a b
  have g := cut_gcd_pos a b hb
  constructor
  · intro hx; rw [← h]; exact Nat.mul_pos hx g
  · intro ha
    rcases Nat.eq_zero_or_pos (cutN a b) with h0 | h0
    · rw [h0, Nat.zero_mul] at h; omega
    · exact h0
theorem cut_eq {a b c d : Nat} (hb : 0 < b) (hd : 0 < d) (h : a * d = c * b) : cutN a b = cutN c d ∧ cutD a b = cutD c d := by
  have g1 : Nat.gcd (a * d) (b * d) = Nat.gcd a b * d := Nat.gcd_mul_right a d b
  have g2 : Nat.gcd (c * b) (d * b) = Nat.gcd c d * b := Nat.gcd_mul_right c b d
  rw [h, Nat.mul_comm b d, g2] at g1
  have pg := cut_gcd_pos a b hb
  have ph := cut_gcd_pos c d hd
  have a1 := cutN_mul a b
  have b1 := cutD_mul a b
  have c1 := cutN_mul c d
  have d1 := cutD_mul c d
  have hq := cutD_pos a b hb
  generalize cutN a b = a' at *
  generalize cutD a b = b' at *
  generalize cutN c d = c' at *
  generalize cutD c d = d' at *
  generalize Nat.gcd a b = g at *
  generalize Nat.gcd c d = k at *
  have e : b' = d' := by
    have : (k * g) * b' = (k * g) * d' := by
      rw [← b1, ← d1] at g1
      grind
    exact Nat.eq_of_mul_eq_mul_left (Nat.mul_pos ph pg) this
  refine ⟨?_, e⟩
  subst e
  have : (k * g * b') * a' = (k * g * b') * c' := by
    rw [← a1, ← b1, ← c1, ← d1] at h
    grind
  exact Nat.eq_of_mul_eq_mul_left (Nat.mul_pos (Nat.mul_pos ph pg) hq) this
theorem cut_mul (a b x y : Nat) (hb : 0 < b) (hy : 0 < y) : cutN (cutN a b * x) (cutD a b * y) = cutN (a * x) (b * y) ∧ cutD (cutN a b * x) (cutD a b * y) = cutD (a * x) (b * y) := by
  refine cut_eq (Nat.mul_pos (cutD_pos a b hb) hy) (Nat.mul_pos hb hy) ?_
  have h := cut_cross a b
  generalize cutN a b = p at *
  generalize cutD a b = q at *
  have e : p * x * (b * y) = p * b * (x * y) := by grind
  rw [e, h]; grind
/-- The sum of two fractions over one denominator. -/
theorem cut_add (a b d : Nat) (hd : 0 < d) : cutN (cutN a d * cutD b d + cutN b d * cutD a d) (cutD a d * cutD b d) = cutN (a + b) d ∧ cutD (cutN a d * cutD b d + cutN b d * cutD a d) (cutD a d * cutD b d) = cutD (a + b) d := by
  refine cut_eq (Nat.mul_pos (cutD_pos a d hd) (cutD_pos b d hd)) hd ?_
  have h1 := cut_cross a d
  have h2 := cut_cross b d
  generalize cutN a d = p at *
  generalize cutD a d = q at *
  generalize cutN b d = r at *
  generalize cutD b d = t at *
  have e : (p * t + r * q) * d = p * d * t + r * d * q := by grind
  rw [e, h1, h2]; grind
theorem cut_one (b : Nat) : cutN 1 b = 1 ∧ cutD 1 b = b := by
  unfold cutN cutD; rw [Nat.gcd_one_left]; simp
theorem cut_zero (b : Nat) (hb : 0 < b) : cutN 0 b = 0 ∧ cutD 0 b = 1 := by
  unfold cutN cutD; rw [Nat.gcd_zero_left]; exact ⟨by simp, Nat.div_self hb⟩
theorem cut_self (b : Nat) (hb : 0 < b) : cutN b b = 1 ∧ cutD b b = 1 := by
  unfold cutN cutD; rw [Nat.gcd_self]; exact ⟨Nat.div_self hb, Nat.div_self hb⟩

/-- How many orders there are with k layers of a color less. -/
def leftN (s : List Int) (c k : Nat) : Nat := ordA (s.set c (s.getD c 0 - (k : Int)))
theorem plUp_setN (s : List Int) (c : Nat) (x : Int) (h6 : s.length = 6) (hc : c < 6) : plUp (s.set c x) 6 + (s.getD c 0).toNat = plUp s 6 + x.toNat := by
  have e := fun j => set_getD s c j x (by omega)
  simp only [plUp, e]
  match c, hc with
  | 0, _ => simp; omega
  | 1, _ => simp; omega
  | 2, _ => simp; omega
  | 3, _ => simp; omega
  | 4, _ => simp; omega
  | 5, _ => simp; omega
theorem getD_le_plUp (s : List Int) (c : Nat) (hc : c < 6) : (s.getD c 0).toNat ≤ plUp s 6 := by
  simp only [plUp]
  match c, hc with
  | 0, _ => omega
  | 1, _ => omega
  | 2, _ => omega
  | 3, _ => omega
  | 4, _ => omega
  | 5, _ => omega
theorem left_zero (s : List Int) (c : Nat) (h6 : s.length = 6) (hc : c < 6) : leftN s c 0 = ordA s := by
  have e : s.set c (s.getD c 0 - ((0 : Nat) : Int)) = s := by
    apply List.ext_getElem?
    intro j
    rw [List.getElem?_set]
    split
    · rename_i h; subst h
      rw [if_pos (by omega), List.getD_eq_getElem?_getD, List.getElem?_eq_getElem (by omega)]; simp
    · rfl
  unfold leftN; rw [e]
theorem left_step (s : List Int) (c k : Nat) (h6 : s.length = 6) (hc : c < 6) (h : ∀ j, j < 6 → 0 ≤ s.getD j 0) : leftN s c (k + 1) * (plUp s 6 - k) = leftN s c k * ((s.getD c 0).toNat - k) := by
  have g0 := h c hc
  have gl := getD_le_plUp s c hc
  unfold leftN
  by_cases e : (k : Int) ≤ s.getD c 0
  · obtain ⟨m, hm⟩ : ∃ m : Nat, s.getD c 0 - (k : Int) = (m : Int) := ⟨(s.getD c 0 - (k : Int)).toNat, by omega⟩
    have hn := set_nat (k := m) h6 hc h
    have r := ordA_ratio (s.set c (m : Int)) c (by rw [List.length_set]; exact h6) hc hn
    have p := plUp_setN s c (m : Int) h6 hc
    rw [set_getD s c c _ (by omega), if_pos rfl, List.set_set] at r
    rw [hm, show s.getD c 0 - ((k + 1 : Nat) : Int) = (m : Int) - 1 by omega]
    rw [show plUp s 6 - k = plUp (s.set c (m : Int)) 6 by omega, r]
    congr 1
    omega
  · rw [ordA_not (j := c) hc (by rw [set_getD s c c _ (by omega), if_pos rfl]; omega), ordA_not (j := c) (s := s.set c (s.getD c 0 - (k : Int))) hc (by rw [set_getD s c c _ (by omega), if_pos rfl]; omega)]
    simp
theorem left_mono (s : List Int) (c k : Nat) (h6 : s.length = 6) (hc : c < 6) (h : ∀ j, j < 6 → 0 ≤ s.getD j 0) (hk : k < plUp s 6) : leftN s c (k + 1) ≤ leftN s c k := by
  have r := left_step s c k h6 hc h
  have gl := getD_le_plUp s c hc
  have hp : 0 < plUp s 6 - k := by omega
  apply Nat.le_of_mul_le_mul_right _ hp
  rw [r]
  exact Nat.mul_le_mul_left _ (by omega)
/-- The chance that k further layers have the color, multiplied up. -/
theorem left_chain (s : List Int) (c k : Nat) (h6 : s.length = 6) (hc : c < 6) (h : ∀ j, j < 6 → 0 ≤ s.getD j 0) (hk : k < plUp s 6) :
    cutN (cutN (leftN s c k) (ordA s) * ((s.getD c 0).toNat - k)) (cutD (leftN s c k) (ordA s) * (plUp s 6 - k)) = cutN (leftN s c (k + 1)) (ordA s)
    ∧ cutD (cutN (leftN s c k) (ordA s) * ((s.getD c 0).toNat - k)) (cutD (leftN s c k) (ordA s) * (plUp s 6 - k)) = cutD (leftN s c (k + 1)) (ordA s) := by
  have hp := ordA_pos h
  have hy : 0 < plUp s 6 - k := by omega
  obtain ⟨e1, e2⟩ := cut_mul (leftN s c k) (ordA s) ((s.getD c 0).toNat - k) (plUp s 6 - k) hp hy
  rw [e1, e2]
  refine cut_eq (Nat.mul_pos hp hy) hp ?_
  rw [← left_step s c k h6 hc h]
  grind
/-- .. and then another color. -/
theorem left_stop (s : List Int) (c k : Nat) (h6 : s.length = 6) (hc : c < 6) (h : ∀ j, j < 6 → 0 ≤ s.getD j 0) (hk : k < plUp s 6) :
    cutN (cutN (leftN s c k) (ordA s) * (plUp s 6 - k - ((s.getD c 0).toNat - k))) (cutD (leftN s c k) (ordA s) * (plUp s 6 - k)) = cutN (leftN s c k - leftN s c (k + 1)) (ordA s)
    ∧ cutD (cutN (leftN s c k) (ordA s) * (plUp s 6 - k - ((s.getD c 0).toNat - k))) (cutD (leftN s c k) (ordA s) * (plUp s 6 - k)) = cutD (leftN s c k - leftN s c (k + 1)) (ordA s) := by
  have hp := ordA_pos h
  have hy : 0 < plUp s 6 - k := by omega
  obtain ⟨e1, e2⟩ := cut_mul (leftN s c k) (ordA s) (plUp s 6 - k - ((s.getD c 0).toNat - k)) (plUp s 6 - k) hp hy
  rw [e1, e2]
  refine cut_eq (Nat.mul_pos hp hy) hp ?_
  have r := left_step s c k h6 hc h
  have e : (leftN s c k - leftN s c (k + 1)) * (plUp s 6 - k) = leftN s c k * (plUp s 6 - k - ((s.getD c 0).toNat - k)) := by
    rw [Nat.sub_mul, r, Nat.mul_sub (leftN s c k) (plUp s 6 - k)]
  rw [← e]; grind
/-- A common divisor, found by dividing on. -/
theorem gcd_round (x y : Nat) (hy : y ≠ 0) : Nat.gcd y (x % y) = Nat.gcd x y := by
  rw [Nat.gcd_comm x y, Nat.gcd_rec y x, Nat.gcd_comm]
end Go.Proofs.Ytalngdccjoafhab.base
end

section
namespace Go.Proofs.Ytalngdccjoafhab.base
set_option linter.unusedVariables false
set_option linter.unusedSimpArgs false

/-! at most thirty pours -/
theorem pours_five (ns : List Int) (p : Nat) : ∀ q, q ≤ 6 → poursN ns (p * 6 + q) + (if p < q then 1 else 0) ≤ poursN ns (p * 6) + q
  | 0, _ => by simp
  | q + 1, hq => by
    have ih := pours_five ns p q (by omega)
    by_cases hc : p ≠ q ∧ 0 < canN (tub ns p) (tub ns q)
    · rw [poursN_yes ns p q (by omega) hc]
      have := hc.1
      split at ih <;> split <;> omega
    · rw [poursN_no ns p q (by omega) hc]
      split at ih <;> split <;> omega
theorem pours_up (ns : List Int) : ∀ p, p ≤ 6 → poursN ns (p * 6) ≤ p * 5
  | 0, _ => by rw [Nat.zero_mul, (pours0 ns).1]; omega
  | p + 1, hp => by
    have ih := pours_up ns p (by omega)
    have h := pours_five ns p 6 (by omega)
    rw [if_pos (by omega)] at h
    rw [show (p + 1) * 6 = p * 6 + 6 by omega]
    omega
theorem use30 (ns : List Int) : usefNA ns ≤ 30 := by
  unfold usefNA
  split
  · exact Nat.le_trans (usefN_le ns _) (pours_up ns 6 (by omega))
  · omega

def GR (ns : List Int) : Prop := ns.length = 24 ∧ vR ns = true
def upX (ns : List Int) (k : Nat) : Int := (usefFA ns).getD (k * 2) 0
def upY (ns : List Int) (k : Nat) : Int := (usefFA ns).getD (k * 2 + 1) 0
def nxR (ns : List Int) (k : Nat) : List Int := pourR ns (upX ns k) (upY ns k)
/-- The racks at which a play can be next. -/
def nxL (ns : List Int) : List (List Int) := if usefNA ns = 0 then [ns] else (List.range (usefNA ns)).map (nxR ns)
def wy (ns : List Int) : Nat := (nxL ns).length
theorem wy_of (ns : List Int) : wy ns = if usefNA ns = 0 then 1 else usefNA ns := by
  unfold wy nxL
  split
  · rfl
  · rw [List.length_map, List.length_range]
theorem wy_in (ns : List Int) : 1 ≤ wy ns ∧ wy ns ≤ 30 := by
  rw [wy_of]
  have := use30 ns
  split <;> omega
theorem usefFA_len {ns : List Int} : (usefFA ns).length = usefNA ns * 2 := by
  unfold usefFA usefNA
  split
  · exact usefF_len ns _
  · rfl
theorem up_ok {ns : List Int} (G : GR ns) (k : Nat) (hk : k < usefNA ns) : pourOk ns (upX ns k) (upY ns k) = true ∧ ∃ p q : Nat, p < 6 ∧ q < 6 ∧ upX ns k = (p : Int) ∧ upY ns k = (q : Int) := by
  have hin : inL (usefFA ns) (upX ns k) (upY ns k) := ⟨k, by rw [usefFA_len]; omega, rfl, rfl⟩
  have h2 := useful_listed ns _ _ hin
  unfold poursFA at h2
  rw [if_pos G.2] at h2
  obtain ⟨m, hm, hc, h3, h4⟩ := (in_poursF ns _ _ 36).1 h2
  have hp : m / 6 < 6 := by omega
  have hq : m % 6 < 6 := Nat.mod_lt _ (by omega)
  refine ⟨?_, m / 6, m % 6, hp, hq, h3, h4⟩
  rw [h3, h4]
  unfold pourOk
  rw [twoOk_yes G.2 hp hq hc.1, Int.toNat_natCast, Int.toNat_natCast, decide_eq_true hc.2]; rfl
theorem nx_good {ns : List Int} (G : GR ns) (k : Nat) (hk : k < usefNA ns) : GR (nxR ns k) :=
  ⟨pourR_len G.1 _ _, (pour_facts G.1 (up_ok G k hk).1).valid⟩
theorem nxL_good {ns : List Int} (G : GR ns) : ∀ t ∈ nxL ns, GR t := by
  intro t ht
  unfold nxL at ht
  split at ht
  · rw [List.mem_singleton] at ht; subst ht; exact G
  · obtain ⟨k, hk, rfl⟩ := List.mem_map.1 ht
    exact nx_good G k (List.mem_range.1 hk)

/-! sums over lists of racks -/
def fsum (g : List Int → Nat) (L : List (List Int)) : Nat := (L.map g).sum
theorem fsum_nil (g : List Int → Nat) : fsum g [] = 0 := rfl
theorem fsum_cons (g : List Int → Nat) (x : List Int) (L : List (List Int)) : fsum g (x :: L) = g x + fsum g L := by unfold fsum; simp
theorem fsum_app (g : List Int → Nat) (A B : List (List Int)) : fsum g (A ++ B) = fsum g A + fsum g B := by unfold fsum; rw [List.map_append, List.sum_append]
theorem fsum_perm (g : List Int → Nat) {A B : List (List Int)} (h : A.Perm B) : fsum g A = fsum g B := (h.map g).sum_nat
theorem fsum_congr {g h : List Int → Nat} {L : List (List Int)} (e : ∀ x ∈ L, g x = h x) : fsum g L = fsum h L := by
  unfold fsum; rw [List.map_congr_left e]
theorem fsum_le {g h : List Int → Nat} : ∀ {L : List (List Int)}, (∀ x ∈ L, g x ≤ h x) → fsum g L ≤ fsum h L
  | [], _ => Nat.le_refl _
  | x :: L, e => by
    rw [fsum_cons, fsum_cons]
    have := e x (List.mem_cons_self ..)
    have := fsum_le (L := L) fun y hy => e y (List.mem_cons_of_mem _ hy)
    omega
theorem fsum_mul (c : Nat) (g : List Int → Nat) : ∀ L : List (List Int), fsum (fun x => c * g x) L = c * fsum g L
  | [] => by simp [fsum]
  | x :: L => by rw [fsum_cons, fsum_cons, fsum_mul c g L, Nat.mul_add]
theorem fsum_const (c : Nat) : ∀ L : List (List Int), fsum (fun _ => c) L = c * L.length
  | [] => by simp [fsum]
  | x :: L => by rw [fsum_cons, fsum_const c L, List.length_cons, Nat.mul_succ]; omega
theorem fsum_mem (g : List Int → Nat) {L : List (List Int)} {x : List Int} (h : x ∈ L) : g x ≤ fsum g L := by
  induction L with
  | nil => exact absurd h List.not_mem_nil
  | cons y L ih =>
    rw [fsum_cons]
    rcases List.mem_cons.1 h with rfl | h
    · omega
    · have := ih h; omega
/-- Some of the racks, none twice: their sum is no greater. -/
theorem fsum_sub (g : List Int → Nat) : ∀ {A B : List (List Int)}, A.Nodup → (∀ x ∈ A, x ∈ B) → fsum g A ≤ fsum g B
  | [], B, _, _ => by rw [fsum_nil]; omega
  | x :: A, B, hn, hs => by
    rw [List.nodup_cons] at hn
    have hx := hs x (List.mem_cons_self ..)
    have e := fsum_perm g (List.perm_cons_erase hx)
    rw [fsum_cons] at e
    have ih := fsum_sub g (A := A) (B := B.erase x) hn.2 (fun y hy => by
      have hne : y ≠ x := fun e => hn.1 (e ▸ hy)
      exact (List.mem_erase_of_ne hne).2 (hs y (List.mem_cons_of_mem _ hy)))
    rw [fsum_cons]; omega
theorem fsum_all (g : List Int → Nat) {A B : List (List Int)} (hA : A.Nodup) (hB : B.Nodup) (h : ∀ x, x ∈ A ↔ x ∈ B) : fsum g A = fsum g B :=
  fsum_perm g ((List.perm_ext_iff_of_nodup hA hB).2 h)
theorem len_all {A B : List (List Int)} (hA : A.Nodup) (hB : B.Nodup) (h : ∀ x, x ∈ A ↔ x ∈ B) : A.length = B.length :=
  ((List.perm_ext_iff_of_nodup hA hB).2 h).length_eq
/-! a map from racks to numbers: its keys K and its numbers W, 0 elsewhere -/
def insP (K : List (List Int)) (x : List Int) : List (List Int) := if x ∈ K then K else K ++ [x]
def updP (W : List Int → Nat) (x : List Int) (v : Nat) : List Int → Nat := fun l => if l = x then W l + v else W l
structure Tab (K : List (List Int)) (W : List Int → Nat) : Prop where
  nodup : K.Nodup
  out : ∀ l, l ∉ K → W l = 0
  good : ∀ l ∈ K, GR l
def tot (K : List (List Int)) (W g : List Int → Nat) : Nat := fsum (fun l => W l * g l) K
theorem insP_mem (K : List (List Int)) (x y : List Int) : y ∈ insP K x ↔ y ∈ K ∨ y = x := by
  unfold insP
  split
  · rename_i h
    exact ⟨.inl, fun e => e.elim id (fun e => e ▸ h)⟩
  · rw [List.mem_append, List.mem_singleton]
theorem insP_len (K : List (List Int)) (x : List Int) : (insP K x).length ≤ K.length + 1 := by
  unfold insP; split <;> simp
theorem Tab.ins {K : List (List Int)} {W : List Int → Nat} (T : Tab K W) (x : List Int) (v : Nat) (gx : GR x) : Tab (insP K x) (updP W x v) := by
  refine ⟨?_, fun l hl => ?_, fun l hl => ?_⟩
  · unfold insP
    split
    · exact T.nodup
    · rename_i h
      exact List.nodup_append.2 ⟨T.nodup, by simp, fun a ha b hb => by rw [List.mem_singleton] at hb; subst hb; exact fun e => h (e ▸ ha)⟩
  · rw [insP_mem] at hl
    unfold updP
    rw [if_neg (fun e => hl (.inr e))]
    exact T.out l (fun e => hl (.inl e))
  · rcases (insP_mem K x l).1 hl with h | rfl
    · exact T.good l h
    · exact gx
theorem tot_upd {W : List Int → Nat} (x : List Int) (v : Nat) (g : List Int → Nat) : ∀ {K : List (List Int)}, K.Nodup → x ∈ K → tot K (updP W x v) g = tot K W g + v * g x
  | [], _, h => absurd h List.not_mem_nil
  | y :: K, hn, h => by
    rw [List.nodup_cons] at hn
    unfold tot at *
    rw [fsum_cons, fsum_cons]
    by_cases e : y = x
    · subst e
      have e1 : updP W y v y = W y + v := by unfold updP; rw [if_pos rfl]
      have e2 : fsum (fun l => updP W y v l * g l) K = fsum (fun l => W l * g l) K := fsum_congr fun l hl => by
        unfold updP; rw [if_neg (show ¬ l = y from fun e => hn.1 (e ▸ hl))]
      rw [e1, e2, Nat.add_mul]; omega
    · have hx : x ∈ K := by
        rcases List.mem_cons.1 h with h | h
        · exact absurd h.symm e
        · exact h
      have e1 : updP W x v y = W y := by unfold updP; rw [if_neg e]
      have ih := tot_upd (W := W) x v g hn.2 hx
      unfold tot at ih
      rw [e1, ih]; omega
theorem Tab.tot_ins {K : List (List Int)} {W : List Int → Nat} (T : Tab K W) (x : List Int) (v : Nat) (g : List Int → Nat) : tot (insP K x) (updP W x v) g = tot K W g + v * g x := by
  unfold insP
  split
  · rename_i h; exact tot_upd x v g T.nodup h
  · rename_i h
    unfold tot
    rw [fsum_app, fsum_cons, fsum_nil]
    have e1 : updP W x v x = v := by unfold updP; rw [if_pos rfl, T.out x h]; omega
    have e2 : fsum (fun l => updP W x v l * g l) K = fsum (fun l => W l * g l) K := fsum_congr fun l hl => by
      unfold updP; rw [if_neg (show ¬ l = x from fun e => h (e ▸ hl))]
    rw [e1, e2]; omega
theorem Tab.nil : Tab [] (fun _ => 0) := ⟨by simp, fun _ _ => rfl, fun l h => absurd h List.not_mem_nil⟩
theorem Tab.one {r : List Int} (g : GR r) : Tab [r] (fun l => if l = r then 1 else 0) :=
  ⟨by simp, fun l h => by rw [if_neg]; simpa using h, fun l h => by rw [List.mem_singleton] at h; subst h; exact g⟩
theorem tot_one_le {K : List (List Int)} {W : List Int → Nat} {l : List Int} (h : l ∈ K) : W l ≤ tot K W (fun _ => 1) := by
  have := fsum_mem (fun l => W l * 1) h
  unfold tot
  simpa using this

/-! one pour on -/
/-- Several racks are put in, each as often. -/
def addL (K : List (List Int)) (W : List Int → Nat) (v : Nat) : List (List Int) → List (List Int) × (List Int → Nat)
  | [] => (K, W)
  | x :: L => addL (insP K x) (updP W x v) v L
def S1 (g : List Int → Nat) (s : List Int) : Nat := fsum g (nxL s)
/-- The least number of copies that all pours can share out. -/
def lcmW : List (List Int) → Nat
  | [] => 1
  | s :: L => Nat.lcm (lcmW L) (wy s)
def L30 : Nat := 2329089562800
theorem div30 : ∀ n, 1 ≤ n → n ≤ 30 → n ∣ L30 := by
  have h : (List.range 31).all (fun n => decide (n = 0) || decide (L30 % n = 0)) = true := by decide
  intro n h1 h2
  have := List.all_eq_true.1 h n (List.mem_range.2 (by omega))
  simp only [Bool.or_eq_true, decide_eq_true_eq] at this
  rcases this with h0 | h0
  · omega
  · exact Nat.dvd_of_mod_eq_zero h0
theorem wy_div (s : List Int) : wy s ∣ L30 := div30 _ (wy_in s).1 (wy_in s).2
theorem lcmW_div : ∀ L : List (List Int), lcmW L ∣ L30
  | [] => Nat.one_dvd _
  | s :: L => by rw [lcmW]; exact Nat.lcm_dvd (lcmW_div L) (wy_div s)
theorem lcmW_mem {L : List (List Int)} {s : List Int} (h : s ∈ L) : wy s ∣ lcmW L := by
  induction L with
  | nil => exact absurd h List.not_mem_nil
  | cons y L ih =>
    rw [lcmW]
    rcases List.mem_cons.1 h with rfl | h
    · exact Nat.dvd_lcm_right _ _
    · exact Nat.dvd_trans (ih h) (Nat.dvd_lcm_left _ _)
theorem L30_pos : 0 < L30 := by decide
theorem pos_of_dvd {c : Nat} (h : c ∣ L30) : 0 < c := Nat.pos_of_dvd_of_pos h L30_pos
theorem le_of_dvd30 {c : Nat} (h : c ∣ L30) : c ≤ L30 := Nat.le_of_dvd L30_pos h
theorem lcm_step (c w : Nat) (hc : 0 < c) : c / Nat.gcd c w * w = Nat.lcm c w := by
  unfold Nat.lcm
  rw [Nat.div_mul_right_comm (Nat.gcd_dvd_left c w)]

/-! the means -/
def num1 (g : List Int → Nat) (r : List Int) : Nat := S1 g r
def num2 (g : List Int → Nat) (r : List Int) : Nat := fsum (fun x => L30 / wy x * S1 g x) (nxL r)
def numP (n : Nat) (g : List Int → Nat) (r : List Int) : Nat := match n with
  | 0 => g r
  | 1 => num1 g r
  | _ => num2 g r
def denP (n : Nat) (r : List Int) : Nat := match n with
  | 0 => 1
  | 1 => wy r
  | _ => wy r * L30
/-- The racks at which a play can be behind n pours. -/
def endP (n : Nat) (r x : List Int) : Prop := match n with
  | 0 => x = r
  | 1 => x ∈ nxL r
  | _ => ∃ s ∈ nxL r, x ∈ nxL s
/-- So many plays at so many racks are those behind n pours. -/
structure Behind (n : Nat) (r : List Int) (all : Nat) (K : List (List Int)) (W : List Int → Nat) : Prop where
  tab : Tab K W
  pos : 0 < all
  sum : ∀ g, tot K W g * denP n r = numP n g r * all
  ends : ∀ x, x ∈ K ↔ endP n r x
  le : all ≤ 30 * 2329089562800
  less : n < 2 → all ≤ 30
  len : K.length ≤ 30 ^ n
  one : tot K W (fun _ => 1) = all
theorem behind0 {r : List Int} (g : GR r) : Behind 0 r 1 [r] (fun l => if l = r then 1 else 0) := by
  refine ⟨Tab.one g, by omega, fun h => ?_, fun x => by simp [endP], by omega, fun _ => by omega, by simp, by simp [tot, fsum]⟩
  unfold tot
  rw [fsum_cons, fsum_nil]
  show ((if r = r then 1 else 0) * h r + 0) * 1 = h r * 1
  rw [if_pos rfl]
  omega
/-- What one pour more makes of the plays. -/
structure Onward (K : List (List Int)) (W : List Int → Nat) (c : Nat) (K' : List (List Int)) (W' : List Int → Nat) : Prop where
  tab : Tab K' W'
  sum : ∀ g, tot K' W' g = fsum (fun s => W s * (c / wy s) * S1 g s) K
  ends : ∀ x, x ∈ K' ↔ ∃ s ∈ K, x ∈ nxL s
  len : K'.length ≤ 30 * K.length
  div : c ∣ L30
  each : ∀ s ∈ K, wy s ∣ c
theorem S1_one (s : List Int) : S1 (fun _ => 1) s = wy s := by unfold S1; rw [fsum_const]; unfold wy; omega
theorem onward_one {K K' : List (List Int)} {W W' : List Int → Nat} {c : Nat} (O : Onward K W c K' W') : tot K' W' (fun _ => 1) = c * tot K W (fun _ => 1) := by
  rw [O.sum]
  unfold tot
  rw [← fsum_mul]
  refine fsum_congr fun s hs => ?_
  rw [S1_one, Nat.mul_assoc, Nat.div_mul_cancel (O.each s hs)]
  rw [Nat.mul_one, Nat.mul_comm]
theorem onward1 {r : List Int} {all c : Nat} {K K' : List (List Int)} {W W' : List Int → Nat} (B : Behind 0 r all K W) (O : Onward K W c K' W') (hc : c = lcmW [r]) (hK : K = [r]) (hW : W r = 1) (ha : all = 1) : Behind 1 r (all * c) K' W' := by
  subst hK; subst ha
  have hcw : c = wy r := by rw [hc, lcmW, lcmW, Nat.lcm_one_left]
  have hw := wy_in r
  have hs : ∀ g, tot K' W' g = S1 g r := fun g => by
    rw [O.sum, fsum_cons, fsum_nil, hW, hcw, Nat.div_self (by omega)]; omega
  have h1 := onward_one O
  rw [B.one] at h1
  refine ⟨O.tab, by omega, fun g => ?_, fun x => ?_, by omega, fun _ => by omega, ?_, by omega⟩
  · rw [hs]
    show S1 g r * wy r = S1 g r * (1 * c)
    rw [hcw, Nat.one_mul]
  · rw [O.ends]; simp [endP]
  · have := O.len
    simpa using this
theorem onward2 {r : List Int} {all c : Nat} {K K' : List (List Int)} {W W' : List Int → Nat} (B : Behind 1 r all K W) (O : Onward K W c K' W') : Behind 2 r (all * c) K' W' := by
  have h1 := onward_one O
  rw [B.one, Nat.mul_comm] at h1
  have hc := pos_of_dvd O.div
  have hl := le_of_dvd30 O.div
  have ha := B.less (by omega)
  have hp := B.pos
  have hb : all * c ≤ 30 * L30 := Nat.mul_le_mul ha hl
  obtain ⟨t, ht⟩ := O.div
  refine ⟨O.tab, Nat.mul_pos hp hc, fun g => ?_, fun x => ?_, by unfold L30 at hb; exact hb, fun h => by omega, ?_, h1⟩
  · show tot K' W' g * (wy r * L30) = num2 g r * (all * c)
    have e1 : tot K' W' g = tot K W (fun s => c / wy s * S1 g s) := by
      rw [O.sum]; unfold tot
      exact fsum_congr fun s hs => Nat.mul_assoc _ _ _
    have e2 := B.sum (fun s => c / wy s * S1 g s)
    have e3 : num2 g r = t * fsum (fun s => c / wy s * S1 g s) (nxL r) := by
      unfold num2
      rw [← fsum_mul]
      refine fsum_congr fun s hs => ?_
      have hd : wy s ∣ c := O.each s ((B.ends s).2 hs)
      rw [ht, Nat.mul_comm c t, Nat.mul_div_assoc t hd, Nat.mul_assoc]
    have e4 : tot K W (fun s => c / wy s * S1 g s) * wy r = fsum (fun s => c / wy s * S1 g s) (nxL r) * all := e2
    rw [e1, e3, ht]
    generalize fsum (fun s => c / wy s * S1 g s) (nxL r) = F at *
    generalize tot K W (fun s => c / wy s * S1 g s) = X at *
    have : X * (wy r * (c * t)) = X * wy r * (c * t) := by grind
    rw [this, e4]; grind
  · rw [O.ends]
    constructor
    · rintro ⟨s, hs, hx⟩; exact ⟨s, (B.ends s).1 hs, hx⟩
    · rintro ⟨s, hs, hx⟩; exact ⟨s, (B.ends s).2 hs, hx⟩
  · have := O.len
    have := B.len
    have e : (30 : Nat) ^ 1 = 30 := by decide
    have e2 : (30 : Nat) ^ 2 = 900 := by decide
    omega
/-- The mean that the program reckons. -/
theorem behind_cut {n : Nat} {r : List Int} {all : Nat} {K : List (List Int)} {W : List Int → Nat} (B : Behind n r all K W) (g : List Int → Nat) (hn : n ≤ 2) :
    cutN (tot K W g) all = cutN (numP n g r) (denP n r) ∧ cutD (tot K W g) all = cutD (numP n g r) (denP n r) := by
  have hw := wy_in r
  have hd : 0 < denP n r := by
    match n, hn with
    | 0, _ => exact Nat.one_pos
    | 1, _ => exact hw.1
    | 2, _ => exact Nat.mul_pos hw.1 L30_pos
  exact cut_eq B.pos hd (B.sum g)
theorem behind_le {n : Nat} {r : List Int} {all : Nat} {K : List (List Int)} {W : List Int → Nat} (B : Behind n r all K W) (g : List Int → Nat) (hg : ∀ x ∈ K, g x ≤ 24) : tot K W g ≤ 24 * all := by
  have h1 : tot K W g ≤ 24 * tot K W (fun _ => 1) := by
    unfold tot
    rw [← fsum_mul]
    refine fsum_le fun x hx => ?_
    have := hg x hx
    rw [Nat.mul_one, Nat.mul_comm]
    exact Nat.mul_le_mul_right _ this
  rw [B.one] at h1
  exact h1
end Go.Proofs.Ytalngdccjoafhab.base
end

section
namespace Go.Proofs.Ytalngdccjoafhab.base
set_option linter.unusedVariables false
set_option linter.unusedSimpArgs false

/-- The places of the complete ones of the first k tubes. -/
def cmpl (ns : List Int) : Nat → List Int
  | 0 => []
  | k + 1 => if topN (tub ns k) = 4 then cmpl ns k ++ [(k : Int)] else cmpl ns k
def cmN (ns : List Int) : Nat := (cmpl ns 6).length
theorem cmpl_le (ns : List Int) : ∀ k, (cmpl ns k).length ≤ k
  | 0 => by rw [cmpl]; simp
  | k + 1 => by
    have := cmpl_le ns k
    rw [cmpl]
    split
    · rw [List.length_append, List.length_singleton]; omega
    · omega
theorem cmN_le (ns : List Int) : cmN ns ≤ 6 := cmpl_le ns 6
theorem cmpl_yes {ns : List Int} {k : Nat} (h : topN (tub ns k) = 4) : cmpl ns (k + 1) = cmpl ns k ++ [(k : Int)] := by rw [cmpl, if_pos h]
theorem cmpl_no {ns : List Int} {k : Nat} (h : ¬ topN (tub ns k) = 4) : cmpl ns (k + 1) = cmpl ns k := by rw [cmpl, if_neg h]
theorem cmpl_mem (ns : List Int) (j : Nat) : ∀ k, (j : Int) ∈ cmpl ns k ↔ j < k ∧ topN (tub ns j) = 4
  | 0 => by rw [cmpl]; simp
  | k + 1 => by
    have ih := cmpl_mem ns j k
    by_cases h : topN (tub ns k) = 4
    · rw [cmpl_yes h, List.mem_append, List.mem_singleton, ih]
      constructor
      · rintro (⟨h1, h2⟩ | h1)
        · exact ⟨by omega, h2⟩
        · have : j = k := by omega
          subst this; exact ⟨by omega, h⟩
      · rintro ⟨h1, h2⟩
        by_cases e : j = k
        · right; omega
        · left; exact ⟨by omega, h2⟩
    · rw [cmpl_no h, ih]
      constructor
      · rintro ⟨h1, h2⟩; exact ⟨by omega, h2⟩
      · rintro ⟨h1, h2⟩
        have : j ≠ k := fun e => h (e ▸ h2)
        exact ⟨by omega, h2⟩

/-! the greatest of g 0 .. g k -/
def mxU (g : Nat → Int) : Nat → Int
  | 0 => g 0
  | k + 1 => max (mxU g k) (g (k + 1))
theorem mxU_in {g : Nat → Int} {a b : Int} : ∀ k, (∀ j, j ≤ k → a ≤ g j ∧ g j ≤ b) → a ≤ mxU g k ∧ mxU g k ≤ b
  | 0, h => h 0 (Nat.le_refl _)
  | k + 1, h => by
    have ih := mxU_in k fun j hj => h j (by omega)
    have h1 := h (k + 1) (Nat.le_refl _)
    rw [mxU]; omega
theorem mxU_congr {g h : Nat → Int} : ∀ k, (∀ j, j ≤ k → g j = h j) → mxU g k = mxU h k
  | 0, e => e 0 (Nat.le_refl _)
  | k + 1, e => by rw [mxU, mxU, mxU_congr k fun j hj => e j (by omega), e (k + 1) (Nat.le_refl _)]
theorem mxU_ge {g : Nat → Int} : ∀ k j, j ≤ k → g j ≤ mxU g k
  | 0, j, h => by obtain rfl : j = 0 := by omega
                  exact Int.le_refl _
  | k + 1, j, h => by
    rw [mxU]
    by_cases e : j = k + 1
    · subst e; omega
    · have := mxU_ge (g := g) k j (by omega); omega
theorem mxU_is {g : Nat → Int} : ∀ k, ∃ j, j ≤ k ∧ mxU g k = g j
  | 0 => ⟨0, Nat.le_refl _, rfl⟩
  | k + 1 => by
    obtain ⟨j, hj, e⟩ := mxU_is (g := g) k
    rw [mxU]
    by_cases h : mxU g k ≤ g (k + 1)
    · exact ⟨k + 1, Nat.le_refl _, by omega⟩
    · exact ⟨j, by omega, by omega⟩
/-- The same, begun from a number that is no greater. -/
def mxF (a : Int) (g : Nat → Int) : Nat → Int
  | 0 => a
  | k + 1 => max (mxF a g k) (g k)
theorem mxF_mxU {a : Int} {g : Nat → Int} : ∀ k, (∀ j, j ≤ k → a ≤ g j) → mxF a g (k + 1) = mxU g k
  | 0, h => by rw [mxF, mxF, mxU]; have := h 0 (Nat.le_refl _); omega
  | k + 1, h => by rw [mxF, mxF_mxU k fun j hj => h j (by omega), mxU]
theorem mxF_in {a b : Int} {g : Nat → Int} (hab : a ≤ b) : ∀ k, (∀ j, j < k → g j ≤ b) → a ≤ mxF a g k ∧ mxF a g k ≤ b
  | 0, _ => by rw [mxF]; omega
  | k + 1, h => by
    have ih := mxF_in hab k fun j hj => h j (by omega)
    have h1 := h k (by omega)
    rw [mxF]; omega
/-- At the greatest value that there can be, what follows does not matter. -/
theorem mxF_top {a b : Int} {g : Nat → Int} {k m : Nat} (hkm : k ≤ m) (hab : a ≤ b) (hg : ∀ j, j < m → g j ≤ b) (h : mxF a g k = b) : mxF a g m = b := by
  obtain ⟨d, rfl⟩ : ∃ d, m = k + d := ⟨m - k, by omega⟩
  induction d with
  | zero => exact h
  | succ d ih =>
    have ih := ih (by omega) fun j hj => hg j (by omega)
    have h1 := hg (k + d) (by omega)
    rw [show k + (d + 1) = k + d + 1 by omega, mxF, ih]; omega

/-! values -/
def gbest (pt : List Int → Nat → Int) (no : Int) (V : List Int → Int) (ns : List Int) : Int :=
  if usefNA ns = 0 then no else mxU (fun k => pt ns k - V (nxR ns k)) (usefNA ns - 1)
def gval (pt : List Int → Nat → Int) (no : Int) : Nat → List Int → Int
  | 0, _ => 0
  | n + 1, ns => gbest pt no (gval pt no n) ns
def ptE (ns : List Int) (k : Nat) : Int := 0
def ptT (ns : List Int) (k : Nat) : Int := (cmN (nxR ns k) : Int) - (cmN ns : Int)
theorem ptT_in (ns : List Int) (k : Nat) : -6 ≤ ptT ns k ∧ ptT ns k ≤ 6 := by
  have h1 := cmN_le (nxR ns k)
  have h2 := cmN_le ns
  unfold ptT; omega
theorem gbest_in {pt : List Int → Nat → Int} {no a b c d : Int} {V : List Int → Int} (hp : ∀ ns k, a ≤ pt ns k ∧ pt ns k ≤ b) (hV : ∀ l, c ≤ V l ∧ V l ≤ d) (hn : a - d ≤ no ∧ no ≤ b - c) (ns : List Int) : a - d ≤ gbest pt no V ns ∧ gbest pt no V ns ≤ b - c := by
  unfold gbest
  split
  · exact hn
  · refine mxU_in _ fun j _ => ?_
    have h1 := hp ns j
    have h2 := hV (nxR ns j)
    omega
theorem gvalE_in : ∀ n ns, -1 ≤ gval ptE (-1) n ns ∧ gval ptE (-1) n ns ≤ 1
  | 0, ns => by rw [gval]; omega
  | n + 1, ns => by
    have h := gbest_in (pt := ptE) (no := -1) (a := 0) (b := 0) (fun ns k => ⟨Int.le_refl _, Int.le_refl _⟩) (gvalE_in n) (by omega) ns
    rw [gval]; omega
theorem gvalT_in : ∀ (n : Nat) ns, -6 * (n : Int) ≤ gval ptT 0 n ns ∧ gval ptT 0 n ns ≤ 6 * n
  | 0, ns => by rw [gval]; omega
  | n + 1, ns => by
    have h := gbest_in (pt := ptT) (no := 0) ptT_in (gvalT_in n) (by omega) ns
    rw [gval]; omega
theorem gbest_congr {pt : List Int → Nat → Int} {no : Int} {V W : List Int → Int} {ns : List Int} (h : ∀ k, k < usefNA ns → V (nxR ns k) = W (nxR ns k)) : gbest pt no V ns = gbest pt no W ns := by
  unfold gbest
  split
  · rfl
  · exact mxU_congr _ fun j hj => by rw [h j (by omega)]
/-- The pours that are worth b, flat, of the first k. -/
def bpF (pt : List Int → Nat → Int) (V : List Int → Int) (ns : List Int) (b : Int) : Nat → List Int
  | 0 => []
  | k + 1 => if pt ns k - V (nxR ns k) = b then bpF pt V ns b k ++ [upX ns k, upY ns k] else bpF pt V ns b k
def bpN (pt : List Int → Nat → Int) (V : List Int → Int) (ns : List Int) (b : Int) (k : Nat) : Nat := (bpF pt V ns b k).length / 2
theorem bp0 (pt : List Int → Nat → Int) (V : List Int → Int) (ns : List Int) (b : Int) : bpN pt V ns b 0 = 0 ∧ bpF pt V ns b 0 = [] := ⟨by unfold bpN; rw [bpF]; rfl, rfl⟩
theorem bp_le (pt : List Int → Nat → Int) (V : List Int → Int) (ns : List Int) (b : Int) : ∀ k, bpN pt V ns b k ≤ k ∧ (bpF pt V ns b k).length = bpN pt V ns b k * 2
  | 0 => by rw [(bp0 pt V ns b).1, (bp0 pt V ns b).2]; simp
  | k + 1 => by
    have h := bp_le pt V ns b k
    unfold bpN at *
    rw [bpF]
    split
    · rw [List.length_append, List.length_cons, List.length_singleton]; omega
    · omega
theorem bp_yes {pt : List Int → Nat → Int} {V : List Int → Int} {ns : List Int} {b : Int} {k : Nat} (h : pt ns k - V (nxR ns k) = b) : bpF pt V ns b (k + 1) = bpF pt V ns b k ++ [upX ns k, upY ns k] ∧ bpN pt V ns b (k + 1) = bpN pt V ns b k + 1 := by
  have e : bpF pt V ns b (k + 1) = bpF pt V ns b k ++ [upX ns k, upY ns k] := by rw [bpF, if_pos h]
  exact ⟨e, by unfold bpN; rw [e, List.length_append]; simp⟩
theorem bp_no {pt : List Int → Nat → Int} {V : List Int → Int} {ns : List Int} {b : Int} {k : Nat} (h : ¬ pt ns k - V (nxR ns k) = b) : bpF pt V ns b (k + 1) = bpF pt V ns b k ∧ bpN pt V ns b (k + 1) = bpN pt V ns b k := by
  have e : bpF pt V ns b (k + 1) = bpF pt V ns b k := by rw [bpF, if_neg h]
  exact ⟨e, by unfold bpN; rw [e]⟩
theorem bp_congr {pt : List Int → Nat → Int} {V W : List Int → Int} {ns : List Int} {b : Int} : ∀ k, (∀ j, j < k → V (nxR ns j) = W (nxR ns j)) → bpF pt V ns b k = bpF pt W ns b k
  | 0, _ => rfl
  | k + 1, h => by rw [bpF, bpF, bp_congr k (fun j hj => h j (by omega)), h k (by omega)]

/-! useful pours, by their places -/
theorem in_usefI (ns : List Int) (x y : Int) : ∀ m, m ≤ poursN ns 36 → inL (usefF ns m) x y → ∃ j, j < m ∧ idl ns (fstP ns j) (sndP ns j) = false ∧ x = (fstP ns j : Int) ∧ y = (sndP ns j : Int)
  | 0, _, h => absurd ((usef0 ns).2 ▸ h) (inL_nil x y)
  | m + 1, hm, h => by
    cases hc : idl ns (fstP ns m) (sndP ns m) with
    | true =>
      obtain ⟨e, _⟩ := usef_idle hc
      rw [e] at h
      obtain ⟨j, hj, r⟩ := in_usefI ns x y m (by omega) h
      exact ⟨j, by omega, r⟩
    | false =>
      obtain ⟨e, _⟩ := usef_new hc
      rw [e, inL_app (usefF_len ns m)] at h
      rcases h with h | ⟨h1, h2⟩
      · obtain ⟨j, hj, r⟩ := in_usefI ns x y m (by omega) h
        exact ⟨j, by omega, r⟩
      · exact ⟨m, by omega, hc, h1, h2⟩
theorem up_natG {ns : List Int} (G : GR ns) (k : Nat) (hk : k < usefNA ns) : ∃ p q : Nat, p < 6 ∧ q < 6 ∧ p ≠ q ∧ 0 < canN (tub ns p) (tub ns q) ∧ idl ns p q = false ∧ upX ns k = (p : Int) ∧ upY ns k = (q : Int) ∧ nxR ns k = pourT ns p q ∧ pourOk ns (p : Int) (q : Int) = true := by
  obtain ⟨hok, p, q, hp, hq, hx, hy⟩ := up_ok G k hk
  rw [hx, hy] at hok
  have h2 : twoOk ns (p : Int) (q : Int) = true := by unfold pourOk at hok; exact (Bool.and_eq_true_iff.1 hok).1
  obtain ⟨_, p2, q2, e1, e2, _, _, hne⟩ := twoOk_of h2
  have hpos : 0 < canN (tub ns p) (tub ns q) := by unfold pourOk at hok; simpa using (Bool.and_eq_true_iff.1 hok).2
  have hin : inL (usefF ns (poursN ns 36)) (upX ns k) (upY ns k) := by
    have h3 : inL (usefFA ns) (upX ns k) (upY ns k) := ⟨k, by rw [usefFA_len]; omega, rfl, rfl⟩
    unfold usefFA at h3; rw [if_pos G.2] at h3; exact h3
  obtain ⟨j, hj, hid, h4, h5⟩ := in_usefI ns _ _ _ (Nat.le_refl _) hin
  rw [hx] at h4
  rw [hy] at h5
  have e3 : fstP ns j = p := by omega
  have e4 : sndP ns j = q := by omega
  rw [e3, e4] at hid
  refine ⟨p, q, hp, hq, by omega, hpos, hid, hx, hy, ?_, hok⟩
  unfold nxR
  rw [hx, hy]
  unfold pourR
  rw [if_pos hok]; simp
/-- A pour completes the tube that it goes to. -/
def cpl (ns : List Int) (k : Nat) : Bool := decide (topN (tub (nxR ns k) (upY ns k).toNat) = 4)
def anyC (ns : List Int) (k : Nat) : Bool := (List.range k).any (cpl ns)
theorem anyC_succ (ns : List Int) (k : Nat) : anyC ns (k + 1) = (anyC ns k || cpl ns k) := by
  unfold anyC; rw [List.range_succ, List.any_append]; simp
/-- The pours behind which a tube can be completed, flat, of the first k. -/
def hurF (ns : List Int) : Nat → List Int
  | 0 => []
  | k + 1 => if anyC (nxR ns k) (usefNA (nxR ns k)) = true then hurF ns k ++ [upX ns k, upY ns k] else hurF ns k
def hurN (ns : List Int) (k : Nat) : Nat := (hurF ns k).length / 2
theorem hur0 (ns : List Int) : hurN ns 0 = 0 ∧ hurF ns 0 = [] := ⟨by unfold hurN; rw [hurF]; rfl, rfl⟩
theorem hur_le (ns : List Int) : ∀ k, hurN ns k ≤ k ∧ (hurF ns k).length = hurN ns k * 2
  | 0 => by rw [(hur0 ns).1, (hur0 ns).2]; simp
  | k + 1 => by
    have h := hur_le ns k
    unfold hurN at *
    rw [hurF]
    split
    · rw [List.length_append, List.length_cons, List.length_singleton]; omega
    · omega
theorem hur_yes {ns : List Int} {k : Nat} (h : anyC (nxR ns k) (usefNA (nxR ns k)) = true) : hurF ns (k + 1) = hurF ns k ++ [upX ns k, upY ns k] ∧ hurN ns (k + 1) = hurN ns k + 1 := by
  have e : hurF ns (k + 1) = hurF ns k ++ [upX ns k, upY ns k] := by rw [hurF, if_pos h]
  exact ⟨e, by unfold hurN; rw [e, List.length_append]; simp⟩
theorem hur_no {ns : List Int} {k : Nat} (h : anyC (nxR ns k) (usefNA (nxR ns k)) = false) : hurF ns (k + 1) = hurF ns k ∧ hurN ns (k + 1) = hurN ns k := by
  have e : hurF ns (k + 1) = hurF ns k := by rw [hurF, if_neg (by rw [h]; simp)]
  exact ⟨e, by unfold hurN; rw [e]⟩
def replF (ns : List Int) (k : Nat) : List Int := (List.range k).map fun j => (usefNA (nxR ns j) : Int)
theorem replF_len (ns : List Int) (k : Nat) : (replF ns k).length = k := by unfold replF; rw [List.length_map, List.length_range]
theorem replF_succ (ns : List Int) (k : Nat) : replF ns (k + 1) = replF ns k ++ [(usefNA (nxR ns k) : Int)] := by unfold replF; rw [List.range_succ, List.map_append]; rfl
/-- A turn: its places and the rack behind it. -/
def trn (ns : List Int) (k : Nat) : List Int := upX ns k :: upY ns k :: nxR ns k
def trL (ns : List Int) (k : Nat) : List (List Int) := (List.range k).map (trn ns)
theorem trL_len (ns : List Int) (k : Nat) : (trL ns k).length = k := by unfold trL; rw [List.length_map, List.length_range]
theorem trL_succ (ns : List Int) (k : Nat) : trL ns (k + 1) = trL ns k ++ [trn ns k] := by unfold trL; rw [List.range_succ, List.map_append]; rfl
theorem trL_get (ns : List Int) {k N : Nat} (h : k < N) : (trL ns N).getD k [] = trn ns k := by
  unfold trL; rw [List.getD_eq_getElem?_getD, List.getElem?_map, List.getElem?_range h]; rfl
end Go.Proofs.Ytalngdccjoafhab.base
end
