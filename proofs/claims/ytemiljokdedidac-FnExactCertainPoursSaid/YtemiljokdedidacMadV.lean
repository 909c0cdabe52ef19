/-
  The tubes of a candidate: as many layers and the tops that the view tells: plain mathematics.
-/
import Derived.Test.YtemiljokdedidacMadMZ
import Derived.Test.YtemiljokdedidacVwMZ
namespace Go.Proofs.Ytemiljokdedidac.base
set_option linter.unusedVariables false
set_option linter.unusedSimpArgs false

def fullT (t : List Int) : Bool := (List.range 5).all fun m => !(((List.range 4).all fun q => decide (0 < t.getD q 0) == decide (q < m))) || (lay t == m && (m == 0 || topC t == t.getD (m - 1) 0) && vT t)
theorem fullT_all : all4.all fullT = true := by decide +kernel
theorem mem_all4 {t : List Int} (h : t.length = 4) (hk : ∀ q, q < 4 → 0 ≤ t.getD q 0 ∧ t.getD q 0 ≤ 5) : t ∈ all4 := by
  obtain ⟨a, b, c, d, rfl⟩ := len4 h
  have h0 := hk 0 (by omega); have h1 := hk 1 (by omega); have h2 := hk 2 (by omega); have h3 := hk 3 (by omega)
  simp at h0 h1 h2 h3
  simp only [all4, List.mem_flatMap, List.mem_map]
  exact ⟨a, mem_six a h0, b, mem_six b h1, c, mem_six c h2, d, mem_six d h3, rfl⟩
theorem full_tube {t : List Int} (h : t.length = 4) (m : Nat) (hm : m ≤ 4) (h1 : ∀ q, q < m → 1 ≤ t.getD q 0 ∧ t.getD q 0 ≤ 5) (h0 : ∀ q, m ≤ q → q < 4 → t.getD q 0 = 0) : lay t = m ∧ (0 < m → topC t = t.getD (m - 1) 0) ∧ vT t = true := by
  have hk : ∀ q, q < 4 → 0 ≤ t.getD q 0 ∧ t.getD q 0 ≤ 5 := fun q hq => by
    by_cases e : q < m
    · have := h1 q e; omega
    · rw [h0 q (by omega) hq]; omega
  have hP := List.all_eq_true.1 fullT_all t (mem_all4 h hk)
  have hPm := List.all_eq_true.1 hP m (by simp; omega)
  have hc : ((List.range 4).all fun q => decide (0 < t.getD q 0) == decide (q < m)) = true := by
    refine List.all_eq_true.2 fun q hq => ?_
    have hq := List.mem_range.1 hq
    by_cases e : q < m
    · have := h1 q e
      rw [decide_eq_true e, decide_eq_true (by omega)]; rfl
    · rw [decide_eq_false e, h0 q (by omega) hq]; rfl
  rw [hc] at hPm
  simp only [Bool.not_true, Bool.false_or, Bool.and_eq_true, beq_iff_eq, Bool.or_eq_true] at hPm
  obtain ⟨⟨a, b⟩, c⟩ := hPm
  exact ⟨a, fun hp => by rcases b with b | b; omega; exact b, c⟩
theorem madT_len (vs hs : List Int) (i : Nat) : (madT vs hs i).length = 4 := rfl
theorem madT_getD (vs hs : List Int) (i q : Nat) (hq : q < 4) : (madT vs hs i).getD q 0 = madAt vs hs i q := by
  match q, hq with
  | 0, _ => rfl
  | 1, _ => rfl
  | 2, _ => rfl
  | 3, _ => rfl
structure MadFacts (vs hs : List Int) (i : Nat) : Prop where
  lay : (lay (madT vs hs i) : Int) = vMany vs i
  top : topC (madT vs hs i) = vTop vs i
  valid : vT (madT vs hs i) = true
/-- The colors are all colors. -/
def ColL (hs : List Int) (n : Nat) : Prop := ∀ k, k < n → 1 ≤ hs.getD k 0 ∧ hs.getD k 0 ≤ 5
theorem madFacts {vs hs : List Int} (ht : topV vs = true) (hc : ColL hs (offB vs 6)) (i : Nat) (hi : i < 6) : MadFacts vs hs i := by
  have T := topV_at ht i hi
  obtain ⟨m, hm⟩ : ∃ m : Nat, vMany vs i = (m : Int) := ⟨(vMany vs i).toNat, by omega⟩
  have os := offB_succ ht i m hi hm
  have ol := offB_le ht (i + 1) (by omega)
  have AT : ∀ q, madAt vs hs i q = if q + 1 < m then hs.getD (offB vs i + q) 0 else if q + 1 = m then vTop vs i else 0 := fun q => by
    unfold madAt
    rw [hm]
    by_cases h1 : q + 1 < m
    · rw [if_pos h1, if_pos (by omega)]
    · rw [if_neg h1, if_neg (by omega)]
      by_cases h2 : q + 1 = m
      · rw [if_pos h2, if_pos (by omega)]
      · rw [if_neg h2, if_neg (by omega)]
  obtain ⟨a, b, c⟩ := full_tube (madT_len vs hs i) m (by omega) (fun q hq => by
    rw [madT_getD _ _ _ _ (by omega), AT]
    by_cases h1 : q + 1 < m
    · rw [if_pos h1]; exact hc _ (by omega)
    · rw [if_neg h1, if_pos (by omega)]; omega) (fun q h1 h2 => by
    rw [madT_getD _ _ _ _ h2, AT, if_neg (by omega), if_neg (by omega)])
  refine ⟨by rw [a, hm], ?_, c⟩
  by_cases h0 : 0 < m
  · rw [b h0, madT_getD _ _ _ _ (by omega), AT, if_neg (by omega), if_pos (by omega)]
  · have e : m = 0 := by omega
    subst e
    have F := tubeFacts (madT_len vs hs i) c
    rw [F.noneC.2 (F.none.1 a)]
    omega
theorem madR_valid {vs hs : List Int} (ht : topV vs = true) (hc : ColL hs (offB vs 6)) : vR (madR vs hs 6) = true := vR_of fun i hi => by
  rw [madR_tub vs hs 6 i hi, if_pos hi]; exact (madFacts ht hc i hi).valid
/-- One can pour by a view. -/
def canV (vs : List Int) (i j : Nat) : Bool := decide (i ≠ j) && decide (0 < vMany vs i) && decide (vMany vs j < 4) && (decide (vMany vs j = 0) || decide (vTop vs i = vTop vs j))
theorem can_mad {vs hs : List Int} (ht : topV vs = true) (hc : ColL hs (offB vs 6)) (i j : Nat) (hi : i < 6) (hj : j < 6) (hne : i ≠ j) : decide (0 < canN (tub (madR vs hs 6) i) (tub (madR vs hs 6) j)) = canV vs i j := by
  have A := madFacts ht hc i hi
  have B := madFacts ht hc j hj
  rw [madR_tub vs hs 6 i hi, if_pos hi, madR_tub vs hs 6 j hj, if_pos hj]
  have FA := tubeFacts (madT_len vs hs i) A.valid
  have a1 := A.lay
  have a2 := A.top
  have b1 := B.lay
  have b2 := B.top
  have n1 := FA.none
  have l4 := (tubeFacts (madT_len vs hs j) B.valid).lay4
  unfold canV
  rw [decide_eq_true hne, Bool.true_and, ← a1, ← a2, ← b1, ← b2]
  generalize madT vs hs i = s at *
  generalize madT vs hs j = t at *
  rw [Bool.eq_iff_iff]
  simp only [Bool.and_eq_true, Bool.or_eq_true, decide_eq_true_eq]
  unfold canN
  by_cases h0 : lay t ≠ 0 ∧ topC t ≠ topC s
  · rw [if_pos h0]
    constructor
    · intro h; omega
    · rintro ⟨⟨h1, h2⟩, h3 | h3⟩
      · omega
      · exact absurd h3.symm h0.2
  · rw [if_neg h0]
    constructor
    · intro h
      refine ⟨⟨by omega, by omega⟩, ?_⟩
      by_cases e : lay t = 0
      · left; omega
      · right
        have : ¬ topC t ≠ topC s := fun hh => h0 ⟨e, hh⟩
        exact (Decidable.of_not_not this).symm
    · rintro ⟨⟨h1, h2⟩, _⟩
      omega
end Go.Proofs.Ytemiljokdedidac.base
