/-
  The rack that a view and its hidden layers make: plain mathematics.
-/
import Derived.Test.YtemiljokdedidacVwM
import Derived.Test.YtemiljokdedidacHold
namespace Go.Proofs.Ytemiljokdedidac.base
set_option linter.unusedVariables false
set_option linter.unusedSimpArgs false

/-- How many hidden layers lie in the first tubes. -/
def offB (vs : List Int) (i : Nat) : Nat := (belUp vs i).toNat
def madAt (vs hs : List Int) (i q : Nat) : Int := if (q : Int) < vMany vs i - 1 then hs.getD (offB vs i + q) 0 else if (q : Int) = vMany vs i - 1 then vTop vs i else 0
def madT (vs hs : List Int) (i : Nat) : List Int := [madAt vs hs i 0, madAt vs hs i 1, madAt vs hs i 2, madAt vs hs i 3]
def madF (vs hs : List Int) (k j : Nat) : Int := if j / 4 < k then madAt vs hs (j / 4) (j % 4) else 0
def madR (vs hs : List Int) (k : Nat) : List Int := (List.range 24).map (madF vs hs k)
theorem madR_len (vs hs : List Int) (k : Nat) : (madR vs hs k).length = 24 := by unfold madR; rw [List.length_map, List.length_range]
theorem madR_getD (vs hs : List Int) (k j : Nat) (hj : j < 24) : (madR vs hs k).getD j 0 = madF vs hs k j := by
  unfold madR
  rw [List.getD_eq_getElem?_getD, List.getElem?_map, List.getElem?_range hj]; rfl
theorem madR_zero (vs hs : List Int) : madR vs hs 0 = [0, 0, 0, 0, 0, 0, 0, 0, 0, 0, 0, 0, 0, 0, 0, 0, 0, 0, 0, 0, 0, 0, 0, 0] := by
  unfold madR madF
  simp [List.range_succ]
theorem madR_tub (vs hs : List Int) (k i : Nat) (hi : i < 6) : tub (madR vs hs k) i = if i < k then madT vs hs i else [0, 0, 0, 0] := by
  have hl := tub_len (madR vs hs k) i (madR_len vs hs k) hi
  have g : ∀ q, q < 4 → (tub (madR vs hs k) i).getD q 0 = if i < k then madAt vs hs i q else 0 := fun q hq => by
    rw [tub_getD _ _ _ hq, madR_getD _ _ _ _ (by omega)]
    unfold madF
    rw [show (i * 4 + q) / 4 = i by omega, show (i * 4 + q) % 4 = q by omega]
  obtain ⟨a, b, c, d, e⟩ := len4 hl
  rw [e] at g ⊢
  have g0 := g 0 (by omega); have g1 := g 1 (by omega); have g2 := g 2 (by omega); have g3 := g 3 (by omega)
  simp at g0 g1 g2 g3
  by_cases h : i < k
  · rw [if_pos h] at g0 g1 g2 g3 ⊢
    unfold madT
    rw [g0, g1, g2, g3]
  · rw [if_neg h] at g0 g1 g2 g3 ⊢
    rw [g0, g1, g2, g3]
/-- A part of a tube is put where it was empty. -/
theorem madR_step (vs hs : List Int) (i m : Nat) (hi : i < 6) (fs : List Int) (hf : fs.length = m) (hm : m ≤ 4) (hq : ∀ q, q < m → fs.getD q 0 = madAt vs hs i q) (hz : ∀ q, m ≤ q → q < 4 → madAt vs hs i q = 0) :
    (madR vs hs i).take (i * 4) ++ fs ++ (madR vs hs i).drop (i * 4 + fs.length) = madR vs hs (i + 1) := by
  have l1 := madR_len vs hs i
  apply List.ext_getElem?
  intro j
  have hlen : ((madR vs hs i).take (i * 4) ++ fs ++ (madR vs hs i).drop (i * 4 + fs.length)).length = 24 := by
    simp [l1, hf]; omega
  by_cases hj : j < 24
  · have hl2 : ((madR vs hs i).take (i * 4)).length = i * 4 := by rw [List.length_take, l1]; omega
    have e : ((madR vs hs i).take (i * 4) ++ fs ++ (madR vs hs i).drop (i * 4 + fs.length)).getD j 0 = (madR vs hs (i + 1)).getD j 0 := by
      rw [madR_getD _ _ _ _ hj]
      by_cases h1 : j < i * 4
      · rw [List.getD_eq_getElem?_getD, List.append_assoc, List.getElem?_append_left (by omega), List.getElem?_take, if_pos h1, ← List.getD_eq_getElem?_getD, madR_getD _ _ _ _ hj]
        unfold madF
        rw [if_pos (by omega), if_pos (by omega)]
      · by_cases h2 : j < i * 4 + m
        · rw [List.getD_eq_getElem?_getD, List.append_assoc, List.getElem?_append_right (by omega), hl2, List.getElem?_append_left (by omega), ← List.getD_eq_getElem?_getD, hq _ (by omega)]
          unfold madF
          rw [if_pos (by omega), show j / 4 = i by omega, show j % 4 = j - i * 4 by omega]
        · rw [List.getD_eq_getElem?_getD, List.getElem?_append_right (by rw [List.length_append]; omega), List.length_append, hl2, hf, List.getElem?_drop, show i * 4 + m + (j - (i * 4 + m)) = j by omega, ← List.getD_eq_getElem?_getD, madR_getD _ _ _ _ hj]
          unfold madF
          rw [if_neg (by omega)]
          by_cases h3 : j / 4 < i + 1
          · rw [if_pos h3, show j / 4 = i by omega, show j % 4 = j - i * 4 by omega, hz _ (by omega) (by omega)]
          · rw [if_neg h3]
    rw [List.getD_eq_getElem?_getD, List.getD_eq_getElem?_getD] at e
    rw [List.getElem?_eq_getElem (by omega), List.getElem?_eq_getElem (by rw [madR_len]; omega)] at e ⊢
    simpa using e
  · rw [List.getElem?_eq_none (by omega), List.getElem?_eq_none (by rw [madR_len]; omega)]
theorem offB_succ {vs : List Int} (ht : topV vs = true) (i m : Nat) (hi : i < 6) (hm : vMany vs i = (m : Int)) : offB vs (i + 1) = offB vs i + (m - 1) := by
  have h1 := belUp_in ht i (by omega)
  unfold offB
  rw [belUp, hm]
  split <;> omega
theorem offB_le {vs : List Int} (ht : topV vs = true) (i : Nat) (hi : i ≤ 6) : offB vs i ≤ offB vs 6 := by
  have key : ∀ k, i ≤ k → k ≤ 6 → belUp vs i ≤ belUp vs k := by
    intro k
    induction k with
    | zero => intro h1 _; obtain rfl : i = 0 := by omega
              exact Int.le_refl _
    | succ k ih =>
      intro h1 h2
      by_cases e : i = k + 1
      · subst e; exact Int.le_refl _
      · have := ih (by omega) (by omega)
        have := topV_at ht k (by omega)
        rw [belUp]; split <;> omega
  have := key 6 hi (by omega)
  unfold offB; omega
end Go.Proofs.Ytemiljokdedidac.base
