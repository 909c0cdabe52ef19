/-
  Rows of chosen pairs: what is in them.
-/
import Derived.Test.YtglhinihhlmgeacEqRZ
import Derived.Test.YtglhinihhlmgeacByS
import Derived.Test.YtglhinihhlmgeacRwZ
namespace Go.Proofs.Ytglhinihhlmgeac.base
open Go.ChangeShapes Go.WideShapes Go.ChangeAt Go.RowKit
set_option linter.unusedVariables false
set_option linter.unusedSimpArgs false

theorem in_pF (P : Nat → Nat → Bool) : ∀ m, m ≤ 36 → ∀ j, j < pN P m → ∃ p q : Nat, p < 6 ∧ q < 6 ∧ P p q = true ∧ (pF P m).getD (j * 2) 0 = (p : Int) ∧ (pF P m).getD (j * 2 + 1) 0 = (q : Int)
  | 0, _, j, hj => by rw [(p0 P).1] at hj; omega
  | m + 1, hm, j, hj => by
    have ih := in_pF P m (by omega)
    have hl := pF_len P m
    by_cases h : P (m / 6) (m % 6) = true
    · have e1 : pF P (m + 1) = pF P m ++ [((m / 6 : Nat) : Int), ((m % 6 : Nat) : Int)] := by rw [pF, if_pos h]
      have e2 : pN P (m + 1) = pN P m + 1 := by
        unfold pN; rw [e1, List.length_append]; simp
      rw [e2] at hj
      rw [e1]
      by_cases hj2 : j < pN P m
      · obtain ⟨p, q, h1, h2, h3, h4, h5⟩ := ih j hj2
        exact ⟨p, q, h1, h2, h3, by rw [getD_app_left (by omega)]; exact h4, by rw [getD_app_left (by omega)]; exact h5⟩
      · obtain rfl : j = pN P m := by omega
        refine ⟨m / 6, m % 6, by omega, by omega, h, ?_, ?_⟩
        · rw [← hl]; exact getD_app_0
        · rw [← hl]; exact getD_app_1
    · have e1 : pF P (m + 1) = pF P m := by rw [pF, if_neg h]
      have e2 : pN P (m + 1) = pN P m := by unfold pN; rw [e1]
      rw [e2] at hj
      rw [e1]
      exact ih j hj
theorem range_prP {w : World} {b n g cap : Nat} {fs : List Int} {x y : Int} (h : Rw w b (.slice (some ⟨g, 0, Option.none⟩) n cap) n fs) (k : Nat) (hk : k < n) (hx : fs.getD (k * 2) 0 = x) (hy : fs.getD (k * 2 + 1) 0 = y) : w.rangeAt g (k * 2) (ints [x, y]) :=
  range_twoP (h.cellX (by omega) hx) (h.cellX (by omega) hy)

/-- What the rules up to the r-th allow. -/
def cb (ns ds : List Int) : Nat → Nat → Nat → Bool
  | 0 => fun _ _ => true
  | r + 1 => fun p q => cb ns ds r p q && byP ns ds ((r + 1 : Nat) : Int) p q
theorem cb_co (ns ds : List Int) (p q : Nat) : (byP ns ds 1 p q && cb ns ds 4 p q) = coP ns ds 3 p q := by
  show (byP ns ds 1 p q && ((((true && byP ns ds 1 p q) && byP ns ds 2 p q) && byP ns ds 3 p q) && byP ns ds 4 p q)) = (((byP ns ds 1 p q && byP ns ds 2 p q) && byP ns ds 3 p q) && byP ns ds 4 p q)
  cases byP ns ds 1 p q <;> simp
end Go.Proofs.Ytglhinihhlmgeac.base
