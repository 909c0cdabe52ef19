/-
  The candidate with a rank, on the model's side, walked.
-/
import Derived.Test.YtemiljokdedidacWhW
import Derived.Test.YtemiljokdedidacOrdW
import Derived.Test.YtemiljokdedidacVwS3
namespace Go.Proofs.Ytemiljokdedidac.base
open Go.ChangeShapes Go.WideShapes Go.ChangeAt Go.RowKit
set_option linter.unusedVariables false
set_option linter.unusedSimpArgs false

/-- The rack while a tube is filled. -/
def madG (vs hs : List Int) (i k j : Nat) : Int := if j / 4 < i then madAt vs hs (j / 4) (j % 4) else if j / 4 = i ∧ j % 4 < k then madAt vs hs i (j % 4) else 0
def madK (vs hs : List Int) (i k : Nat) : List Int := (List.range 24).map (madG vs hs i k)
theorem madK_len (vs hs : List Int) (i k : Nat) : (madK vs hs i k).length = 24 := by unfold madK; rw [List.length_map, List.length_range]
theorem madK_zero (vs hs : List Int) (i : Nat) : madK vs hs i 0 = madR vs hs i := by
  unfold madK madR
  apply List.map_congr_left
  intro j hj
  unfold madF madG
  by_cases h : j / 4 < i
  · rw [if_pos h, if_pos h]
  · rw [if_neg h, if_neg h, if_neg (by omega)]
theorem madK_set (vs hs : List Int) (i k : Nat) (hk : k < 4) : (madK vs hs i k).set (i * 4 + k) (madAt vs hs i k) = madK vs hs i (k + 1) := by
  unfold madK
  have e : madAt vs hs i k = madG vs hs i (k + 1) (i * 4 + k) := by
    unfold madG
    rw [if_neg (by omega), if_pos (by omega), show (i * 4 + k) % 4 = k by omega]
  rw [e]
  refine range_set 24 _ _ (i * 4 + k) fun j hj => ?_
  unfold madG
  by_cases h : j / 4 < i
  · rw [if_pos h, if_pos h]
  · rw [if_neg h, if_neg h]
    by_cases h2 : j / 4 = i ∧ j % 4 < k
    · rw [if_pos h2, if_pos (by omega)]
    · rw [if_neg h2, if_neg (by omega)]
theorem madK_end (vs hs : List Int) (i m : Nat) (hm : vMany vs i = (m : Int)) : madK vs hs i m = madR vs hs (i + 1) := by
  unfold madK madR
  apply List.map_congr_left
  intro j hj
  unfold madF madG
  by_cases h : j / 4 < i
  · rw [if_pos h, if_pos (by omega)]
  · rw [if_neg h]
    by_cases h2 : j / 4 = i
    · rw [if_pos (show j / 4 < i + 1 by omega), h2]
      by_cases h3 : j % 4 < m
      · rw [if_pos ⟨rfl, h3⟩]
      · rw [if_neg (by omega)]
        unfold madAt
        rw [hm, if_neg (by omega), if_neg (by omega)]
    · rw [if_neg (by omega), if_neg (by omega)]

theorem Has.mCellX {w : World} {b : Nat} {vs : List Int} {x : Int} (h : Has w b vs 18) (k : Nat) (hk : k < 6) (e : vMany vs k = x) : w.cell? ⟨b, 6 + k, none⟩ = some (.int .i64 x) := by
  have := h.vCell 1 k (by omega) hk
  have e2 : (prt vs 1).getD k 0 = x := e
  rw [e2] at this
  simp only [Nat.one_mul] at this
  exact this
theorem backV (s : List Int) (c : Nat) (h : c < s.length) : (less1 s c).set c (s.getD c 0 - 1 + 1) = s := by
  unfold less1
  rw [List.set_set, show s.getD c 0 - 1 + 1 = s.getD c 0 by omega]
  apply List.ext_getElem?
  intro j
  rw [List.getElem?_set]
  split
  · rename_i e; subst e
    rw [List.getD_eq_getElem?_getD, List.getElem?_eq_getElem h]; rfl
  · rfl

end Go.Proofs.Ytemiljokdedidac.base
