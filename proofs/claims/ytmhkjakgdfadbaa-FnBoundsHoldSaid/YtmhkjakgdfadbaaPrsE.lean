/-
  Equal rows of pairs are told equal, walked.
-/
import Derived.Test.YtmhkjakgdfadbaaPrsL
namespace Go.Proofs.Ytmhkjakgdfadbaa.base
open Go.ChangeShapes Go.WideShapes Go.ChangeAt Go.RowKit
set_option linter.unusedVariables false
set_option linter.unusedSimpArgs false

def pr (fs : List Int) (k : Nat) : List Int := (fs.drop (k * 2)).take 2
theorem pr_len (fs : List Int) (k n : Nat) (h : fs.length = n * 2) (hk : k < n) : (pr fs k).length = 2 := by
  unfold pr; rw [List.length_take, List.length_drop]; omega
theorem Prs.range {w : World} {b g cap n : Nat} {fs : List Int} (h : Prs w b (.slice (some ⟨g, 0, Option.none⟩) n cap) n fs) (k : Nat) (hk : k < n) : w.rangeAt g (k * 2) (ints (pr fs k)) := by
  intro j v hv
  have hl := pr_len fs k n h.flat hk
  have hj : j < 2 := by
    rcases Nat.lt_or_ge j 2 with h1 | h1
    · exact h1
    · rw [List.getElem?_eq_none (by rw [ints_len, hl]; exact h1)] at hv; cases hv
  rw [h.cell (k * 2 + j) (by omega), ← hv, ints_get _ _ (by rw [hl]; exact hj)]
  unfold pr
  rw [List.getD_eq_getElem?_getD, List.getD_eq_getElem?_getD, List.getElem?_take, if_pos hj, List.getElem?_drop]

end Go.Proofs.Ytmhkjakgdfadbaa.base
