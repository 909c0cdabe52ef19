/-
  What is asked of one tube of a rack, on both sides: layers and tops, walked.
-/
import Derived.Test.YtnldnjnnjfbhnaaSpecW
namespace Go.Proofs.Ytnldnjnnjfbhnaa.base
open Go.ChangeShapes Go.WideShapes Go.ChangeAt Go.RowKit
set_option linter.unusedVariables false
set_option linter.unusedSimpArgs false

theorem topOk_not {ns : List Int} {i : Int} (h : inR ns i = false) : topOk ns i = false := by unfold topOk; rw [h]; rfl
end Go.Proofs.Ytnldnjnnjfbhnaa.base
