/-
  Which pours are useful, on the program's side, walked.
-/
import Derived.Test.YtalngdccjoafhabUseS
namespace Go.Proofs.Ytalngdccjoafhab.base
open Go.ChangeShapes Go.WideShapes Go.ChangeAt Go.RowKit
set_option linter.unusedVariables false
set_option linter.unusedSimpArgs false

theorem idleB (ns : List Int) (p q : Nat) : idl ns p q = decide (topN (tub ns p) = lay (tub ns p) ∧ lay (tub ns q) = 0) := by
  unfold idl; rw [Bool.eq_iff_iff]; simp

end Go.Proofs.Ytalngdccjoafhab.base
