/-
  The runs of a tube, on the program's side, walked.
-/
import Derived.Test.YtemiljokdedidabRuns
import Derived.Test.YtemiljokdedidabTubeW
namespace Go.Proofs.Ytemiljokdedidab.base
open Go.ChangeShapes Go.WideShapes Go.ChangeAt Go.RowKit
set_option linter.unusedVariables false
set_option linter.unusedSimpArgs false

end Go.Proofs.Ytemiljokdedidab.base
