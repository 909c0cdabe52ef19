/-
  The runs of a tube, on the program's side, walked.
-/
import Derived.Test.YtienbokkimnecabRuns
import Derived.Test.YtienbokkimnecabTubeW
namespace Go.Proofs.Ytienbokkimnecab.base
open Go.ChangeShapes Go.WideShapes Go.ChangeAt Go.RowKit
set_option linter.unusedVariables false
set_option linter.unusedSimpArgs false

end Go.Proofs.Ytienbokkimnecab.base
