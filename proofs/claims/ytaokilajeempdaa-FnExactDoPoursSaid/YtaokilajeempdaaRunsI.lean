/-
  The runs of a tube, on the program's side, walked.
-/
import Derived.Test.YtaokilajeempdaaRuns
import Derived.Test.YtaokilajeempdaaTubeW
namespace Go.Proofs.Ytaokilajeempdaa.base
open Go.ChangeShapes Go.WideShapes Go.ChangeAt Go.RowKit
set_option linter.unusedVariables false

end Go.Proofs.Ytaokilajeempdaa.base
