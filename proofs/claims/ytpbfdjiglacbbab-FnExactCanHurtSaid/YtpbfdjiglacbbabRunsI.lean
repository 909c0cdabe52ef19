/-
  The runs of a tube, on the program's side, walked.
-/
import Derived.Test.YtpbfdjiglacbbabRuns
import Derived.Test.YtpbfdjiglacbbabTubeW
namespace Go.Proofs.Ytpbfdjiglacbbab.base
open Go.ChangeShapes Go.WideShapes Go.ChangeAt Go.RowKit
set_option linter.unusedVariables false
set_option linter.unusedSimpArgs false

end Go.Proofs.Ytpbfdjiglacbbab.base
