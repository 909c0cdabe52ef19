/-
  The runs of a tube, on the program's side, walked.
-/
import Derived.Test.YtdmcdghcmjmidabRuns
import Derived.Test.YtdmcdghcmjmidabTubeW
namespace Go.Proofs.Ytdmcdghcmjmidab.base
open Go.ChangeShapes Go.WideShapes Go.ChangeAt Go.RowKit
set_option linter.unusedVariables false

end Go.Proofs.Ytdmcdghcmjmidab.base
