/-
  The model's functions on a tube, walked: how many layers, which top, and which pours are possible.
-/
import Derived.Test.YtdmcdghcmjmidacTubeW3
namespace Go.Proofs.Ytdmcdghcmjmidac.base
open Go.ChangeShapes Go.WideShapes Go.ChangeAt Go.RowKit
set_option linter.unusedVariables false

end Go.Proofs.Ytdmcdghcmjmidac.base
