/-
  The program's methods on a tube, walked: how many layers, and which top.
-/
import Derived.Test.YtdmcdghcmjmidacHas
namespace Go.Proofs.Ytdmcdghcmjmidac.base
open Go.ChangeShapes Go.WideShapes Go.ChangeAt Go.RowKit
set_option linter.unusedVariables false

end Go.Proofs.Ytdmcdghcmjmidac.base
