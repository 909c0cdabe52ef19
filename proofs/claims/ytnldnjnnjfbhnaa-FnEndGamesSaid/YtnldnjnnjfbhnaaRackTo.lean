/-
  A law's rack is turned into the program's, walked.
-/
import Derived.Test.YtnldnjnnjfbhnaaRackCopy
namespace Go.Proofs.Ytnldnjnnjfbhnaa.base
open Go.ChangeShapes Go.WideShapes Go.ChangeAt Go.RowKit
set_option linter.unusedVariables false
set_option linter.unusedSimpArgs false

end Go.Proofs.Ytnldnjnnjfbhnaa.base
