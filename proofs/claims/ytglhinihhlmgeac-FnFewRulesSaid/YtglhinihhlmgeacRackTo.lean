/-
  A law's rack is turned into the program's, walked.
-/
import Derived.Test.YtglhinihhlmgeacRackCopy
namespace Go.Proofs.Ytglhinihhlmgeac.base
open Go.ChangeShapes Go.WideShapes Go.ChangeAt Go.RowKit
set_option linter.unusedVariables false
set_option linter.unusedSimpArgs false

end Go.Proofs.Ytglhinihhlmgeac.base
