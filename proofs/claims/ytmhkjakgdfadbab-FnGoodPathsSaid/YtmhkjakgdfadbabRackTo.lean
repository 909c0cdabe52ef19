/-
  A law's rack is turned into the program's, walked.
-/
import Derived.Test.YtmhkjakgdfadbabRackCopy
namespace Go.Proofs.Ytmhkjakgdfadbab.base
open Go.ChangeShapes Go.WideShapes Go.ChangeAt Go.RowKit
set_option linter.unusedVariables false
set_option linter.unusedSimpArgs false

end Go.Proofs.Ytmhkjakgdfadbab.base
