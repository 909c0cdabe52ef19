/-
  The runs of a tube, on the program's side, walked.
-/
import Derived.Test.YtcedpjjfcfeokaaRuns
import Derived.Test.YtcedpjjfcfeokaaTubeW
namespace Go.Proofs.Ytcedpjjfcfeokaa.base
open Go.ChangeShapes Go.WideShapes Go.ChangeAt Go.RowKit
set_option linter.unusedVariables false
set_option linter.unusedSimpArgs false

end Go.Proofs.Ytcedpjjfcfeokaa.base
