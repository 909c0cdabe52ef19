/-
  The program's methods on a tube, walked: how many layers, and which top.
-/
import Derived.Test.YtemiljokdedidaaHas
namespace Go.Proofs.Ytemiljokdedidaa.base
open Go.ChangeShapes Go.WideShapes Go.ChangeAt Go.RowKit
set_option linter.unusedVariables false
set_option linter.unusedSimpArgs false

end Go.Proofs.Ytemiljokdedidaa.base
