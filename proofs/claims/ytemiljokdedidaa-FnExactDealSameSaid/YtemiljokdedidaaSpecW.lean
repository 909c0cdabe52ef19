/-
  The model's functions on a tube, walked: how many layers, which top, and which pours are possible.
-/
import Derived.Test.YtemiljokdedidaaTubeW3
namespace Go.Proofs.Ytemiljokdedidaa.base
open Go.ChangeShapes Go.WideShapes Go.ChangeAt Go.RowKit
set_option linter.unusedVariables false
set_option linter.unusedSimpArgs false

end Go.Proofs.Ytemiljokdedidaa.base
