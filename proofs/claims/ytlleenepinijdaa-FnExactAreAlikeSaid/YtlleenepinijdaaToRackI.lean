/-
  A law's rack as the program's, told at the numbers; two arrays of six numbers that are the same.
-/
import Derived.Test.YtlleenepinijdaaRackTo
import Derived.Test.YtlleenepinijdaaSix
import Derived.Deep.RegionHeld3
namespace Go.Proofs.Ytlleenepinijdaa.base
open Go.ChangeShapes Go.WideShapes Go.ChangeAt Go.RowKit
set_option linter.unusedVariables false
set_option linter.unusedSimpArgs false

theorem toRackI (ns : List Int) (w : World) (h : ns.length = 24) : Calls Try.prog 11 #[.agg (ints ns).toArray] w fun e w' => e = .returned (row ns) ∧ Kept w w' := by
  rw [← row_ints]; exact toRack_any ns w h
end Go.Proofs.Ytlleenepinijdaa.base
