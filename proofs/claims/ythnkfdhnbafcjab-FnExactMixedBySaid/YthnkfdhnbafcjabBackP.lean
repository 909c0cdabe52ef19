/-
  The exact law of PourBack, walked.
-/
import Derived.Test.YthnkfdhnbafcjabBackI
import Derived.Test.YthnkfdhnbafcjabTri
import Derived.Test.YthnkfdhnbafcjabRackTo
import Derived.Deep.Cut
import Derived.Deep.CutRange
import Derived.Deep.RegionHeld3
namespace Go.Proofs.Ythnkfdhnbafcjab.base
open Go.ChangeShapes Go.WideShapes Go.ChangeAt Go.RowKit
set_option linter.unusedVariables false
set_option linter.unusedSimpArgs false

theorem keptDrew {w w' : World} (h : Kept w w') : Kept w w'.drew := h.drewN 1
def backOkL (ns t : List Int) : Bool := backOk ns (t.getD 0 0) (t.getD 1 0) (t.getD 2 0)
def backRL (ns t : List Int) : List Int := backR ns (t.getD 0 0) (t.getD 1 0) (t.getD 2 0)
theorem backRL_len {ns : List Int} (h : ns.length = 24) (t : List Int) : (backRL ns t).length = 24 := backR_len h _ _ _

theorem implBackL (ns t : List Int) (w : World) (h24 : ns.length = 24) (h3 : t.length = 3) : Calls Try.prog 42 #[row ns, .agg (ints t).toArray] w fun e w' => e = .returned (.tuple #[.agg (ints (backRL ns t)).toArray, .bool (backOkL ns t)]) ∧ Kept w w' := by
  obtain ⟨a, b, c, rfl⟩ := len3 h3; exact implPourBack ns a b c w h24

end Go.Proofs.Ythnkfdhnbafcjab.base
