/-
  Hidden counts and the number of candidates, on the model's side, walked.
-/
import Derived.Test.YtemiljokdedidacVwSZ
import Derived.Test.YtemiljokdedidacVwIZ
namespace Go.Proofs.Ytemiljokdedidac.base
open Go.ChangeShapes Go.WideShapes Go.ChangeAt Go.RowKit
set_option linter.unusedVariables false
set_option linter.unusedSimpArgs false

theorem hid_same {vs : List Int} (h : vs.length = 18) (hv : vV vs = true) : wrL (hid vs) = hid vs := by
  have F := viewFacts h hv
  refine wrL_id fun x hx => ?_
  obtain ⟨j, hj, e⟩ := List.mem_iff_getElem.1 hx
  have hl := hid_len h
  have e2 : (hid vs).getD j 0 = x := by rw [List.getD_eq_getElem?_getD, List.getElem?_eq_getElem hj, e]; rfl
  have := F.nat j (by omega)
  have := F.each j (by omega)
  omega

end Go.Proofs.Ytemiljokdedidac.base
