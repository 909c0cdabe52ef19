/-
  The runs of a tube, on the program's side, walked.
-/
/-
  RunsOf on both sides, walked.
-/
import Derived.Test.YtalngdccjoafhaaRuns
import Derived.Test.YtalngdccjoafhaaTubeWZ
import Derived.Test.YtalngdccjoafhaaSpecWZ

section
namespace Go.Proofs.Ytalngdccjoafhaa.base
open Go.ChangeShapes Go.WideShapes Go.ChangeAt Go.RowKit
set_option linter.unusedVariables false
set_option linter.unusedSimpArgs false

end Go.Proofs.Ytalngdccjoafhaa.base
end

section
namespace Go.Proofs.Ytalngdccjoafhaa.base
open Go.ChangeShapes Go.WideShapes Go.ChangeAt Go.RowKit
set_option linter.unusedVariables false
set_option linter.unusedSimpArgs false

def runsFA (ns : List Int) (i : Int) : List Int := if inR ns i = true then runsF (tubA ns i) (lay (tubA ns i)) else []
def runsNA (ns : List Int) (i : Int) : Nat := if inR ns i = true then runsN (tubA ns i) (lay (tubA ns i)) else 0
/-- What RunsOf returns: a new row of pairs, and whether the rack and the place are valid. -/
def RunsPost (ns : List Int) (i : Int) (w : World) (e : Ending) (w' : World) : Prop := ∃ v : Value, e = .returned (.tuple #[v, .bool (inR ns i)]) ∧ Prs w' w.heap.size v (runsNA ns i) (runsFA ns i) ∧ Kept w w'
theorem Prs.none' (w0 w : World) (K : Kept w0 w) {ns : List Int} {i : Int} (h : inR ns i = false) : Prs (w.alloc (.cells #[] 41)) w0.heap.size (.slice (some ⟨w.heap.size, 0, Option.none⟩) 0 0) (runsNA ns i) (runsFA ns i) := by
  have h' : ¬ inR ns i = true := by rw [h]; simp
  unfold runsNA runsFA
  rw [if_neg h', if_neg h']
  exact Prs.none w w0.heap.size K.size

end Go.Proofs.Ytalngdccjoafhaa.base
end
