/-
  Which pours are useful, on the model's side, walked.
-/
import Derived.Test.YtalngdccjoafhabSortZ
namespace Go.Proofs.Ytalngdccjoafhab.base
open Go.ChangeShapes Go.WideShapes Go.ChangeAt Go.RowKit
set_option linter.unusedVariables false
set_option linter.unusedSimpArgs false

theorem range_two {w : World} {g o : Nat} {A B : Value} (h0 : w.cell? ⟨g, o, none⟩ = some A) (h1 : w.cell? ⟨g, o + 1, none⟩ = some B) : w.rangeAt g o [A, B] := by
  intro j v hv
  match j, hv with
  | 0, hv => simp at hv; subst hv; exact h0
  | 1, hv => simp at hv; subst hv; exact h1
  | j + 2, hv => simp at hv
theorem Prs.apart {w w' : World} {b : Nat} {v : Value} {n : Nat} {fs : List Int} (h : Prs w b v n fs) {r : Option Nat} (hg : w.grownBy w' r) (hr : ∀ k, r = some k → v.ownBlock ≠ some k) : Prs w' b v n fs := by
  refine World.ownsRow.kept (row := r) h hg ?_
  cases hv : v.ownBlock with
  | none => exact .inl rfl
  | some k => exact .inr (fun e => hr k e.symm hv)

end Go.Proofs.Ytalngdccjoafhab.base
