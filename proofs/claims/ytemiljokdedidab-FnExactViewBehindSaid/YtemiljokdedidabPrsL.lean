/-
  The law's own helpers for rows of pairs, walked: equal rows are told equal, marks are written, held marks are found again.
-/
import Derived.Test.YtemiljokdedidabRunsL
import Derived.Test.YtemiljokdedidabRackOps
import Derived.Test.YtemiljokdedidabMarkF
namespace Go.Proofs.Ytemiljokdedidab.base
open Go.ChangeShapes Go.WideShapes Go.ChangeAt Go.RowKit
set_option linter.unusedVariables false
set_option linter.unusedSimpArgs false

theorem prs_zero {w : World} {b : Nat} {v : Value} {fs : List Int} (h : Prs w b v 0 fs) : ∃ a cap, v = .slice a 0 cap := by
  rcases h.2 with ⟨h0, _⟩ | ⟨g, cap, cur, hv, _⟩
  · exact ⟨_, _, h0⟩
  · exact ⟨_, _, hv⟩
theorem Prs.flat {w : World} {b : Nat} {v : Value} {n : Nat} {fs : List Int} (h : Prs w b v n fs) : fs.length = n * 2 := by have := h.1; rwa [ints_len] at this
theorem Prs.cell {w : World} {b g cap n : Nat} {fs : List Int} (h : Prs w b (.slice (some ⟨g, 0, Option.none⟩) n cap) n fs) (j : Nat) (hj : j < n * 2) : w.cell? ⟨g, j, Option.none⟩ = some (.int .i64 (fs.getD j 0)) := by
  rw [World.ownsRow.cellAt h j hj]; exact ints_get _ _ (by rw [h.flat]; exact hj)

end Go.Proofs.Ytemiljokdedidab.base
