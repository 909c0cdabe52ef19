/-
  The law's own helpers for rows of pairs, walked: equal rows are told equal, marks are written, held marks are found again.
-/
import Derived.Test.YtlnbhopigjkkkaaRunsL
import Derived.Test.YtlnbhopigjkkkaaRackOps
namespace Go.Proofs.Ytlnbhopigjkkkaa.base
open Go.ChangeShapes Go.WideShapes Go.ChangeAt Go.RowKit
set_option linter.unusedVariables false
set_option linter.unusedSimpArgs false

theorem prs_zero {w : World} {b : Nat} {v : Value} {fs : List Int} (h : Prs w b v 0 fs) : ∃ a cap, v = .slice a 0 cap := by
  rcases h.2 with ⟨h0, _⟩ | ⟨g, cap, cur, hv, _⟩
  · exact ⟨_, _, h0⟩
  · exact ⟨_, _, hv⟩
theorem Prs.flat {w : World} {b : Nat} {v : Value} {n : Nat} {fs : List Int} (h : Prs w b v n fs) : fs.length = n * 2 := by have := h.1; rwa [ints_len] at this
theorem Prs.cell {w : World} {b g cap n : Nat} {fs : List Int} (h : Prs w b (.slice (some ⟨g, 0, Option.none⟩) n cap) n fs) (j : Nat) (hj : j < n * 2) : w.cell? ⟨g, j, Option.none⟩ = some (.int .i64 (fs.getD j 0)) := by
  rw [World.ownsRow.cellAt h j hj]; exact ints_get _ _ (by rw [h.flat]; exact hj)

/-- The first m of some numbers, marked from K on. -/
def markF (K m : Nat) (fs : List Int) : List Int := ((List.range m).map fun j : Nat => ((K + j : Nat) : Int)) ++ fs.drop m
theorem markF_zero (K : Nat) (fs : List Int) : markF K 0 fs = fs := by simp [markF]
theorem markF_set (K m : Nat) (fs : List Int) (h : m < fs.length) : (markF K m fs).set m ((K + m : Nat) : Int) = markF K (m + 1) fs := by
  unfold markF
  rw [List.set_append_right _ _ (by simp), List.range_succ, List.map_append, List.append_assoc]
  congr 1
  simp only [List.length_map, List.length_range, Nat.sub_self]
  rw [List.drop_eq_getElem_cons h]; rfl
theorem markF_get (K m j : Nat) (fs : List Int) (h : j < m) : (markF K m fs).getD j 0 = ((K + j : Nat) : Int) := by
  unfold markF
  rw [List.getD_eq_getElem?_getD, List.getElem?_append_left (by simpa using h), List.getElem?_map, List.getElem?_range h]; rfl

end Go.Proofs.Ytlnbhopigjkkkaa.base
