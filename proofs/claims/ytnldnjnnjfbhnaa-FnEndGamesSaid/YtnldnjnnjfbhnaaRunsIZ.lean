/-
  The runs of a tube, on the program's side, walked.
-/
/-
  RunsOf on both sides, walked.
-/
/-
  Marks: the first numbers of a row, numbered.
-/
/-
  The law's own helpers for rows of pairs, walked: equal rows are told equal, marks are written, held marks are found again.
-/
/-
  Equal rows of pairs are told equal, walked.
-/
import Derived.Test.YtnldnjnnjfbhnaaRuns
import Derived.Test.YtnldnjnnjfbhnaaTubeWZ
import Derived.Test.YtnldnjnnjfbhnaaDoors
import Derived.Test.YtnldnjnnjfbhnaaTubeZ
import Derived.Test.YtnldnjnnjfbhnaaRackOps

section
namespace Go.Proofs.Ytnldnjnnjfbhnaa.base
open Go.ChangeShapes Go.WideShapes Go.ChangeAt Go.RowKit
set_option linter.unusedVariables false
set_option linter.unusedSimpArgs false

end Go.Proofs.Ytnldnjnnjfbhnaa.base
end

section
namespace Go.Proofs.Ytnldnjnnjfbhnaa.base
open Go.ChangeShapes Go.WideShapes Go.ChangeAt Go.RowKit
set_option linter.unusedVariables false
set_option linter.unusedSimpArgs false

def runsFA (ns : List Int) (i : Int) : List Int := if inR ns i = true then runsF (tubA ns i) (lay (tubA ns i)) else []
def runsNA (ns : List Int) (i : Int) : Nat := if inR ns i = true then runsN (tubA ns i) (lay (tubA ns i)) else 0
/-- What RunsOf returns: a new row of pairs, and whether the rack and the place are valid. -/
def RunsPost (ns : List Int) (i : Int) (w : World) (e : Ending) (w' : World) : Prop := ∃ v : Value, e = .returned (.tuple #[v, .bool (inR ns i)]) ∧ Prs w' w.heap.size v (runsNA ns i) (runsFA ns i) ∧ Kept w w'
theorem Prs.none' (w0 w : World) (K : Kept w0 w) {ns : List Int} {i : Int} (h : inR ns i = false) : Prs (w.alloc (.cells #[] 45)) w0.heap.size (.slice (some ⟨w.heap.size, 0, Option.none⟩) 0 0) (runsNA ns i) (runsFA ns i) := by
  have h' : ¬ inR ns i = true := by rw [h]; simp
  unfold runsNA runsFA
  rw [if_neg h', if_neg h']
  exact Prs.none w w0.heap.size K.size

end Go.Proofs.Ytnldnjnnjfbhnaa.base
end

section
namespace Go.Proofs.Ytnldnjnnjfbhnaa.base
set_option linter.unusedVariables false

/-- The first m of some numbers, marked from K on. -/
def markF (K m : Nat) (fs : List Int) : List Int := ((List.range m).map fun j : Nat => ((K + j : Nat) : Int)) ++ fs.drop m
theorem markF_zero (K : Nat) (fs : List Int) : markF K 0 fs = fs := by simp [markF]
theorem markF_set (K m : Nat) (fs : List Int) (h : m < fs.length) : (markF K m fs).set m ((K + m : Nat) : Int) = markF K (m + 1) fs := by
  unfold markF
  rw [List.set_append_right _ _ (by simp), List.range_succ, List.map_append, List.append_assoc]
  congr 1
  simp only [List.length_map, List.length_range, Nat.sub_self]
  rw [List.drop_eq_getElem_cons h]; rfl
theorem markF_get (K m j : Nat) (fs : List Int) (h : j < m) : (markF K m fs).getD j 0 = ((K + j : Nat) : Int) := by
  unfold markF
  rw [List.getD_eq_getElem?_getD, List.getElem?_append_left (by simpa using h), List.getElem?_map, List.getElem?_range h]; rfl

end Go.Proofs.Ytnldnjnnjfbhnaa.base
end

section
namespace Go.Proofs.Ytnldnjnnjfbhnaa.base
open Go.ChangeShapes Go.WideShapes Go.ChangeAt Go.RowKit
set_option linter.unusedVariables false
set_option linter.unusedSimpArgs false

theorem prs_zero {w : World} {b : Nat} {v : Value} {fs : List Int} (h : Prs w b v 0 fs) : ∃ a cap, v = .slice a 0 cap := by
  rcases h.2 with ⟨h0, _⟩ | ⟨g, cap, cur, hv, _⟩
  · exact ⟨_, _, h0⟩
  · exact ⟨_, _, hv⟩
theorem Prs.flat {w : World} {b : Nat} {v : Value} {n : Nat} {fs : List Int} (h : Prs w b v n fs) : fs.length = n * 2 := by have := h.1; rwa [ints_len] at this
theorem Prs.cell {w : World} {b g cap n : Nat} {fs : List Int} (h : Prs w b (.slice (some ⟨g, 0, Option.none⟩) n cap) n fs) (j : Nat) (hj : j < n * 2) : w.cell? ⟨g, j, Option.none⟩ = some (.int .i64 (fs.getD j 0)) := by
  rw [World.ownsRow.cellAt h j hj]; exact ints_get _ _ (by rw [h.flat]; exact hj)

end Go.Proofs.Ytnldnjnnjfbhnaa.base
end

section
namespace Go.Proofs.Ytnldnjnnjfbhnaa.base
open Go.ChangeShapes Go.WideShapes Go.ChangeAt Go.RowKit
set_option linter.unusedVariables false
set_option linter.unusedSimpArgs false

def pr (fs : List Int) (k : Nat) : List Int := (fs.drop (k * 2)).take 2
theorem pr_len (fs : List Int) (k n : Nat) (h : fs.length = n * 2) (hk : k < n) : (pr fs k).length = 2 := by
  unfold pr; rw [List.length_take, List.length_drop]; omega
theorem Prs.range {w : World} {b g cap n : Nat} {fs : List Int} (h : Prs w b (.slice (some ⟨g, 0, Option.none⟩) n cap) n fs) (k : Nat) (hk : k < n) : w.rangeAt g (k * 2) (ints (pr fs k)) := by
  intro j v hv
  have hl := pr_len fs k n h.flat hk
  have hj : j < 2 := by
    rcases Nat.lt_or_ge j 2 with h1 | h1
    · exact h1
    · rw [List.getElem?_eq_none (by rw [ints_len, hl]; exact h1)] at hv; cases hv
  rw [h.cell (k * 2 + j) (by omega), ← hv, ints_get _ _ (by rw [hl]; exact hj)]
  unfold pr
  rw [List.getD_eq_getElem?_getD, List.getD_eq_getElem?_getD, List.getElem?_take, if_pos hj, List.getElem?_drop]

end Go.Proofs.Ytnldnjnnjfbhnaa.base
end
