/-
  Marks: the first numbers of a row, numbered.
-/
import Derived.Test.YtpbfdjiglacbbabHold
namespace Go.Proofs.Ytpbfdjiglacbbab.base
set_option linter.unusedVariables false

/-- The first m of some numbers, marked from K on. -/
def markF (K m : Nat) (fs : List Int) : List Int := ((List.range m).map fun j : Nat => ((K + j : Nat) : Int)) ++ fs.drop m
theorem markF_zero (K : Nat) (fs : List Int) : markF K 0 fs = fs := by simp [markF]
theorem markF_set (K m : Nat) (fs : List Int) (h : m < fs.length) : (markF K m fs).set m ((K + m : Nat) : Int) = markF K (m + 1) fs := by
  unfold markF
  rw [List.set_append_right _ _ (by simp), List.range_succ, List.map_append, List.append_assoc]
  congr 1
  simp only [List.length_map, List.length_range, Nat.sub_self]
  rw [List.drop_eq_getElem_cons h]; rfl
theorem markF_get (K m j : Nat) (fs : List Int) (h : j < m) : (markF K m fs).getD j 0 = ((K + j : Nat) : Int) := by
  unfold markF
  rw [List.getD_eq_getElem?_getD, List.getElem?_append_left (by simpa using h), List.getElem?_map, List.getElem?_range h]; rfl

end Go.Proofs.Ytpbfdjiglacbbab.base
