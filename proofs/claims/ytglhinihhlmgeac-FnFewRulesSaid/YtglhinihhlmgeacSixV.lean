/-
  Arrays of six numbers: turned and indexed in a law, walked.
-/
import Derived.Test.YtglhinihhlmgeacCount
namespace Go.Proofs.Ytglhinihhlmgeac.base
open Go.ChangeShapes Go.WideShapes Go.ChangeAt Go.RowKit
set_option linter.unusedVariables false
set_option linter.unusedSimpArgs false

/-- The first k of n numbers are f's, the others g's. -/
def mixV (n : Nat) (f g : Nat → Int) (k : Nat) : List Int := (List.range n).map (fun j => if j < k then f j else g j)
theorem mixV_len (n : Nat) (f g : Nat → Int) (k : Nat) : (mixV n f g k).length = n := by unfold mixV; simp
theorem mixV_getD (n : Nat) (f g : Nat → Int) (k j : Nat) (h : j < n) : (mixV n f g k).getD j 0 = if j < k then f j else g j := by
  unfold mixV
  rw [List.getD_eq_getElem?_getD, List.getElem?_map, List.getElem?_range h]; rfl
theorem mixV_set (n : Nat) (f g : Nat → Int) (k : Nat) : (mixV n f g k).set k (f k) = mixV n f g (k + 1) := by
  apply List.ext_getElem?
  intro j
  unfold mixV
  rw [List.getElem?_set]
  simp only [List.length_map, List.length_range]
  by_cases e : k = j
  · subst e
    rw [if_pos rfl]
    by_cases h : k < n
    · rw [if_pos h, List.getElem?_map, List.getElem?_range h]; simp
    · rw [if_neg h, List.getElem?_eq_none (by simp; omega)]
  · rw [if_neg e, List.getElem?_map, List.getElem?_map]
    by_cases h : j < n
    · rw [List.getElem?_range h]
      simp only [Option.map_some, Option.some.injEq]
      by_cases h2 : j < k
      · rw [if_pos h2, if_pos (by omega)]
      · rw [if_neg h2, if_neg (by omega)]
    · rw [List.getElem?_eq_none (by simp; omega)]; rfl
theorem list_rangeV {n : Nat} {ns : List Int} (h : ns.length = n) : (List.range n).map (fun j => ns.getD j 0) = ns := by
  apply List.ext_getElem?
  intro j
  rw [List.getElem?_map]
  by_cases hj : j < n
  · rw [List.getElem?_range hj, List.getElem?_eq_getElem (by omega)]
    show some (ns.getD j 0) = _
    rw [List.getD_eq_getElem?_getD, List.getElem?_eq_getElem (by omega)]; rfl
  · rw [List.getElem?_eq_none (by simp; omega), List.getElem?_eq_none (by omega)]; rfl
theorem mixV_0 (n : Nat) (f : Nat → Int) {ns : List Int} (h : ns.length = n) : mixV n f (fun j => ns.getD j 0) 0 = ns := by
  unfold mixV; simp only [Nat.not_lt_zero, if_false]; exact list_rangeV h
theorem mixV_all (n : Nat) (f g : Nat → Int) : mixV n f g n = (List.range n).map f := by
  unfold mixV
  apply List.map_congr_left
  intro j hj
  rw [if_pos (List.mem_range.1 hj)]
theorem mixV_copy {n : Nat} (g : Nat → Int) {ns : List Int} (h : ns.length = n) : mixV n (fun j => ns.getD j 0) g n = ns := by
  rw [mixV_all]; exact list_rangeV h

theorem index6v (T : TypeId) (hT : Try.prog.underlying T = some (.array 6 3)) (ns : List Int) (hn : ns.length = 6) (k : Nat) (hk : k < 6) (w : World) : (Instr.index T (.agg (ints ns).toArray) (.int .i64 (k : Nat))).run Try.prog w = .ok (.int .i64 (ns.getD k 0)) w :=
  run_index_int T 3 6 hT Try.underlying3 (fun w => by rw [Try.sizeOf3]) ns hn k hk w
theorem Has.asV {w : World} {b : Nat} {ns ms : List Int} {n : Nat} (h : Has w b ns n) (e : ns = ms) : Has w b ms n := e ▸ h

end Go.Proofs.Ytglhinihhlmgeac.base
