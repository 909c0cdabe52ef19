/-
  Drops, pours back and counts of pours by the rules, on both sides, walked.
-/
import Derived.Test.YtcedpjjfcfeokabPbyI
import Derived.Test.YtcedpjjfcfeokabByI
namespace Go.Proofs.Ytcedpjjfcfeokab.base
open Go.ChangeShapes Go.WideShapes Go.ChangeAt Go.RowKit
set_option linter.unusedVariables false
set_option linter.unusedSimpArgs false

def tbOk (ns ds : List Int) (i j : Int) : Bool := pbOk ns ds 4 i j && pbOk (pbR ns ds 4 i j) ds 4 j i
def tbR (ns ds : List Int) (i j : Int) : List Int := if pbOk ns ds 4 i j = true then pbR (pbR ns ds 4 i j) ds 4 j i else z24
theorem tbR_len {ns ds : List Int} (h24 : ns.length = 24) (i j : Int) : (tbR ns ds i j).length = 24 := by
  unfold tbR
  split
  · exact pbR_len (pbR_len h24 4 i j) 4 j i
  · rfl
/-- How many pours each rule below k has. -/
def crL (ns ds : List Int) (k : Nat) : List Int := (List.range 5).map fun j => if 1 ≤ j ∧ j < k then ((byNA ns ds (j : Int) : Nat) : Int) else 0
def crA (ns ds : List Int) : List Int := if fitA ns ds = true then crL ns ds 5 else [0, 0, 0, 0, 0]
theorem crL_len (ns ds : List Int) (k : Nat) : (crL ns ds k).length = 5 := by unfold crL; simp
theorem crA_len (ns ds : List Int) : (crA ns ds).length = 5 := by
  unfold crA; split
  · exact crL_len ns ds 5
  · rfl
theorem crL_1 (ns ds : List Int) : crL ns ds 1 = [0, 0, 0, 0, 0] := by
  unfold crL
  have : ∀ j, ¬ (1 ≤ j ∧ j < 1) := fun j h => by omega
  simp only [this, if_false]; rfl
theorem crL_set (ns ds : List Int) (k : Nat) (h1 : 1 ≤ k) (h : k < 5) : (crL ns ds k).set k ((byNA ns ds (k : Int) : Nat) : Int) = crL ns ds (k + 1) := by
  apply List.ext_getElem?
  intro j
  unfold crL
  rw [List.getElem?_set]
  simp only [List.length_map, List.length_range]
  by_cases e : k = j
  · subst e
    rw [if_pos rfl, if_pos h, List.getElem?_map, List.getElem?_range h]
    simp only [Option.map_some, Option.some.injEq]
    rw [if_pos (by omega)]
  · rw [if_neg e, List.getElem?_map, List.getElem?_map]
    by_cases hj : j < 5
    · rw [List.getElem?_range hj]
      simp only [Option.map_some, Option.some.injEq]
      by_cases h2 : 1 ≤ j ∧ j < k
      · rw [if_pos h2, if_pos (by omega)]
      · rw [if_neg h2, if_neg (by omega)]
    · rw [List.getElem?_eq_none (by simp; omega)]; rfl
theorem ruleV_in {k : Nat} (h1 : 1 ≤ k) (h : k < 5) : ruleV (k : Int) = true := decide_eq_true (by omega)
theorem byOk_in {ns ds : List Int} {k : Nat} (h1 : 1 ≤ k) (h : k < 5) : byOk ns ds (k : Int) = fitA ns ds := by unfold byOk; rw [ruleV_in h1 h, Bool.and_true]
theorem Has.zero5 (w : World) (T : TypeId) : Has (w.alloc (.cells #[.int .i64 0, .int .i64 0, .int .i64 0, .int .i64 0, .int .i64 0] T)) w.heap.size [0, 0, 0, 0, 0] 5 := Has.box (ns := [0, 0, 0, 0, 0]) w T rfl (by decide)
end Go.Proofs.Ytcedpjjfcfeokab.base
