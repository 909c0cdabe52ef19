/-
  The view of a rack, on both sides, walked.
-/
import Derived.Test.YtemiljokdedidacVw
import Derived.Deep.Cut
import Derived.Deep.CutRange
namespace Go.Proofs.Ytemiljokdedidac.base
open Go.ChangeShapes Go.WideShapes Go.ChangeAt Go.RowKit
set_option linter.unusedVariables false
set_option linter.unusedSimpArgs false

theorem range_set (n : Nat) (f g : Nat → Int) (k : Nat) (h : ∀ j, j ≠ k → f j = g j) : ((List.range n).map f).set k (g k) = (List.range n).map g := by
  apply List.ext_getElem?
  intro j
  rw [List.getElem?_set, List.getElem?_map, List.getElem?_map]
  by_cases e : k = j
  · subst e
    rw [if_pos rfl]
    by_cases hk : k < n
    · rw [List.getElem?_range hk]; simp [hk]
    · rw [List.getElem?_eq_none (by simp; omega)]; simp [hk]
  · rw [if_neg e]
    by_cases hj : j < n
    · rw [List.getElem?_range hj]; simp [h j (fun e2 => e e2.symm)]
    · rw [List.getElem?_eq_none (by simp; omega)]; rfl
/-- The counts, with 0 at the place 0. -/
def cnt0 (ns : List Int) : List Int := (cntUp ns 24).set 0 0
theorem cnt0_len (ns : List Int) : (cnt0 ns).length = 6 := by unfold cnt0; rw [List.length_set]; exact (cnt_all ns 24).1
def vwAt (ns : List Int) (a b j : Nat) : Int := if j < 6 then (if j < a then topC (tub ns j) else 0) else if j < 12 then (if j - 6 < b then (lay (tub ns (j - 6)) : Nat) else 0) else (cnt0 ns).getD (j - 12) 0
def vwUp (ns : List Int) (a b : Nat) : List Int := (List.range 18).map (vwAt ns a b)
def vwR (ns : List Int) : List Int := vwUp ns 6 6
def viewA (ns : List Int) : List Int := if vR ns = true then vwR ns else z18
theorem vwUp_len (ns : List Int) (a b : Nat) : (vwUp ns a b).length = 18 := by unfold vwUp; rw [List.length_map, List.length_range]
theorem vwR_len (ns : List Int) : (vwR ns).length = 18 := vwUp_len ns 6 6
theorem viewA_len (ns : List Int) : (viewA ns).length = 18 := by
  unfold viewA; split
  · exact vwR_len ns
  · rfl
theorem vwUp_top (ns : List Int) (k b : Nat) (hk : k < 6) : (vwUp ns k b).set k (topC (tub ns k)) = vwUp ns (k + 1) b := by
  have e : topC (tub ns k) = vwAt ns (k + 1) b k := by unfold vwAt; rw [if_pos hk, if_pos (by omega)]
  rw [e]
  refine range_set 18 _ _ k fun j hj => ?_
  unfold vwAt
  by_cases h6 : j < 6
  · rw [if_pos h6, if_pos h6]
    by_cases hl : j < k
    · rw [if_pos hl, if_pos (by omega)]
    · rw [if_neg hl, if_neg (by omega)]
  · rw [if_neg h6, if_neg h6]
theorem vwUp_many (ns : List Int) (a k : Nat) (hk : k < 6) : (vwUp ns a k).set (6 + k) (lay (tub ns k) : Nat) = vwUp ns a (k + 1) := by
  have e : ((lay (tub ns k) : Nat) : Int) = vwAt ns a (k + 1) (6 + k) := by
    unfold vwAt; rw [if_neg (by omega), if_pos (by omega), if_pos (by omega), show 6 + k - 6 = k by omega]
  rw [e]
  refine range_set 18 _ _ (6 + k) fun j hj => ?_
  unfold vwAt
  by_cases h6 : j < 6
  · rw [if_pos h6, if_pos h6]
  · rw [if_neg h6, if_neg h6]
    by_cases h12 : j < 12
    · rw [if_pos h12, if_pos h12]
      by_cases hl : j - 6 < k
      · rw [if_pos hl, if_pos (by omega)]
      · rw [if_neg hl, if_neg (by omega)]
    · rw [if_neg h12, if_neg h12]
theorem len6v {t : List Int} (h : t.length = 6) : ∃ a b c d e f, t = [a, b, c, d, e, f] := by
  match t, h with
  | [a, b, c, d, e, f], _ => exact ⟨a, b, c, d, e, f, rfl⟩
def z12 : List Int := [0, 0, 0, 0, 0, 0, 0, 0, 0, 0, 0, 0]
theorem vwUp_start (ns : List Int) : z12 ++ cnt0 ns = vwUp ns 0 0 := by
  obtain ⟨a, b, c, d, e, f, h⟩ := len6v (cnt0_len ns)
  unfold vwUp vwAt
  rw [h]
  simp [z12, List.range_succ]
theorem z12_set (cs : List Int) (h : cs.length = 6) : (z12 ++ cs).set 12 0 = z12 ++ cs.set 0 0 := by
  obtain ⟨a, b, c, d, e, f, rfl⟩ := len6v h
  rfl
theorem z12_len (cs : List Int) (h : cs.length = 6) : (z12 ++ cs).length = 18 := by rw [List.length_append, h]; rfl
theorem buildCounts (cs : List Int) (h : cs.length = 6) (w : World) : (Instr.build 28 #[(2, .agg (ints cs).toArray)]).run Try.prog w = .ok (.agg (ints (z12 ++ cs)).toArray) w := by
  obtain ⟨a, b, c, d, e, f, rfl⟩ := len6v h
  kernel_rfl
section
variable {P : Program} {ops : Array Oper} {rest : List Oper} {op : Oper} {a : Act} {w : World} {Q : Exit → Act → World → Prop}
theorem build_at (hw : Region.wanted op (yielded ops a.tmps) = true) (T : TypeId) (k : Nat) (x : Operand) (ho : op.op = .build T #[(k, x)]) (u v : Value) (hx : a.eval x = u)
    (hq : ∀ w, (Instr.build T #[(k, u)]).run P w = .ok v w)
    (h : wpList P ops Q rest (a.put op.dst v) w) : wpList P ops Q (op :: rest) a w :=
  wpList_wanted hw fun _ hK => by
    unfold Oper.wp execOp
    simp only [ho, Sem.run_bind, List.map_toArray, List.map_cons, List.map_nil, hx, hq, Result.andThen_ok, Sem.run_pure]
    exact hK _ _ h
end

end Go.Proofs.Ytemiljokdedidac.base
