/-
  The rooms of a rack in ascending order: the mathematics.
-/
import Derived.Test.YtmodkllhdeknoaaTube
import Derived.Test.YtmodkllhdeknoaaTubeW
namespace Go.Proofs.Ytmodkllhdeknoaa.base
open Go.ChangeShapes Go.WideShapes Go.ChangeAt Go.RowKit
set_option linter.unusedVariables false
set_option linter.unusedSimpArgs false

/-- The room of tube i. -/
def rmA (ns : List Int) (i : Nat) : Int := 4 - (lay (tub ns i) : Nat)
/-- The rooms of the first p tubes. -/
def rmUp (ns : List Int) : Nat → List Int
  | 0 => []
  | p + 1 => rmUp ns p ++ [rmA ns p]
/-- Those of the first p tubes that are v. -/
def rmOf (ns : List Int) (v : Nat) : Nat → List Int
  | 0 => []
  | p + 1 => if rmA ns p = (v : Int) then rmOf ns v p ++ [(v : Int)] else rmOf ns v p
/-- What the model holds before the room v: the smaller rooms, in order. -/
def bkUp (ns : List Int) : Nat → List Int
  | 0 => []
  | v + 1 => bkUp ns v ++ rmOf ns v 6
def mid (ns : List Int) (v p : Nat) : List Int := bkUp ns v ++ rmOf ns v p
theorem rmUp_len (ns : List Int) : ∀ p, (rmUp ns p).length = p
  | 0 => rfl
  | p + 1 => by rw [rmUp, List.length_append, rmUp_len ns p]; rfl
theorem rmOf_le (ns : List Int) (v : Nat) : ∀ p, (rmOf ns v p).length ≤ p
  | 0 => Nat.le_refl _
  | p + 1 => by
    have := rmOf_le ns v p
    rw [rmOf]
    split
    · rw [List.length_append]; simp; omega
    · omega
theorem bkUp_le (ns : List Int) : ∀ v, (bkUp ns v).length ≤ v * 6
  | 0 => Nat.le_refl _
  | v + 1 => by
    have := bkUp_le ns v
    have := rmOf_le ns v 6
    rw [bkUp, List.length_append]; omega
theorem mid_le (ns : List Int) (v p : Nat) (hv : v ≤ 5) (hp : p ≤ 6) : (mid ns v p).length ≤ 36 := by
  have := bkUp_le ns v
  have := rmOf_le ns v p
  rw [mid, List.length_append]; omega
theorem mid_zero (ns : List Int) (v : Nat) : mid ns v 0 = bkUp ns v := by rw [mid, rmOf, List.append_nil]
theorem mid_six (ns : List Int) (v : Nat) : mid ns v 6 = bkUp ns (v + 1) := rfl
theorem mid_yes {ns : List Int} {v p : Nat} (h : rmA ns p = (v : Int)) : mid ns v (p + 1) = mid ns v p ++ [(v : Int)] := by rw [mid, mid, rmOf, if_pos h, List.append_assoc]
theorem mid_no {ns : List Int} {v p : Nat} (h : rmA ns p ≠ (v : Int)) : mid ns v (p + 1) = mid ns v p := by rw [mid, mid, rmOf, if_neg h]
theorem rmOf_eq (ns : List Int) (v : Nat) : ∀ p, rmOf ns v p = (rmUp ns p).filter (fun x => x == (v : Int))
  | 0 => rfl
  | p + 1 => by
    rw [rmOf, rmUp, List.filter_append, ← rmOf_eq ns v p]
    by_cases h : rmA ns p = (v : Int)
    · rw [if_pos h]; simp [h]
    · rw [if_neg h]; simp [h]
theorem count_of (xs : List Int) (v a : Int) : List.count a (xs.filter (fun x => x == v)) = if a = v then List.count a xs else 0 := by
  by_cases h : a = v
  · rw [if_pos h, List.count_filter (by simp [h])]
  · rw [if_neg h, List.count_eq_zero]
    intro m
    have := (List.mem_filter.1 m).2
    simp at this
    exact h this
def five (xs : List Int) : List Int := ((((xs.filter (fun x => x == 0)) ++ xs.filter (fun x => x == 1)) ++ xs.filter (fun x => x == 2)) ++ xs.filter (fun x => x == 3)) ++ xs.filter (fun x => x == 4)
theorem five_perm (xs : List Int) (h : ∀ x ∈ xs, 0 ≤ x ∧ x ≤ 4) : List.Perm (five xs) xs := by
  rw [List.perm_iff_count]
  intro a
  unfold five
  rw [List.count_append, List.count_append, List.count_append, List.count_append, count_of, count_of, count_of, count_of, count_of]
  by_cases m : a ∈ xs
  · obtain ⟨h0, h4⟩ := h a m
    have : a = 0 ∨ a = 1 ∨ a = 2 ∨ a = 3 ∨ a = 4 := by omega
    rcases this with rfl | rfl | rfl | rfl | rfl <;> simp
  · rw [List.count_eq_zero.2 m]; simp
theorem all_of {xs : List Int} {v a : Int} (h : a ∈ xs.filter (fun x => x == v)) : a = v := by
  have := (List.mem_filter.1 h).2
  simpa using this
theorem one_up (xs : List Int) (v : Int) : (xs.filter (fun x => x == v)).Pairwise (fun x y => x ≤ y) := by
  refine List.pairwise_of_forall_mem_list ?_
  intro a ha b hb
  rw [all_of ha, all_of hb]
  exact Int.le_refl _
theorem five_up (xs : List Int) : (five xs).Pairwise (fun x y => x ≤ y) := by
  unfold five
  rw [List.pairwise_append, List.pairwise_append, List.pairwise_append, List.pairwise_append]
  refine ⟨⟨⟨⟨one_up _ _, one_up _ _, ?_⟩, one_up _ _, ?_⟩, one_up _ _, ?_⟩, one_up _ _, ?_⟩
  all_goals
    intro a ha b hb
    have e := all_of hb
    try simp only [List.mem_append] at ha
  · have := all_of ha; omega
  · rcases ha with ha | ha <;> (have := all_of ha; omega)
  · rcases ha with (ha | ha) | ha <;> (have := all_of ha; omega)
  · rcases ha with ((ha | ha) | ha) | ha <;> (have := all_of ha; omega)
theorem lay_le (t : List Int) : lay t ≤ t.length := by
  unfold lay
  exact (List.takeWhile_sublist _).length_le
theorem rmUp_all {ns : List Int} (h : ns.length = 24) : ∀ p, p ≤ 6 → ∀ x ∈ rmUp ns p, 0 ≤ x ∧ x ≤ 4
  | 0, _ => by intro x hx; cases hx
  | p + 1, hp => by
    intro x hx
    rw [rmUp, List.mem_append] at hx
    rcases hx with hx | hx
    · exact rmUp_all h p (by omega) x hx
    · rw [List.mem_singleton] at hx
      have := lay_le (tub ns p)
      rw [tub_len ns p h (by omega)] at this
      rw [hx]; unfold rmA; omega
theorem bk_five (ns : List Int) : bkUp ns 5 = five (rmUp ns 6) := by
  rw [bkUp, bkUp, bkUp, bkUp, bkUp, bkUp, rmOf_eq, rmOf_eq, rmOf_eq, rmOf_eq, rmOf_eq, List.nil_append]; rfl
/-- The model's answer is the program's. -/
theorem bk_sort {ns : List Int} (h : ns.length = 24) : (rmUp ns 6).mergeSort (fun x y => decide (x ≤ y)) = bkUp ns 5 := by
  rw [bk_five]
  have p1 : List.Perm ((rmUp ns 6).mergeSort (fun x y => decide (x ≤ y))) (rmUp ns 6) := List.mergeSort_perm _ _
  have p2 := five_perm (rmUp ns 6) (rmUp_all h 6 (by omega))
  refine List.Perm.eq_of_pairwise (le := fun x y : Int => x ≤ y) (fun a b _ _ h1 h2 => Int.le_antisymm h1 h2) ?_ (five_up _) (p1.trans p2.symm)
  have := List.pairwise_mergeSort (le := fun x y : Int => decide (x ≤ y)) (fun a b c h1 h2 => by simp at h1 h2 ⊢; omega) (fun a b => by simp; omega) (rmUp ns 6)
  exact this.imp (fun h => by simpa using h)
theorem bk_len {ns : List Int} (h : ns.length = 24) : (bkUp ns 5).length = 6 := by
  rw [← bk_sort h, List.length_mergeSort, rmUp_len]
/-- What both sides answer. -/
def roomF (ns : List Int) : List Int := if vR ns = true then bkUp ns 5 else []
def roomN (ns : List Int) : Nat := if vR ns = true then 6 else 0
theorem room_no {ns : List Int} (h : vR ns = false) : roomN ns = 0 ∧ roomF ns = [] := by
  unfold roomN roomF; rw [h]; exact ⟨if_neg (by decide), if_neg (by decide)⟩
theorem room_yes {ns : List Int} (h : vR ns = true) : roomN ns = 6 ∧ roomF ns = bkUp ns 5 := by
  unfold roomN roomF; rw [h]; exact ⟨if_pos rfl, if_pos rfl⟩
theorem roomN_le (ns : List Int) : roomN ns ≤ 6 := by unfold roomN; split <;> omega
end Go.Proofs.Ytmodkllhdeknoaa.base
