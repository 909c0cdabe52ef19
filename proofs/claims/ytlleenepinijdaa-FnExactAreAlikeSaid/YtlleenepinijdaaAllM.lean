/-
  All renamings: level by level, and by their numbers; plain mathematics.
-/
import Derived.Test.YtlleenepinijdaaClsM
namespace Go.Proofs.Ytlleenepinijdaa.base
set_option linter.unusedVariables false
set_option linter.unusedSimpArgs false

/-- Those among the first k numbers. -/
def upN (k : Nat) : List (List Int) := ((List.range k).map namesOf).filter namesB
theorem upN_succ (k : Nat) : upN (k + 1) = if namesB (namesOf k) = true then upN k ++ [namesOf k] else upN k := by
  unfold upN
  rw [List.range_succ, List.map_append, List.filter_append]
  by_cases h : namesB (namesOf k) = true
  · rw [if_pos h]; simp [h]
  · rw [if_neg h]; simp [h]
theorem upN_all : upN 3125 = allN := rfl
theorem upN_len (k : Nat) : (upN k).length ≤ k := by
  unfold upN
  have := List.length_filter_le namesB ((List.range k).map namesOf)
  simpa using this
def restN (k : Nat) : Nat → Nat
  | 0 => k
  | j + 1 => restN k j / 5
theorem restN_le (k : Nat) : ∀ j, restN k j ≤ k
  | 0 => Nat.le_refl _
  | j + 1 => Nat.le_trans (Nat.div_le_self _ _) (restN_le k j)
def digUp (k : Nat) : Nat → List Int
  | 0 => z6x
  | j + 1 => (digUp k j).set (5 - j) ((1 + restN k j % 5 : Nat) : Int)
theorem digUp_len (k : Nat) : ∀ j, (digUp k j).length = 6
  | 0 => rfl
  | j + 1 => by rw [digUp, List.length_set]; exact digUp_len k j
theorem digUp_all (k : Nat) : digUp k 5 = namesOf k := by
  unfold namesOf
  simp only [digUp, restN, z6x, Nat.div_div_eq_div_mul]
  rfl

/-- What one array becomes by one more color. -/
def oneX (p : Nat) (nm : List Int) (c : Nat) : List (List Int) := if ((c + 1 : Nat) : Int) ∈ (nm.take p).drop 1 then [] else [nm.set p ((c + 1 : Nat) : Int)]
def extUp (p : Nat) (nm : List Int) (c : Nat) : List (List Int) := (List.range c).flatMap (oneX p nm)
theorem extUp_succ (p : Nat) (nm : List Int) (c : Nat) : extUp p nm (c + 1) = extUp p nm c ++ oneX p nm c := by
  unfold extUp; rw [List.range_succ, List.flatMap_append]; simp
def flatUp (p : Nat) (L : List (List Int)) (a : Nat) : List (List Int) := (L.take a).flatMap (fun nm => extUp p nm 5)
theorem flatUp_succ (p : Nat) (L : List (List Int)) {a : Nat} (h : a < L.length) : flatUp p L (a + 1) = flatUp p L a ++ extUp p (L.getD a []) 5 := by
  unfold flatUp
  rw [List.take_succ_eq_append_getElem h, List.flatMap_append, List.getD_eq_getElem?_getD, List.getElem?_eq_getElem h]; simp
def lev : Nat → List (List Int)
  | 0 => [z6x]
  | p + 1 => flatUp (p + 1) (lev p) (lev p).length
set_option maxRecDepth 100000 in
theorem lev_all : lev 5 = allN := by decide +kernel
set_option maxRecDepth 100000 in
theorem lev_small : ∀ p : Fin 6, (lev p).length ≤ 120 ∧ ∀ a : Fin 121, ∀ c : Fin 6, (flatUp (p + 1) (lev p) a).length ≤ 720 := by decide +kernel
theorem extUp_len (p : Nat) (nm : List Int) : ∀ c, (extUp p nm c).length ≤ c
  | 0 => Nat.le_refl _
  | c + 1 => by
    rw [extUp_succ, List.length_append]
    have := extUp_len p nm c
    have h1 : (oneX p nm c).length ≤ 1 := by unfold oneX; split <;> simp
    omega
theorem oneX_yes {p : Nat} {nm : List Int} {c : Nat} (h : ((c + 1 : Nat) : Int) ∈ (nm.take p).drop 1) : oneX p nm c = [] := by unfold oneX; rw [if_pos h]
theorem oneX_no {p : Nat} {nm : List Int} {c : Nat} (h : ¬ ((c + 1 : Nat) : Int) ∈ (nm.take p).drop 1) : oneX p nm c = [nm.set p ((c + 1 : Nat) : Int)] := by unfold oneX; rw [if_neg h]
end Go.Proofs.Ytlleenepinijdaa.base
