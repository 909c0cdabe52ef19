/-
  Which pours are undone: plain mathematics.
-/
import Derived.Test.YthnkfdhnbafcjabPoursI
import Derived.Test.YthnkfdhnbafcjabUndone
namespace Go.Proofs.Ythnkfdhnbafcjab.base
open Go.ChangeShapes Go.WideShapes Go.ChangeAt Go.RowKit
set_option linter.unusedVariables false
set_option linter.unusedSimpArgs false

theorem pours_at2 (ns : List Int) : ∀ m, m ≤ 36 → (poursF ns m).length = poursN ns m * 2 ∧ ∀ j, j < poursN ns m → ∃ p q : Nat, p < 6 ∧ q < 6 ∧ p ≠ q ∧ 0 < canN (tub ns p) (tub ns q) ∧ (poursF ns m).getD (j * 2) 0 = (p : Int) ∧ (poursF ns m).getD (j * 2 + 1) 0 = (q : Int)
  | 0, _ => by rw [(pours0 ns).1, (pours0 ns).2]; exact ⟨rfl, fun j hj => by omega⟩
  | m + 1, hm => by
    obtain ⟨h1, h2⟩ := pours_at2 ns m (by omega)
    by_cases hc : m / 6 ≠ m % 6 ∧ 0 < canN (tub ns (m / 6)) (tub ns (m % 6))
    · have e : poursF ns (m + 1) = poursF ns m ++ [((m / 6 : Nat) : Int), ((m % 6 : Nat) : Int)] := by rw [poursF, if_pos hc]
      have en : poursN ns (m + 1) = poursN ns m + 1 := by unfold poursN; rw [e, List.length_append]; simp
      rw [e, en]
      refine ⟨by rw [List.length_append, h1]; simp; omega, fun j hj => ?_⟩
      by_cases hjn : j < poursN ns m
      · obtain ⟨p, q, a1, a2, a0, a3, a4, a5⟩ := h2 j hjn
        refine ⟨p, q, a1, a2, a0, a3, ?_, ?_⟩
        · rw [← a4, List.getD_eq_getElem?_getD, List.getD_eq_getElem?_getD, List.getElem?_append_left (by omega)]
        · rw [← a5, List.getD_eq_getElem?_getD, List.getD_eq_getElem?_getD, List.getElem?_append_left (by omega)]
      · obtain rfl : j = poursN ns m := by omega
        refine ⟨m / 6, m % 6, by omega, by omega, hc.1, hc.2, ?_, ?_⟩
        · rw [List.getD_eq_getElem?_getD, List.getElem?_append_right (by omega), h1, Nat.sub_self]; rfl
        · rw [List.getD_eq_getElem?_getD, List.getElem?_append_right (by omega), h1, Nat.add_sub_cancel_left]; rfl
    · have e : poursF ns (m + 1) = poursF ns m := by rw [poursF, if_neg hc]
      have en : poursN ns (m + 1) = poursN ns m := by unfold poursN; rw [e]
      rw [e, en]; exact ⟨h1, h2⟩
def udl (ns : List Int) (p q : Nat) : Bool := !undB ns (p : Int) (q : Int)
def fstU (ns : List Int) (k : Nat) : Nat := ((poursF ns 36).getD (k * 2) 0).toNat
def sndU (ns : List Int) (k : Nat) : Nat := ((poursF ns 36).getD (k * 2 + 1) 0).toNat
/-- The undone ones of the first k pours, flat. -/
def undnF (ns : List Int) : Nat → List Int
  | 0 => []
  | k + 1 => if udl ns (fstU ns k) (sndU ns k) = true then undnF ns k else undnF ns k ++ [(fstU ns k : Int), (sndU ns k : Int)]
def undnN (ns : List Int) (k : Nat) : Nat := (undnF ns k).length / 2
theorem undnN_le (ns : List Int) : ∀ k, undnN ns k ≤ k
  | 0 => by unfold undnN; rw [undnF]; simp
  | k + 1 => by
    have := undnN_le ns k
    unfold undnN at this ⊢
    rw [undnF]
    split
    · omega
    · rw [List.length_append]; simp; omega
theorem undn0 (ns : List Int) : undnN ns 0 = 0 ∧ undnF ns 0 = [] := ⟨by unfold undnN; rw [undnF]; rfl, rfl⟩
theorem undn_no {ns : List Int} {k : Nat} (h : udl ns (fstU ns k) (sndU ns k) = true) : undnF ns (k + 1) = undnF ns k ∧ undnN ns (k + 1) = undnN ns k := by
  have e : undnF ns (k + 1) = undnF ns k := by rw [undnF, if_pos h]
  exact ⟨e, by unfold undnN; rw [e]⟩
theorem undn_yes {ns : List Int} {k : Nat} (h : udl ns (fstU ns k) (sndU ns k) = false) : undnF ns (k + 1) = undnF ns k ++ [(fstU ns k : Int), (sndU ns k : Int)] ∧ undnN ns (k + 1) = undnN ns k + 1 := by
  have e : undnF ns (k + 1) = undnF ns k ++ [(fstU ns k : Int), (sndU ns k : Int)] := by rw [undnF, if_neg (by rw [h]; simp)]
  exact ⟨e, by unfold undnN; rw [e, List.length_append]; simp⟩
theorem pour_u (ns : List Int) (k : Nat) (hk : k < poursN ns 36) : fstU ns k < 6 ∧ sndU ns k < 6 ∧ (fstU ns k ≠ sndU ns k ∧ 0 < canN (tub ns (fstU ns k)) (tub ns (sndU ns k))) ∧ (poursF ns 36).getD (k * 2) 0 = (fstU ns k : Int) ∧ (poursF ns 36).getD (k * 2 + 1) 0 = (sndU ns k : Int) := by
  obtain ⟨p, q, a1, a2, a0, a3, a4, a5⟩ := (pours_at2 ns 36 (Nat.le_refl _)).2 k hk
  have e1 : fstU ns k = p := by unfold fstU; rw [a4]; simp
  have e2 : sndU ns k = q := by unfold sndU; rw [a5]; simp
  rw [e1, e2]; exact ⟨a1, a2, ⟨a0, a3⟩, a4, a5⟩
def undnFA (ns : List Int) : List Int := if vR ns = true then undnF ns (poursN ns 36) else []
def undnNA (ns : List Int) : Nat := if vR ns = true then undnN ns (poursN ns 36) else 0
theorem undnNA_le (ns : List Int) : undnNA ns ≤ 36 := by
  unfold undnNA
  split
  · exact Nat.le_trans (undnN_le ns _) (poursN_le ns 36)
  · omega
def UndnPost (ns : List Int) (w : World) (e : Ending) (w' : World) : Prop := ∃ v : Value, e = .returned (.tuple #[v, .bool (vR ns)]) ∧ Prs w' w.heap.size v (undnNA ns) (undnFA ns) ∧ Kept w w'

theorem range_twoU {w : World} {g o : Nat} {A B : Value} (h0 : w.cell? ⟨g, o, none⟩ = some A) (h1 : w.cell? ⟨g, o + 1, none⟩ = some B) : w.rangeAt g o [A, B] := by
  intro j v hv
  match j, hv with
  | 0, hv => simp at hv; subst hv; exact h0
  | 1, hv => simp at hv; subst hv; exact h1
  | j + 2, hv => simp at hv
theorem Prs.apartU {w w' : World} {b : Nat} {v : Value} {n : Nat} {fs : List Int} (h : Prs w b v n fs) {r : Option Nat} (hg : w.grownBy w' r) (hr : ∀ k, r = some k → v.ownBlock ≠ some k) : Prs w' b v n fs := by
  refine World.ownsRow.kept (row := r) h hg ?_
  cases hv : v.ownBlock with
  | none => exact .inl rfl
  | some k => exact .inr (fun e => hr k e.symm hv)

end Go.Proofs.Ythnkfdhnbafcjab.base
