/-
  Which pours are useful: plain mathematics, and the model's side, walked.
-/
/-
  Which pours are useful, on the model's side, walked.
-/
import Derived.Test.YtglhinihhlmgeacPoursI
import Derived.Test.YtglhinihhlmgeacSort

section
namespace Go.Proofs.Ytglhinihhlmgeac.base
open Go.ChangeShapes Go.WideShapes Go.ChangeAt Go.RowKit
set_option linter.unusedVariables false
set_option linter.unusedSimpArgs false

theorem pours_at (ns : List Int) : ∀ m, m ≤ 36 → (poursF ns m).length = poursN ns m * 2 ∧ ∀ j, j < poursN ns m → ∃ p q : Nat, p < 6 ∧ q < 6 ∧ 0 < canN (tub ns p) (tub ns q) ∧ (poursF ns m).getD (j * 2) 0 = (p : Int) ∧ (poursF ns m).getD (j * 2 + 1) 0 = (q : Int)
  | 0, _ => by rw [(pours0 ns).1, (pours0 ns).2]; exact ⟨rfl, fun j hj => by omega⟩
  | m + 1, hm => by
    obtain ⟨h1, h2⟩ := pours_at ns m (by omega)
    by_cases hc : m / 6 ≠ m % 6 ∧ 0 < canN (tub ns (m / 6)) (tub ns (m % 6))
    · have e : poursF ns (m + 1) = poursF ns m ++ [((m / 6 : Nat) : Int), ((m % 6 : Nat) : Int)] := by rw [poursF, if_pos hc]
      have en : poursN ns (m + 1) = poursN ns m + 1 := by unfold poursN; rw [e, List.length_append]; simp
      rw [e, en]
      refine ⟨by rw [List.length_append, h1]; simp; omega, fun j hj => ?_⟩
      by_cases hjn : j < poursN ns m
      · obtain ⟨p, q, a1, a2, a3, a4, a5⟩ := h2 j hjn
        refine ⟨p, q, a1, a2, a3, ?_, ?_⟩
        · rw [← a4, List.getD_eq_getElem?_getD, List.getD_eq_getElem?_getD, List.getElem?_append_left (by omega)]
        · rw [← a5, List.getD_eq_getElem?_getD, List.getD_eq_getElem?_getD, List.getElem?_append_left (by omega)]
      · obtain rfl : j = poursN ns m := by omega
        refine ⟨m / 6, m % 6, by omega, by omega, hc.2, ?_, ?_⟩
        · rw [List.getD_eq_getElem?_getD, List.getElem?_append_right (by omega), h1, Nat.sub_self]; rfl
        · rw [List.getD_eq_getElem?_getD, List.getElem?_append_right (by omega), h1, Nat.add_sub_cancel_left]; rfl
    · have e : poursF ns (m + 1) = poursF ns m := by rw [poursF, if_neg hc]
      have en : poursN ns (m + 1) = poursN ns m := by unfold poursN; rw [e]
      rw [e, en]; exact ⟨h1, h2⟩
def idl (ns : List Int) (p q : Nat) : Bool := decide (topN (tub ns p) = lay (tub ns p)) && decide (lay (tub ns q) = 0)
def fstP (ns : List Int) (k : Nat) : Nat := ((poursF ns 36).getD (k * 2) 0).toNat
def sndP (ns : List Int) (k : Nat) : Nat := ((poursF ns 36).getD (k * 2 + 1) 0).toNat
/-- The useful ones of the first k pours, flat. -/
def usefF (ns : List Int) : Nat → List Int
  | 0 => []
  | k + 1 => if idl ns (fstP ns k) (sndP ns k) = true then usefF ns k else usefF ns k ++ [(fstP ns k : Int), (sndP ns k : Int)]
def usefN (ns : List Int) (k : Nat) : Nat := (usefF ns k).length / 2
theorem usefN_le (ns : List Int) : ∀ k, usefN ns k ≤ k
  | 0 => by unfold usefN; rw [usefF]; simp
  | k + 1 => by
    have := usefN_le ns k
    unfold usefN at this ⊢
    rw [usefF]
    split
    · omega
    · rw [List.length_append]; simp; omega
theorem usef0 (ns : List Int) : usefN ns 0 = 0 ∧ usefF ns 0 = [] := ⟨by unfold usefN; rw [usefF]; rfl, rfl⟩
theorem usef_idle {ns : List Int} {k : Nat} (h : idl ns (fstP ns k) (sndP ns k) = true) : usefF ns (k + 1) = usefF ns k ∧ usefN ns (k + 1) = usefN ns k := by
  have e : usefF ns (k + 1) = usefF ns k := by rw [usefF, if_pos h]
  exact ⟨e, by unfold usefN; rw [e]⟩
theorem usef_new {ns : List Int} {k : Nat} (h : idl ns (fstP ns k) (sndP ns k) = false) : usefF ns (k + 1) = usefF ns k ++ [(fstP ns k : Int), (sndP ns k : Int)] ∧ usefN ns (k + 1) = usefN ns k + 1 := by
  have e : usefF ns (k + 1) = usefF ns k ++ [(fstP ns k : Int), (sndP ns k : Int)] := by rw [usefF, if_neg (by rw [h]; simp)]
  exact ⟨e, by unfold usefN; rw [e, List.length_append]; simp⟩
theorem pour_k (ns : List Int) (k : Nat) (hk : k < poursN ns 36) : fstP ns k < 6 ∧ sndP ns k < 6 ∧ 0 < canN (tub ns (fstP ns k)) (tub ns (sndP ns k)) ∧ (poursF ns 36).getD (k * 2) 0 = (fstP ns k : Int) ∧ (poursF ns 36).getD (k * 2 + 1) 0 = (sndP ns k : Int) := by
  obtain ⟨p, q, a1, a2, a3, a4, a5⟩ := (pours_at ns 36 (Nat.le_refl _)).2 k hk
  have e1 : fstP ns k = p := by unfold fstP; rw [a4]; simp
  have e2 : sndP ns k = q := by unfold sndP; rw [a5]; simp
  rw [e1, e2]; exact ⟨a1, a2, a3, a4, a5⟩
theorem can_lay {s t : List Int} (hs : s.length = 4) (vs : vT s = true) (h : 0 < canN s t) : lay s ≠ 0 := by
  intro h0
  have := (tubeFacts hs vs).none.1 h0
  unfold canN at h
  rw [this] at h
  split at h <;> simp at h
def usefFA (ns : List Int) : List Int := if vR ns = true then usefF ns (poursN ns 36) else []
def usefNA (ns : List Int) : Nat := if vR ns = true then usefN ns (poursN ns 36) else 0
theorem usefNA_le (ns : List Int) : usefNA ns ≤ 36 := by
  unfold usefNA
  split
  · exact Nat.le_trans (usefN_le ns _) (poursN_le ns 36)
  · omega
def UsefPost (ns : List Int) (w : World) (e : Ending) (w' : World) : Prop := ∃ v : Value, e = .returned (.tuple #[v, .bool (vR ns)]) ∧ Prs w' w.heap.size v (usefNA ns) (usefFA ns) ∧ Kept w w'

end Go.Proofs.Ytglhinihhlmgeac.base
end

section
namespace Go.Proofs.Ytglhinihhlmgeac.base
open Go.ChangeShapes Go.WideShapes Go.ChangeAt Go.RowKit
set_option linter.unusedVariables false
set_option linter.unusedSimpArgs false

theorem range_two {w : World} {g o : Nat} {A B : Value} (h0 : w.cell? ⟨g, o, none⟩ = some A) (h1 : w.cell? ⟨g, o + 1, none⟩ = some B) : w.rangeAt g o [A, B] := by
  intro j v hv
  match j, hv with
  | 0, hv => simp at hv; subst hv; exact h0
  | 1, hv => simp at hv; subst hv; exact h1
  | j + 2, hv => simp at hv
theorem Prs.apart {w w' : World} {b : Nat} {v : Value} {n : Nat} {fs : List Int} (h : Prs w b v n fs) {r : Option Nat} (hg : w.grownBy w' r) (hr : ∀ k, r = some k → v.ownBlock ≠ some k) : Prs w' b v n fs := by
  refine World.ownsRow.kept (row := r) h hg ?_
  cases hv : v.ownBlock with
  | none => exact .inl rfl
  | some k => exact .inr (fun e => hr k e.symm hv)

end Go.Proofs.Ytglhinihhlmgeac.base
end
