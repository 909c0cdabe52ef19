/-
  Exchanging two tubes, on both sides, walked.
-/
import Derived.Test.YtemiljokdedidacRackOps
namespace Go.Proofs.Ytemiljokdedidac.base
open Go.ChangeShapes Go.WideShapes Go.ChangeAt Go.RowKit
set_option linter.unusedVariables false
set_option linter.unusedSimpArgs false

def swapOk (ns : List Int) (i j : Int) : Bool := vR ns && decide (0 ≤ i ∧ i < 6) && decide (0 ≤ j ∧ j < 6)
def swapR (ns : List Int) (i j : Int) : List Int := if swapOk ns i j = true then setTub (setTub ns i.toNat (tub ns j.toNat)) j.toNat (tub ns i.toNat) else z24
theorem swapOk_not {ns : List Int} {i j : Int} (h : ¬ (vR ns = true ∧ (0 ≤ i ∧ i < 6) ∧ (0 ≤ j ∧ j < 6))) : swapOk ns i j = false := by
  cases hb : swapOk ns i j with
  | false => rfl
  | true => unfold swapOk at hb; simp at hb; exact absurd ⟨hb.1.1, hb.1.2, hb.2⟩ h
theorem swapR_yes {ns : List Int} {p q : Nat} (hv : vR ns = true) (hp : p < 6) (hq : q < 6) : swapOk ns p q = true ∧ swapR ns p q = setTub (setTub ns p (tub ns q)) q (tub ns p) := by
  have h : swapOk ns p q = true := by unfold swapOk; rw [hv]; simp; omega
  exact ⟨h, by unfold swapR; rw [if_pos h]; simp⟩
theorem swapR_len {ns : List Int} (h : ns.length = 24) (i j : Int) : (swapR ns i j).length = 24 := by
  unfold swapR
  by_cases hb : swapOk ns i j = true
  · rw [if_pos hb]
    unfold swapOk at hb
    simp at hb
    have a1 := tub_len ns j.toNat h (by omega)
    have a2 := tub_len ns i.toNat h (by omega)
    exact setTub_len _ _ _ (setTub_len ns _ _ h (by omega) a1) (by omega) a2
  · rw [if_neg hb]; rfl

structure HasOnly (w : World) (b : Nat) (ns : List Int) : Prop where
  has : Has w b ns 24
end Go.Proofs.Ytemiljokdedidac.base
