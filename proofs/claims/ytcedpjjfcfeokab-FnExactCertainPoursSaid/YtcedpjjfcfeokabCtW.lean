/-
  The chance of a top, on both sides, and its law, walked.
-/
import Derived.Test.YtcedpjjfcfeokabTopW
namespace Go.Proofs.Ytcedpjjfcfeokab.base
open Go.ChangeShapes Go.WideShapes Go.ChangeAt Go.RowKit
set_option linter.unusedVariables false
set_option linter.unusedSimpArgs false

def ctOk (vs : List Int) (i r : Int) : Bool := vV vs && decide (0 ≤ i ∧ i < 6) && decide (vMany vs i.toNat ≠ 0) && decide (1 ≤ r ∧ r ≤ 4)
def ctA (vs : List Int) (i r : Int) : List Int := if ctOk vs i r = true then topF vs i.toNat r.toNat else z2
theorem ctA_len (vs : List Int) (i r : Int) : (ctA vs i r).length = 2 := by
  unfold ctA; split <;> rfl
theorem ctOk_not {vs : List Int} {i r : Int} (h : ¬ (vV vs = true ∧ (0 ≤ i ∧ i < 6) ∧ vMany vs i.toNat ≠ 0 ∧ (1 ≤ r ∧ r ≤ 4))) : ctOk vs i r = false ∧ ctA vs i r = z2 := by
  have : ctOk vs i r = false := by
    cases hb : ctOk vs i r with
    | false => rfl
    | true =>
      unfold ctOk at hb
      simp only [Bool.and_eq_true, decide_eq_true_eq] at hb
      exact absurd ⟨hb.1.1.1, hb.1.1.2, hb.1.2, hb.2⟩ h
  refine ⟨this, ?_⟩
  unfold ctA; rw [this]; rfl
theorem ctOk_yes {vs : List Int} {p q : Nat} (hv : vV vs = true) (hp : p < 6) (hm : vMany vs p ≠ 0) (h1 : 1 ≤ q) (h4 : q ≤ 4) : ctOk vs p q = true ∧ ctA vs p q = topF vs p q := by
  have : ctOk vs p q = true := by
    unfold ctOk
    simp only [Bool.and_eq_true, decide_eq_true_eq, Int.toNat_natCast]
    exact ⟨⟨⟨hv, by omega, by omega⟩, hm⟩, by omega, by omega⟩
  refine ⟨this, ?_⟩
  unfold ctA
  rw [if_pos this, Int.toNat_natCast, Int.toNat_natCast]
/-- What the program reckons with. -/
theorem top_nums {vs : List Int} {i m c r : Nat} (h : vs.length = 18) (hv : vV vs = true) (T : TopFacts vs i m c) (h1 : 1 ≤ r) :
    longN vs i (r + 1) ≤ longN vs i r ∧ longN vs i r ≤ ordA (hid vs) ∧ longN vs i 1 = ordA (hid vs) ∧ ordA (hid vs) ≤ 101559956668416 ∧ 0 < ordA (hid vs) :=
  ⟨long_mono h hv T r h1, long_le h hv T r h1, long_one h T, (hid_stk h hv).big (viewFacts h hv).small, (hid_stk h hv).pos⟩
end Go.Proofs.Ytcedpjjfcfeokab.base
