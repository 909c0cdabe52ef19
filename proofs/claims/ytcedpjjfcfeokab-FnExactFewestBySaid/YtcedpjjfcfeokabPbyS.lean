/-
  Pours by a rule, on the model's side, walked.
-/
import Derived.Test.YtcedpjjfcfeokabL8M
namespace Go.Proofs.Ytcedpjjfcfeokab.base
open Go.ChangeShapes Go.WideShapes Go.ChangeAt Go.RowKit
set_option linter.unusedVariables false
set_option linter.unusedSimpArgs false

theorem mvN_le (ns ds : List Int) (x : Int) (p q : Nat) : mvN ns ds x p q ≤ topN (tub ns p) := by
  unfold mvN
  split
  · omega
  · exact (mvT_le x _ _ _).1
theorem pb_not {ns ds : List Int} {x i j : Int} (h : ¬ (fitA ns ds = true ∧ ruleV x = true ∧ (0 ≤ i ∧ i < 6) ∧ (0 ≤ j ∧ j < 6))) : pbOk ns ds x i j = false := by
  cases hb : pbOk ns ds x i j with
  | false => rfl
  | true =>
    obtain ⟨h1, h2, p, q, rfl, rfl, hp, hq, _⟩ := pbOk_of hb
    exact absurd ⟨h1, h2, by omega, by omega⟩ h
theorem pb_nat {ns ds : List Int} {x : Int} {p q : Nat} (hf : fitA ns ds = true) (hr : ruleV x = true) (hp : p < 6) (hq : q < 6) : pbOk ns ds x (p : Int) (q : Int) = decide (0 < mvN ns ds x p q) := by
  unfold pbOk; rw [hf, hr, decide_eq_true (by omega), decide_eq_true (by omega)]; simp

end Go.Proofs.Ytcedpjjfcfeokab.base
