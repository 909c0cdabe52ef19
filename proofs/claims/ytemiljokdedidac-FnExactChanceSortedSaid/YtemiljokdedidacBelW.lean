/-
  The chance of a color below a top, on both sides, walked.
-/
import Derived.Test.YtemiljokdedidacFracW
import Derived.Test.YtemiljokdedidacVwS3
namespace Go.Proofs.Ytemiljokdedidac.base
open Go.ChangeShapes Go.WideShapes Go.ChangeAt Go.RowKit
set_option linter.unusedVariables false
set_option linter.unusedSimpArgs false

def belowOk (vs : List Int) (i c : Int) : Bool := vV vs && decide (0 ≤ i ∧ i < 6) && decide (2 ≤ vMany vs i.toNat) && decide (1 ≤ c ∧ c ≤ 5)
def belowA (vs : List Int) (i c : Int) : List Int := if belowOk vs i c = true then frac ((hid vs).getD c.toNat 0).toNat (plUp (hid vs) 6) else z2
theorem belowA_len (vs : List Int) (i c : Int) : (belowA vs i c).length = 2 := by
  unfold belowA; split <;> rfl
theorem belowOk_not {vs : List Int} {i c : Int} (h : ¬ (vV vs = true ∧ (0 ≤ i ∧ i < 6) ∧ 2 ≤ vMany vs i.toNat ∧ (1 ≤ c ∧ c ≤ 5))) : belowOk vs i c = false ∧ belowA vs i c = z2 := by
  have : belowOk vs i c = false := by
    cases hb : belowOk vs i c with
    | false => rfl
    | true =>
      unfold belowOk at hb
      simp only [Bool.and_eq_true, decide_eq_true_eq] at hb
      exact absurd ⟨hb.1.1.1, hb.1.1.2, hb.1.2, hb.2⟩ h
  refine ⟨this, ?_⟩
  unfold belowA; rw [this]; rfl
/-- What is reckoned where it is asked rightly. -/
theorem below_nums {vs : List Int} (h : vs.length = 18) (hv : vV vs = true) (p c : Nat) (hp : p < 6) (hc : 1 ≤ c ∧ c < 6) (hm : 2 ≤ vMany vs p) :
    ∃ a n : Nat, (hid vs).getD c 0 = (a : Int) ∧ belUp vs 6 = (n : Int) ∧ sumUp (hid vs) 6 = (n : Int) ∧ 0 < n ∧ a ≤ 18 ∧ n ≤ 18 ∧ belowOk vs p c = true ∧ belowA vs p c = frac a n := by
  have F := viewFacts h hv
  have h1 := F.nat c hc.2
  have h2 := F.each c hc.2
  have h3 := F.pl
  have h4 := F.small
  have h5 := F.sum
  have h6 : 0 < belUp vs 6 := by
    have key : ∀ i, i ≤ 6 → p < i → 0 < belUp vs i := by
      intro i
      induction i with
      | zero => intro _ h; omega
      | succ i ih =>
        intro hi hpi
        have hb := belUp_in F.tops i (by omega)
        have hT := topV_at F.tops i (by omega)
        rw [belUp]
        by_cases e : p = i
        · subst e; rw [if_neg (by omega)]; omega
        · have := ih (by omega) (by omega)
          split <;> omega
    exact key 6 (by omega) hp
  have ho : belowOk vs p c = true := by
    unfold belowOk
    simp only [Bool.and_eq_true, decide_eq_true_eq, Int.toNat_natCast]
    exact ⟨⟨⟨hv, by omega, by omega⟩, hm⟩, by omega, by omega⟩
  refine ⟨((hid vs).getD c 0).toNat, plUp (hid vs) 6, by omega, h3.symm, by rw [h5, ← h3], by omega, by omega, h4, ho, ?_⟩
  unfold belowA
  rw [if_pos ho, Int.toNat_natCast]
end Go.Proofs.Ytemiljokdedidac.base
