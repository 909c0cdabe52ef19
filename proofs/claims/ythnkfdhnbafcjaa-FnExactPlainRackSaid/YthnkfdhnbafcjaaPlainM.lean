/-
  The plain rack of counts, in plain mathematics.
-/
import Derived.Test.YthnkfdhnbafcjaaRackOps
namespace Go.Proofs.Ythnkfdhnbafcjaa.base
set_option linter.unusedVariables false
set_option linter.unusedSimpArgs false

/-- k layers of the color c, laid into the tube p from the bottom on. -/
def fillT (ns : List Int) (p : Nat) (c : Int) : Nat → List Int
  | 0 => ns
  | k + 1 => (fillT ns p c k).set (p * 4 + k) c
theorem fillT_len (ns : List Int) (p : Nat) (c : Int) : ∀ k, (fillT ns p c k).length = ns.length
  | 0 => rfl
  | k + 1 => by rw [fillT, List.length_set]; exact fillT_len ns p c k
/-- How many tubes are filled, and the rack, when the first m colors are done. -/
def plainP (cs : List Int) : Nat → Nat × List Int
  | 0 => (0, z24)
  | m + 1 => if 0 < cs.getD m 0 then ((plainP cs m).1 + 1, fillT (plainP cs m).2 (plainP cs m).1 (m : Int) (cs.getD m 0).toNat) else plainP cs m
theorem plainP_len (cs : List Int) : ∀ m, (plainP cs m).2.length = 24
  | 0 => rfl
  | m + 1 => by
    rw [plainP]
    split
    · rw [fillT_len]; exact plainP_len cs m
    · exact plainP_len cs m
theorem plainP_le (cs : List Int) : ∀ m, (plainP cs m).1 ≤ m
  | 0 => Nat.le_refl _
  | m + 1 => by
    have := plainP_le cs m
    rw [plainP]
    split
    · show (plainP cs m).1 + 1 ≤ m + 1; omega
    · omega
theorem plainP_yes {cs : List Int} {m : Nat} (h : 0 < cs.getD m 0) : plainP cs (m + 1) = ((plainP cs m).1 + 1, fillT (plainP cs m).2 (plainP cs m).1 (m : Int) (cs.getD m 0).toNat) := by rw [plainP, if_pos h]
theorem plainP_no {cs : List Int} {m : Nat} (h : ¬ 0 < cs.getD m 0) : plainP cs (m + 1) = plainP cs m := by rw [plainP, if_neg h]
theorem plainP_one {cs : List Int} (h : cs.getD 0 0 = 0) : plainP cs 1 = (0, z24) := by rw [plainP_no (by omega)]; rfl
/-- With the first color's count 0 there is a place for each color. -/
theorem plainP_lt {cs : List Int} (h : cs.getD 0 0 = 0) : ∀ m, (plainP cs (m + 1)).1 ≤ m
  | 0 => by rw [plainP_one h]; exact Nat.le_refl _
  | m + 1 => by
    have := plainP_lt h m
    by_cases hc : 0 < cs.getD (m + 1) 0
    · rw [plainP_yes hc]; show (plainP cs (m + 1)).1 + 1 ≤ m + 1; omega
    · rw [plainP_no hc]; omega
def plainOk (cs : List Int) : Bool := decide (cs.getD 0 0 = 0) && (List.range 6).all fun j => decide (0 ≤ cs.getD j 0 ∧ cs.getD j 0 ≤ 4)
def plainR (cs : List Int) : List Int := if plainOk cs = true then (plainP cs 6).2 else z24
theorem plainR_len (cs : List Int) : (plainR cs).length = 24 := by
  unfold plainR
  split
  · exact plainP_len cs 6
  · rfl
theorem plainOk_zero {cs : List Int} (h : cs.getD 0 0 ≠ 0) : plainOk cs = false := by unfold plainOk; rw [decide_eq_false h]; rfl
theorem plainOk_at {cs : List Int} (m : Nat) (hm : m < 6) (h : ¬ (0 ≤ cs.getD m 0 ∧ cs.getD m 0 ≤ 4)) : plainOk cs = false := by
  cases hb : plainOk cs with
  | false => rfl
  | true =>
    unfold plainOk at hb
    simp only [Bool.and_eq_true] at hb
    exact absurd (of_decide_eq_true (List.all_eq_true.1 hb.2 m (by simpa using hm))) h
theorem plainOk_all {cs : List Int} (h0 : cs.getD 0 0 = 0) (h : ∀ m, m < 6 → 0 ≤ cs.getD m 0 ∧ cs.getD m 0 ≤ 4) : plainOk cs = true := by
  unfold plainOk
  rw [decide_eq_true h0, Bool.true_and]
  exact List.all_eq_true.2 fun j hj => decide_eq_true (h j (by simpa using hj))
end Go.Proofs.Ythnkfdhnbafcjaa.base
