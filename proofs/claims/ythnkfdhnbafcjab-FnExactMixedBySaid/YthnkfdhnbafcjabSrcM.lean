/-
  All possible sources, in order, in plain mathematics.
-/
import Derived.Test.YthnkfdhnbafcjabBackM
namespace Go.Proofs.Ythnkfdhnbafcjab.base
set_option linter.unusedVariables false
set_option linter.unusedSimpArgs false

/-- The possible sources among the first m triples. -/
def srcL (ns : List Int) : Nat → List (List Int)
  | 0 => []
  | m + 1 => if backOk ns ((m / 24 : Nat) : Int) ((m / 4 % 6 : Nat) : Int) ((m % 4 + 1 : Nat) : Int) = true then srcL ns m ++ [[((m / 24 : Nat) : Int), ((m / 4 % 6 : Nat) : Int), ((m % 4 + 1 : Nat) : Int)]] else srcL ns m
theorem src_at (p q k : Nat) (hq : q < 6) (hk : k < 4) : ((p * 6 + q) * 4 + k) / 24 = p ∧ ((p * 6 + q) * 4 + k) / 4 % 6 = q ∧ ((p * 6 + q) * 4 + k) % 4 = k := by omega
theorem srcL_yes (ns : List Int) (p q k : Nat) (hq : q < 6) (hk : k < 4) (h : backOk ns (p : Int) (q : Int) ((k + 1 : Nat) : Int) = true) : srcL ns ((p * 6 + q) * 4 + (k + 1)) = srcL ns ((p * 6 + q) * 4 + k) ++ [[(p : Int), (q : Int), ((k + 1 : Nat) : Int)]] := by
  obtain ⟨e1, e2, e3⟩ := src_at p q k hq hk
  rw [show (p * 6 + q) * 4 + (k + 1) = ((p * 6 + q) * 4 + k) + 1 by omega, srcL, e1, e2, e3, if_pos h]
theorem srcL_no (ns : List Int) (p q k : Nat) (hq : q < 6) (hk : k < 4) (h : backOk ns (p : Int) (q : Int) ((k + 1 : Nat) : Int) = false) : srcL ns ((p * 6 + q) * 4 + (k + 1)) = srcL ns ((p * 6 + q) * 4 + k) := by
  obtain ⟨e1, e2, e3⟩ := src_at p q k hq hk
  rw [show (p * 6 + q) * 4 + (k + 1) = ((p * 6 + q) * 4 + k) + 1 by omega, srcL, e1, e2, e3, if_neg (by rw [h]; simp)]
theorem srcL_le (ns : List Int) : ∀ m, (srcL ns m).length ≤ m
  | 0 => by rw [srcL]; simp
  | m + 1 => by
    have := srcL_le ns m
    rw [srcL]
    split
    · rw [List.length_append]; simp; omega
    · omega
theorem srcL_mem (ns : List Int) : ∀ m, ∀ x ∈ srcL ns m, ∃ i j k : Int, x = [i, j, k] ∧ backOk ns i j k = true
  | 0, x, h => by rw [srcL] at h; exact absurd h List.not_mem_nil
  | m + 1, x, h => by
    rw [srcL] at h
    split at h
    next hb =>
      rcases List.mem_append.1 h with h1 | h1
      · exact srcL_mem ns m x h1
      · exact ⟨_, _, _, List.mem_singleton.1 h1, hb⟩
    · exact srcL_mem ns m x h
theorem srcL_len3 (ns : List Int) (m : Nat) : ∀ x ∈ srcL ns m, x.length = 3 := fun x h => by
  obtain ⟨i, j, k, rfl, _⟩ := srcL_mem ns m x h; rfl
/-- All sources of a rack. -/
def srcA (ns : List Int) : List (List Int) := if vR ns = true then srcL ns 144 else []
theorem srcA_le (ns : List Int) : (srcA ns).length ≤ 144 := by
  unfold srcA
  split
  · exact srcL_le ns 144
  · simp
theorem srcA_len3 (ns : List Int) : ∀ x ∈ srcA ns, x.length = 3 := fun x h => by
  unfold srcA at h
  split at h
  · exact srcL_len3 ns 144 x h
  · exact absurd h List.not_mem_nil
theorem srcA_mem (ns : List Int) (x : List Int) (h : x ∈ srcA ns) : ∃ i j k : Int, x = [i, j, k] ∧ backOk ns i j k = true := by
  unfold srcA at h
  split at h
  · exact srcL_mem ns 144 x h
  · exact absurd h List.not_mem_nil
theorem back_nil {ns : List Int} (hv : ¬ vR ns = true) (i j k : Int) : backOk ns i j k = false := by
  cases h : backOk ns i j k with
  | false => rfl
  | true =>
    have := back_putOk h
    unfold putOk twoOk at this
    rw [show vR ns = false by simpa using hv] at this
    simp at this
end Go.Proofs.Ythnkfdhnbafcjab.base
