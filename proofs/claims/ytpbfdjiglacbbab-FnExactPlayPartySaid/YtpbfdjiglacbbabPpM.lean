/-
  A party that is played: plain mathematics.
-/
import Derived.Test.YtpbfdjiglacbbabGmW
namespace Go.Proofs.Ytpbfdjiglacbbab.base
set_option linter.unusedVariables false
set_option linter.unusedSimpArgs false

def pathOkG (ns : List Int) (n : Nat) : Bool := vR ns && decide (n ≤ 60)
def ppR (ns fs : List Int) : Nat → List Int
  | 0 => ns
  | k + 1 => pourR (ppR ns fs k) (fs.getD (k * 2) 0) (fs.getD (k * 2 + 1) 0)
def ppG (ns fs : List Int) (k : Nat) : Int := (cmN (ppR ns fs (k + 1)) : Int) - (cmN (ppR ns fs k) : Int)
def ppP (ns fs : List Int) : Nat → List Int
  | 0 => [0, 0]
  | k + 1 => (ppP ns fs k).set (k % 2) ((ppP ns fs k).getD (k % 2) 0 + ppG ns fs k)
def ppT (ns fs : List Int) (k : Nat) : Bool := tbOk (ppR ns fs k) (fs.getD (k * 2) 0) (fs.getD (k * 2 + 1) 0)
/-- How many of the first n pours are made. -/
def ppN (ns fs : List Int) : Nat → Nat
  | 0 => 0
  | k + 1 => if ppN ns fs k = k ∧ ppT ns fs k = true then k + 1 else ppN ns fs k
theorem ppN_le (ns fs : List Int) : ∀ k, ppN ns fs k ≤ k
  | 0 => Nat.le_refl _
  | k + 1 => by
    have := ppN_le ns fs k
    rw [ppN]; split <;> omega
theorem ppN_step {ns fs : List Int} {k : Nat} (h : ppN ns fs k = k) (ht : ppT ns fs k = true) : ppN ns fs (k + 1) = k + 1 := by rw [ppN, if_pos ⟨h, ht⟩]
theorem ppN_stop {ns fs : List Int} {k : Nat} (h : ppN ns fs k = k) (ht : ppT ns fs k = false) : ∀ n, k ≤ n → ppN ns fs n = k := fun n hn => by
  obtain ⟨d, rfl⟩ : ∃ d, n = k + d := ⟨n - k, by omega⟩
  clear hn
  induction d with
  | zero => exact h
  | succ d ih =>
    rw [show k + (d + 1) = k + d + 1 by omega, ppN, ih, if_neg]
    rintro ⟨h1, h2⟩
    have : d = 0 := by omega
    subst this
    rw [Nat.add_zero, ht] at h2
    cases h2
theorem ppN_back {ns fs : List Int} {k : Nat} (h : ppN ns fs (k + 1) = k + 1) : ppN ns fs k = k ∧ ppT ns fs k = true := by
  rw [ppN] at h
  split at h
  · assumption
  · have := ppN_le ns fs k; omega
theorem pp_good {ns : List Int} (fs : List Int) (G : GR ns) : ∀ k, ppN ns fs k = k → GR (ppR ns fs k)
  | 0, _ => G
  | k + 1, h => by
    obtain ⟨h1, h2⟩ := ppN_back h
    have ih := pp_good fs G k h1
    unfold ppT tbOk at h2
    have hp := (Bool.and_eq_true_iff.1 h2).1
    rw [ppR]
    exact ⟨pourR_len ih.1 _ _, (pour_facts ih.1 hp).valid⟩
theorem ppP_len (ns fs : List Int) : ∀ k, (ppP ns fs k).length = 2
  | 0 => rfl
  | k + 1 => by rw [ppP, List.length_set, ppP_len ns fs k]
theorem ppG_in (ns fs : List Int) (k : Nat) : -6 ≤ ppG ns fs k ∧ ppG ns fs k ≤ 6 := by
  have h1 := cmN_le (ppR ns fs (k + 1))
  have h2 := cmN_le (ppR ns fs k)
  unfold ppG; omega
theorem getD_setG (l : List Int) (i j : Nat) (z : Int) : (l.set i z).getD j 0 = l.getD j 0 ∨ (l.set i z).getD j 0 = z := by
  rw [List.getD_eq_getElem?_getD, List.getElem?_set, List.getD_eq_getElem?_getD]
  split
  · split
    · right; rfl
    · rename_i h1 h2
      left
      rw [List.getElem?_eq_none (by omega)]
  · left; rfl
theorem ppP_in (ns fs : List Int) : ∀ (k j : Nat), -6 * (k : Int) ≤ (ppP ns fs k).getD j 0 ∧ (ppP ns fs k).getD j 0 ≤ 6 * k
  | 0, j => by
    have : (ppP ns fs 0).getD j 0 = 0 := by
      rw [ppP]
      match j with
      | 0 => rfl
      | 1 => rfl
      | j + 2 => rfl
    rw [this]; omega
  | k + 1, j => by
    have h1 := ppP_in ns fs k j
    have h2 := ppP_in ns fs k (k % 2)
    have h3 := ppG_in ns fs k
    rw [ppP]
    rcases getD_setG (ppP ns fs k) (k % 2) j ((ppP ns fs k).getD (k % 2) 0 + ppG ns fs k) with e | e <;> rw [e] <;> omega
def ppRA (ns fs : List Int) (n : Nat) : List Int := if pathOkG ns n = true then ppR ns fs (ppN ns fs n) else z24
def ppPA (ns fs : List Int) (n : Nat) : List Int := if pathOkG ns n = true then ppP ns fs (ppN ns fs n) else [0, 0]
def ppNA (ns fs : List Int) (n : Nat) : Nat := if pathOkG ns n = true then ppN ns fs n else 0
theorem ppRA_len {ns : List Int} (h : ns.length = 24) (fs : List Int) (n : Nat) : (ppRA ns fs n).length = 24 := by
  unfold ppRA
  split
  · generalize ppN ns fs n = k
    induction k with
    | zero => exact h
    | succ k ih => rw [ppR]; exact pourR_len ih _ _
  · rfl
theorem ppPA_len (ns fs : List Int) (n : Nat) : (ppPA ns fs n).length = 2 := by
  unfold ppPA
  split
  · exact ppP_len _ _ _
  · rfl
end Go.Proofs.Ytpbfdjiglacbbab.base
