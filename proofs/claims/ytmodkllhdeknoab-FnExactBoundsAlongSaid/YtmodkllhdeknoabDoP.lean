/-
  Pours of a list, one behind the other: plain mathematics.
-/
import Derived.Test.YtmodkllhdeknoabPourS
namespace Go.Proofs.Ytmodkllhdeknoab.base
set_option linter.unusedVariables false
set_option linter.unusedSimpArgs false

def doR (ns fs : List Int) : Nat → List Int
  | 0 => ns
  | k + 1 => pourR (doR ns fs k) (fs.getD (k * 2) 0) (fs.getD (k * 2 + 1) 0)
def doM (ns fs : List Int) : Nat → Int
  | 0 => 0
  | k + 1 => doM ns fs k + pourA (doR ns fs k) (fs.getD (k * 2) 0) (fs.getD (k * 2 + 1) 0)
/-- All of the first k can be poured. -/
def doOk (ns fs : List Int) : Nat → Bool
  | 0 => vR ns
  | k + 1 => doOk ns fs k && pourOk (doR ns fs k) (fs.getD (k * 2) 0) (fs.getD (k * 2 + 1) 0)
def doRA (ns fs : List Int) (n : Nat) : List Int := if doOk ns fs n = true then doR ns fs n else z24
def doMA (ns fs : List Int) (n : Nat) : Int := if doOk ns fs n = true then doM ns fs n else 0
theorem doR_len {ns : List Int} (h : ns.length = 24) (fs : List Int) : ∀ k, (doR ns fs k).length = 24
  | 0 => h
  | k + 1 => pourR_len (doR_len h fs k) _ _
theorem doRA_len {ns : List Int} (h : ns.length = 24) (fs : List Int) (n : Nat) : (doRA ns fs n).length = 24 := by
  unfold doRA
  split
  · exact doR_len h fs n
  · rfl
theorem doOk_stop {ns fs : List Int} {k : Nat} (h : doOk ns fs k = false) : ∀ n, k ≤ n → doOk ns fs n = false
  | 0, hn => by
    obtain rfl : k = 0 := by omega
    exact h
  | n + 1, hn => by
    by_cases e : k = n + 1
    · subst e; exact h
    · rw [doOk, doOk_stop h n (by omega)]; rfl
theorem do_no {ns fs : List Int} {k n : Nat} (h : doOk ns fs k = false) (hn : k ≤ n) : doRA ns fs n = z24 ∧ doMA ns fs n = 0 ∧ doOk ns fs n = false := by
  have := doOk_stop h n hn
  unfold doRA doMA
  rw [this]; exact ⟨rfl, rfl, rfl⟩
theorem do_yes {ns fs : List Int} {n : Nat} (h : doOk ns fs n = true) : doRA ns fs n = doR ns fs n ∧ doMA ns fs n = doM ns fs n := by
  unfold doRA doMA
  rw [h]; exact ⟨rfl, rfl⟩
theorem pourA_small (ns : List Int) (i j : Int) : 0 ≤ pourA ns i j ∧ pourA ns i j ≤ 4 := by
  unfold pourA
  split
  · unfold canN
    split <;> omega
  · omega
theorem doM_small (ns fs : List Int) : ∀ k, 0 ≤ doM ns fs k ∧ doM ns fs k ≤ 4 * k
  | 0 => by rw [doM]; omega
  | k + 1 => by
    have := doM_small ns fs k
    have := pourA_small (doR ns fs k) (fs.getD (k * 2) 0) (fs.getD (k * 2 + 1) 0)
    rw [doM]; omega
end Go.Proofs.Ytmodkllhdeknoab.base
