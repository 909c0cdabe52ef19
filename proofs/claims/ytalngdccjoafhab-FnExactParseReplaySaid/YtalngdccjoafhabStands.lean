/-
  Whether a byte stands in a text: plain facts, and the model's loop, walked.
-/
import Derived.Test.YtalngdccjoafhabProg
import Derived.WalkKit
import Derived.ProofKit
import Derived.WalkLawsBesides
import Derived.WalkSpells
import Derived.LoopTactic
import Derived.Lib.Hide
import Derived.Lib.Bytealg
namespace Go.Proofs.Ytalngdccjoafhab.base
open Go.ChangeShapes Go.WideShapes Go.ChangeAt Go.RowKit
set_option linter.unusedVariables false
set_option linter.unusedSimpArgs false

/-- Whether a byte stands in a text, in the words of the library's contract. -/
def stands (l : List UInt8) (b : UInt8) : Bool := decide (0 ≤ Lib.indexByte l b)

theorem indexByte_low (l : List UInt8) (c : UInt8) : -1 ≤ Lib.indexByte l c := by
  induction l with
  | nil => simp [Lib.indexByte]
  | cons b l ih =>
    unfold Lib.indexByte
    split
    · omega
    · split <;> omega

theorem indexByte_iff (l : List UInt8) (c : UInt8) : 0 ≤ Lib.indexByte l c ↔ c ∈ l := by
  induction l with
  | nil => simp [Lib.indexByte]
  | cons b l ih =>
    have hlow := indexByte_low l c
    unfold Lib.indexByte
    by_cases h : b = c
    · subst h; simp
    · rw [if_neg (by simpa using h)]
      have h' : ¬ c = b := fun e => h e.symm
      rw [List.mem_cons, or_iff_right h', ← ih]
      by_cases h2 : Lib.indexByte l c = -1
      · rw [if_pos (by simpa using h2)]; omega
      · rw [if_neg (by simpa using h2)]; omega

theorem stands_iff (l : List UInt8) (b : UInt8) : stands l b = true ↔ b ∈ l := by
  unfold stands; rw [decide_eq_true_iff]; exact indexByte_iff l b
theorem stands_not (l : List UInt8) (b : UInt8) : stands l b = false ↔ b ∉ l := by
  rw [← Bool.not_eq_true, stands_iff]

theorem bytesize (s : ByteArray) : s.size = s.data.toList.length := by show s.data.size = _; simp
theorem byteat (s : ByteArray) (k : Nat) (h : k < s.size) : s.data.toList[k]? = some s[k] := by
  rw [List.getElem?_eq_getElem (by rw [← bytesize]; exact h)]; rfl

theorem stands_at (s : ByteArray) (b : UInt8) (k : Nat) (h : k < s.size) (e : s[k] = b) : stands s.data.toList b = true := by
  rw [stands_iff, ← e]; exact List.mem_of_getElem? (byteat s k h)
theorem stands_none (s : ByteArray) (b : UInt8) (h : ∀ j (hj : j < s.size), s[j] ≠ b) : stands s.data.toList b = false := by
  rw [stands_not]
  intro hm
  obtain ⟨j, hj, e⟩ := List.mem_iff_getElem.1 hm
  have hj' : j < s.size := by rw [bytesize]; exact hj
  exact h j hj' e

end Go.Proofs.Ytalngdccjoafhab.base
