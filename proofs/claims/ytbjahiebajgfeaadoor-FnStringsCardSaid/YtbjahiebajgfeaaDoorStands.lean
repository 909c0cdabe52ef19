/-
  Whether a byte stands in a text: plain facts, and the model's loop, walked.
-/
import Derived.Test.YtbjahiebajgfeaaDoorProg
import Derived.WalkKit
import Derived.ProofKit
import Derived.WalkLawsBesides
import Derived.WalkSpells
import Derived.LoopTactic
import Derived.Lib.Hide
import Derived.Lib.Bytealg
namespace Go.Proofs.YtbjahiebajgfeaaDoor.base
open Go.ChangeShapes Go.WideShapes Go.ChangeAt Go.RowKit
set_option linter.unusedVariables false

/-- Whether a byte stands in a text, in the words of the library's contract. -/
def stands (l : List UInt8) (b : UInt8) : Bool := decide (0 ≤ Lib.indexByte l b)

theorem indexByte_low (l : List UInt8) (c : UInt8) : -1 ≤ Lib.indexByte l c := by
  induction l with
  | nil => simp [Lib.indexByte]
  | cons b l ih =>
    unfold Lib.indexByte
    split
    · omega
    · split <;> omega

theorem indexByte_iff (l : List UInt8) (c : UInt8) : 0 ≤ Lib.indexByte l c ↔ c ∈ l := by
  induction l with
  | nil => simp [Lib.indexByte]
  | cons b l ih =>
    have hlow := indexByte_low l c
    unfold Lib.indexByte
    by_cases h : b = c
    · subst h; simp
    · rw [if_neg (by simpa using h)]
      have h' : ¬ c = b := fun e => h e.symm
      rw [List.mem_cons, or_iff_right h', ← ih]
      by_cases h2 : Lib.indexByte l c = -1
      · rw [if_pos (by simpa using h2)]; omega
      · rw [if_neg (by simpa using h2)]; omega

theorem stands_iff (l : List UInt8) (b : UInt8) : stands l b = true ↔ b ∈ l := by
  unfold stands; rw [decide_eq_true_iff]; exact indexByte_iff l b
theorem stands_not (l : List UInt8) (b : UInt8) : stands l b = false ↔ b ∉ l := by
  rw [← Bool.not_eq_true, stands_iff]

theorem bytesize (s : ByteArray) : s.size = s.data.toList.length := by show s.data.size = _; simp
theorem byteat (s : ByteArray) (k : Nat) (h : k < s.size) : s.data.toList[k]? = some s[k] := by
  rw [List.getElem?_eq_getElem (by rw [← bytesize]; exact h)]; rfl

theorem stands_at (s : ByteArray) (b : UInt8) (k : Nat) (h : k < s.size) (e : s[k] = b) : stands s.data.toList b = true := by
  rw [stands_iff, ← e]; exact List.mem_of_getElem? (byteat s k h)
theorem stands_none (s : ByteArray) (b : UInt8) (h : ∀ j (hj : j < s.size), s[j] ≠ b) : stands s.data.toList b = false := by
  rw [stands_not]
  intro hm
  obtain ⟨j, hj, e⟩ := List.mem_iff_getElem.1 hm
  have hj' : j < s.size := by rw [bytesize]; exact hj
  exact h j hj' e

set_option maxHeartbeats 400000 in
theorem l1Stands_any (s : ByteArray) (c : Int) (b : UInt8) (hc : c = (b.toNat : Int)) (w : World) (hs : s.size ≤ maxLen) :
    Calls Tryd.prog 33 #[.string s, .int .u8 c] w fun e w' => e = .returned (.bool (stands s.data.toList b)) ∧ w = w' := by
  unfold maxLen at hs
  have HC := Lib.hid hc; clear hc
  go_enter Tryd.func33, Tryd.ntmps33
  go_wp2_with fail
  go_loop [5] (fun i => ∃ k : Nat, k ≤ s.size ∧ i = .int .i64 k ∧ Hid (∀ j (hj : j < s.size), j < k → s[j] ≠ b)) (fun i => s.size - (intOf i).toNat)
  case atStart => exact ⟨0, Nat.zero_le _, rfl, Lib.hid (fun j hj h => by omega)⟩
  case round =>
    obtain ⟨k, hk, rfl, hh⟩ := hrel
    by_cases hlt : k < s.size
    · by_cases e : s[k] = b
      · have ht : ((s[k].toNat : Int) == c) = true := by rw [HC.out, e]; simp
        have HR := Lib.hid (stands_at s b k hlt e)
        clear e
        go_wp2_with fail
        go_ret
        exact ⟨by rw [HR.out]; rfl, rfl⟩
      · have ht : ((s[k].toNat : Int) == c) = false := by
          rw [HC.out, beq_eq_false_iff_ne]; intro h; exact e (UInt8.toNat_inj.1 (by omega))
        have HN : Hid (∀ j (hj : j < s.size), j < k + 1 → s[j] ≠ b) := Lib.hid (fun j hj h => by
          by_cases hjk : j = k
          · subst hjk; exact e
          · exact hh.out j hj (by omega))
        clear e hh
        go_wp2_with fail
        go_round
        case rel => exact ⟨k + 1, by omega, by go_num, HN⟩
        case measure => simp [intOf]; omega
    · have HR := Lib.hid (stands_none s b (fun j hj => hh.out j hj (by omega)))
      go_wp2_with fail
      go_ret
      exact ⟨by rw [HR.out]; rfl, rfl⟩
end Go.Proofs.YtbjahiebajgfeaaDoor.base
