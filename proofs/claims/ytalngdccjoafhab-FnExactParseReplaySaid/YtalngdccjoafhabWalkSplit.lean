/-
  The law on SplitString answers true: both functions give the same parts in new memory; what is written into one result is seen by no other.
  No condition beyond the length of a string that can be read.
-/
import Derived.Test.YtalngdccjoafhabSplitImpl
import Derived.Test.YtalngdccjoafhabMark
import Derived.Test.YtalngdccjoafhabRows
namespace Go.Proofs.Ytalngdccjoafhab.base
open Go.ChangeShapes Go.WideShapes Go.ChangeAt Go.RowKit
set_option linter.unusedVariables false
set_option linter.unusedSimpArgs false

def splitB (s sep : ByteArray) : Bool := decide (s.size ≤ 4000 ∧ sep.size = 1)
def splitP (s sep : ByteArray) : List (List UInt8) := if s.size ≤ 4000 ∧ sep.size = 1 then splitL (sep.data.toList.headD 0) s.data.toList else []

theorem splitP_len (s sep : ByteArray) : (splitP s sep).length ≤ 4001 := by
  unfold splitP
  split
  · rename_i h
    have := split_count (sep.data.toList.headD 0) s.data.toList
    have := bytesize s
    omega
  · simp

theorem nilParts (w : World) : IsParts w (w.alloc (.cells #[] 9)) (.slice (some ⟨w.heap.size, 0, none⟩) 0 0) [] :=
  ⟨World.ownsRow_made w #[] 0 (Nat.le_refl _) (Nat.zero_le _) (by simp), (Below.refl _ _).alloc (Nat.le_refl _) _⟩

theorem head_eq (sep : ByteArray) (h : 0 < sep.size) : sep.data.toList.headD 0 = sep[0] := by
  have := byteat sep 0 h
  cases hl : sep.data.toList with
  | nil => rw [hl] at this; cases this
  | cons a r => rw [hl] at this; simpa using this

set_option maxHeartbeats 800000 in
theorem implSplit_any (s sep : ByteArray) (w : World) (hs : s.size ≤ maxLen) (hp : sep.size ≤ maxLen) :
    Calls Try.prog 51 #[.string s, .string sep] w fun e w' => ∃ v : Value, e = .returned (.tuple #[v, .bool (splitB s sep)]) ∧ IsParts w w' v (splitP s sep) := by
  by_cases h1 : s.size ≤ 4000
  · by_cases h2 : sep.size = 1
    · rw [show splitB s sep = true from decide_eq_true ⟨h1, h2⟩, show splitP s sep = splitL (sep.data.toList.headD 0) s.data.toList from if_pos ⟨h1, h2⟩]
      exact implSplit_in s sep w (by omega) h2
    · rw [show splitB s sep = false from decide_eq_false (fun h => h2 h.2), show splitP s sep = [] from if_neg (fun h => h2 h.2)]
      have q1 : decide ((4000 : Int) < (s.size : Int)) = false := by simp; omega
      have q2 : ((sep.size : Int) != 1) = true := by rw [bne_iff_ne]; omega
      go_enter Try.func51, Try.ntmps51
      go_wp2_with fail
      go_ret2
      exact ⟨_, rfl, nilParts w⟩
  · rw [show splitB s sep = false from decide_eq_false (fun h => h1 h.1), show splitP s sep = [] from if_neg (fun h => h1 h.1)]
    have q1 : (4000 : Int) < (s.size : Int) := by omega
    go_enter Try.func51, Try.ntmps51
    go_wp2_with fail
    go_ret2
    exact ⟨_, rfl, nilParts w⟩

/-- A row stays where other blocks turn. -/
theorem row_grown {w wx : World} {base : Nat} {e : TypeId} {size n : Nat} {v : Value} {xs : List Value} {r : Option Nat} (h : w.ownsRow base e size v n xs) (hg : w.grownBy wx r) (hne : v.ownBlock = none ∨ v.ownBlock ≠ r) : wx.ownsRow base e size v n xs := h.kept hg hne

end Go.Proofs.Ytalngdccjoafhab.base
