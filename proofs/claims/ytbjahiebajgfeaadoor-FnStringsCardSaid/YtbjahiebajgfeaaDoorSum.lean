/-
  The checksum functions of the program and of the model, walked: what they return, for any string of at most maxLen bytes.
  No condition beyond that length. The plain function 'sumOf' is the document's own recurrence.
-/
import Derived.Test.YtbjahiebajgfeaaDoorProg
import Derived.WalkKit
import Derived.ProofKit
import Derived.OpenShut
import Derived.ShutString
import Derived.Lib.Hide
namespace Go.Proofs.YtbjahiebajgfeaaDoor.sums
open Go.ChangeShapes Go.WideShapes Go.ChangeAt Go.RowKit
open Go.ChangeMaps (open_string shut_string)
set_option linter.unusedVariables false

def stepOf (h : Int) (c : UInt8) : Int := (41 * h + c.toNat + 1) % 999979
def sumOf (l : List UInt8) : Int := l.foldl stepOf 7

theorem stepOf_range (h : Int) (c : UInt8) : 0 ≤ stepOf h c ∧ stepOf h c < 999979 := by
  unfold stepOf; omega

theorem foldl_range (l : List UInt8) (h : Int) (h0 : 0 ≤ h ∧ h < 999979) : 0 ≤ l.foldl stepOf h ∧ l.foldl stepOf h < 999979 := by
  induction l generalizing h with
  | nil => exact h0
  | cons c r ih => exact ih _ (stepOf_range h c)

theorem sumOf_range (l : List UInt8) : 0 ≤ sumOf l ∧ sumOf l < 999979 := foldl_range l 7 (by omega)

theorem take_snoc (s : ByteArray) (k : Nat) (h : k < s.size) : s.data.toList.take (k + 1) = s.data.toList.take k ++ [s[k]] := by
  rw [List.take_succ_eq_append_getElem (by simpa using h)]; rfl

theorem sumOf_take (s : ByteArray) (k : Nat) (h : k < s.size) : sumOf (s.data.toList.take (k + 1)) = (41 * sumOf (s.data.toList.take k) + (s[k].toNat : Int) + 1) % 999979 := by
  rw [take_snoc s k h]; unfold sumOf; rw [List.foldl_append]; rfl

theorem ret_int {k : IntKind} {a b : Int} (h : a = b) : Ending.returned (.int k a) = .returned (.int k b) := by rw [h]

set_option maxHeartbeats 400000 in
theorem l1Sum_any (s : ByteArray) (w : World) (hs : s.size ≤ maxLen) :
    Calls Tryd.prog 42 #[.string s] w fun e w' => e = .returned (.int .i64 (sumOf s.data.toList)) ∧ w = w' := by
  unfold maxLen at hs
  go_enter Tryd.func42, Tryd.ntmps42
  go_wp2
  go_loop [3, 4] (fun n i => ∃ k : Nat, k ≤ s.size ∧ i = .int .i64 k ∧ n = .int .i64 (sumOf (s.data.toList.take k))) (fun _ i => s.size - (intOf i).toNat)
  case atStart => exact ⟨0, Nat.zero_le _, rfl, rfl⟩
  case round =>
    obtain ⟨k, hk, rfl, rfl⟩ := hrel
    have hr := sumOf_range (s.data.toList.take k)
    by_cases hlt : k < s.size
    · have HS := Lib.hid (sumOf_take s k hlt)
      have hb : ((s[k].toNat : Nat) : Int) < 256 := by have := s[k].toNat_lt; omega
      go_wp2
      go_round
      case rel => exact ⟨k + 1, by omega, by go_num, by rw [HS.out]⟩
      case measure => simp [intOf]; omega
    · go_wp2
      go_ret
      exact ⟨ret_int (by rw [List.take_of_length_le (by simp; omega)]), rfl⟩

theorem implChecksum_big (s : ByteArray) (w : World) (h : (4000 : Int) < (s.size : Int)) :
    Calls Tryd.prog 31 #[.string s] w fun e w' => e = .returned (.tuple #[.int .i64 0, .bool false]) ∧ w = w' := by
  go_enter Tryd.func31, Tryd.ntmps31
  go_wp2
  go_ret2
  exact ⟨rfl, rfl⟩

set_option maxHeartbeats 400000 in
theorem implChecksum_small (s : ByteArray) (w : World) (hs : s.size ≤ maxLen) (h : (s.size : Int) ≤ 4000) :
    Calls Tryd.prog 31 #[.string s] w fun e w' => e = .returned (.tuple #[.int .i64 (sumOf s.data.toList), .bool true]) ∧ w = w' := by
  unfold maxLen at hs
  go_enter Tryd.func31, Tryd.ntmps31
  go_wp2
  go_loop [4, 11] (fun n i => ∃ k : Nat, k ≤ s.size ∧ i = .int .i64 k ∧ n = .int .i64 (sumOf (s.data.toList.take k))) (fun _ i => s.size - (intOf i).toNat)
  case atStart => exact ⟨0, Nat.zero_le _, rfl, rfl⟩
  case round =>
    obtain ⟨k, hk, rfl, rfl⟩ := hrel
    have hr := sumOf_range (s.data.toList.take k)
    by_cases hlt : k < s.size
    · have HS := Lib.hid (sumOf_take s k hlt)
      have hb : ((s[k].toNat : Nat) : Int) < 256 := by have := s[k].toNat_lt; omega
      go_wp2
      go_round
      case rel => exact ⟨k + 1, by omega, by go_num, by rw [HS.out]⟩
      case measure => simp [intOf]; omega
    · have HT : Hid (s.data.toList.take k = s.data.toList) := Lib.hid (List.take_of_length_le (by simp; omega))
      go_wp2
      go_ret2
      exact ⟨by rw [HT.out]; rfl, rfl⟩
end Go.Proofs.YtbjahiebajgfeaaDoor.sums
