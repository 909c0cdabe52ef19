/-
  The law's helper that finds held marks again in a row of numbers, walked.
-/
import Derived.Test.YtpbfdjiglacbbabNu
namespace Go.Proofs.Ytpbfdjiglacbbab.base
open Go.ChangeShapes Go.WideShapes Go.ChangeAt Go.RowKit
set_option linter.unusedVariables false
set_option linter.unusedSimpArgs false

set_option maxHeartbeats 1600000 in
theorem heldIntS_any (b : Nat) (v : Value) (n K : Nat) (fs : List Int) (w : World) (hn : n ≤ 1048576) (hK : K ≤ 1000) (h : Nu w b v n (markF K n fs)) :
    Calls Try.prog 15 #[v, .int .i64 (K : Int)] w fun e w' => e = .returned (.int .i64 ((K + n : Nat) : Int)) ∧ w' = w := by
  cases n with
  | zero =>
    obtain ⟨a, c, hv⟩ := h.shape
    clear h
    subst hv
    go_enter Try.func15, Try.ntmps15
    go_wp2_with fail
    go_loop [1, 5] (fun q i => i = .int .i64 0 ∧ q = .int .i64 (K : Int)) (fun _ _ => 0)
    case atStart => exact ⟨rfl, rfl⟩
    case round =>
      obtain ⟨rfl, rfl⟩ := hrel
      go_wp2_with fail
      go_ret
      exact ⟨rfl, rfl⟩
  | succ n =>
    obtain ⟨g, c, rfl, _, _⟩ := h.form (by omega)
    have HH := Lib.hid h
    clear h
    go_enter Try.func15, Try.ntmps15
    go_wp2_with fail
    go_loop [1, 5] (fun q i => ∃ p : Nat, p ≤ n + 1 ∧ i = .int .i64 p ∧ q = .int .i64 ((K + p : Nat) : Int)) (fun _ i => n + 1 - (intOf i).toNat)
    case atStart => exact ⟨0, by omega, rfl, by simp⟩
    case round =>
      obtain ⟨p, hp, rfl, rfl⟩ := hrel
      by_cases hlt : p < n + 1
      · have hpi : (p : Int) < (n : Int) + 1 := by omega
        have c0 := HH.out.cell p hlt
        rw [markF_get K _ _ fs (by omega)] at c0
        go_wp2_with fail
        go_round
        case rel => exact ⟨p + 1, by omega, by go_num, by go_num⟩
        case measure => simp [intOf]; omega
      · obtain rfl : p = n + 1 := by omega
        go_wp2_with fail
        go_ret
        exact ⟨rfl, rfl⟩
end Go.Proofs.Ytpbfdjiglacbbab.base
