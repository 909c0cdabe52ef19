/-
  The least and the greatest one of six numbers, walked.
-/
import Derived.Test.YtemiljokdedidacSixVZ
namespace Go.Proofs.Ytemiljokdedidac.base
open Go.ChangeShapes Go.WideShapes Go.ChangeAt Go.RowKit
set_option linter.unusedVariables false
set_option linter.unusedSimpArgs false

def loUp (xs : List Int) : Nat → Int
  | 0 => xs.getD 0 0
  | k + 1 => min (loUp xs k) (xs.getD (k + 1) 0)
def hiUp (xs : List Int) : Nat → Int
  | 0 => xs.getD 0 0
  | k + 1 => max (hiUp xs k) (xs.getD (k + 1) 0)
theorem lo_iff (xs : List Int) (a : Int) : ∀ k, a ≤ loUp xs k ↔ ∀ i, i ≤ k → a ≤ xs.getD i 0
  | 0 => by
    rw [loUp]
    exact ⟨fun h i hi => by obtain rfl : i = 0 := by omega
                            exact h, fun h => h 0 (Nat.le_refl 0)⟩
  | k + 1 => by
    have ih := lo_iff xs a k
    rw [loUp]
    constructor
    · intro h i hi
      have h1 : a ≤ loUp xs k := by omega
      have h2 : a ≤ xs.getD (k + 1) 0 := by omega
      by_cases e : i = k + 1
      · subst e; exact h2
      · exact ih.1 h1 i (by omega)
    · intro h
      have h1 := ih.2 fun i hi => h i (by omega)
      have h2 := h (k + 1) (Nat.le_refl _)
      omega
theorem hi_iff (xs : List Int) (a : Int) : ∀ k, hiUp xs k ≤ a ↔ ∀ i, i ≤ k → xs.getD i 0 ≤ a
  | 0 => by
    rw [hiUp]
    exact ⟨fun h i hi => by obtain rfl : i = 0 := by omega
                            exact h, fun h => h 0 (Nat.le_refl 0)⟩
  | k + 1 => by
    have ih := hi_iff xs a k
    rw [hiUp]
    constructor
    · intro h i hi
      have h1 : hiUp xs k ≤ a := by omega
      have h2 : xs.getD (k + 1) 0 ≤ a := by omega
      by_cases e : i = k + 1
      · subst e; exact h2
      · exact ih.1 h1 i (by omega)
    · intro h
      have h1 := ih.2 fun i hi => h i (by omega)
      have h2 := h (k + 1) (Nat.le_refl _)
      omega
set_option maxHeartbeats 800000 in
theorem min6_any (xs : List Int) (b : Nat) (w : World) (H : Has w b xs 6) :
    Calls Try.prog 110 #[.slice (some ⟨b, 0, none⟩) 6 6] w fun e w' => e = .returned (.int .i64 (loUp xs 5)) ∧ w' = w := by
  have c0 := H.cell 0 (by omega)
  have E0 : Hid (loUp xs 0 = xs.getD 0 0) := Lib.hid rfl
  have HH := Lib.hid H
  clear H
  rw [← E0.out] at c0
  go_enter Try.func110, Try.ntmps110
  go_wp2_with fail
  go_loop [3, 4] (fun m i => ∃ c : Nat, c ≤ 5 ∧ i = .int .i64 ((c + 1 : Nat) : Int) ∧ m = .int .i64 (loUp xs c)) (fun _ z => 6 - (intOf z).toNat)
  case atStart => exact ⟨0, by omega, rfl, rfl⟩
  case round =>
    obtain ⟨c, hc, rfl, rfl⟩ := hrel
    by_cases hc4 : c < 5
    · have hci : ((c + 1 : Nat) : Int) < 6 := by omega
      have hci2 : (c : Int) + 1 < 6 := by omega
      have hc0 := HH.out.cell (c + 1) (by omega)
      have EN : Hid (loUp xs (c + 1) = min (loUp xs c) (xs.getD (c + 1) 0)) := Lib.hid rfl
      generalize xs.getD (c + 1) 0 = x at *
      generalize loUp xs c = y at *
      clear c0
      go_wp2_with fail
      all_goals
        go_round
        case rel => exact ⟨c + 1, by omega, by go_num, by rw [EN.out]; congr 1; omega⟩
        case measure => simp [intOf]; omega
    · obtain rfl : c = 5 := by omega
      go_wp2_with fail
      go_ret
      exact ⟨rfl, rfl⟩
end Go.Proofs.Ytemiljokdedidac.base
