/-
  The law on Checksum answers true: the program's and the model's checksum are the same plain function.
  No condition beyond the length of a string that can be read.
-/
import Derived.Test.YtbjahiebajgfeaaSum
namespace Go.Proofs.Ytbjahiebajgfeaa.sums
open Go.ChangeShapes Go.WideShapes Go.ChangeAt Go.RowKit
set_option linter.unusedVariables false

theorem lawChecksum (a0 : ByteArray) (w0 : a0.size ≤ maxLen) (w : World) :
    Calls Try.prog 7 #[.string a0] w fun e w' => e = .returned (.bool true) ∧ Grown w w' := by
  by_cases h0 : (1048576 : Int) < (a0.size : Int)
  · go_enter Try.func7, Try.ntmps7
    go_wp2_with fail
    go_ret
    exact ⟨rfl, Grown.refl _⟩
  · by_cases h1 : (4000 : Int) < (a0.size : Int)
    · go_enter Try.func7, Try.ntmps7
      go_wp2_with (first | (go_at_call 23; refine (specChecksum_big _ _ h1).mono ?_; rintro e w' ⟨rfl, rfl⟩) | (go_at_call 24; refine (implChecksum_big _ _ h1).mono ?_; rintro e w' ⟨rfl, rfl⟩))
      go_ret
      exact ⟨rfl, Grown.refl _⟩
    · have h2 : (a0.size : Int) ≤ 4000 := by omega
      go_enter Try.func7, Try.ntmps7
      go_wp2_with (first | (go_at_call 23; refine (specChecksum_small _ _ w0 h2).mono ?_; rintro e w' ⟨rfl, rfl⟩) | (go_at_call 24; refine (implChecksum_small _ _ w0 h2).mono ?_; rintro e w' ⟨rfl, rfl⟩))
      go_ret
      exact ⟨rfl, Grown.refl _⟩
end Go.Proofs.Ytbjahiebajgfeaa.sums
