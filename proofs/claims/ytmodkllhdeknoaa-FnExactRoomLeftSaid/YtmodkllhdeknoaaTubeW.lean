/-
  The program's methods on a tube, walked: how many layers, and which top.
-/
import Derived.Test.YtmodkllhdeknoaaHas
namespace Go.Proofs.Ytmodkllhdeknoaa.base
open Go.ChangeShapes Go.WideShapes Go.ChangeAt Go.RowKit
set_option linter.unusedVariables false
set_option linter.unusedSimpArgs false

theorem layers_any (t : List Int) (w : World) (h4 : t.length = 4) (hv : vT t = true) :
    Calls Try.prog 47 #[row t] w fun e w' => e = .returned (.int .i64 (lay t : Nat)) ∧ Kept w w' := by
  have F := tubeFacts h4 hv
  have HF := Lib.hid F.full
  have hL := F.lay4
  have H := Has.box w 46 h4 (by omega)
  have HB := Lib.hid ((kept_refl w).alloc (.cells (ints t).toArray 46))
  rw [row_ints]
  clear F hv
  go_enter Try.func47, Try.ntmps47
  go_wp2_with fail
  go_loop [3] (fun n => ∃ k : Nat, k ≤ lay t ∧ n = .int .i64 k) (fun n => 4 - (intOf n).toNat)
  case atStart => exact ⟨0, Nat.zero_le _, rfl⟩
  case round =>
    obtain ⟨k, hk, rfl⟩ := hrel
    by_cases h : k < 4
    · have c0 := H.cell k h
      have f0 := HF.out k h
      by_cases hl : k < lay t
      · have n0 : (t.getD k 0 == 0) = false := by have := f0.2 hl; simpa using this
        clear f0
        generalize t.getD k 0 = x at *
        go_wp2_with fail
        go_round
        case rel => exact ⟨k + 1, by omega, by go_num⟩
        case measure => simp [intOf]; omega
      · have n0 : t.getD k 0 = 0 := Decidable.byContradiction fun hn => hl (f0.1 hn)
        rw [n0] at c0
        clear f0 n0
        go_wp2_with fail
        go_ret
        obtain rfl : k = lay t := by omega
        exact ⟨rfl, HB.out⟩
    · go_wp2_with fail
      go_ret
      obtain rfl : k = lay t := by omega
      exact ⟨rfl, HB.out⟩

theorem room_any (t : List Int) (w : World) (h4 : t.length = 4) (hv : vT t = true) :
    Calls Try.prog 41 #[row t] w fun e w' => e = .returned (.int .i64 (4 - (lay t : Nat))) ∧ Kept w w' := by
  have hL := (tubeFacts h4 hv).lay4
  have HB := Lib.hid ((kept_refl w).alloc (.cells (ints t).toArray 46))
  rw [row_ints]
  go_enter Try.func41, Try.ntmps41
  go_wp2_with (refine load_has rfl 46 _ rfl _ rfl ?_ 4 ?_ _ Try.underlying46 rfl ?_ ?_; rotate_left; (· (repeat (first | (with_reducible assumption) | ((with_reducible refine Has.box _ _ ?_ ?_) <;> (first | assumption | decide)) | (with_reducible refine Has.alloc ?_ _) | ((with_reducible refine Has.putOther ?_ _ _ ?_); rotate_left; omega; skip) | ((with_reducible refine Has.below ?_ ?_); rotate_left; assumption)))); (· kernel_rfl))
  refine (layers_any t _ h4 hv).mono ?_
  rintro e w1 ⟨rfl, b1⟩
  go_wp2_with fail
  go_ret
  exact ⟨rfl, HB.out.call b1⟩

end Go.Proofs.Ytmodkllhdeknoaa.base
