/-
  The model's functions on a tube, walked: how many layers, which top, and which pours are possible.
-/
import Derived.Test.YtmodkllhdeknoaaTubeW3
namespace Go.Proofs.Ytmodkllhdeknoaa.base
open Go.ChangeShapes Go.WideShapes Go.ChangeAt Go.RowKit
set_option linter.unusedVariables false
set_option linter.unusedSimpArgs false

theorem l2Many_any (t : List Int) (w : World) (h4 : t.length = 4) (hv : vT t = true) :
    Calls Try.prog 40 #[row t] w fun e w' => e = .returned (.int .i64 (lay t : Nat)) ∧ Kept w w' := by
  have F := tubeFacts h4 hv
  have HF := Lib.hid F.pos
  have hL := F.lay4
  have HB := Lib.hid ((kept_refl w).alloc (.cells (ints t).toArray 22))
  have H := Has.box w 22 h4 (by omega)
  rw [row_ints]
  clear F
  go_enter Try.func40, Try.ntmps40
  go_wp2_with fail
  go_loop [3, 4] (fun m i => ∃ k q : Nat, k ≤ 4 ∧ i = .int .i64 k ∧ m = .int .i64 q ∧ Hid (q = min k (lay t)) ∧ q ≤ 4) (fun _ i => 4 - (intOf i).toNat)
  case atStart => exact ⟨0, 0, by omega, rfl, rfl, Lib.hid (by omega), by omega⟩
  case round =>
    obtain ⟨k, q, hk, rfl, rfl, HQ, hq4⟩ := hrel
    by_cases h : k < 4
    · have c0 := H.cell k h
      have f0 := HF.out k h
      generalize t.getD k 0 = x at *
      by_cases hl : k < lay t
      · have p0 := f0.2 hl
        have R := Lib.hid (show q + 1 = min (k + 1) (lay t) by have := HQ.out; omega)
        have q5 : q < 4 := by have := HQ.out; omega
        clear f0
        go_wp2_with fail
        go_round
        case rel => exact ⟨k + 1, q + 1, by omega, by go_num, by go_num, R, by omega⟩
        case measure => simp [intOf]; omega
      · have p0 : decide (0 < x) = false := by simp; have := mt f0.1 hl; omega
        have R := Lib.hid (show q = min (k + 1) (lay t) by have := HQ.out; omega)
        clear f0
        go_wp2_with fail
        go_round
        case rel => exact ⟨k + 1, q, by omega, by go_num, rfl, R, hq4⟩
        case measure => simp [intOf]; omega
    · have e : q = lay t := by have := HQ.out; omega
      have E := Lib.hid e
      clear e
      go_wp2_with fail
      go_ret
      exact ⟨ret_int (by rw [E.out]), HB.out⟩

end Go.Proofs.Ytmodkllhdeknoaa.base
