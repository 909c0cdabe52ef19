/-
  The program's methods on a tube, walked: putting, taking, pouring, and which tubes are valid.
-/
import Derived.Test.YtienbokkimnecaaTubeW
namespace Go.Proofs.Ytienbokkimnecaa.base
open Go.ChangeShapes Go.WideShapes Go.ChangeAt Go.RowKit
set_option linter.unusedVariables false
set_option linter.unusedSimpArgs false

theorem isColor_any (i : Int) (w : World) :
    Calls Try.prog 57 #[.int .i64 i] w fun e w' => e = .returned (.bool (decide (1 ≤ i ∧ i ≤ 5))) ∧ w = w' := by
  by_cases h0 : 1 ≤ i
  · go_enter Try.func57, Try.ntmps57
    go_wp2_with fail
    go_ret
    exact ⟨ret_bool (by simp [h0]), rfl⟩
  · have h1 := Lib.hid h0
    have q : decide (1 ≤ i) = false := by simpa using h0
    clear h0
    go_enter Try.func57, Try.ntmps57
    go_wp2_with fail
    go_ret
    exact ⟨ret_bool (by have := h1.out; simp; try omega), rfl⟩

theorem known_step (t : List Int) (k : Nat) (h : k < t.length) : known (t.take (k + 1)) = (known (t.take k) && decide (0 ≤ t.getD k 0 ∧ t.getD k 0 ≤ 5)) := by
  unfold known
  rw [List.take_succ_eq_append_getElem h, List.all_append, List.getD_eq_getElem?_getD, List.getElem?_eq_getElem h]; simp
theorem known_false (t : List Int) (k : Nat) (h : k < t.length) (hf : known (t.take (k + 1)) = false) : known t = false := by
  have : known t = (known (t.take (k + 1)) && known (t.drop (k + 1))) := by unfold known; rw [← List.all_append, List.take_append_drop]
  rw [this, hf]; rfl

theorem hasKnown_any (t : List Int) (w : World) (h4 : t.length = 4) :
    Calls Try.prog 62 #[row t] w fun e w' => e = .returned (.bool (known t)) ∧ Kept w w' := by
  have HB := Lib.hid ((kept_refl w).alloc (.cells (ints t).toArray 56))
  have H := Has.box w 56 h4 (by omega)
  have HI := Lib.hid (index4 56 Try.underlying56 t h4)
  rw [row_ints]
  go_enter Try.func62, Try.ntmps62
  go_wp2_with (refine load_has rfl 56 _ rfl _ rfl ?_ 4 ?_ _ Try.underlying56 rfl ?_ ?_; rotate_left; (· (repeat (first | (with_reducible assumption) | ((with_reducible refine Has.box _ _ ?_ ?_) <;> (first | assumption | decide)) | (with_reducible refine Has.alloc ?_ _) | ((with_reducible refine Has.putOther ?_ _ _ ?_); rotate_left; omega; skip) | ((with_reducible refine Has.below ?_ ?_); rotate_left; assumption)))); (· kernel_rfl))
  go_loop [6] (fun z => ∃ k : Nat, k ≤ 4 ∧ known (t.take k) = true ∧ z = .int .i64 k) (fun z => 4 - (intOf z).toNat)
  case atStart => exact ⟨0, by omega, rfl, rfl⟩
  case round =>
    obtain ⟨k, hk, hkn, rfl⟩ := hrel
    have HK := Lib.hid hkn
    clear hkn
    by_cases h : k < 4
    · have e1 := HI.out k h
      have HS := Lib.hid (known_step t k (by omega))
      have HF := Lib.hid (known_false t k (by omega))
      rw [HK.out, Bool.true_and] at HS
      generalize t.getD k 0 = x at *
      by_cases h0 : x < 0
      · have r := HF.out (by rw [HS.out]; simp; omega)
        have R := Lib.hid r
        clear r
        go_wp2_with fail
        go_ret
        exact ⟨ret_bool R.out.symm, HB.out⟩
      · by_cases h5 : 5 < x
        · have R := Lib.hid (HF.out (by rw [HS.out]; simp; omega))
          have q : decide (x < 0) = false := by simpa using h0
          clear h0
          go_wp2_with fail
          go_ret
          exact ⟨ret_bool R.out.symm, HB.out⟩
        · have q : decide (x < 0) = false := by simpa using h0
          have q5 : decide (5 < x) = false := by simpa using h5
          have R := Lib.hid (show known (t.take (k + 1)) = true by rw [HS.out]; simp; omega)
          clear h0 h5
          go_wp2_with fail
          go_round
          case rel => exact ⟨k + 1, by omega, R.out, by go_num⟩
          case measure => simp [intOf]; omega
    · obtain rfl : k = 4 := by omega
      have e := HK.out
      rw [List.take_of_length_le (by omega)] at e
      have E := Lib.hid e
      clear e
      go_wp2_with fail
      go_ret
      exact ⟨ret_bool E.out.symm, HB.out⟩
end Go.Proofs.Ytienbokkimnecaa.base
