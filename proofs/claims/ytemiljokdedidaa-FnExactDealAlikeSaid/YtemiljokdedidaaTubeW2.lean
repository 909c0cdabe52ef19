/-
  The program's methods on a tube, walked: putting, taking, pouring, and which tubes are valid.
-/
import Derived.Test.YtemiljokdedidaaTubeW
namespace Go.Proofs.Ytemiljokdedidaa.base
open Go.ChangeShapes Go.WideShapes Go.ChangeAt Go.RowKit
set_option linter.unusedVariables false
set_option linter.unusedSimpArgs false

theorem isPlace_any (i : Int) (w : World) :
    Calls Try.prog 43 #[.int .i64 i] w fun e w' => e = .returned (.bool (decide (0 ≤ i ∧ i < 6))) ∧ w = w' := by
  by_cases h0 : 0 ≤ i
  · go_enter Try.func43, Try.ntmps43
    go_wp2_with fail
    go_ret
    exact ⟨ret_bool (by simp [h0]), rfl⟩
  · have h1 := Lib.hid h0
    have q : decide (0 ≤ i) = false := by simpa using h0
    clear h0
    go_enter Try.func43, Try.ntmps43
    go_wp2_with fail
    go_ret
    exact ⟨ret_bool (by have := h1.out; simp; try omega), rfl⟩
theorem isColor_any (i : Int) (w : World) :
    Calls Try.prog 44 #[.int .i64 i] w fun e w' => e = .returned (.bool (decide (1 ≤ i ∧ i ≤ 5))) ∧ w = w' := by
  by_cases h0 : 1 ≤ i
  · go_enter Try.func44, Try.ntmps44
    go_wp2_with fail
    go_ret
    exact ⟨ret_bool (by simp [h0]), rfl⟩
  · have h1 := Lib.hid h0
    have q : decide (1 ≤ i) = false := by simpa using h0
    clear h0
    go_enter Try.func44, Try.ntmps44
    go_wp2_with fail
    go_ret
    exact ⟨ret_bool (by have := h1.out; simp; try omega), rfl⟩

theorem known_step (t : List Int) (k : Nat) (h : k < t.length) : known (t.take (k + 1)) = (known (t.take k) && decide (0 ≤ t.getD k 0 ∧ t.getD k 0 ≤ 5)) := by
  unfold known
  rw [List.take_succ_eq_append_getElem h, List.all_append, List.getD_eq_getElem?_getD, List.getElem?_eq_getElem h]; simp
theorem known_false (t : List Int) (k : Nat) (h : k < t.length) (hf : known (t.take (k + 1)) = false) : known t = false := by
  have : known t = (known (t.take (k + 1)) && known (t.drop (k + 1))) := by unfold known; rw [← List.all_append, List.take_append_drop]
  rw [this, hf]; rfl

end Go.Proofs.Ytemiljokdedidaa.base
