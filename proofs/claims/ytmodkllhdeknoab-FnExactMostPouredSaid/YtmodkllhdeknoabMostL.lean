/-
  The exact law of MostPoured, walked.
-/
import Derived.Test.YtmodkllhdeknoabMostI
import Derived.Test.YtmodkllhdeknoabRackTo
namespace Go.Proofs.Ytmodkllhdeknoab.base
open Go.ChangeShapes Go.WideShapes Go.ChangeAt Go.RowKit
set_option linter.unusedVariables false
set_option linter.unusedSimpArgs false

set_option maxHeartbeats 400000 in
theorem lawMostPoured (ns : List Int) (w : World) (h0 : ns.length = 24 ∧ ∀ n ∈ ns, (Lit.int .i64 n).wf = true) :
    Calls Try.prog 8 #[row ns] w fun e w' => e = .returned (.bool true) ∧ Kept w w' := by
  have h24 := h0.1
  clear h0
  have SP := Lib.hid (fun w => specMost ns w h24)
  have IP := Lib.hid (fun w => implMost ns w h24)
  unfold MostPost at SP IP
  generalize mostA ns = mm at *
  obtain ⟨m0, fx, fy⟩ := mm
  dsimp only at SP IP
  have hl : ([fx, fy] : List Int).length = 2 := rfl
  have HB := Lib.hid ((kept_refl w).alloc (.cells (ints ns).toArray 25))
  have H := Has.box w 25 h24 (by omega)
  rw [row_ints]
  go_enter Try.func8, Try.ntmps8
  go_wp2_with (refine load_has rfl 25 _ rfl _ rfl ?_ 24 ?_ _ Try.underlying25 rfl ?_ ?_; rotate_left; (· (repeat (first | (with_reducible assumption) | ((with_reducible refine Has.box _ _ ?_ ?_) <;> (first | assumption | decide)) | (with_reducible refine Has.alloc ?_ _) | ((with_reducible refine Has.putOther ?_ _ _ ?_); rotate_left; omega; skip) | ((with_reducible refine Has.below ?_ ?_); rotate_left; assumption)))); (· kernel_rfl))
  refine (toRack_any ns _ h24).mono ?_
  rintro e w1 ⟨rfl, b1⟩
  have H1 := H.below b1
  have HB1 := Lib.hid (HB.out.call b1)
  clear H HB b1
  go_wp2_with fail
  refine (SP.out _).mono ?_
  rintro e w2 ⟨rfl, b2⟩
  have H2 := (H1.below b2).alloc (.cells (ints ([fx, fy] : List Int)).toArray 51)
  have R2 := Has.box w2 51 hl (by omega)
  have HB2 := Lib.hid ((HB1.out.call b2).alloc (.cells (ints ([fx, fy] : List Int)).toArray 51))
  clear H1 HB1 b2
  dsimp only at *
  go_wp2_with (first | (refine store_new rfl 51 _ _ rfl _ _ _ rfl _ rfl _ rfl rfl ?_ ?_ ?_; (· (first | assumption | rfl)); (· kernel_rfl)) | (refine load_has rfl 25 _ rfl _ rfl ?_ 24 ?_ _ Try.underlying25 rfl ?_ ?_; rotate_left; (· (repeat (first | (with_reducible assumption) | ((with_reducible refine Has.box _ _ ?_ ?_) <;> (first | assumption | decide)) | (with_reducible refine Has.alloc ?_ _) | ((with_reducible refine Has.putOther ?_ _ _ ?_); rotate_left; omega; skip) | ((with_reducible refine Has.below ?_ ?_); rotate_left; assumption)))); (· kernel_rfl)))
  refine (toRack_any ns _ h24).mono ?_
  rintro e w3 ⟨rfl, b3⟩
  have R3 := R2.below b3
  have HB3 := Lib.hid (HB2.out.call b3)
  clear H2 R2 HB2 b3
  go_wp2_with fail
  refine (IP.out _).mono ?_
  rintro e w4 ⟨rfl, b4⟩
  have R4 := (R3.below b4).alloc (.cells (ints ([fx, fy] : List Int)).toArray 51)
  have Q4 := Has.box w4 51 hl (by omega)
  have HB4 := Lib.hid ((HB3.out.call b4).alloc (.cells (ints ([fx, fy] : List Int)).toArray 51))
  clear R3 HB3 b4
  dsimp only at *
  go_wp2_with (first | (refine store_new rfl 51 _ _ rfl _ _ _ rfl _ rfl _ rfl rfl ?_ ?_ ?_; (· (first | assumption | rfl)); (· kernel_rfl)) | (refine load_has rfl 51 _ rfl _ rfl ?_ 2 ?_ _ Try.underlying51 rfl ?_ ?_; rotate_left; (· (repeat (first | (with_reducible assumption) | ((with_reducible refine Has.box _ _ ?_ ?_) <;> (first | assumption | decide)) | (with_reducible refine Has.alloc ?_ _) | ((with_reducible refine Has.putOther ?_ _ _ ?_); rotate_left; omega; skip) | ((with_reducible refine Has.below ?_ ?_); rotate_left; assumption)))); (· kernel_rfl)))
  refine (eqIntA2_same ([fx, fy] : List Int) _ hl).mono ?_
  rintro e w5 ⟨rfl, b5⟩
  have HB5 := Lib.hid (HB4.out.call b5)
  clear R4 Q4 HB4 b5
  go_wp2_with fail
  go_ret
  exact ⟨rfl, HB5.out⟩

end Go.Proofs.Ytmodkllhdeknoab.base
