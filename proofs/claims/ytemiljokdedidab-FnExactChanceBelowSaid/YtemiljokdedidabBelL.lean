/-
  The exact law of ChanceBelow, walked.
-/
import Derived.Test.YtemiljokdedidabBelW
namespace Go.Proofs.Ytemiljokdedidab.base
open Go.ChangeShapes Go.WideShapes Go.ChangeAt Go.RowKit
set_option linter.unusedVariables false
set_option linter.unusedSimpArgs false

set_option maxHeartbeats 400000 in
theorem lawChanceBelow (vs : List Int) (i : Int) (c : Int) (w : World) (h0 : vs.length = 18 ∧ ∀ n ∈ vs, (Lit.int .i64 n).wf = true) (fi : (Lit.int .i64 i).wf = true) (fc : (Lit.int .i64 c).wf = true) :
    Calls Try.prog 6 #[row vs, .int .i64 i, .int .i64 c] w fun e w' => e = .returned (.bool true) ∧ Kept w w' := by
  obtain ⟨h, hw⟩ := h0
  have wi := wf_in fi
  have wc := wf_in fc
  have hl : (belowA vs i c).length = 2 := belowA_len vs i c
  have HB := Lib.hid ((kept_refl w).alloc (.cells (ints vs).toArray 24))
  have H := Has.box w 24 h (by omega)
  have KS := Lib.hid (fun _W => specBelow vs i c _W h hw)
  have KI := Lib.hid (fun _W => implBelow vs i c _W h)
  clear hw fi fc
  rw [row_ints]
  go_enter Try.func6, Try.ntmps6
  go_wp2_with (refine load_has rfl 24 _ rfl _ rfl ?_ 18 ?_ _ Try.underlying24 rfl ?_ ?_; rotate_left; (· (repeat (first | (with_reducible assumption) | ((with_reducible refine Has.box _ _ ?_ ?_) <;> (first | assumption | decide)) | (with_reducible refine Has.alloc ?_ _) | ((with_reducible refine Has.putOther ?_ _ _ ?_); rotate_left; omega; skip) | ((with_reducible refine Has.below ?_ ?_); rotate_left; assumption)))); (· kernel_rfl))
  refine (toView_any vs _ h).mono ?_
  rintro e w1 ⟨rfl, b1⟩
  have H1 := H.below b1
  have HB1 := Lib.hid (HB.out.call b1)
  clear H HB b1
  go_wp2_with fail
  refine (KS.out _).mono ?_
  rintro e w2 ⟨rfl, b2⟩
  have H2 := (H1.below b2).alloc (.cells (ints (belowA vs i c)).toArray 42)
  have R2 := Has.box w2 42 hl (by omega)
  have HB2 := Lib.hid ((HB1.out.call b2).alloc (.cells (ints (belowA vs i c)).toArray 42))
  clear H1 HB1 b2
  go_wp2_with (first | (refine store_new rfl 42 _ _ rfl _ _ _ rfl _ rfl _ rfl rfl ?_ ?_ ?_; (· (first | assumption | rfl)); (· kernel_rfl)) | (refine load_has rfl 24 _ rfl _ rfl ?_ 18 ?_ _ Try.underlying24 rfl ?_ ?_; rotate_left; (· (repeat (first | (with_reducible assumption) | ((with_reducible refine Has.box _ _ ?_ ?_) <;> (first | assumption | decide)) | (with_reducible refine Has.alloc ?_ _) | ((with_reducible refine Has.putOther ?_ _ _ ?_); rotate_left; omega; skip) | ((with_reducible refine Has.below ?_ ?_); rotate_left; assumption)))); (· kernel_rfl)))
  refine (toView_any vs _ h).mono ?_
  rintro e w3 ⟨rfl, b3⟩
  have R3 := R2.below b3
  have HB3 := Lib.hid (HB2.out.call b3)
  clear H2 R2 HB2 b3
  go_wp2_with fail
  refine (KI.out _).mono ?_
  rintro e w4 ⟨rfl, b4⟩
  have R4 := (R3.below b4).alloc (.cells (ints (belowA vs i c)).toArray 42)
  have Q4 := Has.box w4 42 hl (by omega)
  have HB4 := Lib.hid ((HB3.out.call b4).alloc (.cells (ints (belowA vs i c)).toArray 42))
  clear R3 HB3 b4
  go_wp2_with (first | (refine store_new rfl 42 _ _ rfl _ _ _ rfl _ rfl _ rfl rfl ?_ ?_ ?_; (· (first | assumption | rfl)); (· kernel_rfl)) | (refine load_has rfl 42 _ rfl _ rfl ?_ 2 ?_ _ Try.underlying42 rfl ?_ ?_; rotate_left; (· (repeat (first | (with_reducible assumption) | ((with_reducible refine Has.box _ _ ?_ ?_) <;> (first | assumption | decide)) | (with_reducible refine Has.alloc ?_ _) | ((with_reducible refine Has.putOther ?_ _ _ ?_); rotate_left; omega; skip) | ((with_reducible refine Has.below ?_ ?_); rotate_left; assumption)))); (· kernel_rfl)))
  refine (eqIntA2v (belowA vs i c) _ hl).mono ?_
  rintro e w5 ⟨rfl, b5⟩
  have HB5 := Lib.hid (HB4.out.call b5)
  clear R4 Q4 HB4 b5
  go_wp2_with fail
  go_ret
  exact ⟨rfl, HB5.out⟩
end Go.Proofs.Ytemiljokdedidab.base
