/-
  The exact laws of IsView, CountHidden and CountCandidates, walked.
-/
import Derived.Test.YtemiljokdedidaaVwS3
namespace Go.Proofs.Ytemiljokdedidaa.base
open Go.ChangeShapes Go.WideShapes Go.ChangeAt Go.RowKit
set_option linter.unusedVariables false
set_option linter.unusedSimpArgs false

set_option maxHeartbeats 400000 in
theorem lawIsView (vs : List Int) (w : World) (h0 : vs.length = 18 ∧ ∀ n ∈ vs, (Lit.int .i64 n).wf = true) :
    Calls Try.prog 8 #[row vs] w fun e w' => e = .returned (.bool true) ∧ Kept w w' := by
  obtain ⟨h, hw⟩ := h0
  have HB := Lib.hid ((kept_refl w).alloc (.cells (ints vs).toArray 34))
  have H := Has.box w 34 h (by omega)
  have KS := Lib.hid (fun _W => specIsView vs _W h hw)
  have KI := Lib.hid (fun _W => implIsView vs _W h)
  clear hw
  rw [row_ints]
  go_enter Try.func8, Try.ntmps8
  go_wp2_with (refine load_has rfl 34 _ rfl _ rfl ?_ 18 ?_ _ Try.underlying34 rfl ?_ ?_; rotate_left; (· (repeat (first | (with_reducible assumption) | ((with_reducible refine Has.box _ _ ?_ ?_) <;> (first | assumption | decide)) | (with_reducible refine Has.alloc ?_ _) | ((with_reducible refine Has.putOther ?_ _ _ ?_); rotate_left; omega; skip) | ((with_reducible refine Has.below ?_ ?_); rotate_left; assumption)))); (· kernel_rfl))
  refine (toView_any vs _ h).mono ?_
  rintro e w1 ⟨rfl, b1⟩
  have H1 := H.below b1
  have HB1 := Lib.hid (HB.out.call b1)
  clear H HB b1
  go_wp2_with fail
  refine (KS.out _).mono ?_
  rintro e w2 ⟨rfl, b2⟩
  have H2 := H1.below b2
  have HB2 := Lib.hid (HB1.out.call b2)
  clear H1 HB1 b2
  go_wp2_with (refine load_has rfl 34 _ rfl _ rfl ?_ 18 ?_ _ Try.underlying34 rfl ?_ ?_; rotate_left; (· (repeat (first | (with_reducible assumption) | ((with_reducible refine Has.box _ _ ?_ ?_) <;> (first | assumption | decide)) | (with_reducible refine Has.alloc ?_ _) | ((with_reducible refine Has.putOther ?_ _ _ ?_); rotate_left; omega; skip) | ((with_reducible refine Has.below ?_ ?_); rotate_left; assumption)))); (· kernel_rfl))
  refine (toView_any vs _ h).mono ?_
  rintro e w3 ⟨rfl, b3⟩
  have HB3 := Lib.hid (HB2.out.call b3)
  clear H2 HB2 b3
  go_wp2_with fail
  refine (KI.out _).mono ?_
  rintro e w4 ⟨rfl, b4⟩
  have HB4 := Lib.hid (HB3.out.call b4)
  clear HB3 b4
  go_wp2_with fail
  go_ret
  exact ⟨rfl, HB4.out⟩

set_option maxHeartbeats 400000 in
theorem lawCountHidden (vs : List Int) (w : World) (h0 : vs.length = 18 ∧ ∀ n ∈ vs, (Lit.int .i64 n).wf = true) :
    Calls Try.prog 9 #[row vs] w fun e w' => e = .returned (.bool true) ∧ Kept w w' := by
  obtain ⟨h, hw⟩ := h0
  have hl : (hidA vs).length = 6 := hidA_len h
  have HB := Lib.hid ((kept_refl w).alloc (.cells (ints vs).toArray 34))
  have H := Has.box w 34 h (by omega)
  have KS := Lib.hid (fun _W => specCountHidden vs _W h hw)
  have KI := Lib.hid (fun _W => implCountHidden vs _W h)
  clear hw
  rw [row_ints]
  go_enter Try.func9, Try.ntmps9
  go_wp2_with (refine load_has rfl 34 _ rfl _ rfl ?_ 18 ?_ _ Try.underlying34 rfl ?_ ?_; rotate_left; (· (repeat (first | (with_reducible assumption) | ((with_reducible refine Has.box _ _ ?_ ?_) <;> (first | assumption | decide)) | (with_reducible refine Has.alloc ?_ _) | ((with_reducible refine Has.putOther ?_ _ _ ?_); rotate_left; omega; skip) | ((with_reducible refine Has.below ?_ ?_); rotate_left; assumption)))); (· kernel_rfl))
  refine (toView_any vs _ h).mono ?_
  rintro e w1 ⟨rfl, b1⟩
  have H1 := H.below b1
  have HB1 := Lib.hid (HB.out.call b1)
  clear H HB b1
  go_wp2_with fail
  refine (KS.out _).mono ?_
  rintro e w2 ⟨rfl, b2⟩
  have H2 := (H1.below b2).alloc (.cells (ints (hidA vs)).toArray 22)
  have R2 := Has.box w2 22 hl (by omega)
  have HB2 := Lib.hid ((HB1.out.call b2).alloc (.cells (ints (hidA vs)).toArray 22))
  clear H1 HB1 b2
  go_wp2_with (first | (refine store_new rfl 22 _ _ rfl _ _ _ rfl _ rfl _ rfl rfl ?_ ?_ ?_; (· (first | assumption | rfl)); (· kernel_rfl)) | (refine load_has rfl 34 _ rfl _ rfl ?_ 18 ?_ _ Try.underlying34 rfl ?_ ?_; rotate_left; (· (repeat (first | (with_reducible assumption) | ((with_reducible refine Has.box _ _ ?_ ?_) <;> (first | assumption | decide)) | (with_reducible refine Has.alloc ?_ _) | ((with_reducible refine Has.putOther ?_ _ _ ?_); rotate_left; omega; skip) | ((with_reducible refine Has.below ?_ ?_); rotate_left; assumption)))); (· kernel_rfl)))
  refine (toView_any vs _ h).mono ?_
  rintro e w3 ⟨rfl, b3⟩
  have R3 := R2.below b3
  have HB3 := Lib.hid (HB2.out.call b3)
  clear H2 R2 HB2 b3
  go_wp2_with fail
  refine (KI.out _).mono ?_
  rintro e w4 ⟨rfl, b4⟩
  have R4 := (R3.below b4).alloc (.cells (ints (hidA vs)).toArray 22)
  have Q4 := Has.box w4 22 hl (by omega)
  have HB4 := Lib.hid ((HB3.out.call b4).alloc (.cells (ints (hidA vs)).toArray 22))
  clear R3 HB3 b4
  go_wp2_with (first | (refine store_new rfl 22 _ _ rfl _ _ _ rfl _ rfl _ rfl rfl ?_ ?_ ?_; (· (first | assumption | rfl)); (· kernel_rfl)) | (refine load_has rfl 22 _ rfl _ rfl ?_ 6 ?_ _ Try.underlying22 rfl ?_ ?_; rotate_left; (· (repeat (first | (with_reducible assumption) | ((with_reducible refine Has.box _ _ ?_ ?_) <;> (first | assumption | decide)) | (with_reducible refine Has.alloc ?_ _) | ((with_reducible refine Has.putOther ?_ _ _ ?_); rotate_left; omega; skip) | ((with_reducible refine Has.below ?_ ?_); rotate_left; assumption)))); (· kernel_rfl)))
  refine (eqIntA6_same (hidA vs) _ hl).mono ?_
  rintro e w5 ⟨rfl, b5⟩
  have HB5 := Lib.hid (HB4.out.call b5)
  clear R4 Q4 HB4 b5
  go_wp2_with fail
  go_ret
  exact ⟨rfl, HB5.out⟩

set_option maxHeartbeats 400000 in
theorem lawCountCandidates (vs : List Int) (w : World) (h0 : vs.length = 18 ∧ ∀ n ∈ vs, (Lit.int .i64 n).wf = true) :
    Calls Try.prog 10 #[row vs] w fun e w' => e = .returned (.bool true) ∧ Kept w w' := by
  obtain ⟨h, hw⟩ := h0
  have HB := Lib.hid ((kept_refl w).alloc (.cells (ints vs).toArray 34))
  have H := Has.box w 34 h (by omega)
  have KS := Lib.hid (fun _W => specCountCand vs _W h hw)
  have KI := Lib.hid (fun _W => implCountCand vs _W h)
  clear hw
  rw [row_ints]
  go_enter Try.func10, Try.ntmps10
  go_wp2_with (refine load_has rfl 34 _ rfl _ rfl ?_ 18 ?_ _ Try.underlying34 rfl ?_ ?_; rotate_left; (· (repeat (first | (with_reducible assumption) | ((with_reducible refine Has.box _ _ ?_ ?_) <;> (first | assumption | decide)) | (with_reducible refine Has.alloc ?_ _) | ((with_reducible refine Has.putOther ?_ _ _ ?_); rotate_left; omega; skip) | ((with_reducible refine Has.below ?_ ?_); rotate_left; assumption)))); (· kernel_rfl))
  refine (toView_any vs _ h).mono ?_
  rintro e w1 ⟨rfl, b1⟩
  have H1 := H.below b1
  have HB1 := Lib.hid (HB.out.call b1)
  clear H HB b1
  go_wp2_with fail
  refine (KS.out _).mono ?_
  rintro e w2 ⟨rfl, b2⟩
  have H2 := H1.below b2
  have HB2 := Lib.hid (HB1.out.call b2)
  clear H1 HB1 b2
  go_wp2_with (refine load_has rfl 34 _ rfl _ rfl ?_ 18 ?_ _ Try.underlying34 rfl ?_ ?_; rotate_left; (· (repeat (first | (with_reducible assumption) | ((with_reducible refine Has.box _ _ ?_ ?_) <;> (first | assumption | decide)) | (with_reducible refine Has.alloc ?_ _) | ((with_reducible refine Has.putOther ?_ _ _ ?_); rotate_left; omega; skip) | ((with_reducible refine Has.below ?_ ?_); rotate_left; assumption)))); (· kernel_rfl))
  refine (toView_any vs _ h).mono ?_
  rintro e w3 ⟨rfl, b3⟩
  have HB3 := Lib.hid (HB2.out.call b3)
  clear H2 HB2 b3
  go_wp2_with fail
  refine (KI.out _).mono ?_
  rintro e w4 ⟨rfl, b4⟩
  have HB4 := Lib.hid (HB3.out.call b4)
  clear HB3 b4
  go_wp2_with fail
  go_ret
  exact ⟨rfl, HB4.out⟩
end Go.Proofs.Ytemiljokdedidaa.base
