/-
  The exact law of PlainRack, walked.
-/
import Derived.Test.YthnkfdhnbafcjaaPlain
import Derived.Test.YthnkfdhnbafcjaaSixW
import Derived.Test.YthnkfdhnbafcjaaRackTo
namespace Go.Proofs.Ythnkfdhnbafcjaa.base
open Go.ChangeShapes Go.WideShapes Go.ChangeAt Go.RowKit
set_option linter.unusedVariables false
set_option linter.unusedSimpArgs false

set_option maxHeartbeats 800000 in
theorem lawPlainRack (cs : List Int) (w : World) (fcs : cs.length = 6 ∧ ∀ n ∈ cs, (Lit.int .i64 n).wf = true) :
    Calls Try.prog 8 #[row cs] w fun e w' => e = .returned (.bool true) ∧ Kept w w' := by
  have hcs := fcs.1
  clear fcs
  have hl : (plainR cs).length = 24 := plainR_len cs
  have HB := Lib.hid ((kept_refl w).alloc (.cells (ints cs).toArray 52))
  have Hcs := Has.box w 52 hcs (by omega)
  rw [row_ints]
  go_enter Try.func8, Try.ntmps8
  go_wp2_with (first | (refine load_has rfl 52 _ rfl _ rfl ?_ 6 ?_ _ Try.underlying52 rfl ?_ ?_; rotate_left; (· (repeat (first | (with_reducible assumption) | ((with_reducible refine Has.box _ _ ?_ ?_) <;> (first | assumption | decide)) | (with_reducible refine Has.alloc ?_ _) | ((with_reducible refine Has.putOther ?_ _ _ ?_); rotate_left; omega; skip) | ((with_reducible refine Has.below ?_ ?_); rotate_left; assumption)))); (· kernel_rfl)))
  refine (toIntA6_any cs _ hcs).mono ?_
  rintro e w1 ⟨rfl, b1⟩
  replace Hcs := Hcs.below b1
  replace HB := Lib.hid (HB.out.call b1)
  clear b1
  go_wp2_with (first | (refine load_has rfl 52 _ rfl _ rfl ?_ 6 ?_ _ Try.underlying52 rfl ?_ ?_; rotate_left; (· (repeat (first | (with_reducible assumption) | ((with_reducible refine Has.box _ _ ?_ ?_) <;> (first | assumption | decide)) | (with_reducible refine Has.alloc ?_ _) | ((with_reducible refine Has.putOther ?_ _ _ ?_); rotate_left; omega; skip) | ((with_reducible refine Has.below ?_ ?_); rotate_left; assumption)))); (· kernel_rfl)))
  refine (specPlain cs _ hcs).mono ?_
  rintro e w2 ⟨rfl, b2⟩
  replace Hcs := (Hcs.below b2).alloc (.cells (ints (plainR cs)).toArray 28)
  have R := Has.box w2 28 hl (by omega)
  replace HB := Lib.hid ((HB.out.call b2).alloc (.cells (ints (plainR cs)).toArray 28))
  clear b2
  go_wp2_with (first | (refine store_new rfl 28 _ _ rfl _ _ _ rfl _ rfl _ rfl rfl ?_ ?_ ?_; (· (first | assumption | rfl)); (· kernel_rfl)) | (refine load_has rfl 52 _ rfl _ rfl ?_ 6 ?_ _ Try.underlying52 rfl ?_ ?_; rotate_left; (· (repeat (first | (with_reducible assumption) | ((with_reducible refine Has.box _ _ ?_ ?_) <;> (first | assumption | decide)) | (with_reducible refine Has.alloc ?_ _) | ((with_reducible refine Has.putOther ?_ _ _ ?_); rotate_left; omega; skip) | ((with_reducible refine Has.below ?_ ?_); rotate_left; assumption)))); (· kernel_rfl)))
  refine (toIntA6_any cs _ hcs).mono ?_
  rintro e w3 ⟨rfl, b3⟩
  replace Hcs := Hcs.below b3
  replace R := R.below b3
  replace HB := Lib.hid (HB.out.call b3)
  clear b3
  go_wp2_with (first | (refine load_has rfl 52 _ rfl _ rfl ?_ 6 ?_ _ Try.underlying52 rfl ?_ ?_; rotate_left; (· (repeat (first | (with_reducible assumption) | ((with_reducible refine Has.box _ _ ?_ ?_) <;> (first | assumption | decide)) | (with_reducible refine Has.alloc ?_ _) | ((with_reducible refine Has.putOther ?_ _ _ ?_); rotate_left; omega; skip) | ((with_reducible refine Has.below ?_ ?_); rotate_left; assumption)))); (· kernel_rfl)))
  clear Hcs
  refine (implPlain cs _ hcs).mono ?_
  rintro e w4 ⟨rfl, b4⟩
  replace R := (R.below b4).alloc (.cells (ints (plainR cs)).toArray 28)
  have Q := Has.box w4 28 hl (by omega)
  replace HB := Lib.hid ((HB.out.call b4).alloc (.cells (ints (plainR cs)).toArray 28))
  clear b4
  go_wp2_with (first | (refine store_new rfl 28 _ _ rfl _ _ _ rfl _ rfl _ rfl rfl ?_ ?_ ?_; (· (first | assumption | rfl)); (· kernel_rfl)) | (refine load_has rfl 28 _ rfl _ rfl ?_ 24 ?_ _ Try.underlying28 rfl ?_ ?_; rotate_left; (· (repeat (first | (with_reducible assumption) | ((with_reducible refine Has.box _ _ ?_ ?_) <;> (first | assumption | decide)) | (with_reducible refine Has.alloc ?_ _) | ((with_reducible refine Has.putOther ?_ _ _ ?_); rotate_left; omega; skip) | ((with_reducible refine Has.below ?_ ?_); rotate_left; assumption)))); (· kernel_rfl)))
  refine (eqRack_same (plainR cs) _ hl).mono ?_
  rintro e w5 ⟨rfl, b5⟩
  replace HB := Lib.hid (HB.out.call b5)
  clear R Q b5
  go_wp2_with fail
  go_ret
  exact ⟨rfl, HB.out⟩
end Go.Proofs.Ythnkfdhnbafcjaa.base
