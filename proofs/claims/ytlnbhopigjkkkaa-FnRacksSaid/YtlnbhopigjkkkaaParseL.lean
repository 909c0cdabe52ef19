/-
  The exact law of ParseRack, walked.
-/
import Derived.Test.YtlnbhopigjkkkaaParseI
namespace Go.Proofs.Ytlnbhopigjkkkaa.base
open Go.ChangeShapes Go.WideShapes Go.ChangeAt Go.RowKit
set_option linter.unusedVariables false
set_option linter.unusedSimpArgs false

set_option maxHeartbeats 800000 in
theorem specParse (s : ByteArray) (w : World) (hs : s.size ≤ maxLen) :
    Calls Try.prog 30 #[.string s] w fun e w' => e = .returned (.tuple #[.agg (ints (parseA s.data.toList)).toArray, .bool (okR s.data.toList)]) ∧ Kept w w' := by
  have HB := Lib.hid ((kept_refl w).alloc (.cells #[.int .i64 0, .int .i64 0, .int .i64 0, .int .i64 0, .int .i64 0, .int .i64 0, .int .i64 0, .int .i64 0, .int .i64 0, .int .i64 0, .int .i64 0, .int .i64 0, .int .i64 0, .int .i64 0, .int .i64 0, .int .i64 0, .int .i64 0, .int .i64 0, .int .i64 0, .int .i64 0, .int .i64 0, .int .i64 0, .int .i64 0, .int .i64 0] 27))
  have Z := Has.zero24 w 27
  have hl := parseA_len s.data.toList
  have HP := Lib.hid (fun W => l2Parse_any s W hs)
  generalize parseA s.data.toList = R at *
  generalize okR s.data.toList = b at *
  go_enter Try.func30, Try.ntmps30
  go_wp2_with fail
  refine (HP.out _).mono ?_
  rintro e w1 ⟨rfl, b1⟩
  have Z1 := Z.below b1
  have S1 := Lib.hid (Z1.putAll R hl)
  have S2 := Lib.hid ((HB.out.call b1).puts (b := w.heap.size) (Nat.le_refl _) 0 (ints R))
  clear Z HB b1
  go_wp2_with (first | (refine store_at rfl 27 _ _ rfl _ _ rfl rfl ?_ 24 ?_ ?_ ?_ ?_; rotate_left; (· (repeat (first | (with_reducible assumption) | ((with_reducible refine Has.box _ _ ?_ ?_) <;> (first | assumption | decide)) | (with_reducible refine Has.alloc ?_ _) | ((with_reducible refine Has.putOther ?_ _ _ ?_); rotate_left; omega; skip) | ((with_reducible refine Has.below ?_ ?_); rotate_left; assumption)))); (· (first | assumption | rfl)); (· kernel_rfl)))
  exact bodyPost_ret (res_has1 rfl _ _ w.heap.size R 24 _ (.bool b) rfl rfl S1.out Try.underlying27 rfl (by kernel_rfl)) rfl ⟨rfl, S2.out⟩

end Go.Proofs.Ytlnbhopigjkkkaa.base
