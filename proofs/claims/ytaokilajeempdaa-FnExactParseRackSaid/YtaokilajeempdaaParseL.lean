/-
  The exact law of ParseRack, walked.
-/
import Derived.Test.YtaokilajeempdaaParseI
namespace Go.Proofs.Ytaokilajeempdaa.base
open Go.ChangeShapes Go.WideShapes Go.ChangeAt Go.RowKit
set_option linter.unusedVariables false
set_option linter.unusedSimpArgs false

set_option maxHeartbeats 800000 in
theorem specParse (s : ByteArray) (w : World) (hs : s.size ≤ maxLen) :
    Calls Try.prog 11 #[.string s] w fun e w' => e = .returned (.tuple #[.agg (ints (parseA s.data.toList)).toArray, .bool (okR s.data.toList)]) ∧ Kept w w' := by
  have HB := Lib.hid ((kept_refl w).alloc (.cells #[.int .i64 0, .int .i64 0, .int .i64 0, .int .i64 0, .int .i64 0, .int .i64 0, .int .i64 0, .int .i64 0, .int .i64 0, .int .i64 0, .int .i64 0, .int .i64 0, .int .i64 0, .int .i64 0, .int .i64 0, .int .i64 0, .int .i64 0, .int .i64 0, .int .i64 0, .int .i64 0, .int .i64 0, .int .i64 0, .int .i64 0, .int .i64 0] 28))
  have Z := Has.zero24 w 28
  have hl := parseA_len s.data.toList
  have HP := Lib.hid (fun W => l2Parse_any s W hs)
  generalize parseA s.data.toList = R at *
  generalize okR s.data.toList = b at *
  go_enter Try.func11, Try.ntmps11
  go_wp2_with fail
  refine (HP.out _).mono ?_
  rintro e w1 ⟨rfl, b1⟩
  have Z1 := Z.below b1
  have S1 := Lib.hid (Z1.putAll R hl)
  have S2 := Lib.hid ((HB.out.call b1).puts (b := w.heap.size) (Nat.le_refl _) 0 (ints R))
  clear Z HB b1
  go_wp2_with (first | (refine store_at rfl 28 _ _ rfl _ _ rfl rfl ?_ 24 ?_ ?_ ?_ ?_; rotate_left; (· (repeat (first | (with_reducible assumption) | ((with_reducible refine Has.box _ _ ?_ ?_) <;> (first | assumption | decide)) | (with_reducible refine Has.alloc ?_ _) | ((with_reducible refine Has.putOther ?_ _ _ ?_); rotate_left; omega; skip) | ((with_reducible refine Has.below ?_ ?_); rotate_left; assumption)))); (· (first | assumption | rfl)); (· kernel_rfl)))
  exact bodyPost_ret (res_has1 rfl _ _ w.heap.size R 24 _ (.bool b) rfl rfl S1.out Try.underlying28 rfl (by kernel_rfl)) rfl ⟨rfl, S2.out⟩

set_option maxHeartbeats 800000 in
theorem lawParseRack (s : ByteArray) (w : World) (hs : s.size ≤ maxLen) :
    Calls Try.prog 4 #[.string s] w fun e w' => e = .returned (.bool true) ∧ Kept w w' := by
  by_cases h0 : (1048576 : Int) < (s.size : Int)
  · go_enter Try.func4, Try.ntmps4
    go_wp2_with fail
    go_ret
    exact ⟨rfl, kept_refl _⟩
  · have hl := parseA_len s.data.toList
    have HP := Lib.hid (fun W => specParse s W hs)
    have HI := Lib.hid (fun W => implParse s W hs)
    generalize parseA s.data.toList = R at *
    generalize okR s.data.toList = b at *
    have EQ := Lib.hid (fun W => eqRack_same R W hl)
    go_enter Try.func4, Try.ntmps4
    go_wp2_with fail
    refine (HP.out _).mono ?_
    rintro e w1 ⟨rfl, b1⟩
    have R1 := Has.box w1 28 hl (by omega)
    have HB1 := Lib.hid (((kept_refl w).call b1).alloc (.cells (ints R).toArray 28))
    clear b1
    go_wp2_with (first | (refine store_new rfl 28 _ _ rfl _ _ _ rfl _ rfl _ rfl rfl ?_ ?_ ?_; (· (first | assumption | rfl)); (· kernel_rfl)))
    refine (HI.out _).mono ?_
    rintro e w2 ⟨rfl, b2⟩
    have R2 := (R1.below b2).alloc (.cells (ints R).toArray 28)
    have Q2 := Has.box w2 28 hl (by omega)
    have HB2 := Lib.hid ((HB1.out.call b2).alloc (.cells (ints R).toArray 28))
    clear R1 HB1 b2
    go_wp2_with (first | (refine store_new rfl 28 _ _ rfl _ _ _ rfl _ rfl _ rfl rfl ?_ ?_ ?_; (· (first | assumption | rfl)); (· kernel_rfl)) | (refine load_has rfl 28 _ rfl _ rfl ?_ 24 ?_ _ Try.underlying28 rfl ?_ ?_; rotate_left; (· (repeat (first | (with_reducible assumption) | ((with_reducible refine Has.box _ _ ?_ ?_) <;> (first | assumption | decide)) | (with_reducible refine Has.alloc ?_ _) | ((with_reducible refine Has.putOther ?_ _ _ ?_); rotate_left; omega; skip) | ((with_reducible refine Has.below ?_ ?_); rotate_left; assumption)))); (· kernel_rfl)))
    refine (EQ.out _).mono ?_
    rintro e w3 ⟨rfl, b3⟩
    have HB3 := Lib.hid (HB2.out.call b3)
    clear b3
    cases b
    all_goals
      go_wp2_with fail
      go_ret
      exact ⟨rfl, HB3.out⟩
end Go.Proofs.Ytaokilajeempdaa.base
