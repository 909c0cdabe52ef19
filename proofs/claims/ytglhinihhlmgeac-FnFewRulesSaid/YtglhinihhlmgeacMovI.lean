/-
  What each rule moves, on the program's side, walked.
-/
import Derived.Test.YtglhinihhlmgeacOthM
import Derived.Test.YtglhinihhlmgeacTubeWZ
namespace Go.Proofs.Ytglhinihhlmgeac.base
open Go.ChangeShapes Go.WideShapes Go.ChangeAt Go.RowKit
set_option linter.unusedVariables false
set_option linter.unusedSimpArgs false

set_option maxHeartbeats 800000 in
theorem pourM_any (s t : List Int) (m : Nat) (w : World) (hs : s.length = 4) (ht : t.length = 4) (vs : vT s = true) (vt : vT t = true) (hm : m + lay t ≤ 4) :
    Calls Try.prog 87 #[.agg #[], row s, row t, .int .i64 (m : Nat)] w fun e w' => e = .returned (.int .i64 (mvT 1 s t m : Nat)) ∧ Kept w w' := by
  have FS := tubeFacts hs vs
  have FT := tubeFacts ht vt
  have HB := Lib.hid ((((kept_refl w).alloc (.cells #[] 101)).alloc (.cells (ints s).toArray 76)).alloc (.cells (ints t).toArray 76))
  have HS := ((Has.box (w.alloc (.cells #[] 101)) 76 hs (by omega)).alloc (.cells (ints t).toArray 76)).at (size1 _ _)
  have HT := (Has.box ((w.alloc (.cells #[] 101)).alloc (.cells (ints s).toArray 76)) 76 ht (by omega)).at (c := w.heap.size + 1 + 1) (by simp)
  have V := Lib.hid (mv_pour FS FT hm)
  rw [row_ints, row_ints]
  clear FS FT
  go_enter Try.func87, Try.ntmps87
  go_wp2_with (refine load_has rfl 76 _ rfl _ rfl ?_ 4 ?_ _ Try.underlying76 rfl ?_ ?_; rotate_left; (· (repeat (first | (with_reducible assumption) | ((with_reducible refine Has.box _ _ ?_ ?_) <;> (first | assumption | decide)) | (with_reducible refine Has.alloc ?_ _) | ((with_reducible refine Has.putOther ?_ _ _ ?_); rotate_left; omega; skip) | ((with_reducible refine Has.below ?_ ?_); rotate_left; assumption)))); (· kernel_rfl))
  refine (pourable_any s t _ hs ht vs vt).mono ?_
  rintro e w1 ⟨rfl, b1⟩
  have HB1 := Lib.hid (HB.out.call b1)
  clear HS HT HB b1
  generalize canN s t = c at *
  go_wp2_with fail
  all_goals (go_ret; exact ⟨ret_int (by rw [V.out]; omega), HB1.out⟩)

set_option maxHeartbeats 800000 in
theorem dropM_any (s t : List Int) (m : Nat) (w : World) (hs : s.length = 4) (ht : t.length = 4) (vs : vT s = true) (vt : vT t = true) (hm : m + lay t ≤ 4) :
    Calls Try.prog 90 #[.agg #[], row s, row t, .int .i64 (m : Nat)] w fun e w' => e = .returned (.int .i64 (mvT 2 s t m : Nat)) ∧ Kept w w' := by
  have FS := tubeFacts hs vs
  have FT := tubeFacts ht vt
  have HB := Lib.hid ((((kept_refl w).alloc (.cells #[] 102)).alloc (.cells (ints s).toArray 76)).alloc (.cells (ints t).toArray 76))
  have HS := ((Has.box (w.alloc (.cells #[] 102)) 76 hs (by omega)).alloc (.cells (ints t).toArray 76)).at (size1 _ _)
  have HT := (Has.box ((w.alloc (.cells #[] 102)).alloc (.cells (ints s).toArray 76)) 76 ht (by omega)).at (c := w.heap.size + 1 + 1) (by simp)
  have V := Lib.hid (mv_drop FS FT hm)
  rw [row_ints, row_ints]
  clear FS FT
  go_enter Try.func90, Try.ntmps90
  go_wp2_with (refine load_has rfl 76 _ rfl _ rfl ?_ 4 ?_ _ Try.underlying76 rfl ?_ ?_; rotate_left; (· (repeat (first | (with_reducible assumption) | ((with_reducible refine Has.box _ _ ?_ ?_) <;> (first | assumption | decide)) | (with_reducible refine Has.alloc ?_ _) | ((with_reducible refine Has.putOther ?_ _ _ ?_); rotate_left; omega; skip) | ((with_reducible refine Has.below ?_ ?_); rotate_left; assumption)))); (· kernel_rfl))
  refine (pourable_any s t _ hs ht vs vt).mono ?_
  rintro e w1 ⟨rfl, b1⟩
  have HB1 := Lib.hid (HB.out.call b1)
  clear HS HT HB b1
  generalize canN s t = c at *
  go_wp2_with fail
  all_goals (go_ret; exact ⟨ret_int (by rw [V.out]; omega), HB1.out⟩)

set_option maxHeartbeats 800000 in
theorem looseM_any (s t : List Int) (m : Nat) (w : World) (hs : s.length = 4) (ht : t.length = 4) (vs : vT s = true) (vt : vT t = true) (hm : m + lay t ≤ 4) :
    Calls Try.prog 92 #[.agg #[], row s, row t, .int .i64 (m : Nat)] w fun e w' => e = .returned (.int .i64 (mvT 4 s t m : Nat)) ∧ Kept w w' := by
  have FS := tubeFacts hs vs
  have FT := tubeFacts ht vt
  have HB := Lib.hid ((((kept_refl w).alloc (.cells #[] 104)).alloc (.cells (ints s).toArray 76)).alloc (.cells (ints t).toArray 76))
  have HS := ((Has.box (w.alloc (.cells #[] 104)) 76 hs (by omega)).alloc (.cells (ints t).toArray 76)).at (size1 _ _)
  have HT := (Has.box ((w.alloc (.cells #[] 104)).alloc (.cells (ints s).toArray 76)) 76 ht (by omega)).at (c := w.heap.size + 1 + 1) (by simp)
  have V := Lib.hid (mv_loose (t := t) (room := m) FS)
  rw [row_ints, row_ints]
  clear FS FT
  go_enter Try.func92, Try.ntmps92
  go_wp2_with (refine load_has rfl 76 _ rfl _ rfl ?_ 4 ?_ _ Try.underlying76 rfl ?_ ?_; rotate_left; (· (repeat (first | (with_reducible assumption) | ((with_reducible refine Has.box _ _ ?_ ?_) <;> (first | assumption | decide)) | (with_reducible refine Has.alloc ?_ _) | ((with_reducible refine Has.putOther ?_ _ _ ?_); rotate_left; omega; skip) | ((with_reducible refine Has.below ?_ ?_); rotate_left; assumption)))); (· kernel_rfl))
  refine (layers_any s _ hs vs).mono ?_
  rintro e w1 ⟨rfl, b1⟩
  have HB1 := Lib.hid (HB.out.call b1)
  clear HS HT HB b1
  generalize lay s = c at *
  go_wp2_with fail
  all_goals (go_ret; exact ⟨ret_int (by rw [V.out]; omega), HB1.out⟩)

set_option maxHeartbeats 800000 in
theorem strictM_any (s t : List Int) (m : Nat) (w : World) (hs : s.length = 4) (ht : t.length = 4) (vs : vT s = true) (vt : vT t = true) (hm : m + lay t ≤ 4) :
    Calls Try.prog 91 #[.agg #[], row s, row t, .int .i64 (m : Nat)] w fun e w' => e = .returned (.int .i64 (mvT 3 s t m : Nat)) ∧ Kept w w' := by
  have FS := tubeFacts hs vs
  have FT := tubeFacts ht vt
  have HB := Lib.hid ((((kept_refl w).alloc (.cells #[] 103)).alloc (.cells (ints s).toArray 76)).alloc (.cells (ints t).toArray 76))
  have HS := ((Has.box (w.alloc (.cells #[] 103)) 76 hs (by omega)).alloc (.cells (ints t).toArray 76)).at (size1 _ _)
  have HT := (Has.box ((w.alloc (.cells #[] 103)).alloc (.cells (ints s).toArray 76)) 76 ht (by omega)).at (c := w.heap.size + 1 + 1) (by simp)
  have V := Lib.hid (mv_strict FS FT hm)
  rw [row_ints, row_ints]
  clear FS FT
  go_enter Try.func91, Try.ntmps91
  go_wp2_with (refine load_has rfl 76 _ rfl _ rfl ?_ 4 ?_ _ Try.underlying76 rfl ?_ ?_; rotate_left; (· (repeat (first | (with_reducible assumption) | ((with_reducible refine Has.box _ _ ?_ ?_) <;> (first | assumption | decide)) | (with_reducible refine Has.alloc ?_ _) | ((with_reducible refine Has.putOther ?_ _ _ ?_); rotate_left; omega; skip) | ((with_reducible refine Has.below ?_ ?_); rotate_left; assumption)))); (· kernel_rfl))
  refine (top_any s _ hs vs).mono ?_
  rintro e w1 ⟨rfl, b1⟩
  have HB1 := Lib.hid (HB.out.call b1)
  have HS1 := HS.below b1
  have HT1 := HT.below b1
  clear HS HT HB b1
  by_cases h : m < topN s
  · have V2 := Lib.hid (show mvT 3 s t m = 0 by rw [V.out, if_pos h])
    have q1 : decide ((m : Int) < (topN s : Int)) = true := by simp; omega
    have q2 : decide ((topN s : Int) > (m : Int)) = true := by simp; omega
    have q3 : decide (m < topN s) = true := by simp; omega
    have q4 : decide (topN s > m) = true := by simp; omega
    clear h
    go_wp2_with fail
    go_ret
    exact ⟨ret_int (by rw [V2.out]; rfl), HB1.out⟩
  · have V2 := Lib.hid (show mvT 3 s t m = canN s t by rw [V.out, if_neg h])
    have q1 : decide ((m : Int) < (topN s : Int)) = false := by simp; omega
    have q2 : decide ((topN s : Int) > (m : Int)) = false := by simp; omega
    have q3 : decide (m < topN s) = false := by simp; omega
    have q4 : decide (topN s > m) = false := by simp; omega
    clear h
    go_wp2_with (refine load_has rfl 76 _ rfl _ rfl ?_ 4 ?_ _ Try.underlying76 rfl ?_ ?_; rotate_left; (· (repeat (first | (with_reducible assumption) | ((with_reducible refine Has.box _ _ ?_ ?_) <;> (first | assumption | decide)) | (with_reducible refine Has.alloc ?_ _) | ((with_reducible refine Has.putOther ?_ _ _ ?_); rotate_left; omega; skip) | ((with_reducible refine Has.below ?_ ?_); rotate_left; assumption)))); (· kernel_rfl))
    refine (pourable_any s t _ hs ht vs vt).mono ?_
    rintro e w2 ⟨rfl, b2⟩
    have HB2 := Lib.hid (HB1.out.call b2)
    clear HS1 HT1 HB1 b2
    go_wp2_with fail
    go_ret
    exact ⟨ret_int (by rw [V2.out]), HB2.out⟩
end Go.Proofs.Ytglhinihhlmgeac.base
