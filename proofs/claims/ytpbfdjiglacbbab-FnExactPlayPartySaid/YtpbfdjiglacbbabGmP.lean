/-
  What a turn gets in the game for tubes, walked.
-/
import Derived.Test.YtpbfdjiglacbbabGmT
namespace Go.Proofs.Ytpbfdjiglacbbab.base
open Go.ChangeShapes Go.WideShapes Go.ChangeAt Go.RowKit
set_option linter.unusedVariables false
set_option linter.unusedSimpArgs false

theorem cmN_of {r : List Int} (h : vR r = true) : (cmFA r).length = cmN r := by unfold cmFA cmN; rw [if_pos h]
set_option maxHeartbeats 800000 in
theorem points_any (x y : Int) (t r : List Int) (w : World) (ht : t.length = 24) (hr : r.length = 24) (vt : vR t = true) (vr : vR r = true) :
    Calls Try.prog 42 #[row (x :: y :: t), row r] w fun e w' => e = .returned (.int .i64 ((cmN t : Int) - (cmN r : Int))) ∧ Kept w w' := by
  have l26 : (x :: y :: t).length = 26 := by rw [List.length_cons, List.length_cons, ht]
  have HB := Lib.hid (((kept_refl w).alloc (.cells (ints (x :: y :: t)).toArray 61)).alloc (.cells (ints r).toArray 28))
  have HT := (Has.box w 61 l26 (by omega)).alloc (.cells (ints r).toArray 28)
  have HR := (Has.box (w.alloc (.cells (ints (x :: y :: t)).toArray 61)) 28 hr (by omega)).at (size1 _ _)
  have EW := trn_rack x y t ht
  have K1 := Lib.hid (fun W => implComplete r W hr)
  have K2 := Lib.hid (fun W => implComplete t W ht)
  have E1 := Lib.hid (cmN_of vr)
  have E2 := Lib.hid (cmN_of vt)
  have b1 := cmN_le r
  have b2 := cmN_le t
  rw [row_ints, row_ints]
  go_enter Try.func42, Try.ntmps42
  go_wp2_with (refine load_has rfl 28 _ rfl _ rfl ?_ 24 ?_ _ Try.underlying28 rfl ?_ ?_; rotate_left; (· (repeat (first | (with_reducible assumption) | ((with_reducible refine Has.box _ _ ?_ ?_) <;> (first | assumption | decide)) | (with_reducible refine Has.alloc ?_ _) | ((with_reducible refine Has.putOther ?_ _ _ ?_); rotate_left; omega; skip) | ((with_reducible refine Has.below ?_ ?_); rotate_left; assumption)))); (· kernel_rfl))
  refine (K1.out _).mono ?_
  rintro e w1 ⟨v, rfl, q1, k1⟩
  obtain ⟨a1, c1, rfl⟩ := q1.shape
  rw [E1.out]
  replace HT := HT.below k1
  replace HB := Lib.hid (HB.out.call k1)
  clear q1 k1 HR
  go_wp2_with (refine load_sub rfl 28 _ rfl w.heap.size 2 24 _ rfl ?_ _ 26 HT _ EW ht _ Try.underlying28 rfl ?_ ?_; (· (first | rfl | omega)); (· kernel_rfl))
  refine (K2.out _).mono ?_
  rintro e w2 ⟨v, rfl, q2, k2⟩
  obtain ⟨a2, c2, rfl⟩ := q2.shape
  rw [E2.out]
  replace HB := Lib.hid (HB.out.call k2)
  clear q2 k2 HT
  have wr : IntKind.i64.wrap ((cmN t : Int) - (cmN r : Int)) = (cmN t : Int) - (cmN r : Int) := IntWalk.i64_in _ (by omega)
  go_wp2_with fail
  go_ret
  exact ⟨rfl, HB.out⟩

end Go.Proofs.Ytpbfdjiglacbbab.base
