/-
  The view behind a pour, on both sides, and its law, walked.
-/
import Derived.Test.YtemiljokdedidabVofI
import Derived.Test.YtemiljokdedidabPourI
import Derived.Test.YtemiljokdedidabPMath
namespace Go.Proofs.Ytemiljokdedidab.base
open Go.ChangeShapes Go.WideShapes Go.ChangeAt Go.RowKit
set_option linter.unusedVariables false
set_option linter.unusedSimpArgs false

def behV (ns : List Int) (i j : Int) : List Int := if pourOk ns i j = true then vwR (pourR ns i j) else z18
theorem behV_len (ns : List Int) (i j : Int) : (behV ns i j).length = 18 := by
  unfold behV; split
  · exact vwR_len _
  · rfl

set_option maxHeartbeats 800000 in
theorem implViewBehind (ns : List Int) (i j : Int) (w : World) (h24 : ns.length = 24) :
    Calls Try.prog 30 #[row ns, .int .i64 i, .int .i64 j] w fun e w' => e = .returned (.tuple #[.agg (ints (behV ns i j)).toArray, .int .i64 (pourA ns i j), .bool (pourOk ns i j)]) ∧ Kept w w' := by
  have H := (Has.box w 28 h24 (by omega)).alloc (.cells (ints z18).toArray 31)
  have Z := (Has.box (w.alloc (.cells (ints ns).toArray 28)) 31 (ns := z18) (n := 18) rfl (by decide)).at (size1 _ _)
  have HB := Lib.hid (((kept_refl w).alloc (.cells (ints ns).toArray 28)).alloc (.cells (ints z18).toArray 31))
  rw [row_ints]
  go_enter Try.func30, Try.ntmps30
  go_wp2_with (refine load_has rfl 28 _ rfl _ rfl ?_ 24 ?_ _ Try.underlying28 rfl ?_ ?_; rotate_left; (· (repeat (first | (with_reducible assumption) | ((with_reducible refine Has.box _ _ ?_ ?_) <;> (first | assumption | decide)) | (with_reducible refine Has.alloc ?_ _) | ((with_reducible refine Has.putOther ?_ _ _ ?_); rotate_left; omega; skip) | ((with_reducible refine Has.below ?_ ?_); rotate_left; assumption)))); (· kernel_rfl))
  refine (implPour ns i j _ h24).mono ?_
  rintro e w1 ⟨rfl, b1⟩
  have hr := pourR_len h24 i j
  have Z1 := (Z.below b1).alloc (.cells (ints (pourR ns i j)).toArray 28)
  have R1 := Has.box w1 28 hr (by omega)
  have HB1 := Lib.hid ((HB.out.call b1).alloc (.cells (ints (pourR ns i j)).toArray 28))
  have hne : w.heap.size + 1 < w1.heap.size := by have := (Z.below b1).lt; omega
  clear H Z HB b1
  by_cases ho : pourOk ns i j = true
  · have PF := pour_facts h24 ho
    have V := Lib.hid PF.valid
    have EB := Lib.hid (show behV ns i j = vwR (pourR ns i j) by unfold behV; rw [if_pos ho])
    have HO := Lib.hid ho
    have hl := vwR_len (pourR ns i j)
    rw [ho]
    clear PF ho
    generalize pourR ns i j = rs at *
    go_wp2_with (first | (refine store_new rfl 28 _ _ rfl _ _ _ rfl _ rfl _ rfl rfl ?_ ?_ ?_; (· (first | assumption | rfl)); (· kernel_rfl)) | (refine load_has rfl 28 _ rfl _ rfl ?_ 24 ?_ _ Try.underlying28 rfl ?_ ?_; rotate_left; (· (repeat (first | (with_reducible assumption) | ((with_reducible refine Has.box _ _ ?_ ?_) <;> (first | assumption | decide)) | (with_reducible refine Has.alloc ?_ _) | ((with_reducible refine Has.putOther ?_ _ _ ?_); rotate_left; omega; skip) | ((with_reducible refine Has.below ?_ ?_); rotate_left; assumption)))); (· kernel_rfl)))
    refine (implViewOf rs _ hr).mono ?_
    rintro e w3 ⟨rfl, b3⟩
    have EA : viewA rs = vwR rs := by unfold viewA; rw [if_pos V.out]
    rw [EA, V.out]
    have Z3 := (Z1.below b3).alloc (.cells (ints (vwR rs)).toArray 31)
    have Q3 := Has.box w3 31 hl (by omega)
    have HB3 := Lib.hid ((HB1.out.call b3).alloc (.cells (ints (vwR rs)).toArray 31))
    have S1 := Lib.hid (Z3.putAll (vwR rs) hl)
    have S2 := Lib.hid (HB3.out.puts (b := w.heap.size + 1) (by omega) 0 (ints (vwR rs)))
    clear HB1 b3 Z1 R1 HB3
    go_wp2_with (first | (refine store_new rfl 31 _ _ rfl _ _ _ rfl _ rfl _ rfl rfl ?_ ?_ ?_; (· (first | assumption | rfl)); (· kernel_rfl)) | (refine load_has rfl 31 _ rfl _ rfl ?_ 18 ?_ _ Try.underlying31 rfl ?_ ?_; rotate_left; (· (repeat (first | (with_reducible assumption) | ((with_reducible refine Has.box _ _ ?_ ?_) <;> (first | assumption | decide)) | (with_reducible refine Has.alloc ?_ _) | ((with_reducible refine Has.putOther ?_ _ _ ?_); rotate_left; omega; skip) | ((with_reducible refine Has.below ?_ ?_); rotate_left; assumption)))); (· kernel_rfl)) | (refine store_at rfl 31 _ _ rfl _ _ rfl rfl ?_ 18 ?_ ?_ ?_ ?_; rotate_left; (· (repeat (first | (with_reducible assumption) | ((with_reducible refine Has.box _ _ ?_ ?_) <;> (first | assumption | decide)) | (with_reducible refine Has.alloc ?_ _) | ((with_reducible refine Has.putOther ?_ _ _ ?_); rotate_left; omega; skip) | ((with_reducible refine Has.below ?_ ?_); rotate_left; assumption)))); (· (first | assumption | rfl)); (· kernel_rfl)))
    exact bodyPost_ret (res_has2 rfl _ _ (w.heap.size + 1) (vwR rs) 18 _ (.int .i64 (pourA ns i j)) (.bool true) rfl rfl rfl S1.out Try.underlying31 rfl (by kernel_rfl)) rfl ⟨by rw [EB.out, HO.out], S2.out⟩
  · have hf : pourOk ns i j = false := by simpa using ho
    have EB := Lib.hid (show behV ns i j = z18 by unfold behV; rw [if_neg ho])
    have EA := Lib.hid (show pourA ns i j = 0 by unfold pourA; rw [if_neg ho])
    have HO := Lib.hid hf
    rw [hf]
    clear hf ho
    generalize pourR ns i j = rs at *
    have hz : z18.length = 18 := rfl
    have S1 := Lib.hid (Z1.putAll z18 rfl)
    have S2 := Lib.hid (HB1.out.puts (b := w.heap.size + 1) (by omega) 0 (ints z18))
    go_wp2_with (first | (refine store_new rfl 28 _ _ rfl _ _ _ rfl _ rfl _ rfl rfl ?_ ?_ ?_; (· (first | assumption | rfl)); (· kernel_rfl)) | (refine build_law rfl 31 rfl _ buildView ?_) | (refine store_at rfl 31 _ _ rfl _ _ rfl rfl ?_ 18 ?_ ?_ ?_ ?_; rotate_left; (· (repeat (first | (with_reducible assumption) | ((with_reducible refine Has.box _ _ ?_ ?_) <;> (first | assumption | decide)) | (with_reducible refine Has.alloc ?_ _) | ((with_reducible refine Has.putOther ?_ _ _ ?_); rotate_left; omega; skip) | ((with_reducible refine Has.below ?_ ?_); rotate_left; assumption)))); (· (first | assumption | rfl)); (· kernel_rfl)))
    exact bodyPost_ret (res_has2 rfl _ _ (w.heap.size + 1) z18 18 _ (.int .i64 0) (.bool false) rfl rfl rfl S1.out Try.underlying31 rfl (by kernel_rfl)) rfl ⟨by rw [EB.out, HO.out, EA.out], S2.out⟩

set_option maxHeartbeats 800000 in
theorem specViewBehind (ns : List Int) (i j : Int) (w : World) (h24 : ns.length = 24) :
    Calls Try.prog 29 #[row ns, .int .i64 i, .int .i64 j] w fun e w' => e = .returned (.tuple #[.agg (ints (behV ns i j)).toArray, .int .i64 (pourA ns i j), .bool (pourOk ns i j)]) ∧ Kept w w' := by
  have H := (Has.box w 28 h24 (by omega)).alloc (.cells (ints z18).toArray 31)
  have Z := (Has.box (w.alloc (.cells (ints ns).toArray 28)) 31 (ns := z18) (n := 18) rfl (by decide)).at (size1 _ _)
  have HB := Lib.hid (((kept_refl w).alloc (.cells (ints ns).toArray 28)).alloc (.cells (ints z18).toArray 31))
  rw [row_ints]
  go_enter Try.func29, Try.ntmps29
  go_wp2_with (refine load_has rfl 28 _ rfl _ rfl ?_ 24 ?_ _ Try.underlying28 rfl ?_ ?_; rotate_left; (· (repeat (first | (with_reducible assumption) | ((with_reducible refine Has.box _ _ ?_ ?_) <;> (first | assumption | decide)) | (with_reducible refine Has.alloc ?_ _) | ((with_reducible refine Has.putOther ?_ _ _ ?_); rotate_left; omega; skip) | ((with_reducible refine Has.below ?_ ?_); rotate_left; assumption)))); (· kernel_rfl))
  refine (specPour ns i j _ h24).mono ?_
  rintro e w1 ⟨rfl, b1⟩
  have hr := pourR_len h24 i j
  have Z1 := (Z.below b1).alloc (.cells (ints (pourR ns i j)).toArray 28)
  have R1 := Has.box w1 28 hr (by omega)
  have HB1 := Lib.hid ((HB.out.call b1).alloc (.cells (ints (pourR ns i j)).toArray 28))
  have hne : w.heap.size + 1 < w1.heap.size := by have := (Z.below b1).lt; omega
  clear H Z HB b1
  by_cases ho : pourOk ns i j = true
  · have PF := pour_facts h24 ho
    have V := Lib.hid PF.valid
    have EB := Lib.hid (show behV ns i j = vwR (pourR ns i j) by unfold behV; rw [if_pos ho])
    have HO := Lib.hid ho
    have hl := vwR_len (pourR ns i j)
    rw [ho]
    clear PF ho
    generalize pourR ns i j = rs at *
    go_wp2_with (first | (refine store_new rfl 28 _ _ rfl _ _ _ rfl _ rfl _ rfl rfl ?_ ?_ ?_; (· (first | assumption | rfl)); (· kernel_rfl)) | (refine load_has rfl 28 _ rfl _ rfl ?_ 24 ?_ _ Try.underlying28 rfl ?_ ?_; rotate_left; (· (repeat (first | (with_reducible assumption) | ((with_reducible refine Has.box _ _ ?_ ?_) <;> (first | assumption | decide)) | (with_reducible refine Has.alloc ?_ _) | ((with_reducible refine Has.putOther ?_ _ _ ?_); rotate_left; omega; skip) | ((with_reducible refine Has.below ?_ ?_); rotate_left; assumption)))); (· kernel_rfl)))
    refine (l7View_any rs _ hr V.out).mono ?_
    rintro e w3 ⟨rfl, b3⟩
    have Z3 := Z1.below b3
    have S1 := Lib.hid (Z3.putAll (vwR rs) hl)
    have S2 := Lib.hid ((HB1.out.call b3).puts (b := w.heap.size + 1) (by omega) 0 (ints (vwR rs)))
    clear HB1 b3 Z1 R1
    go_wp2_with (refine store_at rfl 31 _ _ rfl _ _ rfl rfl ?_ 18 ?_ ?_ ?_ ?_; rotate_left; (· (repeat (first | (with_reducible assumption) | ((with_reducible refine Has.box _ _ ?_ ?_) <;> (first | assumption | decide)) | (with_reducible refine Has.alloc ?_ _) | ((with_reducible refine Has.putOther ?_ _ _ ?_); rotate_left; omega; skip) | ((with_reducible refine Has.below ?_ ?_); rotate_left; assumption)))); (· (first | assumption | rfl)); (· kernel_rfl))
    exact bodyPost_ret (res_has2 rfl _ _ (w.heap.size + 1) (vwR rs) 18 _ (.int .i64 (pourA ns i j)) (.bool true) rfl rfl rfl S1.out Try.underlying31 rfl (by kernel_rfl)) rfl ⟨by rw [EB.out, HO.out], S2.out⟩
  · have hf : pourOk ns i j = false := by simpa using ho
    have EB := Lib.hid (show behV ns i j = z18 by unfold behV; rw [if_neg ho])
    have EA := Lib.hid (show pourA ns i j = 0 by unfold pourA; rw [if_neg ho])
    have HO := Lib.hid hf
    rw [hf]
    clear hf ho
    generalize pourR ns i j = rs at *
    have hz : z18.length = 18 := rfl
    have S1 := Lib.hid (Z1.putAll z18 rfl)
    have S2 := Lib.hid (HB1.out.puts (b := w.heap.size + 1) (by omega) 0 (ints z18))
    go_wp2_with (first | (refine store_new rfl 28 _ _ rfl _ _ _ rfl _ rfl _ rfl rfl ?_ ?_ ?_; (· (first | assumption | rfl)); (· kernel_rfl)) | (refine build_law rfl 31 rfl _ buildView ?_) | (refine store_at rfl 31 _ _ rfl _ _ rfl rfl ?_ 18 ?_ ?_ ?_ ?_; rotate_left; (· (repeat (first | (with_reducible assumption) | ((with_reducible refine Has.box _ _ ?_ ?_) <;> (first | assumption | decide)) | (with_reducible refine Has.alloc ?_ _) | ((with_reducible refine Has.putOther ?_ _ _ ?_); rotate_left; omega; skip) | ((with_reducible refine Has.below ?_ ?_); rotate_left; assumption)))); (· (first | assumption | rfl)); (· kernel_rfl)))
    exact bodyPost_ret (res_has2 rfl _ _ (w.heap.size + 1) z18 18 _ (.int .i64 0) (.bool false) rfl rfl rfl S1.out Try.underlying31 rfl (by kernel_rfl)) rfl ⟨by rw [EB.out, HO.out, EA.out], S2.out⟩

set_option maxHeartbeats 400000 in
theorem lawViewBehind (vs : List Int) (i : Int) (j : Int) (w : World) (h0 : vs.length = 24 ∧ ∀ n ∈ vs, (Lit.int .i64 n).wf = true) (fi : (Lit.int .i64 i).wf = true) (fj : (Lit.int .i64 j).wf = true) :
    Calls Try.prog 10 #[row vs, .int .i64 i, .int .i64 j] w fun e w' => e = .returned (.bool true) ∧ Kept w w' := by
  obtain ⟨h, hw⟩ := h0
  have wi := wf_in fi
  have wj := wf_in fj
  have hl : (behV vs i j).length = 18 := behV_len vs i j
  have HB := Lib.hid ((kept_refl w).alloc (.cells (ints vs).toArray 35))
  have H := Has.box w 35 h (by omega)
  have KS := Lib.hid (fun _W => specViewBehind vs i j _W h)
  have KI := Lib.hid (fun _W => implViewBehind vs i j _W h)
  clear hw fi fj
  rw [row_ints]
  go_enter Try.func10, Try.ntmps10
  go_wp2_with (refine load_has rfl 35 _ rfl _ rfl ?_ 24 ?_ _ Try.underlying35 rfl ?_ ?_; rotate_left; (· (repeat (first | (with_reducible assumption) | ((with_reducible refine Has.box _ _ ?_ ?_) <;> (first | assumption | decide)) | (with_reducible refine Has.alloc ?_ _) | ((with_reducible refine Has.putOther ?_ _ _ ?_); rotate_left; omega; skip) | ((with_reducible refine Has.below ?_ ?_); rotate_left; assumption)))); (· kernel_rfl))
  refine (toRack_any vs _ h).mono ?_
  rintro e w1 ⟨rfl, b1⟩
  have H1 := H.below b1
  have HB1 := Lib.hid (HB.out.call b1)
  clear H HB b1
  go_wp2_with fail
  refine (KS.out _).mono ?_
  rintro e w2 ⟨rfl, b2⟩
  have H2 := (H1.below b2).alloc (.cells (ints (behV vs i j)).toArray 31)
  have R2 := Has.box w2 31 hl (by omega)
  have HB2 := Lib.hid ((HB1.out.call b2).alloc (.cells (ints (behV vs i j)).toArray 31))
  clear H1 HB1 b2
  go_wp2_with (first | (refine store_new rfl 31 _ _ rfl _ _ _ rfl _ rfl _ rfl rfl ?_ ?_ ?_; (· (first | assumption | rfl)); (· kernel_rfl)) | (refine load_has rfl 35 _ rfl _ rfl ?_ 24 ?_ _ Try.underlying35 rfl ?_ ?_; rotate_left; (· (repeat (first | (with_reducible assumption) | ((with_reducible refine Has.box _ _ ?_ ?_) <;> (first | assumption | decide)) | (with_reducible refine Has.alloc ?_ _) | ((with_reducible refine Has.putOther ?_ _ _ ?_); rotate_left; omega; skip) | ((with_reducible refine Has.below ?_ ?_); rotate_left; assumption)))); (· kernel_rfl)))
  refine (toRack_any vs _ h).mono ?_
  rintro e w3 ⟨rfl, b3⟩
  have R3 := R2.below b3
  have HB3 := Lib.hid (HB2.out.call b3)
  clear H2 R2 HB2 b3
  go_wp2_with fail
  refine (KI.out _).mono ?_
  rintro e w4 ⟨rfl, b4⟩
  have R4 := (R3.below b4).alloc (.cells (ints (behV vs i j)).toArray 31)
  have Q4 := Has.box w4 31 hl (by omega)
  have HB4 := Lib.hid ((HB3.out.call b4).alloc (.cells (ints (behV vs i j)).toArray 31))
  clear R3 HB3 b4
  go_wp2_with (first | (refine store_new rfl 31 _ _ rfl _ _ _ rfl _ rfl _ rfl rfl ?_ ?_ ?_; (· (first | assumption | rfl)); (· kernel_rfl)) | (refine load_has rfl 31 _ rfl _ rfl ?_ 18 ?_ _ Try.underlying31 rfl ?_ ?_; rotate_left; (· (repeat (first | (with_reducible assumption) | ((with_reducible refine Has.box _ _ ?_ ?_) <;> (first | assumption | decide)) | (with_reducible refine Has.alloc ?_ _) | ((with_reducible refine Has.putOther ?_ _ _ ?_); rotate_left; omega; skip) | ((with_reducible refine Has.below ?_ ?_); rotate_left; assumption)))); (· kernel_rfl)))
  refine (eqView_same (behV vs i j) _ hl).mono ?_
  rintro e w5 ⟨rfl, b5⟩
  have HB5 := Lib.hid (HB4.out.call b5)
  clear R4 Q4 HB4 b5
  go_wp2_with fail
  go_ret
  exact ⟨rfl, HB5.out⟩
end Go.Proofs.Ytemiljokdedidab.base
