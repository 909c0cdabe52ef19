/-
  Whether racks are alike and the first renaming, on the model's side, walked.
-/
import Derived.Test.YtlleenepinijdaaClsS
namespace Go.Proofs.Ytlleenepinijdaa.base
open Go.ChangeShapes Go.WideShapes Go.ChangeAt Go.RowKit
set_option linter.unusedVariables false
set_option linter.unusedSimpArgs false
set_option maxHeartbeats 1600000 in
set_option maxRecDepth 100000 in
theorem specAreAlike (a b : List Int) (w : World) (ha : a.length = 24) (hb : b.length = 24) :
    Calls Try.prog 10 #[row a, row b] w fun e w' => e = .returned (.tuple #[.bool (rnOk a b), .bool (bothV a b)]) ∧ Kept w w' := by
  have HB := Lib.hid (((kept_refl w).alloc (.cells (ints a).toArray 28)).alloc (.cells (ints b).toArray 28))
  have H1 := (Has.box w 28 ha (by omega)).alloc (.cells (ints b).toArray 28)
  have H2 := (Has.box (w.alloc (.cells (ints a).toArray 28)) 28 hb (by omega)).at (size1 _ _)
  have hz : z6x.length = 6 := rfl
  rw [row_ints, row_ints]
  go_enter Try.func10, Try.ntmps10
  go_wp2_with (refine load_has rfl 28 _ rfl _ rfl ?_ 24 ?_ _ Try.underlying28 rfl ?_ ?_; rotate_left; (· (repeat (first | (with_reducible assumption) | ((with_reducible refine Has.box _ _ ?_ ?_) <;> (first | assumption | decide)) | (with_reducible refine Has.alloc ?_ _) | ((with_reducible refine Has.putOther ?_ _ _ ?_); rotate_left; omega; skip) | ((with_reducible refine Has.below ?_ ?_); rotate_left; assumption)))); (· kernel_rfl))
  refine (l2Rack_any a _ ha).mono ?_
  rintro e w1 ⟨rfl, b1⟩
  replace H1 := H1.below b1
  replace H2 := H2.below b1
  replace HB := Lib.hid (HB.out.call b1)
  clear b1
  by_cases va : vR a = true
  · rw [va]
    have VA := Lib.hid va
    go_wp2_with (refine load_has rfl 28 _ rfl _ rfl ?_ 24 ?_ _ Try.underlying28 rfl ?_ ?_; rotate_left; (· (repeat (first | (with_reducible assumption) | ((with_reducible refine Has.box _ _ ?_ ?_) <;> (first | assumption | decide)) | (with_reducible refine Has.alloc ?_ _) | ((with_reducible refine Has.putOther ?_ _ _ ?_); rotate_left; omega; skip) | ((with_reducible refine Has.below ?_ ?_); rotate_left; assumption)))); (· kernel_rfl))
    refine (l2Rack_any b _ hb).mono ?_
    rintro e w2 ⟨rfl, b2⟩
    replace H1 := H1.below b2
    replace H2 := H2.below b2
    replace HB := Lib.hid (HB.out.call b2)
    clear b2
    by_cases vb : vR b = true
    · rw [vb]
      have HQ := Lib.hid (show rnR a b = (rnTo a b).getD z6x by unfold rnR; rw [if_pos ⟨va, vb⟩])
      have HO := Lib.hid (show rnOk a b = (rnTo a b).isSome by unfold rnOk; rw [decide_eq_true ⟨va, vb⟩]; rfl)
      have HV := Lib.hid (show bothV a b = true by unfold bothV; rw [va, vb]; rfl)
      have KR := Lib.hid (fun W => l4Renaming_any a b W ha hb va)
      have hgl : ((rnTo a b).getD z6x).length = 6 := by
        cases h : rnTo a b with
        | none => rfl
        | some g => exact rnTo_len h
      clear vb va
      generalize (rnTo a b).isSome = OK at *
      generalize (rnTo a b).getD z6x = RA at *
      go_wp2_with (refine load_has rfl 28 _ rfl _ rfl ?_ 24 ?_ _ Try.underlying28 rfl ?_ ?_; rotate_left; (· (repeat (first | (with_reducible assumption) | ((with_reducible refine Has.box _ _ ?_ ?_) <;> (first | assumption | decide)) | (with_reducible refine Has.alloc ?_ _) | ((with_reducible refine Has.putOther ?_ _ _ ?_); rotate_left; omega; skip) | ((with_reducible refine Has.below ?_ ?_); rotate_left; assumption)))); (· kernel_rfl))
      refine (KR.out _).mono ?_
      rintro e w3 ⟨rfl, b3⟩
      replace H1 := H1.below b3
      replace H2 := H2.below b3
      replace HB := Lib.hid (HB.out.call b3)
      clear b3
      have HB2 := Lib.hid (HB.out.alloc (.cells (ints RA).toArray 31))
      clear KR H1 H2
      go_wp2_with (first | (refine store_new rfl 31 _ _ rfl _ _ _ rfl _ rfl _ rfl rfl ?_ ?_ ?_; (· (first | assumption | rfl)); (· kernel_rfl)) | (refine load_has rfl 31 _ rfl _ rfl ?_ 6 ?_ _ Try.underlying31 rfl ?_ ?_; rotate_left; (· (repeat (first | (with_reducible assumption) | ((with_reducible refine Has.box _ _ ?_ ?_) <;> (first | assumption | decide)) | (with_reducible refine Has.alloc ?_ _) | ((with_reducible refine Has.putOther ?_ _ _ ?_); rotate_left; omega; skip) | ((with_reducible refine Has.below ?_ ?_); rotate_left; assumption)))); (· kernel_rfl)))
      go_ret2
      exact ⟨by rw [HO.out, HV.out]; rfl, HB2.out⟩
    · have hf : vR b = false := by simpa using vb
      have HQ := Lib.hid (show rnR a b = z6x by unfold rnR; rw [if_neg (fun h => vb h.2)])
      have HO := Lib.hid (show rnOk a b = false by unfold rnOk; rw [decide_eq_false (fun h => vb h.2)]; rfl)
      have HV := Lib.hid (show bothV a b = false by unfold bothV; rw [hf]; simp)
      rw [hf]
      clear hf vb ha hb
      go_wp2_with fail
      go_ret2
      exact ⟨by rw [HO.out, HV.out]; rfl, HB.out⟩
  · have hf : vR a = false := by simpa using va
    have HQ := Lib.hid (show rnR a b = z6x by unfold rnR; rw [if_neg (fun h => va h.1)])
    have HO := Lib.hid (show rnOk a b = false by unfold rnOk; rw [decide_eq_false (fun h => va h.1)]; rfl)
    have HV := Lib.hid (show bothV a b = false by unfold bothV; rw [hf]; simp)
    rw [hf]
    clear hf va ha hb
    go_wp2_with fail
    go_ret2
    exact ⟨by rw [HO.out, HV.out]; rfl, HB.out⟩
set_option maxHeartbeats 1600000 in
set_option maxRecDepth 100000 in
theorem specRenamingTo (a b : List Int) (w : World) (ha : a.length = 24) (hb : b.length = 24) :
    Calls Try.prog 13 #[row a, row b] w fun e w' => e = .returned (.tuple #[.agg (ints (rnR a b)).toArray, .bool (rnOk a b)]) ∧ Kept w w' := by
  have HB := Lib.hid ((((kept_refl w).alloc (.cells (ints a).toArray 28)).alloc (.cells (ints b).toArray 28)).alloc (.cells #[.int .i64 0, .int .i64 0, .int .i64 0, .int .i64 0, .int .i64 0, .int .i64 0] 31))
  have H1 := ((Has.box w 28 ha (by omega)).alloc (.cells (ints b).toArray 28)).alloc (.cells #[.int .i64 0, .int .i64 0, .int .i64 0, .int .i64 0, .int .i64 0, .int .i64 0] 31)
  have H2 := ((Has.box (w.alloc (.cells (ints a).toArray 28)) 28 hb (by omega)).at (size1 _ _)).alloc (.cells #[.int .i64 0, .int .i64 0, .int .i64 0, .int .i64 0, .int .i64 0, .int .i64 0] 31)
  have H3 := (Has.zero6x ((w.alloc (.cells (ints a).toArray 28)).alloc (.cells (ints b).toArray 28)) 31).at (c := w.heap.size + 1 + 1) (by simp)
  have hz : z6x.length = 6 := rfl
  rw [row_ints, row_ints]
  go_enter Try.func13, Try.ntmps13
  go_wp2_with (refine load_has rfl 28 _ rfl _ rfl ?_ 24 ?_ _ Try.underlying28 rfl ?_ ?_; rotate_left; (· (repeat (first | (with_reducible assumption) | ((with_reducible refine Has.box _ _ ?_ ?_) <;> (first | assumption | decide)) | (with_reducible refine Has.alloc ?_ _) | ((with_reducible refine Has.putOther ?_ _ _ ?_); rotate_left; omega; skip) | ((with_reducible refine Has.below ?_ ?_); rotate_left; assumption)))); (· kernel_rfl))
  refine (l2Rack_any a _ ha).mono ?_
  rintro e w1 ⟨rfl, b1⟩
  replace H1 := H1.below b1
  replace H2 := H2.below b1
  replace H3 := H3.below b1
  replace HB := Lib.hid (HB.out.call b1)
  clear b1
  by_cases va : vR a = true
  · rw [va]
    have VA := Lib.hid va
    go_wp2_with (refine load_has rfl 28 _ rfl _ rfl ?_ 24 ?_ _ Try.underlying28 rfl ?_ ?_; rotate_left; (· (repeat (first | (with_reducible assumption) | ((with_reducible refine Has.box _ _ ?_ ?_) <;> (first | assumption | decide)) | (with_reducible refine Has.alloc ?_ _) | ((with_reducible refine Has.putOther ?_ _ _ ?_); rotate_left; omega; skip) | ((with_reducible refine Has.below ?_ ?_); rotate_left; assumption)))); (· kernel_rfl))
    refine (l2Rack_any b _ hb).mono ?_
    rintro e w2 ⟨rfl, b2⟩
    replace H1 := H1.below b2
    replace H2 := H2.below b2
    replace H3 := H3.below b2
    replace HB := Lib.hid (HB.out.call b2)
    clear b2
    by_cases vb : vR b = true
    · rw [vb]
      have HQ := Lib.hid (show rnR a b = (rnTo a b).getD z6x by unfold rnR; rw [if_pos ⟨va, vb⟩])
      have HO := Lib.hid (show rnOk a b = (rnTo a b).isSome by unfold rnOk; rw [decide_eq_true ⟨va, vb⟩]; rfl)
      have HV := Lib.hid (show bothV a b = true by unfold bothV; rw [va, vb]; rfl)
      have KR := Lib.hid (fun W => l4Renaming_any a b W ha hb va)
      have hgl : ((rnTo a b).getD z6x).length = 6 := by
        cases h : rnTo a b with
        | none => rfl
        | some g => exact rnTo_len h
      clear vb va
      generalize (rnTo a b).isSome = OK at *
      generalize (rnTo a b).getD z6x = RA at *
      go_wp2_with (refine load_has rfl 28 _ rfl _ rfl ?_ 24 ?_ _ Try.underlying28 rfl ?_ ?_; rotate_left; (· (repeat (first | (with_reducible assumption) | ((with_reducible refine Has.box _ _ ?_ ?_) <;> (first | assumption | decide)) | (with_reducible refine Has.alloc ?_ _) | ((with_reducible refine Has.putOther ?_ _ _ ?_); rotate_left; omega; skip) | ((with_reducible refine Has.below ?_ ?_); rotate_left; assumption)))); (· kernel_rfl))
      refine (KR.out _).mono ?_
      rintro e w3 ⟨rfl, b3⟩
      replace H1 := H1.below b3
      replace H2 := H2.below b3
      replace H3 := H3.below b3
      replace HB := Lib.hid (HB.out.call b3)
      clear b3
      have HB2 := Lib.hid (HB.out.puts (b := w.heap.size + 1 + 1) (by omega) 0 (ints RA))
      have H4 := H3.putAll RA hgl
      clear KR H1 H2
      go_wp2_with (first | (refine load_has rfl 31 _ rfl _ rfl ?_ 6 ?_ _ Try.underlying31 rfl ?_ ?_; rotate_left; (· (repeat (first | (with_reducible assumption) | ((with_reducible refine Has.box _ _ ?_ ?_) <;> (first | assumption | decide)) | (with_reducible refine Has.alloc ?_ _) | ((with_reducible refine Has.putOther ?_ _ _ ?_); rotate_left; omega; skip) | ((with_reducible refine Has.below ?_ ?_); rotate_left; assumption)))); (· kernel_rfl)) | (refine store_at rfl 31 _ _ rfl _ _ rfl rfl ?_ 6 ?_ ?_ ?_ ?_; rotate_left; (· (repeat (first | (with_reducible assumption) | ((with_reducible refine Has.box _ _ ?_ ?_) <;> (first | assumption | decide)) | (with_reducible refine Has.alloc ?_ _) | ((with_reducible refine Has.putOther ?_ _ _ ?_); rotate_left; omega; skip) | ((with_reducible refine Has.below ?_ ?_); rotate_left; assumption)))); (· (first | assumption | rfl)); (· kernel_rfl)) | (refine store_new rfl 31 _ _ rfl _ _ _ rfl _ rfl _ rfl rfl ?_ ?_ ?_; (· (first | assumption | rfl)); (· kernel_rfl)))
      exact bodyPost_ret (res_has1 rfl _ _ (w.heap.size + 1 + 1) RA 6 _ (.bool OK) rfl rfl H4 Try.underlying31 rfl (by kernel_rfl)) rfl ⟨by rw [HQ.out, HO.out], HB2.out⟩
    · have hf : vR b = false := by simpa using vb
      have HQ := Lib.hid (show rnR a b = z6x by unfold rnR; rw [if_neg (fun h => vb h.2)])
      have HO := Lib.hid (show rnOk a b = false by unfold rnOk; rw [decide_eq_false (fun h => vb h.2)]; rfl)
      have HV := Lib.hid (show bothV a b = false by unfold bothV; rw [hf]; simp)
      rw [hf]
      clear hf vb ha hb
      have HB2 := Lib.hid (HB.out.puts (b := w.heap.size + 1 + 1) (by omega) 0 (ints z6x))
      have H4 := H3.putAll z6x rfl
      go_wp2_with (first | (refine build_law rfl 31 rfl _ build6o ?_) | (refine store_at rfl 31 _ _ rfl _ _ rfl rfl ?_ 6 ?_ ?_ ?_ ?_; rotate_left; (· (repeat (first | (with_reducible assumption) | ((with_reducible refine Has.box _ _ ?_ ?_) <;> (first | assumption | decide)) | (with_reducible refine Has.alloc ?_ _) | ((with_reducible refine Has.putOther ?_ _ _ ?_); rotate_left; omega; skip) | ((with_reducible refine Has.below ?_ ?_); rotate_left; assumption)))); (· (first | assumption | rfl)); (· kernel_rfl)))
      exact bodyPost_ret (res_has1 rfl _ _ (w.heap.size + 1 + 1) z6x 6 _ (.bool false) rfl rfl H4 Try.underlying31 rfl (by kernel_rfl)) rfl ⟨by rw [HQ.out, HO.out], HB2.out⟩
  · have hf : vR a = false := by simpa using va
    have HQ := Lib.hid (show rnR a b = z6x by unfold rnR; rw [if_neg (fun h => va h.1)])
    have HO := Lib.hid (show rnOk a b = false by unfold rnOk; rw [decide_eq_false (fun h => va h.1)]; rfl)
    have HV := Lib.hid (show bothV a b = false by unfold bothV; rw [hf]; simp)
    rw [hf]
    clear hf va ha hb
    have HB2 := Lib.hid (HB.out.puts (b := w.heap.size + 1 + 1) (by omega) 0 (ints z6x))
    have H4 := H3.putAll z6x rfl
    go_wp2_with (first | (refine build_law rfl 31 rfl _ build6o ?_) | (refine store_at rfl 31 _ _ rfl _ _ rfl rfl ?_ 6 ?_ ?_ ?_ ?_; rotate_left; (· (repeat (first | (with_reducible assumption) | ((with_reducible refine Has.box _ _ ?_ ?_) <;> (first | assumption | decide)) | (with_reducible refine Has.alloc ?_ _) | ((with_reducible refine Has.putOther ?_ _ _ ?_); rotate_left; omega; skip) | ((with_reducible refine Has.below ?_ ?_); rotate_left; assumption)))); (· (first | assumption | rfl)); (· kernel_rfl)))
    exact bodyPost_ret (res_has1 rfl _ _ (w.heap.size + 1 + 1) z6x 6 _ (.bool false) rfl rfl H4 Try.underlying31 rfl (by kernel_rfl)) rfl ⟨by rw [HQ.out, HO.out], HB2.out⟩
end Go.Proofs.Ytlleenepinijdaa.base
