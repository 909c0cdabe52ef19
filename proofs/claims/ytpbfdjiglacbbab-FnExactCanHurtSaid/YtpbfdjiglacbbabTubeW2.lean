/-
  The program's methods on a tube, walked: putting, taking, pouring, and which tubes are valid.
-/
import Derived.Test.YtpbfdjiglacbbabTubeW
namespace Go.Proofs.Ytpbfdjiglacbbab.base
open Go.ChangeShapes Go.WideShapes Go.ChangeAt Go.RowKit
set_option linter.unusedVariables false
set_option linter.unusedSimpArgs false

theorem isPlain_any (t : List Int) (w : World) (h4 : t.length = 4) (hv : vT t = true) :
    Calls Try.prog 56 #[row t] w fun e w' => e = .returned (.bool (decide (topN t = lay t))) ∧ Kept w w' := by
  have HB := Lib.hid ((kept_refl w).alloc (.cells (ints t).toArray 52))
  have H := Has.box w 52 h4 (by omega)
  rw [row_ints]
  go_enter Try.func56, Try.ntmps56
  go_wp2_with (refine load_has rfl 52 _ rfl _ rfl ?_ 4 ?_ _ Try.underlying52 rfl ?_ ?_; rotate_left; (· (repeat (first | (with_reducible assumption) | ((with_reducible refine Has.box _ _ ?_ ?_) <;> (first | assumption | decide)) | (with_reducible refine Has.alloc ?_ _) | ((with_reducible refine Has.putOther ?_ _ _ ?_); rotate_left; omega; skip) | ((with_reducible refine Has.below ?_ ?_); rotate_left; assumption)))); (· kernel_rfl))
  refine (top_any t _ h4 hv).mono ?_
  rintro e w1 ⟨rfl, b1⟩
  have HB1 := Lib.hid (HB.out.call b1)
  have H1 := H.below b1
  clear H b1 HB
  go_wp2_with (refine load_has rfl 52 _ rfl _ rfl ?_ 4 ?_ _ Try.underlying52 rfl ?_ ?_; rotate_left; (· (repeat (first | (with_reducible assumption) | ((with_reducible refine Has.box _ _ ?_ ?_) <;> (first | assumption | decide)) | (with_reducible refine Has.alloc ?_ _) | ((with_reducible refine Has.putOther ?_ _ _ ?_); rotate_left; omega; skip) | ((with_reducible refine Has.below ?_ ?_); rotate_left; assumption)))); (· kernel_rfl))
  refine (layers_any t _ h4 hv).mono ?_
  rintro e w2 ⟨rfl, b2⟩
  have HB2 := Lib.hid (HB1.out.call b2)
  clear b2
  go_wp2_with fail
  go_ret
  exact ⟨ret_bool (by rw [Bool.eq_iff_iff]; simp; try omega), HB2.out⟩

theorem put_any (t : List Int) (c : Int) (w : World) (h4 : t.length = 4) (hv : vT t = true) (hl : lay t < 4) :
    Calls Try.prog 76 #[row t, .int .i64 c] w fun e w' => e = .returned (row (putT t c)) ∧ Kept w w' := by
  have HB := Lib.hid (((kept_refl w).alloc (.cells (ints t).toArray 52)).alloc (.cells #[.int .i64 0, .int .i64 0, .int .i64 0, .int .i64 0] 52))
  have H := (Has.box w 52 h4 (by omega)).alloc (.cells #[.int .i64 0, .int .i64 0, .int .i64 0, .int .i64 0] 52)
  have Z := (Has.zero (w.alloc (.cells (ints t).toArray 52)) 52).at (size1 _ _)
  rw [row_ints]
  go_enter Try.func76, Try.ntmps76
  go_wp2_with (refine load_has rfl 52 _ rfl _ rfl ?_ 4 ?_ _ Try.underlying52 rfl ?_ ?_; rotate_left; (· (repeat (first | (with_reducible assumption) | ((with_reducible refine Has.box _ _ ?_ ?_) <;> (first | assumption | decide)) | (with_reducible refine Has.alloc ?_ _) | ((with_reducible refine Has.putOther ?_ _ _ ?_); rotate_left; omega; skip) | ((with_reducible refine Has.below ?_ ?_); rotate_left; assumption)))); (· kernel_rfl))
  refine (layers_any t _ h4 hv).mono ?_
  rintro e w1 ⟨rfl, b1⟩
  have HB1 := Lib.hid (HB.out.call b1)
  have H1 := H.below b1
  have Z1 := Lib.hid (Z.below b1)
  clear H Z b1
  have c1 := H1.cell (lay t) hl
  have f1 := H1.free (lay t) hl
  have H2 := H1.set (lay t) c hl
  have Z2 := Z1.out.setOther (b' := w.heap.size) (lay t) (.int .i64 c) (by omega)
  have HB2 := Lib.hid ((HB1.out.set (b := w.heap.size) (Nat.le_refl _) (lay t) (.int .i64 c)).puts (b := w.heap.size + 1) (by omega) 0 (ints (putT t c)))
  have Z3 := Lib.hid (Z2.putAll (putT t c) (by unfold putT; rw [List.length_set]; exact h4))
  have ZT := Lib.hid (Z2.there)
  clear H1 Z2
  go_wp2_with (first | (refine load_has rfl 52 _ rfl _ rfl ?_ 4 ?_ _ Try.underlying52 rfl ?_ ?_; rotate_left; (· (repeat (first | (with_reducible assumption) | ((with_reducible refine Has.box _ _ ?_ ?_) <;> (first | assumption | decide)) | (with_reducible refine Has.alloc ?_ _) | ((with_reducible refine Has.putOther ?_ _ _ ?_); rotate_left; omega; skip) | ((with_reducible refine Has.below ?_ ?_); rotate_left; assumption)))); (· kernel_rfl)) | (refine store_has rfl 52 _ _ rfl (w.heap.size + 1) 0 (putT t c) rfl rfl 4 ?_ ZT.out ?_ ?_; (· (unfold putT; rw [List.length_set]; exact h4)); (· kernel_rfl)))
  exact bodyPost_ret (res_has rfl _ _ (w.heap.size + 1) (putT t c) 4 _ rfl Z3.out Try.underlying52 rfl (by kernel_rfl)) rfl ⟨rfl, HB2.out⟩

theorem take_any (t : List Int) (w : World) (h4 : t.length = 4) (hv : vT t = true) (hl : 0 < lay t) :
    Calls Try.prog 75 #[row t] w fun e w' => e = .returned (row (takeT t)) ∧ Kept w w' := by
  have hl4 := (tubeFacts h4 hv).lay4
  have HB := Lib.hid (((kept_refl w).alloc (.cells (ints t).toArray 52)).alloc (.cells #[.int .i64 0, .int .i64 0, .int .i64 0, .int .i64 0] 52))
  have H := (Has.box w 52 h4 (by omega)).alloc (.cells #[.int .i64 0, .int .i64 0, .int .i64 0, .int .i64 0] 52)
  have Z := (Has.zero (w.alloc (.cells (ints t).toArray 52)) 52).at (size1 _ _)
  rw [row_ints]
  go_enter Try.func75, Try.ntmps75
  go_wp2_with (refine load_has rfl 52 _ rfl _ rfl ?_ 4 ?_ _ Try.underlying52 rfl ?_ ?_; rotate_left; (· (repeat (first | (with_reducible assumption) | ((with_reducible refine Has.box _ _ ?_ ?_) <;> (first | assumption | decide)) | (with_reducible refine Has.alloc ?_ _) | ((with_reducible refine Has.putOther ?_ _ _ ?_); rotate_left; omega; skip) | ((with_reducible refine Has.below ?_ ?_); rotate_left; assumption)))); (· kernel_rfl))
  refine (layers_any t _ h4 hv).mono ?_
  rintro e w1 ⟨rfl, b1⟩
  have HB1 := Lib.hid (HB.out.call b1)
  have H1 := H.below b1
  have Z1 := Lib.hid (Z.below b1)
  clear H Z b1
  have c1 := H1.cell (lay t - 1) (by omega)
  have f1 := H1.free (lay t - 1) (by omega)
  have i1 : ((lay t : Int) - 1).toNat = lay t - 1 := by omega
  have H2 := H1.set (lay t - 1) 0 (by omega)
  have Z2 := Z1.out.setOther (b' := w.heap.size) (lay t - 1) (.int .i64 0) (by omega)
  have HB2 := Lib.hid ((HB1.out.set (b := w.heap.size) (Nat.le_refl _) (lay t - 1) (.int .i64 0)).puts (b := w.heap.size + 1) (by omega) 0 (ints (takeT t)))
  have Z3 := Lib.hid (Z2.putAll (takeT t) (by unfold takeT; rw [List.length_set]; exact h4))
  have ZT := Lib.hid (Z2.there)
  clear H1 Z2
  go_wp2_with (first | (refine load_has rfl 52 _ rfl _ rfl ?_ 4 ?_ _ Try.underlying52 rfl ?_ ?_; rotate_left; (· (repeat (first | (with_reducible assumption) | ((with_reducible refine Has.box _ _ ?_ ?_) <;> (first | assumption | decide)) | (with_reducible refine Has.alloc ?_ _) | ((with_reducible refine Has.putOther ?_ _ _ ?_); rotate_left; omega; skip) | ((with_reducible refine Has.below ?_ ?_); rotate_left; assumption)))); (· kernel_rfl)) | (refine store_has rfl 52 _ _ rfl (w.heap.size + 1) 0 (takeT t) rfl rfl 4 ?_ ZT.out ?_ ?_; (· (unfold takeT; rw [List.length_set]; exact h4)); (· kernel_rfl)))
  exact bodyPost_ret (res_has rfl _ _ (w.heap.size + 1) (takeT t) 4 _ rfl Z3.out Try.underlying52 rfl (by kernel_rfl)) rfl ⟨rfl, HB2.out⟩

theorem pourable_any (s t : List Int) (w : World) (hs : s.length = 4) (ht : t.length = 4) (vs : vT s = true) (vt : vT t = true) :
    Calls Try.prog 66 #[row s, row t] w fun e w' => e = .returned (.int .i64 (canN s t : Nat)) ∧ Kept w w' := by
  have FS := tubeFacts hs vs
  have FT := tubeFacts ht vt
  have hn := FS.topN
  have hl := FS.lay4
  have hlt := FT.lay4
  have HB := Lib.hid (((kept_refl w).alloc (.cells (ints s).toArray 52)).alloc (.cells (ints t).toArray 52))
  have HS := (Has.box w 52 hs (by omega)).alloc (.cells (ints t).toArray 52)
  have HT := (Has.box (w.alloc (.cells (ints s).toArray 52)) 52 ht (by omega)).at (size1 _ _)
  rw [row_ints, row_ints]
  clear FS FT
  go_enter Try.func66, Try.ntmps66
  go_wp2_with (refine load_has rfl 52 _ rfl _ rfl ?_ 4 ?_ _ Try.underlying52 rfl ?_ ?_; rotate_left; (· (repeat (first | (with_reducible assumption) | ((with_reducible refine Has.box _ _ ?_ ?_) <;> (first | assumption | decide)) | (with_reducible refine Has.alloc ?_ _) | ((with_reducible refine Has.putOther ?_ _ _ ?_); rotate_left; omega; skip) | ((with_reducible refine Has.below ?_ ?_); rotate_left; assumption)))); (· kernel_rfl))
  refine (top_any s _ hs vs).mono ?_
  rintro e w1 ⟨rfl, b1⟩
  have HB1 := Lib.hid (HB.out.call b1)
  have HS1 := HS.below b1
  have HT1 := HT.below b1
  clear HB HS HT b1
  go_wp2_with (refine load_has rfl 52 _ rfl _ rfl ?_ 4 ?_ _ Try.underlying52 rfl ?_ ?_; rotate_left; (· (repeat (first | (with_reducible assumption) | ((with_reducible refine Has.box _ _ ?_ ?_) <;> (first | assumption | decide)) | (with_reducible refine Has.alloc ?_ _) | ((with_reducible refine Has.putOther ?_ _ _ ?_); rotate_left; omega; skip) | ((with_reducible refine Has.below ?_ ?_); rotate_left; assumption)))); (· kernel_rfl))
  refine (top_any t _ ht vt).mono ?_
  rintro e w2 ⟨rfl, b2⟩
  have HB2 := Lib.hid (HB1.out.call b2)
  have HS2 := HS1.below b2
  have HT2 := HT1.below b2
  clear HB1 HS1 HT1 b2
  go_wp2_with (refine load_has rfl 52 _ rfl _ rfl ?_ 4 ?_ _ Try.underlying52 rfl ?_ ?_; rotate_left; (· (repeat (first | (with_reducible assumption) | ((with_reducible refine Has.box _ _ ?_ ?_) <;> (first | assumption | decide)) | (with_reducible refine Has.alloc ?_ _) | ((with_reducible refine Has.putOther ?_ _ _ ?_); rotate_left; omega; skip) | ((with_reducible refine Has.below ?_ ?_); rotate_left; assumption)))); (· kernel_rfl))
  refine (isEmpty_any t _ ht vt).mono ?_
  rintro e w3 ⟨rfl, b3⟩
  have HB3 := Lib.hid (HB2.out.call b3)
  have HT3 := HT2.below b3
  clear HB2 HS2 HT2 b3
  by_cases h0 : lay t = 0
  · have HC := Lib.hid (show canN s t = min (topN s) (4 - lay t) by unfold canN; rw [if_neg (by omega)])
    rw [decide_eq_true h0]
    clear h0
    go_wp2_with (refine load_has rfl 52 _ rfl _ rfl ?_ 4 ?_ _ Try.underlying52 rfl ?_ ?_; rotate_left; (· (repeat (first | (with_reducible assumption) | ((with_reducible refine Has.box _ _ ?_ ?_) <;> (first | assumption | decide)) | (with_reducible refine Has.alloc ?_ _) | ((with_reducible refine Has.putOther ?_ _ _ ?_); rotate_left; omega; skip) | ((with_reducible refine Has.below ?_ ?_); rotate_left; assumption)))); (· kernel_rfl))
    refine (room_any t _ ht vt).mono ?_
    rintro e w4 ⟨rfl, b4⟩
    have HB4 := Lib.hid (HB3.out.call b4)
    clear HB3 HT3 b4
    go_wp2_with fail
    all_goals (go_ret; exact ⟨ret_int (by rw [HC.out]; omega), HB4.out⟩)
  · rw [decide_eq_false h0]
    by_cases hc : topC t = topC s
    · have HC := Lib.hid (show canN s t = min (topN s) (4 - lay t) by unfold canN; rw [if_neg (by omega)])
      have q0 : (topC t == topC s) = true := by simp [hc]
      clear h0 hc
      go_wp2_with (refine load_has rfl 52 _ rfl _ rfl ?_ 4 ?_ _ Try.underlying52 rfl ?_ ?_; rotate_left; (· (repeat (first | (with_reducible assumption) | ((with_reducible refine Has.box _ _ ?_ ?_) <;> (first | assumption | decide)) | (with_reducible refine Has.alloc ?_ _) | ((with_reducible refine Has.putOther ?_ _ _ ?_); rotate_left; omega; skip) | ((with_reducible refine Has.below ?_ ?_); rotate_left; assumption)))); (· kernel_rfl))
      refine (room_any t _ ht vt).mono ?_
      rintro e w4 ⟨rfl, b4⟩
      have HB4 := Lib.hid (HB3.out.call b4)
      clear HB3 HT3 b4
      go_wp2_with fail
      all_goals (go_ret; exact ⟨ret_int (by rw [HC.out]; omega), HB4.out⟩)
    · have HC := Lib.hid (show canN s t = 0 by unfold canN; rw [if_pos ⟨h0, hc⟩])
      have q0 : (topC t == topC s) = false := by simp [hc]
      clear h0 hc
      go_wp2_with fail
      go_ret
      exact ⟨ret_int (by rw [HC.out]; rfl), HB3.out⟩

theorem isIdle_any (s t : List Int) (w : World) (hs : s.length = 4) (ht : t.length = 4) (vs : vT s = true) (vt : vT t = true) :
    Calls Try.prog 52 #[row s, row t] w fun e w' => e = .returned (.bool (decide (topN s = lay s ∧ lay t = 0))) ∧ Kept w w' := by
  have HB := Lib.hid (((kept_refl w).alloc (.cells (ints s).toArray 52)).alloc (.cells (ints t).toArray 52))
  have HS := (Has.box w 52 hs (by omega)).alloc (.cells (ints t).toArray 52)
  have HT := (Has.box (w.alloc (.cells (ints s).toArray 52)) 52 ht (by omega)).at (size1 _ _)
  rw [row_ints, row_ints]
  go_enter Try.func52, Try.ntmps52
  go_wp2_with (refine load_has rfl 52 _ rfl _ rfl ?_ 4 ?_ _ Try.underlying52 rfl ?_ ?_; rotate_left; (· (repeat (first | (with_reducible assumption) | ((with_reducible refine Has.box _ _ ?_ ?_) <;> (first | assumption | decide)) | (with_reducible refine Has.alloc ?_ _) | ((with_reducible refine Has.putOther ?_ _ _ ?_); rotate_left; omega; skip) | ((with_reducible refine Has.below ?_ ?_); rotate_left; assumption)))); (· kernel_rfl))
  refine (isPlain_any s _ hs vs).mono ?_
  rintro e w1 ⟨rfl, b1⟩
  have HB1 := Lib.hid (HB.out.call b1)
  have HT1 := HT.below b1
  clear HB HS HT b1
  by_cases hp : topN s = lay s
  · rw [decide_eq_true hp]
    have HP := Lib.hid hp
    clear hp
    go_wp2_with (refine load_has rfl 52 _ rfl _ rfl ?_ 4 ?_ _ Try.underlying52 rfl ?_ ?_; rotate_left; (· (repeat (first | (with_reducible assumption) | ((with_reducible refine Has.box _ _ ?_ ?_) <;> (first | assumption | decide)) | (with_reducible refine Has.alloc ?_ _) | ((with_reducible refine Has.putOther ?_ _ _ ?_); rotate_left; omega; skip) | ((with_reducible refine Has.below ?_ ?_); rotate_left; assumption)))); (· kernel_rfl))
    refine (isEmpty_any t _ ht vt).mono ?_
    rintro e w2 ⟨rfl, b2⟩
    have HB2 := Lib.hid (HB1.out.call b2)
    clear HB1 HT1 b2
    go_wp2_with fail
    go_ret
    exact ⟨ret_bool (by have := HP.out; simp [this]), HB2.out⟩
  · rw [decide_eq_false hp]
    have HP := Lib.hid hp
    clear hp
    go_wp2_with fail
    go_ret
    exact ⟨ret_bool (by have := HP.out; simp [this]), HB1.out⟩

theorem isPlace_any (i : Int) (w : World) :
    Calls Try.prog 74 #[.int .i64 i] w fun e w' => e = .returned (.bool (decide (0 ≤ i ∧ i < 6))) ∧ w = w' := by
  by_cases h0 : 0 ≤ i
  · go_enter Try.func74, Try.ntmps74
    go_wp2_with fail
    go_ret
    exact ⟨ret_bool (by simp [h0]), rfl⟩
  · have h1 := Lib.hid h0
    have q : decide (0 ≤ i) = false := by simpa using h0
    clear h0
    go_enter Try.func74, Try.ntmps74
    go_wp2_with fail
    go_ret
    exact ⟨ret_bool (by have := h1.out; simp; try omega), rfl⟩
theorem known_step (t : List Int) (k : Nat) (h : k < t.length) : known (t.take (k + 1)) = (known (t.take k) && decide (0 ≤ t.getD k 0 ∧ t.getD k 0 ≤ 5)) := by
  unfold known
  rw [List.take_succ_eq_append_getElem h, List.all_append, List.getD_eq_getElem?_getD, List.getElem?_eq_getElem h]; simp
theorem known_false (t : List Int) (k : Nat) (h : k < t.length) (hf : known (t.take (k + 1)) = false) : known t = false := by
  have : known t = (known (t.take (k + 1)) && known (t.drop (k + 1))) := by unfold known; rw [← List.all_append, List.take_append_drop]
  rw [this, hf]; rfl

theorem hasKnown_any (t : List Int) (w : World) (h4 : t.length = 4) :
    Calls Try.prog 68 #[row t] w fun e w' => e = .returned (.bool (known t)) ∧ Kept w w' := by
  have HB := Lib.hid ((kept_refl w).alloc (.cells (ints t).toArray 52))
  have H := Has.box w 52 h4 (by omega)
  have HI := Lib.hid (index4 52 Try.underlying52 t h4)
  rw [row_ints]
  go_enter Try.func68, Try.ntmps68
  go_wp2_with (refine load_has rfl 52 _ rfl _ rfl ?_ 4 ?_ _ Try.underlying52 rfl ?_ ?_; rotate_left; (· (repeat (first | (with_reducible assumption) | ((with_reducible refine Has.box _ _ ?_ ?_) <;> (first | assumption | decide)) | (with_reducible refine Has.alloc ?_ _) | ((with_reducible refine Has.putOther ?_ _ _ ?_); rotate_left; omega; skip) | ((with_reducible refine Has.below ?_ ?_); rotate_left; assumption)))); (· kernel_rfl))
  go_loop [6] (fun z => ∃ k : Nat, k ≤ 4 ∧ known (t.take k) = true ∧ z = .int .i64 k) (fun z => 4 - (intOf z).toNat)
  case atStart => exact ⟨0, by omega, rfl, rfl⟩
  case round =>
    obtain ⟨k, hk, hkn, rfl⟩ := hrel
    have HK := Lib.hid hkn
    clear hkn
    by_cases h : k < 4
    · have e1 := HI.out k h
      have HS := Lib.hid (known_step t k (by omega))
      have HF := Lib.hid (known_false t k (by omega))
      rw [HK.out, Bool.true_and] at HS
      generalize t.getD k 0 = x at *
      by_cases h0 : x < 0
      · have r := HF.out (by rw [HS.out]; simp; omega)
        have R := Lib.hid r
        clear r
        go_wp2_with fail
        go_ret
        exact ⟨ret_bool R.out.symm, HB.out⟩
      · by_cases h5 : 5 < x
        · have R := Lib.hid (HF.out (by rw [HS.out]; simp; omega))
          have q : decide (x < 0) = false := by simpa using h0
          clear h0
          go_wp2_with fail
          go_ret
          exact ⟨ret_bool R.out.symm, HB.out⟩
        · have q : decide (x < 0) = false := by simpa using h0
          have q5 : decide (5 < x) = false := by simpa using h5
          have R := Lib.hid (show known (t.take (k + 1)) = true by rw [HS.out]; simp; omega)
          clear h0 h5
          go_wp2_with fail
          go_round
          case rel => exact ⟨k + 1, by omega, R.out, by go_num⟩
          case measure => simp [intOf]; omega
    · obtain rfl : k = 4 := by omega
      have e := HK.out
      rw [List.take_of_length_le (by omega)] at e
      have E := Lib.hid e
      clear e
      go_wp2_with fail
      go_ret
      exact ⟨ret_bool E.out.symm, HB.out⟩
end Go.Proofs.Ytpbfdjiglacbbab.base
