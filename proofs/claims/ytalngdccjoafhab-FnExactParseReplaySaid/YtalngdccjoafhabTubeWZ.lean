/-
  The program's methods on a tube, walked: how many layers, and which top.
-/
/-
  The program's methods on a tube, walked: putting, taking, pouring, and which tubes are valid.
-/
/-
  Which tubes and racks are valid: the program's check, walked.
-/
import Derived.Test.YtalngdccjoafhabRowOpsZ
import Derived.Laws.EntriesVeiled

section
namespace Go.Proofs.Ytalngdccjoafhab.base
open Go.ChangeShapes Go.WideShapes Go.ChangeAt Go.RowKit
set_option linter.unusedVariables false
set_option linter.unusedSimpArgs false

theorem layers_any (t : List Int) (w : World) (h4 : t.length = 4) (hv : vT t = true) :
    Calls Try.prog 109 #[row t] w fun e w' => e = .returned (.int .i64 (lay t : Nat)) ∧ Kept w w' := by
  have F := tubeFacts h4 hv
  have HF := Lib.hid F.full
  have hL := F.lay4
  have H := Has.box w 112 h4 (by omega)
  have HB := Lib.hid ((kept_refl w).alloc (.cells (ints t).toArray 112))
  rw [row_ints]
  clear F hv
  go_enter Try.func109, Try.ntmps109
  go_wp2_with fail
  go_loop [3] (fun n => ∃ k : Nat, k ≤ lay t ∧ n = .int .i64 k) (fun n => 4 - (intOf n).toNat)
  case atStart => exact ⟨0, Nat.zero_le _, rfl⟩
  case round =>
    obtain ⟨k, hk, rfl⟩ := hrel
    by_cases h : k < 4
    · have c0 := H.cell k h
      have f0 := HF.out k h
      by_cases hl : k < lay t
      · have n0 : (t.getD k 0 == 0) = false := by have := f0.2 hl; simpa using this
        clear f0
        generalize t.getD k 0 = x at *
        go_wp2_with fail
        go_round
        case rel => exact ⟨k + 1, by omega, by go_num⟩
        case measure => simp [intOf]; omega
      · have n0 : t.getD k 0 = 0 := Decidable.byContradiction fun hn => hl (f0.1 hn)
        rw [n0] at c0
        clear f0 n0
        go_wp2_with fail
        go_ret
        obtain rfl : k = lay t := by omega
        exact ⟨rfl, HB.out⟩
    · go_wp2_with fail
      go_ret
      obtain rfl : k = lay t := by omega
      exact ⟨rfl, HB.out⟩

theorem room_any (t : List Int) (w : World) (h4 : t.length = 4) (hv : vT t = true) :
    Calls Try.prog 106 #[row t] w fun e w' => e = .returned (.int .i64 (4 - (lay t : Nat))) ∧ Kept w w' := by
  have hL := (tubeFacts h4 hv).lay4
  have HB := Lib.hid ((kept_refl w).alloc (.cells (ints t).toArray 112))
  rw [row_ints]
  go_enter Try.func106, Try.ntmps106
  go_wp2_with (refine load_has rfl 112 _ rfl _ rfl ?_ 4 ?_ _ Try.underlying112 rfl ?_ ?_; rotate_left; (· (repeat (first | (with_reducible assumption) | ((with_reducible refine Has.box _ _ ?_ ?_) <;> (first | assumption | decide)) | (with_reducible refine Has.alloc ?_ _) | ((with_reducible refine Has.putOther ?_ _ _ ?_); rotate_left; omega; skip) | ((with_reducible refine Has.below ?_ ?_); rotate_left; assumption)))); (· kernel_rfl))
  refine (layers_any t _ h4 hv).mono ?_
  rintro e w1 ⟨rfl, b1⟩
  go_wp2_with fail
  go_ret
  exact ⟨rfl, HB.out.call b1⟩

theorem isEmpty_any (t : List Int) (w : World) (h4 : t.length = 4) (hv : vT t = true) :
    Calls Try.prog 95 #[row t] w fun e w' => e = .returned (.bool (decide (lay t = 0))) ∧ Kept w w' := by
  have HE := Lib.hid (tubeFacts h4 hv).empty
  have HB := Lib.hid ((kept_refl w).alloc (.cells (ints t).toArray 112))
  rw [row_ints]
  go_enter Try.func95, Try.ntmps95
  go_wp2_with (first | (refine load_has rfl 112 _ rfl _ rfl ?_ 4 ?_ _ Try.underlying112 rfl ?_ ?_; rotate_left; (· (repeat (first | (with_reducible assumption) | ((with_reducible refine Has.box _ _ ?_ ?_) <;> (first | assumption | decide)) | (with_reducible refine Has.alloc ?_ _) | ((with_reducible refine Has.putOther ?_ _ _ ?_); rotate_left; omega; skip) | ((with_reducible refine Has.below ?_ ?_); rotate_left; assumption)))); (· kernel_rfl)) | (refine build_law rfl 112 rfl _ buildTube ?_) | (refine eql_has rfl 112 _ _ _ rfl _ _ rfl rfl ?_ (eqTube _ _ ?_ ?_) ?_; (· kernel_rfl); (· assumption); (· rfl)))
  go_ret
  exact ⟨ret_bool (decide_eq_decide.2 HE.out), HB.out⟩

theorem top_any (t : List Int) (w : World) (h4 : t.length = 4) (hv : vT t = true) :
    Calls Try.prog 103 #[row t] w fun e w' => e = .returned (.tuple #[.int .i64 (topC t), .int .i64 (topN t : Nat)]) ∧ Kept w w' := by
  have F := tubeFacts h4 hv
  have hL := F.lay4
  have hN := F.topN
  have HB := Lib.hid ((kept_refl w).alloc (.cells (ints t).toArray 112))
  have H := Has.box w 112 h4 (by omega)
  rw [row_ints]
  go_enter Try.func103, Try.ntmps103
  go_wp2_with (refine load_has rfl 112 _ rfl _ rfl ?_ 4 ?_ _ Try.underlying112 rfl ?_ ?_; rotate_left; (· (repeat (first | (with_reducible assumption) | ((with_reducible refine Has.box _ _ ?_ ?_) <;> (first | assumption | decide)) | (with_reducible refine Has.alloc ?_ _) | ((with_reducible refine Has.putOther ?_ _ _ ?_); rotate_left; omega; skip) | ((with_reducible refine Has.below ?_ ?_); rotate_left; assumption)))); (· kernel_rfl))
  refine (layers_any t _ h4 hv).mono ?_
  rintro e w1 ⟨rfl, b1⟩
  have H1 := H.below b1
  have HB1 := Lib.hid (HB.out.call b1)
  clear H HB b1
  by_cases h0 : lay t = 0
  · have hn := Lib.hid (F.none.1 h0)
    have hc := Lib.hid (F.noneC.2 hn.out)
    rw [h0]
    clear F
    go_wp2_with fail
    go_ret2
    exact ⟨by rw [hc.out, hn.out]; rfl, HB1.out⟩
  · have hn : topN t ≠ 0 := fun h => h0 (F.none.2 h)
    have HR := Lib.hid F.run
    have HS := Lib.hid F.stop
    have c0 := H1.cell (lay t - 1) (by omega)
    have r0 := F.run 0 (by omega)
    rw [Nat.sub_zero] at r0
    rw [r0] at c0
    have i0 : ((lay t : Int) - 1).toNat = lay t - 1 := by omega
    have n0 : ((lay t : Int) == 0) = false := by simp; omega
    have H0 := Lib.hid h0
    clear F r0 h0
    go_wp2_with fail
    go_loop [6] (fun z => ∃ k : Nat, 1 ≤ k ∧ k ≤ topN t ∧ z = .int .i64 k) (fun z => 4 - (intOf z).toNat)
    case atStart => exact ⟨1, by omega, by omega, rfl⟩
    case round =>
      obtain ⟨k, hk1, hk, rfl⟩ := hrel
      by_cases h : k < lay t
      · have c1 := H1.cell (lay t - 1 - k) (by omega)
        have i1 : ((lay t : Int) - 1 - (k : Int)).toNat = lay t - 1 - k := by omega
        have j0 : (0 : Int) ≤ (lay t : Int) - 1 - (k : Int) := by omega
        have j1 : (lay t : Int) - 1 - (k : Int) < 4 := by omega
        by_cases hl : k < topN t
        · have r1 := HR.out k hl
          rw [r1] at c1
          clear r1
          go_wp2_with fail
          go_round
          case rel => exact ⟨k + 1, by omega, by omega, by go_num⟩
          case measure => simp [intOf]; omega
        · have e : k = topN t := by omega
          have r1 : (t.getD (lay t - 1 - k) 0 == topC t) = false := by
            have := HS.out (by omega); rw [← e] at this; simpa using this
          clear e
          generalize t.getD (lay t - 1 - k) 0 = x at *
          go_wp2_with fail
          go_ret2
          obtain rfl : k = topN t := by omega
          exact ⟨rfl, HB1.out⟩
      · go_wp2_with fail
        go_ret2
        obtain rfl : k = topN t := by omega
        exact ⟨rfl, HB1.out⟩
end Go.Proofs.Ytalngdccjoafhab.base
end

section
namespace Go.Proofs.Ytalngdccjoafhab.base
open Go.ChangeShapes Go.WideShapes Go.ChangeAt Go.RowKit
set_option linter.unusedVariables false
set_option linter.unusedSimpArgs false

theorem isPlain_any (t : List Int) (w : World) (h4 : t.length = 4) (hv : vT t = true) :
    Calls Try.prog 94 #[row t] w fun e w' => e = .returned (.bool (decide (topN t = lay t))) ∧ Kept w w' := by
  have HB := Lib.hid ((kept_refl w).alloc (.cells (ints t).toArray 112))
  have H := Has.box w 112 h4 (by omega)
  rw [row_ints]
  go_enter Try.func94, Try.ntmps94
  go_wp2_with (refine load_has rfl 112 _ rfl _ rfl ?_ 4 ?_ _ Try.underlying112 rfl ?_ ?_; rotate_left; (· (repeat (first | (with_reducible assumption) | ((with_reducible refine Has.box _ _ ?_ ?_) <;> (first | assumption | decide)) | (with_reducible refine Has.alloc ?_ _) | ((with_reducible refine Has.putOther ?_ _ _ ?_); rotate_left; omega; skip) | ((with_reducible refine Has.below ?_ ?_); rotate_left; assumption)))); (· kernel_rfl))
  refine (top_any t _ h4 hv).mono ?_
  rintro e w1 ⟨rfl, b1⟩
  have HB1 := Lib.hid (HB.out.call b1)
  have H1 := H.below b1
  clear H b1 HB
  go_wp2_with (refine load_has rfl 112 _ rfl _ rfl ?_ 4 ?_ _ Try.underlying112 rfl ?_ ?_; rotate_left; (· (repeat (first | (with_reducible assumption) | ((with_reducible refine Has.box _ _ ?_ ?_) <;> (first | assumption | decide)) | (with_reducible refine Has.alloc ?_ _) | ((with_reducible refine Has.putOther ?_ _ _ ?_); rotate_left; omega; skip) | ((with_reducible refine Has.below ?_ ?_); rotate_left; assumption)))); (· kernel_rfl))
  refine (layers_any t _ h4 hv).mono ?_
  rintro e w2 ⟨rfl, b2⟩
  have HB2 := Lib.hid (HB1.out.call b2)
  clear b2
  go_wp2_with fail
  go_ret
  exact ⟨ret_bool (by rw [Bool.eq_iff_iff]; simp; try omega), HB2.out⟩

theorem put_any (t : List Int) (c : Int) (w : World) (h4 : t.length = 4) (hv : vT t = true) (hl : lay t < 4) :
    Calls Try.prog 108 #[row t, .int .i64 c] w fun e w' => e = .returned (row (putT t c)) ∧ Kept w w' := by
  have HB := Lib.hid (((kept_refl w).alloc (.cells (ints t).toArray 112)).alloc (.cells #[.int .i64 0, .int .i64 0, .int .i64 0, .int .i64 0] 112))
  have H := (Has.box w 112 h4 (by omega)).alloc (.cells #[.int .i64 0, .int .i64 0, .int .i64 0, .int .i64 0] 112)
  have Z := (Has.zero (w.alloc (.cells (ints t).toArray 112)) 112).at (size1 _ _)
  rw [row_ints]
  go_enter Try.func108, Try.ntmps108
  go_wp2_with (refine load_has rfl 112 _ rfl _ rfl ?_ 4 ?_ _ Try.underlying112 rfl ?_ ?_; rotate_left; (· (repeat (first | (with_reducible assumption) | ((with_reducible refine Has.box _ _ ?_ ?_) <;> (first | assumption | decide)) | (with_reducible refine Has.alloc ?_ _) | ((with_reducible refine Has.putOther ?_ _ _ ?_); rotate_left; omega; skip) | ((with_reducible refine Has.below ?_ ?_); rotate_left; assumption)))); (· kernel_rfl))
  refine (layers_any t _ h4 hv).mono ?_
  rintro e w1 ⟨rfl, b1⟩
  have HB1 := Lib.hid (HB.out.call b1)
  have H1 := H.below b1
  have Z1 := Lib.hid (Z.below b1)
  clear H Z b1
  have c1 := H1.cell (lay t) hl
  have f1 := H1.free (lay t) hl
  have H2 := H1.set (lay t) c hl
  have Z2 := Z1.out.setOther (b' := w.heap.size) (lay t) (.int .i64 c) (by omega)
  have HB2 := Lib.hid ((HB1.out.set (b := w.heap.size) (Nat.le_refl _) (lay t) (.int .i64 c)).puts (b := w.heap.size + 1) (by omega) 0 (ints (putT t c)))
  have Z3 := Lib.hid (Z2.putAll (putT t c) (by unfold putT; rw [List.length_set]; exact h4))
  have ZT := Lib.hid (Z2.there)
  clear H1 Z2
  go_wp2_with (first | (refine load_has rfl 112 _ rfl _ rfl ?_ 4 ?_ _ Try.underlying112 rfl ?_ ?_; rotate_left; (· (repeat (first | (with_reducible assumption) | ((with_reducible refine Has.box _ _ ?_ ?_) <;> (first | assumption | decide)) | (with_reducible refine Has.alloc ?_ _) | ((with_reducible refine Has.putOther ?_ _ _ ?_); rotate_left; omega; skip) | ((with_reducible refine Has.below ?_ ?_); rotate_left; assumption)))); (· kernel_rfl)) | (refine store_has rfl 112 _ _ rfl (w.heap.size + 1) 0 (putT t c) rfl rfl 4 ?_ ZT.out ?_ ?_; (· (unfold putT; rw [List.length_set]; exact h4)); (· kernel_rfl)))
  exact bodyPost_ret (res_has rfl _ _ (w.heap.size + 1) (putT t c) 4 _ rfl Z3.out Try.underlying112 rfl (by kernel_rfl)) rfl ⟨rfl, HB2.out⟩

theorem take_any (t : List Int) (w : World) (h4 : t.length = 4) (hv : vT t = true) (hl : 0 < lay t) :
    Calls Try.prog 107 #[row t] w fun e w' => e = .returned (row (takeT t)) ∧ Kept w w' := by
  have hl4 := (tubeFacts h4 hv).lay4
  have HB := Lib.hid (((kept_refl w).alloc (.cells (ints t).toArray 112)).alloc (.cells #[.int .i64 0, .int .i64 0, .int .i64 0, .int .i64 0] 112))
  have H := (Has.box w 112 h4 (by omega)).alloc (.cells #[.int .i64 0, .int .i64 0, .int .i64 0, .int .i64 0] 112)
  have Z := (Has.zero (w.alloc (.cells (ints t).toArray 112)) 112).at (size1 _ _)
  rw [row_ints]
  go_enter Try.func107, Try.ntmps107
  go_wp2_with (refine load_has rfl 112 _ rfl _ rfl ?_ 4 ?_ _ Try.underlying112 rfl ?_ ?_; rotate_left; (· (repeat (first | (with_reducible assumption) | ((with_reducible refine Has.box _ _ ?_ ?_) <;> (first | assumption | decide)) | (with_reducible refine Has.alloc ?_ _) | ((with_reducible refine Has.putOther ?_ _ _ ?_); rotate_left; omega; skip) | ((with_reducible refine Has.below ?_ ?_); rotate_left; assumption)))); (· kernel_rfl))
  refine (layers_any t _ h4 hv).mono ?_
  rintro e w1 ⟨rfl, b1⟩
  have HB1 := Lib.hid (HB.out.call b1)
  have H1 := H.below b1
  have Z1 := Lib.hid (Z.below b1)
  clear H Z b1
  have c1 := H1.cell (lay t - 1) (by omega)
  have f1 := H1.free (lay t - 1) (by omega)
  have i1 : ((lay t : Int) - 1).toNat = lay t - 1 := by omega
  have H2 := H1.set (lay t - 1) 0 (by omega)
  have Z2 := Z1.out.setOther (b' := w.heap.size) (lay t - 1) (.int .i64 0) (by omega)
  have HB2 := Lib.hid ((HB1.out.set (b := w.heap.size) (Nat.le_refl _) (lay t - 1) (.int .i64 0)).puts (b := w.heap.size + 1) (by omega) 0 (ints (takeT t)))
  have Z3 := Lib.hid (Z2.putAll (takeT t) (by unfold takeT; rw [List.length_set]; exact h4))
  have ZT := Lib.hid (Z2.there)
  clear H1 Z2
  go_wp2_with (first | (refine load_has rfl 112 _ rfl _ rfl ?_ 4 ?_ _ Try.underlying112 rfl ?_ ?_; rotate_left; (· (repeat (first | (with_reducible assumption) | ((with_reducible refine Has.box _ _ ?_ ?_) <;> (first | assumption | decide)) | (with_reducible refine Has.alloc ?_ _) | ((with_reducible refine Has.putOther ?_ _ _ ?_); rotate_left; omega; skip) | ((with_reducible refine Has.below ?_ ?_); rotate_left; assumption)))); (· kernel_rfl)) | (refine store_has rfl 112 _ _ rfl (w.heap.size + 1) 0 (takeT t) rfl rfl 4 ?_ ZT.out ?_ ?_; (· (unfold takeT; rw [List.length_set]; exact h4)); (· kernel_rfl)))
  exact bodyPost_ret (res_has rfl _ _ (w.heap.size + 1) (takeT t) 4 _ rfl Z3.out Try.underlying112 rfl (by kernel_rfl)) rfl ⟨rfl, HB2.out⟩

theorem pourable_any (s t : List Int) (w : World) (hs : s.length = 4) (ht : t.length = 4) (vs : vT s = true) (vt : vT t = true) :
    Calls Try.prog 92 #[row s, row t] w fun e w' => e = .returned (.int .i64 (canN s t : Nat)) ∧ Kept w w' := by
  have FS := tubeFacts hs vs
  have FT := tubeFacts ht vt
  have hn := FS.topN
  have hl := FS.lay4
  have hlt := FT.lay4
  have HB := Lib.hid (((kept_refl w).alloc (.cells (ints s).toArray 112)).alloc (.cells (ints t).toArray 112))
  have HS := (Has.box w 112 hs (by omega)).alloc (.cells (ints t).toArray 112)
  have HT := (Has.box (w.alloc (.cells (ints s).toArray 112)) 112 ht (by omega)).at (size1 _ _)
  rw [row_ints, row_ints]
  clear FS FT
  go_enter Try.func92, Try.ntmps92
  go_wp2_with (refine load_has rfl 112 _ rfl _ rfl ?_ 4 ?_ _ Try.underlying112 rfl ?_ ?_; rotate_left; (· (repeat (first | (with_reducible assumption) | ((with_reducible refine Has.box _ _ ?_ ?_) <;> (first | assumption | decide)) | (with_reducible refine Has.alloc ?_ _) | ((with_reducible refine Has.putOther ?_ _ _ ?_); rotate_left; omega; skip) | ((with_reducible refine Has.below ?_ ?_); rotate_left; assumption)))); (· kernel_rfl))
  refine (top_any s _ hs vs).mono ?_
  rintro e w1 ⟨rfl, b1⟩
  have HB1 := Lib.hid (HB.out.call b1)
  have HS1 := HS.below b1
  have HT1 := HT.below b1
  clear HB HS HT b1
  go_wp2_with (refine load_has rfl 112 _ rfl _ rfl ?_ 4 ?_ _ Try.underlying112 rfl ?_ ?_; rotate_left; (· (repeat (first | (with_reducible assumption) | ((with_reducible refine Has.box _ _ ?_ ?_) <;> (first | assumption | decide)) | (with_reducible refine Has.alloc ?_ _) | ((with_reducible refine Has.putOther ?_ _ _ ?_); rotate_left; omega; skip) | ((with_reducible refine Has.below ?_ ?_); rotate_left; assumption)))); (· kernel_rfl))
  refine (top_any t _ ht vt).mono ?_
  rintro e w2 ⟨rfl, b2⟩
  have HB2 := Lib.hid (HB1.out.call b2)
  have HS2 := HS1.below b2
  have HT2 := HT1.below b2
  clear HB1 HS1 HT1 b2
  go_wp2_with (refine load_has rfl 112 _ rfl _ rfl ?_ 4 ?_ _ Try.underlying112 rfl ?_ ?_; rotate_left; (· (repeat (first | (with_reducible assumption) | ((with_reducible refine Has.box _ _ ?_ ?_) <;> (first | assumption | decide)) | (with_reducible refine Has.alloc ?_ _) | ((with_reducible refine Has.putOther ?_ _ _ ?_); rotate_left; omega; skip) | ((with_reducible refine Has.below ?_ ?_); rotate_left; assumption)))); (· kernel_rfl))
  refine (isEmpty_any t _ ht vt).mono ?_
  rintro e w3 ⟨rfl, b3⟩
  have HB3 := Lib.hid (HB2.out.call b3)
  have HT3 := HT2.below b3
  clear HB2 HS2 HT2 b3
  by_cases h0 : lay t = 0
  · have HC := Lib.hid (show canN s t = min (topN s) (4 - lay t) by unfold canN; rw [if_neg (by omega)])
    rw [decide_eq_true h0]
    clear h0
    go_wp2_with (refine load_has rfl 112 _ rfl _ rfl ?_ 4 ?_ _ Try.underlying112 rfl ?_ ?_; rotate_left; (· (repeat (first | (with_reducible assumption) | ((with_reducible refine Has.box _ _ ?_ ?_) <;> (first | assumption | decide)) | (with_reducible refine Has.alloc ?_ _) | ((with_reducible refine Has.putOther ?_ _ _ ?_); rotate_left; omega; skip) | ((with_reducible refine Has.below ?_ ?_); rotate_left; assumption)))); (· kernel_rfl))
    refine (room_any t _ ht vt).mono ?_
    rintro e w4 ⟨rfl, b4⟩
    have HB4 := Lib.hid (HB3.out.call b4)
    clear HB3 HT3 b4
    go_wp2_with fail
    all_goals (go_ret; exact ⟨ret_int (by rw [HC.out]; omega), HB4.out⟩)
  · rw [decide_eq_false h0]
    by_cases hc : topC t = topC s
    · have HC := Lib.hid (show canN s t = min (topN s) (4 - lay t) by unfold canN; rw [if_neg (by omega)])
      have q0 : (topC t == topC s) = true := by simp [hc]
      clear h0 hc
      go_wp2_with (refine load_has rfl 112 _ rfl _ rfl ?_ 4 ?_ _ Try.underlying112 rfl ?_ ?_; rotate_left; (· (repeat (first | (with_reducible assumption) | ((with_reducible refine Has.box _ _ ?_ ?_) <;> (first | assumption | decide)) | (with_reducible refine Has.alloc ?_ _) | ((with_reducible refine Has.putOther ?_ _ _ ?_); rotate_left; omega; skip) | ((with_reducible refine Has.below ?_ ?_); rotate_left; assumption)))); (· kernel_rfl))
      refine (room_any t _ ht vt).mono ?_
      rintro e w4 ⟨rfl, b4⟩
      have HB4 := Lib.hid (HB3.out.call b4)
      clear HB3 HT3 b4
      go_wp2_with fail
      all_goals (go_ret; exact ⟨ret_int (by rw [HC.out]; omega), HB4.out⟩)
    · have HC := Lib.hid (show canN s t = 0 by unfold canN; rw [if_pos ⟨h0, hc⟩])
      have q0 : (topC t == topC s) = false := by simp [hc]
      clear h0 hc
      go_wp2_with fail
      go_ret
      exact ⟨ret_int (by rw [HC.out]; rfl), HB3.out⟩

theorem isIdle_any (s t : List Int) (w : World) (hs : s.length = 4) (ht : t.length = 4) (vs : vT s = true) (vt : vT t = true) :
    Calls Try.prog 68 #[row s, row t] w fun e w' => e = .returned (.bool (decide (topN s = lay s ∧ lay t = 0))) ∧ Kept w w' := by
  have HB := Lib.hid (((kept_refl w).alloc (.cells (ints s).toArray 112)).alloc (.cells (ints t).toArray 112))
  have HS := (Has.box w 112 hs (by omega)).alloc (.cells (ints t).toArray 112)
  have HT := (Has.box (w.alloc (.cells (ints s).toArray 112)) 112 ht (by omega)).at (size1 _ _)
  rw [row_ints, row_ints]
  go_enter Try.func68, Try.ntmps68
  go_wp2_with (refine load_has rfl 112 _ rfl _ rfl ?_ 4 ?_ _ Try.underlying112 rfl ?_ ?_; rotate_left; (· (repeat (first | (with_reducible assumption) | ((with_reducible refine Has.box _ _ ?_ ?_) <;> (first | assumption | decide)) | (with_reducible refine Has.alloc ?_ _) | ((with_reducible refine Has.putOther ?_ _ _ ?_); rotate_left; omega; skip) | ((with_reducible refine Has.below ?_ ?_); rotate_left; assumption)))); (· kernel_rfl))
  refine (isPlain_any s _ hs vs).mono ?_
  rintro e w1 ⟨rfl, b1⟩
  have HB1 := Lib.hid (HB.out.call b1)
  have HT1 := HT.below b1
  clear HB HS HT b1
  by_cases hp : topN s = lay s
  · rw [decide_eq_true hp]
    have HP := Lib.hid hp
    clear hp
    go_wp2_with (refine load_has rfl 112 _ rfl _ rfl ?_ 4 ?_ _ Try.underlying112 rfl ?_ ?_; rotate_left; (· (repeat (first | (with_reducible assumption) | ((with_reducible refine Has.box _ _ ?_ ?_) <;> (first | assumption | decide)) | (with_reducible refine Has.alloc ?_ _) | ((with_reducible refine Has.putOther ?_ _ _ ?_); rotate_left; omega; skip) | ((with_reducible refine Has.below ?_ ?_); rotate_left; assumption)))); (· kernel_rfl))
    refine (isEmpty_any t _ ht vt).mono ?_
    rintro e w2 ⟨rfl, b2⟩
    have HB2 := Lib.hid (HB1.out.call b2)
    clear HB1 HT1 b2
    go_wp2_with fail
    go_ret
    exact ⟨ret_bool (by have := HP.out; simp [this]), HB2.out⟩
  · rw [decide_eq_false hp]
    have HP := Lib.hid hp
    clear hp
    go_wp2_with fail
    go_ret
    exact ⟨ret_bool (by have := HP.out; simp [this]), HB1.out⟩

theorem isPlace_any (i : Int) (w : World) :
    Calls Try.prog 105 #[.int .i64 i] w fun e w' => e = .returned (.bool (decide (0 ≤ i ∧ i < 6))) ∧ w = w' := by
  by_cases h0 : 0 ≤ i
  · go_enter Try.func105, Try.ntmps105
    go_wp2_with fail
    go_ret
    exact ⟨ret_bool (by simp [h0]), rfl⟩
  · have h1 := Lib.hid h0
    have q : decide (0 ≤ i) = false := by simpa using h0
    clear h0
    go_enter Try.func105, Try.ntmps105
    go_wp2_with fail
    go_ret
    exact ⟨ret_bool (by have := h1.out; simp; try omega), rfl⟩
theorem known_step (t : List Int) (k : Nat) (h : k < t.length) : known (t.take (k + 1)) = (known (t.take k) && decide (0 ≤ t.getD k 0 ∧ t.getD k 0 ≤ 5)) := by
  unfold known
  rw [List.take_succ_eq_append_getElem h, List.all_append, List.getD_eq_getElem?_getD, List.getElem?_eq_getElem h]; simp
theorem known_false (t : List Int) (k : Nat) (h : k < t.length) (hf : known (t.take (k + 1)) = false) : known t = false := by
  have : known t = (known (t.take (k + 1)) && known (t.drop (k + 1))) := by unfold known; rw [← List.all_append, List.take_append_drop]
  rw [this, hf]; rfl

theorem hasKnown_any (t : List Int) (w : World) (h4 : t.length = 4) :
    Calls Try.prog 110 #[row t] w fun e w' => e = .returned (.bool (known t)) ∧ Kept w w' := by
  have HB := Lib.hid ((kept_refl w).alloc (.cells (ints t).toArray 112))
  have H := Has.box w 112 h4 (by omega)
  have HI := Lib.hid (index4 112 Try.underlying112 t h4)
  rw [row_ints]
  go_enter Try.func110, Try.ntmps110
  go_wp2_with (refine load_has rfl 112 _ rfl _ rfl ?_ 4 ?_ _ Try.underlying112 rfl ?_ ?_; rotate_left; (· (repeat (first | (with_reducible assumption) | ((with_reducible refine Has.box _ _ ?_ ?_) <;> (first | assumption | decide)) | (with_reducible refine Has.alloc ?_ _) | ((with_reducible refine Has.putOther ?_ _ _ ?_); rotate_left; omega; skip) | ((with_reducible refine Has.below ?_ ?_); rotate_left; assumption)))); (· kernel_rfl))
  go_loop [6] (fun z => ∃ k : Nat, k ≤ 4 ∧ known (t.take k) = true ∧ z = .int .i64 k) (fun z => 4 - (intOf z).toNat)
  case atStart => exact ⟨0, by omega, rfl, rfl⟩
  case round =>
    obtain ⟨k, hk, hkn, rfl⟩ := hrel
    have HK := Lib.hid hkn
    clear hkn
    by_cases h : k < 4
    · have e1 := HI.out k h
      have HS := Lib.hid (known_step t k (by omega))
      have HF := Lib.hid (known_false t k (by omega))
      rw [HK.out, Bool.true_and] at HS
      generalize t.getD k 0 = x at *
      by_cases h0 : x < 0
      · have r := HF.out (by rw [HS.out]; simp; omega)
        have R := Lib.hid r
        clear r
        go_wp2_with fail
        go_ret
        exact ⟨ret_bool R.out.symm, HB.out⟩
      · by_cases h5 : 5 < x
        · have R := Lib.hid (HF.out (by rw [HS.out]; simp; omega))
          have q : decide (x < 0) = false := by simpa using h0
          clear h0
          go_wp2_with fail
          go_ret
          exact ⟨ret_bool R.out.symm, HB.out⟩
        · have q : decide (x < 0) = false := by simpa using h0
          have q5 : decide (5 < x) = false := by simpa using h5
          have R := Lib.hid (show known (t.take (k + 1)) = true by rw [HS.out]; simp; omega)
          clear h0 h5
          go_wp2_with fail
          go_round
          case rel => exact ⟨k + 1, by omega, R.out, by go_num⟩
          case measure => simp [intOf]; omega
    · obtain rfl : k = 4 := by omega
      have e := HK.out
      rw [List.take_of_length_le (by omega)] at e
      have E := Lib.hid e
      clear e
      go_wp2_with fail
      go_ret
      exact ⟨ret_bool E.out.symm, HB.out⟩
end Go.Proofs.Ytalngdccjoafhab.base
end

section
namespace Go.Proofs.Ytalngdccjoafhab.base
open Go.ChangeShapes Go.WideShapes Go.ChangeAt Go.RowKit
set_option linter.unusedVariables false
set_option linter.unusedSimpArgs false

theorem noGap_false (t : List Int) (k : Nat) (h1 : 1 ≤ k) (h4 : k < 4) (h : t.getD k 0 ≠ 0 ∧ t.getD (k - 1) 0 = 0) : noGap t = false := by
  have hg : gapAt t k = true := decide_eq_true h
  unfold noGap
  have : k = 1 ∨ k = 2 ∨ k = 3 := by omega
  rcases this with rfl | rfl | rfl <;> simp [hg]
theorem noGap_true (t : List Int) (h : ∀ j, 1 ≤ j → j < 4 → ¬ (t.getD j 0 ≠ 0 ∧ t.getD (j - 1) 0 = 0)) : noGap t = true := by
  have hg : ∀ j, 1 ≤ j → j < 4 → gapAt t j = false := fun j a b => decide_eq_false (h j a b)
  unfold noGap
  rw [hg 1 (by omega) (by omega), hg 2 (by omega) (by omega), hg 3 (by omega) (by omega)]; rfl

theorem hasNoGap_any (t : List Int) (w : World) (h4 : t.length = 4) :
    Calls Try.prog 111 #[row t] w fun e w' => e = .returned (.bool (noGap t)) ∧ Kept w w' := by
  have HB := Lib.hid ((kept_refl w).alloc (.cells (ints t).toArray 112))
  have H := Has.box w 112 h4 (by omega)
  rw [row_ints]
  go_enter Try.func111, Try.ntmps111
  go_wp2_with fail
  go_loop [3] (fun z => ∃ k : Nat, 1 ≤ k ∧ k ≤ 4 ∧ Hid (∀ j, 1 ≤ j → j < k → ¬ (t.getD j 0 ≠ 0 ∧ t.getD (j - 1) 0 = 0)) ∧ z = .int .i64 k) (fun z => 4 - (intOf z).toNat)
  case atStart => exact ⟨1, by omega, by omega, Lib.hid (fun j a b => by omega), rfl⟩
  case round =>
    obtain ⟨k, hk1, hk, HK, rfl⟩ := hrel
    by_cases h : k < 4
    · have c0 := H.cell k h
      have c1 := H.cell (k - 1) (by omega)
      have i1 : ((k : Int) - 1).toNat = k - 1 := by omega
      have HF := Lib.hid (noGap_false t k hk1 h)
      have HN := Lib.hid (show ¬ (t.getD k 0 ≠ 0 ∧ t.getD (k - 1) 0 = 0) → ∀ j, 1 ≤ j → j < k + 1 → ¬ (t.getD j 0 ≠ 0 ∧ t.getD (j - 1) 0 = 0) from fun hn j a b => by
        by_cases e : j = k
        · subst e; exact hn
        · exact HK.out j a (by omega))
      generalize t.getD k 0 = x at *
      generalize t.getD (k - 1) 0 = y at *
      by_cases h0 : x = 0
      · subst h0
        have R := Lib.hid (HN.out (by simp))
        go_wp2_with fail
        go_round
        case rel => exact ⟨k + 1, by omega, by omega, R, by go_num⟩
        case measure => simp [intOf]; omega
      · by_cases h5 : y = 0
        · have R := Lib.hid (HF.out ⟨h0, h5⟩)
          subst h5
          have q : (x == 0) = false := by simpa using h0
          have q2 : (x != 0) = true := by simpa using h0
          clear h0
          go_wp2_with fail
          go_ret
          exact ⟨ret_bool R.out.symm, HB.out⟩
        · have R := Lib.hid (HN.out (fun h => h5 h.2))
          have q : (x == 0) = false := by simpa using h0
          have q2 : (x != 0) = true := by simpa using h0
          have q5 : (y == 0) = false := by simpa using h5
          clear h0 h5
          go_wp2_with fail
          go_round
          case rel => exact ⟨k + 1, by omega, by omega, R, by go_num⟩
          case measure => simp [intOf]; omega
    · obtain rfl : k = 4 := by omega
      have E := Lib.hid (noGap_true t HK.out)
      go_wp2_with fail
      go_ret
      exact ⟨ret_bool E.out.symm, HB.out⟩

theorem rules_any (w : World) :
    Calls Try.prog 97 #[] w fun e w' => e = .returned (.agg #[.func (.func 110) #[] #[], .func (.func 111) #[] #[]]) ∧ Kept w w' := by
  go_enter Try.func97, Try.ntmps97
  go_wp2_with fail
  exact bodyPost_ret (results_cell_mid (P := Try.prog) rfl _ _ w.heap.size [.func (.func 110) #[] #[], .func (.func 111) #[] #[]] _ rfl
    (range_new w #[.func (.func 110) #[] #[], .func (.func 111) #[] #[]] 129) Try.underlying129 rfl (by kernel_rfl)) rfl ⟨rfl, (kept_refl w).alloc _⟩

theorem l1In_any (x a b : Int) (w : World) :
    Calls Try.prog 42 #[.int .i64 x, .int .i64 a, .int .i64 b] w fun e w' => e = .returned (.bool (decide (a ≤ x ∧ x ≤ b))) ∧ w = w' := by
  by_cases h0 : a ≤ x
  · go_enter Try.func42, Try.ntmps42
    go_wp2_with fail
    go_ret
    exact ⟨ret_bool (by simp [h0]), rfl⟩
  · have h1 := Lib.hid h0
    have q : decide (a ≤ x) = false := by simpa using h0
    clear h0
    go_enter Try.func42, Try.ntmps42
    go_wp2_with fail
    go_ret
    exact ⟨ret_bool (by have := h1.out; simp; try omega), rfl⟩
theorem l2Place_any (i : Int) (w : World) :
    Calls Try.prog 58 #[.int .i64 i] w fun e w' => e = .returned (.bool (decide (0 ≤ i ∧ i < 6))) ∧ w = w' := by
  go_enter Try.func58, Try.ntmps58
  go_wp2_with fail
  refine (l1In_any i 0 5 _).mono ?_
  rintro e w' ⟨rfl, rfl⟩
  go_wp2_with fail
  go_ret
  exact ⟨ret_bool (by rw [Bool.eq_iff_iff]; simp; omega), rfl⟩

def badAt (t : List Int) (k : Nat) : Prop := ¬ (0 ≤ t.getD k 0 ∧ t.getD k 0 ≤ 5) ∨ (0 < k ∧ 0 < t.getD k 0 ∧ t.getD (k - 1) 0 = 0)
theorem known_iff {t : List Int} (h4 : t.length = 4) : known t = true ↔ ∀ k, k < 4 → 0 ≤ t.getD k 0 ∧ t.getD k 0 ≤ 5 := by
  obtain ⟨a, b, c, d, rfl⟩ := len4 h4
  simp only [known, List.all_cons, List.all_nil, Bool.and_eq_true, decide_eq_true_eq, and_true]
  constructor
  · rintro ⟨h0, h1, h2, h3⟩ k hk
    match k, hk with
    | 0, _ => exact h0
    | 1, _ => exact h1
    | 2, _ => exact h2
    | 3, _ => exact h3
  · intro h
    exact ⟨h 0 (by omega), h 1 (by omega), h 2 (by omega), h 3 (by omega)⟩
theorem vT_good {t : List Int} (h4 : t.length = 4) (h : ∀ k, k < 4 → ¬ badAt t k) : vT t = true := by
  have hk : known t = true := (known_iff h4).2 fun k hk => Decidable.byContradiction fun hn => h k hk (.inl hn)
  unfold vT
  rw [hk, Bool.true_and]
  exact noGap_true t fun j a b hg => h j b (.inr ⟨a, by have := ((known_iff h4).1 hk j b).1; omega, hg.2⟩)
theorem vT_bad {t : List Int} (h4 : t.length = 4) (k : Nat) (hk : k < 4) (h : badAt t k) : vT t = false := by
  unfold vT
  rcases h with h | ⟨h0, h1, h2⟩
  · have : known t = false := by
      cases hb : known t with
      | false => rfl
      | true => exact absurd ((known_iff h4).1 hb k hk) h
    rw [this]; rfl
  · rw [noGap_false t k h0 hk ⟨by omega, h2⟩, Bool.and_false]

set_option maxHeartbeats 800000 in
theorem l2Rack_any (ns : List Int) (w : World) (h24 : ns.length = 24) :
    Calls Try.prog 71 #[row ns] w fun e w' => e = .returned (.bool (vR ns)) ∧ Kept w w' := by
  have HB := Lib.hid ((kept_refl w).alloc (.cells (ints ns).toArray 30))
  have H := Has.box w 30 h24 (by omega)
  have HL := Lib.hid h24
  rw [row_ints]
  clear h24
  go_enter Try.func71, Try.ntmps71
  go_wp2_with fail
  generalize w.alloc (.cells (ints ns).toArray 30) = W at *
  go_loopg [2, 3, 4] 6 (fun gk r i kk wr => ∃ p : Nat, gk = 6 - p ∧ p ≤ 6 ∧ r = .bool false ∧ i = .int .i64 p ∧ Hid (∀ q, q < p → vT (tub ns q) = true) ∧ W = wr)
  case atStart => exact ⟨0, rfl, by omega, rfl, rfl, Lib.hid (fun q h => by omega), rfl⟩
  case round =>
    obtain ⟨p, rfl, hp, rfl, rfl, HV, rfl⟩ := hrel
    by_cases hp6 : p < 6
    · have hpi : (p : Int) < 6 := by omega
      go_wp2_with fail
      go_loopg [2, 4] 4 (fun gk r kk wr => ∃ q : Nat, gk = 4 - q ∧ q ≤ 4 ∧ r = .bool false ∧ kk = .int .i64 q ∧ Hid (∀ j, j < q → ¬ badAt (tub ns p) j) ∧ W = wr)
      case atStart => exact ⟨0, rfl, by omega, rfl, rfl, Lib.hid (fun q h => by omega), rfl⟩
      case round =>
        obtain ⟨q, rfl, hq, rfl, rfl, HQ, rfl⟩ := hrel
        by_cases hq4 : q < 4
        · have c0 := H.rackCell p q hp6 hq4
          have HG := Lib.hid (show ¬ badAt (tub ns p) q → ∀ j, j < q + 1 → ¬ badAt (tub ns p) j from fun hn j hj => by
            by_cases e : j = q
            · subst e; exact hn
            · exact HQ.out j (by omega))
          have HF := Lib.hid (fun hb : badAt (tub ns p) q => vR_not p hp6 (vT_bad (tub_len ns p HL.out hp6) q hq4 hb))
          unfold badAt at HG HF
          by_cases hx : 0 ≤ (tub ns p).getD q 0 ∧ (tub ns p).getD q 0 ≤ 5
          · have R := Lib.hid HG
            have x0 := hx.1
            have x5 := hx.2
            by_cases hq0 : 0 < q
            · have c1 := H.rackCell p (q - 1) hp6 (by omega)
              have i1 : ((q : Int) - 1).toNat = q - 1 := by omega
              generalize (tub ns p).getD q 0 = x at *
              generalize (tub ns p).getD (q - 1) 0 = y at *
              by_cases hx0 : 0 < x
              · by_cases hy : y = 0
                · have R2 := Lib.hid (HF.out (.inr ⟨hq0, hx0, hy⟩))
                  subst hy
                  go_wp2_with fail
                  refine (l1In_any x 0 5 _).mono ?_
                  rintro e w' ⟨rfl, rfl⟩
                  rw [decide_eq_true hx]
                  clear hx
                  go_wp2_with fail
                  go_ret
                  exact ⟨ret_bool R2.out.symm, HB.out⟩
                · have R2 := Lib.hid (HG.out (by rintro (h | h); exact h hx; exact hy h.2.2))
                  have qy : (y == 0) = false := by simpa using hy
                  have hx' := hx
                  clear hy
                  go_wp2_with fail
                  refine (l1In_any x 0 5 _).mono ?_
                  rintro e w' ⟨rfl, rfl⟩
                  rw [decide_eq_true hx]
                  clear hx hx'
                  go_wp2_with fail
                  go_roundg (4 - (q + 1))
                  case rel => exact ⟨q + 1, rfl, by omega, rfl, by go_num, R2, rfl⟩
                  case measure => omega
              · have R2 := Lib.hid (HG.out (by rintro (h | h); exact h hx; exact hx0 h.2.1))
                have qx : decide (0 < x) = false := by simpa using hx0
                clear hx0
                go_wp2_with fail
                refine (l1In_any x 0 5 _).mono ?_
                rintro e w' ⟨rfl, rfl⟩
                rw [decide_eq_true hx]
                clear hx
                go_wp2_with fail
                go_roundg (4 - (q + 1))
                case rel => exact ⟨q + 1, rfl, by omega, rfl, by go_num, R2, rfl⟩
                case measure => omega
            · have R2 := Lib.hid (HG.out (by rintro (h | h); exact h hx; exact hq0 h.1))
              have qq : decide ((0 : Int) < (q : Int)) = false := by simp; omega
              have qq2 : decide (0 < q) = false := by simp; omega
              generalize (tub ns p).getD q 0 = x at *
              clear hq0
              go_wp2_with fail
              refine (l1In_any x 0 5 _).mono ?_
              rintro e w' ⟨rfl, rfl⟩
              rw [decide_eq_true hx]
              clear hx
              go_wp2_with fail
              go_roundg (4 - (q + 1))
              case rel => exact ⟨q + 1, rfl, by omega, rfl, by go_num, R2, rfl⟩
              case measure => omega
          · have R := Lib.hid (HF.out (.inl hx))
            generalize (tub ns p).getD q 0 = x at *
            go_wp2_with fail
            refine (l1In_any x 0 5 _).mono ?_
            rintro e w' ⟨rfl, rfl⟩
            rw [decide_eq_false hx]
            clear hx
            go_wp2_with fail
            go_ret
            exact ⟨ret_bool R.out.symm, HB.out⟩
        · have E := Lib.hid (vT_good (tub_len ns p HL.out hp6) fun k hk => HQ.out k (by omega))
          go_wp2_with fail
          go_roundg (6 - (p + 1))
          case rel => exact ⟨p + 1, rfl, by omega, rfl, by go_num, Lib.hid (fun j hj => by
            by_cases e : j = p
            · subst e; exact E.out
            · exact HV.out j (by omega)), rfl⟩
          case measure => omega
    · have E := Lib.hid (vR_of (ns := ns) fun i hi => HV.out i (by omega))
      go_wp2_with fail
      go_ret
      exact ⟨ret_bool E.out.symm, HB.out⟩

/-- How far the two rules have been asked. -/
def RuleAt (t : List Int) (g : Nat) (j : Value) : Prop := (g = 2 ∧ j = .int .i64 0) ∨ (g = 1 ∧ j = .int .i64 1 ∧ known t = true) ∨ (g = 0 ∧ j = .int .i64 2 ∧ vT t = true)
theorem indexRule0 (w : World) : (Instr.index 129 (.agg #[.func (.func 110) #[] #[], .func (.func 111) #[] #[]]) (.int .i64 0)).run Try.prog w = .ok (.func (.func 110) #[] #[]) w := by kernel_rfl
theorem indexRule1 (w : World) : (Instr.index 129 (.agg #[.func (.func 110) #[] #[], .func (.func 111) #[] #[]]) (.int .i64 1)).run Try.prog w = .ok (.func (.func 111) #[] #[]) w := by kernel_rfl

set_option maxHeartbeats 800000 in
theorem isRack_any (ns : List Int) (w : World) (h24 : ns.length = 24) :
    Calls Try.prog 76 #[row ns] w fun e w' => e = .returned (.bool (vR ns)) ∧ Kept w w' := by
  have HB := Lib.hid ((kept_refl w).alloc (.cells (ints ns).toArray 30))
  have H := Has.box w 30 h24 (by omega)
  have f0 := indexRule0
  have f1 := indexRule1
  rw [row_ints]
  go_enter Try.func76, Try.ntmps76
  go_wp2_with (refine load_has rfl 23 _ rfl _ rfl ?_ 24 ?_ _ Try.underlying23 rfl ?_ ?_; rotate_left; (· (repeat (first | (with_reducible assumption) | ((with_reducible refine Has.box _ _ ?_ ?_) <;> (first | assumption | decide)) | (with_reducible refine Has.alloc ?_ _) | ((with_reducible refine Has.putOther ?_ _ _ ?_); rotate_left; omega; skip) | ((with_reducible refine Has.below ?_ ?_); rotate_left; assumption)))); (· kernel_rfl))
  have HL := Lib.hid h24
  clear H h24
  generalize w.alloc (.cells (ints ns).toArray 30) = W at *
  go_loopg [9] 6 (fun gk i wr => ∃ p : Nat, gk = 6 - p ∧ p ≤ 6 ∧ i = .int .i64 p ∧ Hid (∀ q, q < p → vT (tub ns q) = true) ∧ Hid (Kept w wr))
  case atStart => exact ⟨0, rfl, by omega, rfl, Lib.hid (fun q h => by omega), HB⟩
  case round =>
    obtain ⟨p, rfl, hp, rfl, HV, HK⟩ := hrel
    by_cases hp6 : p < 6
    · have g0 := indexTub ns p hp6
      have h4 := tub_len ns p HL.out hp6
      have HF := Lib.hid (fun hb : vT (tub ns p) = false => vR_not p hp6 hb)
      have HE := Lib.hid (show vT (tub ns p) = true → ∀ j, j < p + 1 → vT (tub ns j) = true from fun h j hj => by
        by_cases e : j = p
        · subst e; exact h
        · exact HV.out j (by omega))
      generalize tub ns p = t at *
      have HK1 := Lib.hid (HK.out.alloc (.cells (ints t).toArray 22))
      have hpi : (p : Int) < 6 := by omega
      have HT := Has.box wr 22 h4 (by omega)
      go_wp2_with (refine store_new rfl 22 _ _ rfl _ _ _ rfl _ rfl _ rfl rfl ?_ ?_ ?_; (· (first | assumption | rfl)); (· kernel_rfl))
      refine (rules_any _).mono ?_
      rintro e w1 ⟨rfl, b1⟩
      have HT1 := Lib.hid (HT.below b1)
      have HK2 := Lib.hid (HK1.out.call b1)
      clear HT HK1 b1
      go_wp2_with fail
      go_loopg [13] 2 (fun gk j w2 => RuleAt t gk j ∧ Hid (Has w2 wr.heap.size t 4) ∧ Hid (Kept w w2))
      case atStart => exact ⟨.inl ⟨rfl, rfl⟩, HT1, HK2⟩
      case round =>
        obtain ⟨hr, HT3, HK3⟩ := hrel
        rcases hr with ⟨rfl, rfl⟩ | ⟨rfl, rfl, hkn⟩ | ⟨rfl, rfl, hvt⟩
        · have HT4 := HT3.out
          go_wp2_with (refine load_has rfl 22 _ rfl _ rfl ?_ 4 ?_ _ Try.underlying22 rfl ?_ ?_; rotate_left; (· (repeat (first | (with_reducible assumption) | ((with_reducible refine Has.box _ _ ?_ ?_) <;> (first | assumption | decide)) | (with_reducible refine Has.alloc ?_ _) | ((with_reducible refine Has.putOther ?_ _ _ ?_); rotate_left; omega; skip) | ((with_reducible refine Has.below ?_ ?_); rotate_left; assumption)))); (· kernel_rfl))
          refine (hasKnown_any t _ h4).mono ?_
          rintro e w4 ⟨rfl, b4⟩
          have HT5 := Lib.hid (HT4.below b4)
          have HK5 := Lib.hid (HK3.out.call b4)
          clear HT4 b4
          by_cases hkn : known t = true
          · rw [hkn]
            have HN := Lib.hid hkn
            clear hkn
            go_wp2_with fail
            go_roundg 1
            case rel => exact ⟨.inr (.inl ⟨rfl, rfl, HN.out⟩), HT5, HK5⟩
            case measure => omega
          · have hkf : known t = false := by simpa using hkn
            have R := Lib.hid (HF.out (by unfold vT; rw [hkf]; rfl))
            rw [hkf]
            clear hkn hkf
            go_wp2_with fail
            go_ret
            exact ⟨ret_bool R.out.symm, HK5.out⟩
        · have HT4 := HT3.out
          have HN := Lib.hid hkn
          clear hkn
          go_wp2_with (refine load_has rfl 22 _ rfl _ rfl ?_ 4 ?_ _ Try.underlying22 rfl ?_ ?_; rotate_left; (· (repeat (first | (with_reducible assumption) | ((with_reducible refine Has.box _ _ ?_ ?_) <;> (first | assumption | decide)) | (with_reducible refine Has.alloc ?_ _) | ((with_reducible refine Has.putOther ?_ _ _ ?_); rotate_left; omega; skip) | ((with_reducible refine Has.below ?_ ?_); rotate_left; assumption)))); (· kernel_rfl))
          refine (hasNoGap_any t _ h4).mono ?_
          rintro e w4 ⟨rfl, b4⟩
          have HT5 := Lib.hid (HT4.below b4)
          have HK5 := Lib.hid (HK3.out.call b4)
          clear HT4 b4
          by_cases hkn : noGap t = true
          · rw [hkn]
            have HN2 := Lib.hid (show vT t = true by unfold vT; rw [hkn, HN.out]; rfl)
            clear hkn
            go_wp2_with fail
            go_roundg 0
            case rel => exact ⟨.inr (.inr ⟨rfl, rfl, HN2.out⟩), HT5, HK5⟩
            case measure => omega
          · have hkf : noGap t = false := by simpa using hkn
            have R := Lib.hid (HF.out (by unfold vT; rw [hkf, Bool.and_false]))
            rw [hkf]
            clear hkn hkf
            go_wp2_with fail
            go_ret
            exact ⟨ret_bool R.out.symm, HK5.out⟩
        · have R := Lib.hid (HE.out hvt)
          clear hvt
          go_wp2_with fail
          go_roundg (6 - (p + 1))
          case rel => exact ⟨p + 1, rfl, by omega, by go_num, R, HK3⟩
          case measure => omega
    · have E := Lib.hid (vR_of (ns := ns) fun i hi => HV.out i (by omega))
      go_wp2_with fail
      go_ret
      exact ⟨ret_bool E.out.symm, HK.out⟩
end Go.Proofs.Ytalngdccjoafhab.base
end
