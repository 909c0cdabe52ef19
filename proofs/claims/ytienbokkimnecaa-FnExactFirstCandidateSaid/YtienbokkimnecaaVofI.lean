/-
  The view of a rack, on the program's side and at the model's door, walked.
-/
import Derived.Test.YtienbokkimnecaaVofW
import Derived.Test.YtienbokkimnecaaVwS
namespace Go.Proofs.Ytienbokkimnecaa.base
open Go.ChangeShapes Go.WideShapes Go.ChangeAt Go.RowKit
set_option linter.unusedVariables false
set_option linter.unusedSimpArgs false

theorem specViewOf (ns : List Int) (w : World) (h24 : ns.length = 24) :
    Calls Try.prog 10 #[row ns] w fun e w' => e = .returned (.tuple #[.agg (ints (viewA ns)).toArray, .bool (vR ns)]) ∧ Kept w w' := by
  have H := (Has.box w 31 h24 (by omega)).alloc (.cells (ints z18).toArray 28)
  have Z := (Has.box (w.alloc (.cells (ints ns).toArray 31)) 28 (ns := z18) (n := 18) rfl (by decide)).at (size1 _ _)
  have HB := Lib.hid (((kept_refl w).alloc (.cells (ints ns).toArray 31)).alloc (.cells (ints z18).toArray 28))
  rw [row_ints]
  go_enter Try.func10, Try.ntmps10
  go_wp2_with (refine load_has rfl 31 _ rfl _ rfl ?_ 24 ?_ _ Try.underlying31 rfl ?_ ?_; rotate_left; (· (repeat (first | (with_reducible assumption) | ((with_reducible refine Has.box _ _ ?_ ?_) <;> (first | assumption | decide)) | (with_reducible refine Has.alloc ?_ _) | ((with_reducible refine Has.putOther ?_ _ _ ?_); rotate_left; omega; skip) | ((with_reducible refine Has.below ?_ ?_); rotate_left; assumption)))); (· kernel_rfl))
  refine (l2Rack_any ns _ h24).mono ?_
  rintro e w1 ⟨rfl, b1⟩
  have H1 := H.below b1
  have Z1 := Z.below b1
  have HB1 := Lib.hid (HB.out.call b1)
  clear H Z HB b1
  by_cases hv : vR ns = true
  · rw [hv]
    have EA := Lib.hid (show viewA ns = vwR ns by unfold viewA; rw [if_pos hv])
    have HV := Lib.hid hv
    have hl := vwR_len ns
    clear hv
    go_wp2_with (refine load_has rfl 31 _ rfl _ rfl ?_ 24 ?_ _ Try.underlying31 rfl ?_ ?_; rotate_left; (· (repeat (first | (with_reducible assumption) | ((with_reducible refine Has.box _ _ ?_ ?_) <;> (first | assumption | decide)) | (with_reducible refine Has.alloc ?_ _) | ((with_reducible refine Has.putOther ?_ _ _ ?_); rotate_left; omega; skip) | ((with_reducible refine Has.below ?_ ?_); rotate_left; assumption)))); (· kernel_rfl))
    refine (l7View_any ns _ h24 HV.out).mono ?_
    rintro e w3 ⟨rfl, b3⟩
    have Z3 := Z1.below b3
    have S1 := Lib.hid (Z3.putAll (vwR ns) hl)
    have S2 := Lib.hid ((HB1.out.call b3).puts (b := w.heap.size + 1) (by omega) 0 (ints (vwR ns)))
    clear H1 HB1 b3 Z1
    go_wp2_with (refine store_at rfl 28 _ _ rfl _ _ rfl rfl ?_ 18 ?_ ?_ ?_ ?_; rotate_left; (· (repeat (first | (with_reducible assumption) | ((with_reducible refine Has.box _ _ ?_ ?_) <;> (first | assumption | decide)) | (with_reducible refine Has.alloc ?_ _) | ((with_reducible refine Has.putOther ?_ _ _ ?_); rotate_left; omega; skip) | ((with_reducible refine Has.below ?_ ?_); rotate_left; assumption)))); (· (first | assumption | rfl)); (· kernel_rfl))
    exact bodyPost_ret (res_has1 rfl _ _ (w.heap.size + 1) (vwR ns) 18 _ (.bool true) rfl rfl S1.out Try.underlying28 rfl (by kernel_rfl)) rfl ⟨by rw [EA.out, HV.out], S2.out⟩
  · have hf : vR ns = false := by simpa using hv
    have EA := Lib.hid (show viewA ns = z18 by unfold viewA; rw [if_neg hv])
    have HV := Lib.hid hf
    rw [hf]
    clear hf hv
    have hz : z18.length = 18 := rfl
    have S1 := Lib.hid (Z1.putAll z18 rfl)
    have S2 := Lib.hid (HB1.out.puts (b := w.heap.size + 1) (by omega) 0 (ints z18))
    go_wp2_with (first | (refine build_law rfl 28 rfl _ buildView ?_) | (refine store_at rfl 28 _ _ rfl _ _ rfl rfl ?_ 18 ?_ ?_ ?_ ?_; rotate_left; (· (repeat (first | (with_reducible assumption) | ((with_reducible refine Has.box _ _ ?_ ?_) <;> (first | assumption | decide)) | (with_reducible refine Has.alloc ?_ _) | ((with_reducible refine Has.putOther ?_ _ _ ?_); rotate_left; omega; skip) | ((with_reducible refine Has.below ?_ ?_); rotate_left; assumption)))); (· (first | assumption | rfl)); (· kernel_rfl)))
    exact bodyPost_ret (res_has1 rfl _ _ (w.heap.size + 1) z18 18 _ (.bool false) rfl rfl S1.out Try.underlying28 rfl (by kernel_rfl)) rfl ⟨by rw [EA.out, HV.out], S2.out⟩

set_option maxHeartbeats 800000 in
set_option maxRecDepth 100000 in
theorem implViewOf (ns : List Int) (w : World) (h24 : ns.length = 24) :
    Calls Try.prog 12 #[row ns] w fun e w' => e = .returned (.tuple #[.agg (ints (viewA ns)).toArray, .bool (vR ns)]) ∧ Kept w w' := by
  have H := (Has.box w 31 h24 (by omega)).alloc (.cells (ints z18).toArray 28)
  have Z := (Has.box (w.alloc (.cells (ints ns).toArray 31)) 28 (ns := z18) (n := 18) rfl (by decide)).at (size1 _ _)
  have HB := Lib.hid (((kept_refl w).alloc (.cells (ints ns).toArray 31)).alloc (.cells (ints z18).toArray 28))
  rw [row_ints]
  go_enter Try.func12, Try.ntmps12
  go_wp2_with (refine load_has rfl 31 _ rfl _ rfl ?_ 24 ?_ _ Try.underlying31 rfl ?_ ?_; rotate_left; (· (repeat (first | (with_reducible assumption) | ((with_reducible refine Has.box _ _ ?_ ?_) <;> (first | assumption | decide)) | (with_reducible refine Has.alloc ?_ _) | ((with_reducible refine Has.putOther ?_ _ _ ?_); rotate_left; omega; skip) | ((with_reducible refine Has.below ?_ ?_); rotate_left; assumption)))); (· kernel_rfl))
  refine (implCount ns _ h24).mono ?_
  rintro e w1 ⟨rfl, b1⟩
  have hl := countA_len ns
  have H1 := (H.below b1).alloc (.cells (ints (countA ns)).toArray 26)
  have Z1 := (Z.below b1).alloc (.cells (ints (countA ns)).toArray 26)
  have Y1 := Has.box w1 26 hl (by omega)
  have HB1 := Lib.hid ((HB.out.call b1).alloc (.cells (ints (countA ns)).toArray 26))
  have hne : w.heap.size + 1 < w1.heap.size := by have := (Z.below b1).lt; omega
  clear H Z HB b1
  go_upto_region 2 with (refine store_new rfl 26 _ _ rfl _ _ _ rfl _ rfl _ rfl rfl ?_ ?_ ?_; (· (first | assumption | rfl)); (· kernel_rfl))
  generalize w1.alloc (.cells (ints (countA ns)).toArray 26) = W1 at *
  generalize w1.heap.size = b at *
  by_cases hv : vR ns = true
  rotate_left
  · have hf : vR ns = false := by simpa using hv
    have EA := Lib.hid (show viewA ns = z18 by unfold viewA; rw [if_neg hv])
    have HV := Lib.hid hf
    rw [hf]
    clear hf hv
    have hz : z18.length = 18 := rfl
    have S1 := Lib.hid (Z1.putAll z18 rfl)
    have S2 := Lib.hid (HB1.out.puts (b := w.heap.size + 1) (by omega) 0 (ints z18))
    go_wp2_with (first | (refine build_law rfl 28 rfl _ buildView ?_) | (refine store_at rfl 28 _ _ rfl _ _ rfl rfl ?_ 18 ?_ ?_ ?_ ?_; rotate_left; (· (repeat (first | (with_reducible assumption) | ((with_reducible refine Has.box _ _ ?_ ?_) <;> (first | assumption | decide)) | (with_reducible refine Has.alloc ?_ _) | ((with_reducible refine Has.putOther ?_ _ _ ?_); rotate_left; omega; skip) | ((with_reducible refine Has.below ?_ ?_); rotate_left; assumption)))); (· (first | assumption | rfl)); (· kernel_rfl)))
    exact bodyPost_ret (res_has1 rfl _ _ (w.heap.size + 1) z18 18 _ (.bool false) rfl rfl S1.out Try.underlying28 rfl (by kernel_rfl)) rfl ⟨by rw [EA.out, HV.out], S2.out⟩
  have EC : countA ns = cntUp ns 24 := by unfold countA; rw [if_pos hv]
  have EA := Lib.hid (show viewA ns = vwR ns by unfold viewA; rw [if_pos hv])
  rw [hv]
  rw [EC] at Y1 hl
  have c0 := Y1.cell 0 (by omega)
  have f0 := Y1.free 0 (by omega)
  have Y2 := (Y1.set 0 0 (by omega)).asV (show (cntUp ns 24).set 0 0 = cnt0 ns from rfl)
  have H2 := H1.setOther (b' := b) 0 (.int .i64 0) (by omega)
  have Z2 := Z1.setOther (b' := b) 0 (.int .i64 0) (by omega)
  have HB2 := Lib.hid (HB1.out.set (b := b) (by omega) 0 (.int .i64 0))
  have HV := Lib.hid hv
  have HL := Lib.hid h24
  have l0 := cnt0_len ns
  have gt := Lib.hid (fun k hk w => indexTub ns k hk w)
  have hb := buildCounts (cnt0 ns) l0
  have h18 := z12_len (cnt0 ns) l0
  clear Y1 H1 Z1 HB1 hl EC hv h24
  generalize (cntUp ns 24).getD 0 0 = x at *
  generalize countA ns = ca at *
  go_upto_region 5 with fail
  clear c0 f0
  generalize W1.setCell ⟨b, 0, none⟩ (.int .i64 0) = W2 at *
  have H3 := H2.alloc (.cells (ints (z12 ++ cnt0 ns)).toArray 28)
  have Z3 := Z2.alloc (.cells (ints (z12 ++ cnt0 ns)).toArray 28)
  have Y3 := (Has.box W2 28 h18 (by omega)).asV (vwUp_start ns)
  have HB3 := Lib.hid (HB2.out.alloc (.cells (ints (z12 ++ cnt0 ns)).toArray 28))
  have hne2 : w.heap.size + 1 < W2.heap.size := Z2.lt
  go_upto_region 7 with (first | (refine load_has rfl 26 _ rfl _ rfl ?_ 6 ?_ _ Try.underlying26 rfl ?_ ?_; rotate_left; (· (repeat (first | (with_reducible assumption) | ((with_reducible refine Has.box _ _ ?_ ?_) <;> (first | assumption | decide)) | (with_reducible refine Has.alloc ?_ _) | ((with_reducible refine Has.putOther ?_ _ _ ?_); rotate_left; omega; skip) | ((with_reducible refine Has.below ?_ ?_); rotate_left; assumption)))); (· kernel_rfl)) | (refine build_at rfl 28 2 _ rfl (.agg (ints (cnt0 ns)).toArray) (.agg (ints (z12 ++ cnt0 ns)).toArray) rfl hb ?_) | (refine store_new rfl 28 _ _ rfl _ _ _ rfl _ rfl _ rfl rfl ?_ ?_ ?_; (· (first | assumption | rfl)); (· kernel_rfl)) | (refine load_has rfl 23 _ rfl _ rfl ?_ 24 ?_ _ Try.underlying23 rfl ?_ ?_; rotate_left; (· (repeat (first | (with_reducible assumption) | ((with_reducible refine Has.box _ _ ?_ ?_) <;> (first | assumption | decide)) | (with_reducible refine Has.alloc ?_ _) | ((with_reducible refine Has.putOther ?_ _ _ ?_); rotate_left; omega; skip) | ((with_reducible refine Has.below ?_ ?_); rotate_left; assumption)))); (· kernel_rfl)))
  clear H2 Z2 HB2 Y2 hb h18 H3
  generalize W2.alloc (.cells (ints (z12 ++ cnt0 ns)).toArray 28) = W3 at *
  generalize W2.heap.size = c at *
  go_loopg [22] 6 (fun gk i wr => ∃ k : Nat, gk = 6 - k ∧ k ≤ 6 ∧ i = .int .i64 k ∧ Has wr (w.heap.size + 1) z18 18 ∧ Has wr c (vwUp ns k k) 18 ∧ Hid (Kept w wr))
  case atStart => exact ⟨0, rfl, by omega, rfl, Z3, Y3, HB3⟩
  case round =>
    obtain ⟨k, rfl, hk, rfl, GZ, GY, GB⟩ := hrel
    by_cases hlt : k < 6
    · have hki : (k : Int) < 6 := by omega
      have h4 := tub_len ns k HL.out hlt
      have hvt := vR_tub HV.out k hlt
      have g0 := gt.out k hlt
      have VT := Lib.hid (vwUp_top ns k k hlt)
      have VM := Lib.hid (vwUp_many ns (k + 1) k hlt)
      generalize tub ns k = t at *
      have GZ2 := GZ.alloc (.cells (ints t).toArray 22)
      have GY2 := GY.alloc (.cells (ints t).toArray 22)
      have GT2 := Has.box wr 22 h4 (by omega)
      have GB2 := Lib.hid (GB.out.alloc (.cells (ints t).toArray 22))
      have hcw : c < wr.heap.size := GY.lt
      have hbw := GB.out.size
      go_wp2_with (first | (refine store_new rfl 22 _ _ rfl _ _ _ rfl _ rfl _ rfl rfl ?_ ?_ ?_; (· (first | assumption | rfl)); (· kernel_rfl)) | (refine load_has rfl 22 _ rfl _ rfl ?_ 4 ?_ _ Try.underlying22 rfl ?_ ?_; rotate_left; (· (repeat (first | (with_reducible assumption) | ((with_reducible refine Has.box _ _ ?_ ?_) <;> (first | assumption | decide)) | (with_reducible refine Has.alloc ?_ _) | ((with_reducible refine Has.putOther ?_ _ _ ?_); rotate_left; omega; skip) | ((with_reducible refine Has.below ?_ ?_); rotate_left; assumption)))); (· kernel_rfl)))
      clear g0 GZ GY GB
      generalize wr.alloc (.cells (ints t).toArray 22) = wt at *
      generalize wr.heap.size = d at *
      refine (top_any t _ h4 hvt).mono ?_
      rintro e w3 ⟨rfl, b3⟩
      have GZ3 := GZ2.below b3
      have GY3 := GY2.below b3
      have GT3 := GT2.below b3
      have GB3 := Lib.hid (GB2.out.call b3)
      have c1 := GY3.cell k (by omega)
      have f1 := GY3.free k (by omega)
      have GY4 := (GY3.set k (topC t) (by omega)).asV VT.out
      have GT4 := GT3.setOther (b' := c) k (.int .i64 (topC t)) (by omega)
      have GZ4 := GZ3.setOther (b' := c) k (.int .i64 (topC t)) (by omega)
      have GB4 := Lib.hid (GB3.out.set (b := c) (by omega) k (.int .i64 (topC t)))
      clear GT2 GZ2 GY2 GB2 b3 GT3 GZ3 GY3 GB3
      generalize (vwUp ns k k).getD k 0 = x1 at *
      go_wp2_with (refine load_has rfl 22 _ rfl _ rfl ?_ 4 ?_ _ Try.underlying22 rfl ?_ ?_; rotate_left; (· (repeat (first | (with_reducible assumption) | ((with_reducible refine Has.box _ _ ?_ ?_) <;> (first | assumption | decide)) | (with_reducible refine Has.alloc ?_ _) | ((with_reducible refine Has.putOther ?_ _ _ ?_); rotate_left; omega; skip) | ((with_reducible refine Has.below ?_ ?_); rotate_left; assumption)))); (· kernel_rfl))
      refine (layers_any t _ h4 hvt).mono ?_
      rintro e w5 ⟨rfl, b5⟩
      have GZ5 := GZ4.below b5
      have GY5 := GY4.below b5
      have GB5 := Lib.hid (GB4.out.call b5)
      have c2 := GY5.cell (6 + k) (by omega)
      have f2 := GY5.free (6 + k) (by omega)
      have GY6 := Lib.hid ((GY5.set (6 + k) (lay t : Nat) (by omega)).asV VM.out)
      have GZ6 := Lib.hid (GZ5.setOther (b' := c) (6 + k) (.int .i64 (lay t : Nat)) (by omega))
      have GB6 := Lib.hid (GB5.out.set (b := c) (by omega) (6 + k) (.int .i64 (lay t : Nat)))
      clear GT4 GZ4 GY4 GB4 b5 GZ5 GY5 GB5 c1 f1
      generalize (vwUp ns (k + 1) k).getD (6 + k) 0 = x2 at *
      go_wp2_with fail
      go_roundg (6 - (k + 1))
      case rel => exact ⟨k + 1, rfl, by omega, by go_num, GZ6.out, GY6.out, GB6⟩
      case measure => omega
    · obtain rfl : k = 6 := by omega
      have hl := vwR_len ns
      have S1 := Lib.hid (GZ.putAll (vwR ns) hl)
      have S2 := Lib.hid (GB.out.puts (b := w.heap.size + 1) (by omega) 0 (ints (vwR ns)))
      have er : vwUp ns 6 6 = vwR ns := rfl
      rw [er] at GY
      clear er
      go_wp2_with (first | (refine load_has rfl 28 _ rfl _ rfl ?_ 18 ?_ _ Try.underlying28 rfl ?_ ?_; rotate_left; (· (repeat (first | (with_reducible assumption) | ((with_reducible refine Has.box _ _ ?_ ?_) <;> (first | assumption | decide)) | (with_reducible refine Has.alloc ?_ _) | ((with_reducible refine Has.putOther ?_ _ _ ?_); rotate_left; omega; skip) | ((with_reducible refine Has.below ?_ ?_); rotate_left; assumption)))); (· kernel_rfl)) | (refine store_at rfl 28 _ _ rfl _ _ rfl rfl ?_ 18 ?_ ?_ ?_ ?_; rotate_left; (· (repeat (first | (with_reducible assumption) | ((with_reducible refine Has.box _ _ ?_ ?_) <;> (first | assumption | decide)) | (with_reducible refine Has.alloc ?_ _) | ((with_reducible refine Has.putOther ?_ _ _ ?_); rotate_left; omega; skip) | ((with_reducible refine Has.below ?_ ?_); rotate_left; assumption)))); (· (first | assumption | rfl)); (· kernel_rfl)))
      exact bodyPost_ret (res_has1 rfl _ _ (w.heap.size + 1) (vwR ns) 18 _ (.bool true) rfl rfl S1.out Try.underlying28 rfl (by kernel_rfl)) rfl ⟨by rw [EA.out, HV.out], S2.out⟩

set_option maxHeartbeats 400000 in
theorem lawViewOf (vs : List Int) (w : World) (h0 : vs.length = 24 ∧ ∀ n ∈ vs, (Lit.int .i64 n).wf = true) :
    Calls Try.prog 3 #[row vs] w fun e w' => e = .returned (.bool true) ∧ Kept w w' := by
  obtain ⟨h, hw⟩ := h0
  have hl : (viewA vs).length = 18 := viewA_len vs
  have HB := Lib.hid ((kept_refl w).alloc (.cells (ints vs).toArray 25))
  have H := Has.box w 25 h (by omega)
  have KS := Lib.hid (fun _W => specViewOf vs _W h)
  have KI := Lib.hid (fun _W => implViewOf vs _W h)
  clear hw
  rw [row_ints]
  go_enter Try.func3, Try.ntmps3
  go_wp2_with (refine load_has rfl 25 _ rfl _ rfl ?_ 24 ?_ _ Try.underlying25 rfl ?_ ?_; rotate_left; (· (repeat (first | (with_reducible assumption) | ((with_reducible refine Has.box _ _ ?_ ?_) <;> (first | assumption | decide)) | (with_reducible refine Has.alloc ?_ _) | ((with_reducible refine Has.putOther ?_ _ _ ?_); rotate_left; omega; skip) | ((with_reducible refine Has.below ?_ ?_); rotate_left; assumption)))); (· kernel_rfl))
  refine (toRack_any vs _ h).mono ?_
  rintro e w1 ⟨rfl, b1⟩
  have H1 := H.below b1
  have HB1 := Lib.hid (HB.out.call b1)
  clear H HB b1
  go_wp2_with fail
  refine (KS.out _).mono ?_
  rintro e w2 ⟨rfl, b2⟩
  have H2 := (H1.below b2).alloc (.cells (ints (viewA vs)).toArray 28)
  have R2 := Has.box w2 28 hl (by omega)
  have HB2 := Lib.hid ((HB1.out.call b2).alloc (.cells (ints (viewA vs)).toArray 28))
  clear H1 HB1 b2
  go_wp2_with (first | (refine store_new rfl 28 _ _ rfl _ _ _ rfl _ rfl _ rfl rfl ?_ ?_ ?_; (· (first | assumption | rfl)); (· kernel_rfl)) | (refine load_has rfl 25 _ rfl _ rfl ?_ 24 ?_ _ Try.underlying25 rfl ?_ ?_; rotate_left; (· (repeat (first | (with_reducible assumption) | ((with_reducible refine Has.box _ _ ?_ ?_) <;> (first | assumption | decide)) | (with_reducible refine Has.alloc ?_ _) | ((with_reducible refine Has.putOther ?_ _ _ ?_); rotate_left; omega; skip) | ((with_reducible refine Has.below ?_ ?_); rotate_left; assumption)))); (· kernel_rfl)))
  refine (toRack_any vs _ h).mono ?_
  rintro e w3 ⟨rfl, b3⟩
  have R3 := R2.below b3
  have HB3 := Lib.hid (HB2.out.call b3)
  clear H2 R2 HB2 b3
  go_wp2_with fail
  refine (KI.out _).mono ?_
  rintro e w4 ⟨rfl, b4⟩
  have R4 := (R3.below b4).alloc (.cells (ints (viewA vs)).toArray 28)
  have Q4 := Has.box w4 28 hl (by omega)
  have HB4 := Lib.hid ((HB3.out.call b4).alloc (.cells (ints (viewA vs)).toArray 28))
  clear R3 HB3 b4
  go_wp2_with (first | (refine store_new rfl 28 _ _ rfl _ _ _ rfl _ rfl _ rfl rfl ?_ ?_ ?_; (· (first | assumption | rfl)); (· kernel_rfl)) | (refine load_has rfl 28 _ rfl _ rfl ?_ 18 ?_ _ Try.underlying28 rfl ?_ ?_; rotate_left; (· (repeat (first | (with_reducible assumption) | ((with_reducible refine Has.box _ _ ?_ ?_) <;> (first | assumption | decide)) | (with_reducible refine Has.alloc ?_ _) | ((with_reducible refine Has.putOther ?_ _ _ ?_); rotate_left; omega; skip) | ((with_reducible refine Has.below ?_ ?_); rotate_left; assumption)))); (· kernel_rfl)))
  refine (eqView_same (viewA vs) _ hl).mono ?_
  rintro e w5 ⟨rfl, b5⟩
  have HB5 := Lib.hid (HB4.out.call b5)
  clear R4 Q4 HB4 b5
  go_wp2_with fail
  go_ret
  exact ⟨rfl, HB5.out⟩
end Go.Proofs.Ytienbokkimnecaa.base
