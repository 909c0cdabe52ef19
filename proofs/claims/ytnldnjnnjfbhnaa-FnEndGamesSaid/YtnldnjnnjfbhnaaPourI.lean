/-
  The program's pour, walked.
-/
import Derived.Test.YtnldnjnnjfbhnaaMoveI
import Derived.Test.YtnldnjnnjfbhnaaCanZ
namespace Go.Proofs.Ytnldnjnnjfbhnaa.base
open Go.ChangeShapes Go.WideShapes Go.ChangeAt Go.RowKit
set_option linter.unusedVariables false
set_option linter.unusedSimpArgs false

theorem toA_p {ns : List Int} {p q : Nat} (h : twoOk ns (p : Int) (q : Int) = true) : toA ns (p : Int) (q : Int) (p : Int) = tub ns p ∧ toA ns (p : Int) (q : Int) (q : Int) = tub ns q := by
  unfold toA; rw [if_pos h, if_pos h]; simp

set_option maxHeartbeats 6400000 in
set_option maxRecDepth 100000 in
theorem implPour (ns : List Int) (i j : Int) (w : World) (h24 : ns.length = 24) :
    Calls Try.prog 17 #[row ns, .int .i64 i, .int .i64 j] w fun e w' => e = .returned (.tuple #[.agg (ints (pourR ns i j)).toArray, .int .i64 (pourA ns i j), .bool (pourOk ns i j)]) ∧ Kept w w' := by
  have HB := Lib.hid (((kept_refl w).alloc (.cells (ints ns).toArray 27)).alloc (.cells #[.int .i64 0, .int .i64 0, .int .i64 0, .int .i64 0, .int .i64 0, .int .i64 0, .int .i64 0, .int .i64 0, .int .i64 0, .int .i64 0, .int .i64 0, .int .i64 0, .int .i64 0, .int .i64 0, .int .i64 0, .int .i64 0, .int .i64 0, .int .i64 0, .int .i64 0, .int .i64 0, .int .i64 0, .int .i64 0, .int .i64 0, .int .i64 0] 27))
  have H := (Has.box w 27 h24 (by omega)).alloc (.cells #[.int .i64 0, .int .i64 0, .int .i64 0, .int .i64 0, .int .i64 0, .int .i64 0, .int .i64 0, .int .i64 0, .int .i64 0, .int .i64 0, .int .i64 0, .int .i64 0, .int .i64 0, .int .i64 0, .int .i64 0, .int .i64 0, .int .i64 0, .int .i64 0, .int .i64 0, .int .i64 0, .int .i64 0, .int .i64 0, .int .i64 0, .int .i64 0] 27)
  have Z := (Has.zero24 (w.alloc (.cells (ints ns).toArray 27)) 27).at (size1 _ _)
  have hz : z24.length = 24 := rfl
  rw [row_ints]
  go_enter Try.func17, Try.ntmps17
  go_wp2_with (refine load_has rfl 27 _ rfl _ rfl ?_ 24 ?_ _ Try.underlying27 rfl ?_ ?_; rotate_left; (· (repeat (first | (with_reducible assumption) | ((with_reducible refine Has.box _ _ ?_ ?_) <;> (first | assumption | decide)) | (with_reducible refine Has.alloc ?_ _) | ((with_reducible refine Has.putOther ?_ _ _ ?_); rotate_left; omega; skip) | ((with_reducible refine Has.below ?_ ?_); rotate_left; assumption)))); (· kernel_rfl))
  refine (twoTubes_any ns i j _ h24).mono ?_
  rintro e w1 ⟨rfl, b1⟩
  have sA := toA_len h24 i j i (.inl rfl)
  have sB := toA_len h24 i j j (.inr rfl)
  have K1 := HB.out.call b1
  have hs1 : w.heap.size + 1 < w1.heap.size := (Z.below b1).lt
  obtain ⟨z1, z2, F1, F2, K2⟩ := twoNew w w1 K1 68 (toA ns i j i) (toA ns i j j) sA sB
  have H2 := ((((H.below b1).alloc (.cells #[.int .i64 0, .int .i64 0, .int .i64 0, .int .i64 0] 68)).alloc (.cells #[.int .i64 0, .int .i64 0, .int .i64 0, .int .i64 0] 68)).putOther (b' := w1.heap.size) 0 (ints (toA ns i j i)) (by omega)).putOther (b' := w1.heap.size + 1) 0 (ints (toA ns i j j)) (by omega)
  have Z2 := ((((Z.below b1).alloc (.cells #[.int .i64 0, .int .i64 0, .int .i64 0, .int .i64 0] 68)).alloc (.cells #[.int .i64 0, .int .i64 0, .int .i64 0, .int .i64 0] 68)).putOther (b' := w1.heap.size) 0 (ints (toA ns i j i)) (by omega)).putOther (b' := w1.heap.size + 1) 0 (ints (toA ns i j j)) (by omega)
  clear H Z HB b1 K1
  by_cases hR : twoOk ns i j = true
  · obtain ⟨hv, p, q, rfl, rfl, hp, hq, hne⟩ := twoOk_of hR
    rw [(toA_p hR).1, (toA_p hR).2] at *
    rw [hR]
    have HR := Lib.hid hR
    have vp := vR_tub hv p hp
    have vq := vR_tub hv q hq
    have hpi : (p : Int) < 6 := by omega
    have hp0 : (0 : Int) ≤ (p : Int) := by omega
    have hqi : (q : Int) < 6 := by omega
    have hq0 : (0 : Int) ≤ (q : Int) := by omega
    have HO := Lib.hid (show pourOk ns (p : Int) (q : Int) = decide (0 < canN (tub ns p) (tub ns q)) by unfold pourOk; rw [hR, Bool.true_and]; simp)
    have HV := Lib.hid hv
    have HB2 := Lib.hid K2
    clear hR hv K2
    go_wp2_with (first | (refine store_at rfl 68 _ _ rfl _ _ rfl rfl ?_ 4 ?_ ?_ ?_ ?_; rotate_left; (· (repeat (first | (with_reducible assumption) | ((with_reducible refine Has.box _ _ ?_ ?_) <;> (first | assumption | decide)) | (with_reducible refine Has.alloc ?_ _) | ((with_reducible refine Has.putOther ?_ _ _ ?_); rotate_left; omega; skip) | ((with_reducible refine Has.below ?_ ?_); rotate_left; assumption)))); (· (first | assumption | rfl)); (· kernel_rfl)) | (refine load_has rfl 68 _ rfl _ rfl ?_ 4 ?_ _ Try.underlying68 rfl ?_ ?_; rotate_left; (· (repeat (first | (with_reducible assumption) | ((with_reducible refine Has.box _ _ ?_ ?_) <;> (first | assumption | decide)) | (with_reducible refine Has.alloc ?_ _) | ((with_reducible refine Has.putOther ?_ _ _ ?_); rotate_left; omega; skip) | ((with_reducible refine Has.below ?_ ?_); rotate_left; assumption)))); (· kernel_rfl)))
    refine (pourable_any (tub ns p) (tub ns q) _ sA sB vp vq).mono ?_
    rintro e w2 ⟨rfl, b2⟩
    have F3 := F1.below b2
    have F4 := F2.below b2
    have H3 := H2.below b2
    have Z3 := Z2.below b2
    have HB3 := Lib.hid (HB2.out.call b2)
    clear z1 z2 F1 F2 H2 Z2 HB2 b2
    by_cases hm : canN (tub ns p) (tub ns q) = 0
    · have O := Lib.hid (show pourOk ns (p : Int) (q : Int) = false by rw [HO.out, hm]; rfl)
      rw [hm]
      have S1 := Lib.hid (Z3.putAll z24 rfl)
      have S2 := Lib.hid (HB3.out.puts (b := w.heap.size + 1) (by omega) 0 (ints z24))
      clear hm
      go_wp2_with (first | (refine build_law rfl 27 rfl _ buildRack ?_) | (refine store_at rfl 68 _ _ rfl _ _ rfl rfl ?_ 4 ?_ ?_ ?_ ?_; rotate_left; (· (repeat (first | (with_reducible assumption) | ((with_reducible refine Has.box _ _ ?_ ?_) <;> (first | assumption | decide)) | (with_reducible refine Has.alloc ?_ _) | ((with_reducible refine Has.putOther ?_ _ _ ?_); rotate_left; omega; skip) | ((with_reducible refine Has.below ?_ ?_); rotate_left; assumption)))); (· (first | assumption | rfl)); (· kernel_rfl)) | (refine load_has rfl 68 _ rfl _ rfl ?_ 4 ?_ _ Try.underlying68 rfl ?_ ?_; rotate_left; (· (repeat (first | (with_reducible assumption) | ((with_reducible refine Has.box _ _ ?_ ?_) <;> (first | assumption | decide)) | (with_reducible refine Has.alloc ?_ _) | ((with_reducible refine Has.putOther ?_ _ _ ?_); rotate_left; omega; skip) | ((with_reducible refine Has.below ?_ ?_); rotate_left; assumption)))); (· kernel_rfl)) | (refine store_at rfl 27 _ _ rfl _ _ rfl rfl ?_ 24 ?_ ?_ ?_ ?_; rotate_left; (· (repeat (first | (with_reducible assumption) | ((with_reducible refine Has.box _ _ ?_ ?_) <;> (first | assumption | decide)) | (with_reducible refine Has.alloc ?_ _) | ((with_reducible refine Has.putOther ?_ _ _ ?_); rotate_left; omega; skip) | ((with_reducible refine Has.below ?_ ?_); rotate_left; assumption)))); (· (first | assumption | rfl)); (· kernel_rfl)))
      exact bodyPost_ret (res_has2 rfl _ _ (w.heap.size + 1) z24 24 _ (.int .i64 0) (.bool false) rfl rfl rfl S1.out Try.underlying27 rfl (by kernel_rfl)) rfl ⟨by unfold pourR pourA; rw [O.out]; rfl, S2.out⟩
    · have hpos : 0 < canN (tub ns p) (tub ns q) := by omega
      have O := Lib.hid (show pourOk ns (p : Int) (q : Int) = true by rw [HO.out, decide_eq_true hpos])
      have V := Lib.hid (show pourR ns (p : Int) (q : Int) = pourT ns p q by unfold pourR; rw [if_pos O.out]; simp)
      have VA := Lib.hid (show pourA ns (p : Int) (q : Int) = (canN (tub ns p) (tub ns q) : Nat) by unfold pourA; rw [if_pos O.out]; simp)
      have MO := pour_moveOk h24 HV.out hp hq hne hpos
      have n0 : (((canN (tub ns p) (tub ns q) : Nat) : Int) == 0) = false := by simp; omega
      have hT := MO.len24
      clear hm
      go_wp2_with (refine load_has rfl 27 _ rfl _ rfl ?_ 24 ?_ _ Try.underlying27 rfl ?_ ?_; rotate_left; (· (repeat (first | (with_reducible assumption) | ((with_reducible refine Has.box _ _ ?_ ?_) <;> (first | assumption | decide)) | (with_reducible refine Has.alloc ?_ _) | ((with_reducible refine Has.putOther ?_ _ _ ?_); rotate_left; omega; skip) | ((with_reducible refine Has.below ?_ ?_); rotate_left; assumption)))); (· kernel_rfl))
      refine (move_any ns p q _ _ MO).mono ?_
      rintro e w3 ⟨rfl, b3⟩
      rw [← pourT_move] at hT ⊢
      have Z4 := Z3.below b3
      have S1 := Lib.hid (Z4.putAll (pourT ns p q) hT)
      have S2 := Lib.hid ((HB3.out.call b3).puts (b := w.heap.size + 1) (by omega) 0 (ints (pourT ns p q)))
      clear F3 F4 H3 Z3 HB3 b3 MO
      go_wp2_with (refine store_at rfl 27 _ _ rfl _ _ rfl rfl ?_ 24 ?_ ?_ ?_ ?_; rotate_left; (· (repeat (first | (with_reducible assumption) | ((with_reducible refine Has.box _ _ ?_ ?_) <;> (first | assumption | decide)) | (with_reducible refine Has.alloc ?_ _) | ((with_reducible refine Has.putOther ?_ _ _ ?_); rotate_left; omega; skip) | ((with_reducible refine Has.below ?_ ?_); rotate_left; assumption)))); (· (first | assumption | rfl)); (· kernel_rfl))
      exact bodyPost_ret (res_has2 rfl _ _ (w.heap.size + 1) _ 24 _ (.int .i64 (canN (tub ns p) (tub ns q) : Nat)) (.bool true) rfl rfl rfl S1.out Try.underlying27 rfl (by kernel_rfl)) rfl ⟨by rw [V.out, VA.out, O.out], S2.out⟩
  · have hf : twoOk ns i j = false := by simpa using hR
    have O := Lib.hid (pourOk_not hf)
    rw [hf]
    have S1 := Lib.hid (Z2.putAll z24 rfl)
    have S2 := Lib.hid (K2.puts (b := w.heap.size + 1) (by omega) 0 (ints z24))
    clear hf hR K2 H2
    generalize toA ns i j i = A at *
    generalize toA ns i j j = B at *
    go_wp2_with (first | (refine build_law rfl 27 rfl _ buildRack ?_) | (refine store_at rfl 68 _ _ rfl _ _ rfl rfl ?_ 4 ?_ ?_ ?_ ?_; rotate_left; (· (repeat (first | (with_reducible assumption) | ((with_reducible refine Has.box _ _ ?_ ?_) <;> (first | assumption | decide)) | (with_reducible refine Has.alloc ?_ _) | ((with_reducible refine Has.putOther ?_ _ _ ?_); rotate_left; omega; skip) | ((with_reducible refine Has.below ?_ ?_); rotate_left; assumption)))); (· (first | assumption | rfl)); (· kernel_rfl)) | (refine load_has rfl 68 _ rfl _ rfl ?_ 4 ?_ _ Try.underlying68 rfl ?_ ?_; rotate_left; (· (repeat (first | (with_reducible assumption) | ((with_reducible refine Has.box _ _ ?_ ?_) <;> (first | assumption | decide)) | (with_reducible refine Has.alloc ?_ _) | ((with_reducible refine Has.putOther ?_ _ _ ?_); rotate_left; omega; skip) | ((with_reducible refine Has.below ?_ ?_); rotate_left; assumption)))); (· kernel_rfl)) | (refine store_at rfl 27 _ _ rfl _ _ rfl rfl ?_ 24 ?_ ?_ ?_ ?_; rotate_left; (· (repeat (first | (with_reducible assumption) | ((with_reducible refine Has.box _ _ ?_ ?_) <;> (first | assumption | decide)) | (with_reducible refine Has.alloc ?_ _) | ((with_reducible refine Has.putOther ?_ _ _ ?_); rotate_left; omega; skip) | ((with_reducible refine Has.below ?_ ?_); rotate_left; assumption)))); (· (first | assumption | rfl)); (· kernel_rfl)))
    exact bodyPost_ret (res_has2 rfl _ _ (w.heap.size + 1) z24 24 _ (.int .i64 0) (.bool false) rfl rfl rfl S1.out Try.underlying27 rfl (by kernel_rfl)) rfl ⟨by unfold pourR pourA; rw [O.out]; rfl, S2.out⟩
end Go.Proofs.Ytnldnjnnjfbhnaa.base
