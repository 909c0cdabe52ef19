/-
  How many pours each rule has, on both sides, walked.
-/
import Derived.Test.YtcedpjjfcfeokaaOthW
namespace Go.Proofs.Ytcedpjjfcfeokaa.base
open Go.ChangeShapes Go.WideShapes Go.ChangeAt Go.RowKit
set_option linter.unusedVariables false
set_option linter.unusedSimpArgs false

set_option maxHeartbeats 3200000 in
set_option maxRecDepth 100000 in
theorem implCr (ns ds : List Int) (w : World) (h24 : ns.length = 24) (h6 : ds.length = 6) :
    Calls Try.prog 29 #[row ns, row ds] w fun e w' => e = .returned (.tuple #[.agg (ints (crA ns ds)).toArray, .bool (fitA ns ds)]) ∧ Kept w w' := by
  have HB := Lib.hid (((((kept_refl w).alloc (.cells (ints ns).toArray 31)).alloc (.cells (ints ds).toArray 22)).alloc (.cells #[.int .i64 0, .int .i64 0, .int .i64 0, .int .i64 0, .int .i64 0] 49)).alloc (.cells #[.int .i64 0, .int .i64 0, .int .i64 0, .int .i64 0, .int .i64 0] 49))
  have H := (((Has.box w 31 h24 (by omega)).alloc (.cells (ints ds).toArray 22)).alloc (.cells #[.int .i64 0, .int .i64 0, .int .i64 0, .int .i64 0, .int .i64 0] 49)).alloc (.cells #[.int .i64 0, .int .i64 0, .int .i64 0, .int .i64 0, .int .i64 0] 49)
  have D := (((Has.box (w.alloc (.cells (ints ns).toArray 31)) 22 h6 (by omega)).at (size1 _ _)).alloc (.cells #[.int .i64 0, .int .i64 0, .int .i64 0, .int .i64 0, .int .i64 0] 49)).alloc (.cells #[.int .i64 0, .int .i64 0, .int .i64 0, .int .i64 0, .int .i64 0] 49)
  have Z := ((Has.zero5 ((w.alloc (.cells (ints ns).toArray 31)).alloc (.cells (ints ds).toArray 22)) 49).at (c := w.heap.size + 1 + 1) (by simp)).alloc (.cells #[.int .i64 0, .int .i64 0, .int .i64 0, .int .i64 0, .int .i64 0] 49)
  have C := ((Has.zero5 (((w.alloc (.cells (ints ns).toArray 31)).alloc (.cells (ints ds).toArray 22)).alloc (.cells #[.int .i64 0, .int .i64 0, .int .i64 0, .int .i64 0, .int .i64 0] 49)) 49).at (c := w.heap.size + 1 + 1 + 1) (by simp))
  rw [← crL_1 ns ds] at C
  rw [row_ints, row_ints]
  go_enter Try.func29, Try.ntmps29
  go_wp2_with fail
  have H24 := Lib.hid h24
  have H6 := Lib.hid h6
  clear h24 h6
  generalize ((((w.alloc (.cells (ints ns).toArray 31)).alloc (.cells (ints ds).toArray 22)).alloc (.cells #[.int .i64 0, .int .i64 0, .int .i64 0, .int .i64 0, .int .i64 0] 49)).alloc (.cells #[.int .i64 0, .int .i64 0, .int .i64 0, .int .i64 0, .int .i64 0] 49)) = W at *
  go_loopw [7] (fun i wr => ∃ k : Nat, 1 ≤ k ∧ k ≤ 5 ∧ i = .int .i64 k ∧ Has wr w.heap.size ns 24 ∧ Has wr (w.heap.size + 1) ds 6 ∧ Has wr (w.heap.size + 1 + 1) [0, 0, 0, 0, 0] 5 ∧ Has wr (w.heap.size + 1 + 1 + 1) (crL ns ds k) 5 ∧ Hid (1 < k → fitA ns ds = true) ∧ Hid (Kept w wr)) (fun i _ => 5 - (intOf i).toNat)
  case atStart => exact ⟨1, by omega, by omega, rfl, H, D, Z, C, Lib.hid (fun h => by omega), HB⟩
  case round =>
    obtain ⟨k, hk1, hk, rfl, GH, GD, GZ, GC, GF, GB⟩ := hrel
    clear H D Z C HB
    by_cases h : k < 5
    · have hki : (k : Int) ≤ 4 := by omega
      have hki2 : (k : Int) < 5 := by omega
      have hk0 : (0 : Int) ≤ (k : Int) := by omega
      go_wp2_with (first | (refine load_has rfl 31 _ rfl _ rfl ?_ 24 ?_ _ Try.underlying31 rfl ?_ ?_; rotate_left; (· (repeat (first | (with_reducible assumption) | ((with_reducible refine Has.box _ _ ?_ ?_) <;> (first | assumption | decide)) | (with_reducible refine Has.alloc ?_ _) | ((with_reducible refine Has.putOther ?_ _ _ ?_); rotate_left; omega; skip) | ((with_reducible refine Has.below ?_ ?_); rotate_left; assumption)))); (· kernel_rfl)) | (refine load_has rfl 22 _ rfl _ rfl ?_ 6 ?_ _ Try.underlying22 rfl ?_ ?_; rotate_left; (· (repeat (first | (with_reducible assumption) | ((with_reducible refine Has.box _ _ ?_ ?_) <;> (first | assumption | decide)) | (with_reducible refine Has.alloc ?_ _) | ((with_reducible refine Has.putOther ?_ _ _ ?_); rotate_left; omega; skip) | ((with_reducible refine Has.below ?_ ?_); rotate_left; assumption)))); (· kernel_rfl)))
      refine (implPoursBy ns ds (k : Int) _ H24.out H6.out).mono ?_
      rintro e w1 ⟨v, rfl, q1, b1⟩
      have SH := q1.shape
      replace GH := GH.below b1
      replace GD := GD.below b1
      replace GZ := GZ.below b1
      replace GC := GC.below b1
      replace GB := Lib.hid (GB.out.call b1)
      clear b1 q1
      obtain ⟨a, cap, rfl⟩ := SH
      rw [byOk_in hk1 h]
      have hN := byNA_le ns ds (k : Int)
      have ES := Lib.hid (crL_set ns ds k hk1 h)
      obtain ⟨n, hn⟩ : ∃ n : Nat, byNA ns ds (k : Int) = n := ⟨_, rfl⟩
      rw [hn] at hN ES ⊢
      clear hn
      by_cases hf : fitA ns ds = true
      · rw [hf]
        have c1 := GC.cell k h
        have f1 := GC.free k h
        have S0 := GC.set k (n : Int) h
        rw [ES.out] at S0
        have S1 := Lib.hid S0
        have S2 := Lib.hid (GH.setOther (b' := w.heap.size + 1 + 1 + 1) k (.int .i64 (n : Int)) (by omega))
        have S3 := Lib.hid (GD.setOther (b' := w.heap.size + 1 + 1 + 1) k (.int .i64 (n : Int)) (by omega))
        have S4 := Lib.hid (GZ.setOther (b' := w.heap.size + 1 + 1 + 1) k (.int .i64 (n : Int)) (by omega))
        have S5 := Lib.hid (GB.out.set (b := w.heap.size + 1 + 1 + 1) (by omega) k (.int .i64 (n : Int)))
        have GF2 : Hid (1 < k + 1 → fitA ns ds = true) := Lib.hid (fun _ => hf)
        clear S0 GC GH GD GZ GB ES hf GF
        generalize (crL ns ds k).getD k 0 = y at *
        go_wp2_with fail
        go_roundw
        case rel => exact ⟨k + 1, by omega, by omega, by go_num, S2.out, S3.out, S4.out, S1.out, GF2, S5⟩
        case measure => simp [intOf]; omega
      · have hff : fitA ns ds = false := by simpa using hf
        have E := Lib.hid (show crA ns ds = [0, 0, 0, 0, 0] by unfold crA; rw [hff]; rfl)
        have FF := Lib.hid hff
        rw [hff]
        clear hf hff GF
        have S1 := Lib.hid (GZ.putAll [0, 0, 0, 0, 0] rfl)
        have S2 := Lib.hid (GB.out.puts (b := w.heap.size + 1 + 1) (by omega) 0 (ints [0, 0, 0, 0, 0]))
        have hz : ([0, 0, 0, 0, 0] : List Int).length = 5 := rfl
        go_wp2_with (first | (refine build_law rfl 49 rfl _ buildFive ?_) | (refine store_at rfl 49 _ _ rfl _ _ rfl rfl ?_ 5 ?_ ?_ ?_ ?_; rotate_left; (· (repeat (first | (with_reducible assumption) | ((with_reducible refine Has.box _ _ ?_ ?_) <;> (first | assumption | decide)) | (with_reducible refine Has.alloc ?_ _) | ((with_reducible refine Has.putOther ?_ _ _ ?_); rotate_left; omega; skip) | ((with_reducible refine Has.below ?_ ?_); rotate_left; assumption)))); (· (first | assumption | rfl)); (· kernel_rfl)))
        exact bodyPost_ret (res_has1 rfl _ _ (w.heap.size + 1 + 1) [0, 0, 0, 0, 0] 5 _ (.bool false) rfl rfl S1.out Try.underlying49 rfl (by kernel_rfl)) rfl ⟨by rw [E.out, FF.out], S2.out⟩
    · obtain rfl : k = 5 := by omega
      have hf := GF.out (by omega)
      have E := Lib.hid (show crA ns ds = crL ns ds 5 by unfold crA; rw [if_pos hf])
      have FF := Lib.hid hf
      have hl := crL_len ns ds 5
      have S1 := Lib.hid (GZ.putAll (crL ns ds 5) hl)
      have S2 := Lib.hid (GB.out.puts (b := w.heap.size + 1 + 1) (by omega) 0 (ints (crL ns ds 5)))
      clear hf GF
      generalize crL ns ds 5 = L at *
      go_wp2_with (first | (refine load_has rfl 49 _ rfl _ rfl ?_ 5 ?_ _ Try.underlying49 rfl ?_ ?_; rotate_left; (· (repeat (first | (with_reducible assumption) | ((with_reducible refine Has.box _ _ ?_ ?_) <;> (first | assumption | decide)) | (with_reducible refine Has.alloc ?_ _) | ((with_reducible refine Has.putOther ?_ _ _ ?_); rotate_left; omega; skip) | ((with_reducible refine Has.below ?_ ?_); rotate_left; assumption)))); (· kernel_rfl)) | (refine store_at rfl 49 _ _ rfl _ _ rfl rfl ?_ 5 ?_ ?_ ?_ ?_; rotate_left; (· (repeat (first | (with_reducible assumption) | ((with_reducible refine Has.box _ _ ?_ ?_) <;> (first | assumption | decide)) | (with_reducible refine Has.alloc ?_ _) | ((with_reducible refine Has.putOther ?_ _ _ ?_); rotate_left; omega; skip) | ((with_reducible refine Has.below ?_ ?_); rotate_left; assumption)))); (· (first | assumption | rfl)); (· kernel_rfl)))
      exact bodyPost_ret (res_has1 rfl _ _ (w.heap.size + 1 + 1) L 5 _ (.bool true) rfl rfl S1.out Try.underlying49 rfl (by kernel_rfl)) rfl ⟨by rw [E.out, FF.out], S2.out⟩

set_option maxHeartbeats 3200000 in
set_option maxRecDepth 100000 in
theorem specCr (ns ds : List Int) (w : World) (h24 : ns.length = 24) (h6 : ds.length = 6) :
    Calls Try.prog 28 #[row ns, row ds] w fun e w' => e = .returned (.tuple #[.agg (ints (crA ns ds)).toArray, .bool (fitA ns ds)]) ∧ Kept w w' := by
  have HB := Lib.hid (((((kept_refl w).alloc (.cells (ints ns).toArray 31)).alloc (.cells (ints ds).toArray 22)).alloc (.cells #[.int .i64 0, .int .i64 0, .int .i64 0, .int .i64 0, .int .i64 0] 49)).alloc (.cells #[.int .i64 0, .int .i64 0, .int .i64 0, .int .i64 0, .int .i64 0] 49))
  have H := (((Has.box w 31 h24 (by omega)).alloc (.cells (ints ds).toArray 22)).alloc (.cells #[.int .i64 0, .int .i64 0, .int .i64 0, .int .i64 0, .int .i64 0] 49)).alloc (.cells #[.int .i64 0, .int .i64 0, .int .i64 0, .int .i64 0, .int .i64 0] 49)
  have D := (((Has.box (w.alloc (.cells (ints ns).toArray 31)) 22 h6 (by omega)).at (size1 _ _)).alloc (.cells #[.int .i64 0, .int .i64 0, .int .i64 0, .int .i64 0, .int .i64 0] 49)).alloc (.cells #[.int .i64 0, .int .i64 0, .int .i64 0, .int .i64 0, .int .i64 0] 49)
  have Z := ((Has.zero5 ((w.alloc (.cells (ints ns).toArray 31)).alloc (.cells (ints ds).toArray 22)) 49).at (c := w.heap.size + 1 + 1) (by simp)).alloc (.cells #[.int .i64 0, .int .i64 0, .int .i64 0, .int .i64 0, .int .i64 0] 49)
  have C := ((Has.zero5 (((w.alloc (.cells (ints ns).toArray 31)).alloc (.cells (ints ds).toArray 22)).alloc (.cells #[.int .i64 0, .int .i64 0, .int .i64 0, .int .i64 0, .int .i64 0] 49)) 49).at (c := w.heap.size + 1 + 1 + 1) (by simp))
  rw [row_ints, row_ints]
  go_enter Try.func28, Try.ntmps28
  go_wp2_with (first | (refine load_has rfl 31 _ rfl _ rfl ?_ 24 ?_ _ Try.underlying31 rfl ?_ ?_; rotate_left; (· (repeat (first | (with_reducible assumption) | ((with_reducible refine Has.box _ _ ?_ ?_) <;> (first | assumption | decide)) | (with_reducible refine Has.alloc ?_ _) | ((with_reducible refine Has.putOther ?_ _ _ ?_); rotate_left; omega; skip) | ((with_reducible refine Has.below ?_ ?_); rotate_left; assumption)))); (· kernel_rfl)) | (refine load_has rfl 22 _ rfl _ rfl ?_ 6 ?_ _ Try.underlying22 rfl ?_ ?_; rotate_left; (· (repeat (first | (with_reducible assumption) | ((with_reducible refine Has.box _ _ ?_ ?_) <;> (first | assumption | decide)) | (with_reducible refine Has.alloc ?_ _) | ((with_reducible refine Has.putOther ?_ _ _ ?_); rotate_left; omega; skip) | ((with_reducible refine Has.below ?_ ?_); rotate_left; assumption)))); (· kernel_rfl)))
  generalize ((((w.alloc (.cells (ints ns).toArray 31)).alloc (.cells (ints ds).toArray 22)).alloc (.cells #[.int .i64 0, .int .i64 0, .int .i64 0, .int .i64 0, .int .i64 0] 49)).alloc (.cells #[.int .i64 0, .int .i64 0, .int .i64 0, .int .i64 0, .int .i64 0] 49)) = W at *
  refine (l8Fits_any ns ds _ h24 h6).mono ?_
  rintro e w1 ⟨rfl, b1⟩
  replace H := H.below b1
  replace D := D.below b1
  replace Z := Z.below b1
  replace C := C.below b1
  replace HB := Lib.hid (HB.out.call b1)
  clear b1
  have H24 := Lib.hid h24
  have H6 := Lib.hid h6
  clear h24 h6
  by_cases hf : fitA ns ds = true
  · rw [← crL_1 ns ds] at C
    have HF := Lib.hid hf
    rw [hf]
    clear hf
    go_wp2_with fail
    go_loopw [7] (fun i wr => ∃ k : Nat, 1 ≤ k ∧ k ≤ 5 ∧ i = .int .i64 k ∧ Has wr w.heap.size ns 24 ∧ Has wr (w.heap.size + 1) ds 6 ∧ Has wr (w.heap.size + 1 + 1) [0, 0, 0, 0, 0] 5 ∧ Has wr (w.heap.size + 1 + 1 + 1) (crL ns ds k) 5 ∧ Hid (Kept w wr)) (fun i _ => 5 - (intOf i).toNat)
    case atStart => exact ⟨1, by omega, by omega, rfl, H, D, Z, C, HB⟩
    case round =>
      obtain ⟨k, hk1, hk, rfl, GH, GD, GZ, GC, GB⟩ := hrel
      clear H D Z C HB
      by_cases h : k < 5
      · have hki : (k : Int) ≤ 4 := by omega
        have hki2 : (k : Int) < 5 := by omega
        have hk0 : (0 : Int) ≤ (k : Int) := by omega
        go_wp2_with (first | (refine load_has rfl 31 _ rfl _ rfl ?_ 24 ?_ _ Try.underlying31 rfl ?_ ?_; rotate_left; (· (repeat (first | (with_reducible assumption) | ((with_reducible refine Has.box _ _ ?_ ?_) <;> (first | assumption | decide)) | (with_reducible refine Has.alloc ?_ _) | ((with_reducible refine Has.putOther ?_ _ _ ?_); rotate_left; omega; skip) | ((with_reducible refine Has.below ?_ ?_); rotate_left; assumption)))); (· kernel_rfl)) | (refine load_has rfl 22 _ rfl _ rfl ?_ 6 ?_ _ Try.underlying22 rfl ?_ ?_; rotate_left; (· (repeat (first | (with_reducible assumption) | ((with_reducible refine Has.box _ _ ?_ ?_) <;> (first | assumption | decide)) | (with_reducible refine Has.alloc ?_ _) | ((with_reducible refine Has.putOther ?_ _ _ ?_); rotate_left; omega; skip) | ((with_reducible refine Has.below ?_ ?_); rotate_left; assumption)))); (· kernel_rfl)))
        refine (l8Pours_any ns ds (k : Int) _ H24.out H6.out HF.out (ruleV_in hk1 h)).mono ?_
        rintro e w2 ⟨v, rfl, q1, b1⟩
        have SH := q1.rw.shape
        replace GH := GH.below b1
        replace GD := GD.below b1
        replace GZ := GZ.below b1
        replace GC := GC.below b1
        replace GB := Lib.hid (GB.out.call b1)
        clear b1 q1
        obtain ⟨a, cap, rfl⟩ := SH
        have hN := byNA_le ns ds (k : Int)
        have ES := Lib.hid (crL_set ns ds k hk1 h)
        have EN : byNA ns ds (k : Int) = pN (byP ns ds (k : Int)) 36 := by
          unfold byNA; rw [byOk_in hk1 h, if_pos HF.out]
        rw [← EN]
        clear EN
        obtain ⟨n, hn⟩ : ∃ n : Nat, byNA ns ds (k : Int) = n := ⟨_, rfl⟩
        rw [hn] at hN ES ⊢
        clear hn
        have c1 := GC.cell k h
        have f1 := GC.free k h
        have S0 := GC.set k (n : Int) h
        rw [ES.out] at S0
        have S1 := Lib.hid S0
        have S2 := Lib.hid (GH.setOther (b' := w.heap.size + 1 + 1 + 1) k (.int .i64 (n : Int)) (by omega))
        have S3 := Lib.hid (GD.setOther (b' := w.heap.size + 1 + 1 + 1) k (.int .i64 (n : Int)) (by omega))
        have S4 := Lib.hid (GZ.setOther (b' := w.heap.size + 1 + 1 + 1) k (.int .i64 (n : Int)) (by omega))
        have S5 := Lib.hid (GB.out.set (b := w.heap.size + 1 + 1 + 1) (by omega) k (.int .i64 (n : Int)))
        clear S0 GC GH GD GZ GB ES
        generalize (crL ns ds k).getD k 0 = y at *
        go_wp2_with fail
        go_roundw
        case rel => exact ⟨k + 1, by omega, by omega, by go_num, S2.out, S3.out, S4.out, S1.out, S5⟩
        case measure => simp [intOf]; omega
      · obtain rfl : k = 5 := by omega
        have E := Lib.hid (show crA ns ds = crL ns ds 5 by unfold crA; rw [if_pos HF.out])
        have hl := crL_len ns ds 5
        have S1 := Lib.hid (GZ.putAll (crL ns ds 5) hl)
        have S2 := Lib.hid (GB.out.puts (b := w.heap.size + 1 + 1) (by omega) 0 (ints (crL ns ds 5)))
        generalize crL ns ds 5 = L at *
        go_wp2_with (first | (refine load_has rfl 49 _ rfl _ rfl ?_ 5 ?_ _ Try.underlying49 rfl ?_ ?_; rotate_left; (· (repeat (first | (with_reducible assumption) | ((with_reducible refine Has.box _ _ ?_ ?_) <;> (first | assumption | decide)) | (with_reducible refine Has.alloc ?_ _) | ((with_reducible refine Has.putOther ?_ _ _ ?_); rotate_left; omega; skip) | ((with_reducible refine Has.below ?_ ?_); rotate_left; assumption)))); (· kernel_rfl)) | (refine store_at rfl 49 _ _ rfl _ _ rfl rfl ?_ 5 ?_ ?_ ?_ ?_; rotate_left; (· (repeat (first | (with_reducible assumption) | ((with_reducible refine Has.box _ _ ?_ ?_) <;> (first | assumption | decide)) | (with_reducible refine Has.alloc ?_ _) | ((with_reducible refine Has.putOther ?_ _ _ ?_); rotate_left; omega; skip) | ((with_reducible refine Has.below ?_ ?_); rotate_left; assumption)))); (· (first | assumption | rfl)); (· kernel_rfl)))
        exact bodyPost_ret (res_has1 rfl _ _ (w.heap.size + 1 + 1) L 5 _ (.bool true) rfl rfl S1.out Try.underlying49 rfl (by kernel_rfl)) rfl ⟨by rw [E.out, HF.out], S2.out⟩
  · have hff : fitA ns ds = false := by simpa using hf
    have E := Lib.hid (show crA ns ds = [0, 0, 0, 0, 0] by unfold crA; rw [hff]; rfl)
    have FF := Lib.hid hff
    rw [hff]
    clear hf hff
    have S1 := Lib.hid (Z.putAll [0, 0, 0, 0, 0] rfl)
    have S2 := Lib.hid (HB.out.puts (b := w.heap.size + 1 + 1) (by omega) 0 (ints [0, 0, 0, 0, 0]))
    have hz : ([0, 0, 0, 0, 0] : List Int).length = 5 := rfl
    go_wp2_with (first | (refine load_has rfl 49 _ rfl _ rfl ?_ 5 ?_ _ Try.underlying49 rfl ?_ ?_; rotate_left; (· (repeat (first | (with_reducible assumption) | ((with_reducible refine Has.box _ _ ?_ ?_) <;> (first | assumption | decide)) | (with_reducible refine Has.alloc ?_ _) | ((with_reducible refine Has.putOther ?_ _ _ ?_); rotate_left; omega; skip) | ((with_reducible refine Has.below ?_ ?_); rotate_left; assumption)))); (· kernel_rfl)) | (refine store_at rfl 49 _ _ rfl _ _ rfl rfl ?_ 5 ?_ ?_ ?_ ?_; rotate_left; (· (repeat (first | (with_reducible assumption) | ((with_reducible refine Has.box _ _ ?_ ?_) <;> (first | assumption | decide)) | (with_reducible refine Has.alloc ?_ _) | ((with_reducible refine Has.putOther ?_ _ _ ?_); rotate_left; omega; skip) | ((with_reducible refine Has.below ?_ ?_); rotate_left; assumption)))); (· (first | assumption | rfl)); (· kernel_rfl)))
    exact bodyPost_ret (res_has1 rfl _ _ (w.heap.size + 1 + 1) [0, 0, 0, 0, 0] 5 _ (.bool false) rfl rfl S1.out Try.underlying49 rfl (by kernel_rfl)) rfl ⟨by rw [E.out, FF.out], S2.out⟩
end Go.Proofs.Ytcedpjjfcfeokaa.base
