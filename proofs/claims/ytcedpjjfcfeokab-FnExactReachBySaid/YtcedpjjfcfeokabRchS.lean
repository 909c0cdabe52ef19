/-
  How many racks pours by a rule lead to, on the model's side, walked.
-/
import Derived.Test.YtcedpjjfcfeokabNxtS
import Derived.Test.YtcedpjjfcfeokabRchI
namespace Go.Proofs.Ytcedpjjfcfeokab.base
open Go.ChangeShapes Go.WideShapes Go.ChangeAt Go.RowKit
set_option linter.unusedVariables false
set_option linter.unusedSimpArgs false

set_option maxHeartbeats 3200000 in
set_option maxRecDepth 100000 in
theorem specReach (ns ds : List Int) (x n : Int) (w : World) (h24 : ns.length = 24) (h6 : ds.length = 6) :
    Calls Try.prog 19 #[row ns, row ds, .int .i64 x, .int .i64 n] w fun e w' => e = .returned (.tuple #[.int .i64 (reA ns ds x n), .bool (reOk ns ds x n)]) ∧ Kept w w' := by
  have HB := Lib.hid (((kept_refl w).alloc (.cells (ints ns).toArray 30)).alloc (.cells (ints ds).toArray 26))
  have H := (Has.box w 30 h24 (by omega)).alloc (.cells (ints ds).toArray 26)
  have D := (Has.box (w.alloc (.cells (ints ns).toArray 30)) 26 h6 (by omega)).at (size1 _ _)
  rw [row_ints, row_ints]
  go_enter Try.func19, Try.ntmps19
  go_wp2_with (first | (refine load_has rfl 30 _ rfl _ rfl ?_ 24 ?_ _ Try.underlying30 rfl ?_ ?_; rotate_left; (· (repeat (first | (with_reducible assumption) | ((with_reducible refine Has.box _ _ ?_ ?_) <;> (first | assumption | decide)) | (with_reducible refine Has.alloc ?_ _) | ((with_reducible refine Has.putOther ?_ _ _ ?_); rotate_left; omega; skip) | ((with_reducible refine Has.below ?_ ?_); rotate_left; assumption)))); (· kernel_rfl)) | (refine load_has rfl 26 _ rfl _ rfl ?_ 6 ?_ _ Try.underlying26 rfl ?_ ?_; rotate_left; (· (repeat (first | (with_reducible assumption) | ((with_reducible refine Has.box _ _ ?_ ?_) <;> (first | assumption | decide)) | (with_reducible refine Has.alloc ?_ _) | ((with_reducible refine Has.putOther ?_ _ _ ?_); rotate_left; omega; skip) | ((with_reducible refine Has.below ?_ ?_); rotate_left; assumption)))); (· kernel_rfl)))
  refine (l8Fits_any ns ds _ h24 h6).mono ?_
  rintro e w1 ⟨rfl, b1⟩
  replace H := H.below b1
  replace D := D.below b1
  replace HB := Lib.hid (HB.out.call b1)
  clear b1
  by_cases hf : fitA ns ds = true
  · rw [hf]
    go_wp2_with fail
    refine (l8Rule_any x _).mono ?_
    rintro e w' ⟨rfl, rfl⟩
    by_cases hr : ruleV x = true
    · rw [hr]
      go_wp2_with fail
      refine (l1In_any n 0 2 _).mono ?_
      rintro e w' ⟨rfl, rfl⟩
      have OK := Lib.hid (show byOk ns ds x = true by unfold byOk; rw [hf, hr]; rfl)
      by_cases hn : 0 ≤ n ∧ n ≤ 2
      · rw [decide_eq_true hn]
        have R := Lib.hid (show reOk ns ds x n = true by unfold reOk; rw [OK.out, decide_eq_true hn]; rfl)
        have A := Lib.hid (show reA ns ds x n = (((rkM ds x ns n.toNat).length : Nat) : Int) by unfold reA; rw [if_pos R.out, rk_same])
        obtain ⟨k, rfl⟩ : ∃ k : Nat, n = (k : Int) := ⟨n.toNat, by omega⟩
        rw [Int.toNat_natCast] at A
        have hk2 : k ≤ 2 := by omega
        clear hn
        have gR : GoodR ds ns := ⟨h24, hf⟩
        have GOOD := Lib.hid (fun i => show (∀ t ∈ rkM ds x ns i, GoodR ds t) by rw [rk_same]; exact (rk_good (x := x) gR i).1)
        have LEN := Lib.hid (show (rkM ds x ns 0).length = 1 ∧ (rkM ds x ns 1).length ≤ 37 by rw [rk_same, rk_same]; exact ⟨(rk_len ds x ns).1, (rk_len ds x ns).2.2.1⟩)
        have POS := Lib.hid (show ∀ i, 0 < (rkM ds x ns i).length from fun i => by
          induction i with
          | zero => exact Nat.one_pos
          | succ i ih => have := (growL_len (ds := ds) (x := x) (S := rkM ds x ns i) (L := rkM ds x ns i) (rkM ds x ns i).length).1; rw [rkM]; omega)
        clear gR hf
        have G0 : Hid (Gr (w1.alloc (.cells (ints ns).toArray 30)) 0 30 24 (.slice (some ⟨w1.heap.size, 0, none⟩) 1 1) (rkM ds x ns 0)) := Lib.hid (Gr.one8 w1 0 30 ns h24 (Nat.zero_le _))
        have D0 := D.alloc (.cells (ints ns).toArray 30)
        have HB0 := Lib.hid (HB.out.alloc (.cells (ints ns).toArray 30))
        clear D HB
        go_wp2_with (first | (refine load_has rfl 30 _ rfl _ rfl ?_ 24 ?_ _ Try.underlying30 rfl ?_ ?_; rotate_left; (· (repeat (first | (with_reducible assumption) | ((with_reducible refine Has.box _ _ ?_ ?_) <;> (first | assumption | decide)) | (with_reducible refine Has.alloc ?_ _) | ((with_reducible refine Has.putOther ?_ _ _ ?_); rotate_left; omega; skip) | ((with_reducible refine Has.below ?_ ?_); rotate_left; assumption)))); (· kernel_rfl)) | (refine wpList_slice1 rfl 66 30 _ rfl 24 192 Try.underlying66 (by kernel_rfl) (by omega) (by omega) ns rfl h24 ?_))
        go_loopw [10, 11] (fun v z wr => ∃ i : Nat, i ≤ k ∧ z = .int .i64 i ∧ Has wr (w.heap.size + 1) ds 6 ∧ Hid (Gr wr 0 30 24 v (rkM ds x ns i)) ∧ Hid (Kept w wr)) (fun _ z _ => k - (intOf z).toNat)
        case atStart => exact ⟨0, by omega, rfl, D0, G0, HB0⟩
        case round =>
          clear D0 G0 HB0 H
          obtain ⟨i, hi, rfl, D, G, HB⟩ := hrel
          obtain ⟨ga, gc, hgv⟩ := G.out.shape
          subst hgv
          have SU := Lib.hid (show rkM ds x ns (i + 1) = growL ds x (rkM ds x ns i) (rkM ds x ns i) (rkM ds x ns i).length from rfl)
          have gi := GOOD.out i
          have pi := POS.out i
          by_cases hik : i < k
          · have hii : (i : Int) < (k : Int) := by omega
            have hl : (rkM ds x ns i).length ≤ 1333 := by
              obtain ⟨l1, l2⟩ := LEN.out
              have : i = 0 ∨ i = 1 := by omega
              rcases this with rfl | rfl <;> omega
            generalize hM : rkM ds x ns i = M at *
            go_wp2_with (refine load_has rfl 26 _ rfl _ rfl ?_ 6 ?_ _ Try.underlying26 rfl ?_ ?_; rotate_left; (· (repeat (first | (with_reducible assumption) | ((with_reducible refine Has.box _ _ ?_ ?_) <;> (first | assumption | decide)) | (with_reducible refine Has.alloc ?_ _) | ((with_reducible refine Has.putOther ?_ _ _ ?_); rotate_left; omega; skip) | ((with_reducible refine Has.below ?_ ?_); rotate_left; assumption)))); (· kernel_rfl))
            refine (l8Next_any ds x M _ wr h6 hr gi pi hl G.out).mono ?_
            rintro e w5 ⟨v5, rfl, q1, b1⟩
            replace D := D.below b1
            replace HB := Lib.hid (HB.out.call b1)
            have G5 : Hid (Gr w5 0 30 24 v5 (rkM ds x ns (i + 1))) := Lib.hid (by rw [SU.out]; exact q1.mono (Nat.zero_le _))
            clear q1 b1 G SU gi pi hl hM
            go_wp2_with fail
            go_roundw
            case rel => exact ⟨i + 1, by omega, by go_num, D, G5, HB⟩
            case measure => simp [intOf]; omega
          · obtain rfl : i = k := by omega
            clear SU gi pi
            generalize (rkM ds x ns i).length = cnt at *
            go_wp2_with fail
            go_ret2
            exact ⟨by rw [A.out, R.out]; rfl, HB.out⟩
      · rw [decide_eq_false hn]
        have R := Lib.hid (show reOk ns ds x n = false by unfold reOk; rw [decide_eq_false hn, Bool.and_false])
        have A := Lib.hid (show reA ns ds x n = 0 by unfold reA; rw [R.out]; rfl)
        clear hn
        go_wp2_with fail
        go_ret2
        exact ⟨by rw [A.out, R.out]; rfl, HB.out⟩
    · have hrf : ruleV x = false := by simpa using hr
      have R := Lib.hid (show reOk ns ds x n = false by unfold reOk byOk; rw [hrf, Bool.and_false]; rfl)
      have A := Lib.hid (show reA ns ds x n = 0 by unfold reA; rw [R.out]; rfl)
      rw [hrf]
      clear hr hrf hf
      go_wp2_with fail
      go_ret2
      exact ⟨by rw [A.out, R.out]; rfl, HB.out⟩
  · have hff : fitA ns ds = false := by simpa using hf
    have R := Lib.hid (show reOk ns ds x n = false by unfold reOk byOk; rw [hff]; rfl)
    have A := Lib.hid (show reA ns ds x n = 0 by unfold reA; rw [R.out]; rfl)
    rw [hff]
    clear hff hf
    go_wp2_with fail
    go_ret2
    exact ⟨by rw [A.out, R.out]; rfl, HB.out⟩
end Go.Proofs.Ytcedpjjfcfeokab.base
