/-
  Pours by a rule, on the model's side, walked.
-/
import Derived.Test.YtcedpjjfcfeokaaL8M
namespace Go.Proofs.Ytcedpjjfcfeokaa.base
open Go.ChangeShapes Go.WideShapes Go.ChangeAt Go.RowKit
set_option linter.unusedVariables false
set_option linter.unusedSimpArgs false

theorem mvN_le (ns ds : List Int) (x : Int) (p q : Nat) : mvN ns ds x p q ≤ topN (tub ns p) := by
  unfold mvN
  split
  · omega
  · exact (mvT_le x _ _ _).1
theorem pb_not {ns ds : List Int} {x i j : Int} (h : ¬ (fitA ns ds = true ∧ ruleV x = true ∧ (0 ≤ i ∧ i < 6) ∧ (0 ≤ j ∧ j < 6))) : pbOk ns ds x i j = false := by
  cases hb : pbOk ns ds x i j with
  | false => rfl
  | true =>
    obtain ⟨h1, h2, p, q, rfl, rfl, hp, hq, _⟩ := pbOk_of hb
    exact absurd ⟨h1, h2, by omega, by omega⟩ h
theorem pb_nat {ns ds : List Int} {x : Int} {p q : Nat} (hf : fitA ns ds = true) (hr : ruleV x = true) (hp : p < 6) (hq : q < 6) : pbOk ns ds x (p : Int) (q : Int) = decide (0 < mvN ns ds x p q) := by
  unfold pbOk; rw [hf, hr, decide_eq_true (by omega), decide_eq_true (by omega)]; simp

set_option maxHeartbeats 3200000 in
set_option maxRecDepth 100000 in
theorem specPourBy (ns ds : List Int) (x i j : Int) (w : World) (h24 : ns.length = 24) (h6 : ds.length = 6) :
    Calls Try.prog 16 #[row ns, row ds, .int .i64 x, .int .i64 i, .int .i64 j] w fun e w' => e = .returned (.tuple #[.agg (ints (pbR ns ds x i j)).toArray, .int .i64 (pbN ns ds x i j), .bool (pbOk ns ds x i j)]) ∧ Kept w w' := by
  have HB := Lib.hid ((((kept_refl w).alloc (.cells (ints ns).toArray 31)).alloc (.cells (ints ds).toArray 22)).alloc (.cells #[.int .i64 0, .int .i64 0, .int .i64 0, .int .i64 0, .int .i64 0, .int .i64 0, .int .i64 0, .int .i64 0, .int .i64 0, .int .i64 0, .int .i64 0, .int .i64 0, .int .i64 0, .int .i64 0, .int .i64 0, .int .i64 0, .int .i64 0, .int .i64 0, .int .i64 0, .int .i64 0, .int .i64 0, .int .i64 0, .int .i64 0, .int .i64 0] 31))
  have H := ((Has.box w 31 h24 (by omega)).alloc (.cells (ints ds).toArray 22)).alloc (.cells #[.int .i64 0, .int .i64 0, .int .i64 0, .int .i64 0, .int .i64 0, .int .i64 0, .int .i64 0, .int .i64 0, .int .i64 0, .int .i64 0, .int .i64 0, .int .i64 0, .int .i64 0, .int .i64 0, .int .i64 0, .int .i64 0, .int .i64 0, .int .i64 0, .int .i64 0, .int .i64 0, .int .i64 0, .int .i64 0, .int .i64 0, .int .i64 0] 31)
  have D := ((Has.box (w.alloc (.cells (ints ns).toArray 31)) 22 h6 (by omega)).at (size1 _ _)).alloc (.cells #[.int .i64 0, .int .i64 0, .int .i64 0, .int .i64 0, .int .i64 0, .int .i64 0, .int .i64 0, .int .i64 0, .int .i64 0, .int .i64 0, .int .i64 0, .int .i64 0, .int .i64 0, .int .i64 0, .int .i64 0, .int .i64 0, .int .i64 0, .int .i64 0, .int .i64 0, .int .i64 0, .int .i64 0, .int .i64 0, .int .i64 0, .int .i64 0] 31)
  have Z := (Has.zero24 ((w.alloc (.cells (ints ns).toArray 31)).alloc (.cells (ints ds).toArray 22)) 31).at (c := w.heap.size + 1 + 1) (by simp)
  have hz : z24.length = 24 := rfl
  rw [row_ints, row_ints]
  go_enter Try.func16, Try.ntmps16
  go_wp2_with (first | (refine load_has rfl 31 _ rfl _ rfl ?_ 24 ?_ _ Try.underlying31 rfl ?_ ?_; rotate_left; (· (repeat (first | (with_reducible assumption) | ((with_reducible refine Has.box _ _ ?_ ?_) <;> (first | assumption | decide)) | (with_reducible refine Has.alloc ?_ _) | ((with_reducible refine Has.putOther ?_ _ _ ?_); rotate_left; omega; skip) | ((with_reducible refine Has.below ?_ ?_); rotate_left; assumption)))); (· kernel_rfl)) | (refine load_has rfl 22 _ rfl _ rfl ?_ 6 ?_ _ Try.underlying22 rfl ?_ ?_; rotate_left; (· (repeat (first | (with_reducible assumption) | ((with_reducible refine Has.box _ _ ?_ ?_) <;> (first | assumption | decide)) | (with_reducible refine Has.alloc ?_ _) | ((with_reducible refine Has.putOther ?_ _ _ ?_); rotate_left; omega; skip) | ((with_reducible refine Has.below ?_ ?_); rotate_left; assumption)))); (· kernel_rfl)))
  refine (l8Fits_any ns ds _ h24 h6).mono ?_
  rintro e w1 ⟨rfl, b1⟩
  have H1 := H.below b1
  have D1 := D.below b1
  have Z1 := Z.below b1
  have HB1 := Lib.hid (HB.out.call b1)
  clear H D Z HB b1
  by_cases hf : fitA ns ds = true
  · rw [hf]
    go_wp2_with fail
    refine (l8Rule_any x _).mono ?_
    rintro e w' ⟨rfl, rfl⟩
    by_cases hr : ruleV x = true
    · rw [hr]
      go_wp2_with fail
      refine (l2Place_any i _).mono ?_
      rintro e w' ⟨rfl, rfl⟩
      by_cases hp : 0 ≤ i ∧ i < 6
      · rw [decide_eq_true hp]
        obtain ⟨p, rfl⟩ : ∃ p : Nat, i = (p : Int) := ⟨i.toNat, by omega⟩
        have hp6 : p < 6 := by omega
        clear hp
        go_wp2_with fail
        refine (l2Place_any j _).mono ?_
        rintro e w' ⟨rfl, rfl⟩
        by_cases hq : 0 ≤ j ∧ j < 6
        · rw [decide_eq_true hq]
          obtain ⟨q, rfl⟩ : ∃ q : Nat, j = (q : Int) := ⟨j.toNat, by omega⟩
          have hq6 : q < 6 := by omega
          clear hq
          go_wp2_with (first | (refine load_has rfl 31 _ rfl _ rfl ?_ 24 ?_ _ Try.underlying31 rfl ?_ ?_; rotate_left; (· (repeat (first | (with_reducible assumption) | ((with_reducible refine Has.box _ _ ?_ ?_) <;> (first | assumption | decide)) | (with_reducible refine Has.alloc ?_ _) | ((with_reducible refine Has.putOther ?_ _ _ ?_); rotate_left; omega; skip) | ((with_reducible refine Has.below ?_ ?_); rotate_left; assumption)))); (· kernel_rfl)) | (refine load_has rfl 22 _ rfl _ rfl ?_ 6 ?_ _ Try.underlying22 rfl ?_ ?_; rotate_left; (· (repeat (first | (with_reducible assumption) | ((with_reducible refine Has.box _ _ ?_ ?_) <;> (first | assumption | decide)) | (with_reducible refine Has.alloc ?_ _) | ((with_reducible refine Has.putOther ?_ _ _ ?_); rotate_left; omega; skip) | ((with_reducible refine Has.below ?_ ?_); rotate_left; assumption)))); (· kernel_rfl)))
          refine (l8Moves_any ns ds x p q _ h24 h6 hf hr hp6 hq6).mono ?_
          rintro e w2 ⟨rfl, b2⟩
          have H2 := H1.below b2
          have Z2 := Z1.below b2
          have HB2 := Lib.hid (HB1.out.call b2)
          clear H1 D1 Z1 HB1 b2
          have PN := Lib.hid (pb_nat hf hr hp6 hq6)
          by_cases h0 : mvN ns ds x p q = 0
          · have O := Lib.hid (show pbOk ns ds x (p : Int) (q : Int) = false by rw [PN.out, h0]; rfl)
            have S1 := Lib.hid (Z2.putAll z24 rfl)
            have S2 := Lib.hid (HB2.out.puts (b := w.heap.size + 1 + 1) (by omega) 0 (ints z24))
            rw [h0]
            clear h0
            go_wp2_with (first | (refine build_law rfl 31 rfl _ buildRack ?_) | (refine store_at rfl 31 _ _ rfl _ _ rfl rfl ?_ 24 ?_ ?_ ?_ ?_; rotate_left; (· (repeat (first | (with_reducible assumption) | ((with_reducible refine Has.box _ _ ?_ ?_) <;> (first | assumption | decide)) | (with_reducible refine Has.alloc ?_ _) | ((with_reducible refine Has.putOther ?_ _ _ ?_); rotate_left; omega; skip) | ((with_reducible refine Has.below ?_ ?_); rotate_left; assumption)))); (· (first | assumption | rfl)); (· kernel_rfl)))
            exact bodyPost_ret (res_has2 rfl _ _ (w.heap.size + 1 + 1) z24 24 _ (.int .i64 0) (.bool false) rfl rfl rfl S1.out Try.underlying31 rfl (by kernel_rfl)) rfl ⟨by rw [(pb_no O.out).1, (pb_no O.out).2, O.out], S2.out⟩
          · have O := Lib.hid (show pbOk ns ds x (p : Int) (q : Int) = true by rw [PN.out]; exact decide_eq_true (by omega))
            have M := mv_moveOk h24 hf hp6 hq6 (show 0 < mvN ns ds x p q by omega)
            have Y := pb_yes O.out
            have YR := Lib.hid Y.1
            have YN := Lib.hid Y.2
            have hT := M.len24
            have hm4 := M.hm
            have hl4 := (tubeFacts (tub_len ns p h24 hp6) (vR_tub (fit_of hf).1 p hp6)).lay4
            have KM := Lib.hid (fun W => l8Move_any ns p q (mvN ns ds x p q) W M (mvN_le ns ds x p q))
            obtain ⟨m, hm⟩ : ∃ m : Nat, mvN ns ds x p q = m := ⟨_, rfl⟩
            rw [hm] at h0 YR YN hT hm4 KM ⊢
            have n0 : ((m : Int) == 0) = false := by simp; omega
            have n1 : (m == 0) = false := by simp; omega
            clear h0 hf M Y hm PN hr
            go_wp2_with (refine load_has rfl 31 _ rfl _ rfl ?_ 24 ?_ _ Try.underlying31 rfl ?_ ?_; rotate_left; (· (repeat (first | (with_reducible assumption) | ((with_reducible refine Has.box _ _ ?_ ?_) <;> (first | assumption | decide)) | (with_reducible refine Has.alloc ?_ _) | ((with_reducible refine Has.putOther ?_ _ _ ?_); rotate_left; omega; skip) | ((with_reducible refine Has.below ?_ ?_); rotate_left; assumption)))); (· kernel_rfl))
            refine (KM.out _).mono ?_
            rintro e w3 ⟨rfl, b3⟩
            have Z3 := Z2.below b3
            have S1 := Lib.hid (Z3.putAll (moveT ns p q m) hT)
            have S2 := Lib.hid ((HB2.out.call b3).puts (b := w.heap.size + 1 + 1) (by omega) 0 (ints (moveT ns p q m)))
            clear H2 Z2 HB2 b3 KM
            go_wp2_with (refine store_at rfl 31 _ _ rfl _ _ rfl rfl ?_ 24 ?_ ?_ ?_ ?_; rotate_left; (· (repeat (first | (with_reducible assumption) | ((with_reducible refine Has.box _ _ ?_ ?_) <;> (first | assumption | decide)) | (with_reducible refine Has.alloc ?_ _) | ((with_reducible refine Has.putOther ?_ _ _ ?_); rotate_left; omega; skip) | ((with_reducible refine Has.below ?_ ?_); rotate_left; assumption)))); (· (first | assumption | rfl)); (· kernel_rfl))
            exact bodyPost_ret (res_has2 rfl _ _ (w.heap.size + 1 + 1) _ 24 _ (.int .i64 (m : Nat)) (.bool true) rfl rfl rfl S1.out Try.underlying31 rfl (by kernel_rfl)) rfl ⟨by rw [YR.out, YN.out, O.out], S2.out⟩
        · have O := Lib.hid (pb_not (ns := ns) (ds := ds) (x := x) (i := (p : Int)) (j := j) fun h => hq h.2.2.2)
          rw [decide_eq_false hq]
          clear hq
          have S1 := Lib.hid (Z1.putAll z24 rfl)
          have S2 := Lib.hid (HB1.out.puts (b := w.heap.size + 1 + 1) (by omega) 0 (ints z24))
          go_wp2_with (first | (refine build_law rfl 31 rfl _ buildRack ?_) | (refine store_at rfl 31 _ _ rfl _ _ rfl rfl ?_ 24 ?_ ?_ ?_ ?_; rotate_left; (· (repeat (first | (with_reducible assumption) | ((with_reducible refine Has.box _ _ ?_ ?_) <;> (first | assumption | decide)) | (with_reducible refine Has.alloc ?_ _) | ((with_reducible refine Has.putOther ?_ _ _ ?_); rotate_left; omega; skip) | ((with_reducible refine Has.below ?_ ?_); rotate_left; assumption)))); (· (first | assumption | rfl)); (· kernel_rfl)))
          exact bodyPost_ret (res_has2 rfl _ _ (w.heap.size + 1 + 1) z24 24 _ (.int .i64 0) (.bool false) rfl rfl rfl S1.out Try.underlying31 rfl (by kernel_rfl)) rfl ⟨by rw [(pb_no O.out).1, (pb_no O.out).2, O.out], S2.out⟩
      · have O := Lib.hid (pb_not (ns := ns) (ds := ds) (x := x) (i := i) (j := j) fun h => hp h.2.2.1)
        rw [decide_eq_false hp]
        clear hp
        have S1 := Lib.hid (Z1.putAll z24 rfl)
        have S2 := Lib.hid (HB1.out.puts (b := w.heap.size + 1 + 1) (by omega) 0 (ints z24))
        go_wp2_with (first | (refine build_law rfl 31 rfl _ buildRack ?_) | (refine store_at rfl 31 _ _ rfl _ _ rfl rfl ?_ 24 ?_ ?_ ?_ ?_; rotate_left; (· (repeat (first | (with_reducible assumption) | ((with_reducible refine Has.box _ _ ?_ ?_) <;> (first | assumption | decide)) | (with_reducible refine Has.alloc ?_ _) | ((with_reducible refine Has.putOther ?_ _ _ ?_); rotate_left; omega; skip) | ((with_reducible refine Has.below ?_ ?_); rotate_left; assumption)))); (· (first | assumption | rfl)); (· kernel_rfl)))
        exact bodyPost_ret (res_has2 rfl _ _ (w.heap.size + 1 + 1) z24 24 _ (.int .i64 0) (.bool false) rfl rfl rfl S1.out Try.underlying31 rfl (by kernel_rfl)) rfl ⟨by rw [(pb_no O.out).1, (pb_no O.out).2, O.out], S2.out⟩
    · have O := Lib.hid (pb_not (ns := ns) (ds := ds) (x := x) (i := i) (j := j) fun h => hr h.2.1)
      have hrf : ruleV x = false := by simpa using hr
      rw [hrf]
      clear hr hrf
      have S1 := Lib.hid (Z1.putAll z24 rfl)
      have S2 := Lib.hid (HB1.out.puts (b := w.heap.size + 1 + 1) (by omega) 0 (ints z24))
      go_wp2_with (first | (refine build_law rfl 31 rfl _ buildRack ?_) | (refine store_at rfl 31 _ _ rfl _ _ rfl rfl ?_ 24 ?_ ?_ ?_ ?_; rotate_left; (· (repeat (first | (with_reducible assumption) | ((with_reducible refine Has.box _ _ ?_ ?_) <;> (first | assumption | decide)) | (with_reducible refine Has.alloc ?_ _) | ((with_reducible refine Has.putOther ?_ _ _ ?_); rotate_left; omega; skip) | ((with_reducible refine Has.below ?_ ?_); rotate_left; assumption)))); (· (first | assumption | rfl)); (· kernel_rfl)))
      exact bodyPost_ret (res_has2 rfl _ _ (w.heap.size + 1 + 1) z24 24 _ (.int .i64 0) (.bool false) rfl rfl rfl S1.out Try.underlying31 rfl (by kernel_rfl)) rfl ⟨by rw [(pb_no O.out).1, (pb_no O.out).2, O.out], S2.out⟩
  · have O := Lib.hid (pb_not (ns := ns) (ds := ds) (x := x) (i := i) (j := j) fun h => hf h.1)
    have hff : fitA ns ds = false := by simpa using hf
    rw [hff]
    clear hf hff
    have S1 := Lib.hid (Z1.putAll z24 rfl)
    have S2 := Lib.hid (HB1.out.puts (b := w.heap.size + 1 + 1) (by omega) 0 (ints z24))
    go_wp2_with (first | (refine build_law rfl 31 rfl _ buildRack ?_) | (refine store_at rfl 31 _ _ rfl _ _ rfl rfl ?_ 24 ?_ ?_ ?_ ?_; rotate_left; (· (repeat (first | (with_reducible assumption) | ((with_reducible refine Has.box _ _ ?_ ?_) <;> (first | assumption | decide)) | (with_reducible refine Has.alloc ?_ _) | ((with_reducible refine Has.putOther ?_ _ _ ?_); rotate_left; omega; skip) | ((with_reducible refine Has.below ?_ ?_); rotate_left; assumption)))); (· (first | assumption | rfl)); (· kernel_rfl)))
    exact bodyPost_ret (res_has2 rfl _ _ (w.heap.size + 1 + 1) z24 24 _ (.int .i64 0) (.bool false) rfl rfl rfl S1.out Try.underlying31 rfl (by kernel_rfl)) rfl ⟨by rw [(pb_no O.out).1, (pb_no O.out).2, O.out], S2.out⟩
end Go.Proofs.Ytcedpjjfcfeokaa.base
