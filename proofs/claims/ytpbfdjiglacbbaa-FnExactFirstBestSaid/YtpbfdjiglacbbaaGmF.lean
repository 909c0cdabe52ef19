/-
  The first best pour of the game for tubes on both sides, walked.
-/
import Derived.Test.YtpbfdjiglacbbaaGmO
import Derived.Test.YtpbfdjiglacbbaaGmE
namespace Go.Proofs.Ytpbfdjiglacbbaa.base
open Go.ChangeShapes Go.WideShapes Go.ChangeAt Go.RowKit
set_option linter.unusedVariables false
set_option linter.unusedSimpArgs false

theorem build2G (w : World) : (Instr.build 36 #[]).run Try.prog w = .ok (.agg (ints [0, 0]).toArray) w := by kernel_rfl

set_option maxHeartbeats 1600000 in
theorem specFirstBest (r : List Int) (n : Int) (w : World) (h24 : r.length = 24) :
    Calls Try.prog 21 #[row r, .int .i64 n] w fun e w' => e = .returned (.tuple #[row (fbA r n), .bool (fbOk r n)]) ∧ Kept w w' := by
  have HB := Lib.hid (((kept_refl w).alloc (.cells (ints r).toArray 28)).alloc (.cells #[.int .i64 0, .int .i64 0] 36))
  have H := (Has.box w 28 h24 (by omega)).alloc (.cells #[.int .i64 0, .int .i64 0] 36)
  have Z := (Has.box (ns := [0, 0]) (n := 2) (w.alloc (.cells (ints r).toArray 28)) 36 rfl (by omega)).at (size1 _ _)
  have KT := Lib.hid (fun W => specTubePours r n W h24)
  have EO : Hid (fbOk r n = (bpOk r n && decide (bpNA ptT 0 r n ≠ 0))) := Lib.hid rfl
  have EA : Hid (fbA r n = if fbOk r n = true then [(bpFA ptT 0 r n).getD 0 0, (bpFA ptT 0 r n).getD 1 0] else [0, 0]) := Lib.hid rfl
  rw [row_ints, row_ints]
  go_enter Try.func21, Try.ntmps21
  go_wp2_with (refine load_has rfl 28 _ rfl _ rfl ?_ 24 ?_ _ Try.underlying28 rfl ?_ ?_; rotate_left; (· (repeat (first | (with_reducible assumption) | ((with_reducible refine Has.box _ _ ?_ ?_) <;> (first | assumption | decide)) | (with_reducible refine Has.alloc ?_ _) | ((with_reducible refine Has.putOther ?_ _ _ ?_); rotate_left; omega; skip) | ((with_reducible refine Has.below ?_ ?_); rotate_left; assumption)))); (· kernel_rfl))
  refine (KT.out _).mono ?_
  rintro e w1 ⟨v, rfl, q1, b1⟩
  obtain ⟨va, vc, rfl⟩ := q1.rw.shape
  have R0 := Lib.hid ((q1.mono (b' := 0) (Nat.zero_le _)).rw)
  replace Z := Z.below b1
  replace HB := Lib.hid (HB.out.call b1)
  have S0 := Lib.hid (Z.putAll [0, 0] rfl)
  have S1 := Lib.hid (HB.out.puts (b := w.heap.size + 1) (by omega) 0 (ints [0, 0]))
  clear q1 b1 H KT
  cases hok : bpOk r n with
  | false =>
    have E := Lib.hid (show fbOk r n = false by rw [EO.out, hok]; rfl)
    have E2 := Lib.hid (show fbA r n = [0, 0] by rw [EA.out, if_neg (by rw [E.out]; simp)])
    clear hok
    generalize bpNA ptT 0 r n = N at *
    go_wp2_with (first | (refine build_law rfl 36 rfl _ build2G ?_) | (refine store_at rfl 36 _ _ rfl _ _ rfl rfl ?_ 2 ?_ ?_ ?_ ?_; rotate_left; (· (repeat (first | (with_reducible assumption) | ((with_reducible refine Has.box _ _ ?_ ?_) <;> (first | assumption | decide)) | (with_reducible refine Has.alloc ?_ _) | ((with_reducible refine Has.putOther ?_ _ _ ?_); rotate_left; omega; skip) | ((with_reducible refine Has.below ?_ ?_); rotate_left; assumption)))); (· (first | assumption | rfl)); (· kernel_rfl)))
    exact bodyPost_ret (res_has1 rfl _ _ (w.heap.size + 1) [0, 0] 2 _ (.bool false) rfl rfl S0.out Try.underlying36 rfl (by kernel_rfl)) rfl ⟨by rw [E2.out, E.out], S1.out⟩
  | true =>
    have HOK := Lib.hid hok
    clear hok
    by_cases h0 : bpNA ptT 0 r n = 0
    · have E := Lib.hid (show fbOk r n = false by rw [EO.out, h0]; simp)
      have E2 := Lib.hid (show fbA r n = [0, 0] by rw [EA.out, if_neg (by rw [E.out]; simp)])
      rw [h0]
      clear h0 R0
      go_wp2_with (first | (refine build_law rfl 36 rfl _ build2G ?_) | (refine store_at rfl 36 _ _ rfl _ _ rfl rfl ?_ 2 ?_ ?_ ?_ ?_; rotate_left; (· (repeat (first | (with_reducible assumption) | ((with_reducible refine Has.box _ _ ?_ ?_) <;> (first | assumption | decide)) | (with_reducible refine Has.alloc ?_ _) | ((with_reducible refine Has.putOther ?_ _ _ ?_); rotate_left; omega; skip) | ((with_reducible refine Has.below ?_ ?_); rotate_left; assumption)))); (· (first | assumption | rfl)); (· kernel_rfl)))
      exact bodyPost_ret (res_has1 rfl _ _ (w.heap.size + 1) [0, 0] 2 _ (.bool false) rfl rfl S0.out Try.underlying36 rfl (by kernel_rfl)) rfl ⟨by rw [E2.out, E.out], S1.out⟩
    · have E := Lib.hid (show fbOk r n = true by rw [EO.out, HOK.out, decide_eq_true h0]; rfl)
      have E2 := Lib.hid (show fbA r n = [(bpFA ptT 0 r n).getD 0 0, (bpFA ptT 0 r n).getD 1 0] by rw [EA.out, if_pos E.out])
      have n0 : ((bpNA ptT 0 r n : Int) == 0) = false := by simp; omega
      obtain ⟨N, hN⟩ : ∃ N, bpNA ptT 0 r n = N := ⟨_, rfl⟩
      rw [hN] at R0 n0 h0 ⊢
      obtain ⟨F, hF⟩ : ∃ F, bpFA ptT 0 r n = F := ⟨_, rfl⟩
      rw [hF] at R0 E2
      clear hN hF EA EO
      obtain ⟨g, cap, he, _, hgl⟩ := R0.out.form (by omega)
      injection he with e1 _ e3
      subst e1
      subst e3
      have Np : (0 : Int) < (N : Int) := by omega
      have RG := Lib.hid (range_two (R0.out.cell 0 (by omega)) (R0.out.cell 1 (by omega)))
      obtain ⟨x, hx⟩ : ∃ x, F.getD 0 0 = x := ⟨_, rfl⟩
      obtain ⟨y, hy⟩ : ∃ y, F.getD 1 0 = y := ⟨_, rfl⟩
      rw [hx, hy] at E2
      rw [show F.getD (0 + 1) 0 = y from hy, hx] at RG
      have S3 := Lib.hid (Z.putAll [x, y] rfl)
      have S4 := Lib.hid (HB.out.puts (b := w.heap.size + 1) (by omega) 0 (ints [x, y]))
      clear hx hy R0 h0 S0 S1 hgl
      go_wp2_with (first | (refine wpList_load_mid rfl 36 _ rfl g 0 rfl (ints [x, y]) _ RG.out Try.underlying36 rfl (by kernel_rfl) ?_) | (refine store_at rfl 36 _ _ rfl _ [x, y] rfl rfl ?_ 2 ?_ ?_ ?_ ?_; rotate_left; (· (repeat (first | (with_reducible assumption) | ((with_reducible refine Has.box _ _ ?_ ?_) <;> (first | assumption | decide)) | (with_reducible refine Has.alloc ?_ _) | ((with_reducible refine Has.putOther ?_ _ _ ?_); rotate_left; omega; skip) | ((with_reducible refine Has.below ?_ ?_); rotate_left; assumption)))); (· (first | assumption | rfl)); (· kernel_rfl)))
      exact bodyPost_ret (res_has1 rfl _ _ (w.heap.size + 1) [x, y] 2 _ (.bool true) rfl rfl S3.out Try.underlying36 rfl (by kernel_rfl)) rfl ⟨by rw [E2.out, E.out], S4.out⟩

set_option maxHeartbeats 1600000 in
theorem implFirstBest (r : List Int) (n : Int) (w : World) (h24 : r.length = 24) :
    Calls Try.prog 22 #[row r, .int .i64 n] w fun e w' => e = .returned (.tuple #[row (fbA r n), .bool (fbOk r n)]) ∧ Kept w w' := by
  have HB := Lib.hid (((kept_refl w).alloc (.cells (ints r).toArray 28)).alloc (.cells #[.int .i64 0, .int .i64 0] 36))
  have H := (Has.box w 28 h24 (by omega)).alloc (.cells #[.int .i64 0, .int .i64 0] 36)
  have Z := (Has.box (ns := [0, 0]) (n := 2) (w.alloc (.cells (ints r).toArray 28)) 36 rfl (by omega)).at (size1 _ _)
  have KT := Lib.hid (fun W => implTubePours r n W h24)
  have EO : Hid (fbOk r n = (bpOk r n && decide (bpNA ptT 0 r n ≠ 0))) := Lib.hid rfl
  have EA : Hid (fbA r n = if fbOk r n = true then [(bpFA ptT 0 r n).getD 0 0, (bpFA ptT 0 r n).getD 1 0] else [0, 0]) := Lib.hid rfl
  rw [row_ints, row_ints]
  go_enter Try.func22, Try.ntmps22
  go_wp2_with (refine load_has rfl 28 _ rfl _ rfl ?_ 24 ?_ _ Try.underlying28 rfl ?_ ?_; rotate_left; (· (repeat (first | (with_reducible assumption) | ((with_reducible refine Has.box _ _ ?_ ?_) <;> (first | assumption | decide)) | (with_reducible refine Has.alloc ?_ _) | ((with_reducible refine Has.putOther ?_ _ _ ?_); rotate_left; omega; skip) | ((with_reducible refine Has.below ?_ ?_); rotate_left; assumption)))); (· kernel_rfl))
  refine (KT.out _).mono ?_
  rintro e w1 ⟨v, rfl, q1, b1⟩
  obtain ⟨va, vc, rfl⟩ := q1.rw.shape
  have R0 := Lib.hid ((q1.mono (b' := 0) (Nat.zero_le _)).rw)
  replace Z := Z.below b1
  replace HB := Lib.hid (HB.out.call b1)
  have S0 := Lib.hid (Z.putAll [0, 0] rfl)
  have S1 := Lib.hid (HB.out.puts (b := w.heap.size + 1) (by omega) 0 (ints [0, 0]))
  clear q1 b1 H KT
  cases hok : bpOk r n with
  | false =>
    have E := Lib.hid (show fbOk r n = false by rw [EO.out, hok]; rfl)
    have E2 := Lib.hid (show fbA r n = [0, 0] by rw [EA.out, if_neg (by rw [E.out]; simp)])
    clear hok
    generalize bpNA ptT 0 r n = N at *
    go_wp2_with (first | (refine build_law rfl 36 rfl _ build2G ?_) | (refine store_at rfl 36 _ _ rfl _ _ rfl rfl ?_ 2 ?_ ?_ ?_ ?_; rotate_left; (· (repeat (first | (with_reducible assumption) | ((with_reducible refine Has.box _ _ ?_ ?_) <;> (first | assumption | decide)) | (with_reducible refine Has.alloc ?_ _) | ((with_reducible refine Has.putOther ?_ _ _ ?_); rotate_left; omega; skip) | ((with_reducible refine Has.below ?_ ?_); rotate_left; assumption)))); (· (first | assumption | rfl)); (· kernel_rfl)))
    exact bodyPost_ret (res_has1 rfl _ _ (w.heap.size + 1) [0, 0] 2 _ (.bool false) rfl rfl S0.out Try.underlying36 rfl (by kernel_rfl)) rfl ⟨by rw [E2.out, E.out], S1.out⟩
  | true =>
    have HOK := Lib.hid hok
    clear hok
    by_cases h0 : bpNA ptT 0 r n = 0
    · have E := Lib.hid (show fbOk r n = false by rw [EO.out, h0]; simp)
      have E2 := Lib.hid (show fbA r n = [0, 0] by rw [EA.out, if_neg (by rw [E.out]; simp)])
      rw [h0]
      clear h0 R0
      go_wp2_with (first | (refine build_law rfl 36 rfl _ build2G ?_) | (refine store_at rfl 36 _ _ rfl _ _ rfl rfl ?_ 2 ?_ ?_ ?_ ?_; rotate_left; (· (repeat (first | (with_reducible assumption) | ((with_reducible refine Has.box _ _ ?_ ?_) <;> (first | assumption | decide)) | (with_reducible refine Has.alloc ?_ _) | ((with_reducible refine Has.putOther ?_ _ _ ?_); rotate_left; omega; skip) | ((with_reducible refine Has.below ?_ ?_); rotate_left; assumption)))); (· (first | assumption | rfl)); (· kernel_rfl)))
      exact bodyPost_ret (res_has1 rfl _ _ (w.heap.size + 1) [0, 0] 2 _ (.bool false) rfl rfl S0.out Try.underlying36 rfl (by kernel_rfl)) rfl ⟨by rw [E2.out, E.out], S1.out⟩
    · have E := Lib.hid (show fbOk r n = true by rw [EO.out, HOK.out, decide_eq_true h0]; rfl)
      have E2 := Lib.hid (show fbA r n = [(bpFA ptT 0 r n).getD 0 0, (bpFA ptT 0 r n).getD 1 0] by rw [EA.out, if_pos E.out])
      have n0 : ((bpNA ptT 0 r n : Int) == 0) = false := by simp; omega
      obtain ⟨N, hN⟩ : ∃ N, bpNA ptT 0 r n = N := ⟨_, rfl⟩
      rw [hN] at R0 n0 h0 ⊢
      obtain ⟨F, hF⟩ : ∃ F, bpFA ptT 0 r n = F := ⟨_, rfl⟩
      rw [hF] at R0 E2
      clear hN hF EA EO
      obtain ⟨g, cap, he, _, hgl⟩ := R0.out.form (by omega)
      injection he with e1 _ e3
      subst e1
      subst e3
      have Np : (0 : Int) < (N : Int) := by omega
      have RG := Lib.hid (range_two (R0.out.cell 0 (by omega)) (R0.out.cell 1 (by omega)))
      obtain ⟨x, hx⟩ : ∃ x, F.getD 0 0 = x := ⟨_, rfl⟩
      obtain ⟨y, hy⟩ : ∃ y, F.getD 1 0 = y := ⟨_, rfl⟩
      rw [hx, hy] at E2
      rw [show F.getD (0 + 1) 0 = y from hy, hx] at RG
      have S3 := Lib.hid (Z.putAll [x, y] rfl)
      have S4 := Lib.hid (HB.out.puts (b := w.heap.size + 1) (by omega) 0 (ints [x, y]))
      clear hx hy R0 h0 S0 S1 hgl
      go_wp2_with (first | (refine wpList_load_mid rfl 36 _ rfl g 0 rfl (ints [x, y]) _ RG.out Try.underlying36 rfl (by kernel_rfl) ?_) | (refine store_at rfl 36 _ _ rfl _ [x, y] rfl rfl ?_ 2 ?_ ?_ ?_ ?_; rotate_left; (· (repeat (first | (with_reducible assumption) | ((with_reducible refine Has.box _ _ ?_ ?_) <;> (first | assumption | decide)) | (with_reducible refine Has.alloc ?_ _) | ((with_reducible refine Has.putOther ?_ _ _ ?_); rotate_left; omega; skip) | ((with_reducible refine Has.below ?_ ?_); rotate_left; assumption)))); (· (first | assumption | rfl)); (· kernel_rfl)))
      exact bodyPost_ret (res_has1 rfl _ _ (w.heap.size + 1) [x, y] 2 _ (.bool true) rfl rfl S3.out Try.underlying36 rfl (by kernel_rfl)) rfl ⟨by rw [E2.out, E.out], S4.out⟩
end Go.Proofs.Ytpbfdjiglacbbaa.base
