/-
  The mean of runs of a deal on the model's side, walked.
-/
import Derived.Test.YtemiljokdedidaaDelS
namespace Go.Proofs.Ytemiljokdedidaa.base
open Go.ChangeShapes Go.WideShapes Go.ChangeAt Go.RowKit
set_option linter.unusedVariables false
set_option linter.unusedSimpArgs false
set_option maxHeartbeats 1600000 in
set_option maxRecDepth 100000 in
theorem specDealRuns (ms cs : List Int) (w : World) (h1 : ms.length = 6) (h2 : cs.length = 6) :
    Calls Try.prog 11 #[row ms, row cs] w fun e w' => e = .returned (.tuple #[.agg (ints (runsA ms cs)).toArray, .bool (dV ms cs)]) ∧ Kept w w' := by
  have H1 := ((Has.box w 22 h1 (by omega)).alloc (.cells (ints cs).toArray 22)).alloc (.cells #[.int .i64 0, .int .i64 0] 23)
  have H2 := ((Has.box (w.alloc (.cells (ints ms).toArray 22)) 22 h2 (by omega)).at (size1 _ _)).alloc (.cells #[.int .i64 0, .int .i64 0] 23)
  have Z := (Has.zero2v ((w.alloc (.cells (ints ms).toArray 22)).alloc (.cells (ints cs).toArray 22)) 23).at (c := w.heap.size + 1 + 1) (by simp)
  have HB := Lib.hid ((((kept_refl w).alloc (.cells (ints ms).toArray 22)).alloc (.cells (ints cs).toArray 22)).alloc (.cells #[.int .i64 0, .int .i64 0] 23))
  rw [row_ints, row_ints]
  go_enter Try.func11, Try.ntmps11
  go_wp2_with (refine load_has rfl 22 _ rfl _ rfl ?_ 6 ?_ _ Try.underlying22 rfl ?_ ?_; rotate_left; (· (repeat (first | (with_reducible assumption) | ((with_reducible refine Has.box _ _ ?_ ?_) <;> (first | assumption | decide)) | (with_reducible refine Has.alloc ?_ _) | ((with_reducible refine Has.putOther ?_ _ _ ?_); rotate_left; omega; skip) | ((with_reducible refine Has.below ?_ ?_); rotate_left; assumption)))); (· kernel_rfl))
  refine (l9Deal_any ms cs _ h1 h2).mono ?_
  rintro e w1 ⟨zz, rfl, hzz, b1⟩
  have H3 := H1.below b1
  have H4 := H2.below b1
  have Z1 := Z.below b1
  have HB1 := Lib.hid (HB.out.call b1)
  clear H1 H2 Z HB b1
  by_cases hv : dV ms cs = true
  rotate_left
  · have O := Lib.hid (runsA_not hv)
    have hf : dV ms cs = false := by simpa using hv
    rw [hf]
    clear hv hf hzz
    have S1 := Lib.hid (Z1.putAll z2 rfl)
    have S2 := Lib.hid (HB1.out.puts (b := w.heap.size + 1 + 1) (by omega) 0 (ints z2))
    clear HB1
    go_wp2_with (first | (refine build_law rfl 23 rfl _ build2z ?_) | (refine store_at rfl 23 _ _ rfl _ _ rfl rfl ?_ 2 ?_ ?_ ?_ ?_; rotate_left; (· (repeat (first | (with_reducible assumption) | ((with_reducible refine Has.box _ _ ?_ ?_) <;> (first | assumption | decide)) | (with_reducible refine Has.alloc ?_ _) | ((with_reducible refine Has.putOther ?_ _ _ ?_); rotate_left; omega; skip) | ((with_reducible refine Has.below ?_ ?_); rotate_left; assumption)))); (· (first | assumption | rfl)); (· kernel_rfl)))
    exact bodyPost_ret (res_has1 rfl _ _ (w.heap.size + 1 + 1) z2 2 _ (.bool false) rfl rfl S1.out Try.underlying23 rfl (by kernel_rfl)) rfl ⟨by rw [O.out.1, O.out.2], S2.out⟩
  obtain ⟨L, F⟩ := dealFacts hv
  have hz2 := hzz hv
  rw [F.mpl] at hz2
  rw [hv, hz2]
  have O := Lib.hid (show dV ms cs = true ∧ runsA ms cs = frac (L * onePl L - abUp ms 6 * prUp cs 6) (onePl L) from ⟨hv, by unfold runsA; rw [if_pos hv, F.mpl]⟩)
  have HM := Lib.hid F.many
  have FF := Lib.hid F
  clear hzz hz2 hv
  go_wp2_with fail
  go_loopw [8, 9] (fun y z wr => ∃ k : Nat, k ≤ 6 ∧ z = .int .i64 k ∧ y = .int .i64 (tbUp ms k : Nat) ∧ w1 = wr) (fun _ z _ => 6 - (intOf z).toNat)
  case atStart => exact ⟨0, by omega, rfl, rfl, rfl⟩
  case round =>
    obtain ⟨k, hk, rfl, rfl, rfl⟩ := hrel
    by_cases hlt : k < 6
    · have c0 := H3.cell k hlt
      have hki : (k : Int) < 6 := by omega
      have m0 := HM.out k hlt
      have tl := tb_le ms k
      by_cases hx : 0 < ms.getD k 0
      · have E := Lib.hid (show tbUp ms (k + 1) = tbUp ms k + 1 by rw [tbUp, if_pos hx])
        have d0 : decide (0 < ms.getD k 0) = true := decide_eq_true hx
        generalize ms.getD k 0 = x at *
        generalize tbUp ms k = t at *
        go_wp2_with fail
        go_roundw
        case rel => exact ⟨k + 1, by omega, by go_num, by rw [E.out]; go_num, by trivial⟩
        case measure => simp [intOf]; omega
      · have E := Lib.hid (show tbUp ms (k + 1) = tbUp ms k by rw [tbUp, if_neg hx]; rfl)
        have d0 : decide (0 < ms.getD k 0) = false := decide_eq_false hx
        generalize ms.getD k 0 = x at *
        generalize tbUp ms k = t at *
        go_wp2_with fail
        go_roundw
        case rel => exact ⟨k + 1, by omega, by go_num, by rw [E.out], by trivial⟩
        case measure => simp [intOf]; omega
    · obtain rfl : k = 6 := by omega
      have F := FF.out
      have ta := tb_ab F.many 6 (by omega)
      rw [F.mpl] at ta
      have tl := tb_le ms 6
      have al := ab_le F.many 6 (by omega)
      have l24 := F.small
      have hD := onePl_le F.small
      have hD0 := onePl_pos L
      have hP := pr_le_one F.cpl
      have at0 := ab_tb ms 6
      by_cases hA : abUp ms 6 = 0
      · have eL : tbUp ms 6 = L := by omega
        have ER := Lib.hid (show dV ms cs = true ∧ runsA ms cs = [(L : Int), 1] from ⟨O.out.1, by rw [O.out.2, hA, Nat.zero_mul, ← frL_frac, ← runs_flat L (onePl L) hD0]⟩)
        rw [eL]
        have S1 := Lib.hid (Z1.putAll [(L : Int), 1] rfl)
        have S2 := Lib.hid (HB1.out.puts (b := w.heap.size + 1 + 1) (by omega) 0 (ints [(L : Int), 1]))
        clear ta tl al l24 hD hD0 hP at0 hA eL HB1 F
        go_wp2_with (first | (refine store_at rfl 23 _ _ rfl _ [(L : Int), 1] rfl rfl ?_ 2 ?_ ?_ ?_ ?_; rotate_left; (· (repeat (first | (with_reducible assumption) | ((with_reducible refine Has.box _ _ ?_ ?_) <;> (first | assumption | decide)) | (with_reducible refine Has.alloc ?_ _) | ((with_reducible refine Has.putOther ?_ _ _ ?_); rotate_left; omega; skip) | ((with_reducible refine Has.below ?_ ?_); rotate_left; assumption)))); (· (first | assumption | rfl)); (· kernel_rfl)))
        exact bodyPost_ret (res_has1 rfl _ _ (w.heap.size + 1 + 1) [(L : Int), 1] 2 _ (.bool true) rfl rfl S1.out Try.underlying23 rfl (by kernel_rfl)) rfl ⟨by rw [ER.out.1, ER.out.2], S2.out⟩
      · have L2 : 2 ≤ L := by omega
        have eo := onePl_of L2
        have hm := runs_model (tbUp ms 6) (abUp ms 6) (prUp cs 6) (onePl L) hD0 hP
        rw [ta] at hm
        have KP := Lib.hid (fun W => l9Pairs_any cs W h2 F.cnt F.zero (by omega))
        have ap : abUp ms 6 * (onePl L - prUp cs 6) ≤ 18 * 552 := Nat.mul_le_mul (by omega) (by omega)
        have KC := Lib.hid (fun W => l7Cut_any (abUp ms 6 * (onePl L - prUp cs 6)) (onePl L) W hD0 (by omega) (by omega))
        have n1 := cutN_le (abUp ms 6 * (onePl L - prUp cs 6)) (onePl L)
        have d1 := cutD_le (abUp ms 6 * (onePl L - prUp cs 6)) (onePl L)
        have d0 := cutD_pos (abUp ms 6 * (onePl L - prUp cs 6)) (onePl L) hD0
        have td : tbUp ms 6 * cutD (abUp ms 6 * (onePl L - prUp cs 6)) (onePl L) ≤ 6 * 552 := Nat.mul_le_mul tl (by omega)
        have KS := Lib.hid (show ∀ W : World, Calls Try.prog 32 #[.agg #[.int .i64 (tbUp ms 6 : Nat), .int .i64 1], .agg (ints (frac (abUp ms 6 * (onePl L - prUp cs 6)) (onePl L))).toArray] W fun e w' => e = .returned (.agg (ints (frac (L * onePl L - abUp ms 6 * prUp cs 6) (onePl L))).toArray) ∧ Kept W w' from fun W => by
          have h := l7Sum_any (tbUp ms 6) 1 (cutN (abUp ms 6 * (onePl L - prUp cs 6)) (onePl L)) (cutD (abUp ms 6 * (onePl L - prUp cs 6)) (onePl L)) W (by omega) (by omega) (by omega) (by omega) d0
          rw [← frL_frac, hm, frL_frac] at h
          exact h)
        have fl := frac_len (L * onePl L - abUp ms 6 * prUp cs 6) (onePl L)
        have f2 := frac_len (abUp ms 6 * (onePl L - prUp cs 6)) (onePl L)
        have w2 : IntKind.i64.wrap ((L : Int) - 1) = (L : Int) - 1 := IntWalk.i64_in _ (by omega)
        have w3 : IntKind.i64.wrap ((L : Int) * ((L : Int) - 1)) = (onePl L : Int) := by
          have e : (L : Int) * ((L : Int) - 1) = ((L * (L - 1) : Nat) : Int) := by rw [Int.natCast_mul]; congr 1; omega
          rw [e, ← eo]; exact IntWalk.i64_in _ (by omega)
        have w4 : IntKind.i64.wrap ((L : Int) - (tbUp ms 6 : Nat)) = (abUp ms 6 : Int) := by rw [IntWalk.i64_in _ (by omega)]; omega
        have w5 : IntKind.i64.wrap ((onePl L : Int) - (prUp cs 6 : Nat)) = ((onePl L - prUp cs 6 : Nat) : Int) := by rw [IntWalk.i64_in _ (by omega)]; omega
        have w6 : IntKind.i64.wrap ((abUp ms 6 : Int) * ((onePl L - prUp cs 6 : Nat) : Int)) = ((abUp ms 6 * (onePl L - prUp cs 6) : Nat) : Int) := by rw [← Int.natCast_mul]; exact IntWalk.i64_in _ (by omega)
        have q0 : ((L : Int) == (tbUp ms 6 : Nat)) = false := by simp; omega
        generalize frac (L * onePl L - abUp ms 6 * prUp cs 6) (onePl L) = R at *
        generalize frac (abUp ms 6 * (onePl L - prUp cs 6)) (onePl L) = R2 at *
        generalize abUp ms 6 * (onePl L - prUp cs 6) = x6 at *
        generalize onePl L - prUp cs 6 = x5 at *
        generalize onePl L = D at *
        generalize prUp cs 6 = P at *
        generalize abUp ms 6 = A at *
        generalize tbUp ms 6 = B at *
        clear ta tl al l24 hD hD0 hP at0 hA L2 eo hm ap n1 d1 d0 td F
        go_wp2_with (refine load_has rfl 22 _ rfl _ rfl ?_ 6 ?_ _ Try.underlying22 rfl ?_ ?_; rotate_left; (· (repeat (first | (with_reducible assumption) | ((with_reducible refine Has.box _ _ ?_ ?_) <;> (first | assumption | decide)) | (with_reducible refine Has.alloc ?_ _) | ((with_reducible refine Has.putOther ?_ _ _ ?_); rotate_left; omega; skip) | ((with_reducible refine Has.below ?_ ?_); rotate_left; assumption)))); (· kernel_rfl))
        refine (KP.out _).mono ?_
        rintro e w3 ⟨rfl, b3⟩
        have Z3 := Z1.below b3
        have HB3 := Lib.hid (HB1.out.call b3)
        clear H3 H4 Z1 HB1 b3
        go_wp2_with fail
        refine (KC.out _).mono ?_
        rintro e w4 ⟨rfl, b4⟩
        have Z4 := Z3.below b4
        have HB4 := Lib.hid (HB3.out.call b4)
        clear b4 Z3 HB3
        go_wp2_with fail
        refine (KS.out _).mono ?_
        rintro e w5 ⟨rfl, b5⟩
        have Z5 := Z4.below b5
        have S1 := Lib.hid (Z5.putAll R fl)
        have S2 := Lib.hid ((HB4.out.call b5).puts (b := w.heap.size + 1 + 1) (by omega) 0 (ints R))
        clear b5 Z4 HB4
        go_wp2_with (refine store_at rfl 23 _ _ rfl _ _ rfl rfl ?_ 2 ?_ ?_ ?_ ?_; rotate_left; (· (repeat (first | (with_reducible assumption) | ((with_reducible refine Has.box _ _ ?_ ?_) <;> (first | assumption | decide)) | (with_reducible refine Has.alloc ?_ _) | ((with_reducible refine Has.putOther ?_ _ _ ?_); rotate_left; omega; skip) | ((with_reducible refine Has.below ?_ ?_); rotate_left; assumption)))); (· (first | assumption | rfl)); (· kernel_rfl))
        exact bodyPost_ret (res_has1 rfl _ _ (w.heap.size + 1 + 1) R 2 _ (.bool true) rfl rfl S1.out Try.underlying23 rfl (by kernel_rfl)) rfl ⟨by rw [O.out.1, O.out.2], S2.out⟩
end Go.Proofs.Ytemiljokdedidaa.base
