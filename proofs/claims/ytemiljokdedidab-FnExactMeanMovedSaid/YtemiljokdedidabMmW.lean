/-
  The mean of the moved numbers, on the program's side, walked.
-/
import Derived.Test.YtemiljokdedidabMmM
import Derived.Test.YtemiljokdedidabCpaW
namespace Go.Proofs.Ytemiljokdedidab.base
open Go.ChangeShapes Go.WideShapes Go.ChangeAt Go.RowKit
set_option linter.unusedVariables false
set_option linter.unusedSimpArgs false

def meanA (vs : List Int) (i j : Int) : List Int := if cpaA vs i j = true then frac (movS vs i.toNat (4 - vMany vs j.toNat).toNat) (ordA (hid vs)) else z2
theorem meanA_len (vs : List Int) (i j : Int) : (meanA vs i j).length = 2 := by
  unfold meanA; split <;> rfl
theorem meanA_not {vs : List Int} {i j : Int} (h : cpaA vs i j = false) : meanA vs i j = z2 := by
  unfold meanA; rw [h]; rfl
theorem mean_open {vs : List Int} {i j : Int} (h : vs.length = 18) (hc : cpaA vs i j = true) :
    ∃ p q m c mj n : Nat, i = (p : Int) ∧ j = (q : Int) ∧ p < 6 ∧ q < 6 ∧ vV vs = true ∧ TopFacts vs p m c ∧ vMany vs q = (mj : Int) ∧ n + mj = 4 ∧ 1 ≤ n ∧ meanA vs i j = frac (movS vs p n) (ordA (hid vs)) := by
  by_cases hh : vV vs = true ∧ (0 ≤ i ∧ i < 6) ∧ (0 ≤ j ∧ j < 6) ∧ i ≠ j
  rotate_left
  · rw [(cpa_not hh).2] at hc; exact absurd hc (by decide)
  obtain ⟨hv, h1, h2, h3⟩ := hh
  obtain ⟨p, rfl⟩ : ∃ p : Nat, i = (p : Int) := ⟨i.toNat, by omega⟩
  obtain ⟨q, rfl⟩ : ∃ q : Nat, j = (q : Int) := ⟨j.toNat, by omega⟩
  have e := (cpa_yes hv (show p < 6 by omega) (show q < 6 by omega) (by omega)).2
  have hA : meanA vs p q = frac (movS vs p (4 - vMany vs q).toNat) (ordA (hid vs)) := by
    unfold meanA; rw [if_pos hc, Int.toNat_natCast, Int.toNat_natCast]
  rw [e] at hc
  unfold canV at hc
  simp only [Bool.and_eq_true, decide_eq_true_eq] at hc
  obtain ⟨m, c, T⟩ := topFacts h hv p (by omega) (by omega)
  have tq := topV_at (viewFacts h hv).tops q (by omega)
  refine ⟨p, q, m, c, (vMany vs q).toNat, (4 - vMany vs q).toNat, rfl, rfl, by omega, by omega, hv, T, by omega, by omega, by omega, hA⟩
set_option maxHeartbeats 1600000 in
set_option maxRecDepth 100000 in
theorem implMean (vs : List Int) (i j : Int) (w : World) (h : vs.length = 18) :
    Calls Try.prog 26 #[row vs, .int .i64 i, .int .i64 j] w fun e w' => e = .returned (.tuple #[.agg (ints (meanA vs i j)).toArray, .bool (cpaA vs i j)]) ∧ Kept w w' := by
  have H := (Has.box w 31 h (by omega)).alloc (.cells #[.int .i64 0, .int .i64 0] 42)
  have Z := (Has.zero2v (w.alloc (.cells (ints vs).toArray 31)) 42).at (size1 _ _)
  have HB := Lib.hid (((kept_refl w).alloc (.cells (ints vs).toArray 31)).alloc (.cells #[.int .i64 0, .int .i64 0] 42))
  have hz : z2.length = 2 := rfl
  rw [row_ints]
  go_enter Try.func26, Try.ntmps26
  go_wp2_with (refine load_has rfl 31 _ rfl _ rfl ?_ 18 ?_ _ Try.underlying31 rfl ?_ ?_; rotate_left; (· (repeat (first | (with_reducible assumption) | ((with_reducible refine Has.box _ _ ?_ ?_) <;> (first | assumption | decide)) | (with_reducible refine Has.alloc ?_ _) | ((with_reducible refine Has.putOther ?_ _ _ ?_); rotate_left; omega; skip) | ((with_reducible refine Has.below ?_ ?_); rotate_left; assumption)))); (· kernel_rfl))
  refine (implCpa vs i j _ h).mono ?_
  rintro e w1 ⟨rfl, b1⟩
  have H1 := H.below b1
  have Z1 := Z.below b1
  have HB1 := Lib.hid (HB.out.call b1)
  clear H Z HB b1
  by_cases hc : cpaA vs i j = true
  rotate_left
  · have hf : cpaA vs i j = false := by simpa using hc
    have EA := Lib.hid (meanA_not hf)
    have HF := Lib.hid hf
    rw [hf]
    have S1 := Lib.hid (Z1.putAll z2 rfl)
    have S2 := Lib.hid (HB1.out.puts (b := w.heap.size + 1) (by omega) 0 (ints z2))
    clear hc hf
    go_wp2_with (first | (refine build_law rfl 42 rfl _ build2z ?_) | (refine store_at rfl 42 _ _ rfl _ _ rfl rfl ?_ 2 ?_ ?_ ?_ ?_; rotate_left; (· (repeat (first | (with_reducible assumption) | ((with_reducible refine Has.box _ _ ?_ ?_) <;> (first | assumption | decide)) | (with_reducible refine Has.alloc ?_ _) | ((with_reducible refine Has.putOther ?_ _ _ ?_); rotate_left; omega; skip) | ((with_reducible refine Has.below ?_ ?_); rotate_left; assumption)))); (· (first | assumption | rfl)); (· kernel_rfl)))
    exact bodyPost_ret (res_has1 rfl _ _ (w.heap.size + 1) z2 2 _ (.bool false) rfl rfl S1.out Try.underlying42 rfl (by kernel_rfl)) rfl ⟨by rw [EA.out, HF.out], S2.out⟩
  obtain ⟨p, q, m, c, mj, n, rfl, rfl, hp, hq, hv, T, hmj, hn, n1, hA⟩ := mean_open h hc
  have HA := Lib.hid hA
  have HC := Lib.hid hc
  have KM := Lib.hid (fun W => movers_any vs p q m c mj n W h hv hp hq T hmj hn)
  have LO := Lib.hid (long_one h T)
  have big := (hid_stk h hv).big (viewFacts h hv).small
  have M0 := (hid_stk h hv).pos
  have ML := Lib.hid (fun k => movS_le h hv T k)
  have LL := Lib.hid (fun l h1 => long_le h hv T l h1)
  rw [hc]
  clear hc hA T hv hmj
  go_wp2_with (refine load_has rfl 31 _ rfl _ rfl ?_ 18 ?_ _ Try.underlying31 rfl ?_ ?_; rotate_left; (· (repeat (first | (with_reducible assumption) | ((with_reducible refine Has.box _ _ ?_ ?_) <;> (first | assumption | decide)) | (with_reducible refine Has.alloc ?_ _) | ((with_reducible refine Has.putOther ?_ _ _ ?_); rotate_left; omega; skip) | ((with_reducible refine Has.below ?_ ?_); rotate_left; assumption)))); (· kernel_rfl))
  refine (KM.out _).mono ?_
  rintro e w2 ⟨g, cap, rfl, GN, b2⟩
  have Z2 := Z1.below b2
  have HB2 := Lib.hid (HB1.out.call b2)
  have N2 := Lib.hid GN
  have n4 : n ≤ 4 := by omega
  clear H1 Z1 HB1 b2 GN KM
  generalize hMM : ordA (hid vs) = M at *
  have HMM := Lib.hid hMM
  clear hMM
  go_wp2_with fail
  go_loopg [11, 30] n (fun gk ss kk wr => ∃ k : Nat, gk = n - k ∧ k ≤ n ∧ kk = .int .i64 k ∧ ss = .int .i64 (movS vs p k : Nat) ∧ Has wr (w.heap.size + 1) z2 2 ∧ Hid (Nu wr w1.heap.size (.slice (some ⟨g, 0, none⟩) n cap) n (movL vs p n)) ∧ Hid (Kept w wr))
  case atStart => exact ⟨0, rfl, by omega, rfl, rfl, Z2, N2, HB2⟩
  case round =>
    clear Z2 N2 HB2
    obtain ⟨k, rfl, hk, rfl, rfl, GZ, GN, GB⟩ := hrel
    have ml := ML.out k
    have mb : k * M ≤ 4 * M := Nat.mul_le_mul_right _ (by omega)
    by_cases hlt : k < n
    · have hki : (k : Int) < (n : Int) := by omega
      have c1 := GN.out.cellX hlt (movL_getD vs p n k hlt)
      have ll := LL.out (k + 1) (by omega)
      have ES := Lib.hid (show movS vs p (k + 1) = movS vs p k + longN vs p (k + 1) from rfl)
      have DK := Lib.hid (show n - (k + 1) < n - k by omega)
      have HK := Lib.hid (show k + 1 ≤ n from hlt)
      generalize longN vs p (k + 1) = z at *
      generalize movS vs p k = s at *
      have ws : IntKind.i64.wrap ((s : Int) + (z : Int)) = ((s + z : Nat) : Int) := by rw [IntWalk.i64_in _ (by omega)]; omega
      have WS := Lib.hid (show ((s + z : Nat) : Int) = (s : Int) + (z : Int) by omega)
      clear hlt ml mb
      go_wp2_with fail
      go_roundg (n - (k + 1))
      case rel => exact ⟨k + 1, rfl, HK.out, by go_num, by rw [ES.out, WS.out], GZ, GN, GB⟩
      case measure => exact DK.out
    · obtain rfl : k = n := by omega
      have c0 := GN.out.cellX (x := (M : Int)) (j := 0) (show 0 < k by omega) (by rw [movL_getD vs p k 0 (by omega)]; exact congrArg (fun t : Nat => (t : Int)) LO.out)
      have n0 : (0 : Int) < (k : Int) := by omega
      have KF := Lib.hid (fun W => fraction_any (movS vs p k) M W M0 (by omega) (by omega))
      have HA2 := Lib.hid (show meanA vs p q = frac (movS vs p k) M from HA.out)
      clear hlt ml mb
      generalize movS vs p k = s at *
      go_wp2_with fail
      refine (KF.out _).mono ?_
      rintro e w5 ⟨rfl, b5⟩
      have Z5 := GZ.below b5
      have HB5 := Lib.hid (GB.out.call b5)
      have hl := frac_len s M
      have S1 := Lib.hid (Z5.putAll (frac s M) hl)
      have S2 := Lib.hid (HB5.out.puts (b := w.heap.size + 1) (by omega) 0 (ints (frac s M)))
      clear GZ GN GB b5 c0
      go_wp2_with (refine store_at rfl 42 _ _ rfl _ _ rfl rfl ?_ 2 ?_ ?_ ?_ ?_; rotate_left; (· (repeat (first | (with_reducible assumption) | ((with_reducible refine Has.box _ _ ?_ ?_) <;> (first | assumption | decide)) | (with_reducible refine Has.alloc ?_ _) | ((with_reducible refine Has.putOther ?_ _ _ ?_); rotate_left; omega; skip) | ((with_reducible refine Has.below ?_ ?_); rotate_left; assumption)))); (· (first | assumption | rfl)); (· kernel_rfl))
      exact bodyPost_ret (res_has1 rfl _ _ (w.heap.size + 1) (frac s M) 2 _ (.bool true) rfl rfl S1.out Try.underlying42 rfl (by kernel_rfl)) rfl ⟨by rw [HA2.out, HC.out], S2.out⟩
end Go.Proofs.Ytemiljokdedidab.base
