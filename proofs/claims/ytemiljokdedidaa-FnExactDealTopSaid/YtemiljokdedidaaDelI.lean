/-
  Deals on the program's side, walked.
-/
import Derived.Test.YtemiljokdedidaaDelM
import Derived.Test.YtemiljokdedidaaAddU
import Derived.Test.YtemiljokdedidaaMinMax
import Derived.Test.YtemiljokdedidaaFracW
import Derived.Test.YtemiljokdedidaaStkW
import Derived.Test.YtemiljokdedidaaTubeW2
import Derived.Test.YtemiljokdedidaaFill
import Derived.Deep.RegionHeld3
import Derived.BigQuiet
namespace Go.Proofs.Ytemiljokdedidaa.base
open Go.ChangeShapes Go.WideShapes Go.ChangeAt Go.RowKit
set_option linter.unusedVariables false
set_option linter.unusedSimpArgs false

/-- What the functions of deals answer. -/
def runsA (ms cs : List Int) : List Int := if dV ms cs = true then frac (plUp ms 6 * onePl (plUp ms 6) - abUp ms 6 * prUp cs 6) (onePl (plUp ms 6)) else z2
def sameA (ms cs : List Int) : List Int := if dV ms cs = true then frac (sameL ms cs) (ordA cs) else z2
def dealsA (ms cs : List Int) : Nat := if dV ms cs = true then ordA cs else 0
def dtopOk (ms cs : List Int) (i c : Int) : Bool := dV ms cs && decide (0 ≤ i ∧ i < 6) && decide (1 ≤ c ∧ c ≤ 5)
def z01 : List Int := [0, 1]
def dtopA (ms cs : List Int) (i c : Int) : List Int := if dtopOk ms cs i c = true then (if ms.getD i.toNat 0 = 0 then z01 else frac (cs.getD c.toNat 0).toNat (plUp cs 6)) else z2
def alOk (ms cs : List Int) (i j : Int) : Bool := dV ms cs && decide (0 ≤ i ∧ i < 6) && decide (0 ≤ j ∧ j < 6) && decide (i ≠ j) && decide (ms.getD i.toNat 0 ≠ 0) && decide (ms.getD j.toNat 0 ≠ 0)
def alA (ms cs : List Int) (i j : Int) : List Int := if alOk ms cs i j = true then frac (prUp cs 6) (onePl (plUp cs 6)) else z2
theorem runsA_len (ms cs : List Int) : (runsA ms cs).length = 2 := by unfold runsA; split <;> rfl
theorem sameA_len (ms cs : List Int) : (sameA ms cs).length = 2 := by unfold sameA; split <;> rfl
theorem dtopA_len (ms cs : List Int) (i c : Int) : (dtopA ms cs i c).length = 2 := by unfold dtopA; split; split <;> rfl; rfl
theorem alA_len (ms cs : List Int) (i j : Int) : (alA ms cs i j).length = 2 := by unfold alA; split <;> rfl
theorem runsA_not {ms cs : List Int} (h : ¬ dV ms cs = true) : dV ms cs = false ∧ runsA ms cs = z2 := ⟨by simpa using h, by unfold runsA; rw [if_neg h]⟩
theorem sameA_not {ms cs : List Int} (h : ¬ dV ms cs = true) : dV ms cs = false ∧ sameA ms cs = z2 := ⟨by simpa using h, by unfold sameA; rw [if_neg h]⟩
theorem dtopA_not {ms cs : List Int} {i c : Int} (h : ¬ (dV ms cs = true ∧ (0 ≤ i ∧ i < 6) ∧ (1 ≤ c ∧ c ≤ 5))) : dtopOk ms cs i c = false ∧ dtopA ms cs i c = z2 := by
  have e : dtopOk ms cs i c = false := by
    cases hb : dtopOk ms cs i c with
    | false => rfl
    | true =>
      unfold dtopOk at hb
      simp only [Bool.and_eq_true, decide_eq_true_eq] at hb
      exact absurd ⟨hb.1.1, hb.1.2, hb.2⟩ h
  exact ⟨e, by unfold dtopA; rw [e]; rfl⟩
theorem dtopA_yes {ms cs : List Int} {i c : Int} (h : dV ms cs = true) (hi : 0 ≤ i ∧ i < 6) (hc : 1 ≤ c ∧ c ≤ 5) : dtopOk ms cs i c = true := by
  unfold dtopOk; rw [h, decide_eq_true hi, decide_eq_true hc]; rfl
theorem alA_not {ms cs : List Int} {i j : Int} (h : ¬ (dV ms cs = true ∧ (0 ≤ i ∧ i < 6) ∧ (0 ≤ j ∧ j < 6) ∧ i ≠ j ∧ ms.getD i.toNat 0 ≠ 0 ∧ ms.getD j.toNat 0 ≠ 0)) : alOk ms cs i j = false ∧ alA ms cs i j = z2 := by
  have e : alOk ms cs i j = false := by
    cases hb : alOk ms cs i j with
    | false => rfl
    | true =>
      unfold alOk at hb
      simp only [Bool.and_eq_true, decide_eq_true_eq] at hb
      exact absurd ⟨hb.1.1.1.1.1, hb.1.1.1.1.2, hb.1.1.1.2, hb.1.1.2, hb.1.2, hb.2⟩ h
  exact ⟨e, by unfold alA; rw [e]; rfl⟩
theorem alA_yes {ms cs : List Int} {i j : Int} (h : dV ms cs = true) (hi : 0 ≤ i ∧ i < 6) (hj : 0 ≤ j ∧ j < 6) (hn : i ≠ j) (m1 : ms.getD i.toNat 0 ≠ 0) (m2 : ms.getD j.toNat 0 ≠ 0) : alOk ms cs i j = true := by
  unfold alOk; rw [h, decide_eq_true hi, decide_eq_true hj, decide_eq_true hn, decide_eq_true m1, decide_eq_true m2]; rfl
theorem frL_frac (a b : Nat) : frL a b = frac a b := rfl

theorem many_lohi (ms : List Int) : manyOk ms = (decide (0 ≤ loUp ms 5) && decide (hiUp ms 5 ≤ 4)) := by
  rw [Bool.eq_iff_iff, Bool.and_eq_true, decide_eq_true_eq, decide_eq_true_eq, lo_iff, hi_iff, manyOk_iff]
  constructor
  · intro h
    exact ⟨fun i hi => (h i (by omega)).1, fun i hi => (h i (by omega)).2⟩
  · rintro ⟨h1, h2⟩ i hi
    exact ⟨h1 i (by omega), h2 i (by omega)⟩

set_option maxHeartbeats 400000 in
theorem isDeal_any (ms cs : List Int) (w : World) (h1 : ms.length = 6) (h2 : cs.length = 6) :
    Calls Try.prog 35 #[row ms, row cs] w fun e w' => e = .returned (.bool (dV ms cs)) ∧ Kept w w' := by
  have HB := Lib.hid (((kept_refl w).alloc (.cells (ints ms).toArray 22)).alloc (.cells (ints cs).toArray 22))
  have H1 := (Has.box w 22 h1 (by omega)).alloc (.cells (ints cs).toArray 22)
  have H2 := (Has.box (w.alloc (.cells (ints ms).toArray 22)) 22 h2 (by omega)).at (size1 _ _)
  have V := Lib.hid (many_lohi ms)
  have K1 := Lib.hid (min6_any ms _ _ H1)
  have K2 := Lib.hid (max6_any ms _ _ H1)
  rw [row_ints, row_ints]
  go_enter Try.func35, Try.ntmps35
  go_wp2_with fail
  refine K1.out.mono ?_
  rintro e w1 ⟨rfl, rfl⟩
  by_cases h : 0 ≤ loUp ms 5
  · have V2 := Lib.hid (show manyOk ms = decide (hiUp ms 5 ≤ 4) by rw [V.out, decide_eq_true h, Bool.true_and])
    go_wp2_with fail
    refine K2.out.mono ?_
    rintro e w1 ⟨rfl, rfl⟩
    by_cases hh : hiUp ms 5 ≤ 4
    · have V3 := Lib.hid (show manyOk ms = true by rw [V2.out, decide_eq_true hh])
      have HM := Lib.hid ((manyOk_iff ms).1 V3.out)
      have q2 : decide (hiUp ms 5 ≤ 4) = true := decide_eq_true hh
      go_wp2_with (refine load_has rfl 22 _ rfl _ rfl ?_ 6 ?_ _ Try.underlying22 rfl ?_ ?_; rotate_left; (· (repeat (first | (with_reducible assumption) | ((with_reducible refine Has.box _ _ ?_ ?_) <;> (first | assumption | decide)) | (with_reducible refine Has.alloc ?_ _) | ((with_reducible refine Has.putOther ?_ _ _ ?_); rotate_left; omega; skip) | ((with_reducible refine Has.below ?_ ?_); rotate_left; assumption)))); (· kernel_rfl))
      refine (addUp_any ms cs _ h1 h2 HM.out).mono ?_
      rintro e w2 ⟨rfl, b2⟩
      have HB2 := Lib.hid (HB.out.call b2)
      go_wp2_with fail
      go_ret
      exact ⟨ret_bool (by rw [dV_cnt V3.out]), HB2.out⟩
    · have V3 := Lib.hid (show manyOk ms = false by rw [V2.out, decide_eq_false hh])
      have q2 : decide (hiUp ms 5 ≤ 4) = false := decide_eq_false hh
      go_wp2_with fail
      go_ret
      exact ⟨ret_bool (by rw [dV_many V3.out]), HB.out⟩
  · have V2 := Lib.hid (show manyOk ms = false by rw [V.out, decide_eq_false h, Bool.false_and])
    have q1 : decide (0 ≤ loUp ms 5) = false := decide_eq_false h
    go_wp2_with fail
    go_ret
    exact ⟨ret_bool (by rw [dV_many V2.out]), HB.out⟩

theorem step24 (s : List Int) (h6 : s.length = 6) (hn : ∀ j, j < 6 → 0 ≤ s.getD j 0) (h0 : s.getD 0 0 = 0) (hp : plUp s 6 ≤ 24) : StepOk s := fun c k q hc hk hq => by
  have hm := ordA_24 h6 hn h0 hp
  rw [ordA_of hn] at hm
  have hb : mulUp s c * bin (plUp s c) (q + 1) ≤ 59604644775390625 := by
    have h1 := mulUp_le s (show c + 1 ≤ 6 by omega)
    rw [mulUp, hk, Int.toNat_natCast] at h1
    have h2 := bin_le (plUp s c) (show q + 1 ≤ k by omega)
    exact Nat.le_trans (Nat.le_trans (Nat.mul_le_mul_left _ h2) h1) hm
  have hpl : plUp s c + q + 1 ≤ 24 := by
    have := plUp_le s (show c + 1 ≤ 6 by omega)
    rw [plUp, hk, Int.toNat_natCast] at this
    omega
  have hs := bin_step (plUp s c) q
  have hz : mulUp s c * bin (plUp s c) q * (plUp s c + q + 1) = mulUp s c * bin (plUp s c) (q + 1) * (q + 1) := by
    rw [Nat.mul_assoc, hs, Nat.mul_assoc]
  have hz2 : mulUp s c * bin (plUp s c) q * (plUp s c + q + 1) ≤ 59604644775390625 * 24 := by
    rw [hz]; exact Nat.mul_le_mul hb (by omega)
  refine ⟨_, mulUp s c * bin (plUp s c) q * (plUp s c + q + 1), _, _, rfl, rfl, rfl, hpl, ?_, ?_, ?_⟩
  · rw [show ((mulUp s c * bin (plUp s c) q : Nat) : Int) * (((plUp s c + q : Nat) : Int) + 1) = ((mulUp s c * bin (plUp s c) q * (plUp s c + q + 1) : Nat) : Int) by rw [Int.natCast_mul _ (plUp s c + q + 1)]; rfl]
    exact IntWalk.i64_in _ (by omega)
  · have e : ((q : Int) + 1) = ((q + 1 : Nat) : Int) := rfl
    rw [hz, e]
    show (((mulUp s c * bin (plUp s c) (q + 1) * (q + 1)) / (q + 1) : Nat) : Int) = _
    rw [Nat.mul_div_cancel _ (by omega)]
  · exact IntWalk.i64_in _ (by omega)
theorem orders24 (s : List Int) (w : World) (h6 : s.length = 6) (hn : ∀ j, j < 6 → 0 ≤ s.getD j 0) (h0 : s.getD 0 0 = 0) (hp : plUp s 6 ≤ 24) :
    Calls Try.prog 46 #[row s] w fun e w' => e = .returned (.int .i64 (ordA s : Nat)) ∧ Kept w w' :=
  orders_core s w h6 (step24 s h6 hn h0 hp) hp

theorem prUp_mono (cs : List Int) {a b : Nat} (h : a ≤ b) : prUp cs a ≤ prUp cs b := by
  induction b with
  | zero => obtain rfl : a = 0 := by omega
            exact Nat.le_refl _
  | succ b ih =>
    by_cases e : a = b + 1
    · subst e; exact Nat.le_refl _
    · have := ih (by omega)
      rw [prUp]; omega

set_option maxHeartbeats 800000 in
set_option maxRecDepth 100000 in
theorem alike_any (s : List Int) (L : Nat) (w : World) (h6 : s.length = 6) (hn : ∀ j, j < 6 → 0 ≤ s.getD j 0 ∧ s.getD j 0 ≤ 24) (hp : plUp s 6 = L) (hL : L ≤ 24) :
    Calls Try.prog 36 #[row s] w fun e w' => e = .returned (.agg (ints (frac (prUp s 6) (onePl L))).toArray) ∧ Kept w w' := by
  have H := (Has.box w 45 h6 (by omega)).alloc (.cells #[.int .i64 0, .int .i64 0] 23)
  have Z := (Has.zero2v (w.alloc (.cells (ints s).toArray 45)) 23).at (size1 _ _)
  have HB := Lib.hid (((kept_refl w).alloc (.cells (ints s).toArray 45)).alloc (.cells #[.int .i64 0, .int .i64 0] 23))
  have gi := index6v 45 Try.underlying45 s h6
  have HG := Lib.hid gi
  have HN := Lib.hid hn
  have es := sumUp_pl (fun j hj => (hn j hj).1) 6 (by omega)
  rw [hp] at es
  have KZ := Lib.hid (fun W => size_any s W h6 (fun j hj => by have := hn j hj; omega))
  rw [es] at KZ
  have hP := pr_le_one hp
  have hD := onePl_le hL
  have h0 := onePl_pos L
  have KF := Lib.hid (fun W => fraction_any (prUp s 6) (onePl L) W h0 (by omega) (by omega))
  have PB := Lib.hid (fun c (hc : c ≤ 6) => show prUp s c ≤ 552 from by have := prUp_mono s hc; omega)
  have lf := frac_len (prUp s 6) (onePl L)
  have mx : (decide ((L : Int) * ((L : Int) - 1) < 1) = true ∧ onePl L = 1) ∨ (decide ((L : Int) * ((L : Int) - 1) < 1) = false ∧ ((onePl L : Nat) : Int) = (L : Int) * ((L : Int) - 1)) := by
    have e : (L : Int) * ((L : Int) - 1) = ((L * (L - 1) : Nat) : Int) := by
      rcases Nat.eq_zero_or_pos L with h | h
      · subst h; rfl
      · rw [Int.natCast_mul]; congr 1; omega
    rw [e]
    unfold onePl
    by_cases h : 1 ≤ L * (L - 1)
    · right
      exact ⟨decide_eq_false (by omega), by congr 1; omega⟩
    · left
      exact ⟨decide_eq_true (by omega), by omega⟩
  have hx : (L : Int) * ((L : Int) - 1) ≤ 552 ∧ 0 ≤ (L : Int) * ((L : Int) - 1) := by
    have e : (L : Int) * ((L : Int) - 1) = ((L * (L - 1) : Nat) : Int) := by
      rcases Nat.eq_zero_or_pos L with h | h
      · subst h; rfl
      · rw [Int.natCast_mul]; congr 1; omega
    have : L * (L - 1) ≤ 24 * 23 := Nat.mul_le_mul hL (by omega)
    rw [e]; omega
  have MX := Lib.hid mx
  have HX := Lib.hid hx
  rw [row_ints]
  clear gi hn es hp hP hD h0 mx hx
  go_enter Try.func36, Try.ntmps36
  go_wp2_with (refine load_has rfl 45 _ rfl _ rfl ?_ 6 ?_ _ Try.underlying45 rfl ?_ ?_; rotate_left; (· (repeat (first | (with_reducible assumption) | ((with_reducible refine Has.box _ _ ?_ ?_) <;> (first | assumption | decide)) | (with_reducible refine Has.alloc ?_ _) | ((with_reducible refine Has.putOther ?_ _ _ ?_); rotate_left; omega; skip) | ((with_reducible refine Has.below ?_ ?_); rotate_left; assumption)))); (· kernel_rfl))
  refine (KZ.out _).mono ?_
  rintro e w1 ⟨rfl, b1⟩
  have H1 := H.below b1
  have Z1 := Z.below b1
  have HB1 := Lib.hid (HB.out.call b1)
  clear H Z HB b1
  go_wp2_with (refine load_has rfl 45 _ rfl _ rfl ?_ 6 ?_ _ Try.underlying45 rfl ?_ ?_; rotate_left; (· (repeat (first | (with_reducible assumption) | ((with_reducible refine Has.box _ _ ?_ ?_) <;> (first | assumption | decide)) | (with_reducible refine Has.alloc ?_ _) | ((with_reducible refine Has.putOther ?_ _ _ ?_); rotate_left; omega; skip) | ((with_reducible refine Has.below ?_ ?_); rotate_left; assumption)))); (· kernel_rfl))
  go_loopg [3, 10] 6 (fun gk m i wr => ∃ c : Nat, gk = 6 - c ∧ c ≤ 6 ∧ i = .int .i64 c ∧ m = .int .i64 (prUp s c : Nat) ∧ w1 = wr)
  case atStart => exact ⟨0, rfl, by omega, rfl, rfl, rfl⟩
  case round =>
    obtain ⟨c, rfl, hc, rfl, rfl, rfl⟩ := hrel
    by_cases hlt : c < 6
    · have hci : (c : Int) < 6 := by omega
      have g0 := HG.out c hlt
      have n0 := HN.out c hlt
      obtain ⟨k, hk⟩ : ∃ k : Nat, s.getD c 0 = (k : Int) := ⟨(s.getD c 0).toNat, by omega⟩
      rw [hk] at g0 n0
      have E := Lib.hid (show prUp s (c + 1) = prUp s c + k * (k - 1) by rw [prUp, hk, Int.toNat_natCast])
      have pb := PB.out (c + 1) (by omega)
      rw [E.out] at pb
      have ek : (k : Int) * ((k : Int) - 1) = ((k * (k - 1) : Nat) : Int) := by
        rcases Nat.eq_zero_or_pos k with h | h
        · subst h; rfl
        · rw [Int.natCast_mul]; congr 1; omega
      obtain ⟨t, ht⟩ : ∃ t, t = k * (k - 1) := ⟨_, rfl⟩
      rw [← ht] at E pb ek
      obtain ⟨x, hx⟩ : ∃ x, x = prUp s c := ⟨_, rfl⟩
      rw [← hx] at E pb ⊢
      have k24 : k ≤ 24 := by omega
      have w3 : IntKind.i64.wrap ((k : Int) * ((k : Int) - 1)) = (t : Int) := by rw [ek]; exact IntWalk.i64_in _ (by omega)
      have w4 : IntKind.i64.wrap ((x : Int) + (t : Int)) = ((x + t : Nat) : Int) := by rw [IntWalk.i64_in _ (by omega)]; omega
      obtain ⟨y, hy⟩ : ∃ y, y = x + t := ⟨_, rfl⟩
      rw [← hy] at E w4
      have HY := Lib.hid hy
      clear hk ht hx hy ek n0 pb
      go_wp2_with fail
      go_roundg (6 - (c + 1))
      case rel => exact ⟨c + 1, rfl, by omega, by go_num, by rw [E.out], rfl⟩
      case measure => omega
    · obtain rfl : c = 6 := by omega
      have hx := HX.out
      obtain ⟨u, hu⟩ : ∃ u : Int, u = (L : Int) * ((L : Int) - 1) := ⟨_, rfl⟩
      have mx := MX.out
      rw [← hu] at hx mx
      have w2 : IntKind.i64.wrap ((L : Int) - 1) = (L : Int) - 1 := IntWalk.i64_in _ (by omega)
      have w3 : IntKind.i64.wrap ((L : Int) * ((L : Int) - 1)) = u := by rw [← hu]; exact IntWalk.i64_in _ (by omega)
      have HU := Lib.hid hu
      clear hu
      obtain ⟨D, hD⟩ : ∃ D, D = onePl L := ⟨_, rfl⟩
      rw [← hD] at mx KF lf
      obtain ⟨p, hp⟩ : ∃ p, p = prUp s 6 := ⟨_, rfl⟩
      rw [← hp] at KF lf ⊢
      have ER := Lib.hid (show frac (prUp s 6) (onePl L) = frac p D by rw [hp, hD])
      clear hD hp H1
      rcases mx with ⟨m1, m2⟩ | ⟨m1, m2⟩
      · subst m2
        have mu : u < 1 := of_decide_eq_true m1
        go_wp2_with fail
        refine (KF.out _).mono ?_
        rintro e w3 ⟨rfl, b3⟩
        have Z3 := Z1.below b3
        have S1 := Lib.hid (Z3.putAll _ lf)
        have S2 := Lib.hid ((HB1.out.call b3).puts (b := w.heap.size + 1) (by omega) 0 (ints (frac p 1)))
        clear b3 Z1 HB1
        go_wp2_with (refine store_at rfl 23 _ _ rfl _ _ rfl rfl ?_ 2 ?_ ?_ ?_ ?_; rotate_left; (· (repeat (first | (with_reducible assumption) | ((with_reducible refine Has.box _ _ ?_ ?_) <;> (first | assumption | decide)) | (with_reducible refine Has.alloc ?_ _) | ((with_reducible refine Has.putOther ?_ _ _ ?_); rotate_left; omega; skip) | ((with_reducible refine Has.below ?_ ?_); rotate_left; assumption)))); (· (first | assumption | rfl)); (· kernel_rfl))
        exact bodyPost_ret (res_has rfl _ _ (w.heap.size + 1) (frac p 1) 2 _ rfl S1.out Try.underlying23 rfl (by kernel_rfl)) rfl ⟨by rw [ER.out], S2.out⟩
      · subst m2
        have mu : ¬ (D : Int) < 1 := of_decide_eq_false m1
        have mv : (1 : Int) ≤ (D : Int) := by omega
        go_wp2_with fail
        refine (KF.out _).mono ?_
        rintro e w3 ⟨rfl, b3⟩
        have Z3 := Z1.below b3
        have S1 := Lib.hid (Z3.putAll _ lf)
        have S2 := Lib.hid ((HB1.out.call b3).puts (b := w.heap.size + 1) (by omega) 0 (ints (frac p D)))
        clear b3 Z1 HB1
        go_wp2_with (refine store_at rfl 23 _ _ rfl _ _ rfl rfl ?_ 2 ?_ ?_ ?_ ?_; rotate_left; (· (repeat (first | (with_reducible assumption) | ((with_reducible refine Has.box _ _ ?_ ?_) <;> (first | assumption | decide)) | (with_reducible refine Has.alloc ?_ _) | ((with_reducible refine Has.putOther ?_ _ _ ?_); rotate_left; omega; skip) | ((with_reducible refine Has.below ?_ ?_); rotate_left; assumption)))); (· (first | assumption | rfl)); (· kernel_rfl))
        exact bodyPost_ret (res_has rfl _ _ (w.heap.size + 1) (frac p D) 2 _ rfl S1.out Try.underlying23 rfl (by kernel_rfl)) rfl ⟨by rw [ER.out], S2.out⟩

set_option maxHeartbeats 800000 in
set_option maxRecDepth 100000 in
theorem implCountDeals (ms cs : List Int) (w : World) (h1 : ms.length = 6) (h2 : cs.length = 6) :
    Calls Try.prog 22 #[row ms, row cs] w fun e w' => e = .returned (.tuple #[.int .i64 (dealsA ms cs : Nat), .bool (dV ms cs)]) ∧ Kept w w' := by
  have H1 := (Has.box w 22 h1 (by omega)).alloc (.cells (ints cs).toArray 22)
  have H2 := (Has.box (w.alloc (.cells (ints ms).toArray 22)) 22 h2 (by omega)).at (size1 _ _)
  have HB := Lib.hid (((kept_refl w).alloc (.cells (ints ms).toArray 22)).alloc (.cells (ints cs).toArray 22))
  rw [row_ints, row_ints]
  go_enter Try.func22, Try.ntmps22
  go_wp2_with (refine load_has rfl 22 _ rfl _ rfl ?_ 6 ?_ _ Try.underlying22 rfl ?_ ?_; rotate_left; (· (repeat (first | (with_reducible assumption) | ((with_reducible refine Has.box _ _ ?_ ?_) <;> (first | assumption | decide)) | (with_reducible refine Has.alloc ?_ _) | ((with_reducible refine Has.putOther ?_ _ _ ?_); rotate_left; omega; skip) | ((with_reducible refine Has.below ?_ ?_); rotate_left; assumption)))); (· kernel_rfl))
  refine (isDeal_any ms cs _ h1 h2).mono ?_
  rintro e w1 ⟨rfl, b1⟩
  have H3 := H2.below b1
  have HB1 := Lib.hid (HB.out.call b1)
  clear H1 H2 HB b1
  by_cases hv : dV ms cs = true
  · obtain ⟨L, F⟩ := dealFacts hv
    have E := Lib.hid (show dealsA ms cs = ordA cs ∧ dV ms cs = true from ⟨by unfold dealsA; rw [if_pos hv], hv⟩)
    have cp := F.cpl
    have ls := F.small
    rw [hv]
    clear hv
    go_wp2_with (refine load_has rfl 22 _ rfl _ rfl ?_ 6 ?_ _ Try.underlying22 rfl ?_ ?_; rotate_left; (· (repeat (first | (with_reducible assumption) | ((with_reducible refine Has.box _ _ ?_ ?_) <;> (first | assumption | decide)) | (with_reducible refine Has.alloc ?_ _) | ((with_reducible refine Has.putOther ?_ _ _ ?_); rotate_left; omega; skip) | ((with_reducible refine Has.below ?_ ?_); rotate_left; assumption)))); (· kernel_rfl))
    refine (orders24 cs _ h2 (fun j hj => (F.cnt j hj).1) F.zero (by omega)).mono ?_
    rintro e w2 ⟨rfl, b2⟩
    have HB2 := Lib.hid (HB1.out.call b2)
    clear F cp ls
    go_wp2_with fail
    go_ret2
    exact ⟨by rw [E.out.1, E.out.2]; rfl, HB2.out⟩
  · have hf : dV ms cs = false := by simpa using hv
    have E := Lib.hid (show dealsA ms cs = 0 ∧ dV ms cs = false from ⟨by unfold dealsA; rw [if_neg hv], hf⟩)
    rw [hf]
    clear hf hv
    go_wp2_with fail
    go_ret2
    exact ⟨by rw [E.out.1, E.out.2]; rfl, HB1.out⟩

set_option maxHeartbeats 1600000 in
set_option maxRecDepth 100000 in
theorem implDealRuns (ms cs : List Int) (w : World) (h1 : ms.length = 6) (h2 : cs.length = 6) :
    Calls Try.prog 13 #[row ms, row cs] w fun e w' => e = .returned (.tuple #[.agg (ints (runsA ms cs)).toArray, .bool (dV ms cs)]) ∧ Kept w w' := by
  have H1 := ((Has.box w 22 h1 (by omega)).alloc (.cells (ints cs).toArray 22)).alloc (.cells #[.int .i64 0, .int .i64 0] 23)
  have H2 := ((Has.box (w.alloc (.cells (ints ms).toArray 22)) 22 h2 (by omega)).at (size1 _ _)).alloc (.cells #[.int .i64 0, .int .i64 0] 23)
  have Z := (Has.zero2v ((w.alloc (.cells (ints ms).toArray 22)).alloc (.cells (ints cs).toArray 22)) 23).at (c := w.heap.size + 1 + 1) (by simp)
  have HB := Lib.hid ((((kept_refl w).alloc (.cells (ints ms).toArray 22)).alloc (.cells (ints cs).toArray 22)).alloc (.cells #[.int .i64 0, .int .i64 0] 23))
  rw [row_ints, row_ints]
  go_enter Try.func13, Try.ntmps13
  go_wp2_with (refine load_has rfl 22 _ rfl _ rfl ?_ 6 ?_ _ Try.underlying22 rfl ?_ ?_; rotate_left; (· (repeat (first | (with_reducible assumption) | ((with_reducible refine Has.box _ _ ?_ ?_) <;> (first | assumption | decide)) | (with_reducible refine Has.alloc ?_ _) | ((with_reducible refine Has.putOther ?_ _ _ ?_); rotate_left; omega; skip) | ((with_reducible refine Has.below ?_ ?_); rotate_left; assumption)))); (· kernel_rfl))
  refine (isDeal_any ms cs _ h1 h2).mono ?_
  rintro e w1 ⟨rfl, b1⟩
  have H3 := H1.below b1
  have H4 := H2.below b1
  have Z1 := Z.below b1
  have HB1 := Lib.hid (HB.out.call b1)
  clear H1 H2 Z HB b1
  by_cases hv : dV ms cs = true
  rotate_left
  · have O := Lib.hid (runsA_not hv)
    have hf : dV ms cs = false := by simpa using hv
    rw [hf]
    clear hv hf
    have S1 := Lib.hid (Z1.putAll z2 rfl)
    have S2 := Lib.hid (HB1.out.puts (b := w.heap.size + 1 + 1) (by omega) 0 (ints z2))
    clear HB1
    go_wp2_with (first | (refine build_law rfl 23 rfl _ build2z ?_) | (refine store_at rfl 23 _ _ rfl _ _ rfl rfl ?_ 2 ?_ ?_ ?_ ?_; rotate_left; (· (repeat (first | (with_reducible assumption) | ((with_reducible refine Has.box _ _ ?_ ?_) <;> (first | assumption | decide)) | (with_reducible refine Has.alloc ?_ _) | ((with_reducible refine Has.putOther ?_ _ _ ?_); rotate_left; omega; skip) | ((with_reducible refine Has.below ?_ ?_); rotate_left; assumption)))); (· (first | assumption | rfl)); (· kernel_rfl)))
    exact bodyPost_ret (res_has1 rfl _ _ (w.heap.size + 1 + 1) z2 2 _ (.bool false) rfl rfl S1.out Try.underlying23 rfl (by kernel_rfl)) rfl ⟨by rw [O.out.1, O.out.2], S2.out⟩
  obtain ⟨L, F⟩ := dealFacts hv
  have E := Lib.hid (show runsA ms cs = frac (L * onePl L - abUp ms 6 * prUp cs 6) (onePl L) ∧ dV ms cs = true from ⟨by unfold runsA; rw [if_pos hv, F.mpl], hv⟩)
  rw [hv]
  clear hv
  have gi := index6v 22 Try.underlying22 ms h1
  have HG := Lib.hid gi
  have HM := Lib.hid F.many
  have PA := Lib.hid (fun i (hi : i ≤ 6) => show plUp ms i ≤ 24 ∧ abUp ms i ≤ 24 from by
    have a1 := tb_ab F.many i hi
    have a2 := plUp_le ms hi
    have a3 := F.mpl
    have a4 := F.small
    omega)
  have KA := Lib.hid (fun W => alike_any cs L W h2 F.cnt F.cpl F.small)
  have hA : abUp ms 6 ≤ L := by have := tb_ab F.many 6 (by omega); have := F.mpl; omega
  have hP := pr_le_one F.cpl
  have hD := onePl_le F.small
  have h0 := onePl_pos L
  obtain ⟨c1, c2⟩ := runs_code L (abUp ms 6) (prUp cs 6) (onePl L) h0 hP hA
  have d0 := cutD_pos (prUp cs 6) (onePl L) h0
  have d1 := cutD_le (prUp cs 6) (onePl L)
  have n1 := cutN_le (prUp cs 6) (onePl L)
  have hl := F.small
  have m6 := F.mpl
  have b1 : L * cutD (prUp cs 6) (onePl L) ≤ 24 * 552 := Nat.mul_le_mul hl (by omega)
  have KF := Lib.hid (fun W => fraction_any (L * cutD (prUp cs 6) (onePl L) - abUp ms 6 * cutN (prUp cs 6) (onePl L)) (cutD (prUp cs 6) (onePl L)) W d0 (by omega) (by omega))
  rw [frL_frac, frL_frac] at c2
  rw [c2] at KF
  have e1 : Hid (prUp cs 6 = prUp cs 6) := Lib.hid rfl
  clear gi F c2
  go_wp2_with (refine load_has rfl 22 _ rfl _ rfl ?_ 6 ?_ _ Try.underlying22 rfl ?_ ?_; rotate_left; (· (repeat (first | (with_reducible assumption) | ((with_reducible refine Has.box _ _ ?_ ?_) <;> (first | assumption | decide)) | (with_reducible refine Has.alloc ?_ _) | ((with_reducible refine Has.putOther ?_ _ _ ?_); rotate_left; omega; skip) | ((with_reducible refine Has.below ?_ ?_); rotate_left; assumption)))); (· kernel_rfl))
  go_loopg [6, 7, 17] 6 (fun gk m n i wr => ∃ k : Nat, gk = 6 - k ∧ k ≤ 6 ∧ i = .int .i64 k ∧ m = .int .i64 (plUp ms k : Nat) ∧ n = .int .i64 (abUp ms k : Nat) ∧ w1 = wr)
  case atStart => exact ⟨0, rfl, by omega, rfl, rfl, rfl, rfl⟩
  case round =>
    obtain ⟨k, rfl, hk, rfl, rfl, rfl, rfl⟩ := hrel
    by_cases hlt : k < 6
    · have hki : (k : Int) < 6 := by omega
      have g0 := HG.out k hlt
      have m0 := HM.out k hlt
      have pa := PA.out k (by omega)
      obtain ⟨x, hx⟩ : ∃ x : Nat, ms.getD k 0 = (x : Int) := ⟨(ms.getD k 0).toNat, by omega⟩
      have EP := Lib.hid (show plUp ms (k + 1) = plUp ms k + x by rw [plUp, hx, Int.toNat_natCast])
      have EA := Lib.hid (show abUp ms (k + 1) = abUp ms k + (x - 1) by rw [abUp, hx, Int.toNat_natCast])
      rw [hx] at g0 m0
      have x4 : x ≤ 4 := by omega
      have p24 := pa.1
      have a24 := pa.2
      clear hx m0 pa KA KF c1 d0 d1 n1 b1 hl m6 hA hP hD h0
      generalize plUp ms k = u at *
      generalize abUp ms k = v at *
      rcases Nat.eq_zero_or_pos x with h | h
      · subst h
        go_wp2_with fail
        go_roundg (6 - (k + 1))
        case rel => exact ⟨k + 1, rfl, by omega, by go_num, by rw [EP.out]; go_num, by rw [EA.out]; go_num, rfl⟩
        case measure => omega
      · obtain ⟨y, rfl⟩ : ∃ y, x = y + 1 := ⟨x - 1, by omega⟩
        have y0 : ((y + 1 : Nat) : Int) - 1 = (y : Int) := by omega
        have wy : IntKind.i64.wrap (((y + 1 : Nat) : Int) - 1) = (y : Int) := by rw [y0]; exact IntWalk.i64_in _ (by omega)
        have w2 : decide ((y : Int) < 0) = false := decide_eq_false (by omega)
        go_wp2_with fail
        go_roundg (6 - (k + 1))
        case rel => exact ⟨k + 1, rfl, by omega, by go_num, by rw [EP.out]; go_num, by rw [EA.out]; go_num, rfl⟩
        case measure => omega
    · obtain rfl : k = 6 := by omega
      rw [m6]
      go_wp2_with (refine load_has rfl 22 _ rfl _ rfl ?_ 6 ?_ _ Try.underlying22 rfl ?_ ?_; rotate_left; (· (repeat (first | (with_reducible assumption) | ((with_reducible refine Has.box _ _ ?_ ?_) <;> (first | assumption | decide)) | (with_reducible refine Has.alloc ?_ _) | ((with_reducible refine Has.putOther ?_ _ _ ?_); rotate_left; omega; skip) | ((with_reducible refine Has.below ?_ ?_); rotate_left; assumption)))); (· kernel_rfl))
      refine (KA.out _).mono ?_
      rintro e w2 ⟨rfl, b2⟩
      have Z2 := (Z1.below b2).alloc (.cells (ints (frac (prUp cs 6) (onePl L))).toArray 23)
      have lf := frac_len (prUp cs 6) (onePl L)
      have Q := Has.box w2 23 lf (by omega)
      have HB2 := Lib.hid ((HB1.out.call b2).alloc (.cells (ints (frac (prUp cs 6) (onePl L))).toArray 23))
      have q0 := Q.cellX (k := 0) (x := (cutN (prUp cs 6) (onePl L) : Int)) (by omega) rfl
      have q1 := Q.cellX (k := 1) (x := (cutD (prUp cs 6) (onePl L) : Int)) (by omega) rfl
      clear H3 H4 Z1 HB1 b2 Q
      have fl := frac_len (L * onePl L - abUp ms 6 * prUp cs 6) (onePl L)
      obtain ⟨R, hR⟩ : ∃ R, R = frac (L * onePl L - abUp ms 6 * prUp cs 6) (onePl L) := ⟨_, rfl⟩
      have ER := Lib.hid (show runsA ms cs = R ∧ dV ms cs = true from ⟨by rw [hR]; exact E.out.1, E.out.2⟩)
      rw [← hR] at KF fl
      clear hR
      generalize abUp ms 6 = a at *
      generalize cutD (prUp cs 6) (onePl L) = q at *
      have bp : a * cutN (prUp cs 6) (onePl L) ≤ 24 * 552 := by omega
      generalize cutN (prUp cs 6) (onePl L) = p at *
      have w3 : IntKind.i64.wrap ((L : Int) * (q : Int)) = ((L * q : Nat) : Int) := by rw [← Int.natCast_mul]; exact IntWalk.i64_in _ (by omega)
      have w4 : IntKind.i64.wrap ((a : Int) * (p : Int)) = ((a * p : Nat) : Int) := by rw [← Int.natCast_mul]; exact IntWalk.i64_in _ (by omega)
      obtain ⟨x, hx⟩ : ∃ x, x = L * q := ⟨_, rfl⟩
      obtain ⟨y, hy⟩ : ∃ y, y = a * p := ⟨_, rfl⟩
      rw [← hx] at w3 c1 b1 KF
      rw [← hy] at w4 c1 bp KF
      have w5 : IntKind.i64.wrap ((x : Int) - (y : Int)) = ((x - y : Nat) : Int) := by rw [IntWalk.i64_in _ (by omega)]; omega
      obtain ⟨z, hz⟩ : ∃ z, z = x - y := ⟨_, rfl⟩
      rw [← hz] at w5 KF
      clear hx hy hz c1 b1 bp hA hP hD h0 d0 d1 n1
      go_wp2_with (refine store_new rfl 23 _ _ rfl _ _ _ rfl _ rfl _ rfl rfl ?_ ?_ ?_; (· (first | assumption | rfl)); (· kernel_rfl))
      refine (KF.out _).mono ?_
      rintro e w3 ⟨rfl, b3⟩
      have Z3 := Z2.below b3
      have S1 := Lib.hid (Z3.putAll R fl)
      have S2 := Lib.hid ((HB2.out.call b3).puts (b := w.heap.size + 1 + 1) (by omega) 0 (ints R))
      clear Z2 HB2 b3 q0 q1
      go_wp2_with (refine store_at rfl 23 _ _ rfl _ _ rfl rfl ?_ 2 ?_ ?_ ?_ ?_; rotate_left; (· (repeat (first | (with_reducible assumption) | ((with_reducible refine Has.box _ _ ?_ ?_) <;> (first | assumption | decide)) | (with_reducible refine Has.alloc ?_ _) | ((with_reducible refine Has.putOther ?_ _ _ ?_); rotate_left; omega; skip) | ((with_reducible refine Has.below ?_ ?_); rotate_left; assumption)))); (· (first | assumption | rfl)); (· kernel_rfl))
      exact bodyPost_ret (res_has1 rfl _ _ (w.heap.size + 1 + 1) R 2 _ (.bool true) rfl rfl S1.out Try.underlying23 rfl (by kernel_rfl)) rfl ⟨by rw [ER.out.1, ER.out.2], S2.out⟩
end Go.Proofs.Ytemiljokdedidaa.base
