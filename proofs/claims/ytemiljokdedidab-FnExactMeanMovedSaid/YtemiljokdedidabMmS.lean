/-
  The mean of the moved numbers, on the model's side, and its law, walked.
-/
import Derived.Test.YtemiljokdedidabMmW
namespace Go.Proofs.Ytemiljokdedidab.base
open Go.ChangeShapes Go.WideShapes Go.ChangeAt Go.RowKit
set_option linter.unusedVariables false
set_option linter.unusedSimpArgs false
set_option maxHeartbeats 400000 in
set_option maxRecDepth 100000 in
theorem l7Plus_any (a b c d : Nat) (w : World) (ha : a ≤ 23328) (hb : b ≤ 5832) (hc : c ≤ 23328) (hd : d ≤ 5832) (b0 : 0 < b) (d0 : 0 < d) :
    Calls Try.prog 61 #[row [(a : Int), (b : Int)], row [(c : Int), (d : Int)]] w fun e w' => e = .returned (.agg (ints (frac (a * d + c * b) (b * d))).toArray) ∧ Kept w w' := by
  have h1 : ([(a : Int), (b : Int)] : List Int).length = 2 := rfl
  have h2 : ([(c : Int), (d : Int)] : List Int).length = 2 := rfl
  have H := ((Has.box w 42 h1 (by omega)).alloc (.cells (ints [(c : Int), (d : Int)]).toArray 42)).alloc (.cells #[.int .i64 0, .int .i64 0] 42)
  have G := ((Has.box (w.alloc (.cells (ints [(a : Int), (b : Int)]).toArray 42)) 42 h2 (by omega)).at (c := w.heap.size + 1) (by simp)).alloc (.cells #[.int .i64 0, .int .i64 0] 42)
  have Z := (Has.zero2v ((w.alloc (.cells (ints [(a : Int), (b : Int)]).toArray 42)).alloc (.cells (ints [(c : Int), (d : Int)]).toArray 42)) 42).at (c := w.heap.size + 1 + 1) (by simp)
  have HB := Lib.hid ((((kept_refl w).alloc (.cells (ints [(a : Int), (b : Int)]).toArray 42)).alloc (.cells (ints [(c : Int), (d : Int)]).toArray 42)).alloc (.cells #[.int .i64 0, .int .i64 0] 42))
  have x1 : a * d ≤ 23328 * 5832 := Nat.mul_le_mul ha hd
  have x2 : c * b ≤ 23328 * 5832 := Nat.mul_le_mul hc hb
  have x3 : b * d ≤ 5832 * 5832 := Nat.mul_le_mul hb hd
  have x4 : 0 < b * d := Nat.mul_pos b0 d0
  have a0 := H.cellX (k := 0) (x := (a : Int)) (by omega) rfl
  have a1 := H.cellX (k := 1) (x := (b : Int)) (by omega) rfl
  have a2 := G.cellX (k := 0) (x := (c : Int)) (by omega) rfl
  have a3 := G.cellX (k := 1) (x := (d : Int)) (by omega) rfl
  have KC := Lib.hid (fun W => l7Cut_any (a * d + c * b) (b * d) W x4 (by omega) (by omega))
  obtain ⟨u, hu⟩ : ∃ u, u = a * d := ⟨_, rfl⟩
  obtain ⟨v, hv⟩ : ∃ v, v = c * b := ⟨_, rfl⟩
  obtain ⟨t, ht⟩ : ∃ t, t = b * d := ⟨_, rfl⟩
  have w1 : IntKind.i64.wrap ((a : Int) * (d : Int)) = (u : Int) := by rw [IntWalk.i64_in _ (by rw [← Int.natCast_mul]; omega), hu, Int.natCast_mul]
  have w2 : IntKind.i64.wrap ((c : Int) * (b : Int)) = (v : Int) := by rw [IntWalk.i64_in _ (by rw [← Int.natCast_mul]; omega), hv, Int.natCast_mul]
  have w3 : IntKind.i64.wrap ((b : Int) * (d : Int)) = (t : Int) := by rw [IntWalk.i64_in _ (by rw [← Int.natCast_mul]; omega), ht, Int.natCast_mul]
  have w4 : IntKind.i64.wrap ((u : Int) + (v : Int)) = ((u + v : Nat) : Int) := by rw [IntWalk.i64_in _ (by omega)]; omega
  have w5 : (u : Int) + (v : Int) = ((u + v : Nat) : Int) := by omega
  obtain ⟨s, hs⟩ : ∃ s, s = u + v := ⟨_, rfl⟩
  rw [← hs] at w4 w5
  have w6 : IntKind.i64.wrap (s : Int) = (s : Int) := IntWalk.i64_in _ (by omega)
  rw [← hu, ← hv, ← ht] at KC
  rw [← hu, ← hv, ← ht]
  rw [← hs] at KC
  rw [← hs]
  have hS := Lib.hid hs
  clear x1 x2 x3 x4 hu hv ht hs ha hb hc hd b0 d0
  rw [row_ints, row_ints]
  go_enter Try.func61, Try.ntmps61
  go_wp2_with fail
  refine (KC.out _).mono ?_
  rintro e w6 ⟨rfl, b6⟩
  have Z6 := Z.below b6
  have HB6 := Lib.hid (HB.out.call b6)
  have hl := frac_len s t
  have S1 := Lib.hid (Z6.putAll (frac s t) hl)
  have S2 := Lib.hid (HB6.out.puts (b := w.heap.size + 1 + 1) (by omega) 0 (ints (frac s t)))
  clear H G Z HB b6 a0 a1 a2 a3
  go_wp2_with (refine store_at rfl 42 _ _ rfl _ _ rfl rfl ?_ 2 ?_ ?_ ?_ ?_; rotate_left; (· (repeat (first | (with_reducible assumption) | ((with_reducible refine Has.box _ _ ?_ ?_) <;> (first | assumption | decide)) | (with_reducible refine Has.alloc ?_ _) | ((with_reducible refine Has.putOther ?_ _ _ ?_); rotate_left; omega; skip) | ((with_reducible refine Has.below ?_ ?_); rotate_left; assumption)))); (· (first | assumption | rfl)); (· kernel_rfl))
  exact bodyPost_ret (res_has rfl _ _ (w.heap.size + 1 + 1) (frac s t) 2 _ rfl S1.out Try.underlying42 rfl (by kernel_rfl)) rfl ⟨rfl, S2.out⟩
theorem cpa_no {vs : List Int} {i j : Int} (h : ¬ (vV vs = true ∧ (0 ≤ i ∧ i < 6) ∧ (0 ≤ j ∧ j < 6) ∧ i ≠ j)) : cpaA vs i j = false := (cpa_not h).2
theorem canV_same (vs : List Int) (p : Nat) : canV vs p p = false := by unfold canV; simp
theorem cpa_can {vs : List Int} {p q : Nat} (hv : vV vs = true) (hp : p < 6) (hq : q < 6) : cpaA vs p q = canV vs p q := by
  by_cases e : p = q
  · subst e
    rw [canV_same]
    exact cpa_no (fun hh => hh.2.2.2 rfl)
  · exact (cpa_yes hv hp hq e).2
set_option maxHeartbeats 3200000 in
set_option maxRecDepth 100000 in
theorem specMean (vs : List Int) (i j : Int) (w : World) (h : vs.length = 18) (hw : Wf vs) :
    Calls Try.prog 25 #[row vs, .int .i64 i, .int .i64 j] w fun e w' => e = .returned (.tuple #[.agg (ints (meanA vs i j)).toArray, .bool (cpaA vs i j)]) ∧ Kept w w' := by
  have H := (Has.box w 31 h (by omega)).alloc (.cells #[.int .i64 0, .int .i64 0] 42)
  have Z := (Has.zero2v (w.alloc (.cells (ints vs).toArray 31)) 42).at (size1 _ _)
  have HB := Lib.hid (((kept_refl w).alloc (.cells (ints vs).toArray 31)).alloc (.cells #[.int .i64 0, .int .i64 0] 42))
  have hz : z2.length = 2 := rfl
  rw [row_ints]
  go_enter Try.func25, Try.ntmps25
  go_wp2_with (refine load_has rfl 31 _ rfl _ rfl ?_ 18 ?_ _ Try.underlying31 rfl ?_ ?_; rotate_left; (· (repeat (first | (with_reducible assumption) | ((with_reducible refine Has.box _ _ ?_ ?_) <;> (first | assumption | decide)) | (with_reducible refine Has.alloc ?_ _) | ((with_reducible refine Has.putOther ?_ _ _ ?_); rotate_left; omega; skip) | ((with_reducible refine Has.below ?_ ?_); rotate_left; assumption)))); (· kernel_rfl))
  refine (l7Good_any vs _ h hw).mono ?_
  rintro e w1 ⟨rfl, b1⟩
  have H1 := H.below b1
  have Z1 := Z.below b1
  have HB1 := Lib.hid (HB.out.call b1)
  clear H Z HB b1
  by_cases hv : vV vs = true
  rotate_left
  · have hvf : vV vs = false := by simpa using hv
    rw [hvf]
    have hf : cpaA vs i j = false := cpa_no (fun hh => hv hh.1)
    have EA := Lib.hid (meanA_not hf)
    have HF := Lib.hid hf
    have S1 := Lib.hid (Z1.putAll z2 rfl)
    have S2 := Lib.hid (HB1.out.puts (b := w.heap.size + 1) (by omega) 0 (ints z2))
    clear hf hv hvf
    go_wp2_with (first | (refine build_law rfl 42 rfl _ build2z ?_) | (refine store_at rfl 42 _ _ rfl _ _ rfl rfl ?_ 2 ?_ ?_ ?_ ?_; rotate_left; (· (repeat (first | (with_reducible assumption) | ((with_reducible refine Has.box _ _ ?_ ?_) <;> (first | assumption | decide)) | (with_reducible refine Has.alloc ?_ _) | ((with_reducible refine Has.putOther ?_ _ _ ?_); rotate_left; omega; skip) | ((with_reducible refine Has.below ?_ ?_); rotate_left; assumption)))); (· (first | assumption | rfl)); (· kernel_rfl)))
    exact bodyPost_ret (res_has1 rfl _ _ (w.heap.size + 1) z2 2 _ (.bool false) rfl rfl S1.out Try.underlying42 rfl (by kernel_rfl)) rfl ⟨by rw [EA.out, HF.out], S2.out⟩
  rw [hv]
  go_wp2_with fail
  refine (l2Place_any i _).mono ?_
  rintro e w' ⟨rfl, rfl⟩
  by_cases hp : 0 ≤ i ∧ i < 6
  rotate_left
  · rw [decide_eq_false hp]
    have hf : cpaA vs i j = false := cpa_no (fun hh => hp hh.2.1)
    have EA := Lib.hid (meanA_not hf)
    have HF := Lib.hid hf
    have S1 := Lib.hid (Z1.putAll z2 rfl)
    have S2 := Lib.hid (HB1.out.puts (b := w.heap.size + 1) (by omega) 0 (ints z2))
    clear hf hp hv
    go_wp2_with (first | (refine build_law rfl 42 rfl _ build2z ?_) | (refine store_at rfl 42 _ _ rfl _ _ rfl rfl ?_ 2 ?_ ?_ ?_ ?_; rotate_left; (· (repeat (first | (with_reducible assumption) | ((with_reducible refine Has.box _ _ ?_ ?_) <;> (first | assumption | decide)) | (with_reducible refine Has.alloc ?_ _) | ((with_reducible refine Has.putOther ?_ _ _ ?_); rotate_left; omega; skip) | ((with_reducible refine Has.below ?_ ?_); rotate_left; assumption)))); (· (first | assumption | rfl)); (· kernel_rfl)))
    exact bodyPost_ret (res_has1 rfl _ _ (w.heap.size + 1) z2 2 _ (.bool false) rfl rfl S1.out Try.underlying42 rfl (by kernel_rfl)) rfl ⟨by rw [EA.out, HF.out], S2.out⟩
  rw [decide_eq_true hp]
  go_wp2_with fail
  refine (l2Place_any j _).mono ?_
  rintro e w' ⟨rfl, rfl⟩
  by_cases hq : 0 ≤ j ∧ j < 6
  rotate_left
  · rw [decide_eq_false hq]
    have hf : cpaA vs i j = false := cpa_no (fun hh => hq hh.2.2.1)
    have EA := Lib.hid (meanA_not hf)
    have HF := Lib.hid hf
    have S1 := Lib.hid (Z1.putAll z2 rfl)
    have S2 := Lib.hid (HB1.out.puts (b := w.heap.size + 1) (by omega) 0 (ints z2))
    clear hf hp hq hv
    go_wp2_with (first | (refine build_law rfl 42 rfl _ build2z ?_) | (refine store_at rfl 42 _ _ rfl _ _ rfl rfl ?_ 2 ?_ ?_ ?_ ?_; rotate_left; (· (repeat (first | (with_reducible assumption) | ((with_reducible refine Has.box _ _ ?_ ?_) <;> (first | assumption | decide)) | (with_reducible refine Has.alloc ?_ _) | ((with_reducible refine Has.putOther ?_ _ _ ?_); rotate_left; omega; skip) | ((with_reducible refine Has.below ?_ ?_); rotate_left; assumption)))); (· (first | assumption | rfl)); (· kernel_rfl)))
    exact bodyPost_ret (res_has1 rfl _ _ (w.heap.size + 1) z2 2 _ (.bool false) rfl rfl S1.out Try.underlying42 rfl (by kernel_rfl)) rfl ⟨by rw [EA.out, HF.out], S2.out⟩
  rw [decide_eq_true hq]
  obtain ⟨p0, hp0⟩ : ∃ p : Nat, i = (p : Int) := ⟨i.toNat, by omega⟩
  obtain ⟨q0, hq0⟩ : ∃ q : Nat, j = (q : Int) := ⟨j.toNat, by omega⟩
  have KC := Lib.hid (fun W => l7Can_any vs p0 q0 W h (by omega) (by omega))
  have EC := Lib.hid (cpa_can hv (show p0 < 6 by omega) (show q0 < 6 by omega))
  rw [← hp0, ← hq0] at EC KC
  clear hp hq hp0 hq0
  go_wp2_with (refine load_has rfl 31 _ rfl _ rfl ?_ 18 ?_ _ Try.underlying31 rfl ?_ ?_; rotate_left; (· (repeat (first | (with_reducible assumption) | ((with_reducible refine Has.box _ _ ?_ ?_) <;> (first | assumption | decide)) | (with_reducible refine Has.alloc ?_ _) | ((with_reducible refine Has.putOther ?_ _ _ ?_); rotate_left; omega; skip) | ((with_reducible refine Has.below ?_ ?_); rotate_left; assumption)))); (· kernel_rfl))
  refine (KC.out _).mono ?_
  rintro e w2 ⟨rfl, b2⟩
  have H2 := H1.below b2
  have Z2 := Z1.below b2
  have HB2 := Lib.hid (HB1.out.call b2)
  clear H1 Z1 HB1 b2 KC
  have H1 := H2
  have Z1 := Z2
  have HB1 := HB2
  clear H2 Z2 HB2
  rw [← EC.out]
  by_cases hc : cpaA vs i j = true
  rotate_left
  · have hcf : cpaA vs i j = false := by simpa using hc
    rw [hcf]
    have hf : cpaA vs i j = false := hcf
    have EA := Lib.hid (meanA_not hf)
    have HF := Lib.hid hf
    have S1 := Lib.hid (Z1.putAll z2 rfl)
    have S2 := Lib.hid (HB1.out.puts (b := w.heap.size + 1) (by omega) 0 (ints z2))
    clear hf hc hcf hv
    go_wp2_with (first | (refine build_law rfl 42 rfl _ build2z ?_) | (refine store_at rfl 42 _ _ rfl _ _ rfl rfl ?_ 2 ?_ ?_ ?_ ?_; rotate_left; (· (repeat (first | (with_reducible assumption) | ((with_reducible refine Has.box _ _ ?_ ?_) <;> (first | assumption | decide)) | (with_reducible refine Has.alloc ?_ _) | ((with_reducible refine Has.putOther ?_ _ _ ?_); rotate_left; omega; skip) | ((with_reducible refine Has.below ?_ ?_); rotate_left; assumption)))); (· (first | assumption | rfl)); (· kernel_rfl)))
    exact bodyPost_ret (res_has1 rfl _ _ (w.heap.size + 1) z2 2 _ (.bool false) rfl rfl S1.out Try.underlying42 rfl (by kernel_rfl)) rfl ⟨by rw [EA.out, HF.out], S2.out⟩
  rw [hc]
  clear hv EC
  obtain ⟨p, q, m, c, mj, n, rfl, rfl, hp, hq, hv, T, hmj, hn, n1, hA⟩ := mean_open h hc
  have HA := Lib.hid hA
  have HC := Lib.hid hc
  have M0 := (hid_stk h hv).pos
  have n4 : n ≤ 4 := by omega
  have KT := Lib.hid (fun r W h1 h4 => l7Top_any vs p r m c W h hv hw hp T h1 h4)
  have MN := Lib.hid (fun r x h1 h4 => mean_nums h hv T n r n4 h1 x h4)
  have ME := Lib.hid (mean_end h hv T n)
  have HM := Lib.hid T.many
  have HJ := Lib.hid hmj
  have m4 := T.m4
  have m1 := T.m1
  clear hA hc hv T hmj hw h
  have E0 := Lib.hid (frac_zero (ordA (hid vs)) M0)
  have h01 : ([0, 1] : List Int).length = 2 := rfl
  have H2 := H1.alloc (.cells (ints [0, 1]).toArray 42)
  have Z2 := Z1.alloc (.cells (ints [0, 1]).toArray 42)
  have Y2 : Has (w2.alloc (.cells (ints [0, 1]).toArray 42)) w2.heap.size (frac (meanUp vs p n 0) (ordA (hid vs))) 2 := (Has.box w2 42 h01 (by omega)).asV E0.out.symm
  have HB2 := Lib.hid (HB1.out.alloc (.cells (ints [0, 1]).toArray 42))
  have hne : w.heap.size + 1 < w2.heap.size := by have := Z1.lt; omega
  have hhw := HB1.out.size
  clear H1 Z1 HB1 M0
  go_upto_region 4 with (refine store_new rfl 42 _ _ rfl _ _ _ rfl _ rfl [0, 1] rfl rfl ?_ ?_ ?_; (· (first | assumption | rfl)); (· kernel_rfl))
  clear h01
  generalize w2.alloc (.cells (ints [0, 1]).toArray 42) = W2 at *
  generalize w2.heap.size = b at *
  have EM := Lib.hid (show ∀ r, topF vs p r = frac (longN vs p r - longN vs p (r + 1)) (ordA (hid vs)) from fun r => rfl)
  have EU := Lib.hid (show ∀ k, meanUp vs p n (k + 1) = meanUp vs p n k + (longN vs p (k + 1) - longN vs p (k + 2)) * min (k + 1) n from fun k => rfl)
  go_wp2_with fail
  go_loopg [9] m (fun gk rr wr => ∃ k : Nat, gk = m - k ∧ k ≤ m ∧ rr = .int .i64 ((k : Int) + 1) ∧ Has wr w.heap.size vs 18 ∧ Has wr (w.heap.size + 1) z2 2 ∧ Has wr b (frac (meanUp vs p n k) (ordA (hid vs))) 2 ∧ Hid (Kept w wr))
  case atStart => exact ⟨0, rfl, by omega, rfl, H2, Z2, Y2, HB2⟩
  case round =>
    clear H2 Z2 Y2 HB2
    obtain ⟨k, rfl, hk, rfl, GH, GZ, GY, GB⟩ := hrel
    have c1 := GH.mCellX p hp HM.out
    have hpi : (p : Int) < 6 := by omega
    obtain ⟨l, hl⟩ : ∃ l : Nat, l = k + 1 := ⟨_, rfl⟩
    have el : (k : Int) + 1 = (l : Int) := by omega
    rw [el]
    have HL := Lib.hid hl
    have HEL := Lib.hid el
    clear el
    by_cases hlt : k < m
    · have dl : decide ((l : Int) ≤ (m : Int)) = true := decide_eq_true (by omega)
      have dn : decide (l ≤ m) = true := decide_eq_true (by omega)
      have wl : IntKind.i64.wrap ((l : Int) + 1) = (l : Int) + 1 := IntWalk.i64_in _ (by omega)
      have l1 : 1 ≤ l := by omega
      have l4 : l ≤ 4 := by omega
      have DK := Lib.hid (show m - (k + 1) < m - k by omega)
      have HK := Lib.hid (show k + 1 ≤ m from hlt)
      have EK := Lib.hid (show ((k : Int) + 1) + 1 = (((k + 1 : Nat) : Int)) + 1 by omega)
      have K1 := Lib.hid (fun W => KT.out l W l1 l4)
      have NN := MN.out l (min l n) l1 (by omega)
      rw [show l - 1 = k by omega] at NN
      have EU2 := Lib.hid (show meanUp vs p n (k + 1) = meanUp vs p n k + (longN vs p l - longN vs p (l + 1)) * min l n by rw [hl]; exact EU.out k)
      have ET := Lib.hid (EM.out l)
      have LN := Lib.hid (show min (l : Int) (n : Int) = ((min l n : Nat) : Int) by omega)
      have x4 : min l n ≤ 4 := by omega
      clear hl hlt
      go_wp2_with (refine load_has rfl 31 _ rfl _ rfl ?_ 18 ?_ _ Try.underlying31 rfl ?_ ?_; rotate_left; (· (repeat (first | (with_reducible assumption) | ((with_reducible refine Has.box _ _ ?_ ?_) <;> (first | assumption | decide)) | (with_reducible refine Has.alloc ?_ _) | ((with_reducible refine Has.putOther ?_ _ _ ?_); rotate_left; omega; skip) | ((with_reducible refine Has.below ?_ ?_); rotate_left; assumption)))); (· kernel_rfl))
      refine (K1.out _).mono ?_
      rintro e w5 ⟨rfl, b5⟩
      rw [ET.out]
      generalize meanUp vs p n k = S at *
      generalize longN vs p l - longN vs p (l + 1) = P at *
      generalize min l n = x at *
      generalize hMM : ordA (hid vs) = M at *
      have HMM := Lib.hid hMM
      clear hMM c1
      have lf := frac_len P M
      have GH6 := (GH.below b5).alloc (.cells (ints (frac P M)).toArray 42)
      have GZ6 := (GZ.below b5).alloc (.cells (ints (frac P M)).toArray 42)
      have GY6 := (GY.below b5).alloc (.cells (ints (frac P M)).toArray 42)
      have GD6 := Has.box w5 42 lf (by omega)
      have GB6 := Lib.hid ((GB.out.call b5).alloc (.cells (ints (frac P M)).toArray 42))
      have hbd : b < w5.heap.size := (GY.below b5).lt
      clear GH GZ GY GB b5
      go_upto_region 8 with (refine store_new rfl 42 _ _ rfl _ _ _ rfl _ rfl _ rfl rfl ?_ ?_ ?_; (· (first | assumption | rfl)); (· kernel_rfl))
      generalize w5.alloc (.cells (ints (frac P M)).toArray 42) = W6 at *
      generalize w5.heap.size = d at *
      have hi2 : (Try.prog.info? 42).map (·.size) = some (ints (frac S M)).length := by rw [ints_len, frac_len]; kernel_rfl
      have hi3 : (Try.prog.info? 42).map (·.size) = some 2 := by kernel_rfl
      obtain ⟨A, hA2⟩ : ∃ A, A = cutN P M * x := ⟨_, rfl⟩
      have hAb : A ≤ 23328 * 4 := by rw [hA2]; exact Nat.mul_le_mul NN.b3 x4
      have wA : IntKind.i64.wrap (((cutN P M : Nat) : Int) * (x : Int)) = (A : Int) := by rw [← Int.natCast_mul, ← hA2, IntWalk.i64_in _ (by omega)]
      have wA2 : ((cutN P M : Nat) : Int) * (x : Int) = (A : Int) := by rw [← Int.natCast_mul, ← hA2]
      have wA3 : IntKind.i64.wrap (A : Int) = (A : Int) := IntWalk.i64_in _ (by omega)
      have wn : IntKind.i64.wrap (4 - (mj : Int)) = (n : Int) := by rw [IntWalk.i64_in _ (by omega)]; omega
      have wn2 : (4 : Int) - (mj : Int) = (n : Int) := by omega
      have wn3 : IntKind.i64.wrap (n : Int) = (n : Int) := IntWalk.i64_in _ (by omega)
      have hqi : (q : Int) < 6 := by omega
      have E1 := Lib.hid (show frac A (cutD P M) = frac (P * x) M by rw [hA2]; exact NN.e1)
      have KD := Lib.hid (fun W => l7Cut_any A (cutD P M) W NN.b1 (by omega) (by have := NN.b2; omega))
      have KP : Hid (∀ W, Calls Try.prog 61 #[.agg (ints (frac S M)).toArray, .agg (ints (frac (P * x) M)).toArray] W fun e w' => e = .returned (.agg (ints (frac (S + P * x) M)).toArray) ∧ Kept W w') := Lib.hid (fun W => by
        have := l7Plus_any (cutN S M) (cutD S M) (cutN (P * x) M) (cutD (P * x) M) W NN.a3 NN.a2 NN.c3 NN.c2 NN.a1 NN.c1
        rw [row_ints, row_ints, NN.e2] at this
        exact this)
      have hwb : w.heap.size ≤ b := by omega
      clear NN hA2 hAb lf x4
      refine wp_region_held_drew (S := fun w' => Has w' w.heap.size vs 18 ∧ Has w' (w.heap.size + 1) z2 2 ∧ (∃ zs, Has w' b zs 2) ∧ Has w' d (frac P M) 2 ∧ Kept w w') (by kernel_rfl) ⟨GH6.drew, GZ6.drew, ⟨_, GY6.drew⟩, GD6.drew, GB6.out.drewN 1⟩ (fun hHeld => ?_)
      have DY := GY6.drew
      clear GH6 GZ6 GY6 GD6 GB6
      generalize World.drew W6 = WD at *
      (refine wpAnyH_take (i := 1) (v := ?_) rfl (by kernel_rfl) (by kernel_rfl) (by kernel_rfl) (fun _ _ _ h => h) (Or.inl ⟨by rfl, ?_⟩) hHeld ?_; rotate_left; (· (intro w' hSw; go_simp; try with_reducible rfl)); (try simp only [List.getElem_toArray, List.getElem_cons_zero, List.getElem_cons_succ, Act.put, List.setIfInBounds_toArray, List.set_cons_zero, List.set_cons_succ])); (refine wpAnyH_take (i := 3) (v := ?_) rfl (by kernel_rfl) (by kernel_rfl) (by kernel_rfl) (fun _ _ _ h => h) (Or.inl ⟨by rfl, ?_⟩) hHeld ?_; rotate_left; (· (intro w' hSw; go_simp; try with_reducible rfl)); (try simp only [List.getElem_toArray, List.getElem_cons_zero, List.getElem_cons_succ, Act.put, List.setIfInBounds_toArray, List.set_cons_zero, List.set_cons_succ])); (refine wpAnyH_take (i := 4) (v := ?_) rfl (by kernel_rfl) (by kernel_rfl) (by kernel_rfl) (fun _ _ _ h => h) (Or.inl ⟨by rfl, ?_⟩) hHeld ?_; rotate_left; (· (intro w' hSw; go_simp; try with_reducible rfl)); (try simp only [List.getElem_toArray, List.getElem_cons_zero, List.getElem_cons_succ, Act.put, List.setIfInBounds_toArray, List.set_cons_zero, List.set_cons_succ])); (refine wpAnyH_take (i := 5) (v := ?_) rfl (by kernel_rfl) (by kernel_rfl) (by kernel_rfl) (fun _ _ _ h => h) (Or.inl ⟨by rfl, ?_⟩) hHeld ?_; rotate_left; (· (intro w' hSw; go_simp; try with_reducible rfl)); (try simp only [List.getElem_toArray, List.getElem_cons_zero, List.getElem_cons_succ, Act.put, List.setIfInBounds_toArray, List.set_cons_zero, List.set_cons_succ])); (refine wpAnyH_take (i := 6) (v := ?_) rfl (by kernel_rfl) (by kernel_rfl) (by kernel_rfl) (fun _ _ _ h => h) (Or.inl ⟨by rfl, ?_⟩) hHeld ?_; rotate_left; (· (intro w' hSw; go_simp; try with_reducible rfl)); (try simp only [List.getElem_toArray, List.getElem_cons_zero, List.getElem_cons_succ, Act.put, List.setIfInBounds_toArray, List.set_cons_zero, List.set_cons_succ])); (refine wpAnyH_take (i := 11) (v := ?_) rfl (by kernel_rfl) (by kernel_rfl) (by kernel_rfl) (fun _ _ _ h => h) (Or.inl ⟨by rfl, ?_⟩) hHeld ?_; rotate_left; (· (intro w' hSw; go_simp; try with_reducible rfl)); (try simp only [List.getElem_toArray, List.getElem_cons_zero, List.getElem_cons_succ, Act.put, List.setIfInBounds_toArray, List.set_cons_zero, List.set_cons_succ]))
      (refine wpAnyH_take (i := 2) (v := .int .i64 ((cutN P M : Nat) : Int)) rfl (by kernel_rfl) (by kernel_rfl) (by kernel_rfl) (fun _ _ _ h => h) (Or.inl ⟨by rfl, ?_⟩) hHeld ?_; (· (intro w' hSw; have q := hSw.2.2.2.1.cellX (k := 0) (x := ((cutN P M : Nat) : Int)) (by omega) rfl; clear hSw; go_simp; try with_reducible rfl)); (try simp only [List.getElem_toArray, List.getElem_cons_zero, List.getElem_cons_succ, Act.put, List.setIfInBounds_toArray, List.set_cons_zero, List.set_cons_succ]))
      (refine wpAnyH_take (i := 7) (v := .int .i64 (mj : Int)) rfl (by kernel_rfl) (by kernel_rfl) (by kernel_rfl) (fun _ _ _ h => h) (Or.inl ⟨by rfl, ?_⟩) hHeld ?_; (· (intro w' hSw; have q := hSw.1.mCellX q hq HJ.out; clear hSw; go_simp; try with_reducible rfl)); (try simp only [List.getElem_toArray, List.getElem_cons_zero, List.getElem_cons_succ, Act.put, List.setIfInBounds_toArray, List.set_cons_zero, List.set_cons_succ]))
      (refine wpAnyH_take (i := 12) (v := .int .i64 ((cutD P M : Nat) : Int)) rfl (by kernel_rfl) (by kernel_rfl) (by kernel_rfl) (fun _ _ _ h => h) (Or.inl ⟨by rfl, ?_⟩) hHeld ?_; (· (intro w' hSw; have q := hSw.2.2.2.1.cellX (k := 1) (x := ((cutD P M : Nat) : Int)) (by omega) rfl; clear hSw; go_simp; try with_reducible rfl)); (try simp only [List.getElem_toArray, List.getElem_cons_zero, List.getElem_cons_succ, Act.put, List.setIfInBounds_toArray, List.set_cons_zero, List.set_cons_succ]))
      (refine wpAnyH_take (i := 8) (v := .int .i64 (n : Int)) rfl (by kernel_rfl) (by kernel_rfl) (by kernel_rfl) (fun _ _ _ h => h) (Or.inl ⟨by rfl, ?_⟩) hHeld ?_; (· (intro w' hSw; have q := wn; clear hSw; go_simp; try with_reducible rfl)); (try simp only [List.getElem_toArray, List.getElem_cons_zero, List.getElem_cons_succ, Act.put, List.setIfInBounds_toArray, List.set_cons_zero, List.set_cons_succ]))
      refine wpAnyH_ready (rs := [0, 9]) (by kernel_rfl) (by simp) ?_
      refine AllReadyH.cons (o := _) rfl (fun K hK => ?_) (AllReadyH.cons (o := _) rfl (fun K hK => ?_) AllReadyH.nil)
      · simp only [List.getElem_toArray, List.getElem_cons_zero, List.getElem_cons_succ, Region.wanted, if_true]
        refine wp_load_mid _ _ rfl _ _ rfl (ints (frac S M)) _ DY.holds.range Try.underlying42 rfl hi2 ?_
        (try simp only [List.getElem_toArray, List.getElem_cons_zero, List.getElem_cons_succ, Act.put, List.setIfInBounds_toArray, List.set_cons_zero, List.set_cons_succ])
        refine hK.out _ _ hHeld (fun hHeld => ?_)
        clear hK K DY
        (refine wpAnyH_ready (rs := [9]) (by kernel_rfl) (by simp) ?_; refine AllReadyH.cons (o := _) rfl (fun K hK => ?_) AllReadyH.nil; (simp only [List.getElem_toArray, List.getElem_cons_zero, List.getElem_cons_succ, Region.wanted, if_true]))
        go_simp
        refine (fLeast_any (l : Int) (n : Int) _).mono ?_
        rintro e w7 ⟨rfl, rfl⟩
        rw [LN.out]
        dsimp only
        (try simp only [List.getElem_toArray, List.getElem_cons_zero, List.getElem_cons_succ, Act.put, List.setIfInBounds_toArray, List.set_cons_zero, List.set_cons_succ])
        refine hK.out _ _ hHeld (fun hHeld => ?_)
        clear hK K
        (refine wpAnyH_take (i := 10) (v := .int .i64 (A : Int)) rfl (by kernel_rfl) (by kernel_rfl) (by kernel_rfl) (fun _ _ _ h => h) (Or.inl ⟨by rfl, ?_⟩) hHeld ?_; (· (intro w' hSw; have q := wA; clear hSw; go_simp; try with_reducible rfl)); (try simp only [List.getElem_toArray, List.getElem_cons_zero, List.getElem_cons_succ, Act.put, List.setIfInBounds_toArray, List.set_cons_zero, List.set_cons_succ]))
        (refine wpAnyH_ready (rs := [13]) (by kernel_rfl) (by simp) ?_; refine AllReadyH.cons (o := _) rfl (fun K hK => ?_) AllReadyH.nil; (simp only [List.getElem_toArray, List.getElem_cons_zero, List.getElem_cons_succ, Region.wanted, if_true]))
        go_simp
        refine (KD.out _).mono ?_
        rintro e w8 ⟨rfl, b8⟩
        rw [E1.out]
        dsimp only
        (try simp only [List.getElem_toArray, List.getElem_cons_zero, List.getElem_cons_succ, Act.put, List.setIfInBounds_toArray, List.set_cons_zero, List.set_cons_succ])
        refine hK.out _ _ ⟨hHeld.1.below b8, hHeld.2.1.below b8, hHeld.2.2.1.elim fun zs hz => ⟨zs, hz.below b8⟩, hHeld.2.2.2.1.below b8, hHeld.2.2.2.2.call b8⟩ (fun hHeld => ?_)
        clear hK K b8
        (refine wpAnyH_ready (rs := [14]) (by kernel_rfl) (by simp) ?_; refine AllReadyH.cons (o := _) rfl (fun K hK => ?_) AllReadyH.nil; (simp only [List.getElem_toArray, List.getElem_cons_zero, List.getElem_cons_succ, Region.wanted, if_true]))
        go_simp
        refine (KP.out _).mono ?_
        rintro e w9 ⟨rfl, b9⟩
        dsimp only
        (try simp only [List.getElem_toArray, List.getElem_cons_zero, List.getElem_cons_succ, Act.put, List.setIfInBounds_toArray, List.set_cons_zero, List.set_cons_succ])
        refine hK.out _ _ ⟨hHeld.1.below b9, hHeld.2.1.below b9, hHeld.2.2.1.elim fun zs hz => ⟨zs, hz.below b9⟩, hHeld.2.2.2.1.below b9, hHeld.2.2.2.2.call b9⟩ (fun hHeld => ?_)
        clear hK K b9
        obtain ⟨zs, HY⟩ := hHeld.2.2.1
        have MY := Lib.hid (HY.putAll (frac (S + P * x) M) rfl)
        (refine wpAnyH_ready (rs := [15]) (by kernel_rfl) (by simp) ?_; refine AllReadyH.cons (o := _) rfl (fun K hK => ?_) AllReadyH.nil; (simp only [List.getElem_toArray, List.getElem_cons_zero, List.getElem_cons_succ, Region.wanted, if_true]); refine wp_store_mid _ _ _ rfl _ _ (ints (frac (S + P * x) M)).toArray rfl rfl (by simpa [ints_len, frac_len] using HY.there) (by simpa [ints_len, frac_len] using hi3) (all_oneCell_toArray (ints_one _)) ?_; (try simp only [List.getElem_toArray, List.getElem_cons_zero, List.getElem_cons_succ, Act.put, List.setIfInBounds_toArray, List.set_cons_zero, List.set_cons_succ, List.toList_toArray]); refine hK.out _ _ (⟨hHeld.1.putOther _ _ (by omega), hHeld.2.1.putOther _ _ (by omega), ⟨_, HY.putAll _ rfl⟩, hHeld.2.2.2.1.putOther _ _ (by omega), hHeld.2.2.2.2.puts (by omega) _ _⟩) (fun hHeld => ?_); clear hK K)
        refine wpAnyH_done (by kernel_rfl) ?_ _
        obtain ⟨A1, A2, _, _, A5⟩ := hHeld
        have A5 := Lib.hid A5
        clear HY hi2 hi3
        go_wp2_with fail
        go_roundg (m - (k + 1))
        case rel => exact ⟨k + 1, rfl, HK.out, by rw [← EK.out, HEL.out], A1, A2, by rw [EU2.out]; exact MY.out, A5⟩
        case measure => exact DK.out
      · simp only [List.getElem_toArray, List.getElem_cons_zero, List.getElem_cons_succ, Region.wanted, if_true]
        go_simp
        refine (fLeast_any (l : Int) (n : Int) _).mono ?_
        rintro e w7 ⟨rfl, rfl⟩
        rw [LN.out]
        dsimp only
        (try simp only [List.getElem_toArray, List.getElem_cons_zero, List.getElem_cons_succ, Act.put, List.setIfInBounds_toArray, List.set_cons_zero, List.set_cons_succ])
        refine hK.out _ _ hHeld (fun hHeld => ?_)
        clear hK K
        (refine wpAnyH_take (i := 10) (v := .int .i64 (A : Int)) rfl (by kernel_rfl) (by kernel_rfl) (by kernel_rfl) (fun _ _ _ h => h) (Or.inl ⟨by rfl, ?_⟩) hHeld ?_; (· (intro w' hSw; have q := wA; clear hSw; go_simp; try with_reducible rfl)); (try simp only [List.getElem_toArray, List.getElem_cons_zero, List.getElem_cons_succ, Act.put, List.setIfInBounds_toArray, List.set_cons_zero, List.set_cons_succ]))
        refine wpAnyH_ready (rs := [0, 13]) (by kernel_rfl) (by simp) ?_
        refine AllReadyH.cons (o := _) rfl (fun K hK => ?_) (AllReadyH.cons (o := _) rfl (fun K hK => ?_) AllReadyH.nil)
        · simp only [List.getElem_toArray, List.getElem_cons_zero, List.getElem_cons_succ, Region.wanted, if_true]
          refine wp_load_mid _ _ rfl _ _ rfl (ints (frac S M)) _ DY.holds.range Try.underlying42 rfl hi2 ?_
          (try simp only [List.getElem_toArray, List.getElem_cons_zero, List.getElem_cons_succ, Act.put, List.setIfInBounds_toArray, List.set_cons_zero, List.set_cons_succ])
          refine hK.out _ _ hHeld (fun hHeld => ?_)
          clear hK K DY
          (refine wpAnyH_ready (rs := [13]) (by kernel_rfl) (by simp) ?_; refine AllReadyH.cons (o := _) rfl (fun K hK => ?_) AllReadyH.nil; (simp only [List.getElem_toArray, List.getElem_cons_zero, List.getElem_cons_succ, Region.wanted, if_true]))
          go_simp
          refine (KD.out _).mono ?_
          rintro e w8 ⟨rfl, b8⟩
          rw [E1.out]
          dsimp only
          (try simp only [List.getElem_toArray, List.getElem_cons_zero, List.getElem_cons_succ, Act.put, List.setIfInBounds_toArray, List.set_cons_zero, List.set_cons_succ])
          refine hK.out _ _ ⟨hHeld.1.below b8, hHeld.2.1.below b8, hHeld.2.2.1.elim fun zs hz => ⟨zs, hz.below b8⟩, hHeld.2.2.2.1.below b8, hHeld.2.2.2.2.call b8⟩ (fun hHeld => ?_)
          clear hK K b8
          (refine wpAnyH_ready (rs := [14]) (by kernel_rfl) (by simp) ?_; refine AllReadyH.cons (o := _) rfl (fun K hK => ?_) AllReadyH.nil; (simp only [List.getElem_toArray, List.getElem_cons_zero, List.getElem_cons_succ, Region.wanted, if_true]))
          go_simp
          refine (KP.out _).mono ?_
          rintro e w9 ⟨rfl, b9⟩
          dsimp only
          (try simp only [List.getElem_toArray, List.getElem_cons_zero, List.getElem_cons_succ, Act.put, List.setIfInBounds_toArray, List.set_cons_zero, List.set_cons_succ])
          refine hK.out _ _ ⟨hHeld.1.below b9, hHeld.2.1.below b9, hHeld.2.2.1.elim fun zs hz => ⟨zs, hz.below b9⟩, hHeld.2.2.2.1.below b9, hHeld.2.2.2.2.call b9⟩ (fun hHeld => ?_)
          clear hK K b9
          obtain ⟨zs, HY⟩ := hHeld.2.2.1
          have MY := Lib.hid (HY.putAll (frac (S + P * x) M) rfl)
          (refine wpAnyH_ready (rs := [15]) (by kernel_rfl) (by simp) ?_; refine AllReadyH.cons (o := _) rfl (fun K hK => ?_) AllReadyH.nil; (simp only [List.getElem_toArray, List.getElem_cons_zero, List.getElem_cons_succ, Region.wanted, if_true]); refine wp_store_mid _ _ _ rfl _ _ (ints (frac (S + P * x) M)).toArray rfl rfl (by simpa [ints_len, frac_len] using HY.there) (by simpa [ints_len, frac_len] using hi3) (all_oneCell_toArray (ints_one _)) ?_; (try simp only [List.getElem_toArray, List.getElem_cons_zero, List.getElem_cons_succ, Act.put, List.setIfInBounds_toArray, List.set_cons_zero, List.set_cons_succ, List.toList_toArray]); refine hK.out _ _ (⟨hHeld.1.putOther _ _ (by omega), hHeld.2.1.putOther _ _ (by omega), ⟨_, HY.putAll _ rfl⟩, hHeld.2.2.2.1.putOther _ _ (by omega), hHeld.2.2.2.2.puts (by omega) _ _⟩) (fun hHeld => ?_); clear hK K)
          refine wpAnyH_done (by kernel_rfl) ?_ _
          obtain ⟨A1, A2, _, _, A5⟩ := hHeld
          have A5 := Lib.hid A5
          clear HY hi2 hi3
          go_wp2_with fail
          go_roundg (m - (k + 1))
          case rel => exact ⟨k + 1, rfl, HK.out, by rw [← EK.out, HEL.out], A1, A2, by rw [EU2.out]; exact MY.out, A5⟩
          case measure => exact DK.out
        · simp only [List.getElem_toArray, List.getElem_cons_zero, List.getElem_cons_succ, Region.wanted, if_true]
          go_simp
          refine (KD.out _).mono ?_
          rintro e w8 ⟨rfl, b8⟩
          rw [E1.out]
          dsimp only
          (try simp only [List.getElem_toArray, List.getElem_cons_zero, List.getElem_cons_succ, Act.put, List.setIfInBounds_toArray, List.set_cons_zero, List.set_cons_succ])
          refine hK.out _ _ ⟨hHeld.1.below b8, hHeld.2.1.below b8, hHeld.2.2.1.elim fun zs hz => ⟨zs, hz.below b8⟩, hHeld.2.2.2.1.below b8, hHeld.2.2.2.2.call b8⟩ (fun hHeld => ?_)
          have DY := DY.below b8
          clear hK K b8
          (refine wpAnyH_ready (rs := [0]) (by kernel_rfl) (by simp) ?_; refine AllReadyH.cons (o := _) rfl (fun K hK => ?_) AllReadyH.nil; (simp only [List.getElem_toArray, List.getElem_cons_zero, List.getElem_cons_succ, Region.wanted, if_true]))
          refine wp_load_mid _ _ rfl _ _ rfl (ints (frac S M)) _ DY.holds.range Try.underlying42 rfl hi2 ?_
          (try simp only [List.getElem_toArray, List.getElem_cons_zero, List.getElem_cons_succ, Act.put, List.setIfInBounds_toArray, List.set_cons_zero, List.set_cons_succ])
          refine hK.out _ _ hHeld (fun hHeld => ?_)
          clear hK K DY
          (refine wpAnyH_ready (rs := [14]) (by kernel_rfl) (by simp) ?_; refine AllReadyH.cons (o := _) rfl (fun K hK => ?_) AllReadyH.nil; (simp only [List.getElem_toArray, List.getElem_cons_zero, List.getElem_cons_succ, Region.wanted, if_true]))
          go_simp
          refine (KP.out _).mono ?_
          rintro e w9 ⟨rfl, b9⟩
          dsimp only
          (try simp only [List.getElem_toArray, List.getElem_cons_zero, List.getElem_cons_succ, Act.put, List.setIfInBounds_toArray, List.set_cons_zero, List.set_cons_succ])
          refine hK.out _ _ ⟨hHeld.1.below b9, hHeld.2.1.below b9, hHeld.2.2.1.elim fun zs hz => ⟨zs, hz.below b9⟩, hHeld.2.2.2.1.below b9, hHeld.2.2.2.2.call b9⟩ (fun hHeld => ?_)
          clear hK K b9
          obtain ⟨zs, HY⟩ := hHeld.2.2.1
          have MY := Lib.hid (HY.putAll (frac (S + P * x) M) rfl)
          (refine wpAnyH_ready (rs := [15]) (by kernel_rfl) (by simp) ?_; refine AllReadyH.cons (o := _) rfl (fun K hK => ?_) AllReadyH.nil; (simp only [List.getElem_toArray, List.getElem_cons_zero, List.getElem_cons_succ, Region.wanted, if_true]); refine wp_store_mid _ _ _ rfl _ _ (ints (frac (S + P * x) M)).toArray rfl rfl (by simpa [ints_len, frac_len] using HY.there) (by simpa [ints_len, frac_len] using hi3) (all_oneCell_toArray (ints_one _)) ?_; (try simp only [List.getElem_toArray, List.getElem_cons_zero, List.getElem_cons_succ, Act.put, List.setIfInBounds_toArray, List.set_cons_zero, List.set_cons_succ, List.toList_toArray]); refine hK.out _ _ (⟨hHeld.1.putOther _ _ (by omega), hHeld.2.1.putOther _ _ (by omega), ⟨_, HY.putAll _ rfl⟩, hHeld.2.2.2.1.putOther _ _ (by omega), hHeld.2.2.2.2.puts (by omega) _ _⟩) (fun hHeld => ?_); clear hK K)
          refine wpAnyH_done (by kernel_rfl) ?_ _
          obtain ⟨A1, A2, _, _, A5⟩ := hHeld
          have A5 := Lib.hid A5
          clear HY hi2 hi3
          go_wp2_with fail
          go_roundg (m - (k + 1))
          case rel => exact ⟨k + 1, rfl, HK.out, by rw [← EK.out, HEL.out], A1, A2, by rw [EU2.out]; exact MY.out, A5⟩
          case measure => exact DK.out
    · obtain rfl : k = m := by omega
      have dl : decide ((l : Int) ≤ (k : Int)) = false := decide_eq_false (by omega)
      have dn : decide (l ≤ k) = false := decide_eq_false (by omega)
      clear hl hlt
      have GY := GY.asV (show frac (meanUp vs p n k) (ordA (hid vs)) = frac (movS vs p n) (ordA (hid vs)) by rw [ME.out])
      generalize hF : frac (movS vs p n) (ordA (hid vs)) = fr at *
      have HF := Lib.hid hF
      have lfr : fr.length = 2 := GY.len
      have S1 := Lib.hid (GZ.putAll fr lfr)
      have S2 := Lib.hid (GB.out.puts (b := w.heap.size + 1) (by omega) 0 (ints fr))
      clear hF
      go_wp2_with (first | (refine load_has rfl 42 _ rfl _ rfl ?_ 2 ?_ _ Try.underlying42 rfl ?_ ?_; rotate_left; (· (repeat (first | (with_reducible assumption) | ((with_reducible refine Has.box _ _ ?_ ?_) <;> (first | assumption | decide)) | (with_reducible refine Has.alloc ?_ _) | ((with_reducible refine Has.putOther ?_ _ _ ?_); rotate_left; omega; skip) | ((with_reducible refine Has.below ?_ ?_); rotate_left; assumption)))); (· kernel_rfl)) | (refine store_at rfl 42 _ _ rfl _ _ rfl rfl ?_ 2 ?_ ?_ ?_ ?_; rotate_left; (· (repeat (first | (with_reducible assumption) | ((with_reducible refine Has.box _ _ ?_ ?_) <;> (first | assumption | decide)) | (with_reducible refine Has.alloc ?_ _) | ((with_reducible refine Has.putOther ?_ _ _ ?_); rotate_left; omega; skip) | ((with_reducible refine Has.below ?_ ?_); rotate_left; assumption)))); (· (first | assumption | rfl)); (· kernel_rfl)))
      exact bodyPost_ret (res_has1 rfl _ _ (w.heap.size + 1) fr 2 _ (.bool true) rfl rfl S1.out Try.underlying42 rfl (by kernel_rfl)) rfl ⟨by rw [HA.out, HC.out], S2.out⟩
set_option maxHeartbeats 400000 in
theorem lawMeanMoved (vs : List Int) (i : Int) (j : Int) (w : World) (h0 : vs.length = 18 ∧ ∀ n ∈ vs, (Lit.int .i64 n).wf = true) (fi : (Lit.int .i64 i).wf = true) (fj : (Lit.int .i64 j).wf = true) :
    Calls Try.prog 8 #[row vs, .int .i64 i, .int .i64 j] w fun e w' => e = .returned (.bool true) ∧ Kept w w' := by
  obtain ⟨h, hw⟩ := h0
  have wi := wf_in fi
  have wj := wf_in fj
  have hl : (meanA vs i j).length = 2 := meanA_len vs i j
  have HB := Lib.hid ((kept_refl w).alloc (.cells (ints vs).toArray 24))
  have H := Has.box w 24 h (by omega)
  have KS := Lib.hid (fun _W => specMean vs i j _W h hw)
  have KI := Lib.hid (fun _W => implMean vs i j _W h)
  clear hw fi fj
  rw [row_ints]
  go_enter Try.func8, Try.ntmps8
  go_wp2_with (refine load_has rfl 24 _ rfl _ rfl ?_ 18 ?_ _ Try.underlying24 rfl ?_ ?_; rotate_left; (· (repeat (first | (with_reducible assumption) | ((with_reducible refine Has.box _ _ ?_ ?_) <;> (first | assumption | decide)) | (with_reducible refine Has.alloc ?_ _) | ((with_reducible refine Has.putOther ?_ _ _ ?_); rotate_left; omega; skip) | ((with_reducible refine Has.below ?_ ?_); rotate_left; assumption)))); (· kernel_rfl))
  refine (toView_any vs _ h).mono ?_
  rintro e w1 ⟨rfl, b1⟩
  have H1 := H.below b1
  have HB1 := Lib.hid (HB.out.call b1)
  clear H HB b1
  go_wp2_with fail
  refine (KS.out _).mono ?_
  rintro e w2 ⟨rfl, b2⟩
  have H2 := (H1.below b2).alloc (.cells (ints (meanA vs i j)).toArray 42)
  have R2 := Has.box w2 42 hl (by omega)
  have HB2 := Lib.hid ((HB1.out.call b2).alloc (.cells (ints (meanA vs i j)).toArray 42))
  clear H1 HB1 b2
  go_wp2_with (first | (refine store_new rfl 42 _ _ rfl _ _ _ rfl _ rfl _ rfl rfl ?_ ?_ ?_; (· (first | assumption | rfl)); (· kernel_rfl)) | (refine load_has rfl 24 _ rfl _ rfl ?_ 18 ?_ _ Try.underlying24 rfl ?_ ?_; rotate_left; (· (repeat (first | (with_reducible assumption) | ((with_reducible refine Has.box _ _ ?_ ?_) <;> (first | assumption | decide)) | (with_reducible refine Has.alloc ?_ _) | ((with_reducible refine Has.putOther ?_ _ _ ?_); rotate_left; omega; skip) | ((with_reducible refine Has.below ?_ ?_); rotate_left; assumption)))); (· kernel_rfl)))
  refine (toView_any vs _ h).mono ?_
  rintro e w3 ⟨rfl, b3⟩
  have R3 := R2.below b3
  have HB3 := Lib.hid (HB2.out.call b3)
  clear H2 R2 HB2 b3
  go_wp2_with fail
  refine (KI.out _).mono ?_
  rintro e w4 ⟨rfl, b4⟩
  have R4 := (R3.below b4).alloc (.cells (ints (meanA vs i j)).toArray 42)
  have Q4 := Has.box w4 42 hl (by omega)
  have HB4 := Lib.hid ((HB3.out.call b4).alloc (.cells (ints (meanA vs i j)).toArray 42))
  clear R3 HB3 b4
  go_wp2_with (first | (refine store_new rfl 42 _ _ rfl _ _ _ rfl _ rfl _ rfl rfl ?_ ?_ ?_; (· (first | assumption | rfl)); (· kernel_rfl)) | (refine load_has rfl 42 _ rfl _ rfl ?_ 2 ?_ _ Try.underlying42 rfl ?_ ?_; rotate_left; (· (repeat (first | (with_reducible assumption) | ((with_reducible refine Has.box _ _ ?_ ?_) <;> (first | assumption | decide)) | (with_reducible refine Has.alloc ?_ _) | ((with_reducible refine Has.putOther ?_ _ _ ?_); rotate_left; omega; skip) | ((with_reducible refine Has.below ?_ ?_); rotate_left; assumption)))); (· kernel_rfl)))
  refine (eqIntA2v (meanA vs i j) _ hl).mono ?_
  rintro e w5 ⟨rfl, b5⟩
  have HB5 := Lib.hid (HB4.out.call b5)
  clear R4 Q4 HB4 b5
  go_wp2_with fail
  go_ret
  exact ⟨rfl, HB5.out⟩
end Go.Proofs.Ytemiljokdedidab.base
