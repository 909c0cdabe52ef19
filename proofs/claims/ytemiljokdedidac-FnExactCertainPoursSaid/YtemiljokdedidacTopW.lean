/-
  How many candidates have long tops, and the chance of a top, on both sides, walked.
-/
import Derived.Test.YtemiljokdedidacVwMZ
import Derived.Test.YtemiljokdedidacFracWZ
import Derived.Test.YtemiljokdedidacVwS3
namespace Go.Proofs.Ytemiljokdedidac.base
open Go.ChangeShapes Go.WideShapes Go.ChangeAt Go.RowKit
set_option linter.unusedVariables false
set_option linter.unusedSimpArgs false

theorem Stk.big {s : List Int} {n : Nat} (h : Stk s n) (hn : n ≤ 18) : ordA s ≤ 101559956668416 := by
  have h1 := h.le
  have h3 : 6 ^ n ≤ 6 ^ 18 := Nat.pow_le_pow_right (by omega) hn
  have h4 : (6 : Nat) ^ 18 = 101559956668416 := by decide
  omega

set_option maxHeartbeats 800000 in
set_option maxRecDepth 100000 in
theorem longTops_any (vs : List Int) (i l m c : Nat) (w : World) (h : vs.length = 18) (hv : vV vs = true) (hi : i < 6) (T : TopFacts vs i m c) (h1 : 1 ≤ l) (hl : l ≤ 10) :
    Calls Try.prog 106 #[row vs, .int .i64 i, .int .i64 l] w fun e w' => e = .returned (.int .i64 (longN vs i l : Nat)) ∧ Kept w w' := by
  have H := Has.box w 28 h (by omega)
  have HB := Lib.hid ((kept_refl w).alloc (.cells (ints vs).toArray 28))
  have F := viewFacts h hv
  have hb := vV_bounds h hv
  have ht := F.tops
  have hii : (i : Int) < 6 := by omega
  have c1 := H.vCell 1 i (by omega) hi
  have e1 : (prt vs 1).getD i 0 = (m : Int) := T.many
  rw [e1] at c1
  simp only [Nat.one_mul] at c1
  rw [row_ints]
  go_enter Try.func106, Try.ntmps106
  go_upto_region 1 with fail
  generalize w.alloc (.cells (ints vs).toArray 28) = W at *
  by_cases hm : l ≤ m
  rotate_left
  · have E := Lib.hid (long_no T (show m < l by omega))
    have dm : decide ((m : Int) < (l : Int)) = true := decide_eq_true (by omega)
    clear e1
    go_wp2_with fail
    go_ret
    exact ⟨by rw [E.out]; rfl, HB.out⟩
  have E := Lib.hid (long_yes T hm)
  have dm : decide ((m : Int) < (l : Int)) = false := decide_eq_false (by omega)
  have h6 := hid_len h
  go_wp2_with (refine load_has rfl 28 _ rfl _ rfl ?_ 18 ?_ _ Try.underlying28 rfl ?_ ?_; rotate_left; (· (repeat (first | (with_reducible assumption) | ((with_reducible refine Has.box _ _ ?_ ?_) <;> (first | assumption | decide)) | (with_reducible refine Has.alloc ?_ _) | ((with_reducible refine Has.putOther ?_ _ _ ?_); rotate_left; omega; skip) | ((with_reducible refine Has.below ?_ ?_); rotate_left; assumption)))); (· kernel_rfl))
  refine (hidden_any vs _ h ht hb).mono ?_
  rintro e w3 ⟨rfl, b3⟩
  have Y3 := Has.box w3 104 h6 (by omega)
  have H3 := (H.below b3).alloc (.cells (ints (hid vs)).toArray 104)
  have HB3 := Lib.hid ((HB.out.call b3).alloc (.cells (ints (hid vs)).toArray 104))
  have hne : w.heap.size < w3.heap.size := by have := (H.below b3).lt; omega
  clear H HB b3 c1 e1 hb ht
  rw [row_ints]
  go_upto_region 4 with (refine store_new rfl 104 _ _ rfl _ _ _ rfl _ rfl _ rfl rfl ?_ ?_ ?_; (· (first | assumption | rfl)); (· kernel_rfl))
  generalize w3.alloc (.cells (ints (hid vs)).toArray 104) = W3 at *
  generalize w3.heap.size = b at *
  have c0 := H3.vCell 0 i (by omega) hi
  have e0 : (prt vs 0).getD i 0 = (c : Int) := T.top
  rw [e0] at c0
  simp only [Nat.zero_mul, Nat.zero_add] at c0
  have hc6 := T.c6
  have hci : (c : Int) < 6 := by omega
  have g0 := F.nat c hc6
  have g1 := F.each c hc6
  obtain ⟨q, rfl⟩ : ∃ q, l = q + 1 := ⟨l - 1, by omega⟩
  have d0 := Y3.cell c hc6
  have f0 := Y3.free c hc6
  have Y4 := Y3.set c ((hid vs).getD c 0 - (q : Int)) hc6
  have HB4 := Lib.hid (HB3.out.set (b := b) (by omega) c (.int .i64 ((hid vs).getD c 0 - (q : Int))))
  have E2 := Lib.hid (show ordA ((hid vs).set c ((hid vs).getD c 0 - (q : Int))) = longN vs i (q + 1) by rw [E.out]; rfl)
  have hp : plUp ((hid vs).set c ((hid vs).getD c 0 - (q : Int))) 6 ≤ 18 := by
    have := plUp_setN (hid vs) c ((hid vs).getD c 0 - (q : Int)) h6 hc6
    have := F.small
    omega
  have l6 : ((hid vs).set c ((hid vs).getD c 0 - (q : Int))).length = 6 := by rw [List.length_set]; exact h6
  clear Y3 HB3 H3 F E e0 T
  generalize (hid vs).set c ((hid vs).getD c 0 - (q : Int)) = s2 at *
  generalize (hid vs).getD c 0 = x at *
  have wx : IntKind.i64.wrap (x - (q : Int)) = x - (q : Int) := IntWalk.i64_in _ (by omega)
  go_upto_region 5 with fail
  clear c0 d0 f0
  generalize W3.setCell ⟨b, c, none⟩ (.int .i64 (x - (q : Int))) = W4 at *
  go_wp2_with (refine load_has rfl 104 _ rfl _ rfl ?_ 6 ?_ _ Try.underlying104 rfl ?_ ?_; rotate_left; (· (repeat (first | (with_reducible assumption) | ((with_reducible refine Has.box _ _ ?_ ?_) <;> (first | assumption | decide)) | (with_reducible refine Has.alloc ?_ _) | ((with_reducible refine Has.putOther ?_ _ _ ?_); rotate_left; omega; skip) | ((with_reducible refine Has.below ?_ ?_); rotate_left; assumption)))); (· kernel_rfl))
  refine (orders_any s2 _ l6 hp).mono ?_
  rintro e w5 ⟨rfl, b5⟩
  have HB5 := Lib.hid (HB4.out.call b5)
  clear b5
  go_wp2_with fail
  go_ret
  exact ⟨by rw [E2.out]; rfl, HB5.out⟩

/-- What the machine reckons for one layer more. -/
theorem chain_nums (s : List Int) (c j n : Nat) (hS : Stk s n) (hn : n ≤ 18) (hc : c < 6) (hj : j < n) :
    ∃ X Y xs ys A B : Nat, X = cutN (leftN s c j) (ordA s) ∧ Y = cutD (leftN s c j) (ordA s) ∧ max (s.getD c 0 - (j : Int)) 0 = (xs : Int) ∧ (ys : Int) = (n : Int) - (j : Int)
      ∧ IntKind.i64.wrap ((X : Int) * (xs : Int)) = (A : Int) ∧ IntKind.i64.wrap ((Y : Int) * (ys : Int)) = (B : Int) ∧ 0 < B ∧ A ≤ 4611686018427387904 ∧ B ≤ 4611686018427387904
      ∧ frac A B = frac (leftN s c (j + 1)) (ordA s)
      ∧ ∃ A2 zs : Nat, (zs : Int) = (n : Int) - (j : Int) - (xs : Int) ∧ IntKind.i64.wrap ((X : Int) * (zs : Int)) = (A2 : Int) ∧ A2 ≤ 4611686018427387904 ∧ frac A2 B = frac (leftN s c j - leftN s c (j + 1)) (ordA s) ∧ xs ≤ 18 := by
  have hk : j < plUp s 6 := by rw [hS.pl]; exact hj
  have hM := hS.big hn
  have hp := hS.pos
  have hl : leftN s c j ≤ ordA s := by
    have key : ∀ k, k ≤ j → leftN s c k ≤ ordA s := by
      intro k
      induction k with
      | zero => intro _; rw [left_zero s c hS.len hc]; omega
      | succ k ih =>
        intro hk2
        exact Nat.le_trans (left_mono s c k hS.len hc hS.nat (by rw [hS.pl]; omega)) (ih (by omega))
    exact key j (by omega)
  have hX : cutN (leftN s c j) (ordA s) ≤ 101559956668416 := Nat.le_trans (cutN_le _ _) (by omega)
  have hY : cutD (leftN s c j) (ordA s) ≤ 101559956668416 := Nat.le_trans (cutD_le _ _) hM
  have hY0 := cutD_pos (leftN s c j) (ordA s) hp
  have g0 := hS.nat c hc
  have g1 := hS.each c hc
  obtain ⟨e1, e2⟩ := left_chain s c j hS.len hc hS.nat hk
  obtain ⟨e3, e4⟩ := left_stop s c j hS.len hc hS.nat hk
  rw [hS.pl] at e1 e2 e3 e4
  have b1 : cutN (leftN s c j) (ordA s) * ((s.getD c 0).toNat - j) ≤ 101559956668416 * 18 := Nat.mul_le_mul hX (by omega)
  have b2 : cutD (leftN s c j) (ordA s) * (n - j) ≤ 101559956668416 * 18 := Nat.mul_le_mul hY (by omega)
  have b3 : cutN (leftN s c j) (ordA s) * (n - j - ((s.getD c 0).toNat - j)) ≤ 101559956668416 * 18 := Nat.mul_le_mul hX (by omega)
  have p2 : 0 < cutD (leftN s c j) (ordA s) * (n - j) := Nat.mul_pos hY0 (by omega)
  refine ⟨_, _, (s.getD c 0).toNat - j, n - j, cutN (leftN s c j) (ordA s) * ((s.getD c 0).toNat - j), cutD (leftN s c j) (ordA s) * (n - j), rfl, rfl, by omega, by omega, ?_, ?_, p2, by omega, by omega, ?_, cutN (leftN s c j) (ordA s) * (n - j - ((s.getD c 0).toNat - j)), n - j - ((s.getD c 0).toNat - j), by omega, ?_, by omega, ?_, by omega⟩
  · rw [← Int.natCast_mul]; exact IntWalk.i64_in _ (by omega)
  · rw [← Int.natCast_mul]; exact IntWalk.i64_in _ (by omega)
  · unfold frac; rw [e1, e2]
  · rw [← Int.natCast_mul]; exact IntWalk.i64_in _ (by omega)
  · unfold frac; rw [e3, e4]

/-- The chance of a top of just r layers. -/
def topF (vs : List Int) (i r : Nat) : List Int := frac (longN vs i r - longN vs i (r + 1)) (ordA (hid vs))
theorem topF_len (vs : List Int) (i r : Nat) : (topF vs i r).length = 2 := rfl
theorem frac_self (b : Nat) (hb : 0 < b) : frac b b = [1, 1] := by
  obtain ⟨e1, e2⟩ := cut_self b hb
  unfold frac; rw [e1, e2]; rfl
theorem frac_zero (b : Nat) (hb : 0 < b) : frac 0 b = [0, 1] := by
  obtain ⟨e1, e2⟩ := cut_zero b hb
  unfold frac; rw [e1, e2]; rfl
set_option maxHeartbeats 3200000 in
set_option maxRecDepth 100000 in
theorem l7Top_any (vs : List Int) (i r m c : Nat) (w : World) (h : vs.length = 18) (hv : vV vs = true) (hw : Wf vs) (hi : i < 6) (T : TopFacts vs i m c) (h1 : 1 ≤ r) (h4 : r ≤ 4) :
    Calls Try.prog 32 #[row vs, .int .i64 i, .int .i64 r] w fun e w' => e = .returned (.agg (ints (topF vs i r)).toArray) ∧ Kept w w' := by
  have H := (Has.box w 28 h (by omega)).alloc (.cells #[.int .i64 0, .int .i64 0] 33)
  have Z := (Has.zero2v (w.alloc (.cells (ints vs).toArray 28)) 33).at (size1 _ _)
  have HB := Lib.hid (((kept_refl w).alloc (.cells (ints vs).toArray 28)).alloc (.cells #[.int .i64 0, .int .i64 0] 33))
  have F := viewFacts h hv
  have hst := hid_stk h hv
  have h6 := hid_len h
  have ES := hid_same h hv
  have hii : (i : Int) < 6 := by omega
  rw [row_ints]
  go_enter Try.func32, Try.ntmps32
  go_wp2_with (refine load_has rfl 28 _ rfl _ rfl ?_ 18 ?_ _ Try.underlying28 rfl ?_ ?_; rotate_left; (· (repeat (first | (with_reducible assumption) | ((with_reducible refine Has.box _ _ ?_ ?_) <;> (first | assumption | decide)) | (with_reducible refine Has.alloc ?_ _) | ((with_reducible refine Has.putOther ?_ _ _ ?_); rotate_left; omega; skip) | ((with_reducible refine Has.below ?_ ?_); rotate_left; assumption)))); (· kernel_rfl))
  refine (l7Hidden_any vs _ h F.tops hw).mono ?_
  rintro e w3 ⟨rfl, b3⟩
  rw [ES]
  have Z3 := (Z.below b3).alloc (.cells (ints (hid vs)).toArray 22)
  have H3 := (H.below b3).alloc (.cells (ints (hid vs)).toArray 22)
  have HB3 := Lib.hid ((HB.out.call b3).alloc (.cells (ints (hid vs)).toArray 22))
  have Y3 := Has.box w3 22 h6 (by omega)
  have hne : w.heap.size + 1 < w3.heap.size := by have := (Z.below b3).lt; omega
  clear H Z HB b3 ES hw
  go_upto_region 2 with (refine store_new rfl 22 _ _ rfl _ _ _ rfl _ rfl _ rfl rfl ?_ ?_ ?_; (· (first | assumption | rfl)); (· kernel_rfl))
  generalize w3.alloc (.cells (ints (hid vs)).toArray 22) = W3 at *
  generalize w3.heap.size = b at *
  have EN : belUp vs 6 = (plUp (hid vs) 6 : Nat) := F.pl.symm
  rw [EN]
  have c1 := H3.vCell 1 i (by omega) hi
  have e1 : (prt vs 1).getD i 0 = (m : Int) := T.many
  rw [e1] at c1
  simp only [Nat.one_mul] at c1
  have TT := Lib.hid T
  have HH := Lib.hid h
  have M0 := Lib.hid hst.pos
  by_cases hm : r ≤ m
  rotate_left
  · have E := Lib.hid (show topF vs i r = [0, 1] by unfold topF; rw [long_no T (show m < r by omega), long_no T (show m < r + 1 by omega)]; exact frac_zero _ M0.out)
    have dm : decide ((m : Int) < (r : Int)) = true := decide_eq_true (by omega)
    have S1 := Lib.hid (Z3.putAll [0, 1] rfl)
    have S2 := Lib.hid (HB3.out.puts (b := w.heap.size + 1) (by omega) 0 (ints [0, 1]))
    have lz : ([0, 1] : List Int).length = 2 := rfl
    clear e1 EN F hst
    go_wp2_with (refine store_at rfl 33 _ _ rfl _ [0, 1] rfl rfl z2 2 Z3 rfl ?_ ?_; (· kernel_rfl))
    exact bodyPost_ret (res_has rfl _ _ (w.heap.size + 1) [0, 1] 2 _ rfl S1.out Try.underlying33 rfl (by kernel_rfl)) rfl ⟨by rw [E.out], S2.out⟩
  have dm : decide ((m : Int) < (r : Int)) = false := decide_eq_false (by omega)
  have hm' := T.room
  have c0 := H3.vCell 0 i (by omega) hi
  have e0 : (prt vs 0).getD i 0 = (c : Int) := T.top
  rw [e0] at c0
  simp only [Nat.zero_mul, Nat.zero_add] at c0
  have hc6 := T.c6
  have hci : (c : Int) < 6 := by omega
  have d0 := Y3.cell c hc6
  have n18 := F.small
  have CH := Lib.hid (fun j hj => chain_nums (hid vs) c j (plUp (hid vs) 6) hst n18 hc6 hj)
  have g0 := F.nat c hc6
  have g1 := F.each c hc6
  have E0 := Lib.hid (show ([1, 1] : List Int) = frac (leftN (hid vs) c 0) (ordA (hid vs)) by rw [left_zero _ _ h6 hc6]; exact (frac_self _ M0.out).symm)
  have LY := Lib.hid (fun l (hl : l ≤ m) => long_yes T hl)
  have LN := Lib.hid (fun l (hl : m < l) => long_no T hl)
  have lW : w.heap.size + 1 < W3.heap.size := Z3.lt
  have H4 := H3.alloc (.cells #[.int .i64 1, .int .i64 1] 33)
  have Z4 := Z3.alloc (.cells #[.int .i64 1, .int .i64 1] 33)
  have O4 := (Has.box W3 33 (ns := [1, 1]) (n := 2) rfl (by decide)).asV E0.out
  have HB4 := Lib.hid (HB3.out.alloc (.cells #[.int .i64 1, .int .i64 1] 33))
  have m1 := T.m1
  clear F EN hst H3 Z3 HB3 Y3 e0 e1 T h
  generalize plUp (hid vs) 6 = n at *
  generalize hsc : (hid vs).getD c 0 = sc at *
  have HSC := Lib.hid hsc
  clear hsc
  go_upto_region 5 with fail
  rw [show decide (m < r) = false from decide_eq_false (by omega)]
  clear c0 d0 dm
  have O5 : Has (W3.alloc (.cells #[.int .i64 1, .int .i64 1] 33)) W3.heap.size (frac (leftN (hid vs) c 0) (ordA (hid vs))) 2 := O4
  clear O4 c1
  generalize W3.alloc (.cells #[.int .i64 1, .int .i64 1] 33) = W4 at *
  generalize W3.heap.size = bo at *
  go_wp2_with fail
  go_loopg [7, 9, 11] (r - 1) (fun gk mm ss kk wr => ∃ j : Nat, gk = r - (j + 1) ∧ j + 1 ≤ r ∧ kk = .int .i64 ((j : Int) + 1) ∧ mm = .int .i64 ((n : Int) - (j : Int)) ∧ ss = .int .i64 (sc - (j : Int)) ∧ Has wr w.heap.size vs 18 ∧ Has wr (w.heap.size + 1) z2 2 ∧ Has wr bo (frac (leftN (hid vs) c j) (ordA (hid vs))) 2 ∧ Hid (Kept w wr))
  case atStart => exact ⟨0, by omega, by omega, rfl, by simp, by simp, H4, Z4, O5, HB4⟩
  case round =>
    clear H4 Z4 O5 HB4
    obtain ⟨j, rfl, hj, rfl, rfl, rfl, GH, GZ, GO, GB⟩ := hrel
    have hi2 : (Try.prog.info? 33).map (·.size) = some 2 := by kernel_rfl
    by_cases hjr : j + 1 < r
    · have hji : decide ((j : Int) + 1 < (r : Int)) = true := decide_eq_true (by omega)
      obtain ⟨X, Y, xs, ys, NA, NB, x1, x2, x3, x4, x5, x6, x7, x8, x9, x10, NA2, zs, x11⟩ := CH.out j (by omega)
      clear x11
      have d0 : wr.cell? ⟨bo, 0, none⟩ = some (.int .i64 (X : Int)) := by rw [x1]; exact GO.cell 0 (by omega)
      have d1 : wr.cell? ⟨bo, 1, none⟩ = some (.int .i64 (Y : Int)) := by rw [x2]; exact GO.cell 1 (by omega)
      have KM : ∀ W : World, Calls Try.prog 34 #[.int .i64 (sc - (j : Int)), .int .i64 0] W fun e w' => e = .returned (.int .i64 (xs : Int)) ∧ w' = W := fun W => by
        have := fMost_any (sc - (j : Int)) 0 W
        rw [x3] at this; exact this
      have HM := Lib.hid KM
      have KC := Lib.hid (fun W => l7Cut_any NA NB W x7 x8 x9)
      rw [x10] at KC
      have s1 : IntKind.i64.wrap (sc - (j : Int) - 1) = sc - (j : Int) - 1 := IntWalk.i64_in _ (by omega)
      have s2 : IntKind.i64.wrap ((n : Int) - (j : Int) - 1) = (n : Int) - (j : Int) - 1 := IntWalk.i64_in _ (by omega)
      have HJ := Lib.hid (show j + 1 + 1 ≤ r from hjr)
      have DJ := Lib.hid (show r - (j + 1 + 1) < r - (j + 1) by omega)
      have y6 : IntKind.i64.wrap ((Y : Int) * ((n : Int) - (j : Int))) = (NB : Int) := by rw [← x4]; exact x6
      clear x1 x2 x3 x4 x6 x7 x8 x9 x10 KM
      generalize hR : frac (leftN (hid vs) c (j + 1)) (ordA (hid vs)) = R at *
      have lR : R.length = 2 := by rw [← hR]; rfl
      have HR := Lib.hid hR
      clear hR
      have lf : (ints R).length = 2 := by rw [ints_len]; exact lR
      generalize frac (leftN (hid vs) c j) (ordA (hid vs)) = R0 at *
      go_wp2_with fail
      refine wp_region_held_drew (S := (fun w' => (∃ zs, Has w' bo zs 2) ∧ Has w' w.heap.size vs 18 ∧ Has w' (w.heap.size + 1) z2 2 ∧ Kept w w')) (by kernel_rfl) ⟨⟨_, GO.drew⟩, GH.drew, GZ.drew, GB.out.drewN 1⟩ (fun hHeld => ?_)
      have d0' : (World.drew wr).cell? ⟨bo, 0, none⟩ = some (.int .i64 (X : Int)) := d0
      have d1' : (World.drew wr).cell? ⟨bo, 1, none⟩ = some (.int .i64 (Y : Int)) := d1
      clear d0 d1 GO GH GZ GB
      generalize World.drew wr = WD at *
      (refine wpAnyH_take (i := 0) (v := ?_) rfl (by kernel_rfl) (by kernel_rfl) (by kernel_rfl) (fun _ _ _ h => h) (Or.inl ⟨by rfl, ?_⟩) hHeld ?_; rotate_left; (· (intro w' hSw; go_simp; try with_reducible rfl)); (try simp only [List.getElem_toArray, List.getElem_cons_zero, List.getElem_cons_succ, Act.put, List.setIfInBounds_toArray, List.set_cons_zero, List.set_cons_succ]))
      (refine wpAnyH_take (i := 2) (v := ?_) rfl (by kernel_rfl) (by kernel_rfl) (by kernel_rfl) (fun _ _ _ h => h) (Or.inl ⟨by rfl, ?_⟩) hHeld ?_; rotate_left; (· (intro w' hSw; go_simp; try with_reducible rfl)); (try simp only [List.getElem_toArray, List.getElem_cons_zero, List.getElem_cons_succ, Act.put, List.setIfInBounds_toArray, List.set_cons_zero, List.set_cons_succ]))
      (refine wpAnyH_take (i := 5) (v := ?_) rfl (by kernel_rfl) (by kernel_rfl) (by kernel_rfl) (fun _ _ _ h => h) (Or.inl ⟨by rfl, ?_⟩) hHeld ?_; rotate_left; (· (intro w' hSw; go_simp; try with_reducible rfl)); (try simp only [List.getElem_toArray, List.getElem_cons_zero, List.getElem_cons_succ, Act.put, List.setIfInBounds_toArray, List.set_cons_zero, List.set_cons_succ]))
      (refine wpAnyH_take (i := 7) (v := ?_) rfl (by kernel_rfl) (by kernel_rfl) (by kernel_rfl) (fun _ _ _ h => h) (Or.inl ⟨by rfl, ?_⟩) hHeld ?_; rotate_left; (· (intro w' hSw; go_simp; try with_reducible rfl)); (try simp only [List.getElem_toArray, List.getElem_cons_zero, List.getElem_cons_succ, Act.put, List.setIfInBounds_toArray, List.set_cons_zero, List.set_cons_succ]))
      refine wpAnyH_ready (rs := [1, 3, 6]) (by kernel_rfl) (by simp) ?_
      refine AllReadyH.cons (o := _) rfl (fun K hK => ?_) (AllReadyH.cons (o := _) rfl (fun K hK => ?_) (AllReadyH.cons (o := _) rfl (fun K hK => ?_) AllReadyH.nil))
      (simp only [List.getElem_toArray, List.getElem_cons_zero, List.getElem_cons_succ, Region.wanted, if_true])
      go_simp
      (try simp only [List.getElem_toArray, List.getElem_cons_zero, List.getElem_cons_succ, Act.put, List.setIfInBounds_toArray, List.set_cons_zero, List.set_cons_succ])
      refine hK.out _ _ hHeld (fun hHeld => ?_)
      clear hK K
      refine wpAnyH_ready (rs := [3, 6]) (by kernel_rfl) (by simp) ?_
      refine AllReadyH.cons (o := _) rfl (fun K hK => ?_) (AllReadyH.cons (o := _) rfl (fun K hK => ?_) AllReadyH.nil)
      (simp only [List.getElem_toArray, List.getElem_cons_zero, List.getElem_cons_succ, Region.wanted, if_true])
      go_simp
      refine (HM.out _).mono ?_
      rintro e w' ⟨rfl, rfl⟩
      dsimp only
      (try simp only [List.getElem_toArray, List.getElem_cons_zero, List.getElem_cons_succ, Act.put, List.setIfInBounds_toArray, List.set_cons_zero, List.set_cons_succ])
      refine hK.out _ _ hHeld (fun hHeld => ?_)
      clear hK K
      (refine wpAnyH_take (i := 4) (v := ?_) rfl (by kernel_rfl) (by kernel_rfl) (by kernel_rfl) (fun _ _ _ h => h) (Or.inl ⟨by rfl, ?_⟩) hHeld ?_; rotate_left; (· (intro w' hSw; go_simp; try with_reducible rfl)); (try simp only [List.getElem_toArray, List.getElem_cons_zero, List.getElem_cons_succ, Act.put, List.setIfInBounds_toArray, List.set_cons_zero, List.set_cons_succ]))
      (refine wpAnyH_ready (rs := [6]) (by kernel_rfl) (by simp) ?_; refine AllReadyH.cons (o := _) rfl (fun K hK => ?_) AllReadyH.nil; (simp only [List.getElem_toArray, List.getElem_cons_zero, List.getElem_cons_succ, Region.wanted, if_true]))
      go_simp
      (try simp only [List.getElem_toArray, List.getElem_cons_zero, List.getElem_cons_succ, Act.put, List.setIfInBounds_toArray, List.set_cons_zero, List.set_cons_succ])
      refine hK.out _ _ hHeld (fun hHeld => ?_)
      clear hK K
      (refine wpAnyH_take (i := 8) (v := ?_) rfl (by kernel_rfl) (by kernel_rfl) (by kernel_rfl) (fun _ _ _ h => h) (Or.inl ⟨by rfl, ?_⟩) hHeld ?_; rotate_left; (· (intro w' hSw; go_simp; try with_reducible rfl)); (try simp only [List.getElem_toArray, List.getElem_cons_zero, List.getElem_cons_succ, Act.put, List.setIfInBounds_toArray, List.set_cons_zero, List.set_cons_succ]))
      rotate_left
      (simp only [List.getElem_toArray, List.getElem_cons_zero, List.getElem_cons_succ, Region.wanted, if_true])
      go_simp
      (try simp only [List.getElem_toArray, List.getElem_cons_zero, List.getElem_cons_succ, Act.put, List.setIfInBounds_toArray, List.set_cons_zero, List.set_cons_succ])
      refine hK.out _ _ hHeld (fun hHeld => ?_)
      clear hK K
      (refine wpAnyH_take (i := 8) (v := ?_) rfl (by kernel_rfl) (by kernel_rfl) (by kernel_rfl) (fun _ _ _ h => h) (Or.inl ⟨by rfl, ?_⟩) hHeld ?_; rotate_left; (· (intro w' hSw; go_simp; try with_reducible rfl)); (try simp only [List.getElem_toArray, List.getElem_cons_zero, List.getElem_cons_succ, Act.put, List.setIfInBounds_toArray, List.set_cons_zero, List.set_cons_succ]))
      (refine wpAnyH_ready (rs := [3]) (by kernel_rfl) (by simp) ?_; refine AllReadyH.cons (o := _) rfl (fun K hK => ?_) AllReadyH.nil; (simp only [List.getElem_toArray, List.getElem_cons_zero, List.getElem_cons_succ, Region.wanted, if_true]))
      go_simp
      refine (HM.out _).mono ?_
      rintro e w' ⟨rfl, rfl⟩
      dsimp only
      (try simp only [List.getElem_toArray, List.getElem_cons_zero, List.getElem_cons_succ, Act.put, List.setIfInBounds_toArray, List.set_cons_zero, List.set_cons_succ])
      refine hK.out _ _ hHeld (fun hHeld => ?_)
      clear hK K
      (refine wpAnyH_take (i := 4) (v := ?_) rfl (by kernel_rfl) (by kernel_rfl) (by kernel_rfl) (fun _ _ _ h => h) (Or.inl ⟨by rfl, ?_⟩) hHeld ?_; rotate_left; (· (intro w' hSw; go_simp; try with_reducible rfl)); (try simp only [List.getElem_toArray, List.getElem_cons_zero, List.getElem_cons_succ, Act.put, List.setIfInBounds_toArray, List.set_cons_zero, List.set_cons_succ]))
      rotate_left
      (simp only [List.getElem_toArray, List.getElem_cons_zero, List.getElem_cons_succ, Region.wanted, if_true])
      go_simp
      refine (HM.out _).mono ?_
      rintro e w' ⟨rfl, rfl⟩
      dsimp only
      (try simp only [List.getElem_toArray, List.getElem_cons_zero, List.getElem_cons_succ, Act.put, List.setIfInBounds_toArray, List.set_cons_zero, List.set_cons_succ])
      refine hK.out _ _ hHeld (fun hHeld => ?_)
      clear hK K
      refine wpAnyH_ready (rs := [1, 6]) (by kernel_rfl) (by simp) ?_
      refine AllReadyH.cons (o := _) rfl (fun K hK => ?_) (AllReadyH.cons (o := _) rfl (fun K hK => ?_) AllReadyH.nil)
      (simp only [List.getElem_toArray, List.getElem_cons_zero, List.getElem_cons_succ, Region.wanted, if_true])
      go_simp
      (try simp only [List.getElem_toArray, List.getElem_cons_zero, List.getElem_cons_succ, Act.put, List.setIfInBounds_toArray, List.set_cons_zero, List.set_cons_succ])
      refine hK.out _ _ hHeld (fun hHeld => ?_)
      clear hK K
      (refine wpAnyH_take (i := 4) (v := ?_) rfl (by kernel_rfl) (by kernel_rfl) (by kernel_rfl) (fun _ _ _ h => h) (Or.inl ⟨by rfl, ?_⟩) hHeld ?_; rotate_left; (· (intro w' hSw; go_simp; try with_reducible rfl)); (try simp only [List.getElem_toArray, List.getElem_cons_zero, List.getElem_cons_succ, Act.put, List.setIfInBounds_toArray, List.set_cons_zero, List.set_cons_succ]))
      (refine wpAnyH_ready (rs := [6]) (by kernel_rfl) (by simp) ?_; refine AllReadyH.cons (o := _) rfl (fun K hK => ?_) AllReadyH.nil; (simp only [List.getElem_toArray, List.getElem_cons_zero, List.getElem_cons_succ, Region.wanted, if_true]))
      go_simp
      (try simp only [List.getElem_toArray, List.getElem_cons_zero, List.getElem_cons_succ, Act.put, List.setIfInBounds_toArray, List.set_cons_zero, List.set_cons_succ])
      refine hK.out _ _ hHeld (fun hHeld => ?_)
      clear hK K
      (refine wpAnyH_take (i := 8) (v := ?_) rfl (by kernel_rfl) (by kernel_rfl) (by kernel_rfl) (fun _ _ _ h => h) (Or.inl ⟨by rfl, ?_⟩) hHeld ?_; rotate_left; (· (intro w' hSw; go_simp; try with_reducible rfl)); (try simp only [List.getElem_toArray, List.getElem_cons_zero, List.getElem_cons_succ, Act.put, List.setIfInBounds_toArray, List.set_cons_zero, List.set_cons_succ]))
      rotate_left
      (simp only [List.getElem_toArray, List.getElem_cons_zero, List.getElem_cons_succ, Region.wanted, if_true])
      go_simp
      (try simp only [List.getElem_toArray, List.getElem_cons_zero, List.getElem_cons_succ, Act.put, List.setIfInBounds_toArray, List.set_cons_zero, List.set_cons_succ])
      refine hK.out _ _ hHeld (fun hHeld => ?_)
      clear hK K
      (refine wpAnyH_take (i := 8) (v := ?_) rfl (by kernel_rfl) (by kernel_rfl) (by kernel_rfl) (fun _ _ _ h => h) (Or.inl ⟨by rfl, ?_⟩) hHeld ?_; rotate_left; (· (intro w' hSw; go_simp; try with_reducible rfl)); (try simp only [List.getElem_toArray, List.getElem_cons_zero, List.getElem_cons_succ, Act.put, List.setIfInBounds_toArray, List.set_cons_zero, List.set_cons_succ]))
      (refine wpAnyH_ready (rs := [1]) (by kernel_rfl) (by simp) ?_; refine AllReadyH.cons (o := _) rfl (fun K hK => ?_) AllReadyH.nil; (simp only [List.getElem_toArray, List.getElem_cons_zero, List.getElem_cons_succ, Region.wanted, if_true]))
      go_simp
      (try simp only [List.getElem_toArray, List.getElem_cons_zero, List.getElem_cons_succ, Act.put, List.setIfInBounds_toArray, List.set_cons_zero, List.set_cons_succ])
      refine hK.out _ _ hHeld (fun hHeld => ?_)
      clear hK K
      (refine wpAnyH_take (i := 4) (v := ?_) rfl (by kernel_rfl) (by kernel_rfl) (by kernel_rfl) (fun _ _ _ h => h) (Or.inl ⟨by rfl, ?_⟩) hHeld ?_; rotate_left; (· (intro w' hSw; go_simp; try with_reducible rfl)); (try simp only [List.getElem_toArray, List.getElem_cons_zero, List.getElem_cons_succ, Act.put, List.setIfInBounds_toArray, List.set_cons_zero, List.set_cons_succ]))
      rotate_left
      (simp only [List.getElem_toArray, List.getElem_cons_zero, List.getElem_cons_succ, Region.wanted, if_true])
      go_simp
      (try simp only [List.getElem_toArray, List.getElem_cons_zero, List.getElem_cons_succ, Act.put, List.setIfInBounds_toArray, List.set_cons_zero, List.set_cons_succ])
      refine hK.out _ _ hHeld (fun hHeld => ?_)
      clear hK K
      (refine wpAnyH_take (i := 8) (v := ?_) rfl (by kernel_rfl) (by kernel_rfl) (by kernel_rfl) (fun _ _ _ h => h) (Or.inl ⟨by rfl, ?_⟩) hHeld ?_; rotate_left; (· (intro w' hSw; go_simp; try with_reducible rfl)); (try simp only [List.getElem_toArray, List.getElem_cons_zero, List.getElem_cons_succ, Act.put, List.setIfInBounds_toArray, List.set_cons_zero, List.set_cons_succ]))
      refine wpAnyH_ready (rs := [1, 3]) (by kernel_rfl) (by simp) ?_
      refine AllReadyH.cons (o := _) rfl (fun K hK => ?_) (AllReadyH.cons (o := _) rfl (fun K hK => ?_) AllReadyH.nil)
      (simp only [List.getElem_toArray, List.getElem_cons_zero, List.getElem_cons_succ, Region.wanted, if_true])
      go_simp
      (try simp only [List.getElem_toArray, List.getElem_cons_zero, List.getElem_cons_succ, Act.put, List.setIfInBounds_toArray, List.set_cons_zero, List.set_cons_succ])
      refine hK.out _ _ hHeld (fun hHeld => ?_)
      clear hK K
      (refine wpAnyH_ready (rs := [3]) (by kernel_rfl) (by simp) ?_; refine AllReadyH.cons (o := _) rfl (fun K hK => ?_) AllReadyH.nil; (simp only [List.getElem_toArray, List.getElem_cons_zero, List.getElem_cons_succ, Region.wanted, if_true]))
      go_simp
      refine (HM.out _).mono ?_
      rintro e w' ⟨rfl, rfl⟩
      dsimp only
      (try simp only [List.getElem_toArray, List.getElem_cons_zero, List.getElem_cons_succ, Act.put, List.setIfInBounds_toArray, List.set_cons_zero, List.set_cons_succ])
      refine hK.out _ _ hHeld (fun hHeld => ?_)
      clear hK K
      (refine wpAnyH_take (i := 4) (v := ?_) rfl (by kernel_rfl) (by kernel_rfl) (by kernel_rfl) (fun _ _ _ h => h) (Or.inl ⟨by rfl, ?_⟩) hHeld ?_; rotate_left; (· (intro w' hSw; go_simp; try with_reducible rfl)); (try simp only [List.getElem_toArray, List.getElem_cons_zero, List.getElem_cons_succ, Act.put, List.setIfInBounds_toArray, List.set_cons_zero, List.set_cons_succ]))
      rotate_left
      (simp only [List.getElem_toArray, List.getElem_cons_zero, List.getElem_cons_succ, Region.wanted, if_true])
      go_simp
      refine (HM.out _).mono ?_
      rintro e w' ⟨rfl, rfl⟩
      dsimp only
      (try simp only [List.getElem_toArray, List.getElem_cons_zero, List.getElem_cons_succ, Act.put, List.setIfInBounds_toArray, List.set_cons_zero, List.set_cons_succ])
      refine hK.out _ _ hHeld (fun hHeld => ?_)
      clear hK K
      (refine wpAnyH_ready (rs := [1]) (by kernel_rfl) (by simp) ?_; refine AllReadyH.cons (o := _) rfl (fun K hK => ?_) AllReadyH.nil; (simp only [List.getElem_toArray, List.getElem_cons_zero, List.getElem_cons_succ, Region.wanted, if_true]))
      go_simp
      (try simp only [List.getElem_toArray, List.getElem_cons_zero, List.getElem_cons_succ, Act.put, List.setIfInBounds_toArray, List.set_cons_zero, List.set_cons_succ])
      refine hK.out _ _ hHeld (fun hHeld => ?_)
      clear hK K
      (refine wpAnyH_take (i := 4) (v := ?_) rfl (by kernel_rfl) (by kernel_rfl) (by kernel_rfl) (fun _ _ _ h => h) (Or.inl ⟨by rfl, ?_⟩) hHeld ?_; rotate_left; (· (intro w' hSw; go_simp; try with_reducible rfl)); (try simp only [List.getElem_toArray, List.getElem_cons_zero, List.getElem_cons_succ, Act.put, List.setIfInBounds_toArray, List.set_cons_zero, List.set_cons_succ]))
      rotate_left
      all_goals
        (refine wpAnyH_ready (rs := [9]) (by kernel_rfl) (by simp) ?_; refine AllReadyH.cons (o := _) rfl (fun K hK => ?_) AllReadyH.nil; (simp only [List.getElem_toArray, List.getElem_cons_zero, List.getElem_cons_succ, Region.wanted, if_true]))
        go_simp
        refine (KC.out _).mono ?_
        rintro e wC ⟨rfl, bq⟩
        dsimp only
        (try simp only [List.getElem_toArray, List.getElem_cons_zero, List.getElem_cons_succ, Act.put, List.setIfInBounds_toArray, List.set_cons_zero, List.set_cons_succ])
        refine hK.out _ _ ⟨⟨_, hHeld.1.choose_spec.below bq⟩, hHeld.2.1.below bq, hHeld.2.2.1.below bq, hHeld.2.2.2.call bq⟩ (fun hHeld => ?_)
        clear hK K bq
        have S0 := hHeld.1.choose_spec
        have S1 := S0.putAll R lR
        have S2 := hHeld.2.1.putOther (b' := bo) 0 (ints R) (by omega)
        have S3 := hHeld.2.2.1.putOther (b' := bo) 0 (ints R) (by omega)
        have S4 := hHeld.2.2.2.puts (b := bo) (by omega) 0 (ints R)
        (refine wpAnyH_ready (rs := [10]) (by kernel_rfl) (by simp) ?_; refine AllReadyH.cons (o := _) rfl (fun K hK => ?_) AllReadyH.nil; (simp only [List.getElem_toArray, List.getElem_cons_zero, List.getElem_cons_succ, Region.wanted, if_true]); refine wp_store_mid _ _ _ rfl _ _ (ints R).toArray rfl rfl (by simpa [lf] using S0.there) (by simpa [lf] using hi2) (all_oneCell_toArray (ints_one _)) ?_; (try simp only [List.getElem_toArray, List.getElem_cons_zero, List.getElem_cons_succ, Act.put, List.setIfInBounds_toArray, List.set_cons_zero, List.set_cons_succ, List.toList_toArray]); refine hK.out _ _ (⟨⟨_, S1⟩, S2, S3, S4⟩) (fun hHeld => ?_); clear hK K)
        refine wpAnyH_done (by kernel_rfl) ?_ _
        have S1 := Lib.hid S1
        have S2 := Lib.hid S2
        have S3 := Lib.hid S3
        have S4 := Lib.hid S4
        clear hHeld
        clear d0' d1'
        go_wp2_with fail
        go_roundg (r - (j + 1 + 1))
        case rel => exact ⟨j + 1, rfl, HJ.out, by go_num, by go_num, by go_num, S2.out, S3.out, by rw [HR.out]; exact S1.out, S4⟩
        case measure => exact DJ.out
    · have hje : j + 1 = r := by omega
      have hji : decide ((j : Int) + 1 < (r : Int)) = false := decide_eq_false (by omega)
      have c1 := GH.vCell 1 i (by omega) hi
      have e1 : (prt vs 1).getD i 0 = (m : Int) := TT.out.many
      rw [e1] at c1
      simp only [Nat.one_mul] at c1
      clear e1
      by_cases hrm : r = m
      · have E := Lib.hid (show topF vs i r = frac (leftN (hid vs) c j) (ordA (hid vs)) by unfold topF; rw [LY.out r (by omega), LN.out (r + 1) (by omega), Nat.sub_zero, show r - 1 = j by omega])
        have S1 := Lib.hid (GZ.putAll (frac (leftN (hid vs) c j) (ordA (hid vs))) rfl)
        have S2 := Lib.hid (GB.out.puts (b := w.heap.size + 1) (by omega) 0 (ints (frac (leftN (hid vs) c j) (ordA (hid vs)))))
        have dr : decide ((r : Int) < (m : Int)) = false := decide_eq_false (by omega)
        have lf2 : (frac (leftN (hid vs) c j) (ordA (hid vs))).length = 2 := rfl
        generalize frac (leftN (hid vs) c j) (ordA (hid vs)) = R0 at *
        go_wp2_with (first | (refine load_has rfl 33 _ rfl _ rfl ?_ 2 ?_ _ Try.underlying33 rfl ?_ ?_; rotate_left; (· (repeat (first | (with_reducible assumption) | ((with_reducible refine Has.box _ _ ?_ ?_) <;> (first | assumption | decide)) | (with_reducible refine Has.alloc ?_ _) | ((with_reducible refine Has.putOther ?_ _ _ ?_); rotate_left; omega; skip) | ((with_reducible refine Has.below ?_ ?_); rotate_left; assumption)))); (· kernel_rfl)) | (refine store_at rfl 33 _ _ rfl _ _ rfl rfl ?_ 2 ?_ ?_ ?_ ?_; rotate_left; (· (repeat (first | (with_reducible assumption) | ((with_reducible refine Has.box _ _ ?_ ?_) <;> (first | assumption | decide)) | (with_reducible refine Has.alloc ?_ _) | ((with_reducible refine Has.putOther ?_ _ _ ?_); rotate_left; omega; skip) | ((with_reducible refine Has.below ?_ ?_); rotate_left; assumption)))); (· (first | assumption | rfl)); (· kernel_rfl)))
        exact bodyPost_ret (res_has rfl _ _ (w.heap.size + 1) R0 2 _ rfl S1.out Try.underlying33 rfl (by kernel_rfl)) rfl ⟨by rw [E.out], S2.out⟩
      · have hlt : r < m := by omega
        have dr : decide ((r : Int) < (m : Int)) = true := decide_eq_true (by omega)
        obtain ⟨X, Y, xs, ys, NA, NB, x1, x2, x3, x4, x5, x6, x7, x8, x9, x10, NA2, zs, x11, x12, x13, x14, x15⟩ := CH.out j (by omega)
        have d0 : wr.cell? ⟨bo, 0, none⟩ = some (.int .i64 (X : Int)) := by rw [x1]; exact GO.cell 0 (by omega)
        have d1 : wr.cell? ⟨bo, 1, none⟩ = some (.int .i64 (Y : Int)) := by rw [x2]; exact GO.cell 1 (by omega)
        have KM : ∀ W : World, Calls Try.prog 34 #[.int .i64 (sc - (j : Int)), .int .i64 0] W fun e w' => e = .returned (.int .i64 (xs : Int)) ∧ w' = W := fun W => by
          have := fMost_any (sc - (j : Int)) 0 W
          rw [x3] at this; exact this
        have HM := Lib.hid KM
        have KC := Lib.hid (fun W => l7Cut_any NA2 NB W x7 x13 x9)
        rw [x14] at KC
        have E := Lib.hid (show topF vs i r = frac (leftN (hid vs) c j - leftN (hid vs) c (j + 1)) (ordA (hid vs)) by unfold topF; rw [LY.out r (by omega), LY.out (r + 1) (by omega), show r - 1 = j by omega, show r + 1 - 1 = j + 1 by omega])
        have y1 : IntKind.i64.wrap ((n : Int) - (j : Int) - (xs : Int)) = (zs : Int) := by rw [← x11]; exact IntWalk.i64_in _ (by omega)
        have y6 : IntKind.i64.wrap ((Y : Int) * ((n : Int) - (j : Int))) = (NB : Int) := by rw [← x4]; exact x6
        clear x1 x2 x3 x4 x5 x6 x7 x8 x9 x10 x11 x13 x14 x15 KM
        generalize hR : frac (leftN (hid vs) c j - leftN (hid vs) c (j + 1)) (ordA (hid vs)) = R at *
        have lR : R.length = 2 := by rw [← hR]; rfl
        clear hR
        have lf : (ints R).length = 2 := by rw [ints_len]; exact lR
        generalize frac (leftN (hid vs) c j) (ordA (hid vs)) = R0 at *
        go_wp2_with fail
        refine wp_region_held_drew (S := (fun w' => (∃ zs, Has w' bo zs 2) ∧ Has w' w.heap.size vs 18 ∧ Has w' (w.heap.size + 1) z2 2 ∧ Kept w w')) (by kernel_rfl) ⟨⟨_, GO.drew⟩, GH.drew, GZ.drew, GB.out.drewN 1⟩ (fun hHeld => ?_)
        have d0' : (World.drew wr).cell? ⟨bo, 0, none⟩ = some (.int .i64 (X : Int)) := d0
        have d1' : (World.drew wr).cell? ⟨bo, 1, none⟩ = some (.int .i64 (Y : Int)) := d1
        clear d0 d1 GO GH GZ GB
        generalize World.drew wr = WD at *
        (refine wpAnyH_take (i := 0) (v := ?_) rfl (by kernel_rfl) (by kernel_rfl) (by kernel_rfl) (fun _ _ _ h => h) (Or.inl ⟨by rfl, ?_⟩) hHeld ?_; rotate_left; (· (intro w' hSw; go_simp; try with_reducible rfl)); (try simp only [List.getElem_toArray, List.getElem_cons_zero, List.getElem_cons_succ, Act.put, List.setIfInBounds_toArray, List.set_cons_zero, List.set_cons_succ]))
        (refine wpAnyH_take (i := 2) (v := ?_) rfl (by kernel_rfl) (by kernel_rfl) (by kernel_rfl) (fun _ _ _ h => h) (Or.inl ⟨by rfl, ?_⟩) hHeld ?_; rotate_left; (· (intro w' hSw; go_simp; try with_reducible rfl)); (try simp only [List.getElem_toArray, List.getElem_cons_zero, List.getElem_cons_succ, Act.put, List.setIfInBounds_toArray, List.set_cons_zero, List.set_cons_succ]))
        (refine wpAnyH_take (i := 3) (v := ?_) rfl (by kernel_rfl) (by kernel_rfl) (by kernel_rfl) (fun _ _ _ h => h) (Or.inl ⟨by rfl, ?_⟩) hHeld ?_; rotate_left; (· (intro w' hSw; go_simp; try with_reducible rfl)); (try simp only [List.getElem_toArray, List.getElem_cons_zero, List.getElem_cons_succ, Act.put, List.setIfInBounds_toArray, List.set_cons_zero, List.set_cons_succ]))
        (refine wpAnyH_take (i := 7) (v := ?_) rfl (by kernel_rfl) (by kernel_rfl) (by kernel_rfl) (fun _ _ _ h => h) (Or.inl ⟨by rfl, ?_⟩) hHeld ?_; rotate_left; (· (intro w' hSw; go_simp; try with_reducible rfl)); (try simp only [List.getElem_toArray, List.getElem_cons_zero, List.getElem_cons_succ, Act.put, List.setIfInBounds_toArray, List.set_cons_zero, List.set_cons_succ]))
        (refine wpAnyH_take (i := 9) (v := ?_) rfl (by kernel_rfl) (by kernel_rfl) (by kernel_rfl) (fun _ _ _ h => h) (Or.inl ⟨by rfl, ?_⟩) hHeld ?_; rotate_left; (· (intro w' hSw; go_simp; try with_reducible rfl)); (try simp only [List.getElem_toArray, List.getElem_cons_zero, List.getElem_cons_succ, Act.put, List.setIfInBounds_toArray, List.set_cons_zero, List.set_cons_succ]))
        refine wpAnyH_ready (rs := [1, 4, 8]) (by kernel_rfl) (by simp) ?_
        refine AllReadyH.cons (o := _) rfl (fun K hK => ?_) (AllReadyH.cons (o := _) rfl (fun K hK => ?_) (AllReadyH.cons (o := _) rfl (fun K hK => ?_) AllReadyH.nil))
        (simp only [List.getElem_toArray, List.getElem_cons_zero, List.getElem_cons_succ, Region.wanted, if_true])
        go_simp
        (try simp only [List.getElem_toArray, List.getElem_cons_zero, List.getElem_cons_succ, Act.put, List.setIfInBounds_toArray, List.set_cons_zero, List.set_cons_succ])
        refine hK.out _ _ hHeld (fun hHeld => ?_)
        clear hK K
        refine wpAnyH_ready (rs := [4, 8]) (by kernel_rfl) (by simp) ?_
        refine AllReadyH.cons (o := _) rfl (fun K hK => ?_) (AllReadyH.cons (o := _) rfl (fun K hK => ?_) AllReadyH.nil)
        (simp only [List.getElem_toArray, List.getElem_cons_zero, List.getElem_cons_succ, Region.wanted, if_true])
        go_simp
        refine (HM.out _).mono ?_
        rintro e w' ⟨rfl, rfl⟩
        dsimp only
        (try simp only [List.getElem_toArray, List.getElem_cons_zero, List.getElem_cons_succ, Act.put, List.setIfInBounds_toArray, List.set_cons_zero, List.set_cons_succ])
        refine hK.out _ _ hHeld (fun hHeld => ?_)
        clear hK K
        (refine wpAnyH_take (i := 5) (v := ?_) rfl (by kernel_rfl) (by kernel_rfl) (by kernel_rfl) (fun _ _ _ h => h) (Or.inl ⟨by rfl, ?_⟩) hHeld ?_; rotate_left; (· (intro w' hSw; go_simp; try with_reducible rfl)); (try simp only [List.getElem_toArray, List.getElem_cons_zero, List.getElem_cons_succ, Act.put, List.setIfInBounds_toArray, List.set_cons_zero, List.set_cons_succ]))
        (refine wpAnyH_take (i := 6) (v := ?_) rfl (by kernel_rfl) (by kernel_rfl) (by kernel_rfl) (fun _ _ _ h => h) (Or.inl ⟨by rfl, ?_⟩) hHeld ?_; rotate_left; (· (intro w' hSw; go_simp; try with_reducible rfl)); (try simp only [List.getElem_toArray, List.getElem_cons_zero, List.getElem_cons_succ, Act.put, List.setIfInBounds_toArray, List.set_cons_zero, List.set_cons_succ]))
        (refine wpAnyH_ready (rs := [8]) (by kernel_rfl) (by simp) ?_; refine AllReadyH.cons (o := _) rfl (fun K hK => ?_) AllReadyH.nil; (simp only [List.getElem_toArray, List.getElem_cons_zero, List.getElem_cons_succ, Region.wanted, if_true]))
        go_simp
        (try simp only [List.getElem_toArray, List.getElem_cons_zero, List.getElem_cons_succ, Act.put, List.setIfInBounds_toArray, List.set_cons_zero, List.set_cons_succ])
        refine hK.out _ _ hHeld (fun hHeld => ?_)
        clear hK K
        (refine wpAnyH_take (i := 10) (v := ?_) rfl (by kernel_rfl) (by kernel_rfl) (by kernel_rfl) (fun _ _ _ h => h) (Or.inl ⟨by rfl, ?_⟩) hHeld ?_; rotate_left; (· (intro w' hSw; go_simp; try with_reducible rfl)); (try simp only [List.getElem_toArray, List.getElem_cons_zero, List.getElem_cons_succ, Act.put, List.setIfInBounds_toArray, List.set_cons_zero, List.set_cons_succ]))
        rotate_left
        (simp only [List.getElem_toArray, List.getElem_cons_zero, List.getElem_cons_succ, Region.wanted, if_true])
        go_simp
        (try simp only [List.getElem_toArray, List.getElem_cons_zero, List.getElem_cons_succ, Act.put, List.setIfInBounds_toArray, List.set_cons_zero, List.set_cons_succ])
        refine hK.out _ _ hHeld (fun hHeld => ?_)
        clear hK K
        (refine wpAnyH_take (i := 10) (v := ?_) rfl (by kernel_rfl) (by kernel_rfl) (by kernel_rfl) (fun _ _ _ h => h) (Or.inl ⟨by rfl, ?_⟩) hHeld ?_; rotate_left; (· (intro w' hSw; go_simp; try with_reducible rfl)); (try simp only [List.getElem_toArray, List.getElem_cons_zero, List.getElem_cons_succ, Act.put, List.setIfInBounds_toArray, List.set_cons_zero, List.set_cons_succ]))
        (refine wpAnyH_ready (rs := [4]) (by kernel_rfl) (by simp) ?_; refine AllReadyH.cons (o := _) rfl (fun K hK => ?_) AllReadyH.nil; (simp only [List.getElem_toArray, List.getElem_cons_zero, List.getElem_cons_succ, Region.wanted, if_true]))
        go_simp
        refine (HM.out _).mono ?_
        rintro e w' ⟨rfl, rfl⟩
        dsimp only
        (try simp only [List.getElem_toArray, List.getElem_cons_zero, List.getElem_cons_succ, Act.put, List.setIfInBounds_toArray, List.set_cons_zero, List.set_cons_succ])
        refine hK.out _ _ hHeld (fun hHeld => ?_)
        clear hK K
        (refine wpAnyH_take (i := 5) (v := ?_) rfl (by kernel_rfl) (by kernel_rfl) (by kernel_rfl) (fun _ _ _ h => h) (Or.inl ⟨by rfl, ?_⟩) hHeld ?_; rotate_left; (· (intro w' hSw; go_simp; try with_reducible rfl)); (try simp only [List.getElem_toArray, List.getElem_cons_zero, List.getElem_cons_succ, Act.put, List.setIfInBounds_toArray, List.set_cons_zero, List.set_cons_succ]))
        (refine wpAnyH_take (i := 6) (v := ?_) rfl (by kernel_rfl) (by kernel_rfl) (by kernel_rfl) (fun _ _ _ h => h) (Or.inl ⟨by rfl, ?_⟩) hHeld ?_; rotate_left; (· (intro w' hSw; go_simp; try with_reducible rfl)); (try simp only [List.getElem_toArray, List.getElem_cons_zero, List.getElem_cons_succ, Act.put, List.setIfInBounds_toArray, List.set_cons_zero, List.set_cons_succ]))
        rotate_left
        (simp only [List.getElem_toArray, List.getElem_cons_zero, List.getElem_cons_succ, Region.wanted, if_true])
        go_simp
        refine (HM.out _).mono ?_
        rintro e w' ⟨rfl, rfl⟩
        dsimp only
        (try simp only [List.getElem_toArray, List.getElem_cons_zero, List.getElem_cons_succ, Act.put, List.setIfInBounds_toArray, List.set_cons_zero, List.set_cons_succ])
        refine hK.out _ _ hHeld (fun hHeld => ?_)
        clear hK K
        (refine wpAnyH_take (i := 5) (v := ?_) rfl (by kernel_rfl) (by kernel_rfl) (by kernel_rfl) (fun _ _ _ h => h) (Or.inl ⟨by rfl, ?_⟩) hHeld ?_; rotate_left; (· (intro w' hSw; go_simp; try with_reducible rfl)); (try simp only [List.getElem_toArray, List.getElem_cons_zero, List.getElem_cons_succ, Act.put, List.setIfInBounds_toArray, List.set_cons_zero, List.set_cons_succ]))
        refine wpAnyH_ready (rs := [1, 8]) (by kernel_rfl) (by simp) ?_
        refine AllReadyH.cons (o := _) rfl (fun K hK => ?_) (AllReadyH.cons (o := _) rfl (fun K hK => ?_) AllReadyH.nil)
        (simp only [List.getElem_toArray, List.getElem_cons_zero, List.getElem_cons_succ, Region.wanted, if_true])
        go_simp
        (try simp only [List.getElem_toArray, List.getElem_cons_zero, List.getElem_cons_succ, Act.put, List.setIfInBounds_toArray, List.set_cons_zero, List.set_cons_succ])
        refine hK.out _ _ hHeld (fun hHeld => ?_)
        clear hK K
        (refine wpAnyH_take (i := 6) (v := ?_) rfl (by kernel_rfl) (by kernel_rfl) (by kernel_rfl) (fun _ _ _ h => h) (Or.inl ⟨by rfl, ?_⟩) hHeld ?_; rotate_left; (· (intro w' hSw; go_simp; try with_reducible rfl)); (try simp only [List.getElem_toArray, List.getElem_cons_zero, List.getElem_cons_succ, Act.put, List.setIfInBounds_toArray, List.set_cons_zero, List.set_cons_succ]))
        (refine wpAnyH_ready (rs := [8]) (by kernel_rfl) (by simp) ?_; refine AllReadyH.cons (o := _) rfl (fun K hK => ?_) AllReadyH.nil; (simp only [List.getElem_toArray, List.getElem_cons_zero, List.getElem_cons_succ, Region.wanted, if_true]))
        go_simp
        (try simp only [List.getElem_toArray, List.getElem_cons_zero, List.getElem_cons_succ, Act.put, List.setIfInBounds_toArray, List.set_cons_zero, List.set_cons_succ])
        refine hK.out _ _ hHeld (fun hHeld => ?_)
        clear hK K
        (refine wpAnyH_take (i := 10) (v := ?_) rfl (by kernel_rfl) (by kernel_rfl) (by kernel_rfl) (fun _ _ _ h => h) (Or.inl ⟨by rfl, ?_⟩) hHeld ?_; rotate_left; (· (intro w' hSw; go_simp; try with_reducible rfl)); (try simp only [List.getElem_toArray, List.getElem_cons_zero, List.getElem_cons_succ, Act.put, List.setIfInBounds_toArray, List.set_cons_zero, List.set_cons_succ]))
        rotate_left
        (simp only [List.getElem_toArray, List.getElem_cons_zero, List.getElem_cons_succ, Region.wanted, if_true])
        go_simp
        (try simp only [List.getElem_toArray, List.getElem_cons_zero, List.getElem_cons_succ, Act.put, List.setIfInBounds_toArray, List.set_cons_zero, List.set_cons_succ])
        refine hK.out _ _ hHeld (fun hHeld => ?_)
        clear hK K
        (refine wpAnyH_take (i := 10) (v := ?_) rfl (by kernel_rfl) (by kernel_rfl) (by kernel_rfl) (fun _ _ _ h => h) (Or.inl ⟨by rfl, ?_⟩) hHeld ?_; rotate_left; (· (intro w' hSw; go_simp; try with_reducible rfl)); (try simp only [List.getElem_toArray, List.getElem_cons_zero, List.getElem_cons_succ, Act.put, List.setIfInBounds_toArray, List.set_cons_zero, List.set_cons_succ]))
        (refine wpAnyH_ready (rs := [1]) (by kernel_rfl) (by simp) ?_; refine AllReadyH.cons (o := _) rfl (fun K hK => ?_) AllReadyH.nil; (simp only [List.getElem_toArray, List.getElem_cons_zero, List.getElem_cons_succ, Region.wanted, if_true]))
        go_simp
        (try simp only [List.getElem_toArray, List.getElem_cons_zero, List.getElem_cons_succ, Act.put, List.setIfInBounds_toArray, List.set_cons_zero, List.set_cons_succ])
        refine hK.out _ _ hHeld (fun hHeld => ?_)
        clear hK K
        (refine wpAnyH_take (i := 6) (v := ?_) rfl (by kernel_rfl) (by kernel_rfl) (by kernel_rfl) (fun _ _ _ h => h) (Or.inl ⟨by rfl, ?_⟩) hHeld ?_; rotate_left; (· (intro w' hSw; go_simp; try with_reducible rfl)); (try simp only [List.getElem_toArray, List.getElem_cons_zero, List.getElem_cons_succ, Act.put, List.setIfInBounds_toArray, List.set_cons_zero, List.set_cons_succ]))
        rotate_left
        (simp only [List.getElem_toArray, List.getElem_cons_zero, List.getElem_cons_succ, Region.wanted, if_true])
        go_simp
        (try simp only [List.getElem_toArray, List.getElem_cons_zero, List.getElem_cons_succ, Act.put, List.setIfInBounds_toArray, List.set_cons_zero, List.set_cons_succ])
        refine hK.out _ _ hHeld (fun hHeld => ?_)
        clear hK K
        (refine wpAnyH_take (i := 10) (v := ?_) rfl (by kernel_rfl) (by kernel_rfl) (by kernel_rfl) (fun _ _ _ h => h) (Or.inl ⟨by rfl, ?_⟩) hHeld ?_; rotate_left; (· (intro w' hSw; go_simp; try with_reducible rfl)); (try simp only [List.getElem_toArray, List.getElem_cons_zero, List.getElem_cons_succ, Act.put, List.setIfInBounds_toArray, List.set_cons_zero, List.set_cons_succ]))
        refine wpAnyH_ready (rs := [1, 4]) (by kernel_rfl) (by simp) ?_
        refine AllReadyH.cons (o := _) rfl (fun K hK => ?_) (AllReadyH.cons (o := _) rfl (fun K hK => ?_) AllReadyH.nil)
        (simp only [List.getElem_toArray, List.getElem_cons_zero, List.getElem_cons_succ, Region.wanted, if_true])
        go_simp
        (try simp only [List.getElem_toArray, List.getElem_cons_zero, List.getElem_cons_succ, Act.put, List.setIfInBounds_toArray, List.set_cons_zero, List.set_cons_succ])
        refine hK.out _ _ hHeld (fun hHeld => ?_)
        clear hK K
        (refine wpAnyH_ready (rs := [4]) (by kernel_rfl) (by simp) ?_; refine AllReadyH.cons (o := _) rfl (fun K hK => ?_) AllReadyH.nil; (simp only [List.getElem_toArray, List.getElem_cons_zero, List.getElem_cons_succ, Region.wanted, if_true]))
        go_simp
        refine (HM.out _).mono ?_
        rintro e w' ⟨rfl, rfl⟩
        dsimp only
        (try simp only [List.getElem_toArray, List.getElem_cons_zero, List.getElem_cons_succ, Act.put, List.setIfInBounds_toArray, List.set_cons_zero, List.set_cons_succ])
        refine hK.out _ _ hHeld (fun hHeld => ?_)
        clear hK K
        (refine wpAnyH_take (i := 5) (v := ?_) rfl (by kernel_rfl) (by kernel_rfl) (by kernel_rfl) (fun _ _ _ h => h) (Or.inl ⟨by rfl, ?_⟩) hHeld ?_; rotate_left; (· (intro w' hSw; go_simp; try with_reducible rfl)); (try simp only [List.getElem_toArray, List.getElem_cons_zero, List.getElem_cons_succ, Act.put, List.setIfInBounds_toArray, List.set_cons_zero, List.set_cons_succ]))
        (refine wpAnyH_take (i := 6) (v := ?_) rfl (by kernel_rfl) (by kernel_rfl) (by kernel_rfl) (fun _ _ _ h => h) (Or.inl ⟨by rfl, ?_⟩) hHeld ?_; rotate_left; (· (intro w' hSw; go_simp; try with_reducible rfl)); (try simp only [List.getElem_toArray, List.getElem_cons_zero, List.getElem_cons_succ, Act.put, List.setIfInBounds_toArray, List.set_cons_zero, List.set_cons_succ]))
        rotate_left
        (simp only [List.getElem_toArray, List.getElem_cons_zero, List.getElem_cons_succ, Region.wanted, if_true])
        go_simp
        refine (HM.out _).mono ?_
        rintro e w' ⟨rfl, rfl⟩
        dsimp only
        (try simp only [List.getElem_toArray, List.getElem_cons_zero, List.getElem_cons_succ, Act.put, List.setIfInBounds_toArray, List.set_cons_zero, List.set_cons_succ])
        refine hK.out _ _ hHeld (fun hHeld => ?_)
        clear hK K
        (refine wpAnyH_take (i := 5) (v := ?_) rfl (by kernel_rfl) (by kernel_rfl) (by kernel_rfl) (fun _ _ _ h => h) (Or.inl ⟨by rfl, ?_⟩) hHeld ?_; rotate_left; (· (intro w' hSw; go_simp; try with_reducible rfl)); (try simp only [List.getElem_toArray, List.getElem_cons_zero, List.getElem_cons_succ, Act.put, List.setIfInBounds_toArray, List.set_cons_zero, List.set_cons_succ]))
        (refine wpAnyH_ready (rs := [1]) (by kernel_rfl) (by simp) ?_; refine AllReadyH.cons (o := _) rfl (fun K hK => ?_) AllReadyH.nil; (simp only [List.getElem_toArray, List.getElem_cons_zero, List.getElem_cons_succ, Region.wanted, if_true]))
        go_simp
        (try simp only [List.getElem_toArray, List.getElem_cons_zero, List.getElem_cons_succ, Act.put, List.setIfInBounds_toArray, List.set_cons_zero, List.set_cons_succ])
        refine hK.out _ _ hHeld (fun hHeld => ?_)
        clear hK K
        (refine wpAnyH_take (i := 6) (v := ?_) rfl (by kernel_rfl) (by kernel_rfl) (by kernel_rfl) (fun _ _ _ h => h) (Or.inl ⟨by rfl, ?_⟩) hHeld ?_; rotate_left; (· (intro w' hSw; go_simp; try with_reducible rfl)); (try simp only [List.getElem_toArray, List.getElem_cons_zero, List.getElem_cons_succ, Act.put, List.setIfInBounds_toArray, List.set_cons_zero, List.set_cons_succ]))
        rotate_left
        all_goals
          (refine wpAnyH_ready (rs := [11]) (by kernel_rfl) (by simp) ?_; refine AllReadyH.cons (o := _) rfl (fun K hK => ?_) AllReadyH.nil; (simp only [List.getElem_toArray, List.getElem_cons_zero, List.getElem_cons_succ, Region.wanted, if_true]))
          go_simp
          refine (KC.out _).mono ?_
          rintro e wC ⟨rfl, bq⟩
          dsimp only
          (try simp only [List.getElem_toArray, List.getElem_cons_zero, List.getElem_cons_succ, Act.put, List.setIfInBounds_toArray, List.set_cons_zero, List.set_cons_succ])
          refine hK.out _ _ ⟨⟨_, hHeld.1.choose_spec.below bq⟩, hHeld.2.1.below bq, hHeld.2.2.1.below bq, hHeld.2.2.2.call bq⟩ (fun hHeld => ?_)
          clear hK K bq
          have S0 := hHeld.1.choose_spec
          have S1 := S0.putAll R lR
          have S2 := hHeld.2.1.putOther (b' := bo) 0 (ints R) (by omega)
          have S3 := hHeld.2.2.1.putOther (b' := bo) 0 (ints R) (by omega)
          have S4 := hHeld.2.2.2.puts (b := bo) (by omega) 0 (ints R)
          (refine wpAnyH_ready (rs := [12]) (by kernel_rfl) (by simp) ?_; refine AllReadyH.cons (o := _) rfl (fun K hK => ?_) AllReadyH.nil; (simp only [List.getElem_toArray, List.getElem_cons_zero, List.getElem_cons_succ, Region.wanted, if_true]); refine wp_store_mid _ _ _ rfl _ _ (ints R).toArray rfl rfl (by simpa [lf] using S0.there) (by simpa [lf] using hi2) (all_oneCell_toArray (ints_one _)) ?_; (try simp only [List.getElem_toArray, List.getElem_cons_zero, List.getElem_cons_succ, Act.put, List.setIfInBounds_toArray, List.set_cons_zero, List.set_cons_succ, List.toList_toArray]); refine hK.out _ _ (⟨⟨_, S1⟩, S2, S3, S4⟩) (fun hHeld => ?_); clear hK K)
          refine wpAnyH_done (by kernel_rfl) ?_ _
          have S1 := Lib.hid S1
          have S2 := Lib.hid S2
          have S3 := Lib.hid S3
          have S4 := Lib.hid S4
          clear hHeld
          clear d0' d1'
          have S3 := S3.out
          have S1 := S1.out
          have S5 := Lib.hid (S3.putAll R lR)
          have S6 := Lib.hid (S4.out.puts (b := w.heap.size + 1) (by omega) 0 (ints R))
          go_wp2_with (first | (refine load_has rfl 33 _ rfl _ rfl ?_ 2 ?_ _ Try.underlying33 rfl ?_ ?_; rotate_left; (· (repeat (first | (with_reducible assumption) | ((with_reducible refine Has.box _ _ ?_ ?_) <;> (first | assumption | decide)) | (with_reducible refine Has.alloc ?_ _) | ((with_reducible refine Has.putOther ?_ _ _ ?_); rotate_left; omega; skip) | ((with_reducible refine Has.below ?_ ?_); rotate_left; assumption)))); (· kernel_rfl)) | (refine store_at rfl 33 _ _ rfl _ _ rfl rfl ?_ 2 ?_ ?_ ?_ ?_; rotate_left; (· (repeat (first | (with_reducible assumption) | ((with_reducible refine Has.box _ _ ?_ ?_) <;> (first | assumption | decide)) | (with_reducible refine Has.alloc ?_ _) | ((with_reducible refine Has.putOther ?_ _ _ ?_); rotate_left; omega; skip) | ((with_reducible refine Has.below ?_ ?_); rotate_left; assumption)))); (· (first | assumption | rfl)); (· kernel_rfl)))
          exact bodyPost_ret (res_has rfl _ _ (w.heap.size + 1) R 2 _ rfl S5.out Try.underlying33 rfl (by kernel_rfl)) rfl ⟨by rw [E.out], S6.out⟩
end Go.Proofs.Ytemiljokdedidac.base
