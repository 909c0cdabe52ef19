/-
  The means of plays on the model's side, walked.
-/
/-
  The chances of plays and the mean of runs on the model's side, and their laws, walked.
-/
import Derived.Test.YtemiljokdedidacPlyF
import Derived.Test.YtemiljokdedidacPlusW
import Derived.Test.YtemiljokdedidacSortSZ
import Derived.Test.YtemiljokdedidacUseZ
import Derived.Test.YtemiljokdedidacPourS
import Derived.Test.YtemiljokdedidacBndS
import Derived.Test.YtemiljokdedidacRwP
import Derived.Deep.RegionHeld3
import Derived.Test.YtemiljokdedidacTubeWZ
import Derived.Test.YtemiljokdedidacRackTo

section
namespace Go.Proofs.Ytemiljokdedidac.base
open Go.ChangeShapes Go.WideShapes Go.ChangeAt Go.RowKit
set_option linter.unusedVariables false
set_option linter.unusedSimpArgs false

theorem up_nat {ns : List Int} (G : GR ns) (k : Nat) (hk : k < usefNA ns) : ∃ p q : Nat, p < 6 ∧ q < 6 ∧ p ≠ q ∧ 0 < canN (tub ns p) (tub ns q) ∧ upX ns k = (p : Int) ∧ upY ns k = (q : Int) ∧ nxR ns k = pourT ns p q := by
  obtain ⟨hok, p, q, hp, hq, hx, hy⟩ := up_ok G k hk
  rw [hx, hy] at hok
  have h2 : twoOk ns (p : Int) (q : Int) = true := by unfold pourOk at hok; exact (Bool.and_eq_true_iff.1 hok).1
  obtain ⟨_, p2, q2, e1, e2, _, _, hne⟩ := twoOk_of h2
  have hpos : 0 < canN (tub ns p) (tub ns q) := by unfold pourOk at hok; simpa using (Bool.and_eq_true_iff.1 hok).2
  refine ⟨p, q, hp, hq, by omega, hpos, hx, hy, ?_⟩
  unfold nxR
  rw [hx, hy]
  unfold pourR
  rw [if_pos hok]; simp

set_option maxHeartbeats 800000 in
theorem moves_any (ns : List Int) (w : World) (G : GR ns) :
    Calls Try.prog 60 #[row ns] w fun e w' => ∃ v : Value, e = .returned v ∧ Prs w' w.heap.size v (usefNA ns) (usefFA ns) ∧ Kept w w' := by
  have h24 := G.1
  have H := Has.box w 42 h24 (by omega)
  have HB := Lib.hid ((kept_refl w).alloc (.cells (ints ns).toArray 42))
  have KS := Lib.hid (fun W => l2Sorted_any ns W h24 G.2)
  have KU := Lib.hid (fun W => l2Useful_any ns W h24 G.2)
  have SN := Lib.hid (fun h => sorted_none (ns := ns) h24 h)
  have E1 := Lib.hid (show usefNA ns = usefN ns (poursN ns 36) by unfold usefNA; rw [if_pos G.2])
  have E2 := Lib.hid (show usefFA ns = usefF ns (poursN ns 36) by unfold usefFA; rw [if_pos G.2])
  have E3 := Lib.hid (usefFA_len (ns := ns))
  rw [row_ints]
  go_enter Try.func60, Try.ntmps60
  go_wp2_with (refine load_has rfl 42 _ rfl _ rfl ?_ 24 ?_ _ Try.underlying42 rfl ?_ ?_; rotate_left; (· (repeat (first | (with_reducible assumption) | ((with_reducible refine Has.box _ _ ?_ ?_) <;> (first | assumption | decide)) | (with_reducible refine Has.alloc ?_ _) | ((with_reducible refine Has.putOther ?_ _ _ ?_); rotate_left; omega; skip) | ((with_reducible refine Has.below ?_ ?_); rotate_left; assumption)))); (· kernel_rfl))
  refine (KS.out _).mono ?_
  rintro e w1 ⟨rfl, b1⟩
  replace H := H.below b1
  replace HB := Lib.hid (HB.out.call b1)
  have hsz := b1.size
  rw [size1] at hsz
  clear b1
  cases hs : sortedA ns with
  | true =>
    have z := SN.out hs
    have e3 := E3.out
    rw [z] at e3
    have P0 := Lib.hid (Prs.none w1 w.heap.size (by omega))
    have HB2 := Lib.hid (HB.out.alloc (.cells #[] 33))
    have EN := Lib.hid (show usefNA ns = 0 ∧ usefFA ns = [] from ⟨z, List.length_eq_zero_iff.1 (by omega)⟩)
    clear z e3 hs
    go_wp2_with fail
    go_ret
    exact ⟨_, rfl, by rw [EN.out.1, EN.out.2]; exact P0.out, HB2.out⟩
  | false =>
    clear hs
    go_wp2_with (refine load_has rfl 42 _ rfl _ rfl ?_ 24 ?_ _ Try.underlying42 rfl ?_ ?_; rotate_left; (· (repeat (first | (with_reducible assumption) | ((with_reducible refine Has.box _ _ ?_ ?_) <;> (first | assumption | decide)) | (with_reducible refine Has.alloc ?_ _) | ((with_reducible refine Has.putOther ?_ _ _ ?_); rotate_left; omega; skip) | ((with_reducible refine Has.below ?_ ?_); rotate_left; assumption)))); (· kernel_rfl))
    refine (KU.out _).mono ?_
    rintro e w2 ⟨v, rfl, q2, b2⟩
    have HB2 := Lib.hid (HB.out.call b2)
    have Q := Lib.hid (q2.mono (b' := w.heap.size) (by omega))
    clear q2 b2
    go_wp2_with fail
    go_ret
    exact ⟨_, rfl, by rw [E1.out, E2.out]; exact Q.out, HB2.out⟩

set_option maxHeartbeats 800000 in
theorem worth3_any (ns : List Int) (w : World) (G : GR ns) :
    Calls Try.prog 87 #[row ns, .int .i64 3] w fun e w' => e = .returned (.int .i64 (gRuns ns : Nat)) ∧ Kept w w' := by
  have h24 := G.1
  have H := Has.box w 42 h24 (by omega)
  have HB := Lib.hid ((kept_refl w).alloc (.cells (ints ns).toArray 42))
  have KR := Lib.hid (fun W => l6Runs_any ns W h24 G.2)
  rw [row_ints]
  go_enter Try.func87, Try.ntmps87
  go_wp2_with (refine load_has rfl 42 _ rfl _ rfl ?_ 24 ?_ _ Try.underlying42 rfl ?_ ?_; rotate_left; (· (repeat (first | (with_reducible assumption) | ((with_reducible refine Has.box _ _ ?_ ?_) <;> (first | assumption | decide)) | (with_reducible refine Has.alloc ?_ _) | ((with_reducible refine Has.putOther ?_ _ _ ?_); rotate_left; omega; skip) | ((with_reducible refine Has.below ?_ ?_); rotate_left; assumption)))); (· kernel_rfl))
  refine (KR.out _).mono ?_
  rintro e w1 ⟨rfl, b1⟩
  replace HB := Lib.hid (HB.out.call b1)
  go_wp2_with fail
  go_ret
  exact ⟨rfl, HB.out⟩
set_option maxHeartbeats 800000 in
theorem worth1_any (ns : List Int) (w : World) (G : GR ns) :
    Calls Try.prog 87 #[row ns, .int .i64 1] w fun e w' => e = .returned (.int .i64 (gSort ns : Nat)) ∧ Kept w w' := by
  have h24 := G.1
  have H := Has.box w 42 h24 (by omega)
  have HB := Lib.hid ((kept_refl w).alloc (.cells (ints ns).toArray 42))
  have KS := Lib.hid (fun W => l2Sorted_any ns W h24 G.2)
  have E := Lib.hid (show gSort ns = if sortedA ns = true then 1 else 0 from rfl)
  rw [row_ints]
  go_enter Try.func87, Try.ntmps87
  go_wp2_with (refine load_has rfl 42 _ rfl _ rfl ?_ 24 ?_ _ Try.underlying42 rfl ?_ ?_; rotate_left; (· (repeat (first | (with_reducible assumption) | ((with_reducible refine Has.box _ _ ?_ ?_) <;> (first | assumption | decide)) | (with_reducible refine Has.alloc ?_ _) | ((with_reducible refine Has.putOther ?_ _ _ ?_); rotate_left; omega; skip) | ((with_reducible refine Has.below ?_ ?_); rotate_left; assumption)))); (· kernel_rfl))
  refine (KS.out _).mono ?_
  rintro e w1 ⟨rfl, b1⟩
  replace HB := Lib.hid (HB.out.call b1)
  clear b1
  cases hs : sortedA ns with
  | true =>
    have E2 := Lib.hid (show gSort ns = 1 by rw [E.out, hs]; rfl)
    go_wp2_with fail
    go_ret
    exact ⟨by rw [E2.out]; rfl, HB.out⟩
  | false =>
    have E2 := Lib.hid (show gSort ns = 0 by rw [E.out, hs]; rfl)
    go_wp2_with fail
    go_ret
    exact ⟨by rw [E2.out]; rfl, HB.out⟩
set_option maxHeartbeats 800000 in
theorem worth2_any (ns : List Int) (w : World) (G : GR ns) :
    Calls Try.prog 87 #[row ns, .int .i64 2] w fun e w' => e = .returned (.int .i64 (gStuck ns : Nat)) ∧ Kept w w' := by
  have h24 := G.1
  have H := Has.box w 42 h24 (by omega)
  have HB := Lib.hid ((kept_refl w).alloc (.cells (ints ns).toArray 42))
  have KS := Lib.hid (fun W => l2Sorted_any ns W h24 G.2)
  have KU := Lib.hid (fun W => l2Useful_any ns W h24 G.2)
  have E1 := Lib.hid (show usefNA ns = usefN ns (poursN ns 36) by unfold usefNA; rw [if_pos G.2])
  have E := Lib.hid (show gStuck ns = if (!sortedA ns && decide (usefNA ns = 0)) = true then 1 else 0 by unfold gStuck stuckA; rw [G.2, Bool.true_and])
  rw [row_ints]
  go_enter Try.func87, Try.ntmps87
  go_wp2_with (refine load_has rfl 42 _ rfl _ rfl ?_ 24 ?_ _ Try.underlying42 rfl ?_ ?_; rotate_left; (· (repeat (first | (with_reducible assumption) | ((with_reducible refine Has.box _ _ ?_ ?_) <;> (first | assumption | decide)) | (with_reducible refine Has.alloc ?_ _) | ((with_reducible refine Has.putOther ?_ _ _ ?_); rotate_left; omega; skip) | ((with_reducible refine Has.below ?_ ?_); rotate_left; assumption)))); (· kernel_rfl))
  refine (KS.out _).mono ?_
  rintro e w1 ⟨rfl, b1⟩
  replace H := H.below b1
  replace HB := Lib.hid (HB.out.call b1)
  clear b1
  cases hs : sortedA ns with
  | true =>
    have E2 := Lib.hid (show gStuck ns = 0 by rw [E.out, hs]; rfl)
    go_wp2_with fail
    go_ret
    exact ⟨by rw [E2.out]; rfl, HB.out⟩
  | false =>
    go_wp2_with (refine load_has rfl 42 _ rfl _ rfl ?_ 24 ?_ _ Try.underlying42 rfl ?_ ?_; rotate_left; (· (repeat (first | (with_reducible assumption) | ((with_reducible refine Has.box _ _ ?_ ?_) <;> (first | assumption | decide)) | (with_reducible refine Has.alloc ?_ _) | ((with_reducible refine Has.putOther ?_ _ _ ?_); rotate_left; omega; skip) | ((with_reducible refine Has.below ?_ ?_); rotate_left; assumption)))); (· kernel_rfl))
    refine (KU.out _).mono ?_
    rintro e w2 ⟨v, rfl, q2, b2⟩
    replace HB := Lib.hid (HB.out.call b2)
    obtain ⟨va, vc, rfl⟩ := q2.rw.shape
    rw [← E1.out]
    clear q2 b2 H
    by_cases h0 : usefNA ns = 0
    · have E2 := Lib.hid (show gStuck ns = 1 by rw [E.out, hs, decide_eq_true h0]; rfl)
      rw [h0]
      clear h0 hs
      go_wp2_with fail
      go_ret
      exact ⟨by rw [E2.out]; rfl, HB.out⟩
    · have E2 := Lib.hid (show gStuck ns = 0 by rw [E.out, hs, decide_eq_false h0]; rfl)
      have n0 : ((usefNA ns : Int) == 0) = false := by simp; omega
      clear hs
      generalize usefNA ns = N at *
      go_wp2_with fail
      go_ret
      exact ⟨by rw [E2.out]; rfl, HB.out⟩

theorem cut_one9 (x d : Nat) (hd : 0 < d) : frac (x * d) d = [(x : Int), 1] := by
  have h := cut_eq (a := x * d) (b := d) (c := x) (d := 1) hd (by omega) (by omega)
  unfold frac
  rw [h.1, h.2]
  unfold cutN cutD; simp
theorem frac_one9 (x : Nat) : frac x 1 = [(x : Int), 1] := by
  have := cut_one9 x 1 (by omega)
  rwa [Nat.mul_one] at this

set_option maxHeartbeats 1600000 in
set_option maxRecDepth 100000 in
theorem mean_zero (kd : Int) (g : List Int → Nat) (KW : ∀ x, GR x → ∀ V : World, Calls Try.prog 87 #[row x, .int .i64 kd] V fun e w' => e = .returned (.int .i64 (g x : Nat)) ∧ Kept V w') (ns : List Int) (G : GR ns) (w : World) :
    Calls Try.prog 51 #[row ns, .int .i64 0, .int .i64 kd] w fun e w' => e = .returned (.agg (ints (frac (g ns) 1)).toArray) ∧ Kept w w' := by
  have h24 := G.1
  have H := (Has.box w 42 h24 (by omega)).alloc (.cells #[.int .i64 0, .int .i64 0] 33)
  have Z := (Has.zero2v (w.alloc (.cells (ints ns).toArray 42)) 33).at (size1 _ _)
  have HB := Lib.hid (((kept_refl w).alloc (.cells (ints ns).toArray 42)).alloc (.cells #[.int .i64 0, .int .i64 0] 33))
  have KV := Lib.hid (fun V => moves_any ns V G)
  have KW := Lib.hid (fun V => KW ns G V)
  have EW := Lib.hid (frac_one9 (g ns))
  rw [row_ints]
  go_enter Try.func51, Try.ntmps51
  go_wp2_with (refine load_has rfl 42 _ rfl _ rfl ?_ 24 ?_ _ Try.underlying42 rfl ?_ ?_; rotate_left; (· (repeat (first | (with_reducible assumption) | ((with_reducible refine Has.box _ _ ?_ ?_) <;> (first | assumption | decide)) | (with_reducible refine Has.alloc ?_ _) | ((with_reducible refine Has.putOther ?_ _ _ ?_); rotate_left; omega; skip) | ((with_reducible refine Has.below ?_ ?_); rotate_left; assumption)))); (· kernel_rfl))
  refine (KV.out _).mono ?_
  rintro e w1 ⟨v, rfl, q1, b1⟩
  replace H := H.below b1
  replace Z := Z.below b1
  replace HB := Lib.hid (HB.out.call b1)
  clear b1 q1
  go_wp2_with (refine load_has rfl 42 _ rfl _ rfl ?_ 24 ?_ _ Try.underlying42 rfl ?_ ?_; rotate_left; (· (repeat (first | (with_reducible assumption) | ((with_reducible refine Has.box _ _ ?_ ?_) <;> (first | assumption | decide)) | (with_reducible refine Has.alloc ?_ _) | ((with_reducible refine Has.putOther ?_ _ _ ?_); rotate_left; omega; skip) | ((with_reducible refine Has.below ?_ ?_); rotate_left; assumption)))); (· kernel_rfl))
  refine (KW.out _).mono ?_
  rintro e w2 ⟨rfl, b2⟩
  have S1 := Lib.hid (Z.below b2)
  have S3 := Lib.hid (S1.out.putAll [((g ns : Nat) : Int), 1] rfl)
  have S4 := Lib.hid ((HB.out.call b2).puts (b := w.heap.size + 1) (by omega) 0 (ints [((g ns : Nat) : Int), 1]))
  replace Z := S1.out
  clear b2
  go_wp2_with (first | (refine store_at rfl 33 _ _ rfl _ [((g ns : Nat) : Int), 1] rfl rfl ?_ 2 ?_ ?_ ?_ ?_; rotate_left; (· (repeat (first | (with_reducible assumption) | ((with_reducible refine Has.box _ _ ?_ ?_) <;> (first | assumption | decide)) | (with_reducible refine Has.alloc ?_ _) | ((with_reducible refine Has.putOther ?_ _ _ ?_); rotate_left; omega; skip) | ((with_reducible refine Has.below ?_ ?_); rotate_left; assumption)))); (· (first | assumption | rfl)); (· kernel_rfl)))
  exact bodyPost_ret (res_has rfl _ _ (w.heap.size + 1) [((g ns : Nat) : Int), 1] 2 _ rfl S3.out Try.underlying33 rfl (by kernel_rfl)) rfl ⟨by rw [EW.out], S4.out⟩

set_option maxHeartbeats 6400000 in
set_option maxRecDepth 100000 in
theorem mean_step (m : Nat) (kd : Int) (g a b t : List Int → Nat) (c : Nat) (hm : m ≤ 1)
    (IH : ∀ x, GR x → ∀ V : World, Calls Try.prog 51 #[row x, .int .i64 (m : Nat), .int .i64 kd] V fun e w' => e = .returned (.agg (ints (frac (a x) (b x))).toArray) ∧ Kept V w')
    (KW : ∀ x, GR x → ∀ V : World, Calls Try.prog 87 #[row x, .int .i64 kd] V fun e w' => e = .returned (.int .i64 (g x : Nat)) ∧ Kept V w')
    (ha : ∀ x, GR x → a x ≤ 720) (hb : ∀ x, 1 ≤ b x ∧ b x ≤ 30) (ht : ∀ x, GR x → a x * c = t x * b x) (h24 : ∀ x, GR x → t x ≤ 24 * c) (hc : 0 < c) (hc2 : c ≤ 2329089562800) (h0 : ∀ x, usefNA x = 0 → t x = g x * c) (ns : List Int) (G : GR ns) (w : World) :
    Calls Try.prog 51 #[row ns, .int .i64 ((m : Int) + 1), .int .i64 kd] w fun e w' => e = .returned (.agg (ints (frac (fsum t (nxL ns)) (wy ns * c))).toArray) ∧ Kept w w' := by
  have T24 := Lib.hid h24
  have h24 := G.1
  clear h24
  have h24 := G.1
  have H := (Has.box w 42 h24 (by omega)).alloc (.cells #[.int .i64 0, .int .i64 0] 33)
  have Z := (Has.zero2v (w.alloc (.cells (ints ns).toArray 42)) 33).at (size1 _ _)
  have HB := Lib.hid (((kept_refl w).alloc (.cells (ints ns).toArray 42)).alloc (.cells #[.int .i64 0, .int .i64 0] 33))
  have KV := Lib.hid (fun V => moves_any ns V G)
  have KW := Lib.hid (fun V => KW ns G V)
  have HG := Lib.hid G
  have C24 := Lib.hid G.1
  have CV := Lib.hid G.2
  have IHH := Lib.hid IH
  have HA := Lib.hid ha
  have HBB := Lib.hid hb
  have HTT := Lib.hid ht
  have n1 : (((m : Int) + 1) == 0) = false := by simp; omega
  have wn : IntKind.i64.wrap ((m : Int) + 1 - 1) = (m : Int) := by rw [IntWalk.i64_in _ (by omega)]; omega
  have H0 := Lib.hid (h0 ns)
  rw [row_ints]
  clear IH ha hb ht h0
  go_enter Try.func51, Try.ntmps51
  go_wp2_with (refine load_has rfl 42 _ rfl _ rfl ?_ 24 ?_ _ Try.underlying42 rfl ?_ ?_; rotate_left; (· (repeat (first | (with_reducible assumption) | ((with_reducible refine Has.box _ _ ?_ ?_) <;> (first | assumption | decide)) | (with_reducible refine Has.alloc ?_ _) | ((with_reducible refine Has.putOther ?_ _ _ ?_); rotate_left; omega; skip) | ((with_reducible refine Has.below ?_ ?_); rotate_left; assumption)))); (· kernel_rfl))
  refine (KV.out _).mono ?_
  rintro e w1 ⟨v, rfl, q1, b1⟩
  obtain ⟨va, vc, rfl⟩ := q1.rw.shape
  have R0 := Lib.hid ((q1.mono (b' := 0) (Nat.zero_le _)).rw)
  have OWN := Lib.hid (fun hn => q1.rw.ownlt hn)
  replace H := H.below b1
  replace Z := Z.below b1
  replace HB := Lib.hid (HB.out.call b1)
  have hsz := b1.size
  simp only [size1] at hsz
  have N30 := use30 ns
  have WYN := Lib.hid (wy_of ns)
  have UN := Lib.hid (fun k hk => up_nat G k hk)
  have NGOOD := Lib.hid (fun k hk => nx_good G k hk)
  clear b1 q1
  by_cases hz : usefNA ns = 0
  · have EW := Lib.hid (show frac (fsum t (nxL ns)) (wy ns * c) = [((g ns : Nat) : Int), 1] by
      rw [nxK_none hz, WYN.out, if_pos hz, fsum_cons, fsum_nil, H0.out hz, Nat.one_mul, Nat.add_zero]
      exact cut_one9 (g ns) c hc)
    rw [hz]
    clear hz
    go_wp2_with (refine load_has rfl 42 _ rfl _ rfl ?_ 24 ?_ _ Try.underlying42 rfl ?_ ?_; rotate_left; (· (repeat (first | (with_reducible assumption) | ((with_reducible refine Has.box _ _ ?_ ?_) <;> (first | assumption | decide)) | (with_reducible refine Has.alloc ?_ _) | ((with_reducible refine Has.putOther ?_ _ _ ?_); rotate_left; omega; skip) | ((with_reducible refine Has.below ?_ ?_); rotate_left; assumption)))); (· kernel_rfl))
    refine (KW.out _).mono ?_
    rintro e w2 ⟨rfl, b2⟩
    have S1 := Lib.hid (Z.below b2)
    have S3 := Lib.hid (S1.out.putAll [((g ns : Nat) : Int), 1] rfl)
    have S4 := Lib.hid ((HB.out.call b2).puts (b := w.heap.size + 1) (by omega) 0 (ints [((g ns : Nat) : Int), 1]))
    replace Z := S1.out
    clear b2
    go_wp2_with (first | (refine store_at rfl 33 _ _ rfl _ [((g ns : Nat) : Int), 1] rfl rfl ?_ 2 ?_ ?_ ?_ ?_; rotate_left; (· (repeat (first | (with_reducible assumption) | ((with_reducible refine Has.box _ _ ?_ ?_) <;> (first | assumption | decide)) | (with_reducible refine Has.alloc ?_ _) | ((with_reducible refine Has.putOther ?_ _ _ ?_); rotate_left; omega; skip) | ((with_reducible refine Has.below ?_ ?_); rotate_left; assumption)))); (· (first | assumption | rfl)); (· kernel_rfl)))
    exact bodyPost_ret (res_has rfl _ _ (w.heap.size + 1) [((g ns : Nat) : Int), 1] 2 _ rfl S3.out Try.underlying33 rfl (by kernel_rfl)) rfl ⟨by rw [EW.out], S4.out⟩
  have EN := Lib.hid (nxK_all hz)
  have EWY : wy ns = usefNA ns := by rw [WYN.out, if_neg hz]
  obtain ⟨N, hN⟩ : ∃ N, usefNA ns = N := ⟨_, rfl⟩
  have HN := Lib.hid hN
  rw [hN] at EWY N30 hz EN R0 OWN ⊢
  have EW := Lib.hid EWY
  have n0 : ((N : Int) == 0) = false := by simp; omega
  have Np : 0 < N := by omega
  obtain ⟨D, hD⟩ : ∃ D, N * c = D := ⟨_, rfl⟩
  have HD := Lib.hid hD
  have D0 : 0 < D := by rw [← hD]; exact Nat.mul_pos Np hc
  have D1 : D ≤ 30 * 2329089562800 := by rw [← hD]; exact Nat.mul_le_mul N30 hc2
  have AK := Lib.hid (show ∀ k, k ≤ N → fsum t (nxK ns k) ≤ 24 * D from fun k hk => by
    have h1 := fsum_le (g := t) (h := fun _ => 24 * c) (L := nxK ns k) (fun x hx => by
      unfold nxK at hx
      obtain ⟨j, hj, rfl⟩ := List.mem_map.1 hx
      exact T24.out _ (NGOOD.out j (by rw [HN.out]; have := List.mem_range.1 hj; omega)))
    rw [fsum_const, nxK_len] at h1
    have h2 : 24 * c * k ≤ 24 * c * N := Nat.mul_le_mul_left _ hk
    have h3 : 24 * c * N = 24 * D := by rw [← HD.out, Nat.mul_assoc, Nat.mul_comm c N]
    omega)
  have F0 : Hid (frac (fsum t (nxK ns 0)) D = [0, 1]) := Lib.hid (by
    have := cut_zero D D0
    show frac 0 D = _
    unfold frac
    rw [this.1, this.2]; rfl)
  obtain ⟨gg, gcap, he, hgb, hgl⟩ := R0.out.form Np
  injection he with e1 _ e3
  subst e1
  subst e3
  have hsb := Has.box w1 33 (ns := [0, 1]) (n := 2) rfl (by omega)
  replace H := H.alloc (.cells (ints [0, 1]).toArray 33)
  replace Z := Z.alloc (.cells (ints [0, 1]).toArray 33)
  replace HB := Lib.hid (HB.out.alloc (.cells (ints [0, 1]).toArray 33))
  replace R0 := Lib.hid (R0.out.alloc (.cells (ints [0, 1]).toArray 33))
  clear hN hD EWY hz hgb OWN
  go_wp2_with (first | (refine store_new rfl 33 _ _ rfl _ _ _ rfl _ rfl [0, 1] rfl rfl ?_ ?_ ?_; (· (first | assumption | rfl)); (· kernel_rfl)))
  obtain ⟨sb, hsbb⟩ : ∃ sb, w1.heap.size = sb := ⟨_, rfl⟩
  rw [hsbb] at hsb hgl hsz ⊢
  generalize w1.alloc (.cells (ints [0, 1]).toArray 33) = W at *
  rw [← F0.out] at hsb
  clear hsbb F0
  go_loopw [9] (fun z wr => ∃ k : Nat, k ≤ N ∧ z = .int .i64 k ∧ Has wr w.heap.size ns 24 ∧ Has wr (w.heap.size + 1) z2 2 ∧ Has wr sb (frac (fsum t (nxK ns k)) D) 2 ∧ Hid (Rw wr 0 (.slice (some ⟨gg, 0, none⟩) N vc) N (usefFA ns)) ∧ Hid (Kept w wr)) (fun z _ => N - (intOf z).toNat)
  case atStart => exact ⟨0, by omega, rfl, H, Z, hsb, R0, HB⟩
  case round =>
    clear H Z hsb R0 HB
    obtain ⟨k, hk, rfl, G1, GZ, GS, GR', GB⟩ := hrel
    have hgs := GS.lt
    have hak := AK.out k hk
    by_cases hkN : k < N
    · have hki : (k : Int) < (N : Int) := by omega
      have hk0 : (0 : Int) ≤ (k : Int) := by omega
      obtain ⟨p, q, p6, q6, hne, hcn, hx, hy, hnx⟩ := UN.out k (by rw [HN.out]; exact hkN)
      have gx := NGOOD.out k (by rw [HN.out]; exact hkN)
      have YK := Lib.hid (nxK_step ns k)
      have hak1 := AK.out (k + 1) (by omega)
      rw [hnx] at gx YK
      rw [YK.out, fsum_app, fsum_cons, fsum_nil, Nat.add_zero] at hak1
      have C0 : Hid (∀ w', Kept wr w' → w'.cell? ⟨gg, k * 2, none⟩ = some (.int .i64 (p : Int))) := Lib.hid (fun w' hw => (GR'.out.below hw).cellX (by omega) hx)
      have C1 : Hid (∀ w', Kept wr w' → w'.cell? ⟨gg, k * 2 + 1, none⟩ = some (.int .i64 (q : Int))) := Lib.hid (fun w' hw => (GR'.out.below hw).cellX (by omega) hy)
      have R24 := gx.1
      have HNE := Lib.hid hne
      have HC := Lib.hid hcn
      obtain ⟨R, hR⟩ : ∃ R, pourT ns p q = R := ⟨_, rfl⟩
      rw [hR] at gx R24 YK hak1
      have HR := Lib.hid hR
      have l2 : (ints R).length = 24 := by rw [ints_len]; exact R24
      have hi0 : (Try.prog.info? 42).map (·.size) = some 24 := by kernel_rfl
      have hi1 : (Try.prog.info? 42).map (·.size) = some (ints ns).length := by rw [ints_len, C24.out]; kernel_rfl
      -- the numbers of this round
      obtain ⟨b1, b30⟩ := HBB.out R
      have a720 := HA.out R gx
      have cr := HTT.out R gx
      have KI := Lib.hid (fun V => IHH.out R gx V)
      have tb : b R * N ≤ 30 * 30 := Nat.mul_le_mul b30 N30
      have tb0 : 0 < b R * N := Nat.mul_pos b1 Np
      have dN : cutD (a R) (b R) * N ≤ 30 * 30 := Nat.mul_le_mul (Nat.le_trans (cutD_le _ _) b30) N30
      have dN0 : 0 < cutD (a R) (b R) * N := Nat.mul_pos (cutD_pos _ _ b1) Np
      have nN : cutN (a R) (b R) ≤ 720 := Nat.le_trans (cutN_le _ _) a720
      have EC : frac (cutN (a R) (b R)) (cutD (a R) (b R) * N) = frac (a R) (b R * N) := by
        have := cut_mul (a R) (b R) 1 N b1 Np
        rw [Nat.mul_one, Nat.mul_one] at this
        unfold frac
        rw [this.1, this.2]
      have EC2 : frac (a R) (b R * N) = frac (t R) D := by
        have := cut_eq (a := a R) (b := b R * N) (c := t R) (d := D) tb0 D0 (by
          rw [← HD.out, ← Nat.mul_assoc, Nat.mul_right_comm, cr, Nat.mul_assoc])
        unfold frac
        rw [this.1, this.2]
      have KC := Lib.hid (fun V => l7Cut_any (cutN (a R) (b R)) (cutD (a R) (b R) * N) V dN0 (by omega) (by omega))
      rw [EC] at KC
      have q1 := cutN_le (fsum t (nxK ns k)) D
      have q2 := cutD_le (fsum t (nxK ns k)) D
      have q3 := cutD_pos (fsum t (nxK ns k)) D D0
      have q4 := cutN_le (a R) (b R * N)
      have q5 := cutD_le (a R) (b R * N)
      have q6' := cutD_pos (a R) (b R * N) tb0
      have KP := Lib.hid (fun V => l7Sum_any (cutN (fsum t (nxK ns k)) D) (cutD (fsum t (nxK ns k)) D) (cutN (a R) (b R * N)) (cutD (a R) (b R * N)) V
        (Nat.le_trans (Nat.mul_le_mul (Nat.le_trans q1 hak) (Nat.le_trans q5 tb)) (by omega))
        (Nat.le_trans (Nat.mul_le_mul (Nat.le_trans q4 a720) q2) (by omega))
        (Nat.le_trans (Nat.mul_le_mul q2 (Nat.le_trans q5 tb)) (by omega)) q3 q6')
      have ES : frac (cutN (fsum t (nxK ns k)) D * cutD (a R) (b R * N) + cutN (a R) (b R * N) * cutD (fsum t (nxK ns k)) D) (cutD (fsum t (nxK ns k)) D * cutD (a R) (b R * N)) = frac (fsum t (nxK ns (k + 1))) D := by
        have e1 : cutN (a R) (b R * N) = cutN (t R) D ∧ cutD (a R) (b R * N) = cutD (t R) D := by
          have := cut_eq (a := a R) (b := b R * N) (c := t R) (d := D) tb0 D0 (by
            rw [← HD.out, ← Nat.mul_assoc, Nat.mul_right_comm, cr, Nat.mul_assoc])
          exact this
        rw [e1.1, e1.2]
        have := cut_add (fsum t (nxK ns k)) (t R) D D0
        rw [YK.out, fsum_app, fsum_cons, fsum_nil, Nat.add_zero]
        unfold frac
        rw [this.1, this.2]
      rw [ES] at KP
      have KPL := Lib.hid (show ∀ V : World, Calls Try.prog 88 #[.agg (ints (frac (fsum t (nxK ns k)) D)).toArray, .agg (ints (frac (a R) (b R * N))).toArray] V fun e w' => e = .returned (.agg (ints (frac (fsum t (nxK ns (k + 1))) D)).toArray) ∧ Kept V w' from fun V => KP.out V)
      have fl0 := frac_len (fsum t (nxK ns k)) D
      have fl1 := frac_len (fsum t (nxK ns (k + 1))) D
      have flp := frac_len (a R) (b R)
      have pp0 : (frac (a R) (b R)).getD 0 0 = (cutN (a R) (b R) : Int) := rfl
      have pp1 : (frac (a R) (b R)).getD 1 0 = (cutD (a R) (b R) : Int) := rfl
      have wm : IntKind.i64.wrap ((cutD (a R) (b R) : Int) * (N : Int)) = ((cutD (a R) (b R) * N : Nat) : Int) := by rw [← Int.natCast_mul]; exact IntWalk.i64_in _ (by omega)
      have PP0 := Lib.hid pp0
      have PP1 := Lib.hid pp1
      clear KP ES EC EC2 hx hy hnx hne hcn hR q1 q2 q3 q4 q5 q6' tb tb0 dN0 cr a720 b1 b30 hak hak1 pp0 pp1
      obtain ⟨P, hP⟩ : ∃ P, frac (a R) (b R) = P := ⟨_, rfl⟩
      rw [hP] at KI flp PP0 PP1
      obtain ⟨A0, hA0⟩ : ∃ A0, frac (fsum t (nxK ns k)) D = A0 := ⟨_, rfl⟩
      rw [hA0] at GS fl0 KPL
      obtain ⟨A1, hA1⟩ : ∃ A1, frac (fsum t (nxK ns (k + 1))) D = A1 := ⟨_, rfl⟩
      rw [hA1] at fl1 KPL
      have HA1 := Lib.hid hA1
      obtain ⟨U, hU⟩ : ∃ U, frac (a R) (b R * N) = U := ⟨_, rfl⟩
      rw [hU] at KC KPL
      obtain ⟨dn, hdn⟩ : ∃ dn, cutD (a R) (b R) * N = dn := ⟨_, rfl⟩
      rw [hdn] at wm KC dN
      obtain ⟨c0, hc0⟩ : ∃ c0, cutN (a R) (b R) = c0 := ⟨_, rfl⟩
      rw [hc0] at KC PP0 nN
      obtain ⟨c1, hc1⟩ : ∃ c1, cutD (a R) (b R) = c1 := ⟨_, rfl⟩
      rw [hc1] at wm PP1
      have lA : (ints A0).length = 2 := by rw [ints_len]; exact fl0
      have lB : (ints A1).length = 2 := by rw [ints_len]; exact fl1
      have hiA : (Try.prog.info? 33).map (·.size) = some (ints A0).length := by rw [lA]; kernel_rfl
      have hiB : (Try.prog.info? 33).map (·.size) = some (ints A1).length := by rw [lB]; kernel_rfl
      clear hP hA0 hA1 hU hdn hc0 hc1
      go_wp2_with fail
      refine wp_region_held_drew (S := fun w' => Kept wr w') (by kernel_rfl) ?_ (fun hHeld => ?_)
      · exact (kept_refl wr).drewN 1
      (refine wpAnyH_take (i := 1) (v := ?_) rfl (by kernel_rfl) (by kernel_rfl) (by kernel_rfl) (fun _ _ _ h => h) (Or.inl ⟨by rfl, ?_⟩) hHeld ?_; rotate_left; (· (intro w' hSw; go_simp; try with_reducible rfl)); (try simp only [List.getElem_toArray, List.getElem_cons_zero, List.getElem_cons_succ, Act.put, List.setIfInBounds_toArray, List.set_cons_zero, List.set_cons_succ])); (refine wpAnyH_take (i := 2) (v := ?_) rfl (by kernel_rfl) (by kernel_rfl) (by kernel_rfl) (fun _ _ _ h => h) (Or.inl ⟨by rfl, ?_⟩) hHeld ?_; rotate_left; (· (intro w' hSw; go_simp; try with_reducible rfl)); (try simp only [List.getElem_toArray, List.getElem_cons_zero, List.getElem_cons_succ, Act.put, List.setIfInBounds_toArray, List.set_cons_zero, List.set_cons_succ])); (refine wpAnyH_take (i := 3) (v := ?_) rfl (by kernel_rfl) (by kernel_rfl) (by kernel_rfl) (fun _ _ _ h => h) (Or.inl ⟨by rfl, ?_⟩) hHeld ?_; rotate_left; (· (intro w' hSw; go_simp; try with_reducible rfl)); (try simp only [List.getElem_toArray, List.getElem_cons_zero, List.getElem_cons_succ, Act.put, List.setIfInBounds_toArray, List.set_cons_zero, List.set_cons_succ])); (refine wpAnyH_take (i := 4) (v := ?_) rfl (by kernel_rfl) (by kernel_rfl) (by kernel_rfl) (fun _ _ _ h => h) (Or.inl ⟨by rfl, ?_⟩) hHeld ?_; rotate_left; (· (intro w' hSw; go_simp; try with_reducible rfl)); (try simp only [List.getElem_toArray, List.getElem_cons_zero, List.getElem_cons_succ, Act.put, List.setIfInBounds_toArray, List.set_cons_zero, List.set_cons_succ])); (refine wpAnyH_take (i := 6) (v := ?_) rfl (by kernel_rfl) (by kernel_rfl) (by kernel_rfl) (fun _ _ _ h => h) (Or.inl ⟨by rfl, ?_⟩) hHeld ?_; rotate_left; (· (intro w' hSw; go_simp; try with_reducible rfl)); (try simp only [List.getElem_toArray, List.getElem_cons_zero, List.getElem_cons_succ, Act.put, List.setIfInBounds_toArray, List.set_cons_zero, List.set_cons_succ])); (refine wpAnyH_take (i := 7) (v := ?_) rfl (by kernel_rfl) (by kernel_rfl) (by kernel_rfl) (fun _ _ _ h => h) (Or.inl ⟨by rfl, ?_⟩) hHeld ?_; rotate_left; (· (intro w' hSw; go_simp; try with_reducible rfl)); (try simp only [List.getElem_toArray, List.getElem_cons_zero, List.getElem_cons_succ, Act.put, List.setIfInBounds_toArray, List.set_cons_zero, List.set_cons_succ])); (refine wpAnyH_take (i := 8) (v := ?_) rfl (by kernel_rfl) (by kernel_rfl) (by kernel_rfl) (fun _ _ _ h => h) (Or.inl ⟨by rfl, ?_⟩) hHeld ?_; rotate_left; (· (intro w' hSw; go_simp; try with_reducible rfl)); (try simp only [List.getElem_toArray, List.getElem_cons_zero, List.getElem_cons_succ, Act.put, List.setIfInBounds_toArray, List.set_cons_zero, List.set_cons_succ])); (refine wpAnyH_take (i := 9) (v := ?_) rfl (by kernel_rfl) (by kernel_rfl) (by kernel_rfl) (fun _ _ _ h => h) (Or.inl ⟨by rfl, ?_⟩) hHeld ?_; rotate_left; (· (intro w' hSw; go_simp; try with_reducible rfl)); (try simp only [List.getElem_toArray, List.getElem_cons_zero, List.getElem_cons_succ, Act.put, List.setIfInBounds_toArray, List.set_cons_zero, List.set_cons_succ]))
      (refine wpAnyH_take (i := 0) (v := _) rfl (by kernel_rfl) (by kernel_rfl) (by kernel_rfl) (fun _ _ _ h => h) (yieldsIf_load_mid (by rfl) 42 _ rfl _ _ rfl (ints ns) _ (fun w' hSw => (G1.below hSw).holds.range) Try.underlying42 rfl (hi1)) hHeld ?_; (try simp only [List.getElem_toArray, List.getElem_cons_zero, List.getElem_cons_succ, Act.put, List.setIfInBounds_toArray, List.set_cons_zero, List.set_cons_succ]))
      refine wpAnyH_take (i := 5) (v := .int .i64 (p : Int)) rfl (by kernel_rfl) (by kernel_rfl) (by kernel_rfl) (fun _ _ _ h => h) (Or.inl ⟨by rfl, ?_⟩) hHeld ?_
      · intro w' hSw
        have cc := C0.out w' hSw
        go_simp
      (try simp only [List.getElem_toArray, List.getElem_cons_zero, List.getElem_cons_succ, Act.put, List.setIfInBounds_toArray, List.set_cons_zero, List.set_cons_succ])
      refine wpAnyH_take (i := 10) (v := .int .i64 (q : Int)) rfl (by kernel_rfl) (by kernel_rfl) (by kernel_rfl) (fun _ _ _ h => h) (Or.inl ⟨by rfl, ?_⟩) hHeld ?_
      · intro w' hSw
        have cc := C1.out w' hSw
        go_simp
      (try simp only [List.getElem_toArray, List.getElem_cons_zero, List.getElem_cons_succ, Act.put, List.setIfInBounds_toArray, List.set_cons_zero, List.set_cons_succ])
      refine wpAnyH_ready (rs := [11, 15]) (by kernel_rfl) (by simp) ?_
      refine AllReadyH.cons (o := _) rfl (fun K hK => ?callFirst) (AllReadyH.cons (o := _) rfl (fun K hK => ?makeFirst) AllReadyH.nil)
      case' callFirst =>
        (simp only [List.getElem_toArray, List.getElem_cons_zero, List.getElem_cons_succ, Region.wanted, if_true])
        go_simp
        refine (l2Pour_any ns p q _ C24.out CV.out p6 q6 HNE.out HC.out).mono ?_
        rintro e wp2 ⟨rfl, bp2⟩
        rw [HR.out]
        dsimp only
        (try simp only [List.getElem_toArray, List.getElem_cons_zero, List.getElem_cons_succ, Act.put, List.setIfInBounds_toArray, List.set_cons_zero, List.set_cons_succ])
        have KW := Kept.call hHeld bp2
        refine hK.out _ _ KW (fun hHeld => ?_)
        clear hK K bp2
        (refine wpAnyH_take (i := 12) (v := ?_) rfl (by kernel_rfl) (by kernel_rfl) (by kernel_rfl) (fun _ _ _ h => h) (Or.inl ⟨by rfl, ?_⟩) hHeld ?_; rotate_left; (· (intro w' hSw; go_simp; try with_reducible rfl)); (try simp only [List.getElem_toArray, List.getElem_cons_zero, List.getElem_cons_succ, Act.put, List.setIfInBounds_toArray, List.set_cons_zero, List.set_cons_succ])); (refine wpAnyH_take (i := 13) (v := ?_) rfl (by kernel_rfl) (by kernel_rfl) (by kernel_rfl) (fun _ _ _ h => h) (Or.inl ⟨by rfl, ?_⟩) hHeld ?_; rotate_left; (· (intro w' hSw; go_simp; try with_reducible rfl)); (try simp only [List.getElem_toArray, List.getElem_cons_zero, List.getElem_cons_succ, Act.put, List.setIfInBounds_toArray, List.set_cons_zero, List.set_cons_succ])); (refine wpAnyH_take (i := 14) (v := ?_) rfl (by kernel_rfl) (by kernel_rfl) (by kernel_rfl) (fun _ _ _ h => h) (Or.inl ⟨by rfl, ?_⟩) hHeld ?_; rotate_left; (· (intro w' hSw; go_simp; try with_reducible rfl)); (try simp only [List.getElem_toArray, List.getElem_cons_zero, List.getElem_cons_succ, Act.put, List.setIfInBounds_toArray, List.set_cons_zero, List.set_cons_succ]))
        (refine wpAnyH_ready (rs := [15]) (by kernel_rfl) (by simp) ?_; refine AllReadyH.cons (o := _) rfl (fun K hK => ?_) AllReadyH.nil; (simp only [List.getElem_toArray, List.getElem_cons_zero, List.getElem_cons_succ, Region.wanted, if_true]))
        go_simp
        have F9 := Has.zero24 wp2 42
        have h9 := KW.size
        replace KW := KW.alloc (.cells #[.int .i64 0, .int .i64 0, .int .i64 0, .int .i64 0, .int .i64 0, .int .i64 0, .int .i64 0, .int .i64 0, .int .i64 0, .int .i64 0, .int .i64 0, .int .i64 0, .int .i64 0, .int .i64 0, .int .i64 0, .int .i64 0, .int .i64 0, .int .i64 0, .int .i64 0, .int .i64 0, .int .i64 0, .int .i64 0, .int .i64 0, .int .i64 0] 42)
        refine hK.out _ _ KW (fun hHeld => ?_)
        clear hK K
        generalize wp2.alloc (.cells #[.int .i64 0, .int .i64 0, .int .i64 0, .int .i64 0, .int .i64 0, .int .i64 0, .int .i64 0, .int .i64 0, .int .i64 0, .int .i64 0, .int .i64 0, .int .i64 0, .int .i64 0, .int .i64 0, .int .i64 0, .int .i64 0, .int .i64 0, .int .i64 0, .int .i64 0, .int .i64 0, .int .i64 0, .int .i64 0, .int .i64 0, .int .i64 0] 42) = wp3 at *
        generalize wp2.heap.size = b9 at *
      case' makeFirst =>
        (simp only [List.getElem_toArray, List.getElem_cons_zero, List.getElem_cons_succ, Region.wanted, if_true])
        go_simp
        have F9 : Has _ wr.heap.size z24 24 := Has.zero24 wr.drew 42
        have KW := Kept.alloc hHeld (.cells #[.int .i64 0, .int .i64 0, .int .i64 0, .int .i64 0, .int .i64 0, .int .i64 0, .int .i64 0, .int .i64 0, .int .i64 0, .int .i64 0, .int .i64 0, .int .i64 0, .int .i64 0, .int .i64 0, .int .i64 0, .int .i64 0, .int .i64 0, .int .i64 0, .int .i64 0, .int .i64 0, .int .i64 0, .int .i64 0, .int .i64 0, .int .i64 0] 42)
        obtain ⟨b9, hb9⟩ : ∃ b : Nat, b = wr.heap.size := ⟨_, rfl⟩
        have h9 : wr.heap.size ≤ b9 := by omega
        rw [← hb9] at F9
        refine hK.out _ _ KW (fun hHeld => ?_)
        clear hK K
        (refine wpAnyH_ready (rs := [11]) (by kernel_rfl) (by simp) ?_; refine AllReadyH.cons (o := _) rfl (fun K hK => ?_) AllReadyH.nil; (simp only [List.getElem_toArray, List.getElem_cons_zero, List.getElem_cons_succ, Region.wanted, if_true]))
        go_simp
        refine (l2Pour_any ns p q _ C24.out CV.out p6 q6 HNE.out HC.out).mono ?_
        rintro e wp3 ⟨rfl, bp2⟩
        rw [HR.out]
        dsimp only
        (try simp only [List.getElem_toArray, List.getElem_cons_zero, List.getElem_cons_succ, Act.put, List.setIfInBounds_toArray, List.set_cons_zero, List.set_cons_succ])
        replace F9 := F9.below bp2
        replace KW := KW.call bp2
        refine hK.out _ _ KW (fun hHeld => ?_)
        clear hK K bp2
        (refine wpAnyH_take (i := 12) (v := ?_) rfl (by kernel_rfl) (by kernel_rfl) (by kernel_rfl) (fun _ _ _ h => h) (Or.inl ⟨by rfl, ?_⟩) hHeld ?_; rotate_left; (· (intro w' hSw; go_simp; try with_reducible rfl)); (try simp only [List.getElem_toArray, List.getElem_cons_zero, List.getElem_cons_succ, Act.put, List.setIfInBounds_toArray, List.set_cons_zero, List.set_cons_succ])); (refine wpAnyH_take (i := 13) (v := ?_) rfl (by kernel_rfl) (by kernel_rfl) (by kernel_rfl) (fun _ _ _ h => h) (Or.inl ⟨by rfl, ?_⟩) hHeld ?_; rotate_left; (· (intro w' hSw; go_simp; try with_reducible rfl)); (try simp only [List.getElem_toArray, List.getElem_cons_zero, List.getElem_cons_succ, Act.put, List.setIfInBounds_toArray, List.set_cons_zero, List.set_cons_succ])); (refine wpAnyH_take (i := 14) (v := ?_) rfl (by kernel_rfl) (by kernel_rfl) (by kernel_rfl) (fun _ _ _ h => h) (Or.inl ⟨by rfl, ?_⟩) hHeld ?_; rotate_left; (· (intro w' hSw; go_simp; try with_reducible rfl)); (try simp only [List.getElem_toArray, List.getElem_cons_zero, List.getElem_cons_succ, Act.put, List.setIfInBounds_toArray, List.set_cons_zero, List.set_cons_succ]))
        rw [← hb9]
        clear hb9
      all_goals
        (refine wpAnyH_ready (rs := [16]) (by kernel_rfl) (by simp) ?_; refine AllReadyH.cons (o := _) rfl (fun K hK => ?_) AllReadyH.nil; (simp only [List.getElem_toArray, List.getElem_cons_zero, List.getElem_cons_succ, Region.wanted, if_true]))
        refine wp_store_mid _ _ _ rfl _ _ (ints R).toArray rfl rfl (by simpa [l2] using F9.there) (by simpa [l2] using hi0) (all_oneCell_toArray (ints_one _)) ?_
        (try simp only [List.getElem_toArray, List.getElem_cons_zero, List.getElem_cons_succ, Act.put, List.setIfInBounds_toArray, List.set_cons_zero, List.set_cons_succ, List.toList_toArray])
        replace F9 := F9.putAll R R24
        replace KW := KW.puts (b := b9) h9 0 (ints R)
        refine hK.out _ _ KW (fun hHeld => ?_)
        clear hK K
        (refine wpAnyH_take (i := 17) (v := ?_) rfl (by kernel_rfl) (by kernel_rfl) (by kernel_rfl) (fun _ _ _ h => h) (Or.inl ⟨by rfl, ?_⟩) hHeld ?_; rotate_left; (· (intro w' hSw; go_simp; try with_reducible rfl)); (try simp only [List.getElem_toArray, List.getElem_cons_zero, List.getElem_cons_succ, Act.put, List.setIfInBounds_toArray, List.set_cons_zero, List.set_cons_succ]))
        refine wpAnyH_done (by kernel_rfl) ?_ _
        clear hHeld
        generalize wp3.setCells b9 0 (ints R) = wp4 at *
        replace G1 := G1.below KW
        replace GZ := GZ.below KW
        replace GS := GS.below KW
        replace GR' := Lib.hid (GR'.out.below KW)
        replace GB := Lib.hid (GB.out.call KW)
        have hsl := GS.lt
        clear KW C0 C1 h9
        go_wp2_with (refine load_has rfl 42 _ rfl _ rfl ?_ 24 ?_ _ Try.underlying42 rfl ?_ ?_; rotate_left; (· (repeat (first | (with_reducible assumption) | ((with_reducible refine Has.box _ _ ?_ ?_) <;> (first | assumption | decide)) | (with_reducible refine Has.alloc ?_ _) | ((with_reducible refine Has.putOther ?_ _ _ ?_); rotate_left; omega; skip) | ((with_reducible refine Has.below ?_ ?_); rotate_left; assumption)))); (· kernel_rfl))
        refine (KI.out _).mono ?_
        rintro e w5 ⟨rfl, b5⟩
        have PB := Has.box w5 33 flp (by omega)
        have hs5 := b5.size
        replace G1 := (G1.below b5).alloc (.cells (ints P).toArray 33)
        replace GZ := (GZ.below b5).alloc (.cells (ints P).toArray 33)
        replace GS := (GS.below b5).alloc (.cells (ints P).toArray 33)
        replace GR' := Lib.hid ((GR'.out.below b5).alloc (.cells (ints P).toArray 33))
        replace GB := Lib.hid ((GB.out.call b5).alloc (.cells (ints P).toArray 33))
        clear F9 b5 KI
        go_upto_region 10 with (refine store_new rfl 33 _ _ rfl _ _ _ rfl _ rfl _ rfl rfl ?_ ?_ ?_; (· (first | assumption | rfl)); (· kernel_rfl))
        obtain ⟨pb, hpb⟩ : ∃ pb, w5.heap.size = pb := ⟨_, rfl⟩
        rw [hpb] at PB hs5 ⊢
        generalize w5.alloc (.cells (ints P).toArray 33) = W6 at *
        clear hpb
        have DS := GS.drew
        refine wp_region_held_drew (S := fun w' => Has w' w.heap.size ns 24 ∧ Has w' (w.heap.size + 1) z2 2 ∧ Has w' pb P 2 ∧ (∃ zs, Has w' sb zs 2) ∧ Rw w' 0 (.slice (some ⟨gg, 0, none⟩) N vc) N (usefFA ns) ∧ Kept w w') (by kernel_rfl) ⟨G1.drew, GZ.drew, PB.drew, ⟨_, GS.drew⟩, GR'.out.drew, GB.out.drewN 1⟩ (fun hHeld => ?_)
        clear G1 GZ GS PB GR' GB
        generalize W6.drew = WD at *
        (refine wpAnyH_take (i := 1) (v := ?_) rfl (by kernel_rfl) (by kernel_rfl) (by kernel_rfl) (fun _ _ _ h => h) (Or.inl ⟨by rfl, ?_⟩) hHeld ?_; rotate_left; (· (intro w' hSw; go_simp; try with_reducible rfl)); (try simp only [List.getElem_toArray, List.getElem_cons_zero, List.getElem_cons_succ, Act.put, List.setIfInBounds_toArray, List.set_cons_zero, List.set_cons_succ])); (refine wpAnyH_take (i := 3) (v := ?_) rfl (by kernel_rfl) (by kernel_rfl) (by kernel_rfl) (fun _ _ _ h => h) (Or.inl ⟨by rfl, ?_⟩) hHeld ?_; rotate_left; (· (intro w' hSw; go_simp; try with_reducible rfl)); (try simp only [List.getElem_toArray, List.getElem_cons_zero, List.getElem_cons_succ, Act.put, List.setIfInBounds_toArray, List.set_cons_zero, List.set_cons_succ])); (refine wpAnyH_take (i := 5) (v := ?_) rfl (by kernel_rfl) (by kernel_rfl) (by kernel_rfl) (fun _ _ _ h => h) (Or.inl ⟨by rfl, ?_⟩) hHeld ?_; rotate_left; (· (intro w' hSw; go_simp; try with_reducible rfl)); (try simp only [List.getElem_toArray, List.getElem_cons_zero, List.getElem_cons_succ, Act.put, List.setIfInBounds_toArray, List.set_cons_zero, List.set_cons_succ]))
        (refine wpAnyH_take (i := 2) (v := .int .i64 (c0 : Int)) rfl (by kernel_rfl) (by kernel_rfl) (by kernel_rfl) (fun _ _ _ h => h) (Or.inl ⟨by rfl, ?_⟩) hHeld ?_; (· (intro w' hSw; have q := hSw.2.2.1.cellX (k := 0) (by omega) PP0.out; clear hSw; go_simp; try with_reducible rfl)); (try simp only [List.getElem_toArray, List.getElem_cons_zero, List.getElem_cons_succ, Act.put, List.setIfInBounds_toArray, List.set_cons_zero, List.set_cons_succ]))
        (refine wpAnyH_take (i := 4) (v := .int .i64 (c1 : Int)) rfl (by kernel_rfl) (by kernel_rfl) (by kernel_rfl) (fun _ _ _ h => h) (Or.inl ⟨by rfl, ?_⟩) hHeld ?_; (· (intro w' hSw; have q := hSw.2.2.1.cellX (k := 1) (by omega) PP1.out; clear hSw; go_simp; try with_reducible rfl)); (try simp only [List.getElem_toArray, List.getElem_cons_zero, List.getElem_cons_succ, Act.put, List.setIfInBounds_toArray, List.set_cons_zero, List.set_cons_succ]))
        (refine wpAnyH_take (i := 6) (v := ?_) rfl (by kernel_rfl) (by kernel_rfl) (by kernel_rfl) (fun _ _ _ h => h) (Or.inl ⟨by rfl, ?_⟩) hHeld ?_; rotate_left; (· (intro w' hSw; go_simp; try with_reducible rfl)); (try simp only [List.getElem_toArray, List.getElem_cons_zero, List.getElem_cons_succ, Act.put, List.setIfInBounds_toArray, List.set_cons_zero, List.set_cons_succ])); (refine wpAnyH_take (i := 7) (v := ?_) rfl (by kernel_rfl) (by kernel_rfl) (by kernel_rfl) (fun _ _ _ h => h) (Or.inl ⟨by rfl, ?_⟩) hHeld ?_; rotate_left; (· (intro w' hSw; go_simp; try with_reducible rfl)); (try simp only [List.getElem_toArray, List.getElem_cons_zero, List.getElem_cons_succ, Act.put, List.setIfInBounds_toArray, List.set_cons_zero, List.set_cons_succ]))
        refine wpAnyH_ready (rs := [0, 8]) (by kernel_rfl) (by simp) ?_
        refine AllReadyH.cons (o := _) rfl (fun K hK => ?_) (AllReadyH.cons (o := _) rfl (fun K hK => ?_) AllReadyH.nil)
        focus
          (simp only [List.getElem_toArray, List.getElem_cons_zero, List.getElem_cons_succ, Region.wanted, if_true])
          refine wp_load_mid _ _ rfl _ _ rfl (ints A0) _ DS.holds.range Try.underlying33 rfl hiA ?_
          (try simp only [List.getElem_toArray, List.getElem_cons_zero, List.getElem_cons_succ, Act.put, List.setIfInBounds_toArray, List.set_cons_zero, List.set_cons_succ])
          refine hK.out _ _ hHeld (fun hHeld => ?_)
          clear hK K
          (refine wpAnyH_ready (rs := [8]) (by kernel_rfl) (by simp) ?_; refine AllReadyH.cons (o := _) rfl (fun K hK => ?_) AllReadyH.nil; (simp only [List.getElem_toArray, List.getElem_cons_zero, List.getElem_cons_succ, Region.wanted, if_true]))
          go_simp
          refine (KC.out _).mono ?_
          rintro e w7 ⟨rfl, bq⟩
          dsimp only
          (try simp only [List.getElem_toArray, List.getElem_cons_zero, List.getElem_cons_succ, Act.put, List.setIfInBounds_toArray, List.set_cons_zero, List.set_cons_succ])
          refine hK.out _ _ ⟨hHeld.1.below bq, hHeld.2.1.below bq, hHeld.2.2.1.below bq, ⟨_, hHeld.2.2.2.1.choose_spec.below bq⟩, hHeld.2.2.2.2.1.below bq, hHeld.2.2.2.2.2.call bq⟩ (fun hHeld => ?_)
          clear hK K bq
        rotate_left
        focus
          (simp only [List.getElem_toArray, List.getElem_cons_zero, List.getElem_cons_succ, Region.wanted, if_true])
          go_simp
          refine (KC.out _).mono ?_
          rintro e w7 ⟨rfl, bq⟩
          dsimp only
          (try simp only [List.getElem_toArray, List.getElem_cons_zero, List.getElem_cons_succ, Act.put, List.setIfInBounds_toArray, List.set_cons_zero, List.set_cons_succ])
          have DS2 := DS.below bq
          refine hK.out _ _ ⟨hHeld.1.below bq, hHeld.2.1.below bq, hHeld.2.2.1.below bq, ⟨_, hHeld.2.2.2.1.choose_spec.below bq⟩, hHeld.2.2.2.2.1.below bq, hHeld.2.2.2.2.2.call bq⟩ (fun hHeld => ?_)
          clear hK K bq
          (refine wpAnyH_ready (rs := [0]) (by kernel_rfl) (by simp) ?_; refine AllReadyH.cons (o := _) rfl (fun K hK => ?_) AllReadyH.nil; (simp only [List.getElem_toArray, List.getElem_cons_zero, List.getElem_cons_succ, Region.wanted, if_true]))
          refine wp_load_mid _ _ rfl _ _ rfl (ints A0) _ DS2.holds.range Try.underlying33 rfl hiA ?_
          (try simp only [List.getElem_toArray, List.getElem_cons_zero, List.getElem_cons_succ, Act.put, List.setIfInBounds_toArray, List.set_cons_zero, List.set_cons_succ])
          refine hK.out _ _ hHeld (fun hHeld => ?_)
          clear hK K DS2
        all_goals
          clear DS
          (refine wpAnyH_ready (rs := [9]) (by kernel_rfl) (by simp) ?_; refine AllReadyH.cons (o := _) rfl (fun K hK => ?_) AllReadyH.nil; (simp only [List.getElem_toArray, List.getElem_cons_zero, List.getElem_cons_succ, Region.wanted, if_true]))
          go_simp
          refine (KPL.out _).mono ?_
          rintro e w8 ⟨rfl, bq⟩
          dsimp only
          (try simp only [List.getElem_toArray, List.getElem_cons_zero, List.getElem_cons_succ, Act.put, List.setIfInBounds_toArray, List.set_cons_zero, List.set_cons_succ])
          refine hK.out _ _ ⟨hHeld.1.below bq, hHeld.2.1.below bq, hHeld.2.2.1.below bq, ⟨_, hHeld.2.2.2.1.choose_spec.below bq⟩, hHeld.2.2.2.2.1.below bq, hHeld.2.2.2.2.2.call bq⟩ (fun hHeld => ?_)
          clear hK K bq
          have S0 := hHeld.2.2.2.1.choose_spec
          have S1 := S0.putAll A1 fl1
          have T1 := hHeld.1.putOther (b' := sb) 0 (ints A1) (by omega)
          have T2 := hHeld.2.1.putOther (b' := sb) 0 (ints A1) (by omega)
          have T3 := hHeld.2.2.1.putOther (b' := sb) 0 (ints A1) (by omega)
          have T4 := hHeld.2.2.2.2.1.puts sb 0 (ints A1) (fun _ e => by have e := Option.some.inj (show some gg = some sb from e); omega)
          have T5 := hHeld.2.2.2.2.2.puts (b := sb) (by omega) 0 (ints A1)
          (refine wpAnyH_ready (rs := [10]) (by kernel_rfl) (by simp) ?_; refine AllReadyH.cons (o := _) rfl (fun K hK => ?_) AllReadyH.nil; (simp only [List.getElem_toArray, List.getElem_cons_zero, List.getElem_cons_succ, Region.wanted, if_true]); refine wp_store_mid _ _ _ rfl _ _ (ints A1).toArray rfl rfl (by simpa [lB] using S0.there) (by simpa [lB] using hiB) (all_oneCell_toArray (ints_one _)) ?_; (try simp only [List.getElem_toArray, List.getElem_cons_zero, List.getElem_cons_succ, Act.put, List.setIfInBounds_toArray, List.set_cons_zero, List.set_cons_succ, List.toList_toArray]); refine hK.out _ _ (⟨T1, T2, T3, ⟨_, S1⟩, T4, T5⟩) (fun hHeld => ?_); clear hK K)
          refine wpAnyH_done (by kernel_rfl) ?_ _
          have T4' := Lib.hid T4
          have T5' := Lib.hid T5
          have S9 : Has (w8.setCells sb 0 (ints A1)) sb (frac (fsum t (nxK ns (k + 1))) D) 2 := by rw [HA1.out]; exact S1
          clear hHeld T3 T4 T5 S0
          go_wp2_with fail
          go_roundw
          case rel => exact ⟨k + 1, by omega, by go_num, T1, T2, S9, T4', T5'⟩
          case measure => simp [intOf]; omega
    · obtain rfl : k = N := by omega
      have fl := frac_len (fsum t (nxK ns k)) D
      have ER := Lib.hid (show frac (fsum t (nxL ns)) (wy ns * c) = frac (fsum t (nxK ns k)) D by rw [EN.out, EW.out, HD.out])
      obtain ⟨A0, hA0⟩ : ∃ A0, frac (fsum t (nxK ns k)) D = A0 := ⟨_, rfl⟩
      rw [hA0] at GS fl ER
      have S1 := Lib.hid (GZ.putAll A0 fl)
      have S2 := Lib.hid (GB.out.puts (b := w.heap.size + 1) (by omega) 0 (ints A0))
      clear hA0 hak
      go_wp2_with (first | (refine load_has rfl 33 _ rfl _ rfl ?_ 2 ?_ _ Try.underlying33 rfl ?_ ?_; rotate_left; (· (repeat (first | (with_reducible assumption) | ((with_reducible refine Has.box _ _ ?_ ?_) <;> (first | assumption | decide)) | (with_reducible refine Has.alloc ?_ _) | ((with_reducible refine Has.putOther ?_ _ _ ?_); rotate_left; omega; skip) | ((with_reducible refine Has.below ?_ ?_); rotate_left; assumption)))); (· kernel_rfl)) | (refine store_at rfl 33 _ _ rfl _ _ rfl rfl ?_ 2 ?_ ?_ ?_ ?_; rotate_left; (· (repeat (first | (with_reducible assumption) | ((with_reducible refine Has.box _ _ ?_ ?_) <;> (first | assumption | decide)) | (with_reducible refine Has.alloc ?_ _) | ((with_reducible refine Has.putOther ?_ _ _ ?_); rotate_left; omega; skip) | ((with_reducible refine Has.below ?_ ?_); rotate_left; assumption)))); (· (first | assumption | rfl)); (· kernel_rfl)))
      exact bodyPost_ret (res_has rfl _ _ (w.heap.size + 1) A0 2 _ rfl S1.out Try.underlying33 rfl (by kernel_rfl)) rfl ⟨by rw [ER.out], S2.out⟩
end Go.Proofs.Ytemiljokdedidac.base
end

section
namespace Go.Proofs.Ytemiljokdedidac.base
open Go.ChangeShapes Go.WideShapes Go.ChangeAt Go.RowKit
set_option linter.unusedVariables false
set_option linter.unusedSimpArgs false

theorem S1_le {g : List Int → Nat} (hg : ∀ x, GR x → g x ≤ 24) {x : List Int} (G : GR x) : S1 g x ≤ 24 * wy x := by
  have h := fsum_le (g := g) (h := fun _ => 24) (L := nxL x) (fun y hy => hg y (nxL_good G y hy))
  rw [fsum_const] at h
  exact h
theorem mean_all (kd : Int) (g : List Int → Nat) (hg : ∀ x, GR x → g x ≤ 24)
    (KW : ∀ x, GR x → ∀ V : World, Calls Try.prog 87 #[row x, .int .i64 kd] V fun e w' => e = .returned (.int .i64 (g x : Nat)) ∧ Kept V w') (n : Nat) (hn : n ≤ 2) (ns : List Int) (G : GR ns) (w : World) :
    Calls Try.prog 51 #[row ns, .int .i64 (n : Nat), .int .i64 kd] w fun e w' => e = .returned (.agg (ints (frac (numP n g ns) (denP n ns))).toArray) ∧ Kept w w' := by
  have m0 : ∀ x, GR x → ∀ V : World, Calls Try.prog 51 #[row x, .int .i64 ((0 : Nat) : Int), .int .i64 kd] V fun e w' => e = .returned (.agg (ints (frac (g x) 1)).toArray) ∧ Kept V w' := fun x gx V => mean_zero kd g KW x gx V
  have m1 : ∀ x, GR x → ∀ V : World, Calls Try.prog 51 #[row x, .int .i64 ((1 : Nat) : Int), .int .i64 kd] V fun e w' => e = .returned (.agg (ints (frac (S1 g x) (wy x))).toArray) ∧ Kept V w' := fun x gx V => by
    have h := mean_step 0 kd g g (fun _ => 1) g 1 (by omega) m0 KW (fun y gy => Nat.le_trans (hg y gy) (by omega)) (fun _ => ⟨by omega, by omega⟩) (fun _ _ => rfl) (fun y gy => by have := hg y gy; omega) (by omega) (by omega) (fun _ _ => (Nat.mul_one _).symm) x gx V
    rw [Nat.mul_one] at h
    exact h
  have : n = 0 ∨ n = 1 ∨ n = 2 := by omega
  rcases this with rfl | rfl | rfl
  · exact m0 ns G w
  · exact m1 ns G w
  · have hd := fun y => wy_div y
    have hc : ∀ y, S1 g y * L30 = L30 / wy y * S1 g y * wy y := fun y => by
      rw [Nat.mul_right_comm, Nat.div_mul_cancel (hd y), Nat.mul_comm]
    have h := mean_step 1 kd g (S1 g) wy (fun y => L30 / wy y * S1 g y) L30 (by omega) m1 KW (fun y gy => Nat.le_trans (S1_le hg gy) (by have := (wy_in y).2; omega)) wy_in (fun y _ => hc y) (fun y gy => by
        have h1 := Nat.mul_le_mul_left (L30 / wy y) (S1_le hg gy)
        have h2 : L30 / wy y * (24 * wy y) = 24 * L30 := by rw [← Nat.mul_assoc, Nat.mul_right_comm, Nat.div_mul_cancel (hd y), Nat.mul_comm]
        rw [h2] at h1
        exact h1) L30_pos (Nat.le_refl _) (fun y hy => by
        have e1 : nxL y = [y] := nxK_none hy
        have e2 : wy y = 1 := by rw [wy_of, if_pos hy]
        show L30 / wy y * S1 g y = g y * L30
        unfold S1
        rw [e1, e2, fsum_cons, fsum_nil, Nat.div_one, Nat.add_zero, Nat.mul_comm]) ns G w
    exact h

set_option maxHeartbeats 400000 in
theorem l9Good_any (r : List Int) (n : Int) (w : World) (h24 : r.length = 24) :
    Calls Try.prog 50 #[row r, .int .i64 n] w fun e w' => e = .returned (.bool (BhOk r n)) ∧ Kept w w' := by
  have H := Has.box w 42 h24 (by omega)
  have HB := Lib.hid ((kept_refl w).alloc (.cells (ints r).toArray 42))
  have KR := Lib.hid (fun W => l2Rack_any r W h24)
  have E := Lib.hid (show BhOk r n = (vR r && decide (0 ≤ n ∧ n ≤ 2)) from rfl)
  rw [row_ints]
  go_enter Try.func50, Try.ntmps50
  go_wp2_with (refine load_has rfl 42 _ rfl _ rfl ?_ 24 ?_ _ Try.underlying42 rfl ?_ ?_; rotate_left; (· (repeat (first | (with_reducible assumption) | ((with_reducible refine Has.box _ _ ?_ ?_) <;> (first | assumption | decide)) | (with_reducible refine Has.alloc ?_ _) | ((with_reducible refine Has.putOther ?_ _ _ ?_); rotate_left; omega; skip) | ((with_reducible refine Has.below ?_ ?_); rotate_left; assumption)))); (· kernel_rfl))
  refine (KR.out _).mono ?_
  rintro e w1 ⟨rfl, b1⟩
  replace HB := Lib.hid (HB.out.call b1)
  clear b1
  cases hv : vR r with
  | true =>
    have E2 := Lib.hid (show BhOk r n = decide (0 ≤ n ∧ n ≤ 2) by rw [E.out, hv]; rfl)
    go_wp2_with fail
    refine (l1In_any n 0 2 _).mono ?_
    rintro e w2 ⟨rfl, rfl⟩
    by_cases hc : 0 ≤ n ∧ n ≤ 2
    · have E3 := Lib.hid (show BhOk r n = true by rw [E2.out, decide_eq_true hc])
      rw [decide_eq_true hc]
      clear hc
      go_wp2_with fail
      go_ret
      exact ⟨by rw [E3.out]; rfl, HB.out⟩
    · have E3 := Lib.hid (show BhOk r n = false by rw [E2.out, decide_eq_false hc])
      rw [decide_eq_false hc]
      clear hc
      go_wp2_with fail
      go_ret
      exact ⟨by rw [E3.out]; rfl, HB.out⟩
  | false =>
    have E2 := Lib.hid (show BhOk r n = false by rw [E.out, hv]; rfl)
    go_wp2_with fail
    go_ret
    exact ⟨by rw [E2.out]; rfl, HB.out⟩

set_option maxHeartbeats 800000 in
set_option maxRecDepth 100000 in
theorem specChanceSortedBy (r : List Int) (n : Int) (w : World) (h24 : r.length = 24) :
    Calls Try.prog 19 #[row r, .int .i64 n] w fun e w' => e = .returned (.tuple #[.agg (ints (mnA r n gSort)).toArray, .bool (BhOk r n)]) ∧ Kept w w' := by
  have H := (Has.box w 42 h24 (by omega)).alloc (.cells #[.int .i64 0, .int .i64 0] 33)
  have Z := (Has.zero2v (w.alloc (.cells (ints r).toArray 42)) 33).at (size1 _ _)
  have HB := Lib.hid (((kept_refl w).alloc (.cells (ints r).toArray 42)).alloc (.cells #[.int .i64 0, .int .i64 0] 33))
  have KG := Lib.hid (fun W => l9Good_any r n W h24)
  have fl := mnA_len r n gSort
  rw [row_ints]
  go_enter Try.func19, Try.ntmps19
  go_wp2_with (refine load_has rfl 42 _ rfl _ rfl ?_ 24 ?_ _ Try.underlying42 rfl ?_ ?_; rotate_left; (· (repeat (first | (with_reducible assumption) | ((with_reducible refine Has.box _ _ ?_ ?_) <;> (first | assumption | decide)) | (with_reducible refine Has.alloc ?_ _) | ((with_reducible refine Has.putOther ?_ _ _ ?_); rotate_left; omega; skip) | ((with_reducible refine Has.below ?_ ?_); rotate_left; assumption)))); (· kernel_rfl))
  refine (KG.out _).mono ?_
  rintro e w1 ⟨rfl, b1⟩
  replace H := H.below b1
  replace Z := Z.below b1
  replace HB := Lib.hid (HB.out.call b1)
  clear b1
  cases hb : BhOk r n with
  | false =>
    have E := Lib.hid (show BhOk r n = false ∧ mnA r n gSort = z2 from ⟨hb, by unfold mnA; rw [hb]; rfl⟩)
    have S1 := Lib.hid (Z.putAll z2 rfl)
    have S2 := Lib.hid (HB.out.puts (b := w.heap.size + 1) (by omega) 0 (ints z2))
    clear hb
    go_wp2_with (first | (refine build_law rfl 33 rfl _ build2z ?_) | (refine store_at rfl 33 _ _ rfl _ _ rfl rfl ?_ 2 ?_ ?_ ?_ ?_; rotate_left; (· (repeat (first | (with_reducible assumption) | ((with_reducible refine Has.box _ _ ?_ ?_) <;> (first | assumption | decide)) | (with_reducible refine Has.alloc ?_ _) | ((with_reducible refine Has.putOther ?_ _ _ ?_); rotate_left; omega; skip) | ((with_reducible refine Has.below ?_ ?_); rotate_left; assumption)))); (· (first | assumption | rfl)); (· kernel_rfl)))
    exact bodyPost_ret (res_has1 rfl _ _ (w.heap.size + 1) z2 2 _ (.bool false) rfl rfl S1.out Try.underlying33 rfl (by kernel_rfl)) rfl ⟨by rw [E.out.1, E.out.2], S2.out⟩
  | true =>
    obtain ⟨hv, n0, n2⟩ := bh_ok hb
    obtain ⟨N, rfl⟩ : ∃ N : Nat, n = (N : Int) := ⟨n.toNat, by omega⟩
    have E := Lib.hid (show BhOk r (N : Int) = true ∧ mnA r (N : Int) gSort = frac (numP N gSort r) (denP N r) from ⟨hb, by unfold mnA; rw [if_pos hb, Int.toNat_natCast]⟩)
    have KM := Lib.hid (fun V => mean_all 1 gSort (fun x _ => gSort_le x) (fun x gx U => worth1_any x U gx) N (by omega) r ⟨h24, hv⟩ V)
    rw [E.out.2] at fl
    clear hb hv n0 n2
    go_wp2_with (refine load_has rfl 42 _ rfl _ rfl ?_ 24 ?_ _ Try.underlying42 rfl ?_ ?_; rotate_left; (· (repeat (first | (with_reducible assumption) | ((with_reducible refine Has.box _ _ ?_ ?_) <;> (first | assumption | decide)) | (with_reducible refine Has.alloc ?_ _) | ((with_reducible refine Has.putOther ?_ _ _ ?_); rotate_left; omega; skip) | ((with_reducible refine Has.below ?_ ?_); rotate_left; assumption)))); (· kernel_rfl))
    refine (KM.out _).mono ?_
    rintro e w2 ⟨rfl, b2⟩
    replace Z := Z.below b2
    have S1 := Lib.hid (Z.putAll _ fl)
    have S2 := Lib.hid ((HB.out.call b2).puts (b := w.heap.size + 1) (by omega) 0 (ints (frac (numP N gSort r) (denP N r))))
    clear b2
    go_wp2_with (refine store_at rfl 33 _ _ rfl _ _ rfl rfl ?_ 2 ?_ ?_ ?_ ?_; rotate_left; (· (repeat (first | (with_reducible assumption) | ((with_reducible refine Has.box _ _ ?_ ?_) <;> (first | assumption | decide)) | (with_reducible refine Has.alloc ?_ _) | ((with_reducible refine Has.putOther ?_ _ _ ?_); rotate_left; omega; skip) | ((with_reducible refine Has.below ?_ ?_); rotate_left; assumption)))); (· (first | assumption | rfl)); (· kernel_rfl))
    exact bodyPost_ret (res_has1 rfl _ _ (w.heap.size + 1) _ 2 _ (.bool true) rfl rfl S1.out Try.underlying33 rfl (by kernel_rfl)) rfl ⟨by rw [E.out.1, E.out.2], S2.out⟩

set_option maxHeartbeats 800000 in
set_option maxRecDepth 100000 in
theorem specChanceStuckBy (r : List Int) (n : Int) (w : World) (h24 : r.length = 24) :
    Calls Try.prog 22 #[row r, .int .i64 n] w fun e w' => e = .returned (.tuple #[.agg (ints (mnA r n gStuck)).toArray, .bool (BhOk r n)]) ∧ Kept w w' := by
  have H := (Has.box w 42 h24 (by omega)).alloc (.cells #[.int .i64 0, .int .i64 0] 33)
  have Z := (Has.zero2v (w.alloc (.cells (ints r).toArray 42)) 33).at (size1 _ _)
  have HB := Lib.hid (((kept_refl w).alloc (.cells (ints r).toArray 42)).alloc (.cells #[.int .i64 0, .int .i64 0] 33))
  have KG := Lib.hid (fun W => l9Good_any r n W h24)
  have fl := mnA_len r n gStuck
  rw [row_ints]
  go_enter Try.func22, Try.ntmps22
  go_wp2_with (refine load_has rfl 42 _ rfl _ rfl ?_ 24 ?_ _ Try.underlying42 rfl ?_ ?_; rotate_left; (· (repeat (first | (with_reducible assumption) | ((with_reducible refine Has.box _ _ ?_ ?_) <;> (first | assumption | decide)) | (with_reducible refine Has.alloc ?_ _) | ((with_reducible refine Has.putOther ?_ _ _ ?_); rotate_left; omega; skip) | ((with_reducible refine Has.below ?_ ?_); rotate_left; assumption)))); (· kernel_rfl))
  refine (KG.out _).mono ?_
  rintro e w1 ⟨rfl, b1⟩
  replace H := H.below b1
  replace Z := Z.below b1
  replace HB := Lib.hid (HB.out.call b1)
  clear b1
  cases hb : BhOk r n with
  | false =>
    have E := Lib.hid (show BhOk r n = false ∧ mnA r n gStuck = z2 from ⟨hb, by unfold mnA; rw [hb]; rfl⟩)
    have S1 := Lib.hid (Z.putAll z2 rfl)
    have S2 := Lib.hid (HB.out.puts (b := w.heap.size + 1) (by omega) 0 (ints z2))
    clear hb
    go_wp2_with (first | (refine build_law rfl 33 rfl _ build2z ?_) | (refine store_at rfl 33 _ _ rfl _ _ rfl rfl ?_ 2 ?_ ?_ ?_ ?_; rotate_left; (· (repeat (first | (with_reducible assumption) | ((with_reducible refine Has.box _ _ ?_ ?_) <;> (first | assumption | decide)) | (with_reducible refine Has.alloc ?_ _) | ((with_reducible refine Has.putOther ?_ _ _ ?_); rotate_left; omega; skip) | ((with_reducible refine Has.below ?_ ?_); rotate_left; assumption)))); (· (first | assumption | rfl)); (· kernel_rfl)))
    exact bodyPost_ret (res_has1 rfl _ _ (w.heap.size + 1) z2 2 _ (.bool false) rfl rfl S1.out Try.underlying33 rfl (by kernel_rfl)) rfl ⟨by rw [E.out.1, E.out.2], S2.out⟩
  | true =>
    obtain ⟨hv, n0, n2⟩ := bh_ok hb
    obtain ⟨N, rfl⟩ : ∃ N : Nat, n = (N : Int) := ⟨n.toNat, by omega⟩
    have E := Lib.hid (show BhOk r (N : Int) = true ∧ mnA r (N : Int) gStuck = frac (numP N gStuck r) (denP N r) from ⟨hb, by unfold mnA; rw [if_pos hb, Int.toNat_natCast]⟩)
    have KM := Lib.hid (fun V => mean_all 2 gStuck (fun x _ => gStuck_le x) (fun x gx U => worth2_any x U gx) N (by omega) r ⟨h24, hv⟩ V)
    rw [E.out.2] at fl
    clear hb hv n0 n2
    go_wp2_with (refine load_has rfl 42 _ rfl _ rfl ?_ 24 ?_ _ Try.underlying42 rfl ?_ ?_; rotate_left; (· (repeat (first | (with_reducible assumption) | ((with_reducible refine Has.box _ _ ?_ ?_) <;> (first | assumption | decide)) | (with_reducible refine Has.alloc ?_ _) | ((with_reducible refine Has.putOther ?_ _ _ ?_); rotate_left; omega; skip) | ((with_reducible refine Has.below ?_ ?_); rotate_left; assumption)))); (· kernel_rfl))
    refine (KM.out _).mono ?_
    rintro e w2 ⟨rfl, b2⟩
    replace Z := Z.below b2
    have S1 := Lib.hid (Z.putAll _ fl)
    have S2 := Lib.hid ((HB.out.call b2).puts (b := w.heap.size + 1) (by omega) 0 (ints (frac (numP N gStuck r) (denP N r))))
    clear b2
    go_wp2_with (refine store_at rfl 33 _ _ rfl _ _ rfl rfl ?_ 2 ?_ ?_ ?_ ?_; rotate_left; (· (repeat (first | (with_reducible assumption) | ((with_reducible refine Has.box _ _ ?_ ?_) <;> (first | assumption | decide)) | (with_reducible refine Has.alloc ?_ _) | ((with_reducible refine Has.putOther ?_ _ _ ?_); rotate_left; omega; skip) | ((with_reducible refine Has.below ?_ ?_); rotate_left; assumption)))); (· (first | assumption | rfl)); (· kernel_rfl))
    exact bodyPost_ret (res_has1 rfl _ _ (w.heap.size + 1) _ 2 _ (.bool true) rfl rfl S1.out Try.underlying33 rfl (by kernel_rfl)) rfl ⟨by rw [E.out.1, E.out.2], S2.out⟩

set_option maxHeartbeats 800000 in
set_option maxRecDepth 100000 in
theorem specMeanRunsBehind (r : List Int) (n : Int) (w : World) (h24 : r.length = 24) :
    Calls Try.prog 24 #[row r, .int .i64 n] w fun e w' => e = .returned (.tuple #[.agg (ints (mnA r n gRuns)).toArray, .bool (BhOk r n)]) ∧ Kept w w' := by
  have H := (Has.box w 42 h24 (by omega)).alloc (.cells #[.int .i64 0, .int .i64 0] 33)
  have Z := (Has.zero2v (w.alloc (.cells (ints r).toArray 42)) 33).at (size1 _ _)
  have HB := Lib.hid (((kept_refl w).alloc (.cells (ints r).toArray 42)).alloc (.cells #[.int .i64 0, .int .i64 0] 33))
  have KG := Lib.hid (fun W => l9Good_any r n W h24)
  have fl := mnA_len r n gRuns
  rw [row_ints]
  go_enter Try.func24, Try.ntmps24
  go_wp2_with (refine load_has rfl 42 _ rfl _ rfl ?_ 24 ?_ _ Try.underlying42 rfl ?_ ?_; rotate_left; (· (repeat (first | (with_reducible assumption) | ((with_reducible refine Has.box _ _ ?_ ?_) <;> (first | assumption | decide)) | (with_reducible refine Has.alloc ?_ _) | ((with_reducible refine Has.putOther ?_ _ _ ?_); rotate_left; omega; skip) | ((with_reducible refine Has.below ?_ ?_); rotate_left; assumption)))); (· kernel_rfl))
  refine (KG.out _).mono ?_
  rintro e w1 ⟨rfl, b1⟩
  replace H := H.below b1
  replace Z := Z.below b1
  replace HB := Lib.hid (HB.out.call b1)
  clear b1
  cases hb : BhOk r n with
  | false =>
    have E := Lib.hid (show BhOk r n = false ∧ mnA r n gRuns = z2 from ⟨hb, by unfold mnA; rw [hb]; rfl⟩)
    have S1 := Lib.hid (Z.putAll z2 rfl)
    have S2 := Lib.hid (HB.out.puts (b := w.heap.size + 1) (by omega) 0 (ints z2))
    clear hb
    go_wp2_with (first | (refine build_law rfl 33 rfl _ build2z ?_) | (refine store_at rfl 33 _ _ rfl _ _ rfl rfl ?_ 2 ?_ ?_ ?_ ?_; rotate_left; (· (repeat (first | (with_reducible assumption) | ((with_reducible refine Has.box _ _ ?_ ?_) <;> (first | assumption | decide)) | (with_reducible refine Has.alloc ?_ _) | ((with_reducible refine Has.putOther ?_ _ _ ?_); rotate_left; omega; skip) | ((with_reducible refine Has.below ?_ ?_); rotate_left; assumption)))); (· (first | assumption | rfl)); (· kernel_rfl)))
    exact bodyPost_ret (res_has1 rfl _ _ (w.heap.size + 1) z2 2 _ (.bool false) rfl rfl S1.out Try.underlying33 rfl (by kernel_rfl)) rfl ⟨by rw [E.out.1, E.out.2], S2.out⟩
  | true =>
    obtain ⟨hv, n0, n2⟩ := bh_ok hb
    obtain ⟨N, rfl⟩ : ∃ N : Nat, n = (N : Int) := ⟨n.toNat, by omega⟩
    have E := Lib.hid (show BhOk r (N : Int) = true ∧ mnA r (N : Int) gRuns = frac (numP N gRuns r) (denP N r) from ⟨hb, by unfold mnA; rw [if_pos hb, Int.toNat_natCast]⟩)
    have KM := Lib.hid (fun V => mean_all 3 gRuns (fun x gx => gRuns_le gx) (fun x gx U => worth3_any x U gx) N (by omega) r ⟨h24, hv⟩ V)
    rw [E.out.2] at fl
    clear hb hv n0 n2
    go_wp2_with (refine load_has rfl 42 _ rfl _ rfl ?_ 24 ?_ _ Try.underlying42 rfl ?_ ?_; rotate_left; (· (repeat (first | (with_reducible assumption) | ((with_reducible refine Has.box _ _ ?_ ?_) <;> (first | assumption | decide)) | (with_reducible refine Has.alloc ?_ _) | ((with_reducible refine Has.putOther ?_ _ _ ?_); rotate_left; omega; skip) | ((with_reducible refine Has.below ?_ ?_); rotate_left; assumption)))); (· kernel_rfl))
    refine (KM.out _).mono ?_
    rintro e w2 ⟨rfl, b2⟩
    replace Z := Z.below b2
    have S1 := Lib.hid (Z.putAll _ fl)
    have S2 := Lib.hid ((HB.out.call b2).puts (b := w.heap.size + 1) (by omega) 0 (ints (frac (numP N gRuns r) (denP N r))))
    clear b2
    go_wp2_with (refine store_at rfl 33 _ _ rfl _ _ rfl rfl ?_ 2 ?_ ?_ ?_ ?_; rotate_left; (· (repeat (first | (with_reducible assumption) | ((with_reducible refine Has.box _ _ ?_ ?_) <;> (first | assumption | decide)) | (with_reducible refine Has.alloc ?_ _) | ((with_reducible refine Has.putOther ?_ _ _ ?_); rotate_left; omega; skip) | ((with_reducible refine Has.below ?_ ?_); rotate_left; assumption)))); (· (first | assumption | rfl)); (· kernel_rfl))
    exact bodyPost_ret (res_has1 rfl _ _ (w.heap.size + 1) _ 2 _ (.bool true) rfl rfl S1.out Try.underlying33 rfl (by kernel_rfl)) rfl ⟨by rw [E.out.1, E.out.2], S2.out⟩

set_option maxHeartbeats 400000 in
theorem lawChanceSortedBy (vs : List Int) (n : Int) (w : World) (h0 : vs.length = 24 ∧ ∀ n ∈ vs, (Lit.int .i64 n).wf = true) (fn : (Lit.int .i64 n).wf = true) :
    Calls Try.prog 5 #[row vs, .int .i64 n] w fun e w' => e = .returned (.bool true) ∧ Kept w w' := by
  obtain ⟨h, hw⟩ := h0
  have hl : (mnA vs n gSort).length = 2 := mnA_len vs n gSort
  have HB := Lib.hid ((kept_refl w).alloc (.cells (ints vs).toArray 40))
  have H := Has.box w 40 h (by omega)
  have KS := Lib.hid (fun _W => specChanceSortedBy vs n _W h)
  have KI := Lib.hid (fun _W => implChanceSort vs n _W h)
  clear hw fn
  rw [row_ints]
  go_enter Try.func5, Try.ntmps5
  go_wp2_with (refine load_has rfl 40 _ rfl _ rfl ?_ 24 ?_ _ Try.underlying40 rfl ?_ ?_; rotate_left; (· (repeat (first | (with_reducible assumption) | ((with_reducible refine Has.box _ _ ?_ ?_) <;> (first | assumption | decide)) | (with_reducible refine Has.alloc ?_ _) | ((with_reducible refine Has.putOther ?_ _ _ ?_); rotate_left; omega; skip) | ((with_reducible refine Has.below ?_ ?_); rotate_left; assumption)))); (· kernel_rfl))
  refine (toRack_any vs _ h).mono ?_
  rintro e w1 ⟨rfl, b1⟩
  have H1 := H.below b1
  have HB1 := Lib.hid (HB.out.call b1)
  clear H HB b1
  go_wp2_with fail
  refine (KS.out _).mono ?_
  rintro e w2 ⟨rfl, b2⟩
  have H2 := (H1.below b2).alloc (.cells (ints (mnA vs n gSort)).toArray 33)
  have R2 := Has.box w2 33 hl (by omega)
  have HB2 := Lib.hid ((HB1.out.call b2).alloc (.cells (ints (mnA vs n gSort)).toArray 33))
  clear H1 HB1 b2
  go_wp2_with (first | (refine store_new rfl 33 _ _ rfl _ _ _ rfl _ rfl _ rfl rfl ?_ ?_ ?_; (· (first | assumption | rfl)); (· kernel_rfl)) | (refine load_has rfl 40 _ rfl _ rfl ?_ 24 ?_ _ Try.underlying40 rfl ?_ ?_; rotate_left; (· (repeat (first | (with_reducible assumption) | ((with_reducible refine Has.box _ _ ?_ ?_) <;> (first | assumption | decide)) | (with_reducible refine Has.alloc ?_ _) | ((with_reducible refine Has.putOther ?_ _ _ ?_); rotate_left; omega; skip) | ((with_reducible refine Has.below ?_ ?_); rotate_left; assumption)))); (· kernel_rfl)))
  refine (toRack_any vs _ h).mono ?_
  rintro e w3 ⟨rfl, b3⟩
  have R3 := R2.below b3
  have HB3 := Lib.hid (HB2.out.call b3)
  clear H2 R2 HB2 b3
  go_wp2_with fail
  refine (KI.out _).mono ?_
  rintro e w4 ⟨rfl, b4⟩
  have R4 := (R3.below b4).alloc (.cells (ints (mnA vs n gSort)).toArray 33)
  have Q4 := Has.box w4 33 hl (by omega)
  have HB4 := Lib.hid ((HB3.out.call b4).alloc (.cells (ints (mnA vs n gSort)).toArray 33))
  clear R3 HB3 b4
  go_wp2_with (first | (refine store_new rfl 33 _ _ rfl _ _ _ rfl _ rfl _ rfl rfl ?_ ?_ ?_; (· (first | assumption | rfl)); (· kernel_rfl)) | (refine load_has rfl 33 _ rfl _ rfl ?_ 2 ?_ _ Try.underlying33 rfl ?_ ?_; rotate_left; (· (repeat (first | (with_reducible assumption) | ((with_reducible refine Has.box _ _ ?_ ?_) <;> (first | assumption | decide)) | (with_reducible refine Has.alloc ?_ _) | ((with_reducible refine Has.putOther ?_ _ _ ?_); rotate_left; omega; skip) | ((with_reducible refine Has.below ?_ ?_); rotate_left; assumption)))); (· kernel_rfl)))
  refine (eqIntA2v (mnA vs n gSort) _ hl).mono ?_
  rintro e w5 ⟨rfl, b5⟩
  have HB5 := Lib.hid (HB4.out.call b5)
  clear R4 Q4 HB4 b5
  go_wp2_with fail
  go_ret
  exact ⟨rfl, HB5.out⟩


set_option maxHeartbeats 400000 in
theorem lawChanceStuckBy (vs : List Int) (n : Int) (w : World) (h0 : vs.length = 24 ∧ ∀ n ∈ vs, (Lit.int .i64 n).wf = true) (fn : (Lit.int .i64 n).wf = true) :
    Calls Try.prog 6 #[row vs, .int .i64 n] w fun e w' => e = .returned (.bool true) ∧ Kept w w' := by
  obtain ⟨h, hw⟩ := h0
  have hl : (mnA vs n gStuck).length = 2 := mnA_len vs n gStuck
  have HB := Lib.hid ((kept_refl w).alloc (.cells (ints vs).toArray 40))
  have H := Has.box w 40 h (by omega)
  have KS := Lib.hid (fun _W => specChanceStuckBy vs n _W h)
  have KI := Lib.hid (fun _W => implChanceStuck vs n _W h)
  clear hw fn
  rw [row_ints]
  go_enter Try.func6, Try.ntmps6
  go_wp2_with (refine load_has rfl 40 _ rfl _ rfl ?_ 24 ?_ _ Try.underlying40 rfl ?_ ?_; rotate_left; (· (repeat (first | (with_reducible assumption) | ((with_reducible refine Has.box _ _ ?_ ?_) <;> (first | assumption | decide)) | (with_reducible refine Has.alloc ?_ _) | ((with_reducible refine Has.putOther ?_ _ _ ?_); rotate_left; omega; skip) | ((with_reducible refine Has.below ?_ ?_); rotate_left; assumption)))); (· kernel_rfl))
  refine (toRack_any vs _ h).mono ?_
  rintro e w1 ⟨rfl, b1⟩
  have H1 := H.below b1
  have HB1 := Lib.hid (HB.out.call b1)
  clear H HB b1
  go_wp2_with fail
  refine (KS.out _).mono ?_
  rintro e w2 ⟨rfl, b2⟩
  have H2 := (H1.below b2).alloc (.cells (ints (mnA vs n gStuck)).toArray 33)
  have R2 := Has.box w2 33 hl (by omega)
  have HB2 := Lib.hid ((HB1.out.call b2).alloc (.cells (ints (mnA vs n gStuck)).toArray 33))
  clear H1 HB1 b2
  go_wp2_with (first | (refine store_new rfl 33 _ _ rfl _ _ _ rfl _ rfl _ rfl rfl ?_ ?_ ?_; (· (first | assumption | rfl)); (· kernel_rfl)) | (refine load_has rfl 40 _ rfl _ rfl ?_ 24 ?_ _ Try.underlying40 rfl ?_ ?_; rotate_left; (· (repeat (first | (with_reducible assumption) | ((with_reducible refine Has.box _ _ ?_ ?_) <;> (first | assumption | decide)) | (with_reducible refine Has.alloc ?_ _) | ((with_reducible refine Has.putOther ?_ _ _ ?_); rotate_left; omega; skip) | ((with_reducible refine Has.below ?_ ?_); rotate_left; assumption)))); (· kernel_rfl)))
  refine (toRack_any vs _ h).mono ?_
  rintro e w3 ⟨rfl, b3⟩
  have R3 := R2.below b3
  have HB3 := Lib.hid (HB2.out.call b3)
  clear H2 R2 HB2 b3
  go_wp2_with fail
  refine (KI.out _).mono ?_
  rintro e w4 ⟨rfl, b4⟩
  have R4 := (R3.below b4).alloc (.cells (ints (mnA vs n gStuck)).toArray 33)
  have Q4 := Has.box w4 33 hl (by omega)
  have HB4 := Lib.hid ((HB3.out.call b4).alloc (.cells (ints (mnA vs n gStuck)).toArray 33))
  clear R3 HB3 b4
  go_wp2_with (first | (refine store_new rfl 33 _ _ rfl _ _ _ rfl _ rfl _ rfl rfl ?_ ?_ ?_; (· (first | assumption | rfl)); (· kernel_rfl)) | (refine load_has rfl 33 _ rfl _ rfl ?_ 2 ?_ _ Try.underlying33 rfl ?_ ?_; rotate_left; (· (repeat (first | (with_reducible assumption) | ((with_reducible refine Has.box _ _ ?_ ?_) <;> (first | assumption | decide)) | (with_reducible refine Has.alloc ?_ _) | ((with_reducible refine Has.putOther ?_ _ _ ?_); rotate_left; omega; skip) | ((with_reducible refine Has.below ?_ ?_); rotate_left; assumption)))); (· kernel_rfl)))
  refine (eqIntA2v (mnA vs n gStuck) _ hl).mono ?_
  rintro e w5 ⟨rfl, b5⟩
  have HB5 := Lib.hid (HB4.out.call b5)
  clear R4 Q4 HB4 b5
  go_wp2_with fail
  go_ret
  exact ⟨rfl, HB5.out⟩


set_option maxHeartbeats 400000 in
theorem lawMeanRunsBehind (vs : List Int) (n : Int) (w : World) (h0 : vs.length = 24 ∧ ∀ n ∈ vs, (Lit.int .i64 n).wf = true) (fn : (Lit.int .i64 n).wf = true) :
    Calls Try.prog 7 #[row vs, .int .i64 n] w fun e w' => e = .returned (.bool true) ∧ Kept w w' := by
  obtain ⟨h, hw⟩ := h0
  have hl : (mnA vs n gRuns).length = 2 := mnA_len vs n gRuns
  have HB := Lib.hid ((kept_refl w).alloc (.cells (ints vs).toArray 40))
  have H := Has.box w 40 h (by omega)
  have KS := Lib.hid (fun _W => specMeanRunsBehind vs n _W h)
  have KI := Lib.hid (fun _W => implMeanRuns vs n _W h)
  clear hw fn
  rw [row_ints]
  go_enter Try.func7, Try.ntmps7
  go_wp2_with (refine load_has rfl 40 _ rfl _ rfl ?_ 24 ?_ _ Try.underlying40 rfl ?_ ?_; rotate_left; (· (repeat (first | (with_reducible assumption) | ((with_reducible refine Has.box _ _ ?_ ?_) <;> (first | assumption | decide)) | (with_reducible refine Has.alloc ?_ _) | ((with_reducible refine Has.putOther ?_ _ _ ?_); rotate_left; omega; skip) | ((with_reducible refine Has.below ?_ ?_); rotate_left; assumption)))); (· kernel_rfl))
  refine (toRack_any vs _ h).mono ?_
  rintro e w1 ⟨rfl, b1⟩
  have H1 := H.below b1
  have HB1 := Lib.hid (HB.out.call b1)
  clear H HB b1
  go_wp2_with fail
  refine (KS.out _).mono ?_
  rintro e w2 ⟨rfl, b2⟩
  have H2 := (H1.below b2).alloc (.cells (ints (mnA vs n gRuns)).toArray 33)
  have R2 := Has.box w2 33 hl (by omega)
  have HB2 := Lib.hid ((HB1.out.call b2).alloc (.cells (ints (mnA vs n gRuns)).toArray 33))
  clear H1 HB1 b2
  go_wp2_with (first | (refine store_new rfl 33 _ _ rfl _ _ _ rfl _ rfl _ rfl rfl ?_ ?_ ?_; (· (first | assumption | rfl)); (· kernel_rfl)) | (refine load_has rfl 40 _ rfl _ rfl ?_ 24 ?_ _ Try.underlying40 rfl ?_ ?_; rotate_left; (· (repeat (first | (with_reducible assumption) | ((with_reducible refine Has.box _ _ ?_ ?_) <;> (first | assumption | decide)) | (with_reducible refine Has.alloc ?_ _) | ((with_reducible refine Has.putOther ?_ _ _ ?_); rotate_left; omega; skip) | ((with_reducible refine Has.below ?_ ?_); rotate_left; assumption)))); (· kernel_rfl)))
  refine (toRack_any vs _ h).mono ?_
  rintro e w3 ⟨rfl, b3⟩
  have R3 := R2.below b3
  have HB3 := Lib.hid (HB2.out.call b3)
  clear H2 R2 HB2 b3
  go_wp2_with fail
  refine (KI.out _).mono ?_
  rintro e w4 ⟨rfl, b4⟩
  have R4 := (R3.below b4).alloc (.cells (ints (mnA vs n gRuns)).toArray 33)
  have Q4 := Has.box w4 33 hl (by omega)
  have HB4 := Lib.hid ((HB3.out.call b4).alloc (.cells (ints (mnA vs n gRuns)).toArray 33))
  clear R3 HB3 b4
  go_wp2_with (first | (refine store_new rfl 33 _ _ rfl _ _ _ rfl _ rfl _ rfl rfl ?_ ?_ ?_; (· (first | assumption | rfl)); (· kernel_rfl)) | (refine load_has rfl 33 _ rfl _ rfl ?_ 2 ?_ _ Try.underlying33 rfl ?_ ?_; rotate_left; (· (repeat (first | (with_reducible assumption) | ((with_reducible refine Has.box _ _ ?_ ?_) <;> (first | assumption | decide)) | (with_reducible refine Has.alloc ?_ _) | ((with_reducible refine Has.putOther ?_ _ _ ?_); rotate_left; omega; skip) | ((with_reducible refine Has.below ?_ ?_); rotate_left; assumption)))); (· kernel_rfl)))
  refine (eqIntA2v (mnA vs n gRuns) _ hl).mono ?_
  rintro e w5 ⟨rfl, b5⟩
  have HB5 := Lib.hid (HB4.out.call b5)
  clear R4 Q4 HB4 b5
  go_wp2_with fail
  go_ret
  exact ⟨rfl, HB5.out⟩

end Go.Proofs.Ytemiljokdedidac.base
end
