/-
  How many candidates move so many layers, on the program's side, walked.
-/
/-
  The mean of the moved numbers: plain mathematics.
-/
/-
  Pours whose moved number is the same for all candidates: plain mathematics.
-/
/-
  Whether a pour's moved number is not the same for all candidates, on the program's side, walked.
-/
/-
  Whether a pour's moved number is not the same for all candidates, on the program's side: the method.
-/
import Derived.Test.YtemiljokdedidacTopW
import Derived.Test.YtemiljokdedidacOrdW
import Derived.Test.YtemiljokdedidacMadMZ

section
namespace Go.Proofs.Ytemiljokdedidac.base
open Go.ChangeShapes Go.WideShapes Go.ChangeAt Go.RowKit
set_option linter.unusedVariables false
set_option linter.unusedSimpArgs false

/-- The numbers of candidates that move at least 1, 2, .. layers. -/
def movL (vs : List Int) (i k : Nat) : List Int := (List.range k).map fun q => ((longN vs i (q + 1) : Nat) : Int)
theorem movL_len (vs : List Int) (i k : Nat) : (movL vs i k).length = k := by unfold movL; rw [List.length_map, List.length_range]
theorem movL_succ (vs : List Int) (i k : Nat) : movL vs i (k + 1) = movL vs i k ++ [((longN vs i (k + 1) : Nat) : Int)] := by
  unfold movL; rw [List.range_succ, List.map_append]; rfl
theorem movL_getD (vs : List Int) (i k j : Nat) (h : j < k) : (movL vs i k).getD j 0 = ((longN vs i (j + 1) : Nat) : Int) := by
  unfold movL
  rw [List.getD_eq_getElem?_getD, List.getElem?_map, List.getElem?_range h]; rfl

set_option maxHeartbeats 1600000 in
set_option maxRecDepth 100000 in
theorem movers_any (vs : List Int) (i j m c mj n : Nat) (w : World) (h : vs.length = 18) (hv : vV vs = true) (hi : i < 6) (hj : j < 6) (T : TopFacts vs i m c) (hm : vMany vs j = (mj : Int)) (hn : n + mj = 4) :
    Calls Try.prog 74 #[row vs, .int .i64 i, .int .i64 j] w fun e w' => ∃ g cap : Nat, e = .returned (.slice (some ⟨g, 0, none⟩) n cap) ∧ Nu w' w.heap.size (.slice (some ⟨g, 0, none⟩) n cap) n (movL vs i n) ∧ Kept w w' := by
  obtain ⟨i0, hi0, hz0, hz1, hz2⟩ := infoN_parts infoN
  have HB := Lib.hid (((kept_refl w).alloc (.cells (ints vs).toArray 28)).alloc (.cells #[] 3))
  have H := (Has.box w 28 h (by omega)).alloc (.cells #[] 3)
  have N0 := Lib.hid (Nu.emptyV (w.alloc (.cells (ints vs).toArray 28)) (w.heap.size + 1) (by simp))
  have KL := Lib.hid (fun l W h1 h2 => longTops_any vs i l m c W h hv hi T h1 h2)
  have HM := Lib.hid hm
  have BG := Lib.hid (fun l (h1 : 1 ≤ l) => Nat.le_trans (long_le h hv T l h1) ((hid_stk h hv).big (viewFacts h hv).small))
  rw [row_ints]
  clear hv T hm
  go_enter Try.func74, Try.ntmps74
  go_upto_region 3 with (refine load_has rfl 28 _ rfl _ rfl ?_ 18 ?_ _ Try.underlying28 rfl ?_ ?_; rotate_left; (· (repeat (first | (with_reducible assumption) | ((with_reducible refine Has.box _ _ ?_ ?_) <;> (first | assumption | decide)) | (with_reducible refine Has.alloc ?_ _) | ((with_reducible refine Has.putOther ?_ _ _ ?_); rotate_left; omega; skip) | ((with_reducible refine Has.below ?_ ?_); rotate_left; assumption)))); (· kernel_rfl))
  rw [size1] at N0
  have N1 : Hid (Nu ((w.alloc (.cells (ints vs).toArray 28)).alloc (.cells #[] 3)) (w.heap.size + 1) (.slice (some ⟨w.heap.size + 1, 0, none⟩) 0 0) 0 (movL vs i 0)) := N0
  have e1 : (1 : Int) = ((0 : Nat) : Int) + 1 := rfl
  go_loopg [7, 8] n (fun gk u ll wr => ∃ k g cap : Nat, gk = n - k ∧ k ≤ n ∧ ll = .int .i64 ((k : Int) + 1) ∧ u = .slice (some ⟨g, 0, none⟩) k cap ∧ Has wr w.heap.size vs 18 ∧ Hid (Nu wr (w.heap.size + 1) (.slice (some ⟨g, 0, none⟩) k cap) k (movL vs i k)) ∧ Hid (Kept w wr))
  case atStart => exact ⟨0, _, _, rfl, by omega, rfl, rfl, H, N1, HB⟩
  case round =>
    clear H N0 N1 HB e1
    obtain ⟨k, g, cap, rfl, hk, rfl, rfl, GH, GN, GB⟩ := hrel
    have c1 := GH.mCellX j hj HM.out
    have hji : (j : Int) < 6 := by omega
    obtain ⟨l, hl⟩ : ∃ l : Nat, l = k + 1 := ⟨_, rfl⟩
    have el : (k : Int) + 1 = (l : Int) := by omega
    rw [el]
    have HL := Lib.hid hl
    have WN : IntKind.i64.wrap (4 - (mj : Int)) = (n : Int) := by rw [IntWalk.i64_in _ (by omega)]; omega
    have WN2 : (4 : Int) - (mj : Int) = (n : Int) := by omega
    have HEL := Lib.hid el
    clear el
    by_cases hlt : k < n
    · have dl : decide ((l : Int) ≤ (n : Int)) = true := decide_eq_true (by omega)
      have dn : decide (l ≤ n) = true := decide_eq_true (by omega)
      have wl : IntKind.i64.wrap ((l : Int) + 1) = (l : Int) + 1 := IntWalk.i64_in _ (by omega)
      have l10 : l ≤ 10 := by omega
      have l1 : 1 ≤ l := by omega
      have DK := Lib.hid (show n - (k + 1) < n - k by omega)
      have HK := Lib.hid (show k + 1 ≤ n from hlt)
      have EL := Lib.hid (movL_succ vs i k)
      have K1 := Lib.hid (fun W => KL.out l W l1 l10)
      have bg := BG.out l l1
      have k4 : k ≤ 4 := by omega
      have EK := Lib.hid (show ((k : Int) + 1) + 1 = (((k + 1 : Nat) : Int)) + 1 by omega)
      rw [← HL.out] at EL
      clear hl hlt
      go_wp2_with (refine load_has rfl 28 _ rfl _ rfl ?_ 18 ?_ _ Try.underlying28 rfl ?_ ?_; rotate_left; (· (repeat (first | (with_reducible assumption) | ((with_reducible refine Has.box _ _ ?_ ?_) <;> (first | assumption | decide)) | (with_reducible refine Has.alloc ?_ _) | ((with_reducible refine Has.putOther ?_ _ _ ?_); rotate_left; omega; skip) | ((with_reducible refine Has.below ?_ ?_); rotate_left; assumption)))); (· kernel_rfl))
      refine (K1.out _).mono ?_
      rintro e w5 ⟨rfl, b5⟩
      generalize longN vs i l = z at *
      have KH6 := (GH.below b5).alloc (.cells #[.int .i64 (z : Int)] 3)
      have KN5 := GN.out.below b5
      have KN6 := KN5.alloc (.cells #[.int .i64 (z : Int)] 3)
      have KB6 := (GB.out.call b5).alloc (.cells #[.int .i64 (z : Int)] 3)
      have cnew := cell_one_new w5 (.int .i64 (z : Int)) 3
      clear GH GN GB b5 c1
      have hrow := KN6
      unfold Nu at hrow
      have hg5 := (KN5.own g rfl).2
      go_upto_region 4 with (at_builtin; refine wpList_append_own _ rfl _ _ 98 rfl (w.heap.size + 1) 3 i0 (.int .i64 0) 1 8 Try.underlying98 hi0 hz0 hz1 hz2 rfl (by decide) _ k (ints (movL vs i k)) rfl hrow ⟨w5.heap.size, 0, none⟩ 1 1 [.int .i64 (z : Int)] rfl rfl cnew (fun x hx => by simp at hx; subst hx; rfl) (by unfold maxLen; omega) (by omega) (by have := KH6.lt; omega) ?_; intro v' w6 hown' hgrow hnil)
      have NN : Nu w6 (w.heap.size + 1) v' (k + 1) (movL vs i (k + 1)) := by
        rw [show movL vs i (k + 1) = movL vs i k ++ [(z : Int)] by rw [← HL.out]; exact EL.out]; unfold Nu; rw [ints_app]; exact hown'
      have KH7 := Lib.hid (KH6.beside hgrow (fun e => by have e := Option.some.inj (show some w.heap.size = some g from e); have := (KN6.own g rfl).1; omega))
      have KB7 := Lib.hid (show Kept w w6 from KB6.grown hgrow (by have := KH6.lt; omega) (fun z hz => by have hz := Option.some.inj (show some g = some z from hz); have := (KN6.own g rfl).1; omega))
      obtain ⟨g2, cap2, he, _, _⟩ := NN.form (by omega)
      subst he
      have NN := Lib.hid NN
      clear hown' hgrow hnil hrow KH6 KN6 KB6 cnew KN5
      go_wp2_with fail
      go_roundg (n - (k + 1))
      case rel => exact ⟨k + 1, g2, cap2, rfl, HK.out, by rw [← EK.out, HEL.out], rfl, KH7.out, NN, KB7⟩
      case measure => exact DK.out
    · obtain rfl : k = n := by omega
      have dl : decide ((l : Int) ≤ (k : Int)) = false := decide_eq_false (by omega)
      have dn : decide (l ≤ k) = false := decide_eq_false (by omega)
      clear hl hlt
      go_wp2_with fail
      go_ret
      exact ⟨g, cap, rfl, World.ownsRow.mono GN.out (by omega), GB.out⟩
end Go.Proofs.Ytemiljokdedidac.base
end

section
namespace Go.Proofs.Ytemiljokdedidac.base
set_option linter.unusedVariables false
set_option linter.unusedSimpArgs false

def movS (vs : List Int) (i : Nat) : Nat → Nat
  | 0 => 0
  | k + 1 => movS vs i k + longN vs i (k + 1)
def meanUp (vs : List Int) (i room : Nat) : Nat → Nat
  | 0 => 0
  | r + 1 => meanUp vs i room r + (longN vs i (r + 1) - longN vs i (r + 2)) * min (r + 1) room
theorem mean_sum {vs : List Int} {i m c : Nat} (h : vs.length = 18) (hv : vV vs = true) (T : TopFacts vs i m c) (room : Nat) : ∀ r, meanUp vs i room r + longN vs i (r + 1) * min r room = movS vs i (min r room)
  | 0 => by simp [meanUp, movS]
  | r + 1 => by
    have ih := mean_sum h hv T room r
    have mo := long_mono h hv T (r + 1) (by omega)
    show meanUp vs i room r + (longN vs i (r + 1) - longN vs i (r + 2)) * min (r + 1) room + longN vs i (r + 2) * min (r + 1) room = _
    rw [show r + 1 + 1 = r + 2 from rfl] at mo
    generalize hA : longN vs i (r + 1) = A at *
    generalize longN vs i (r + 2) = B at *
    have e : (A - B) * min (r + 1) room + B * min (r + 1) room = A * min (r + 1) room := by rw [← Nat.add_mul, Nat.sub_add_cancel mo]
    rw [Nat.add_assoc, e]
    by_cases hr : r < room
    · rw [Nat.min_eq_left (show r ≤ room by omega)] at ih
      rw [Nat.min_eq_left (show r + 1 ≤ room by omega)]
      show _ = movS vs i r + longN vs i (r + 1)
      rw [hA, ← ih, Nat.mul_add, Nat.mul_one]; omega
    · rw [Nat.min_eq_right (show room ≤ r by omega)] at ih
      rw [Nat.min_eq_right (show room ≤ r + 1 by omega)]
      exact ih
theorem movS_flat {vs : List Int} {i m c : Nat} (T : TopFacts vs i m c) : ∀ k, movS vs i (m + k) = movS vs i m
  | 0 => rfl
  | k + 1 => by
    show movS vs i (m + k) + longN vs i (m + k + 1) = _
    rw [movS_flat T k, long_no T (by omega)]; rfl
theorem mean_end {vs : List Int} {i m c : Nat} (h : vs.length = 18) (hv : vV vs = true) (T : TopFacts vs i m c) (room : Nat) : meanUp vs i room m = movS vs i room := by
  have e := mean_sum h hv T room m
  rw [long_no T (by omega), Nat.zero_mul, Nat.add_zero] at e
  rw [e]
  by_cases hr : m ≤ room
  · rw [Nat.min_eq_left hr]
    have := movS_flat T (room - m)
    rw [show m + (room - m) = room by omega] at this
    exact this.symm
  · rw [Nat.min_eq_right (by omega)]
theorem movS_le {vs : List Int} {i m c : Nat} (h : vs.length = 18) (hv : vV vs = true) (T : TopFacts vs i m c) : ∀ k, movS vs i k ≤ k * ordA (hid vs)
  | 0 => by simp [movS]
  | k + 1 => by
    have a := movS_le h hv T k
    have b := long_le h hv T (k + 1) (by omega)
    show movS vs i k + longN vs i (k + 1) ≤ _
    rw [Nat.add_mul, Nat.one_mul]; omega
theorem meanUp_le {vs : List Int} {i m c : Nat} (h : vs.length = 18) (hv : vV vs = true) (T : TopFacts vs i m c) (room r : Nat) (h4 : room ≤ 4) : meanUp vs i room r ≤ 4 * ordA (hid vs) := by
  have e := mean_sum h hv T room r
  have a := movS_le h hv T (min r room)
  have b : min r room * ordA (hid vs) ≤ 4 * ordA (hid vs) := Nat.mul_le_mul_right _ (by omega)
  omega
/-! the numbers that the machine reckons are small -/
def fal (n : Nat) : Nat → Nat
  | 0 => 1
  | k + 1 => fal n k * (n - k)
theorem fal_pos (n : Nat) : ∀ k, k ≤ n → 0 < fal n k
  | 0, _ => by simp [fal]
  | k + 1, h => Nat.mul_pos (fal_pos n k (by omega)) (by omega)
theorem fal_dvd (n k : Nat) : ∀ j, fal n k ∣ fal n (k + j)
  | 0 => Nat.dvd_refl _
  | j + 1 => Nat.dvd_trans (fal_dvd n k j) (Nat.dvd_mul_right _ _)
theorem fal_le (n : Nat) (hn : n ≤ 18) : ∀ k, fal n k ≤ 18 ^ k
  | 0 => by simp [fal]
  | k + 1 => by
    rw [Nat.pow_succ]
    exact Nat.mul_le_mul (fal_le n hn k) (by omega)
theorem left_fal (s : List Int) (c : Nat) (h6 : s.length = 6) (hc : c < 6) (hn : ∀ j, j < 6 → 0 ≤ s.getD j 0) : ∀ k, ordA s ∣ leftN s c k * fal (plUp s 6) k
  | 0 => by rw [left_zero s c h6 hc]; exact Nat.dvd_mul_right _ _
  | k + 1 => by
    have e := left_step s c k h6 hc hn
    have ih := left_fal s c h6 hc hn k
    show ordA s ∣ leftN s c (k + 1) * (fal (plUp s 6) k * (plUp s 6 - k))
    rw [Nat.mul_comm (fal _ _), ← Nat.mul_assoc, e, Nat.mul_right_comm]
    exact Nat.dvd_trans ih (Nat.dvd_mul_right _ _)
theorem long_fal {vs : List Int} {i m c : Nat} (h : vs.length = 18) (hv : vV vs = true) (T : TopFacts vs i m c) (l : Nat) (h1 : 1 ≤ l) : ordA (hid vs) ∣ longN vs i l * fal (plUp (hid vs) 6) (m - 1) := by
  by_cases hl : l ≤ m
  · rw [long_yes T hl]
    have F := viewFacts h hv
    have a := left_fal (hid vs) c (hid_len h) T.c6 F.nat (l - 1)
    obtain ⟨d, hd⟩ := fal_dvd (plUp (hid vs) 6) (l - 1) (m - 1 - (l - 1))
    rw [show l - 1 + (m - 1 - (l - 1)) = m - 1 by omega] at hd
    rw [hd, ← Nat.mul_assoc]
    exact Nat.dvd_trans a (Nat.dvd_mul_right _ _)
  · rw [long_no T (by omega), Nat.zero_mul]; exact Nat.dvd_zero _
theorem cutD_dvd (S M N : Nat) (hM : 0 < M) (h : M ∣ S * N) : cutD S M ∣ N := by
  have g0 := cut_gcd_pos S M hM
  have e1 := cutN_mul S M
  have e2 := cutD_mul S M
  have cp : Nat.Coprime (cutD S M) (cutN S M) := (Nat.coprime_div_gcd_div_gcd g0).symm
  have h2 : cutD S M * Nat.gcd S M ∣ (cutN S M * N) * Nat.gcd S M := by
    rw [e2, Nat.mul_right_comm, e1]; exact h
  exact cp.dvd_of_dvd_mul_left (Nat.dvd_of_mul_dvd_mul_right g0 h2)
theorem cut_small {S M N : Nat} (hM : 0 < M) (hN : 0 < N) (h5 : N ≤ 5832) (h : M ∣ S * N) (hS : S ≤ 4 * M) : cutD S M ≤ 5832 ∧ cutN S M ≤ 4 * 5832 := by
  have d := Nat.le_of_dvd hN (cutD_dvd S M N hM h)
  have x := cut_cross S M
  have : cutN S M * M ≤ (4 * cutD S M) * M := by
    rw [x]
    calc S * cutD S M ≤ (4 * M) * cutD S M := Nat.mul_le_mul_right _ hS
      _ = (4 * cutD S M) * M := by rw [Nat.mul_right_comm]
  have := Nat.le_of_mul_le_mul_right this hM
  omega
theorem run_dvd {vs : List Int} {i m c : Nat} (h : vs.length = 18) (hv : vV vs = true) (T : TopFacts vs i m c) (r q : Nat) (h1 : 1 ≤ r) : ordA (hid vs) ∣ ((longN vs i r - longN vs i (r + 1)) * q) * fal (plUp (hid vs) 6) (m - 1) := by
  rw [Nat.mul_right_comm]
  refine Nat.dvd_trans ?_ (Nat.dvd_mul_right _ q)
  rw [Nat.sub_mul]
  exact Nat.dvd_sub (long_fal h hv T r h1) (long_fal h hv T (r + 1) (by omega))
theorem mean_dvd {vs : List Int} {i m c : Nat} (h : vs.length = 18) (hv : vV vs = true) (T : TopFacts vs i m c) (room : Nat) : ∀ r, ordA (hid vs) ∣ meanUp vs i room r * fal (plUp (hid vs) 6) (m - 1)
  | 0 => by simp [meanUp]
  | r + 1 => by
    show _ ∣ (meanUp vs i room r + _) * _
    rw [Nat.add_mul]
    exact Nat.dvd_add (mean_dvd h hv T room r) (run_dvd h hv T (r + 1) _ (by omega))
/-- What a round of the model reckons with. -/
structure MeanNums (S P q M : Nat) : Prop where
  a1 : 0 < cutD S M
  a2 : cutD S M ≤ 5832
  a3 : cutN S M ≤ 23328
  b1 : 0 < cutD P M
  b2 : cutD P M ≤ 5832
  b3 : cutN P M ≤ 23328
  e1 : frac (cutN P M * q) (cutD P M) = frac (P * q) M
  c1 : 0 < cutD (P * q) M
  c2 : cutD (P * q) M ≤ 5832
  c3 : cutN (P * q) M ≤ 23328
  e2 : frac (cutN S M * cutD (P * q) M + cutN (P * q) M * cutD S M) (cutD S M * cutD (P * q) M) = frac (S + P * q) M
theorem mean_nums {vs : List Int} {i m c : Nat} (h : vs.length = 18) (hv : vV vs = true) (T : TopFacts vs i m c) (room r : Nat) (h4 : room ≤ 4) (h1 : 1 ≤ r) (q : Nat) (hq : q ≤ 4) :
    MeanNums (meanUp vs i room (r - 1)) (longN vs i r - longN vs i (r + 1)) q (ordA (hid vs)) := by
  have F := viewFacts h hv
  have M0 := (hid_stk h hv).pos
  have room1 := T.room
  have m4 := T.m4
  have fp := fal_pos (plUp (hid vs) 6) (m - 1) room1
  have f5 : fal (plUp (hid vs) 6) (m - 1) ≤ 5832 := by
    have a := fal_le (plUp (hid vs) 6) F.small (m - 1)
    have b : 18 ^ (m - 1) ≤ 18 ^ 3 := Nat.pow_le_pow_right (by omega) (by omega)
    omega
  have ll := long_le h hv T r h1
  have d1 := run_dvd h hv T r 1 h1
  rw [Nat.mul_one] at d1
  have dq := run_dvd h hv T r q h1
  have dm := mean_dvd h hv T room (r - 1)
  have ml := meanUp_le h hv T room (r - 1) h4
  generalize ordA (hid vs) = M at *
  generalize fal (plUp (hid vs) 6) (m - 1) = N at *
  generalize meanUp vs i room (r - 1) = S at *
  have hP : longN vs i r - longN vs i (r + 1) ≤ M := by omega
  generalize longN vs i r - longN vs i (r + 1) = P at *
  have hPq : P * q ≤ 4 * M := by rw [Nat.mul_comm 4]; exact Nat.mul_le_mul hP hq
  obtain ⟨s1, s2⟩ := cut_small M0 fp f5 dm ml
  obtain ⟨p1, p2⟩ := cut_small M0 fp f5 d1 (by omega)
  obtain ⟨q1, q2⟩ := cut_small M0 fp f5 dq hPq
  refine ⟨cutD_pos _ _ M0, s1, s2, cutD_pos _ _ M0, p1, p2, ?_, cutD_pos _ _ M0, q1, q2, ?_⟩
  · have := cut_mul P M q 1 M0 (by omega)
    rw [Nat.mul_one, Nat.mul_one] at this
    unfold frac; rw [this.1, this.2]
  · have := cut_add S (P * q) M M0
    unfold frac; rw [this.1, this.2]
end Go.Proofs.Ytemiljokdedidac.base
end

section
namespace Go.Proofs.Ytemiljokdedidac.base
set_option linter.unusedVariables false
set_option linter.unusedSimpArgs false

/-- The least and the most moved number, as the model reckons them run by run. -/
def lmT (T : Nat → Nat) (n : Nat) : Nat → Nat × Nat
  | 0 => (4, 0)
  | r + 1 => if 0 < T (r + 1) - T (r + 2) then (min (lmT T n r).1 (min (r + 1) n), max (lmT T n r).2 (min (r + 1) n)) else lmT T n r
/-- A mover's number that is neither 0 nor the first one, as the program looks for it. -/
def uncT (T : Nat → Nat) (n : Nat) : Bool := (List.range n).any fun q => decide (T (q + 1) ≠ 0) && decide (T (q + 1) ≠ T 1)
theorem lm_unc (T : Nat → Nat) (n m : Nat) (n1 : 1 ≤ n) (n4 : n ≤ 4) (m1 : 1 ≤ m) (m4 : m ≤ 4) (p : 0 < T 1) (a1 : T 2 ≤ T 1) (a2 : T 3 ≤ T 2) (a3 : T 4 ≤ T 3) (z : ∀ l, m < l → T l = 0) :
    decide ((lmT T n m).1 = (lmT T n m).2) = !uncT T n := by
  have hz5 := z 5 (by omega)
  have hz2 : m = 1 → T 2 = 0 := fun h => z 2 (by omega)
  have hz3 : m ≤ 2 → T 3 = 0 := fun h => z 3 (by omega)
  have hz4 : m ≤ 3 → T 4 = 0 := fun h => z 4 (by omega)
  clear z
  have key : ((lmT T n m).1 = (lmT T n m).2) ↔ uncT T n = false := by
    have hm : m = 1 ∨ m = 2 ∨ m = 3 ∨ m = 4 := by omega
    have hn : n = 1 ∨ n = 2 ∨ n = 3 ∨ n = 4 := by omega
    rcases hm with rfl | rfl | rfl | rfl <;> rcases hn with rfl | rfl | rfl | rfl <;>
      simp only [lmT, uncT, List.range_succ, List.range_zero, List.nil_append, List.any_append, List.any_cons, List.any_nil, Bool.or_false, Bool.or_eq_false_iff, Bool.and_eq_false_iff, decide_eq_false_iff_not, Nat.zero_add, Nat.reduceAdd, Nat.reduceLeDiff] <;>
      (repeat' split) <;> simp only [] <;> omega
  rw [Bool.eq_iff_iff]
  simp [key]
end Go.Proofs.Ytemiljokdedidac.base
end

section
namespace Go.Proofs.Ytemiljokdedidac.base
open Go.ChangeShapes Go.WideShapes Go.ChangeAt Go.RowKit
set_option linter.unusedVariables false
set_option linter.unusedSimpArgs false

def uncP (t1 x : Int) : Bool := x != 0 && x != t1
set_option maxHeartbeats 400000 in
theorem isUnc1_any (x t1 : Int) (s g n cap : Nat) (w : World) (hn : 0 < n) (hs : w.cell? ⟨s, 0, none⟩ = some (.slice (some ⟨g, 0, none⟩) n cap)) (hg : w.cell? ⟨g, 0, none⟩ = some (.int .i64 t1)) :
    Calls Try.prog 76 #[.int .i64 x, .pointer (some ⟨s, 0, none⟩)] w fun e w' => e = .returned (.bool (uncP t1 x)) ∧ w' = w := by
  have n0 : (0 : Int) < (n : Int) := by omega
  go_enter Try.func76, Try.ntmps76
  by_cases h0 : x = 0
  · have E := Lib.hid (show uncP t1 0 = false from rfl)
    subst h0
    go_wp2_with fail
    go_ret
    exact ⟨by rw [E.out]; rfl, rfl⟩
  · have d0 : (x == 0) = false := by simpa using h0
    have d1 : decide (x = 0) = false := decide_eq_false h0
    go_wp2_with fail
    go_ret
    exact ⟨rfl, rfl⟩
set_option maxHeartbeats 800000 in
theorem indexUnc_any (fs : List Int) (t1 : Int) (s g n cap : Nat) (w : World) (hn : 0 < n) (hn4 : n ≤ 4) (hs : w.cell? ⟨s, 0, none⟩ = some (.slice (some ⟨g, 0, none⟩) n cap)) (hg : ∀ k, k < n → w.cell? ⟨g, k, none⟩ = some (.int .i64 (fs.getD k 0))) (ht : fs.getD 0 0 = t1) :
    Calls Try.prog 107 #[.slice (some ⟨g, 0, none⟩) n cap, .func (Fn.func 76) #[] #[.pointer (some ⟨s, 0, none⟩)]] w fun e w' => (∃ z : Int, e = .returned (.int .i64 z) ∧ ((z = -1 ∧ ∀ j, j < n → uncP t1 (fs.getD j 0) = false) ∨ (0 ≤ z ∧ z ≤ 100 ∧ ∃ j, j < n ∧ uncP t1 (fs.getD j 0) = true))) ∧ w' = w := by
  have K := Lib.hid (fun x => isUnc1_any x t1 s g n cap w hn hs (by rw [hg 0 hn, ht]))
  have HG := Lib.hid hg
  clear hs hg ht
  go_enter Try.func107, Try.ntmps107
  go_wp2_with fail
  go_loopg [8] n (fun gk i wr => ∃ j : Nat, gk = n - j ∧ j ≤ n ∧ i = .int .i64 j ∧ wr = w ∧ Hid (∀ t, t < j → uncP t1 (fs.getD t 0) = false))
  case atStart => exact ⟨0, rfl, by omega, rfl, rfl, Lib.hid (fun t ht => by omega)⟩
  case round =>
    obtain ⟨j, rfl, hj, rfl, rfl, GA⟩ := hrel
    by_cases hjn : j < n
    · have hji : (j : Int) < (n : Int) := by omega
      have c0 := HG.out j hjn
      have FB := Lib.hid (fun (h1 : uncP t1 (fs.getD j 0) = true) => (show 0 ≤ (j : Int) ∧ (j : Int) ≤ 100 ∧ ∃ j, j < n ∧ uncP t1 (fs.getD j 0) = true from ⟨by omega, by omega, j, hjn, h1⟩))
      have GA2 := Lib.hid (fun (h1 : uncP t1 (fs.getD j 0) = false) => (show ∀ t, t < j + 1 → uncP t1 (fs.getD t 0) = false from fun t ht => by
        by_cases e : t = j
        · subst e; exact h1
        · exact GA.out t (by omega)))
      have DK := Lib.hid (show n - (j + 1) < n - j by omega)
      generalize fs.getD j 0 = x at *
      clear hjn
      go_wp2_with fail
      refine (K.out x).mono ?_
      rintro e w1 ⟨rfl, rfl⟩
      cases hu : uncP t1 x with
      | true =>
        have F2 := Lib.hid (FB.out hu)
        clear hu
        go_wp2_with fail
        go_ret
        exact ⟨⟨_, rfl, .inr F2.out⟩, rfl⟩
      | false =>
        have A2 := Lib.hid (GA2.out hu)
        clear hu
        go_wp2_with fail
        go_roundg (n - (j + 1))
        case rel => exact ⟨j + 1, rfl, by omega, by go_num, rfl, A2⟩
        case measure => exact DK.out
    · obtain rfl : j = n := by omega
      go_wp2_with fail
      go_ret
      exact ⟨⟨-1, rfl, .inl ⟨rfl, GA.out⟩⟩, rfl⟩

set_option maxHeartbeats 800000 in
theorem containsUnc_any (fs : List Int) (t1 : Int) (s g n cap : Nat) (w : World) (hn : 0 < n) (hn4 : n ≤ 4) (hs : w.cell? ⟨s, 0, none⟩ = some (.slice (some ⟨g, 0, none⟩) n cap)) (hg : ∀ k, k < n → w.cell? ⟨g, k, none⟩ = some (.int .i64 (fs.getD k 0))) (ht : fs.getD 0 0 = t1) :
    Calls Try.prog 75 #[.slice (some ⟨g, 0, none⟩) n cap, .func (Fn.func 76) #[] #[.pointer (some ⟨s, 0, none⟩)]] w fun e w' => e = .returned (.bool ((List.range n).any fun j => uncP t1 (fs.getD j 0))) ∧ w' = w := by
  have K := Lib.hid (indexUnc_any fs t1 s g n cap w hn hn4 hs hg ht)
  clear hs hg ht
  go_enter Try.func75, Try.ntmps75
  go_wp2_with fail
  refine K.out.mono ?_
  rintro e w1 ⟨⟨z, rfl, hz⟩, rfl⟩
  rcases hz with ⟨rfl, hz⟩ | ⟨z0, z1, j, hj, hz⟩
  · have E := Lib.hid (show ((List.range n).any fun j => uncP t1 (fs.getD j 0)) = false from List.any_eq_false.2 fun j hj => by rw [hz j (List.mem_range.1 hj)]; decide)
    clear hz
    go_wp2_with fail
    go_ret
    exact ⟨by rw [E.out]; rfl, rfl⟩
  · have E := Lib.hid (show ((List.range n).any fun j => uncP t1 (fs.getD j 0)) = true from List.any_eq_true.2 ⟨j, List.mem_range.2 hj, hz⟩)
    have dz : decide (0 ≤ z) = true := decide_eq_true z0
    clear hz
    go_wp2_with fail
    go_ret
    exact ⟨by rw [E.out]; rfl, rfl⟩
end Go.Proofs.Ytemiljokdedidac.base
end

section
namespace Go.Proofs.Ytemiljokdedidac.base
open Go.ChangeShapes Go.WideShapes Go.ChangeAt Go.RowKit
set_option linter.unusedVariables false
set_option linter.unusedSimpArgs false

set_option maxHeartbeats 800000 in
set_option maxRecDepth 100000 in
theorem isUncertain_any (vs : List Int) (p q m c mj n : Nat) (w : World) (h : vs.length = 18) (hv : vV vs = true) (hp : p < 6) (hq : q < 6) (T : TopFacts vs p m c) (hm : vMany vs q = (mj : Int)) (hn : n + mj = 4) (n1 : 1 ≤ n) :
    Calls Try.prog 39 #[row vs, .agg (ints [(p : Int), (q : Int)]).toArray] w fun e w' => e = .returned (.bool (uncT (longN vs p) n)) ∧ Kept w w' := by
  have HB := Lib.hid (((kept_refl w).alloc (.cells (ints vs).toArray 28)).alloc (.cells (ints [(p : Int), (q : Int)]).toArray 33))
  have H := (Has.box w 28 h (by omega)).alloc (.cells (ints [(p : Int), (q : Int)]).toArray 33)
  have B := (Has.box (ns := [(p : Int), (q : Int)]) (n := 2) (w.alloc (.cells (ints vs).toArray 28)) 33 rfl (by omega)).at (size1 _ _)
  have cc0 := B.cellX (k := 0) (x := (p : Int)) (by omega) rfl
  have cc1 := B.cellX (k := 1) (x := (q : Int)) (by omega) rfl
  have KM := Lib.hid (fun W => movers_any vs p q m c mj n W h hv hp hq T hm hn)
  have n4 : n ≤ 4 := by omega
  have EU := Lib.hid (show ((List.range n).any fun j => uncP ((longN vs p 1 : Nat) : Int) ((movL vs p n).getD j 0)) = uncT (longN vs p) n by
    unfold uncT
    rw [Bool.eq_iff_iff, List.any_eq_true, List.any_eq_true]
    constructor
    · rintro ⟨j, hj, hx⟩
      rw [movL_getD vs p n j (List.mem_range.1 hj)] at hx
      refine ⟨j, hj, ?_⟩
      unfold uncP at hx
      simp at hx ⊢
      omega
    · rintro ⟨j, hj, hx⟩
      refine ⟨j, hj, ?_⟩
      rw [movL_getD vs p n j (List.mem_range.1 hj)]
      unfold uncP
      simp at hx ⊢
      omega)
  have E1 := Lib.hid (movL_getD vs p n 0 (by omega))
  rw [row_ints]
  clear hv T hm
  go_enter Try.func39, Try.ntmps39
  go_wp2_with (refine load_has rfl 28 _ rfl _ rfl ?_ 18 ?_ _ Try.underlying28 rfl ?_ ?_; rotate_left; (· (repeat (first | (with_reducible assumption) | ((with_reducible refine Has.box _ _ ?_ ?_) <;> (first | assumption | decide)) | (with_reducible refine Has.alloc ?_ _) | ((with_reducible refine Has.putOther ?_ _ _ ?_); rotate_left; omega; skip) | ((with_reducible refine Has.below ?_ ?_); rotate_left; assumption)))); (· kernel_rfl))
  refine (KM.out _).mono ?_
  rintro e w2 ⟨g, cap, rfl, GN, b2⟩
  have HB2 := Lib.hid (HB.out.call b2)
  have N3 := GN.alloc (.cells #[.slice (some ⟨g, 0, none⟩) n cap] 98)
  have hs : (w2.alloc (.cells #[.slice (some ⟨g, 0, none⟩) n cap] 98)).cell? ⟨w2.heap.size, 0, none⟩ = some (.slice (some ⟨g, 0, none⟩) n cap) := by simp
  have KC := Lib.hid (containsUnc_any (movL vs p n) ((longN vs p 1 : Nat) : Int) w2.heap.size g n cap _ (by omega) n4 hs (fun k hk => N3.cell k hk) E1.out)
  have HB3 := Lib.hid (HB2.out.alloc (.cells #[.slice (some ⟨g, 0, none⟩) n cap] 98))
  clear H B cc0 cc1 HB b2 KM GN N3 HB2
  go_upto_region 2 with fail
  generalize w2.alloc (.cells #[.slice (some ⟨g, 0, none⟩) n cap] 98) = W3 at *
  generalize w2.heap.size = s at *
  go_wp2_with fail
  refine KC.out.mono ?_
  rintro e w3 ⟨rfl, rfl⟩
  rw [EU.out]
  clear KC hs
  go_wp2_with fail
  go_ret
  exact ⟨rfl, HB3.out⟩
end Go.Proofs.Ytemiljokdedidac.base
end
