/-
  The mean of the moved numbers: plain mathematics.
-/
import Derived.Test.YtemiljokdedidabMovW
namespace Go.Proofs.Ytemiljokdedidab.base
set_option linter.unusedVariables false
set_option linter.unusedSimpArgs false

def movS (vs : List Int) (i : Nat) : Nat → Nat
  | 0 => 0
  | k + 1 => movS vs i k + longN vs i (k + 1)
def meanUp (vs : List Int) (i room : Nat) : Nat → Nat
  | 0 => 0
  | r + 1 => meanUp vs i room r + (longN vs i (r + 1) - longN vs i (r + 2)) * min (r + 1) room
theorem mean_sum {vs : List Int} {i m c : Nat} (h : vs.length = 18) (hv : vV vs = true) (T : TopFacts vs i m c) (room : Nat) : ∀ r, meanUp vs i room r + longN vs i (r + 1) * min r room = movS vs i (min r room)
  | 0 => by simp [meanUp, movS]
  | r + 1 => by
    have ih := mean_sum h hv T room r
    have mo := long_mono h hv T (r + 1) (by omega)
    show meanUp vs i room r + (longN vs i (r + 1) - longN vs i (r + 2)) * min (r + 1) room + longN vs i (r + 2) * min (r + 1) room = _
    rw [show r + 1 + 1 = r + 2 from rfl] at mo
    generalize hA : longN vs i (r + 1) = A at *
    generalize longN vs i (r + 2) = B at *
    have e : (A - B) * min (r + 1) room + B * min (r + 1) room = A * min (r + 1) room := by rw [← Nat.add_mul, Nat.sub_add_cancel mo]
    rw [Nat.add_assoc, e]
    by_cases hr : r < room
    · rw [Nat.min_eq_left (show r ≤ room by omega)] at ih
      rw [Nat.min_eq_left (show r + 1 ≤ room by omega)]
      show _ = movS vs i r + longN vs i (r + 1)
      rw [hA, ← ih, Nat.mul_add, Nat.mul_one]; omega
    · rw [Nat.min_eq_right (show room ≤ r by omega)] at ih
      rw [Nat.min_eq_right (show room ≤ r + 1 by omega)]
      exact ih
theorem movS_flat {vs : List Int} {i m c : Nat} (T : TopFacts vs i m c) : ∀ k, movS vs i (m + k) = movS vs i m
  | 0 => rfl
  | k + 1 => by
    show movS vs i (m + k) + longN vs i (m + k + 1) = _
    rw [movS_flat T k, long_no T (by omega)]; rfl
theorem mean_end {vs : List Int} {i m c : Nat} (h : vs.length = 18) (hv : vV vs = true) (T : TopFacts vs i m c) (room : Nat) : meanUp vs i room m = movS vs i room := by
  have e := mean_sum h hv T room m
  rw [long_no T (by omega), Nat.zero_mul, Nat.add_zero] at e
  rw [e]
  by_cases hr : m ≤ room
  · rw [Nat.min_eq_left hr]
    have := movS_flat T (room - m)
    rw [show m + (room - m) = room by omega] at this
    exact this.symm
  · rw [Nat.min_eq_right (by omega)]
theorem movS_le {vs : List Int} {i m c : Nat} (h : vs.length = 18) (hv : vV vs = true) (T : TopFacts vs i m c) : ∀ k, movS vs i k ≤ k * ordA (hid vs)
  | 0 => by simp [movS]
  | k + 1 => by
    have a := movS_le h hv T k
    have b := long_le h hv T (k + 1) (by omega)
    show movS vs i k + longN vs i (k + 1) ≤ _
    rw [Nat.add_mul, Nat.one_mul]; omega
theorem meanUp_le {vs : List Int} {i m c : Nat} (h : vs.length = 18) (hv : vV vs = true) (T : TopFacts vs i m c) (room r : Nat) (h4 : room ≤ 4) : meanUp vs i room r ≤ 4 * ordA (hid vs) := by
  have e := mean_sum h hv T room r
  have a := movS_le h hv T (min r room)
  have b : min r room * ordA (hid vs) ≤ 4 * ordA (hid vs) := Nat.mul_le_mul_right _ (by omega)
  omega
/-! the numbers that the machine reckons are small -/
def fal (n : Nat) : Nat → Nat
  | 0 => 1
  | k + 1 => fal n k * (n - k)
theorem fal_pos (n : Nat) : ∀ k, k ≤ n → 0 < fal n k
  | 0, _ => by simp [fal]
  | k + 1, h => Nat.mul_pos (fal_pos n k (by omega)) (by omega)
theorem fal_dvd (n k : Nat) : ∀ j, fal n k ∣ fal n (k + j)
  | 0 => Nat.dvd_refl _
  | j + 1 => Nat.dvd_trans (fal_dvd n k j) (Nat.dvd_mul_right _ _)
theorem fal_le (n : Nat) (hn : n ≤ 18) : ∀ k, fal n k ≤ 18 ^ k
  | 0 => by simp [fal]
  | k + 1 => by
    rw [Nat.pow_succ]
    exact Nat.mul_le_mul (fal_le n hn k) (by omega)
theorem left_fal (s : List Int) (c : Nat) (h6 : s.length = 6) (hc : c < 6) (hn : ∀ j, j < 6 → 0 ≤ s.getD j 0) : ∀ k, ordA s ∣ leftN s c k * fal (plUp s 6) k
  | 0 => by rw [left_zero s c h6 hc]; exact Nat.dvd_mul_right _ _
  | k + 1 => by
    have e := left_step s c k h6 hc hn
    have ih := left_fal s c h6 hc hn k
    show ordA s ∣ leftN s c (k + 1) * (fal (plUp s 6) k * (plUp s 6 - k))
    rw [Nat.mul_comm (fal _ _), ← Nat.mul_assoc, e, Nat.mul_right_comm]
    exact Nat.dvd_trans ih (Nat.dvd_mul_right _ _)
theorem long_fal {vs : List Int} {i m c : Nat} (h : vs.length = 18) (hv : vV vs = true) (T : TopFacts vs i m c) (l : Nat) (h1 : 1 ≤ l) : ordA (hid vs) ∣ longN vs i l * fal (plUp (hid vs) 6) (m - 1) := by
  by_cases hl : l ≤ m
  · rw [long_yes T hl]
    have F := viewFacts h hv
    have a := left_fal (hid vs) c (hid_len h) T.c6 F.nat (l - 1)
    obtain ⟨d, hd⟩ := fal_dvd (plUp (hid vs) 6) (l - 1) (m - 1 - (l - 1))
    rw [show l - 1 + (m - 1 - (l - 1)) = m - 1 by omega] at hd
    rw [hd, ← Nat.mul_assoc]
    exact Nat.dvd_trans a (Nat.dvd_mul_right _ _)
  · rw [long_no T (by omega), Nat.zero_mul]; exact Nat.dvd_zero _
theorem cutD_dvd (S M N : Nat) (hM : 0 < M) (h : M ∣ S * N) : cutD S M ∣ N := by
  have g0 := cut_gcd_pos S M hM
  have e1 := cutN_mul S M
  have e2 := cutD_mul S M
  have cp : Nat.Coprime (cutD S M) (cutN S M) := (Nat.coprime_div_gcd_div_gcd g0).symm
  have h2 : cutD S M * Nat.gcd S M ∣ (cutN S M * N) * Nat.gcd S M := by
    rw [e2, Nat.mul_right_comm, e1]; exact h
  exact cp.dvd_of_dvd_mul_left (Nat.dvd_of_mul_dvd_mul_right g0 h2)
theorem cut_small {S M N : Nat} (hM : 0 < M) (hN : 0 < N) (h5 : N ≤ 5832) (h : M ∣ S * N) (hS : S ≤ 4 * M) : cutD S M ≤ 5832 ∧ cutN S M ≤ 4 * 5832 := by
  have d := Nat.le_of_dvd hN (cutD_dvd S M N hM h)
  have x := cut_cross S M
  have : cutN S M * M ≤ (4 * cutD S M) * M := by
    rw [x]
    calc S * cutD S M ≤ (4 * M) * cutD S M := Nat.mul_le_mul_right _ hS
      _ = (4 * cutD S M) * M := by rw [Nat.mul_right_comm]
  have := Nat.le_of_mul_le_mul_right this hM
  omega
theorem run_dvd {vs : List Int} {i m c : Nat} (h : vs.length = 18) (hv : vV vs = true) (T : TopFacts vs i m c) (r q : Nat) (h1 : 1 ≤ r) : ordA (hid vs) ∣ ((longN vs i r - longN vs i (r + 1)) * q) * fal (plUp (hid vs) 6) (m - 1) := by
  rw [Nat.mul_right_comm]
  refine Nat.dvd_trans ?_ (Nat.dvd_mul_right _ q)
  rw [Nat.sub_mul]
  exact Nat.dvd_sub (long_fal h hv T r h1) (long_fal h hv T (r + 1) (by omega))
theorem mean_dvd {vs : List Int} {i m c : Nat} (h : vs.length = 18) (hv : vV vs = true) (T : TopFacts vs i m c) (room : Nat) : ∀ r, ordA (hid vs) ∣ meanUp vs i room r * fal (plUp (hid vs) 6) (m - 1)
  | 0 => by simp [meanUp]
  | r + 1 => by
    show _ ∣ (meanUp vs i room r + _) * _
    rw [Nat.add_mul]
    exact Nat.dvd_add (mean_dvd h hv T room r) (run_dvd h hv T (r + 1) _ (by omega))
/-- What a round of the model reckons with. -/
structure MeanNums (S P q M : Nat) : Prop where
  a1 : 0 < cutD S M
  a2 : cutD S M ≤ 5832
  a3 : cutN S M ≤ 23328
  b1 : 0 < cutD P M
  b2 : cutD P M ≤ 5832
  b3 : cutN P M ≤ 23328
  e1 : frac (cutN P M * q) (cutD P M) = frac (P * q) M
  c1 : 0 < cutD (P * q) M
  c2 : cutD (P * q) M ≤ 5832
  c3 : cutN (P * q) M ≤ 23328
  e2 : frac (cutN S M * cutD (P * q) M + cutN (P * q) M * cutD S M) (cutD S M * cutD (P * q) M) = frac (S + P * q) M
theorem mean_nums {vs : List Int} {i m c : Nat} (h : vs.length = 18) (hv : vV vs = true) (T : TopFacts vs i m c) (room r : Nat) (h4 : room ≤ 4) (h1 : 1 ≤ r) (q : Nat) (hq : q ≤ 4) :
    MeanNums (meanUp vs i room (r - 1)) (longN vs i r - longN vs i (r + 1)) q (ordA (hid vs)) := by
  have F := viewFacts h hv
  have M0 := (hid_stk h hv).pos
  have room1 := T.room
  have m4 := T.m4
  have fp := fal_pos (plUp (hid vs) 6) (m - 1) room1
  have f5 : fal (plUp (hid vs) 6) (m - 1) ≤ 5832 := by
    have a := fal_le (plUp (hid vs) 6) F.small (m - 1)
    have b : 18 ^ (m - 1) ≤ 18 ^ 3 := Nat.pow_le_pow_right (by omega) (by omega)
    omega
  have ll := long_le h hv T r h1
  have d1 := run_dvd h hv T r 1 h1
  rw [Nat.mul_one] at d1
  have dq := run_dvd h hv T r q h1
  have dm := mean_dvd h hv T room (r - 1)
  have ml := meanUp_le h hv T room (r - 1) h4
  generalize ordA (hid vs) = M at *
  generalize fal (plUp (hid vs) 6) (m - 1) = N at *
  generalize meanUp vs i room (r - 1) = S at *
  have hP : longN vs i r - longN vs i (r + 1) ≤ M := by omega
  generalize longN vs i r - longN vs i (r + 1) = P at *
  have hPq : P * q ≤ 4 * M := by rw [Nat.mul_comm 4]; exact Nat.mul_le_mul hP hq
  obtain ⟨s1, s2⟩ := cut_small M0 fp f5 dm ml
  obtain ⟨p1, p2⟩ := cut_small M0 fp f5 d1 (by omega)
  obtain ⟨q1, q2⟩ := cut_small M0 fp f5 dq hPq
  refine ⟨cutD_pos _ _ M0, s1, s2, cutD_pos _ _ M0, p1, p2, ?_, cutD_pos _ _ M0, q1, q2, ?_⟩
  · have := cut_mul P M q 1 M0 (by omega)
    rw [Nat.mul_one, Nat.mul_one] at this
    unfold frac; rw [this.1, this.2]
  · have := cut_add S (P * q) M M0
    unfold frac; rw [this.1, this.2]
end Go.Proofs.Ytemiljokdedidab.base
