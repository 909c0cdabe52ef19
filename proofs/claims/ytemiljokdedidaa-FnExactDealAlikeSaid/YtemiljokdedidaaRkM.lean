/-
  Ranks of orders, and the order with a rank: plain mathematics, nothing of the program.
-/
import Derived.Test.YtemiljokdedidaaVwM
namespace Go.Proofs.Ytemiljokdedidaa.base
set_option linter.unusedVariables false
set_option linter.unusedSimpArgs false

/-- A stock without debts, of five colors. -/
structure Stk (s : List Int) (n : Nat) : Prop where
  len : s.length = 6
  nat : ∀ j, j < 6 → 0 ≤ s.getD j 0
  zero : s.getD 0 0 = 0
  pl : plUp s 6 = n
def less1 (s : List Int) (c : Nat) : List Int := s.set c (s.getD c 0 - 1)
theorem less1_len (s : List Int) (c : Nat) : (less1 s c).length = s.length := by unfold less1; rw [List.length_set]
theorem Stk.less {s : List Int} {n c : Nat} (h : Stk s (n + 1)) (h1 : 1 ≤ c) (hc : c < 6) (hp : 0 < s.getD c 0) : Stk (less1 s c) n := by
  obtain ⟨k, hk⟩ : ∃ k : Nat, s.getD c 0 = (k : Int) + 1 := ⟨(s.getD c 0 - 1).toNat, by omega⟩
  have e : less1 s c = s.set c (k : Int) := by unfold less1; rw [hk]; congr 1; omega
  have p := plUp_set s c k h.len hc hk
  rw [h.pl] at p
  rw [e]
  refine ⟨by rw [List.length_set]; exact h.len, set_nat h.len hc h.nat, ?_, by omega⟩
  rw [set_getD s c 0 _ (by rw [h.len]; exact hc), if_neg (by omega)]; exact h.zero
theorem Stk.le {s : List Int} {n : Nat} (h : Stk s n) : ordA s ≤ 6 ^ n := ordA_le n s h.len h.nat h.pl
theorem Stk.pos {s : List Int} {n : Nat} (h : Stk s n) : 0 < ordA s := ordA_pos h.nat
theorem Stk.each {s : List Int} {n : Nat} (h : Stk s n) (j : Nat) (hj : j < 6) : s.getD j 0 ≤ n := by
  have := getD_le_plUp s j hj
  have := h.nat j hj
  have := h.pl
  omega
theorem bef_succ (s : List Int) (c : Nat) (h1 : 1 ≤ c) : bef s (c + 1) = bef s c + ordA (less1 s c) := by
  rw [bef, if_neg (by omega)]; rfl
theorem bef_one (s : List Int) : bef s 1 = 0 := by simp [bef]
theorem bef_le (s : List Int) {a b : Nat} (h : a ≤ b) : bef s a ≤ bef s b := by
  induction b with
  | zero => obtain rfl : a = 0 := by omega
            exact Nat.le_refl _
  | succ b ih =>
    by_cases e : a = b + 1
    · subst e; exact Nat.le_refl _
    · have := ih (by omega)
      rw [bef]; omega
theorem Stk.all {s : List Int} {n : Nat} (h : Stk s (n + 1)) : bef s 6 = ordA s := bef_all s h.len h.nat h.zero (by rw [h.pl]; omega)
theorem Stk.bef_le {s : List Int} {n : Nat} (h : Stk s n) (c : Nat) (hc : c ≤ 6) : bef s c ≤ ordA s := by
  cases n with
  | zero =>
    have hz : ∀ j, 1 ≤ j → j < 6 → ordA (less1 s j) = 0 := fun j h1 hj => by
      refine ordA_not (j := j) hj ?_
      unfold less1
      rw [set_getD s j j _ (by rw [h.len]; exact hj), if_pos rfl]
      have := h.each j hj
      omega
    have : ∀ c, c ≤ 6 → bef s c = 0 := by
      intro c
      induction c with
      | zero => intro _; rfl
      | succ c ih =>
        intro hc
        by_cases e : c = 0
        · subst e; exact bef_one s
        · rw [bef_succ s c (by omega), ih (by omega), hz c (by omega) (by omega)]
    rw [this c hc]; omega
  | succ n => rw [← h.all]; exact Go.Proofs.Ytemiljokdedidaa.base.bef_le s hc

/-- The color with which the order of a rank begins. -/
def pickC (s : List Int) (r : Nat) : Nat := if r < bef s 2 then 1 else if r < bef s 3 then 2 else if r < bef s 4 then 3 else if r < bef s 5 then 4 else 5
structure Picked (s : List Int) (n r c : Nat) : Prop where
  lo : 1 ≤ c
  hi : c < 6
  low : bef s c ≤ r
  high : r < bef s (c + 1)
  pos : 0 < s.getD c 0
  stk : Stk (less1 s c) n
  left : r - bef s c < ordA (less1 s c)
theorem picked {s : List Int} {n r : Nat} (h : Stk s (n + 1)) (hr : r < ordA s) : Picked s n r (pickC s r) := by
  have h6 := h.all
  obtain ⟨h1, h2, h3, h4⟩ : 1 ≤ pickC s r ∧ pickC s r < 6 ∧ bef s (pickC s r) ≤ r ∧ r < bef s (pickC s r + 1) := by
    have b1 := bef_one s
    unfold pickC
    by_cases e2 : r < bef s 2
    · rw [if_pos e2]; exact ⟨by omega, by omega, by omega, e2⟩
    · rw [if_neg e2]
      by_cases e3 : r < bef s 3
      · rw [if_pos e3]; exact ⟨by omega, by omega, by omega, e3⟩
      · rw [if_neg e3]
        by_cases e4 : r < bef s 4
        · rw [if_pos e4]; exact ⟨by omega, by omega, by omega, e4⟩
        · rw [if_neg e4]
          by_cases e5 : r < bef s 5
          · rw [if_pos e5]; exact ⟨by omega, by omega, by omega, e5⟩
          · rw [if_neg e5]; exact ⟨by omega, by omega, by omega, by rw [h6]; exact hr⟩
  generalize pickC s r = c at *
  have e := bef_succ s c h1
  have hp : 0 < s.getD c 0 := by
    refine Decidable.byContradiction fun hn => ?_
    have : ordA (less1 s c) = 0 := ordA_not (j := c) h2 (by unfold less1; rw [set_getD s c c _ (by rw [h.len]; exact h2), if_pos rfl]; omega)
    omega
  exact ⟨h1, h2, h3, h4, hp, h.less h1 h2 hp, by omega⟩
theorem pick_unique {s : List Int} {n r : Nat} (h : Stk s (n + 1)) (hr : r < ordA s) (c : Nat) (h1 : bef s c ≤ r) (h2 : r < bef s (c + 1)) : pickC s r = c := by
  have P := picked h hr
  have p1 := P.low
  have p2 := P.high
  generalize pickC s r = d at *
  rcases Nat.lt_trichotomy d c with g | g | g
  · have := bef_le s (show d + 1 ≤ c by omega); omega
  · exact g
  · have := bef_le s (show c + 1 ≤ d by omega); omega
/-- The stock and the rank behind some layers of the order with a rank. -/
def pt (s : List Int) (r : Nat) : Nat → List Int × Nat
  | 0 => (s, r)
  | k + 1 => (less1 (pt s r k).1 (pickC (pt s r k).1 (pt s r k).2), (pt s r k).2 - bef (pt s r k).1 (pickC (pt s r k).1 (pt s r k).2))
def colAt (s : List Int) (r k : Nat) : Nat := pickC (pt s r k).1 (pt s r k).2
theorem pt_ok {s : List Int} {n r : Nat} (h : Stk s n) (hr : r < ordA s) : ∀ k, k ≤ n → Stk (pt s r k).1 (n - k) ∧ (pt s r k).2 < ordA (pt s r k).1
  | 0, _ => ⟨h, hr⟩
  | k + 1, hk => by
    obtain ⟨h1, h2⟩ := pt_ok h hr k (by omega)
    obtain ⟨m, hm⟩ : ∃ m, n - k = m + 1 := ⟨n - k - 1, by omega⟩
    rw [hm] at h1
    have P := picked h1 h2
    rw [show n - (k + 1) = m by omega]
    exact ⟨P.stk, P.left⟩
theorem colAt_ok {s : List Int} {n r : Nat} (h : Stk s n) (hr : r < ordA s) (k : Nat) (hk : k < n) : Picked (pt s r k).1 (n - k - 1) (pt s r k).2 (colAt s r k) := by
  obtain ⟨h1, h2⟩ := pt_ok h hr k (by omega)
  rw [show n - k = n - k - 1 + 1 by omega] at h1
  exact picked h1 h2
/-- The stock and the rank behind some layers of an order that is told. -/
def rk (s : List Int) (f : Nat → Nat) : Nat → List Int × Nat
  | 0 => (s, 0)
  | k + 1 => (less1 (rk s f k).1 (f k), (rk s f k).2 + bef (rk s f k).1 (f k))
/-- An order has the layers of the stock. -/
def Fits (s : List Int) (f : Nat → Nat) (n : Nat) : Prop := ∀ k, k < n → 1 ≤ f k ∧ f k < 6 ∧ 0 < (rk s f k).1.getD (f k) 0
theorem rk_ok {s : List Int} {n : Nat} {f : Nat → Nat} (h : Stk s n) (hf : Fits s f n) : ∀ k, k ≤ n → Stk (rk s f k).1 (n - k) ∧ (rk s f k).2 + ordA (rk s f k).1 ≤ ordA s
  | 0, _ => ⟨h, by simp [rk]⟩
  | k + 1, hk => by
    obtain ⟨h1, h2⟩ := rk_ok h hf k (by omega)
    obtain ⟨f1, f2, f3⟩ := hf k (by omega)
    obtain ⟨m, hm⟩ : ∃ m, n - k = m + 1 := ⟨n - k - 1, by omega⟩
    rw [hm] at h1
    rw [show n - (k + 1) = m by omega]
    refine ⟨h1.less f1 f2 f3, ?_⟩
    have e := bef_succ (rk s f k).1 (f k) f1
    have l := h1.bef_le (f k + 1) (by omega)
    show (rk s f k).2 + bef (rk s f k).1 (f k) + ordA (less1 (rk s f k).1 (f k)) ≤ ordA s
    omega
/-- The order with a rank has it. -/
theorem rk_pt {s : List Int} {n r : Nat} (h : Stk s n) (hr : r < ordA s) : ∀ k, k ≤ n → (rk s (colAt s r) k).1 = (pt s r k).1 ∧ (rk s (colAt s r) k).2 + (pt s r k).2 = r
  | 0, _ => ⟨rfl, by simp [rk, pt]⟩
  | k + 1, hk => by
    obtain ⟨h1, h2⟩ := rk_pt h hr k (by omega)
    have P := colAt_ok h hr k (by omega)
    have l := P.low
    refine ⟨?_, ?_⟩
    · show less1 (rk s (colAt s r) k).1 (colAt s r k) = less1 (pt s r k).1 (colAt s r k)
      rw [h1]
    · show (rk s (colAt s r) k).2 + bef (rk s (colAt s r) k).1 (colAt s r k) + ((pt s r k).2 - bef (pt s r k).1 (colAt s r k)) = r
      rw [h1]; omega
theorem pt_fits {s : List Int} {n r : Nat} (h : Stk s n) (hr : r < ordA s) : Fits s (colAt s r) n := fun k hk => by
  have P := colAt_ok h hr k hk
  rw [(rk_pt h hr k (by omega)).1]
  exact ⟨P.lo, P.hi, P.pos⟩
theorem ordA_empty {s : List Int} (h : Stk s 0) : ordA s = 1 := by
  have := h.le
  have := h.pos
  simp at *
  omega
theorem rank_of {s : List Int} {n r : Nat} (h : Stk s n) (hr : r < ordA s) : (rk s (colAt s r) n).2 = r := by
  obtain ⟨h1, h2⟩ := rk_pt h hr n (Nat.le_refl _)
  obtain ⟨h3, h4⟩ := pt_ok h hr n (Nat.le_refl _)
  rw [Nat.sub_self] at h3
  have := ordA_empty h3
  omega
/-- An order has the layers of the order with its rank. -/
theorem pt_rk {s : List Int} {n : Nat} {f : Nat → Nat} (h : Stk s n) (hf : Fits s f n) : ∀ k, k ≤ n → (pt s (rk s f n).2 k).1 = (rk s f k).1 ∧ (pt s (rk s f n).2 k).2 + (rk s f k).2 = (rk s f n).2 := by
  have hend : ∀ k, k ≤ n → (rk s f k).2 ≤ (rk s f n).2 ∧ (rk s f n).2 < (rk s f k).2 + ordA (rk s f k).1 := by
    suffices ∀ d k, k + d = n → (rk s f k).2 ≤ (rk s f n).2 ∧ (rk s f n).2 < (rk s f k).2 + ordA (rk s f k).1 from fun k hk => this (n - k) k (by omega)
    intro d
    induction d with
    | zero =>
      intro k hk
      obtain rfl : k = n := by omega
      have := (rk_ok h hf k (Nat.le_refl _)).1.pos
      omega
    | succ d ih =>
      intro k hk
      have i := ih (k + 1) (by omega)
      obtain ⟨f1, f2, f3⟩ := hf k (by omega)
      have e := bef_succ (rk s f k).1 (f k) f1
      have l := (rk_ok h hf k (by omega)).1.bef_le (f k + 1) (by omega)
      have i1 : (rk s f k).2 + bef (rk s f k).1 (f k) ≤ (rk s f n).2 := i.1
      have i2 : (rk s f n).2 < (rk s f k).2 + bef (rk s f k).1 (f k) + ordA (less1 (rk s f k).1 (f k)) := i.2
      omega
  intro k
  induction k with
  | zero => intro _; exact ⟨rfl, by simp [rk, pt]⟩
  | succ k ih =>
    intro hk
    obtain ⟨h1, h2⟩ := ih (by omega)
    obtain ⟨f1, f2, f3⟩ := hf k (by omega)
    have O := rk_ok h hf k (by omega)
    have e := bef_succ (rk s f k).1 (f k) f1
    have E1 := hend k (by omega)
    have E2 := hend (k + 1) hk
    have i1 : (rk s f k).2 + bef (rk s f k).1 (f k) ≤ (rk s f n).2 := E2.1
    have i2 : (rk s f n).2 < (rk s f k).2 + bef (rk s f k).1 (f k) + ordA (less1 (rk s f k).1 (f k)) := E2.2
    have hS := O.1
    rw [show n - k = n - k - 1 + 1 by omega] at hS
    have hpk : pickC (pt s (rk s f n).2 k).1 (pt s (rk s f n).2 k).2 = f k := by
      rw [h1]
      exact pick_unique hS (by omega) (f k) (by omega) (by omega)
    refine ⟨?_, ?_⟩
    · show less1 (pt s (rk s f n).2 k).1 (pickC (pt s (rk s f n).2 k).1 (pt s (rk s f n).2 k).2) = less1 (rk s f k).1 (f k)
      rw [hpk, h1]
    · show (pt s (rk s f n).2 k).2 - bef (pt s (rk s f n).2 k).1 (pickC (pt s (rk s f n).2 k).1 (pt s (rk s f n).2 k).2) + ((rk s f k).2 + bef (rk s f k).1 (f k)) = (rk s f n).2
      rw [hpk, h1]; omega
theorem colAt_rk {s : List Int} {n : Nat} {f : Nat → Nat} (h : Stk s n) (hf : Fits s f n) (k : Nat) (hk : k < n) : colAt s (rk s f n).2 k = f k := by
  have O := rk_ok h hf n (Nat.le_refl _)
  have hr : (rk s f n).2 < ordA s := by have := O.1.pos; omega
  obtain ⟨h1, h2⟩ := pt_rk h hf k (by omega)
  obtain ⟨h3, h4⟩ := pt_rk h hf (k + 1) (by omega)
  have P := colAt_ok h hr k hk
  obtain ⟨f1, f2, f3⟩ := hf k hk
  have e : less1 (pt s (rk s f n).2 k).1 (colAt s (rk s f n).2 k) = less1 (rk s f k).1 (f k) := h3
  rw [h1] at e
  refine Decidable.byContradiction fun hne => ?_
  have g := congrArg (fun l => l.getD (f k) 0) e
  have hS := (rk_ok h hf k (by omega)).1
  unfold less1 at g
  rw [set_getD _ _ _ _ (by rw [hS.len]; exact P.hi), set_getD _ _ _ _ (by rw [hS.len]; exact f2), if_neg (fun e => hne e.symm), if_pos rfl] at g
  omega
end Go.Proofs.Ytemiljokdedidaa.base
