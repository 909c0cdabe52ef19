/-
  Pours that each rule allows, and pours with one outcome: plain mathematics over rows of pairs.
-/
import Derived.Test.YtcedpjjfcfeokabFilM
import Derived.Test.YtcedpjjfcfeokabHasP
namespace Go.Proofs.Ytcedpjjfcfeokab.base
set_option linter.unusedVariables false
set_option linter.unusedSimpArgs false

theorem getD_app_left {l r : List Int} {j : Nat} (h : j < l.length) : (l ++ r).getD j 0 = l.getD j 0 := by
  rw [List.getD_eq_getElem?_getD, List.getD_eq_getElem?_getD, List.getElem?_append_left h]
theorem getD_app_0 {l : List Int} {x y : Int} : (l ++ [x, y]).getD l.length 0 = x := by
  rw [List.getD_eq_getElem?_getD, List.getElem?_append_right (Nat.le_refl _), Nat.sub_self]; rfl
theorem getD_app_1 {l : List Int} {x y : Int} : (l ++ [x, y]).getD (l.length + 1) 0 = y := by
  rw [List.getD_eq_getElem?_getD, List.getElem?_append_right (by omega), Nat.add_sub_cancel_left]; rfl
theorem filt_app (Q : Int → Int → Bool) (l r : List Int) : ∀ n, n * 2 ≤ l.length → filtF Q (l ++ r) n = filtF Q l n
  | 0, _ => rfl
  | n + 1, h => by
    have ih := filt_app Q l r n (by omega)
    rw [filtF, filtF, ih, getD_app_left (by omega), getD_app_left (by omega)]
/-- A row of chosen pairs, filtered, is the row of those that are chosen and kept. -/
theorem filt_pF (Q : Int → Int → Bool) (P : Nat → Nat → Bool) : ∀ m, filtF Q (pF P m) (pN P m) = pF (fun p q => P p q && Q (p : Int) (q : Int)) m
  | 0 => by rw [(p0 P).1]; rfl
  | m + 1 => by
    have ih := filt_pF Q P m
    have hl := pF_len P m
    by_cases h : P (m / 6) (m % 6) = true
    · have e1 : pF P (m + 1) = pF P m ++ [((m / 6 : Nat) : Int), ((m % 6 : Nat) : Int)] := by rw [pF, if_pos h]
      have e2 : pN P (m + 1) = pN P m + 1 := by
        unfold pN; rw [e1, List.length_append]; simp
      have g0 : (pF P m ++ [((m / 6 : Nat) : Int), ((m % 6 : Nat) : Int)]).getD (pN P m * 2) 0 = ((m / 6 : Nat) : Int) := by rw [← hl]; exact getD_app_0
      have g1 : (pF P m ++ [((m / 6 : Nat) : Int), ((m % 6 : Nat) : Int)]).getD (pN P m * 2 + 1) 0 = ((m % 6 : Nat) : Int) := by rw [← hl]; exact getD_app_1
      rw [e1, e2, filtF, g0, g1, filt_app Q _ _ _ (by omega), ih]
      by_cases hq : Q ((m / 6 : Nat) : Int) ((m % 6 : Nat) : Int) = true
      · rw [if_pos hq]
        conv => rhs; rw [pF]
        rw [if_pos (by rw [h, hq]; rfl)]
      · rw [if_neg hq]
        conv => rhs; rw [pF]
        rw [if_neg (by rw [h, Bool.true_and]; exact hq)]
    · have e1 : pF P (m + 1) = pF P m := by rw [pF, if_neg h]
      have e2 : pN P (m + 1) = pN P m := by unfold pN; rw [e1]
      rw [e1, e2, ih]
      conv => rhs; rw [pF]
      rw [if_neg (by simp only [Bool.and_eq_true]; exact fun e => h e.1)]
theorem filtN_pN (Q : Int → Int → Bool) (P : Nat → Nat → Bool) (m : Nat) : filtN Q (pF P m) (pN P m) = pN (fun p q => P p q && Q (p : Int) (q : Int)) m := by
  unfold filtN pN
  rw [← show pN P m = (pF P m).length / 2 from rfl, filt_pF]
theorem pF_ext {P P' : Nat → Nat → Bool} (h : ∀ p q, p < 6 → q < 6 → P p q = P' p q) : ∀ m, m ≤ 36 → pF P m = pF P' m
  | 0, _ => rfl
  | m + 1, hm => by
    have ih := pF_ext h m (by omega)
    rw [pF, pF, ih, h (m / 6) (m % 6) (by omega) (by omega)]
theorem pN_ext {P P' : Nat → Nat → Bool} (h : ∀ p q, p < 6 → q < 6 → P p q = P' p q) : pN P 36 = pN P' 36 := by unfold pN; rw [pF_ext h 36 (Nat.le_refl _)]
theorem has_app (l : List Int) (u v x y : Int) (n : Nat) (hl : l.length = n * 2) : hasP (l ++ [u, v]) (n + 1) x y = (hasP l n x y || (decide (u = x) && decide (v = y))) := by
  unfold hasP
  rw [List.range_succ, List.any_append]
  congr 1
  · rw [Bool.eq_iff_iff, List.any_eq_true, List.any_eq_true]
    constructor
    · rintro ⟨j, hj, h⟩
      have := List.mem_range.1 hj
      refine ⟨j, hj, ?_⟩
      unfold isPr at h ⊢
      rwa [getD_app_left (by omega), getD_app_left (by omega)] at h
    · rintro ⟨j, hj, h⟩
      have := List.mem_range.1 hj
      refine ⟨j, hj, ?_⟩
      unfold isPr at h ⊢
      rwa [getD_app_left (by omega), getD_app_left (by omega)]
  · unfold isPr
    have g0 : (l ++ [u, v]).getD (n * 2) 0 = u := by rw [← hl]; exact getD_app_0
    have g1 : (l ++ [u, v]).getD (n * 2 + 1) 0 = v := by rw [← hl]; exact getD_app_1
    simp only [List.any_cons, List.any_nil, Bool.or_false, g0, g1]
/-- A pair is in the row of the chosen ones exactly if it is chosen. -/
theorem has_pF (P : Nat → Nat → Bool) (p q : Nat) (hq : q < 6) : ∀ m, hasP (pF P m) (pN P m) (p : Int) (q : Int) = (decide (p * 6 + q < m) && P p q)
  | 0 => by rw [(p0 P).1]; rfl
  | m + 1 => by
    have ih := has_pF P p q hq m
    have hl := pF_len P m
    by_cases h : P (m / 6) (m % 6) = true
    · have e1 : pF P (m + 1) = pF P m ++ [((m / 6 : Nat) : Int), ((m % 6 : Nat) : Int)] := by rw [pF, if_pos h]
      have e2 : pN P (m + 1) = pN P m + 1 := by
        unfold pN; rw [e1, List.length_append]; simp
      rw [e1, e2, has_app _ _ _ _ _ _ hl, ih]
      by_cases hm : p * 6 + q = m
      · have a1 : m / 6 = p := by omega
        have a2 : m % 6 = q := by omega
        rw [a1, a2] at h ⊢
        rw [h, decide_eq_true (show p * 6 + q < m + 1 by omega)]
        simp
      · have : ¬ (((m / 6 : Nat) : Int) = (p : Int) ∧ ((m % 6 : Nat) : Int) = (q : Int)) := by omega
        have z : (decide (((m / 6 : Nat) : Int) = (p : Int)) && decide (((m % 6 : Nat) : Int) = (q : Int))) = false := by
          cases hb : (decide (((m / 6 : Nat) : Int) = (p : Int)) && decide (((m % 6 : Nat) : Int) = (q : Int))) with
          | false => rfl
          | true =>
            simp only [Bool.and_eq_true, decide_eq_true_eq] at hb
            exact absurd hb this
        rw [z, Bool.or_false]
        congr 1
        rw [decide_eq_decide]; omega
    · have e1 : pF P (m + 1) = pF P m := by rw [pF, if_neg h]
      have e2 : pN P (m + 1) = pN P m := by unfold pN; rw [e1]
      rw [e1, e2, ih]
      by_cases hm : p * 6 + q = m
      · have a1 : m / 6 = p := by omega
        have a2 : m % 6 = q := by omega
        rw [a1, a2] at h
        have hf : P p q = false := by simpa using h
        rw [hf, Bool.and_false, Bool.and_false]
      · congr 1
        rw [decide_eq_decide]; omega
theorem has_pF36 (P : Nat → Nat → Bool) (p q : Nat) (hp : p < 6) (hq : q < 6) : hasP (pF P 36) (pN P 36) (p : Int) (q : Int) = P p q := by
  rw [has_pF P p q hq 36, decide_eq_true (by omega), Bool.true_and]

/-- What the first rules allow. -/
def coP (ns ds : List Int) : Nat → Nat → Nat → Bool
  | 0 => byP ns ds 1
  | r + 1 => fun p q => coP ns ds r p q && byP ns ds ((r + 2 : Nat) : Int) p q
def coFA (ns ds : List Int) : List Int := if fitA ns ds = true then pF (coP ns ds 3) 36 else []
def coNA (ns ds : List Int) : Nat := if fitA ns ds = true then pN (coP ns ds 3) 36 else 0
theorem coNA_le (ns ds : List Int) : coNA ns ds ≤ 36 := by
  unfold coNA; split
  · exact pN_le _ 36
  · omega
/-- A pour that moves a top of one layer. -/
def saP (ns ds : List Int) (p q : Nat) : Bool := decide (mvN ns ds 1 p q = 1) && decide (mvN ns ds 3 p q = 1)
def saFA (ns ds : List Int) : List Int := if fitA ns ds = true then pF (saP ns ds) 36 else []
def saNA (ns ds : List Int) : Nat := if fitA ns ds = true then pN (saP ns ds) 36 else 0
theorem saNA_le (ns ds : List Int) : saNA ns ds ≤ 36 := by
  unfold saNA; split
  · exact pN_le _ 36
  · omega
theorem sa_by {ns ds : List Int} (p q : Nat) : (byP ns ds 1 p q && saP ns ds p q) = saP ns ds p q := by
  unfold byP saP
  by_cases h : mvN ns ds 1 p q = 1
  · rw [decide_eq_true (by omega), Bool.true_and]
  · rw [decide_eq_false h, Bool.false_and, Bool.and_false]
end Go.Proofs.Ytcedpjjfcfeokab.base
