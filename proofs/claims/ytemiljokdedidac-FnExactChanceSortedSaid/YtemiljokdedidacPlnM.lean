/-
  The rack with the color of each top alone in its tube: plain mathematics.
-/
import Derived.Test.YtemiljokdedidacMadV
import Derived.Test.YtemiljokdedidacVofW
import Derived.Test.YtemiljokdedidacRackOps
namespace Go.Proofs.Ytemiljokdedidac.base
open Go.ChangeShapes Go.WideShapes Go.ChangeAt Go.RowKit
set_option linter.unusedVariables false
set_option linter.unusedSimpArgs false

def plAt (vs : List Int) (i q : Nat) : Int := if (q : Int) < vMany vs i then vTop vs i else 0
def plF (vs : List Int) (n j : Nat) : Int := if j < n then plAt vs (j / 4) (j % 4) else 0
def plR (vs : List Int) (n : Nat) : List Int := (List.range 24).map (plF vs n)
theorem plR_len (vs : List Int) (n : Nat) : (plR vs n).length = 24 := by unfold plR; rw [List.length_map, List.length_range]
theorem plR_zero (vs : List Int) : plR vs 0 = z24 := by
  unfold plR plF
  simp [z24, List.range_succ]
theorem plR_set (vs : List Int) (i q : Nat) (hq : q < 4) : (plR vs (i * 4 + q)).set (i * 4 + q) (plAt vs i q) = plR vs (i * 4 + (q + 1)) := by
  have e : plAt vs i q = plF vs (i * 4 + (q + 1)) (i * 4 + q) := by
    unfold plF
    rw [if_pos (by omega), show (i * 4 + q) / 4 = i by omega, show (i * 4 + q) % 4 = q by omega]
  rw [e]
  refine range_set 24 _ _ (i * 4 + q) fun j hj => ?_
  unfold plF
  by_cases h : j < i * 4 + q
  · rw [if_pos h, if_pos (by omega)]
  · rw [if_neg h, if_neg (by omega)]
theorem plR_end (vs : List Int) (i m : Nat) (hm : vMany vs i = (m : Int)) (h4 : m ≤ 4) : plR vs (i * 4 + m) = plR vs ((i + 1) * 4) := by
  unfold plR
  apply List.map_congr_left
  intro j hj
  unfold plF
  by_cases h : j < i * 4 + m
  · rw [if_pos h, if_pos (by omega)]
  · rw [if_neg h]
    by_cases h2 : j < (i + 1) * 4
    · rw [if_pos h2]
      unfold plAt
      rw [show j / 4 = i by omega, hm, if_neg (by omega)]
    · rw [if_neg h2]
theorem plR_getD (vs : List Int) (n j : Nat) (hj : j < 24) : (plR vs n).getD j 0 = plF vs n j := by
  unfold plR
  rw [List.getD_eq_getElem?_getD, List.getElem?_map, List.getElem?_range hj]; rfl
def plain (vs : List Int) : List Int := plR vs 24
theorem plain_len (vs : List Int) : (plain vs).length = 24 := plR_len vs 24
theorem plain_tub (vs : List Int) (i q : Nat) (hi : i < 6) (hq : q < 4) : (tub (plain vs) i).getD q 0 = plAt vs i q := by
  rw [tub_getD _ i q hq]
  unfold plain
  rw [plR_getD _ _ _ (by omega)]
  unfold plF
  rw [if_pos (by omega), show (i * 4 + q) / 4 = i by omega, show (i * 4 + q) % 4 = q by omega]
structure PlFacts (vs : List Int) (i : Nat) : Prop where
  lay : (lay (tub (plain vs) i) : Int) = vMany vs i
  top : topC (tub (plain vs) i) = vTop vs i
  valid : vT (tub (plain vs) i) = true
theorem plFacts {vs : List Int} (ht : topV vs = true) (i : Nat) (hi : i < 6) : PlFacts vs i := by
  have T := topV_at ht i hi
  obtain ⟨m, hm⟩ : ∃ m : Nat, vMany vs i = (m : Int) := ⟨(vMany vs i).toNat, by omega⟩
  have hl := tub_len (plain vs) i (plain_len vs) hi
  have AT : ∀ q, q < 4 → (tub (plain vs) i).getD q 0 = if q < m then vTop vs i else 0 := fun q hq => by
    rw [plain_tub vs i q hi hq]
    unfold plAt
    rw [hm]
    by_cases h : q < m
    · rw [if_pos (by omega), if_pos h]
    · rw [if_neg (by omega), if_neg h]
  obtain ⟨a, b, c⟩ := full_tube hl m (by omega) (fun q hq => by
    rw [AT q (by omega), if_pos hq]; omega) (fun q h1 h2 => by
    rw [AT q h2, if_neg (by omega)])
  refine ⟨by rw [a, hm], ?_, c⟩
  by_cases h0 : 0 < m
  · rw [b h0, AT _ (by omega), if_pos (by omega)]
  · have e : m = 0 := by omega
    subst e
    have F := tubeFacts hl c
    rw [F.noneC.2 (F.none.1 a)]
    omega
theorem plain_valid {vs : List Int} (ht : topV vs = true) : vR (plain vs) = true := vR_of fun i hi => (plFacts ht i hi).valid
theorem sumUp_bump (cs : List Int) (h6 : cs.length = 6) (c : Nat) (hc : c < 6) : ∀ n, sumUp (cs.set c (cs.getD c 0 + 1)) n = sumUp cs n + (if c < n then 1 else 0)
  | 0 => by simp [sumUp]
  | n + 1 => by
    unfold sumUp
    rw [sumUp_bump cs h6 c hc n, set_getD _ _ _ _ (by omega)]
    by_cases e : n = c
    · subst e
      rw [if_pos rfl, if_neg (by omega), if_pos (by omega)]; omega
    · rw [if_neg e]
      by_cases h : c < n
      · rw [if_pos h, if_pos (by omega)]; omega
      · rw [if_neg h, if_neg (by omega)]; omega
theorem cnt_sum (ns : List Int) (h24 : ns.length = 24) (hv : vR ns = true) : ∀ k, k ≤ 24 → sumUp (cntUp ns k) 6 = k
  | 0, _ => by simp [cntUp, sumUp, z6]
  | k + 1, hk => by
    obtain ⟨c, hc, _, e⟩ := count_layer ns h24 hv (k / 4) (k % 4) (by omega) (by omega)
    rw [show k / 4 * 4 + k % 4 = k by omega] at e
    rw [e, sumUp_bump _ (cnt_all ns k).1 c hc, cnt_sum ns h24 hv k (by omega), if_pos hc]; omega
/-- The counts with the empty layers, as far as they are reckoned. -/
def empUp (vs : List Int) (c : Nat) : List Int := (prt vs 2).set 0 (24 - sumUp (prt vs 2) c)
def empL (vs : List Int) : List Int := empUp vs 6
theorem empUp_len (vs : List Int) (h : vs.length = 18) (c : Nat) : (empUp vs c).length = 6 := by unfold empUp; rw [List.length_set]; exact prt_len vs 2 h (by omega)
theorem plain_view {vs : List Int} (h : vs.length = 18) (ht : topV vs = true) (h0 : vCnt vs 0 = 0) : vwR (plain vs) = vs ↔ cntUp (plain vs) 24 = empL vs := by
  have S := cnt_sum (plain vs) (plain_len vs) (plain_valid ht) 24 (by omega)
  have hl := (cnt_all (plain vs) 24).1
  have hp := prt_len vs 2 h (by omega)
  have step : vwR (plain vs) = vs ↔ cnt0 (plain vs) = prt vs 2 := by
    have g : ∀ j, j < 18 → (vwR (plain vs)).getD j 0 = vwAt (plain vs) 6 6 j := fun j hj => by
      unfold vwR vwUp
      rw [List.getD_eq_getElem?_getD, List.getElem?_map, List.getElem?_range hj]; rfl
    constructor
    · intro e
      apply List.ext_getElem?
      intro j
      by_cases hj : j < 6
      · have := g (12 + j) (by omega)
        rw [e] at this
        unfold vwAt at this
        rw [if_neg (by omega), if_neg (by omega), show 12 + j - 12 = j by omega] at this
        have p := prt_getD vs 2 j hj
        rw [show 2 * 6 + j = 12 + j by omega, this] at p
        rw [List.getD_eq_getElem?_getD, List.getD_eq_getElem?_getD, List.getElem?_eq_getElem (by omega), List.getElem?_eq_getElem (by rw [cnt0_len]; exact hj)] at p
        rw [List.getElem?_eq_getElem (by rw [cnt0_len]; exact hj), List.getElem?_eq_getElem (by omega)]
        exact congrArg some p.symm
      · rw [List.getElem?_eq_none (by rw [cnt0_len]; omega), List.getElem?_eq_none (by omega)]
    · intro e
      apply List.ext_getElem?
      intro j
      by_cases hj : j < 18
      · have q := g j hj
        have l18 := vwR_len (plain vs)
        have r : vwAt (plain vs) 6 6 j = vs.getD j 0 := by
          unfold vwAt
          by_cases h6 : j < 6
          · rw [if_pos h6, if_pos h6, (plFacts ht j h6).top]
            have := prt_getD vs 0 j h6
            rw [show 0 * 6 + j = j by omega] at this
            exact this
          · rw [if_neg h6]
            by_cases h12 : j < 12
            · rw [if_pos h12, if_pos (by omega), (plFacts ht (j - 6) (by omega)).lay]
              have := prt_getD vs 1 (j - 6) (by omega)
              rw [show 1 * 6 + (j - 6) = j by omega] at this
              exact this
            · rw [if_neg h12, e]
              have := prt_getD vs 2 (j - 12) (by omega)
              rw [show 2 * 6 + (j - 12) = j by omega] at this
              exact this
        rw [r] at q
        rw [List.getD_eq_getElem?_getD, List.getD_eq_getElem?_getD, List.getElem?_eq_getElem (by omega), List.getElem?_eq_getElem (by omega)] at q
        rw [List.getElem?_eq_getElem (by omega), List.getElem?_eq_getElem (by omega)]
        exact congrArg some q
      · rw [List.getElem?_eq_none (by rw [vwR_len]; omega), List.getElem?_eq_none (by omega)]
  rw [step]
  unfold vCnt at h0
  unfold cnt0 empL empUp
  generalize cntUp (plain vs) 24 = A at *
  generalize prt vs 2 = B at *
  obtain ⟨a0, a1, a2, a3, a4, a5, rfl⟩ := len6v hl
  obtain ⟨b0, b1, b2, b3, b4, b5, rfl⟩ := len6v hp
  simp [sumUp] at S h0 ⊢
  omega
end Go.Proofs.Ytemiljokdedidac.base
