/-
  A party that is played: plain mathematics.
-/
/-
  The law of games for tubes: what its answers hold, plain mathematics.
-/
/-
  The draw of a value's rack and turns, and the law's own search in a row of numbers, walked.
-/
import Derived.Test.YtnldnjnnjfbhnabGmWZ
import Derived.Test.YtnldnjnnjfbhnabGmZZ
import Derived.Test.YtnldnjnnjfbhnabDraw6Z
import Derived.Test.YtnldnjnnjfbhnabNu

section
namespace Go.Proofs.Ytnldnjnnjfbhnab.base
set_option linter.unusedVariables false
set_option linter.unusedSimpArgs false

def pathOkG (ns : List Int) (n : Nat) : Bool := vR ns && decide (n ≤ 60)
def ppR (ns fs : List Int) : Nat → List Int
  | 0 => ns
  | k + 1 => pourR (ppR ns fs k) (fs.getD (k * 2) 0) (fs.getD (k * 2 + 1) 0)
def ppG (ns fs : List Int) (k : Nat) : Int := (cmN (ppR ns fs (k + 1)) : Int) - (cmN (ppR ns fs k) : Int)
def ppP (ns fs : List Int) : Nat → List Int
  | 0 => [0, 0]
  | k + 1 => (ppP ns fs k).set (k % 2) ((ppP ns fs k).getD (k % 2) 0 + ppG ns fs k)
def ppT (ns fs : List Int) (k : Nat) : Bool := tbOk (ppR ns fs k) (fs.getD (k * 2) 0) (fs.getD (k * 2 + 1) 0)
/-- How many of the first n pours are made. -/
def ppN (ns fs : List Int) : Nat → Nat
  | 0 => 0
  | k + 1 => if ppN ns fs k = k ∧ ppT ns fs k = true then k + 1 else ppN ns fs k
theorem ppN_le (ns fs : List Int) : ∀ k, ppN ns fs k ≤ k
  | 0 => Nat.le_refl _
  | k + 1 => by
    have := ppN_le ns fs k
    rw [ppN]; split <;> omega
theorem ppN_step {ns fs : List Int} {k : Nat} (h : ppN ns fs k = k) (ht : ppT ns fs k = true) : ppN ns fs (k + 1) = k + 1 := by rw [ppN, if_pos ⟨h, ht⟩]
theorem ppN_stop {ns fs : List Int} {k : Nat} (h : ppN ns fs k = k) (ht : ppT ns fs k = false) : ∀ n, k ≤ n → ppN ns fs n = k := fun n hn => by
  obtain ⟨d, rfl⟩ : ∃ d, n = k + d := ⟨n - k, by omega⟩
  clear hn
  induction d with
  | zero => exact h
  | succ d ih =>
    rw [show k + (d + 1) = k + d + 1 by omega, ppN, ih, if_neg]
    rintro ⟨h1, h2⟩
    have : d = 0 := by omega
    subst this
    rw [Nat.add_zero, ht] at h2
    cases h2
theorem ppN_back {ns fs : List Int} {k : Nat} (h : ppN ns fs (k + 1) = k + 1) : ppN ns fs k = k ∧ ppT ns fs k = true := by
  rw [ppN] at h
  split at h
  · assumption
  · have := ppN_le ns fs k; omega
theorem pp_good {ns : List Int} (fs : List Int) (G : GR ns) : ∀ k, ppN ns fs k = k → GR (ppR ns fs k)
  | 0, _ => G
  | k + 1, h => by
    obtain ⟨h1, h2⟩ := ppN_back h
    have ih := pp_good fs G k h1
    unfold ppT tbOk at h2
    have hp := (Bool.and_eq_true_iff.1 h2).1
    rw [ppR]
    exact ⟨pourR_len ih.1 _ _, (pour_facts ih.1 hp).valid⟩
theorem ppP_len (ns fs : List Int) : ∀ k, (ppP ns fs k).length = 2
  | 0 => rfl
  | k + 1 => by rw [ppP, List.length_set, ppP_len ns fs k]
theorem ppG_in (ns fs : List Int) (k : Nat) : -6 ≤ ppG ns fs k ∧ ppG ns fs k ≤ 6 := by
  have h1 := cmN_le (ppR ns fs (k + 1))
  have h2 := cmN_le (ppR ns fs k)
  unfold ppG; omega
theorem getD_setG (l : List Int) (i j : Nat) (z : Int) : (l.set i z).getD j 0 = l.getD j 0 ∨ (l.set i z).getD j 0 = z := by
  rw [List.getD_eq_getElem?_getD, List.getElem?_set, List.getD_eq_getElem?_getD]
  split
  · split
    · right; rfl
    · rename_i h1 h2
      left
      rw [List.getElem?_eq_none (by omega)]
  · left; rfl
theorem ppP_in (ns fs : List Int) : ∀ (k j : Nat), -6 * (k : Int) ≤ (ppP ns fs k).getD j 0 ∧ (ppP ns fs k).getD j 0 ≤ 6 * k
  | 0, j => by
    have : (ppP ns fs 0).getD j 0 = 0 := by
      rw [ppP]
      match j with
      | 0 => rfl
      | 1 => rfl
      | j + 2 => rfl
    rw [this]; omega
  | k + 1, j => by
    have h1 := ppP_in ns fs k j
    have h2 := ppP_in ns fs k (k % 2)
    have h3 := ppG_in ns fs k
    rw [ppP]
    rcases getD_setG (ppP ns fs k) (k % 2) j ((ppP ns fs k).getD (k % 2) 0 + ppG ns fs k) with e | e <;> rw [e] <;> omega
def ppRA (ns fs : List Int) (n : Nat) : List Int := if pathOkG ns n = true then ppR ns fs (ppN ns fs n) else z24
def ppPA (ns fs : List Int) (n : Nat) : List Int := if pathOkG ns n = true then ppP ns fs (ppN ns fs n) else [0, 0]
def ppNA (ns fs : List Int) (n : Nat) : Nat := if pathOkG ns n = true then ppN ns fs n else 0
theorem ppRA_len {ns : List Int} (h : ns.length = 24) (fs : List Int) (n : Nat) : (ppRA ns fs n).length = 24 := by
  unfold ppRA
  split
  · generalize ppN ns fs n = k
    induction k with
    | zero => exact h
    | succ k ih => rw [ppR]; exact pourR_len ih _ _
  · rfl
theorem ppPA_len (ns fs : List Int) (n : Nat) : (ppPA ns fs n).length = 2 := by
  unfold ppPA
  split
  · exact ppP_len _ _ _
  · rfl
end Go.Proofs.Ytnldnjnnjfbhnab.base
end

section
namespace Go.Proofs.Ytnldnjnnjfbhnab.base
open Go.ChangeShapes Go.WideShapes Go.ChangeAt Go.RowKit
set_option linter.unusedVariables false
set_option linter.unusedSimpArgs false

/-! a pour changes the number of complete tubes by one at most -/
structure CmPour (ns : List Int) (p q : Nat) : Prop where
  from0 : topN (tub (pourT ns p q) p) ≠ 4
  to0 : topN (tub ns q) ≠ 4
  other : ∀ o, o < 6 → o ≠ p → o ≠ q → tub (pourT ns p q) o = tub ns o
theorem cm_pour {ns : List Int} {p q : Nat} (G : GR ns) (hp : p < 6) (hq : q < 6) (hne : p ≠ q) (hc : 0 < canN (tub ns p) (tub ns q)) : CmPour ns p q := by
  have sp := tub_len ns p G.1 hp
  have sq := tub_len ns q G.1 hq
  have vp := vR_tub G.2 p hp
  have vq := vR_tub G.2 q hq
  have FP := tubeFacts sp vp
  have FQ := tubeFacts sq vq
  obtain ⟨c1, c2, c3⟩ := canN_le sp sq vp vq
  obtain ⟨f1, f2, f3⟩ := fromK_facts sp vp _ c1
  obtain ⟨t1, t2, t3⟩ := toK_facts sq vq (topC (tub ns p)) (c3 hc) _ c2
  refine ⟨?_, ?_, ?_⟩
  · unfold pourT
    rw [two_p G.1 hp hq f3 t3 hne]
    have h1 := (tubeFacts f3 f2).topN
    have h2 := FP.lay4
    omega
  · have h1 := FQ.topN
    omega
  · intro o ho h1 h2
    unfold pourT
    exact two_o G.1 hp hq f3 t3 o ho h1 h2
theorem cmpl_len (ns : List Int) (k : Nat) : (cmpl ns (k + 1)).length = (cmpl ns k).length + (if topN (tub ns k) = 4 then 1 else 0) := by
  by_cases h : topN (tub ns k) = 4
  · rw [cmpl_yes h, if_pos h, List.length_append]; rfl
  · rw [cmpl_no h, if_neg h]; rfl
theorem cm_step {ns : List Int} {p q : Nat} (h : CmPour ns p q) : ∀ k, k ≤ 6 → ((cmpl (pourT ns p q) k).length : Int) ≤ (cmpl ns k).length + (if q < k then 1 else 0) ∧ ((cmpl ns k).length : Int) ≤ (cmpl (pourT ns p q) k).length + (if p < k then 1 else 0)
  | 0, _ => by
    rw [if_neg (by omega), if_neg (by omega)]
    exact ⟨by simp [cmpl], by simp [cmpl]⟩
  | k + 1, hk => by
    obtain ⟨i1, i2⟩ := cm_step h k (by omega)
    rw [cmpl_len, cmpl_len]
    by_cases e1 : k = p
    · subst e1
      rw [if_neg h.from0]
      rw [if_neg (show ¬ k < k by omega)] at i2
      rw [if_pos (show k < k + 1 by omega)]
      constructor
      · split at i1 <;> split <;> split <;> omega
      · split <;> omega
    · by_cases e2 : k = q
      · subst e2
        rw [if_neg h.to0]
        rw [if_neg (show ¬ k < k by omega)] at i1
        rw [if_pos (show k < k + 1 by omega)]
        constructor
        · split <;> omega
        · split at i2 <;> split <;> split <;> omega
      · rw [h.other k (by omega) e1 e2]
        constructor
        · split at i1 <;> split <;> split <;> omega
        · split at i2 <;> split <;> split <;> omega
theorem ptT_one {ns : List Int} (G : GR ns) (k : Nat) (hk : k < usefNA ns) : -1 ≤ ptT ns k ∧ ptT ns k ≤ 1 := by
  obtain ⟨p, q, hp, hq, hne, hc, _, _, _, hr, _⟩ := up_natG G k hk
  obtain ⟨i1, i2⟩ := cm_step (cm_pour G hp hq hne hc) 6 (Nat.le_refl _)
  rw [if_pos hq] at i1
  rw [if_pos hp] at i2
  unfold ptT cmN
  rw [hr]; omega
theorem gvalT_one : ∀ (n : Nat) (ns : List Int), GR ns → -(n : Int) ≤ gval ptT 0 n ns ∧ gval ptT 0 n ns ≤ n
  | 0, ns, _ => by rw [gval]; omega
  | n + 1, ns, G => by
    rw [gval]
    unfold gbest
    split
    · omega
    · rename_i hu
      refine mxU_in (a := -((n + 1 : Nat) : Int)) (b := ((n + 1 : Nat) : Int)) _ fun j hj => ?_
      have h1 := ptT_one G j (by omega)
      have h2 := gvalT_one n _ (nx_good G j (by omega))
      omega
theorem gvT_le {r : List Int} {n : Int} (h24 : r.length = 24) (h : gmOk r n = true) : gvA ptT 0 r n ≤ n := by
  obtain ⟨hv, h0, h3⟩ := gmOk_of h
  unfold gvA
  rw [if_pos h]
  have := (gvalT_one n.toNat r ⟨h24, hv⟩).2
  omega
theorem gvT_in (r : List Int) (n : Int) : -18 ≤ gvA ptT 0 r n ∧ gvA ptT 0 r n ≤ 18 := by
  unfold gvA
  split
  · rename_i h
    obtain ⟨_, h0, h3⟩ := gmOk_of h
    have := gvalT_in n.toNat r
    omega
  · omega
/-! a played party's points add up -/
theorem set_two (a b g : Int) (k : Nat) : ([a, b].set (k % 2) ([a, b].getD (k % 2) 0 + g) = [a + g, b] ∧ k % 2 = 0) ∨ ([a, b].set (k % 2) ([a, b].getD (k % 2) 0 + g) = [a, b + g] ∧ k % 2 = 1) := by
  rcases (by omega : k % 2 = 0 ∨ k % 2 = 1) with e | e
  · left; rw [e]; exact ⟨rfl, rfl⟩
  · right; rw [e]; exact ⟨rfl, rfl⟩
theorem ppP_two (ns fs : List Int) (k : Nat) : ∃ a b : Int, ppP ns fs k = [a, b] := by
  have := ppP_len ns fs k
  match h : ppP ns fs k, this with
  | [a, b], _ => exact ⟨a, b, rfl⟩
theorem ppP_sum (ns fs : List Int) : ∀ k, (ppP ns fs k).getD 0 0 + (ppP ns fs k).getD 1 0 = (cmN (ppR ns fs k) : Int) - cmN ns
  | 0 => by rw [ppP, ppR]; simp
  | k + 1 => by
    have ih := ppP_sum ns fs k
    obtain ⟨a, b, e⟩ := ppP_two ns fs k
    rw [ppP, e]
    rw [e] at ih
    have g : ppG ns fs k = (cmN (ppR ns fs (k + 1)) : Int) - cmN (ppR ns fs k) := rfl
    simp only [List.getD_cons_zero, List.getD_cons_succ] at ih
    rcases set_two a b (ppG ns fs k) k with ⟨e2, _⟩ | ⟨e2, _⟩ <;> rw [e2] <;> simp only [List.getD_cons_zero, List.getD_cons_succ] <;> omega
theorem ppN_self (ns fs : List Int) : ∀ n, ppN ns fs (ppN ns fs n) = ppN ns fs n
  | 0 => rfl
  | n + 1 => by
    by_cases h : ppN ns fs n = n ∧ ppT ns fs n = true
    · have e : ppN ns fs (n + 1) = n + 1 := by rw [ppN, if_pos h]
      rw [e, e]
    · have e : ppN ns fs (n + 1) = ppN ns fs n := by rw [ppN, if_neg h]
      rw [e]; exact ppN_self ns fs n
theorem pp_played {ns fs : List Int} {n : Nat} (h24 : ns.length = 24) (h : pathOkG ns n = true) : vR ns = true ∧ vR (ppRA ns fs n) = true ∧ (cmFA (ppRA ns fs n)).length ≤ 6 ∧ (cmFA ns).length ≤ 6 ∧ ((cmFA (ppRA ns fs n)).length : Int) - (cmFA ns).length = (ppPA ns fs n).getD 0 0 + (ppPA ns fs n).getD 1 0 := by
  have hv : vR ns = true := by unfold pathOkG at h; exact (Bool.and_eq_true_iff.1 h).1
  have hR : ppRA ns fs n = ppR ns fs (ppN ns fs n) := by unfold ppRA; rw [if_pos h]
  have hP : ppPA ns fs n = ppP ns fs (ppN ns fs n) := by unfold ppPA; rw [if_pos h]
  have g := pp_good fs ⟨h24, hv⟩ (ppN ns fs n) (ppN_self ns fs n)
  rw [hR, hP, ppP_sum]
  unfold cmFA
  rw [if_pos hv, if_pos g.2]
  exact ⟨hv, g.2, cmpl_le _ 6, cmpl_le _ 6, rfl⟩
/-! hurting pours -/
theorem hur_at (ns : List Int) : ∀ k i, i < hurN ns k → ∃ j, j < k ∧ anyC (nxR ns j) (usefNA (nxR ns j)) = true ∧ (hurF ns k).getD (i * 2) 0 = upX ns j ∧ (hurF ns k).getD (i * 2 + 1) 0 = upY ns j
  | 0, i, h => by rw [(hur0 ns).1] at h; omega
  | k + 1, i, h => by
    cases hc : anyC (nxR ns k) (usefNA (nxR ns k)) with
    | true =>
      obtain ⟨e, en⟩ := hur_yes hc
      rw [en] at h
      rw [e]
      have hl := (hur_le ns k).2
      by_cases hi : i < hurN ns k
      · obtain ⟨j, hj, r0, r1, r2⟩ := hur_at ns k i hi
        refine ⟨j, by omega, r0, ?_, ?_⟩
        · rw [← r1, List.getD_eq_getElem?_getD, List.getD_eq_getElem?_getD, List.getElem?_append_left (by omega)]
        · rw [← r2, List.getD_eq_getElem?_getD, List.getD_eq_getElem?_getD, List.getElem?_append_left (by omega)]
      · obtain rfl : i = hurN ns k := by omega
        refine ⟨k, by omega, hc, ?_, ?_⟩
        · rw [List.getD_eq_getElem?_getD, List.getElem?_append_right (by omega), hl, Nat.sub_self]; rfl
        · rw [List.getD_eq_getElem?_getD, List.getElem?_append_right (by omega), hl, Nat.add_sub_cancel_left]; rfl
    | false =>
      obtain ⟨e, en⟩ := hur_no hc
      rw [en] at h
      rw [e]
      obtain ⟨j, hj, r⟩ := hur_at ns k i h
      exact ⟨j, by omega, r⟩
theorem hurN_le (ns : List Int) : hurN ns (usefNA ns) ≤ 30 := by
  have := (hur_le ns (usefNA ns)).1
  have := use30 ns
  omega
/-- Each pour that can hurt: possible, and behind it a tube can be completed. -/
theorem hur_live {ns : List Int} (h24 : ns.length = 24) (hv : vR ns = true) : ∀ i, i < hurN ns (usefNA ns) → ∃ x y : Int, (hurF ns (usefNA ns)).getD (i * 2) 0 = x ∧ (hurF ns (usefNA ns)).getD (i * 2 + 1) 0 = y ∧ pourOk ns x y = true ∧ (pourR ns x y).length = 24 ∧ vR (pourR ns x y) = true ∧ anyC (pourR ns x y) (usefNA (pourR ns x y)) = true := by
  intro i hi
  have G : GR ns := ⟨h24, hv⟩
  obtain ⟨j, hj, hc, hx, hy⟩ := hur_at ns _ i hi
  have gx := nx_good G j hj
  exact ⟨upX ns j, upY ns j, hx, hy, (up_ok G j hj).1, gx.1, gx.2, hc⟩
/-- Each useful pour behind it: possible, its target not complete before, and complete behind exactly if cpl says so. -/
theorem reply_live {ns : List Int} (h24 : ns.length = 24) (hv : vR ns = true) : ∀ j, j < usefNA ns → ∃ x y : Int, (usefFA ns).getD (j * 2) 0 = x ∧ (usefFA ns).getD (j * 2 + 1) 0 = y ∧ pourOk ns x y = true ∧ (pourR ns x y).length = 24 ∧ vR (pourR ns x y) = true ∧ y ∉ cmFA ns ∧ (y ∈ cmFA (pourR ns x y) ↔ cpl ns j = true) := by
  intro j hj
  have G : GR ns := ⟨h24, hv⟩
  have gx := nx_good G j hj
  obtain ⟨p, q, hp, hq, hne, hc, _, hx, hy, hr, hok⟩ := up_natG G j hj
  have CP := cm_pour G hp hq hne hc
  refine ⟨upX ns j, upY ns j, rfl, rfl, (up_ok G j hj).1, gx.1, gx.2, ?_, ?_⟩
  · unfold cmFA
    rw [if_pos hv, hy, cmpl_mem]
    exact fun h => CP.to0 h.2
  · show upY ns j ∈ cmFA (nxR ns j) ↔ _
    unfold cmFA
    rw [if_pos gx.2, hy, cmpl_mem]
    unfold cpl
    rw [hy, Int.toNat_natCast, decide_eq_true_eq]
    exact ⟨fun h => h.2, fun h => ⟨hq, h⟩⟩
/-! the best party, played -/
theorem fb_best {r : List Int} {m : Nat} (G : GR r) (hm : m ≤ 2) : (fbOk r ((m + 1 : Nat) : Int) = true → ∃ j, j < usefNA r ∧ fbX r ((m + 1 : Nat) : Int) = upX r j ∧ fbY r ((m + 1 : Nat) : Int) = upY r j ∧ ptT r j - gval ptT 0 m (nxR r j) = gval ptT 0 (m + 1) r) ∧ (fbOk r ((m + 1 : Nat) : Int) = false → gval ptT 0 (m + 1) r = 0) := by
  have h : bpOk r ((m + 1 : Nat) : Int) = true := by
    unfold bpOk gmOk
    rw [G.2, decide_eq_true (show 0 ≤ ((m + 1 : Nat) : Int) ∧ ((m + 1 : Nat) : Int) ≤ 3 by omega), decide_eq_true (show ((m + 1 : Nat) : Int) ≠ 0 by omega)]; rfl
  have eN : bpNA ptT 0 r ((m + 1 : Nat) : Int) = bpN ptT (gval ptT 0 m) r (gval ptT 0 (m + 1) r) (usefNA r) := by unfold bpNA; rw [if_pos h, Int.toNat_natCast, Nat.add_sub_cancel]
  have eF : bpFA ptT 0 r ((m + 1 : Nat) : Int) = bpF ptT (gval ptT 0 m) r (gval ptT 0 (m + 1) r) (usefNA r) := by unfold bpFA; rw [if_pos h, Int.toNat_natCast, Nat.add_sub_cancel]
  constructor
  · intro hf
    unfold fbOk at hf
    rw [Bool.and_eq_true_iff, decide_eq_true_eq] at hf
    have hn := hf.2
    unfold fbN at hn
    rw [eN] at hn
    obtain ⟨j, hj, e, h1, h2⟩ := bp_at ptT (gval ptT 0 m) r (gval ptT 0 (m + 1) r) (usefNA r) 0 (by omega)
    refine ⟨j, hj, ?_, ?_, e⟩
    · unfold fbX; rw [eF]; exact h1
    · unfold fbY; rw [eF]; exact h2
  · intro hf
    unfold fbOk fbN at hf
    rw [h, eN, Bool.true_and, decide_eq_false_iff_not] at hf
    rw [gval]
    unfold gbest
    split
    · rfl
    · rename_i hu
      exfalso
      obtain ⟨j, hj, e⟩ := mxU_is (g := fun k => ptT r k - gval ptT 0 m (nxR r k)) (usefNA r - 1)
      have := bp_some (pt := ptT) (V := gval ptT 0 m) (ns := r) (b := gval ptT 0 (m + 1) r) (usefNA r) j (by omega) (by rw [gval]; unfold gbest; rw [if_neg hu, e])
      omega
def difP (r fs : List Int) (k : Nat) : Int := (ppP r fs k).getD 0 0 - (ppP r fs k).getD 1 0
def sgP (k : Nat) (z : Int) : Int := if k % 2 = 0 then z else -z
theorem difP_succ (r fs : List Int) (k : Nat) : difP r fs (k + 1) = difP r fs k + sgP k (ppG r fs k) := by
  obtain ⟨a, b, e⟩ := ppP_two r fs k
  unfold difP sgP
  rw [ppP, e]
  rcases set_two a b (ppG r fs k) k with ⟨e2, h⟩ | ⟨e2, h⟩ <;> rw [e2, h] <;> simp only [List.getD_cons_zero, List.getD_cons_succ] <;> simp <;> omega
theorem sg_succ (k : Nat) (z : Int) : sgP (k + 1) z = -(sgP k z) := by
  unfold sgP
  rcases (by omega : k % 2 = 0 ∨ k % 2 = 1) with e | e
  · rw [e, if_neg (by omega)]; simp
  · rw [e, if_pos (by omega)]; simp
theorem sg_add (k : Nat) (a b : Int) : sgP k a - sgP k b = sgP k (a - b) := by unfold sgP; split <;> omega
theorem pa_play (r0 F : List Int) : ∀ (left k : Nat) (r acc : List Int), GR r → left ≤ 3 → acc ++ paF left r = F → acc.length = k * 2 → ppN r0 F k = k → ppR r0 F k = r → ppN r0 F (k + paN left r) = k + paN left r ∧ difP r0 F (k + paN left r) = difP r0 F k + sgP k (gval ptT 0 left r)
  | 0, k, r, acc, G, _, _, _, hN, _ => by
    have e : paN 0 r = 0 := by unfold paN; rw [paF]; rfl
    rw [e, gval]
    exact ⟨hN, by unfold sgP; simp⟩
  | m + 1, k, r, acc, G, hm, hF, hl, hN, hR => by
    obtain ⟨f1, f2⟩ := fb_best (m := m) G (by omega)
    cases hf : fbOk r ((m + 1 : Nat) : Int) with
    | false =>
      have e : paN (m + 1) r = 0 := by unfold paN; rw [paF, if_neg (by rw [hf]; simp)]; rfl
      rw [e, f2 hf]
      exact ⟨hN, by unfold sgP; simp⟩
    | true =>
      obtain ⟨j, hj, hx, hy, hb⟩ := f1 hf
      have e : paF (m + 1) r = upX r j :: upY r j :: paF m (nxR r j) := by rw [paF, if_pos hf, hx, hy]; rfl
      have eN : paN (m + 1) r = paN m (nxR r j) + 1 := by
        unfold paN
        rw [e, List.length_cons, List.length_cons]; omega
      have g0 : F.getD (k * 2) 0 = upX r j := by
        rw [← hF, e, ← hl, List.getD_eq_getElem?_getD, List.getElem?_append_right (Nat.le_refl _), Nat.sub_self]; rfl
      have g1 : F.getD (k * 2 + 1) 0 = upY r j := by
        rw [← hF, e, ← hl, List.getD_eq_getElem?_getD, List.getElem?_append_right (by omega), Nat.add_sub_cancel_left]; rfl
      have hT : ppT r0 F k = true := by unfold ppT; rw [hR, g0, g1]; exact (tb_turn G hj).2
      have hR2 : ppR r0 F (k + 1) = nxR r j := by rw [ppR, hR, g0, g1]; rfl
      have hg : ppG r0 F k = ptT r j := by unfold ppG ptT; rw [hR2, hR]
      obtain ⟨i1, i2⟩ := pa_play r0 F m (k + 1) (nxR r j) (acc ++ [upX r j, upY r j]) (nx_good G j hj) (by omega) (by rw [← hF, e, List.append_assoc]; rfl) (by rw [List.length_append, hl]; simp; omega) (ppN_step hN hT) hR2
      rw [show k + 1 + paN m (nxR r j) = k + paN (m + 1) r by omega] at i1 i2
      refine ⟨i1, ?_⟩
      rw [i2, difP_succ, hg, sg_succ, ← hb, ← sg_add]
      omega
theorem pa_played {r : List Int} {n : Int} (h24 : r.length = 24) (h : gmOk r n = true) : pathOkG r (paNA r n) = true ∧ ppNA r (paFA r n) (paNA r n) = paNA r n ∧ IntKind.i64.wrap ((ppPA r (paFA r n) (paNA r n)).getD 0 0 - (ppPA r (paFA r n) (paNA r n)).getD 1 0) = gvA ptT 0 r n := by
  obtain ⟨hv, h0, h3⟩ := gmOk_of h
  have eF : paFA r n = paF n.toNat r := by unfold paFA; rw [if_pos h]
  have eN : paNA r n = paN n.toNat r := by unfold paNA; rw [if_pos h]
  have eV : gvA ptT 0 r n = gval ptT 0 n.toNat r := by unfold gvA; rw [if_pos h]
  obtain ⟨i1, i2⟩ := pa_play r (paF n.toNat r) n.toNat 0 r [] ⟨h24, hv⟩ (by omega) rfl rfl rfl rfl
  rw [Nat.zero_add] at i1 i2
  have hk : pathOkG r (paN n.toNat r) = true := by
    unfold pathOkG
    have := (paF_len n.toNat r).2
    rw [hv, decide_eq_true (by omega)]; rfl
  have d0 : difP r (paF n.toNat r) 0 = 0 := rfl
  have s0 : sgP 0 (gval ptT 0 n.toNat r) = gval ptT 0 n.toNat r := rfl
  rw [d0, s0, Int.zero_add] at i2
  unfold difP at i2
  have hb := gvalT_in n.toNat r
  rw [eN, eF, eV]
  refine ⟨hk, ?_, ?_⟩
  · unfold ppNA; rw [if_pos hk]; exact i1
  · unfold ppPA
    rw [if_pos hk, i1, i2]
    exact IntWalk.i64_in _ (by omega)
theorem paNA_three (r : List Int) (n : Int) : paNA r n ≤ 3 := paNA_le r n
end Go.Proofs.Ytnldnjnnjfbhnab.base
end

section
namespace Go.Proofs.Ytnldnjnnjfbhnab.base
open Go.ChangeShapes Go.WideShapes Go.ChangeAt Go.RowKit
open Go.Proofs.Ytnldnjnnjfbhnab.cur
set_option linter.unusedVariables false
set_option linter.unusedSimpArgs false

set_option maxHeartbeats 800000 in
theorem drawTube (a : Option Addr) (len cap : Nat) (w : World) (h : Code w a len) :
    Calls Try.prog 5 #[.slice a len cap] w (DrawnN w) := by
  have R0 := Has.zero24 w 27
  have M0 := Lib.hid ((kept_refl w).alloc (.cells #[.int .i64 0, .int .i64 0, .int .i64 0, .int .i64 0, .int .i64 0, .int .i64 0, .int .i64 0, .int .i64 0, .int .i64 0, .int .i64 0, .int .i64 0, .int .i64 0, .int .i64 0, .int .i64 0, .int .i64 0, .int .i64 0, .int .i64 0, .int .i64 0, .int .i64 0, .int .i64 0, .int .i64 0, .int .i64 0, .int .i64 0, .int .i64 0] 27))
  have HC := Lib.hid (fun W (h : Code W a len) => drawEnd a len cap W h)
  have B0 : Below w.heap.size w (w.alloc (.cells #[.int .i64 0, .int .i64 0, .int .i64 0, .int .i64 0, .int .i64 0, .int .i64 0, .int .i64 0, .int .i64 0, .int .i64 0, .int .i64 0, .int .i64 0, .int .i64 0, .int .i64 0, .int .i64 0, .int .i64 0, .int .i64 0, .int .i64 0, .int .i64 0, .int .i64 0, .int .i64 0, .int .i64 0, .int .i64 0, .int .i64 0, .int .i64 0] 27)) := (Below.refl _ _).alloc (Nat.le_refl _) _
  have H1 := Lib.hid (h.below B0)
  clear h B0
  go_enter Try.func5, Try.ntmps5
  go_wp2_with fail
  refine (HC.out _ H1.out).mono ?_
  rintro e w1 ⟨ns, n, rfl, hl, hn1, hn4, b1⟩
  have R1 := R0.below b1
  have S1 := Lib.hid (R1.putAll ns hl)
  have S2 := Lib.hid ((M0.out.call b1).puts (b := w.heap.size) (Nat.le_refl _) 0 (ints ns))
  clear R0 M0 b1
  go_wp2_with (refine store_at rfl 27 _ _ rfl _ _ rfl rfl ?_ 24 ?_ ?_ ?_ ?_; rotate_left; (· (repeat (first | (with_reducible assumption) | ((with_reducible refine Has.box _ _ ?_ ?_) <;> (first | assumption | decide)) | (with_reducible refine Has.alloc ?_ _) | ((with_reducible refine Has.putOther ?_ _ _ ?_); rotate_left; omega; skip) | ((with_reducible refine Has.below ?_ ?_); rotate_left; assumption)))); (· (first | assumption | rfl)); (· kernel_rfl))
  exact bodyPost_ret (res_hasn rfl _ _ w.heap.size ns 24 _ (.int .i64 n) rfl rfl S1.out Try.underlying27 rfl (by kernel_rfl)) rfl ⟨ns, n, rfl, hl, hn1, hn4, S2.out⟩

theorem mem_getD {fs : List Int} {x : Int} {k : Nat} (hk : k < fs.length) (e : fs.getD k 0 = x) : x ∈ fs := by
  rw [List.getD_eq_getElem?_getD, List.getElem?_eq_getElem hk] at e
  rw [← e]; exact List.getElem_mem hk
theorem not_mem_getD {fs : List Int} {x : Int} (h : ∀ j, j < fs.length → fs.getD j 0 ≠ x) : x ∉ fs := by
  intro hx
  obtain ⟨j, hj, e⟩ := List.getElem_of_mem hx
  refine h j hj ?_
  rw [List.getD_eq_getElem?_getD, List.getElem?_eq_getElem hj]; exact e

set_option maxHeartbeats 1600000 in
theorem rHas_any (v : Value) (b n : Nat) (fs : List Int) (x : Int) (w : World) (hn : n ≤ 1000) (h : Nu w b v n fs) :
    Calls Try.prog 26 #[v, .int .i64 x] w fun e w' => e = .returned (.bool (decide (x ∈ fs))) ∧ w' = w := by
  have hf := h.flat
  cases n with
  | zero =>
    obtain ⟨a, c, hv⟩ := h.shape
    have e0 : decide (x ∈ fs) = false := decide_eq_false (not_mem_getD (fun j hj => by omega))
    rw [e0]
    clear h hf e0
    subst hv
    go_enter Try.func26, Try.ntmps26
    go_wp2_with fail
    go_loop [5] (fun i => i = .int .i64 0) (fun _ => 0)
    case atStart => rfl
    case round =>
      obtain rfl := hrel
      go_wp2_with fail
      go_ret
      exact ⟨rfl, rfl⟩
  | succ n =>
    obtain ⟨g, c, rfl, _, _⟩ := h.form (by omega)
    have HH := Lib.hid h
    have HF := Lib.hid hf
    clear h hf
    obtain ⟨D, hD⟩ : ∃ D, decide (x ∈ fs) = D := ⟨_, rfl⟩
    have HD := Lib.hid hD
    rw [hD]
    clear hD
    go_enter Try.func26, Try.ntmps26
    go_wp2_with fail
    go_loop [5] (fun i => ∃ p : Nat, p ≤ n + 1 ∧ i = .int .i64 p ∧ Hid (∀ j, j < p → fs.getD j 0 ≠ x)) (fun i => n + 1 - (intOf i).toNat)
    case atStart => exact ⟨0, by omega, rfl, Lib.hid (fun j hj => by omega)⟩
    case round =>
      obtain ⟨p, hp, rfl, HN⟩ := hrel
      by_cases hlt : p < n + 1
      · have hpi : (p : Int) < (n : Int) + 1 := by omega
        have c0 := HH.out.cell p hlt
        obtain ⟨z, hz⟩ : ∃ z, fs.getD p 0 = z := ⟨_, rfl⟩
        rw [hz] at c0
        have HZ := Lib.hid hz
        clear hz
        by_cases hx : z = x
        · subst hx
          have e1 : D = true := by rw [← HD.out]; exact decide_eq_true (mem_getD (by rw [HF.out]; exact hlt) HZ.out)
          subst e1
          clear HD HN HZ
          go_wp2_with fail
          go_ret
          exact ⟨rfl, rfl⟩
        · have q0 : (z == x) = false := by simp [hx]
          have q1 : decide (z = x) = false := decide_eq_false hx
          have HX := Lib.hid hx
          clear hx
          go_wp2_with fail
          go_round
          case rel => exact ⟨p + 1, by omega, by go_num, Lib.hid (fun j hj => by
            rcases Nat.lt_succ_iff_lt_or_eq.1 hj with h | h
            · exact HN.out j h
            · rw [h, HZ.out]; exact HX.out)⟩
          case measure => simp [intOf]; omega
      · obtain rfl : p = n + 1 := by omega
        have e1 : D = false := by rw [← HD.out]; exact decide_eq_false (not_mem_getD (fun j hj => HN.out j (by rw [HF.out] at hj; exact hj)))
        subst e1
        clear HD HN
        go_wp2_with fail
        go_ret
        exact ⟨rfl, rfl⟩
end Go.Proofs.Ytnldnjnnjfbhnab.base
end
