/-
  What the law of racks says, in plain mathematics: layers that are put can be taken, swaps are undone, runs have all layers, racks are in a strict order.
-/
import Derived.Test.YtlnbhopigjkkkaaPut
import Derived.Test.YtlnbhopigjkkkaaPourM
import Derived.Test.YtlnbhopigjkkkaaLess
import Derived.Test.YtlnbhopigjkkkaaRunsL
import Derived.Test.YtlnbhopigjkkkaaReadR
namespace Go.Proofs.Ytlnbhopigjkkkaa.base
open Go.ChangeShapes Go.WideShapes Go.ChangeAt Go.RowKit
set_option linter.unusedVariables false
set_option linter.unusedSimpArgs false

/-! runs -/
def sumR (fs : List Int) : Nat → Int
  | 0 => 0
  | k + 1 => sumR fs k + fs.getD (k * 2 + 1) 0
def runsAll (t : List Int) : Bool :=
  decide (sumR (runsF t (lay t)) (runsN t (lay t)) = (lay t : Nat)) &&
  (List.range 5).all (fun k => !decide (0 < k ∧ k < runsN t (lay t)) || (runsF t (lay t)).getD (k * 2) 0 != (runsF t (lay t)).getD ((k - 1) * 2) 0) &&
  (!decide (lay t ≠ 0) || (decide (0 < runsN t (lay t)) && (runsF t (lay t)).getD ((runsN t (lay t) - 1) * 2) 0 == topC t && (runsF t (lay t)).getD ((runsN t (lay t) - 1) * 2 + 1) 0 == (topN t : Nat))) &&
  decide (runsN t (lay t) ≤ 4) && (List.range 5).all (fun k => decide (0 ≤ sumR (runsF t (lay t)) k ∧ sumR (runsF t (lay t)) k ≤ 100 ∧ 0 ≤ (runsF t (lay t)).getD (k * 2 + 1) 0 ∧ (runsF t (lay t)).getD (k * 2 + 1) 0 ≤ 4))
theorem runsAll_all : allT.all runsAll = true := by decide +kernel
structure RunsAll (fs : List Int) (n : Nat) (many : Int) : Prop where
  sum : sumR fs n = many
  ne : ∀ k, 0 < k → k < n → fs.getD (k * 2) 0 ≠ fs.getD ((k - 1) * 2) 0
  small : n ≤ 4
  part : ∀ k, k < 5 → 0 ≤ sumR fs k ∧ sumR fs k ≤ 100 ∧ 0 ≤ fs.getD (k * 2 + 1) 0 ∧ fs.getD (k * 2 + 1) 0 ≤ 4
theorem runs_all {ns : List Int} {i : Int} (h24 : ns.length = 24) (h : inR ns i = true) : RunsAll (runsFA ns i) (runsNA ns i) (layersA ns i) ∧ topOk ns i = decide (0 < layersA ns i) ∧
    (topOk ns i = true → 0 < runsNA ns i ∧ (runsFA ns i).getD ((runsNA ns i - 1) * 2) 0 = topCA ns i ∧ (runsFA ns i).getD ((runsNA ns i - 1) * 2 + 1) 0 = topNA ns i) := by
  obtain ⟨hv, p, rfl, hp⟩ := inR_of h
  have h4 := tub_len ns p h24 hp
  have hvt := vR_tub hv p hp
  have eF : runsFA ns (p : Int) = runsF (tub ns p) (lay (tub ns p)) := by unfold runsFA; rw [if_pos h, tubA_yes h]
  have eN : runsNA ns (p : Int) = runsN (tub ns p) (lay (tub ns p)) := by unfold runsNA; rw [if_pos h, tubA_yes h]
  have eL : layersA ns (p : Int) = (lay (tub ns p) : Nat) := by unfold layersA; rw [if_pos h]; rfl
  have eC : topCA ns (p : Int) = topC (tub ns p) := by unfold topCA; rw [if_pos h]; rfl
  have eT : topNA ns (p : Int) = (topN (tub ns p) : Nat) := by unfold topNA; rw [if_pos h]; rfl
  have eO : topOk ns (p : Int) = decide (lay (tub ns p) ≠ 0) := by unfold topOk; rw [h, Bool.true_and]; rfl
  have b := forT runsAll runsAll_all h4 hvt
  unfold runsAll at b
  simp only [Bool.and_eq_true] at b
  obtain ⟨⟨⟨⟨b1, b2⟩, b3⟩, b4⟩, b5⟩ := b
  rw [eF, eN, eL, eC, eT, eO]
  refine ⟨⟨of_decide_eq_true b1, fun k h0 hk => ?_, of_decide_eq_true b4, fun k hk => ?_⟩, by rw [decide_eq_decide]; omega, fun hl => ?_⟩
  · have hn : runsN (tub ns p) (lay (tub ns p)) ≤ 4 := of_decide_eq_true b4
    have := List.all_eq_true.1 b2 k (by simp; omega)
    have e : (0 < k ∧ k < runsN (tub ns p) (lay (tub ns p))) := ⟨h0, hk⟩
    simp only [e, decide_true, Bool.not_true, Bool.false_or, and_self] at this
    simpa using this
  · exact of_decide_eq_true (List.all_eq_true.1 b5 k (by simp; omega))
  · rw [hl] at b3
    simp only [Bool.not_true, Bool.false_or, Bool.and_eq_true, decide_eq_true_eq, beq_iff_eq] at b3
    exact ⟨b3.1.1, b3.1.2, b3.2⟩
theorem topOk_no {ns : List Int} {i : Int} (h : inR ns i = false) : topOk ns i = false := by unfold topOk; rw [h]; rfl

/-! a layer that is put can be taken -/
def putTake (t : List Int) : Bool := !decide (lay t < 4) || [1, 2, 3, 4, 5].all fun c => takeT (putT t c) == t && topC (putT t c) == c && decide (lay (putT t c) ≠ 0) && vT (putT t c)
theorem putTake_all : allT.all putTake = true := by decide +kernel
theorem put_take {ns : List Int} {i c : Int} (h24 : ns.length = 24) (h : putOk ns i c = true) : takeOk (putR ns i c) i = true ∧ takeR (putR ns i c) i = ns ∧ takeC (putR ns i c) i = c := by
  have h0 := h
  unfold putOk at h
  simp only [Bool.and_eq_true, decide_eq_true_eq] at h
  obtain ⟨⟨hi, hc⟩, hl⟩ := h
  obtain ⟨hv, p, rfl, hp⟩ := inR_of hi
  have hl : lay (tub ns p) < 4 := hl
  have h4 := tub_len ns p h24 hp
  have b := forT putTake putTake_all h4 (vR_tub hv p hp)
  unfold putTake at b
  simp only [hl, decide_true, Bool.not_true, Bool.false_or] at b
  have b2 := List.all_eq_true.1 b c (by
    have : c = 1 ∨ c = 2 ∨ c = 3 ∨ c = 4 ∨ c = 5 := by omega
    rcases this with rfl | rfl | rfl | rfl | rfl <;> decide)
  simp only [Bool.and_eq_true, beq_iff_eq, decide_eq_true_eq] at b2
  obtain ⟨⟨⟨e1, e2⟩, e3⟩, e4⟩ := b2
  have eR : putR ns (p : Int) c = setTub ns p (putT (tub ns p) c) := by unfold putR; rw [if_pos h0]; rfl
  have hpl : (putT (tub ns p) c).length = 4 := putT_len h4 c
  have hsl := setTub_len ns p _ h24 hp hpl
  have tt := tub_setTub ns p _ h24 hp hpl
  rw [eR]
  have vM : vR (setTub ns p (putT (tub ns p) c)) = true := vR_of fun o ho => by
    by_cases e : p = o
    · subst e; rw [tt]; exact e4
    · rw [tub_setTub_other ns p o _ h24 hp ho hpl e]; exact vR_tub hv o ho
  have ok : takeOk (setTub ns p (putT (tub ns p) c)) (p : Int) = true := by
    unfold takeOk
    rw [inR_yes vM hp, Bool.true_and]
    show decide (lay (tub _ p) ≠ 0) = true
    rw [tt]; exact decide_eq_true e3
  refine ⟨ok, ?_, ?_⟩
  · unfold takeR
    rw [if_pos ok]
    show setTub _ p (takeT (tub _ p)) = ns
    rw [tt, e1]
    refine rack_ext (setTub_len _ p _ hsl hp h4) h24 (fun o ho => ?_)
    by_cases e : p = o
    · subst e; rw [tub_setTub _ p _ hsl hp h4]
    · rw [tub_setTub_other _ p o _ hsl hp ho h4 e, tub_setTub_other ns p o _ h24 hp ho hpl e]
  · unfold takeC
    rw [if_pos ok]
    show topC (tub _ p) = c
    rw [tt, e2]

/-! a swap is undone -/
theorem swapOk_of {ns : List Int} {i j : Int} (h : swapOk ns i j = true) : vR ns = true ∧ ∃ p q : Nat, i = (p : Int) ∧ j = (q : Int) ∧ p < 6 ∧ q < 6 := by
  unfold swapOk at h
  simp at h
  exact ⟨h.1.1, i.toNat, j.toNat, by omega, by omega, by omega, by omega⟩
theorem swap_back {ns : List Int} {i j : Int} (h24 : ns.length = 24) (h : swapOk ns i j = true) : swapOk (swapR ns i j) j i = true ∧ swapR (swapR ns i j) j i = ns := by
  obtain ⟨hv, p, q, rfl, rfl, hp, hq⟩ := swapOk_of h
  have h4 := fun o ho => tub_len ns o h24 ho
  have eR := (swapR_yes hv hp hq).2
  have l1 := setTub_len ns p (tub ns q) h24 hp (h4 q hq)
  have l2 := setTub_len _ q (tub ns p) l1 hq (h4 p hp)
  have tq : tub (setTub (setTub ns p (tub ns q)) q (tub ns p)) q = tub ns p := tub_setTub _ q _ l1 hq (h4 p hp)
  have tp : tub (setTub (setTub ns p (tub ns q)) q (tub ns p)) p = tub ns q := by
    by_cases e : q = p
    · subst e; rw [tq]
    · rw [tub_setTub_other _ q p _ l1 hq hp (h4 p hp) e, tub_setTub ns p _ h24 hp (h4 q hq)]
  have to : ∀ o, o < 6 → p ≠ o → q ≠ o → tub (setTub (setTub ns p (tub ns q)) q (tub ns p)) o = tub ns o := fun o ho h1 h2 => by
    rw [tub_setTub_other _ q o _ l1 hq ho (h4 p hp) h2, tub_setTub_other ns p o _ h24 hp ho (h4 q hq) h1]
  rw [eR]
  generalize setTub (setTub ns p (tub ns q)) q (tub ns p) = M at *
  have vM : vR M = true := vR_of fun o ho => by
    by_cases e1 : p = o
    · subst e1; rw [tp]; exact vR_tub hv q hq
    · by_cases e2 : q = o
      · subst e2; rw [tq]; exact vR_tub hv p hp
      · rw [to o ho e1 e2]; exact vR_tub hv o ho
  obtain ⟨k1, k2⟩ := swapR_yes vM hq hp
  refine ⟨k1, ?_⟩
  rw [k2]
  have m4 := fun o ho => tub_len M o l2 ho
  have r1 := setTub_len M q (tub M p) l2 hq (m4 p hp)
  refine rack_ext (setTub_len _ p _ r1 hp (m4 q hq)) h24 (fun o ho => ?_)
  by_cases e1 : p = o
  · subst e1; rw [tub_setTub _ p _ r1 hp (m4 q hq), tq]
  · rw [tub_setTub_other _ p o _ r1 hp ho (m4 q hq) e1]
    by_cases e2 : q = o
    · subst e2; rw [tub_setTub M q _ l2 hq (m4 p hp), tp]
    · rw [tub_setTub_other M q o _ l2 hq ho (m4 p hp) e2]; exact to o ho e1 e2

/-! racks are in a strict order -/
theorem ltL_tri : ∀ a b : List Int, a.length = b.length → (ltL a b = true → ltL b a = false) ∧ (a ≠ b ↔ (ltL a b = true ∨ ltL b a = true))
  | [], [], _ => by simp [ltL]
  | [], _ :: _, h => by simp at h
  | _ :: _, [], h => by simp at h
  | x :: xs, y :: ys, h => by
    have ih := ltL_tri xs ys (by simpa using h)
    rw [ltL, ltL]
    by_cases e : x = y
    · subst e
      rw [if_pos rfl, if_pos rfl]
      refine ⟨ih.1, ?_⟩
      rw [← ih.2]; simp
    · rw [if_neg e, if_neg (Ne.symm e)]
      refine ⟨fun h => by simp at h ⊢; omega, ?_⟩
      constructor
      · intro _
        rcases Int.lt_or_gt_of_ne e with h1 | h1
        · left; simpa using h1
        · right; simpa using h1
      · intro _ h2
        injection h2 with h2; exact e h2
theorem less_facts {f g : List Int} (hf : f.length = 24) (hg : g.length = 24) (h : lessOk f g = true) : lessOk g f = true ∧ (lessA f g = true → lessA g f = false) ∧ (f ≠ g ↔ (lessA f g = true ∨ lessA g f = true)) := by
  have h2 : lessOk g f = true := by unfold lessOk at h ⊢; rw [Bool.and_comm]; exact h
  obtain ⟨t1, t2⟩ := ltL_tri f g (by omega)
  unfold lessA
  rw [h, h2, Bool.true_and, Bool.true_and]
  exact ⟨rfl, t1, t2⟩
end Go.Proofs.Ytlnbhopigjkkkaa.base
