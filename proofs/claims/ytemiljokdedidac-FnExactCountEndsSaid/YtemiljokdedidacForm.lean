/-
  The form of a rack: plain mathematics, nothing of the program. Tubes are compared layer by layer; sorted rows of the same tubes are one row.
-/
import Derived.Test.YtemiljokdedidacHold
namespace Go.Proofs.Ytemiljokdedidac.base
set_option linter.unusedVariables false
set_option linter.unusedSimpArgs false

/-- A tube comes before another one. -/
def lexB : List Int → List Int → Bool
  | a :: r, b :: s => if a = b then lexB r s else decide (a < b)
  | _, _ => false

theorem lexB_irr : ∀ a : List Int, lexB a a = false
  | [] => rfl
  | a :: r => by rw [lexB, if_pos rfl]; exact lexB_irr r
theorem lexB_trans : ∀ a b c : List Int, lexB a b = true → lexB b c = true → lexB a c = true
  | [], b, c, h, _ => by simp [lexB] at h
  | a :: r, [], c, h, _ => by simp [lexB] at h
  | a :: r, b :: s, [], _, h => by simp [lexB] at h
  | a :: r, b :: s, c :: t, h, k => by
    rw [lexB] at h k ⊢
    by_cases e : a = b
    · rw [if_pos e] at h
      subst e
      by_cases e2 : a = c
      · rw [if_pos e2] at k ⊢; exact lexB_trans r s t h k
      · rw [if_neg e2] at k ⊢; exact k
    · rw [if_neg e] at h
      by_cases e2 : b = c
      · subst e2; rw [if_neg e]; exact h
      · rw [if_neg e2] at k
        have h1 : a < b := by simpa using h
        have h2 : b < c := by simpa using k
        rw [if_neg (by omega)]; simp; omega
theorem lexB_tot : ∀ a b : List Int, a.length = b.length → lexB a b = false → lexB b a = false → a = b
  | [], [], _, _, _ => rfl
  | [], b :: s, h, _, _ => by simp at h
  | a :: r, [], h, _, _ => by simp at h
  | a :: r, b :: s, hl, h, k => by
    rw [lexB] at h k
    by_cases e : a = b
    · subst e
      rw [if_pos rfl] at h k
      rw [lexB_tot r s (by simpa using hl) h k]
    · rw [if_neg e] at h
      rw [if_neg (fun x => e x.symm)] at k
      simp at h k; omega
theorem lexB_asym {a b : List Int} (h : lexB a b = true) : lexB b a = false := by
  cases hb : lexB b a with
  | false => rfl
  | true => have := lexB_trans a b a h hb; rw [lexB_irr] at this; cases this
theorem lexB_ntrans {a b c : List Int} (hab : a.length = b.length) (hbc : b.length = c.length) (h : lexB a b = false) (k : lexB b c = false) : lexB a c = false := by
  cases hac : lexB a c with
  | false => rfl
  | true =>
    exfalso
    cases hba : lexB b a with
    | true => have := lexB_trans b a c hba hac; rw [k] at this; cases this
    | false => have := lexB_tot a b hab h hba; subst this; rw [k] at hac; cases hac

/-- A row of tubes is ascending. -/
def Asc (l : List (List Int)) : Prop := l.Pairwise fun a b => lexB b a = false
theorem asc_one {l m : List (List Int)} (h4 : ∀ t ∈ l, t.length = 4) (hl : Asc l) (hm : Asc m) (hp : l.Perm m) : l = m :=
  List.Perm.eq_of_pairwise (fun a b ha hb h1 h2 => (lexB_tot b a (by rw [h4 a ha, h4 b (hp.mem_iff.2 hb)]) h1 h2).symm) hl hm hp

def ins (x : List Int) : List (List Int) → List (List Int)
  | [] => [x]
  | y :: r => if lexB y x = true then y :: ins x r else x :: y :: r
def isort : List (List Int) → List (List Int)
  | [] => []
  | x :: r => ins x (isort r)
theorem ins_perm (x : List Int) : ∀ l, (ins x l).Perm (x :: l)
  | [] => List.Perm.refl _
  | y :: r => by
    rw [ins]
    split
    · exact ((ins_perm x r).cons y).trans (List.Perm.swap x y r)
    · exact List.Perm.refl _
theorem isort_perm : ∀ l, (isort l).Perm l
  | [] => List.Perm.refl _
  | x :: r => (ins_perm x (isort r)).trans ((isort_perm r).cons x)
theorem ins_asc (x : List Int) (hx : x.length = 4) : ∀ l, (∀ t ∈ l, t.length = 4) → Asc l → Asc (ins x l)
  | [], _, _ => by simp [Asc, ins]
  | y :: r, h4, h => by
    unfold Asc at h ⊢
    rw [List.pairwise_cons] at h
    rw [ins]
    by_cases e : lexB y x = true
    · rw [if_pos e, List.pairwise_cons]
      refine ⟨fun b hb => ?_, ins_asc x hx r (fun t ht => h4 t (List.mem_cons_of_mem _ ht)) h.2⟩
      rcases List.mem_cons.1 ((ins_perm x r).mem_iff.1 hb) with rfl | hb
      · exact lexB_asym e
      · exact h.1 b hb
    · have e2 : lexB y x = false := by simpa using e
      rw [if_neg e, List.pairwise_cons, List.pairwise_cons]
      refine ⟨fun b hb => ?_, h⟩
      rcases List.mem_cons.1 hb with rfl | hb
      · exact e2
      · exact lexB_ntrans (by rw [h4 b (List.mem_cons_of_mem _ hb), h4 y (List.mem_cons_self ..)]) (by rw [h4 y (List.mem_cons_self ..), hx]) (h.1 b hb) e2
theorem isort_asc : ∀ l, (∀ t ∈ l, t.length = 4) → Asc (isort l)
  | [], _ => List.Pairwise.nil
  | x :: r, h4 => by
    rw [isort]
    exact ins_asc x (h4 x (List.mem_cons_self ..)) _ (fun t ht => h4 t (List.mem_cons_of_mem _ ((isort_perm r).mem_iff.1 ht))) (isort_asc r fun t ht => h4 t (List.mem_cons_of_mem _ ht))

/-- A rack's tubes, a rack of six tubes, a rack's form. -/
def tubs (ns : List Int) : List (List Int) := [tub ns 0, tub ns 1, tub ns 2, tub ns 3, tub ns 4, tub ns 5]
def formL (ns : List Int) : List Int := (isort (tubs ns)).flatten
theorem tubs_len (ns : List Int) (h : ns.length = 24) : ∀ t ∈ tubs ns, t.length = 4 := by
  intro t ht
  simp only [tubs, List.mem_cons, List.not_mem_nil, or_false] at ht
  rcases ht with rfl | rfl | rfl | rfl | rfl | rfl <;> exact tub_len ns _ h (by omega)
theorem sixL {l : List (List Int)} (h : l.length = 6) : ∃ a b c d e f, l = [a, b, c, d, e, f] := by
  match l, h with
  | [a, b, c, d, e, f], _ => exact ⟨a, b, c, d, e, f, rfl⟩
theorem fourL {t : List Int} (h : t.length = 4) : ∃ a b c d, t = [a, b, c, d] := by
  match t, h with
  | [a, b, c, d], _ => exact ⟨a, b, c, d, rfl⟩
theorem tubs_flat {l : List (List Int)} (h6 : l.length = 6) (h4 : ∀ t ∈ l, t.length = 4) : l.flatten.length = 24 ∧ tubs l.flatten = l := by
  obtain ⟨a, b, c, d, e, f, rfl⟩ := sixL h6
  have g : ∀ t, t ∈ [a, b, c, d, e, f] → ∃ p q r s, t = [p, q, r, s] := fun t ht => fourL (h4 t ht)
  obtain ⟨a0, a1, a2, a3, rfl⟩ := g a (by simp)
  obtain ⟨b0, b1, b2, b3, rfl⟩ := g b (by simp)
  obtain ⟨c0, c1, c2, c3, rfl⟩ := g c (by simp)
  obtain ⟨d0, d1, d2, d3, rfl⟩ := g d (by simp)
  obtain ⟨e0, e1, e2, e3, rfl⟩ := g e (by simp)
  obtain ⟨f0, f1, f2, f3, rfl⟩ := g f (by simp)
  exact ⟨rfl, rfl⟩
theorem flat_tubs (ns : List Int) (h : ns.length = 24) : (tubs ns).flatten = ns := by
  have h6 : (tubs ns).length = 6 := rfl
  obtain ⟨h24, ht⟩ := tubs_flat h6 (tubs_len ns h)
  refine rack_ext h24 h fun i hi => ?_
  have e : ∀ ms : List Int, (tubs ms)[i]? = some (tub ms i) := fun ms => by
    match i, hi with
    | 0, _ => rfl
    | 1, _ => rfl
    | 2, _ => rfl
    | 3, _ => rfl
    | 4, _ => rfl
    | 5, _ => rfl
  have := e (tubs ns).flatten
  rw [ht, e ns] at this
  exact (Option.some.inj this).symm
theorem formL_len (ns : List Int) (h : ns.length = 24) : (formL ns).length = 24 :=
  (tubs_flat (by rw [(isort_perm _).length_eq]; rfl) fun t ht => tubs_len ns h t ((isort_perm _).mem_iff.1 ht)).1
theorem formL_tubs (ns : List Int) (h : ns.length = 24) : tubs (formL ns) = isort (tubs ns) :=
  (tubs_flat (by rw [(isort_perm _).length_eq]; rfl) fun t ht => tubs_len ns h t ((isort_perm _).mem_iff.1 ht)).2
/-- Whatever ascending row has the same tubes is the form. -/
theorem form_is (ns ms : List Int) (h : ns.length = 24) (hm : ms.length = 24) (ha : Asc (tubs ms)) (hp : (tubs ms).Perm (tubs ns)) : ms = formL ns := by
  have e : tubs ms = isort (tubs ns) := asc_one (tubs_len ms hm) ha (isort_asc _ (tubs_len ns h)) (hp.trans (isort_perm _).symm)
  rw [← flat_tubs ms hm, e]; rfl

/-! The model's way: six passes over neighbours. -/
def swapT (ns : List Int) (k : Nat) : List Int := setTub (setTub ns k (tub ns (k + 1))) (k + 1) (tub ns k)
def stepR (ns : List Int) (k : Nat) : List Int := if lexB (tub ns (k + 1)) (tub ns k) = true then swapT ns k else ns
def passR (ns : List Int) : Nat → List Int
  | 0 => ns
  | k + 1 => stepR (passR ns k) k
def sortR (ns : List Int) : Nat → List Int
  | 0 => ns
  | i + 1 => passR (sortR ns i) 5
theorem swapT_len {ns : List Int} (h : ns.length = 24) {k : Nat} (hk : k < 5) : (swapT ns k).length = 24 :=
  setTub_len _ _ _ (setTub_len ns k _ h (by omega) (tub_len ns _ h (by omega))) (by omega) (tub_len ns _ h (by omega))
theorem swapT_at {ns : List Int} (h : ns.length = 24) {k : Nat} (hk : k < 5) (p : Nat) (hp : p < 6) : tub (swapT ns k) p = if p = k then tub ns (k + 1) else if p = k + 1 then tub ns k else tub ns p := by
  have l1 := tub_len ns (k + 1) h (by omega)
  have l0 := tub_len ns k h (by omega)
  have hs := setTub_len ns k _ h (by omega) l1
  unfold swapT
  by_cases e1 : p = k + 1
  · subst e1
    rw [tub_setTub _ _ _ hs hp l0, if_neg (by omega), if_pos rfl]
  · rw [tub_setTub_other _ _ _ _ hs (by omega) hp l0 (fun e => e1 e.symm), if_neg e1]
    by_cases e0 : p = k
    · subst e0
      rw [tub_setTub _ _ _ h hp l1, if_pos rfl]
    · rw [tub_setTub_other _ _ _ _ h (by omega) hp l1 (fun e => e0 e.symm), if_neg e0]
theorem stepR_len {ns : List Int} (h : ns.length = 24) {k : Nat} (hk : k < 5) : (stepR ns k).length = 24 := by
  unfold stepR
  split
  · exact swapT_len h hk
  · exact h
theorem passR_len {ns : List Int} (h : ns.length = 24) : ∀ k, k ≤ 5 → (passR ns k).length = 24
  | 0, _ => h
  | k + 1, hk => stepR_len (passR_len h k (by omega)) (by omega)
theorem sortR_len {ns : List Int} (h : ns.length = 24) : ∀ i, (sortR ns i).length = 24
  | 0 => h
  | i + 1 => passR_len (sortR_len h i) 5 (by omega)
theorem swapT_perm {ns : List Int} (h : ns.length = 24) {k : Nat} (hk : k < 5) : (tubs (swapT ns k)).Perm (tubs ns) := by
  have A := fun p hp => swapT_at h hk p hp
  unfold tubs
  rw [A 0 (by omega), A 1 (by omega), A 2 (by omega), A 3 (by omega), A 4 (by omega), A 5 (by omega)]
  clear A
  match k, hk with
  | 0, _ => exact List.Perm.swap _ _ _
  | 1, _ => exact (List.Perm.swap _ _ _).cons _
  | 2, _ => exact ((List.Perm.swap _ _ _).cons _).cons _
  | 3, _ => exact (((List.Perm.swap _ _ _).cons _).cons _).cons _
  | 4, _ => exact ((((List.Perm.swap _ _ _).cons _).cons _).cons _).cons _
theorem stepR_perm {ns : List Int} (h : ns.length = 24) {k : Nat} (hk : k < 5) : (tubs (stepR ns k)).Perm (tubs ns) := by
  unfold stepR
  split
  · exact swapT_perm h hk
  · exact List.Perm.refl _
theorem passR_perm {ns : List Int} (h : ns.length = 24) : ∀ k, k ≤ 5 → (tubs (passR ns k)).Perm (tubs ns)
  | 0, _ => List.Perm.refl _
  | k + 1, hk => (stepR_perm (passR_len h k (by omega)) (by omega)).trans (passR_perm h k (by omega))
theorem sortR_perm {ns : List Int} (h : ns.length = 24) : ∀ i, (tubs (sortR ns i)).Perm (tubs ns)
  | 0 => List.Perm.refl _
  | i + 1 => (passR_perm (sortR_len h i) 5 (by omega)).trans (sortR_perm h i)

/-- The last i tubes have none behind them that comes before one ahead. -/
def Top (ns : List Int) (i : Nat) : Prop := ∀ p q, p < q → q < 6 → 6 ≤ q + i → lexB (tub ns q) (tub ns p) = false
/-- The tube at k is the greatest up to there. -/
def Most (ns : List Int) (k : Nat) : Prop := ∀ p, p < k → lexB (tub ns k) (tub ns p) = false
theorem step_top {ns : List Int} (h : ns.length = 24) {i k : Nat} (hk : k < 5) (T : Top ns i) : Top (stepR ns k) i := by
  unfold stepR
  by_cases e : lexB (tub ns (k + 1)) (tub ns k) = true
  · rw [if_pos e]
    have hki : k + 1 + i < 6 := by
      rcases Nat.lt_or_ge (k + 1 + i) 6 with g | g
      · exact g
      · have := T k (k + 1) (by omega) (by omega) (by omega); rw [this] at e; cases e
    intro p q hpq hq hqi
    rw [swapT_at h hk q hq, swapT_at h hk p (by omega), if_neg (show ¬ q = k by omega), if_neg (show ¬ q = k + 1 by omega)]
    split
    · exact T (k + 1) q (by omega) hq hqi
    · split
      · exact T k q (by omega) hq hqi
      · exact T p q hpq hq hqi
  · rw [if_neg e]; exact T
theorem step_most {ns : List Int} (h : ns.length = 24) {k : Nat} (hk : k < 5) (M : Most ns k) : Most (stepR ns k) (k + 1) := by
  unfold stepR
  by_cases e : lexB (tub ns (k + 1)) (tub ns k) = true
  · rw [if_pos e]
    intro p hp
    rw [swapT_at h hk (k + 1) (by omega), swapT_at h hk p (by omega), if_neg (show ¬ k + 1 = k by omega), if_pos rfl]
    by_cases e0 : p = k
    · rw [if_pos e0]; exact lexB_asym e
    · rw [if_neg e0, if_neg (show ¬ p = k + 1 by omega)]; exact M p (by omega)
  · rw [if_neg e]
    have e2 : lexB (tub ns (k + 1)) (tub ns k) = false := by simpa using e
    intro p hp
    by_cases e0 : p = k
    · rw [e0]; exact e2
    · exact lexB_ntrans (by rw [tub_len ns _ h (by omega), tub_len ns _ h (by omega)]) (by rw [tub_len ns _ h (by omega), tub_len ns _ h (by omega)]) e2 (M p (by omega))
theorem pass_top {ns : List Int} (h : ns.length = 24) {i : Nat} (hi : i ≤ 5) (T : Top ns i) : ∀ k, k ≤ 5 → Top (passR ns k) i ∧ (k + i ≤ 5 → Most (passR ns k) k) ∧ (5 ≤ k + i → Top (passR ns k) (i + 1))
  | 0, _ => by
    refine ⟨T, fun _ p hp => by omega, fun g => ?_⟩
    intro p q hpq hq hqi
    exact T p q hpq hq (by omega)
  | k + 1, hk => by
    obtain ⟨A, B, C⟩ := pass_top h hi T k (by omega)
    have hl := passR_len h k (by omega)
    have A2 := step_top hl (k := k) (by omega) A
    refine ⟨A2, fun g => step_most hl (by omega) (B (by omega)), fun g => ?_⟩
    by_cases g2 : 5 ≤ k + i
    · exact step_top hl (k := k) (by omega) (C g2)
    · have M := step_most hl (k := k) (by omega) (B (by omega))
      intro p q hpq hq hqi
      by_cases e : q = k + 1
      · rw [e]; exact M p (by omega)
      · exact A2 p q hpq hq (by omega)
theorem sort_top {ns : List Int} (h : ns.length = 24) : ∀ i, i ≤ 6 → Top (sortR ns i) i
  | 0, _ => fun p q _ hq hqi => by omega
  | i + 1, hi => (pass_top (sortR_len h i) (by omega) (sort_top h i (by omega)) 5 (by omega)).2.2 (by omega)
theorem asc_of {ns : List Int} (T : ∀ p q, p < q → q < 6 → lexB (tub ns q) (tub ns p) = false) : Asc (tubs ns) := by
  unfold Asc tubs
  simp only [List.pairwise_cons, List.mem_cons, List.not_mem_nil, or_false, forall_eq_or_imp, forall_eq]
  simp [T 0 1 (by omega) (by omega), T 0 2 (by omega) (by omega), T 0 3 (by omega) (by omega), T 0 4 (by omega) (by omega), T 0 5 (by omega) (by omega), T 1 2 (by omega) (by omega), T 1 3 (by omega) (by omega), T 1 4 (by omega) (by omega), T 1 5 (by omega) (by omega), T 2 3 (by omega) (by omega), T 2 4 (by omega) (by omega), T 2 5 (by omega) (by omega), T 3 4 (by omega) (by omega), T 3 5 (by omega) (by omega), T 4 5 (by omega) (by omega)]
theorem sortR_form {ns : List Int} (h : ns.length = 24) : sortR ns 6 = formL ns :=
  form_is ns _ h (sortR_len h 6) (asc_of fun p q hpq hq => sort_top h 6 (by omega) p q hpq hq (by omega)) (sortR_perm h 6)
end Go.Proofs.Ytemiljokdedidac.base
