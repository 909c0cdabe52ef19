/-
  Renamings of a rack, together: as many of them lead to each form that is led to; plain mathematics.
-/
import Derived.Test.YtlleenepinijdaaForm
import Derived.Test.YtlleenepinijdaaSix
namespace Go.Proofs.Ytlleenepinijdaa.base
set_option linter.unusedVariables false
set_option linter.unusedSimpArgs false

/-! counting what is different -/
section
variable {β : Type} [DecidableEq β]
/-- The different ones of the first k, in order. -/
def firsts (L : List β) : Nat → List β
  | 0 => []
  | k + 1 => match L[k]? with
    | none => firsts L k
    | some x => if x ∈ firsts L k then firsts L k else firsts L k ++ [x]
theorem firsts_succ {L : List β} {k : Nat} {x : β} (h : L[k]? = some x) : firsts L (k + 1) = if x ∈ firsts L k then firsts L k else firsts L k ++ [x] := by rw [firsts, h]
theorem firsts_mem (L : List β) : ∀ k, k ≤ L.length → ∀ y, y ∈ firsts L k ↔ y ∈ L.take k
  | 0, _, y => by simp [firsts]
  | k + 1, hk, y => by
    have hx : L[k]? = some L[k] := List.getElem?_eq_getElem (by omega)
    rw [firsts_succ hx, List.take_succ_eq_append_getElem (by omega), List.mem_append, List.mem_singleton, ← firsts_mem L k (by omega)]
    by_cases h : L[k] ∈ firsts L k
    · rw [if_pos h]
      exact ⟨.inl, fun h1 => h1.elim id (fun e => e ▸ h)⟩
    · rw [if_neg h, List.mem_append, List.mem_singleton]
theorem firsts_nodup (L : List β) : ∀ k, (firsts L k).Nodup
  | 0 => List.nodup_nil
  | k + 1 => by
    rw [firsts]
    cases h : L[k]? with
    | none => exact firsts_nodup L k
    | some x =>
      simp only
      by_cases hm : x ∈ firsts L k
      · rw [if_pos hm]; exact firsts_nodup L k
      · rw [if_neg hm, List.nodup_append]
        exact ⟨firsts_nodup L k, by simp, fun a ha b hb e => by rw [List.mem_singleton.1 hb] at e; exact hm (e ▸ ha)⟩
theorem sum_const {α : Type} (f : α → Nat) (c : Nat) : ∀ D : List α, (∀ d ∈ D, f d = c) → (D.map f).sum = D.length * c
  | [], _ => by simp
  | d :: D, h => by
    rw [List.map_cons, List.sum_cons, sum_const f c D (fun x hx => h x (List.mem_cons_of_mem _ hx)), h d (List.mem_cons_self ..), List.length_cons, Nat.succ_mul, Nat.add_comm]
theorem sum_add {α : Type} (f g : α → Nat) : ∀ D : List α, (D.map (fun d => f d + g d)).sum = (D.map f).sum + (D.map g).sum
  | [] => by simp
  | d :: D => by simp only [List.map_cons, List.sum_cons]; rw [sum_add f g D]; omega
theorem sum_one (x : β) : ∀ D : List β, D.Nodup → (D.map (fun d => if x = d then 1 else 0)).sum = if x ∈ D then 1 else 0
  | [], _ => by simp
  | d :: D, h => by
    have hd := List.nodup_cons.1 h
    rw [List.map_cons, List.sum_cons, sum_one x D hd.2]
    by_cases e : x = d
    · subst e
      rw [if_pos rfl, if_neg hd.1, if_pos (List.mem_cons_self ..)]
    · rw [if_neg e]
      by_cases hm : x ∈ D
      · rw [if_pos hm, if_pos (List.mem_cons_of_mem _ hm)]
      · rw [if_neg hm, if_neg (by rw [List.mem_cons]; exact fun h => h.elim e hm)]
theorem sum_counts (D : List β) (hD : D.Nodup) : ∀ L : List β, (∀ x ∈ L, x ∈ D) → (D.map (fun d => L.countP (fun y => decide (y = d)))).sum = L.length
  | [], _ => by
    rw [sum_const _ 0 D (fun d _ => by simp)]; simp
  | x :: L, h => by
    have e : (fun d => (x :: L).countP (fun y => decide (y = d))) = fun d => L.countP (fun y => decide (y = d)) + if x = d then 1 else 0 := by
      funext d
      rw [List.countP_cons]
      by_cases e : x = d <;> simp [e]
    rw [e, sum_add, sum_counts D hD L (fun y hy => h y (List.mem_cons_of_mem _ hy)), sum_one x D hD, if_pos (h x (List.mem_cons_self ..)), List.length_cons]
/-- Where each one is there c times, the different ones are as many as all divided by c. -/
theorem firsts_count (L : List β) (c : Nat) (h : ∀ x ∈ L, L.countP (fun y => decide (y = x)) = c) : (firsts L L.length).length * c = L.length := by
  rw [← sum_const (fun d => L.countP (fun y => decide (y = d))) c (firsts L L.length) (fun d hd => h d (by
    have := (firsts_mem L L.length (Nat.le_refl _) d).1 hd
    rwa [List.take_length] at this))]
  exact sum_counts _ (firsts_nodup L _) L (fun x hx => (firsts_mem L L.length (Nat.le_refl _) x).2 (by rwa [List.take_length]))
end

/-! all renamings -/
def namesOf (n : Nat) : List Int := [0, ((1 + n / 625 % 5 : Nat) : Int), ((1 + n / 125 % 5 : Nat) : Int), ((1 + n / 25 % 5 : Nat) : Int), ((1 + n / 5 % 5 : Nat) : Int), ((1 + n % 5 : Nat) : Int)]
def allN : List (List Int) := ((List.range 3125).map namesOf).filter namesB
def id6 : List Int := [0, 1, 2, 3, 4, 5]
set_option maxRecDepth 100000 in
theorem allN_len : allN.length = 120 := by decide +kernel
set_option maxRecDepth 100000 in
theorem allN_back : ∀ g ∈ allN, namesB (backUp g 6) = true ∧ behUp g (backUp g 6) 6 = id6 ∧ behUp (backUp g 6) g 6 = id6 := by decide +kernel
theorem allN_names {g : List Int} (h : g ∈ allN) : namesB g = true ∧ g.length = 6 := by
  unfold allN at h
  obtain ⟨h1, h2⟩ := List.mem_filter.1 h
  obtain ⟨n, _, rfl⟩ := List.mem_map.1 h1
  exact ⟨h2, rfl⟩
theorem mem_take_iff (ns : List Int) (k : Nat) (x : Int) (h : k ≤ ns.length) : x ∈ ns.take k ↔ ∃ i, i < k ∧ ns.getD i 0 = x := by
  rw [List.mem_take_iff_getElem]
  constructor
  · rintro ⟨i, hi, e⟩
    exact ⟨i, by omega, by rw [List.getD_eq_getElem?_getD, List.getElem?_eq_getElem (by omega)]; exact e⟩
  · rintro ⟨i, hi, e⟩
    refine ⟨i, by omega, ?_⟩
    rw [List.getD_eq_getElem?_getD, List.getElem?_eq_getElem (by omega)] at e; exact e
theorem perm_iff {ns : List Int} (h6 : ns.length = 6) : permL ns = true ↔ (∀ k, k < 6 → 0 ≤ ns.getD k 0 ∧ ns.getD k 0 ≤ 5) ∧ ∀ i j, i < j → j < 6 → ns.getD i 0 ≠ ns.getD j 0 := by
  constructor
  · intro h
    refine ⟨fun k hk => perm_range h k hk, fun i j hij hj e => ?_⟩
    unfold permL permUp at h
    rw [List.all_eq_true] at h
    have := h j (List.mem_range.2 hj)
    unfold newAt at this
    rw [decide_eq_true ((mem_take_iff ns j _ (by omega)).2 ⟨i, hij, e⟩)] at this
    simp at this
  · rintro ⟨h1, h2⟩
    unfold permL permUp
    rw [List.all_eq_true]
    intro k hk
    have hk := List.mem_range.1 hk
    unfold newAt
    rw [decide_eq_true (h1 k hk), decide_eq_false (fun hm => by
      obtain ⟨i, hi, e⟩ := (mem_take_iff ns k _ (by omega)).1 hm
      exact h2 i k hi hk e)]
    rfl
theorem names_iff {ns : List Int} (h6 : ns.length = 6) : namesB ns = true ↔ ns.getD 0 0 = 0 ∧ (∀ k, k < 6 → 0 ≤ ns.getD k 0 ∧ ns.getD k 0 ≤ 5) ∧ ∀ i j, i < j → j < 6 → ns.getD i 0 ≠ ns.getD j 0 := by
  unfold namesB
  rw [Bool.and_eq_true_iff, decide_eq_true_eq, perm_iff h6]
theorem mem_allN {g : List Int} (h6 : g.length = 6) (h : namesB g = true) : g ∈ allN := by
  obtain ⟨h0, hr, hd⟩ := (names_iff h6).1 h
  have n1 := hd 0 1 (by omega) (by omega)
  have n2 := hd 0 2 (by omega) (by omega)
  have n3 := hd 0 3 (by omega) (by omega)
  have n4 := hd 0 4 (by omega) (by omega)
  have n5 := hd 0 5 (by omega) (by omega)
  have r1 := hr 1 (by omega)
  have r2 := hr 2 (by omega)
  have r3 := hr 3 (by omega)
  have r4 := hr 4 (by omega)
  have r5 := hr 5 (by omega)
  rw [h0] at n1 n2 n3 n4 n5
  refine List.mem_filter.2 ⟨List.mem_map.2 ⟨((g.getD 1 0).toNat - 1) * 625 + ((g.getD 2 0).toNat - 1) * 125 + ((g.getD 3 0).toNat - 1) * 25 + ((g.getD 4 0).toNat - 1) * 5 + ((g.getD 5 0).toNat - 1), List.mem_range.2 (by omega), ?_⟩, h⟩
  clear h hr hd
  match g, h6 with
  | [a, b, c, d, e, f], _ =>
    simp only [List.getD_cons_zero, List.getD_cons_succ] at *
    unfold namesOf
    subst h0
    congr 1
    congr 1
    · omega
    congr 1
    · omega
    congr 1
    · omega
    congr 1
    · omega
    congr 1
    omega
theorem beh_getD (a b : List Int) (j : Nat) (hj : j < 6) : (behUp a b 6).getD j 0 = b.getD (a.getD j 0).toNat 0 := by
  unfold behUp; rw [mixUp_getD _ _ _ _ _ hj, if_pos hj]; rfl
theorem beh_mem {a b : List Int} (ha : a ∈ allN) (hb : b ∈ allN) : behUp a b 6 ∈ allN := by
  obtain ⟨na, la⟩ := allN_names ha
  obtain ⟨nb, lb⟩ := allN_names hb
  obtain ⟨a0, ar, ad⟩ := (names_iff la).1 na
  obtain ⟨b0, br, bd⟩ := (names_iff lb).1 nb
  have hbl : (behUp a b 6).length = 6 := mixUp_len _ _ _ _
  refine mem_allN hbl ((names_iff hbl).2 ⟨?_, fun k hk => ?_, fun i j hij hj => ?_⟩)
  · rw [beh_getD a b 0 (by omega), a0]; exact b0
  · rw [beh_getD a b k hk]
    exact br _ (by have := ar k hk; omega)
  · rw [beh_getD a b i (by omega), beh_getD a b j hj]
    have h1 := ar i (by omega)
    have h2 := ar j hj
    have h3 := ad i j hij hj
    rcases Nat.lt_or_ge (a.getD i 0).toNat (a.getD j 0).toNat with h | h
    · exact bd _ _ h (by omega)
    · exact fun e => bd _ _ (by omega : (a.getD j 0).toNat < (a.getD i 0).toNat) (by omega) e.symm

/-! what renamings make of tubes -/
def colR (g : List Int) (c : Int) : Int := g.getD c.toNat 0
def Col (t : List Int) : Prop := ∀ c ∈ t, 0 ≤ c ∧ c ≤ 5
theorem renR_map {ns : List Int} (h : ns.length = 24) (g : List Int) : renR ns g = ns.map (colR g) := by
  unfold renR renUp
  rw [mixUp_all]
  conv => rhs; rw [← list_range h]
  rw [List.map_map]; rfl
theorem tub_map (ns : List Int) (f : Int → Int) (i : Nat) : tub (ns.map f) i = (tub ns i).map f := by
  unfold tub; rw [← List.map_drop, ← List.map_take]
theorem tubs_ren {ns : List Int} (h : ns.length = 24) (g : List Int) : tubs (renR ns g) = (tubs ns).map (List.map (colR g)) := by
  rw [renR_map h]
  unfold tubs
  simp only [tub_map, List.map_cons, List.map_nil]
theorem col_beh (a b : List Int) (c : Int) (hc : 0 ≤ c ∧ c ≤ 5) : colR (behUp a b 6) c = colR b (colR a c) := by
  unfold colR; rw [beh_getD a b _ (by omega)]
theorem col_id (c : Int) (hc : 0 ≤ c ∧ c ≤ 5) : colR id6 c = c := by
  obtain ⟨n, rfl⟩ : ∃ n : Nat, c = (n : Int) := ⟨c.toNat, by omega⟩
  match n, hc with
  | 0, _ => rfl
  | 1, _ => rfl
  | 2, _ => rfl
  | 3, _ => rfl
  | 4, _ => rfl
  | 5, _ => rfl
  | n + 6, h => omega
theorem map_beh (a b : List Int) (t : List Int) (ht : Col t) : t.map (colR (behUp a b 6)) = (t.map (colR a)).map (colR b) := by
  rw [List.map_map]
  exact List.map_congr_left (fun c hc => col_beh a b c (ht c hc))
theorem map_id6 (t : List Int) (ht : Col t) : t.map (colR id6) = t := by
  have : t.map (colR id6) = t.map id := List.map_congr_left (fun c hc => col_id c (ht c hc))
  rw [this, List.map_id]
theorem Col.map {t : List Int} (ht : Col t) {g : List Int} (hg : g ∈ allN) : Col (t.map (colR g)) := by
  intro c hc
  obtain ⟨d, hd, rfl⟩ := List.mem_map.1 hc
  have := ht d hd
  exact perm_range (names_perm (allN_names hg).1) d.toNat (by omega)
theorem perm_maps {A B : List (List Int)} (hA : ∀ t ∈ A, Col t) (hB : ∀ t ∈ B, Col t) {g : List Int} (hg : g ∈ allN) : (A.map (List.map (colR g))).Perm (B.map (List.map (colR g))) ↔ A.Perm B := by
  constructor
  · intro h
    have hb := allN_back g hg
    have e : ∀ C : List (List Int), (∀ t ∈ C, Col t) → (C.map (List.map (colR g))).map (List.map (colR (backUp g 6))) = C := fun C hC => by
      rw [List.map_map]
      have : C.map (List.map (colR (backUp g 6)) ∘ List.map (colR g)) = C.map id := List.map_congr_left (fun t ht => by
        show (t.map (colR g)).map (colR (backUp g 6)) = t
        rw [← map_beh g (backUp g 6) t (hC t ht), hb.2.1, map_id6 t (hC t ht)])
      rw [this, List.map_id]
    have := h.map (List.map (colR (backUp g 6)))
    rwa [e A hA, e B hB] at this
  · exact fun h => h.map _
theorem form_iff {a b : List Int} (ha : a.length = 24) (hb : b.length = 24) : formL a = formL b ↔ (tubs a).Perm (tubs b) := by
  constructor
  · intro h
    have e : isort (tubs a) = isort (tubs b) := by rw [← formL_tubs a ha, ← formL_tubs b hb, h]
    exact (isort_perm _).symm.trans (e ▸ isort_perm _)
  · intro h
    unfold formL
    congr 1
    have la : ∀ t ∈ isort (tubs a), t.length = 4 := fun t ht => tubs_len a ha t ((isort_perm _).mem_iff.1 ht)
    exact asc_one la (isort_asc _ (tubs_len a ha)) (isort_asc _ (tubs_len b hb)) ((isort_perm _).trans (h.trans (isort_perm _).symm))
theorem renR_len (ns g : List Int) : (renR ns g).length = 24 := renUp_len _ _ _
def Cols (ns : List Int) : Prop := ∀ t ∈ tubs ns, Col t
theorem allN_nodup : allN.Nodup := by
  unfold allN
  refine List.Pairwise.filter _ ?_
  rw [List.pairwise_map]
  refine List.Pairwise.imp_of_mem ?_ List.nodup_range
  intro a b ha hb hne e
  have ha := List.mem_range.1 ha
  have hb := List.mem_range.1 hb
  unfold namesOf at e
  simp only [List.cons.injEq, and_true, true_and] at e
  omega
theorem perm_of_subM {α : Type} [DecidableEq α] : ∀ (l m : List α), l.Nodup → (∀ x ∈ l, x ∈ m) → m.length ≤ l.length → l.Perm m
  | [], m, _, _, h => by
    have : m = [] := List.eq_nil_of_length_eq_zero (by simpa using h)
    rw [this]
  | x :: l, m, hd, hs, h => by
    have hx : x ∈ m := hs x (List.mem_cons_self ..)
    have hp := List.perm_cons_erase hx
    have hl := List.length_erase_of_mem hx
    have hd' := List.nodup_cons.1 hd
    have := perm_of_subM l (m.erase x) hd'.2 (fun y hy => (List.mem_erase_of_ne (a := y) (b := x) (fun e : y = x => hd'.1 (e ▸ hy))).2 (hs y (List.mem_cons_of_mem _ hy))) (by simp only [List.length_cons] at h; omega)
    exact (this.cons x).trans hp.symm
theorem beh_id {a : List Int} (ha : a ∈ allN) : behUp a id6 6 = a := by
  obtain ⟨na, la⟩ := allN_names ha
  obtain ⟨a0, ar, ad⟩ := (names_iff la).1 na
  apply List.ext_getElem?
  intro j
  by_cases hj : j < 6
  · have e := beh_getD a id6 j hj
    have := col_id (a.getD j 0) (ar j hj)
    unfold colR at this
    rw [this] at e
    rw [List.getD_eq_getElem?_getD, List.getD_eq_getElem?_getD, List.getElem?_eq_getElem (by rw [show (behUp a id6 6).length = 6 from mixUp_len _ _ _ _]; exact hj), List.getElem?_eq_getElem (by omega)] at e
    rw [List.getElem?_eq_getElem (by rw [show (behUp a id6 6).length = 6 from mixUp_len _ _ _ _]; exact hj), List.getElem?_eq_getElem (by omega)]
    exact congrArg some e
  · rw [List.getElem?_eq_none (by rw [show (behUp a id6 6).length = 6 from mixUp_len _ _ _ _]; omega), List.getElem?_eq_none (by omega)]
theorem beh_assoc {a b c : List Int} (ha : a ∈ allN) : behUp (behUp a b 6) c 6 = behUp a (behUp b c 6) 6 := by
  obtain ⟨na, la⟩ := allN_names ha
  obtain ⟨a0, ar, ad⟩ := (names_iff la).1 na
  show mixUp 6 (behF (behUp a b 6) c) z6f 6 = mixUp 6 (behF a (behUp b c 6)) z6f 6
  rw [mixUp_all, mixUp_all]
  refine List.map_congr_left (fun j hj => ?_)
  have hj := List.mem_range.1 hj
  have h1 := ar j hj
  unfold behF
  rw [beh_getD a b j hj, beh_getD b c _ (by omega)]
theorem beh_perm {g : List Int} (hg : g ∈ allN) : (allN.map (fun k => behUp k g 6)).Perm allN := by
  refine perm_of_subM _ _ ?_ (fun x hx => ?_) (by rw [List.length_map]; exact Nat.le_refl _)
  · rw [List.Nodup, List.pairwise_map]
    refine List.Pairwise.imp_of_mem ?_ allN_nodup
    intro a b ha hb hne e
    have h2 := congrArg (fun x => behUp x (backUp g 6) 6) e
    simp only [beh_assoc ha, beh_assoc hb, (allN_back g hg).2.1, beh_id ha, beh_id hb] at h2
    exact hne h2
  · obtain ⟨k, hk, rfl⟩ := List.mem_map.1 hx
    exact beh_mem hk hg
/-- As many renamings lead to each form that is led to. -/
theorem fibre {ns : List Int} (h : ns.length = 24) (hc : Cols ns) {g : List Int} (hg : g ∈ allN) :
    allN.countP (fun h => decide (formL (renR ns h) = formL (renR ns g))) = allN.countP (fun k => decide (formL (renR ns k) = formL ns)) := by
  rw [← (beh_perm hg).countP_eq, List.countP_map]
  apply List.countP_congr
  intro k hk
  simp only [Function.comp_apply, decide_eq_true_eq]
  rw [form_iff (renR_len _ _) (renR_len _ _), form_iff (renR_len _ _) h, tubs_ren h, tubs_ren h, tubs_ren h]
  have e : (tubs ns).map (List.map (colR (behUp k g 6))) = ((tubs ns).map (List.map (colR k))).map (List.map (colR g)) := by
    rw [List.map_map]
    exact List.map_congr_left (fun t ht => map_beh k g t (hc t ht))
  rw [e]
  exact perm_maps (fun t ht => by
    obtain ⟨s, hs, rfl⟩ := List.mem_map.1 ht
    exact (hc s hs).map hk) hc hg

/-- The form to which the renaming at place j leads. -/
def renForms (ns : List Int) : List (List Int) := allN.map (fun g => formL (renR ns g))
def ownMany (ns : List Int) : Nat := allN.countP (fun k => decide (formL (renR ns k) = formL ns))
theorem own_many {ns : List Int} (h : ns.length = 24) (hc : Cols ns) : (firsts (renForms ns) 120).length * ownMany ns = 120 := by
  have hl : (renForms ns).length = 120 := by unfold renForms; rw [List.length_map, allN_len]
  have := firsts_count (renForms ns) (ownMany ns) (fun x hx => by
    obtain ⟨g, hg, rfl⟩ := List.mem_map.1 hx
    unfold renForms
    rw [List.countP_map]
    exact fibre h hc hg)
  rwa [hl] at this
theorem own_div {ns : List Int} (h : ns.length = 24) (hc : Cols ns) : 120 / (firsts (renForms ns) 120).length = ownMany ns ∧ 0 < (firsts (renForms ns) 120).length := by
  have e := own_many h hc
  have hp : 0 < (firsts (renForms ns) 120).length := by
    rcases Nat.eq_zero_or_pos (firsts (renForms ns) 120).length with h0 | h0
    · rw [h0] at e; omega
    · exact h0
  exact ⟨Nat.div_eq_of_eq_mul_right hp e.symm, hp⟩
end Go.Proofs.Ytlleenepinijdaa.base
