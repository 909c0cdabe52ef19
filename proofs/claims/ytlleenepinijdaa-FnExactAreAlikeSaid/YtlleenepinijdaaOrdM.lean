/-
  The first order that takes a rack to another one: it is found exactly if the forms are the same; plain mathematics.
-/
import Derived.Test.YtlleenepinijdaaForm
namespace Go.Proofs.Ytlleenepinijdaa.base
set_option linter.unusedVariables false
set_option linter.unusedSimpArgs false

theorem perm_of_sub {α : Type} [DecidableEq α] : ∀ (l m : List α), l.Nodup → (∀ x ∈ l, x ∈ m) → m.length ≤ l.length → l.Perm m
  | [], m, _, _, h => by
    have : m = [] := List.eq_nil_of_length_eq_zero (by simpa using h)
    rw [this]
  | x :: l, m, hd, hs, h => by
    have hx : x ∈ m := hs x (List.mem_cons_self ..)
    have hp := List.perm_cons_erase hx
    have hl := List.length_erase_of_mem hx
    have hd' := List.nodup_cons.1 hd
    have := perm_of_sub l (m.erase x) hd'.2 (fun y hy => (List.mem_erase_of_ne (a := y) (b := x) (fun e : y = x => hd'.1 (e ▸ hy))).2 (hs y (List.mem_cons_of_mem _ hy))) (by simp only [List.length_cons] at h; omega)
    exact (this.cons x).trans hp.symm
theorem len_of_sub {α : Type} [DecidableEq α] : ∀ (l m : List α), l.Nodup → (∀ x ∈ l, x ∈ m) → l.length ≤ m.length
  | [], m, _, _ => Nat.zero_le _
  | x :: l, m, hd, hs => by
    have hx : x ∈ m := hs x (List.mem_cons_self ..)
    have hl := List.length_erase_of_mem hx
    have hd' := List.nodup_cons.1 hd
    have hm : 0 < m.length := List.length_pos_of_mem hx
    have := len_of_sub l (m.erase x) hd'.2 (fun y hy => (List.mem_erase_of_ne (a := y) (b := x) (fun e : y = x => hd'.1 (e ▸ hy))).2 (hs y (List.mem_cons_of_mem _ hy)))
    simp only [List.length_cons]; omega

/-- Place p of a is left and holds t. -/
def fits (a : List Int) (os : List Nat) (t : List Int) (p : Nat) : Bool := decide (tub a p = t) && !decide (p ∈ os)
/-- The first place from p on that fits, 6 if there is none. -/
def fstFrom (a : List Int) (os : List Nat) (t : List Int) : Nat → Nat → Nat
  | 0, _ => 6
  | n + 1, p => if fits a os t p = true then p else fstFrom a os t n (p + 1)
def fstAt (a : List Int) (os : List Nat) (t : List Int) : Nat := fstFrom a os t 6 0
theorem fstFrom_spec (a : List Int) (os : List Nat) (t : List Int) : ∀ n p, n + p = 6 →
    (fstFrom a os t n p = 6 ∧ ∀ q, p ≤ q → q < 6 → fits a os t q = false) ∨ (p ≤ fstFrom a os t n p ∧ fstFrom a os t n p < 6 ∧ fits a os t (fstFrom a os t n p) = true ∧ ∀ q, p ≤ q → q < fstFrom a os t n p → fits a os t q = false)
  | 0, p, h => .inl ⟨rfl, fun q h1 h2 => by omega⟩
  | n + 1, p, h => by
    rw [fstFrom]
    by_cases hf : fits a os t p = true
    · rw [if_pos hf]
      exact .inr ⟨Nat.le_refl _, by omega, hf, fun q h1 h2 => by omega⟩
    · rw [if_neg hf]
      have hf' : fits a os t p = false := by simpa using hf
      have E : ∀ q, p ≤ q → q = p ∨ p + 1 ≤ q := fun q h => by omega
      rcases fstFrom_spec a os t n (p + 1) (by omega) with ⟨h1, h2⟩ | ⟨h1, h2, h3, h4⟩
      · exact .inl ⟨h1, fun q hq1 hq2 => (E q hq1).elim (fun e => e ▸ hf') (fun e => h2 q e hq2)⟩
      · exact .inr ⟨by omega, h2, h3, fun q hq1 hq2 => (E q hq1).elim (fun e => e ▸ hf') (fun e => h4 q e hq2)⟩
theorem fstAt_spec (a : List Int) (os : List Nat) (t : List Int) : (fstAt a os t = 6 ∧ ∀ q, q < 6 → fits a os t q = false) ∨ (fstAt a os t < 6 ∧ fits a os t (fstAt a os t) = true ∧ ∀ q, q < fstAt a os t → fits a os t q = false) := by
  rcases fstFrom_spec a os t 6 0 rfl with ⟨h1, h2⟩ | ⟨_, h2, h3, h4⟩
  · exact .inl ⟨h1, fun q hq => h2 q (Nat.zero_le _) hq⟩
  · exact .inr ⟨h2, h3, fun q hq => h4 q (Nat.zero_le _) hq⟩

/-- The order's first k numbers; none if a tube is not found. -/
def ordTo (a b : List Int) : Nat → Option (List Nat)
  | 0 => some []
  | k + 1 => match ordTo a b k with
    | none => none
    | some os => if fstAt a os (tub b k) = 6 then none else some (os ++ [fstAt a os (tub b k)])
theorem ordTo_succ {a b : List Int} {k : Nat} {os : List Nat} (h : ordTo a b k = some os) : ordTo a b (k + 1) = if fstAt a os (tub b k) = 6 then none else some (os ++ [fstAt a os (tub b k)]) := by
  rw [ordTo, h]
theorem ordTo_none {a b : List Int} {k : Nat} (h : ordTo a b k = none) : ordTo a b (k + 1) = none := by rw [ordTo, h]
structure Ord (a b : List Int) (k : Nat) (os : List Nat) : Prop where
  len : os.length = k
  lt : ∀ p ∈ os, p < 6
  nodup : os.Nodup
  tubs : os.map (tub a) = (List.range k).map (tub b)
theorem ordTo_ord (a b : List Int) : ∀ k os, ordTo a b k = some os → Ord a b k os
  | 0, os, h => by
    rw [ordTo] at h; cases h
    exact ⟨rfl, fun p hp => absurd hp List.not_mem_nil, List.nodup_nil, rfl⟩
  | k + 1, os, h => by
    cases ho : ordTo a b k with
    | none => rw [ordTo_none ho] at h; cases h
    | some os' =>
      have O := ordTo_ord a b k os' ho
      rw [ordTo_succ ho] at h
      rcases fstAt_spec a os' (tub b k) with ⟨h1, _⟩ | ⟨h1, h2, _⟩
      · rw [if_pos h1] at h; cases h
      · rw [if_neg (by omega)] at h
        cases h
        unfold fits at h2
        have h3 := of_decide_eq_true (Bool.and_eq_true_iff.1 h2).1
        have h4 : fstAt a os' (tub b k) ∉ os' := by have := (Bool.and_eq_true_iff.1 h2).2; simpa using this
        refine ⟨by simp [O.len], fun p hp => ?_, ?_, ?_⟩
        · rcases List.mem_append.1 hp with hp | hp
          · exact O.lt p hp
          · rw [List.mem_singleton.1 hp]; exact h1
        · rw [List.nodup_append]
          refine ⟨O.nodup, by simp, fun x hx y hy e => ?_⟩
          rw [List.mem_singleton.1 hy] at e
          exact h4 (e ▸ hx)
        · rw [List.map_append, O.tubs, List.range_succ, List.map_append]; simp [h3]
theorem tubs_range (a : List Int) : tubs a = (List.range 6).map (tub a) := rfl
theorem form_perm {a b : List Int} (ha : a.length = 24) (hb : b.length = 24) (h : formL a = formL b) : (tubs a).Perm (tubs b) := by
  have e : isort (tubs a) = isort (tubs b) := by rw [← formL_tubs a ha, ← formL_tubs b hb, h]
  exact (isort_perm _).symm.trans (e ▸ isort_perm _)
theorem perm_form {a b : List Int} (ha : a.length = 24) (hb : b.length = 24) (h : (tubs a).Perm (tubs b)) : formL a = formL b := by
  unfold formL
  congr 1
  have la : ∀ t ∈ isort (tubs a), t.length = 4 := fun t ht => tubs_len a ha t ((isort_perm _).mem_iff.1 ht)
  exact asc_one la (isort_asc _ (tubs_len a ha)) (isort_asc _ (tubs_len b hb)) ((isort_perm _).trans (h.trans (isort_perm _).symm))
theorem ordTo_form {a b : List Int} (ha : a.length = 24) (hb : b.length = 24) {os : List Nat} (h : ordTo a b 6 = some os) : formL a = formL b := by
  have O := ordTo_ord a b 6 os h
  have hp : os.Perm (List.range 6) := perm_of_sub os (List.range 6) O.nodup (fun p hp => List.mem_range.2 (O.lt p hp)) (by rw [O.len]; simp)
  refine perm_form ha hb ?_
  rw [tubs_range, tubs_range, ← O.tubs]
  exact (hp.map _).symm
/-- While a tube of b is to come, a has one that is the same and left. -/
theorem ordTo_next {a b : List Int} (ha : a.length = 24) (hb : b.length = 24) (h : formL a = formL b) {k : Nat} (hk : k < 6) {os : List Nat} (ho : ordTo a b k = some os) : fstAt a os (tub b k) < 6 := by
  have O := ordTo_ord a b k os ho
  rcases fstAt_spec a os (tub b k) with ⟨h1, h2⟩ | ⟨h1, _⟩
  · exfalso
    have hp := form_perm ha hb h
    rw [tubs_range, tubs_range] at hp
    have hc := hp.countP_eq (fun t => t == tub b k)
    rw [List.countP_map, List.countP_map, List.countP_eq_length_filter] at hc
    have hs := len_of_sub ((List.range 6).filter ((fun t => t == tub b k) ∘ tub a)) (os.filter ((fun t => t == tub b k) ∘ tub a)) (List.nodup_range.filter _) (fun p hp => by
      obtain ⟨hp1, hp2⟩ := List.mem_filter.1 hp
      have hq := h2 p (List.mem_range.1 hp1)
      simp only [Function.comp_apply, beq_iff_eq] at hp2
      unfold fits at hq
      rw [hp2] at hq
      simp at hq
      exact List.mem_filter.2 ⟨hq, by simp [hp2]⟩)
    rw [← List.countP_eq_length_filter, ← List.countP_eq_length_filter, ← List.countP_map (l := os), O.tubs, List.countP_map] at hs
    rw [← List.countP_eq_length_filter] at hc
    have hx : (List.range 6) = List.range k ++ (k :: (List.range' (k + 1) (5 - k))) := by
      match k, hk with
      | 0, _ => rfl
      | 1, _ => rfl
      | 2, _ => rfl
      | 3, _ => rfl
      | 4, _ => rfl
      | 5, _ => rfl
    have hy : List.countP ((fun t => t == tub b k) ∘ tub b) (List.range 6) = List.countP ((fun t => t == tub b k) ∘ tub b) (List.range k) + (List.countP ((fun t => t == tub b k) ∘ tub b) (List.range' (k + 1) (5 - k)) + 1) := by
      rw [hx, List.countP_append, List.countP_cons]; simp
    omega
  · exact h1
theorem ordTo_some {a b : List Int} (ha : a.length = 24) (hb : b.length = 24) (h : formL a = formL b) : ∀ k, k ≤ 6 → ∃ os, ordTo a b k = some os
  | 0, _ => ⟨[], rfl⟩
  | k + 1, hk => by
    obtain ⟨os, ho⟩ := ordTo_some ha hb h k (by omega)
    have := ordTo_next ha hb h (by omega) ho
    exact ⟨_, by rw [ordTo_succ ho, if_neg (by omega)]⟩
def toOk (a b : List Int) : Bool := vR a && vR b && decide (formL a = formL b)
def toR (a b : List Int) : List Int := if toOk a b = true then ((ordTo a b 6).getD []).map (fun p : Nat => (p : Int)) else [0, 0, 0, 0, 0, 0]
theorem toR_len {a b : List Int} (ha : a.length = 24) (hb : b.length = 24) : (toR a b).length = 6 := by
  unfold toR
  by_cases h : toOk a b = true
  · rw [if_pos h]
    unfold toOk at h
    have hf := of_decide_eq_true (Bool.and_eq_true_iff.1 h).2
    obtain ⟨os, ho⟩ := ordTo_some ha hb hf 6 (Nat.le_refl _)
    rw [ho, List.length_map]; exact (ordTo_ord a b 6 os ho).len
  · rw [if_neg h]; rfl
end Go.Proofs.Ytlleenepinijdaa.base
