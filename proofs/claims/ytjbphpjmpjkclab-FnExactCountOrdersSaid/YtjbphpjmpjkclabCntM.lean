/-
  How many different racks orders make of one: tube by tube on one side, run by run of the form on the other one; plain mathematics.
-/
import Derived.Test.YtjbphpjmpjkclabForm
namespace Go.Proofs.Ytjbphpjmpjkclab.base
set_option linter.unusedVariables false
set_option linter.unusedSimpArgs false

section
variable {α : Type} [DecidableEq α]
/-- How many of the first i + 1 are as that at i. -/
def cntF (t : Nat → α) (i : Nat) : Nat := (List.range i).countP (fun j => decide (t j = t i)) + 1
def chainF (t : Nat → α) : Nat → Nat
  | 0 => 1
  | k + 1 => chainF t k * (k + 1) / cntF t k
def prodF (t : Nat → α) : Nat → Nat
  | 0 => 1
  | k + 1 => prodF t k * cntF t k
def prodL : List α → Nat
  | [] => 1
  | x :: l => (l.countP (fun y => decide (y = x)) + 1) * prodL l
theorem prodL_perm {l m : List α} (h : l.Perm m) : prodL l = prodL m := by
  induction h with
  | nil => rfl
  | cons x h ih => rw [prodL, prodL, ih, h.countP_eq]
  | swap x y l =>
    rw [prodL, prodL, prodL, prodL, List.countP_cons, List.countP_cons]
    by_cases e : x = y
    · subst e; rfl
    · have e' : ¬ y = x := fun h => e h.symm
      simp only [e, e', decide_false, Bool.false_eq_true, if_false, Nat.add_zero]
      rw [← Nat.mul_assoc, ← Nat.mul_assoc, Nat.mul_comm (_ + 1) (_ + 1)]
  | trans _ _ ih1 ih2 => exact ih1.trans ih2
theorem prodF_L (t : Nat → α) : ∀ k, prodF t k = prodL ((List.range k).map t).reverse
  | 0 => rfl
  | k + 1 => by
    rw [prodF, prodF_L t k, List.range_succ, List.map_append, List.map_singleton, List.reverse_append, List.reverse_singleton, List.singleton_append, prodL, List.countP_reverse, List.countP_map, Nat.mul_comm]; rfl
theorem prodF_perm (t u : Nat → α) (k : Nat) (h : ((List.range k).map t).Perm ((List.range k).map u)) : prodF t k = prodF u k := by
  rw [prodF_L, prodF_L]
  exact prodL_perm ((List.reverse_perm _).trans (h.trans (List.reverse_perm _).symm))
end
def vec6 (p1 : Fin 2) (p2 : Fin 3) (p3 : Fin 4) (p4 : Fin 5) (p5 : Fin 6) : Nat → Nat := fun i => [0, p1.val, p2.val, p3.val, p4.val, p5.val].getD i 0
set_option maxRecDepth 100000 in
theorem chain_vec : ∀ (p1 : Fin 2) (p2 : Fin 3) (p3 : Fin 4) (p4 : Fin 5) (p5 : Fin 6), chainF (vec6 p1 p2 p3 p4 p5) 6 = 720 / prodF (vec6 p1 p2 p3 p4 p5) 6 ∧ ∀ k : Fin 6, chainF (vec6 p1 p2 p3 p4 p5) k ≤ 720 := by decide +kernel
section
variable {α : Type} [DecidableEq α]
theorem cntF_congr {β : Type} [DecidableEq β] {t : Nat → α} {p : Nat → β} (h : ∀ i j, i < 6 → j < 6 → (t i = t j ↔ p i = p j)) {i : Nat} (hi : i < 6) : cntF t i = cntF p i := by
  unfold cntF
  congr 1
  apply List.countP_congr
  intro j hj
  have hj' := List.mem_range.1 hj
  simp only [decide_eq_true_eq]
  exact h j i (by omega) hi
theorem chainF_congr {β : Type} [DecidableEq β] {t : Nat → α} {p : Nat → β} (h : ∀ i j, i < 6 → j < 6 → (t i = t j ↔ p i = p j)) : ∀ k, k ≤ 6 → chainF t k = chainF p k ∧ prodF t k = prodF p k
  | 0, _ => ⟨rfl, rfl⟩
  | k + 1, hk => by
    have := chainF_congr h k (by omega)
    have hc := cntF_congr h (i := k) (by omega)
    rw [chainF, chainF, prodF, prodF, this.1, this.2, hc]; exact ⟨rfl, rfl⟩
theorem chain_prod (t : Nat → α) : chainF t 6 = 720 / prodF t 6 ∧ ∀ k, k < 6 → chainF t k ≤ 720 := by
  let l := (List.range 6).map t
  have hm : ∀ i, i < 6 → t i ∈ l := fun i hi => List.mem_map.2 ⟨i, List.mem_range.2 hi, rfl⟩
  let p : Nat → Nat := fun i => l.idxOf (t i)
  have hle : ∀ i, i < 6 → p i ≤ i := fun i hi => by
    have hg : l[i]? = some (t i) := by rw [List.getElem?_map, List.getElem?_range hi]; rfl
    obtain ⟨hlt, hge⟩ := List.getElem?_eq_some_iff.1 hg
    rcases Nat.lt_or_ge i (p i) with g | g
    · exfalso
      have := List.not_of_lt_findIdx (p := (· == t i)) (xs := l) (i := i) g
      simp [hge] at this
    · exact g
  have hpat : ∀ i j, i < 6 → j < 6 → (t i = t j ↔ p i = p j) := fun i j hi hj => by
    constructor
    · intro e; show l.idxOf (t i) = l.idxOf (t j); rw [e]
    · intro e
      have h1 := List.getElem_idxOf (List.idxOf_lt_length_of_mem (hm i hi))
      have h2 := List.getElem_idxOf (List.idxOf_lt_length_of_mem (hm j hj))
      have e' : l.idxOf (t i) = l.idxOf (t j) := e
      rw [← h1, ← h2]
      simp only [e']
  have h0 := hle 0 (by omega); have h1 := hle 1 (by omega); have h2 := hle 2 (by omega); have h3 := hle 3 (by omega); have h4 := hle 4 (by omega); have h5 := hle 5 (by omega)
  have hv : ∀ i, i < 6 → p i = vec6 ⟨p 1, by omega⟩ ⟨p 2, by omega⟩ ⟨p 3, by omega⟩ ⟨p 4, by omega⟩ ⟨p 5, by omega⟩ i := fun i hi => by
    match i, hi with
    | 0, _ => show p 0 = 0; omega
    | 1, _ => rfl
    | 2, _ => rfl
    | 3, _ => rfl
    | 4, _ => rfl
    | 5, _ => rfl
  have hpat2 : ∀ i j, i < 6 → j < 6 → (t i = t j ↔ vec6 ⟨p 1, by omega⟩ ⟨p 2, by omega⟩ ⟨p 3, by omega⟩ ⟨p 4, by omega⟩ ⟨p 5, by omega⟩ i = vec6 ⟨p 1, by omega⟩ ⟨p 2, by omega⟩ ⟨p 3, by omega⟩ ⟨p 4, by omega⟩ ⟨p 5, by omega⟩ j) := fun i j hi hj => by
    rw [← hv i hi, ← hv j hj]; exact hpat i j hi hj
  have C := chain_vec ⟨p 1, by omega⟩ ⟨p 2, by omega⟩ ⟨p 3, by omega⟩ ⟨p 4, by omega⟩ ⟨p 5, by omega⟩
  constructor
  · have := chainF_congr hpat2 6 (Nat.le_refl _)
    rw [this.1, this.2]; exact C.1
  · intro k hk
    rw [(chainF_congr hpat2 k (by omega)).1]; exact C.2 ⟨k, hk⟩
/-- How long the run is that ends at i. -/
def runF (t : Nat → α) : Nat → Nat
  | 0 => 1
  | i + 1 => if t (i + 1) = t i then runF t i + 1 else 1
/-- 720 divided by the runs' places, up to k. -/
def divF (t : Nat → α) : Nat → Nat
  | 0 => 720
  | k + 1 => divF t k / runF t (k + 1)
theorem run_cnt (t : Nat → α) (h : ∀ i j, i < j → j + 1 < 6 → t i = t (j + 1) → t i = t j) : ∀ i, i < 6 → runF t i = cntF t i
  | 0, _ => rfl
  | i + 1, hi => by
    rw [runF]
    unfold cntF
    rw [List.range_succ, List.countP_append, List.countP_singleton]
    by_cases e : t (i + 1) = t i
    · rw [if_pos e, run_cnt t h i (by omega)]
      unfold cntF
      simp only [e, decide_true, if_true]
    · rw [if_neg e]
      have e' : ¬ t i = t (i + 1) := fun h => e h.symm
      have : (List.range i).countP (fun j => decide (t j = t (i + 1))) = 0 := by
        rw [List.countP_eq_zero]
        intro j hj
        have hj' := List.mem_range.1 hj
        simp only [decide_eq_true_eq]
        intro e2
        exact e' ((h j i hj' hi e2).symm.trans e2)
      rw [this]
      simp [e']
theorem div_prod (t : Nat → α) (h : ∀ i j, i < j → j + 1 < 6 → t i = t (j + 1) → t i = t j) : ∀ k, k < 6 → divF t k = 720 / prodF t (k + 1)
  | 0, _ => by rw [divF, prodF, prodF]; unfold cntF; simp
  | k + 1, hk => by
    rw [divF, div_prod t h k (by omega), run_cnt t h (k + 1) hk, Nat.div_div_eq_div_mul]; rfl
theorem divF_le (t : Nat → α) : ∀ k, divF t k ≤ 720
  | 0 => Nat.le_refl _
  | k + 1 => Nat.le_trans (Nat.div_le_self _ _) (divF_le t k)
theorem runF_pos (t : Nat → α) : ∀ k, 1 ≤ runF t k ∧ runF t k ≤ k + 1
  | 0 => ⟨Nat.le_refl _, Nat.le_refl _⟩
  | k + 1 => by
    have := runF_pos t k
    rw [runF]
    by_cases e : t (k + 1) = t k
    · rw [if_pos e]; omega
    · rw [if_neg e]; omega
theorem cntF_pos (t : Nat → α) (k : Nat) : 1 ≤ cntF t k ∧ cntF t k ≤ k + 1 := by
  unfold cntF
  have := List.countP_le_length (p := fun j => decide (t j = t k)) (l := List.range k)
  rw [List.length_range] at this
  omega
end
theorem asc_run {ns : List Int} (h : ns.length = 24) : ∀ i j, i < j → j + 1 < 6 → tub (formL ns) i = tub (formL ns) (j + 1) → tub (formL ns) i = tub (formL ns) j := by
  have hl := formL_len ns h
  have ha : Asc (tubs (formL ns)) := by rw [formL_tubs ns h]; exact isort_asc _ (tubs_len ns h)
  have at_ : ∀ p q, p < q → q < 6 → lexB (tub (formL ns) q) (tub (formL ns) p) = false := by
    intro p q hpq hq
    have g : ∀ i, i < 6 → (tubs (formL ns))[i]? = some (tub (formL ns) i) := fun i hi => by
      match i, hi with
      | 0, _ => rfl
      | 1, _ => rfl
      | 2, _ => rfl
      | 3, _ => rfl
      | 4, _ => rfl
      | 5, _ => rfl
    obtain ⟨h1, e1⟩ := List.getElem?_eq_some_iff.1 (g p (by omega))
    obtain ⟨h2, e2⟩ := List.getElem?_eq_some_iff.1 (g q hq)
    have := List.pairwise_iff_getElem.1 ha p q h1 h2 hpq
    rwa [e1, e2] at this
  intro i j hij hj e
  have h1 := at_ i j hij (by omega)
  have h2 := at_ j (j + 1) (by omega) hj
  rw [← e] at h2
  exact lexB_tot _ _ (by rw [tub_len _ _ hl (by omega), tub_len _ _ hl (by omega)]) h2 h1
/-- Both numbers are the same. -/
theorem orders_same {ns : List Int} (h : ns.length = 24) : chainF (tub ns) 6 = divF (tub (formL ns)) 5 := by
  have hp : ((List.range 6).map (tub ns)).Perm ((List.range 6).map (tub (formL ns))) := by
    show (tubs ns).Perm (tubs (formL ns))
    rw [formL_tubs ns h]; exact (isort_perm _).symm
  rw [(chain_prod (tub ns)).1, div_prod _ (asc_run h) 5 (by omega), prodF_perm _ _ 6 hp]
def ordersA (ns : List Int) : Nat := if vR ns = true then chainF (tub ns) 6 else 0
end Go.Proofs.Ytjbphpjmpjkclab.base
