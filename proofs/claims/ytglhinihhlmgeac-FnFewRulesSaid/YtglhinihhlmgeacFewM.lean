/-
  Fewest pours by a rule: plain mathematics.
-/
import Derived.Test.YtglhinihhlmgeacRchMZ
namespace Go.Proofs.Ytglhinihhlmgeac.base
set_option linter.unusedVariables false
set_option linter.unusedSimpArgs false

/-- Whether at most d pours make a rack of which P holds. -/
def srt (P : List Int → Bool) (ds : List Int) (x : Int) : Nat → List Int → Bool
  | 0, r => P r
  | d + 1, r => P r || (List.range (nbN ds x r)).any fun j => srt P ds x d (nbAt r ds x j)
/-- At most i pours lead from r to t. -/
def Rch (ds : List Int) (x : Int) : Nat → List Int → List Int → Prop
  | 0, r, t => t = r
  | i + 1, r, t => t = r ∨ ∃ j, j < nbN ds x r ∧ Rch ds x i (nbAt r ds x j) t
theorem rch_self (ds : List Int) (x : Int) (r : List Int) : ∀ i, Rch ds x i r r
  | 0 => rfl
  | i + 1 => .inl rfl
theorem srt_iff (P : List Int → Bool) (ds : List Int) (x : Int) : ∀ d r, srt P ds x d r = true ↔ ∃ t, Rch ds x d r t ∧ P t = true
  | 0, r => by
    rw [srt]
    exact ⟨fun h => ⟨r, rfl, h⟩, fun ⟨t, h1, h2⟩ => by rw [← show t = r from h1]; exact h2⟩
  | d + 1, r => by
    rw [srt, Bool.or_eq_true, List.any_eq_true]
    constructor
    · rintro (h | ⟨j, hj, h⟩)
      · exact ⟨r, .inl rfl, h⟩
      · obtain ⟨t, h1, h2⟩ := (srt_iff P ds x d _).1 h
        exact ⟨t, .inr ⟨j, List.mem_range.1 hj, h1⟩, h2⟩
    · rintro ⟨t, h1, h2⟩
      rcases h1 with rfl | ⟨j, hj, h1⟩
      · exact .inl h2
      · exact .inr ⟨j, List.mem_range.2 hj, (srt_iff P ds x d _).2 ⟨t, h1, h2⟩⟩
/-- One pour more, at the end instead of the beginning. -/
theorem rch_back (ds : List Int) (x : Int) : ∀ i r t, Rch ds x (i + 1) r t ↔ Rch ds x i r t ∨ ∃ u, Rch ds x i r u ∧ ∃ j, j < nbN ds x u ∧ t = nbAt u ds x j
  | 0, r, t => by
    constructor
    · rintro (h | ⟨j, hj, h⟩)
      · exact .inl h
      · exact .inr ⟨r, rfl, j, hj, h⟩
    · rintro (h | ⟨u, h, j, hj, h2⟩)
      · exact .inl h
      · have h : u = r := h
        subst h
        exact .inr ⟨j, hj, h2⟩
  | i + 1, r, t => by
    constructor
    · rintro (h | ⟨j, hj, h⟩)
      · exact .inl (.inl h)
      · rcases (rch_back ds x i _ t).1 h with h | ⟨u, h, k, hk, h2⟩
        · exact .inl (.inr ⟨j, hj, h⟩)
        · exact .inr ⟨u, .inr ⟨j, hj, h⟩, k, hk, h2⟩
    · rintro (h | ⟨u, h, k, hk, h2⟩)
      · rcases h with h | ⟨j, hj, h⟩
        · exact .inl h
        · exact .inr ⟨j, hj, (rch_back ds x i _ t).2 (.inl h)⟩
      · rcases h with h | ⟨j, hj, h⟩
        · subst h
          exact .inr ⟨k, hk, by rw [← h2]; exact rch_self ds x t (i + 1)⟩
        · exact .inr ⟨j, hj, (rch_back ds x i _ t).2 (.inr ⟨u, h, k, hk, h2⟩)⟩
theorem mem_insS {S : List (List Int)} {t u : List Int} : t ∈ insL S u ↔ t ∈ S ∨ t = u := by
  unfold insL
  by_cases h : u ∈ S
  · rw [if_pos h]
    exact ⟨.inl, fun h2 => by rcases h2 with h2 | h2; exact h2; rw [h2]; exact h⟩
  · rw [if_neg h, List.mem_append, List.mem_singleton]
theorem mem_growR {ds : List Int} {x : Int} {S : List (List Int)} {r t : List Int} : ∀ k, t ∈ growR ds x S r k ↔ t ∈ S ∨ ∃ j, j < k ∧ t = nbAt r ds x j
  | 0 => by
    rw [growR]
    exact ⟨.inl, fun h => by rcases h with h | ⟨j, hj, _⟩; exact h; omega⟩
  | k + 1 => by
    rw [growR, mem_insS, mem_growR k]
    constructor
    · rintro ((h | ⟨j, hj, h⟩) | h)
      · exact .inl h
      · exact .inr ⟨j, by omega, h⟩
      · exact .inr ⟨k, by omega, h⟩
    · rintro (h | ⟨j, hj, h⟩)
      · exact .inl (.inl h)
      · by_cases e : j = k
        · subst e; exact .inr h
        · exact .inl (.inr ⟨j, by omega, h⟩)
theorem mem_growL {ds : List Int} {x : Int} {S L : List (List Int)} {t : List Int} : ∀ n, t ∈ growL ds x S L n ↔ t ∈ S ∨ ∃ i, i < n ∧ ∃ j, j < nbN ds x (L.getD i []) ∧ t = nbAt (L.getD i []) ds x j
  | 0 => by
    rw [growL]
    exact ⟨.inl, fun h => by rcases h with h | ⟨i, hi, _⟩; exact h; omega⟩
  | n + 1 => by
    rw [growL, mem_growR, mem_growL n]
    constructor
    · rintro ((h | ⟨i, hi, h⟩) | h)
      · exact .inl h
      · exact .inr ⟨i, by omega, h⟩
      · exact .inr ⟨n, by omega, h⟩
    · rintro (h | ⟨i, hi, h⟩)
      · exact .inl (.inl h)
      · by_cases e : i = n
        · subst e; exact .inr h
        · exact .inl (.inr ⟨i, by omega, h⟩)
theorem rkM_iff (ds : List Int) (x : Int) (r : List Int) : ∀ i t, t ∈ rkM ds x r i ↔ Rch ds x i r t
  | 0, t => by rw [rkM, List.mem_singleton]; exact Iff.rfl
  | i + 1, t => by
    rw [rkM, mem_growL, rkM_iff ds x r i t, rch_back]
    constructor
    · rintro (h | ⟨k, hk, j, hj, h⟩)
      · exact .inl h
      · exact .inr ⟨_, (rkM_iff ds x r i _).1 (getD_inL hk), j, hj, h⟩
    · rintro (h | ⟨u, hu, j, hj, h⟩)
      · exact .inl h
      · obtain ⟨k, hk, e⟩ := List.mem_iff_getElem.1 ((rkM_iff ds x r i u).2 hu)
        have e2 : (rkM ds x r i).getD k [] = u := by rw [List.getD_eq_getElem?_getD, List.getElem?_eq_getElem hk, e]; rfl
        exact .inr ⟨k, hk, j, by rw [e2]; exact hj, by rw [e2]; exact h⟩
/-- What the model asks is whether some rack that has been seen is as P asks. -/
theorem srt_seen (P : List Int → Bool) (ds : List Int) (x : Int) (r : List Int) (i : Nat) : srt P ds x i r = (rkP ds x r i).1.any P := by
  rw [Bool.eq_iff_iff, srt_iff, List.any_eq_true, ← rk_same]
  exact ⟨fun ⟨t, h1, h2⟩ => ⟨t, (rkM_iff ds x r i t).2 h1, h2⟩, fun ⟨t, h1, h2⟩ => ⟨t, (rkM_iff ds x r i t).1 h1, h2⟩⟩
/-- The last level has one, where the racks before had none. -/
theorem srt_level (P : List Int → Bool) (ds : List Int) (x : Int) (r : List Int) (i : Nat) (h : ∀ k, k < i → srt P ds x k r = false) : srt P ds x i r = (rkP ds x r i).2.any P := by
  rw [srt_seen]
  cases i with
  | zero => rfl
  | succ i =>
    have h1 := h i (by omega)
    rw [srt_seen] at h1
    obtain ⟨B, h3, _⟩ := growL_pre ds x (rkP ds x r i).1 (rkP ds x r i).2 (rkP ds x r i).2.length
    have e2 : (rkP ds x r (i + 1)).2 = B := by
      show (growL ds x (rkP ds x r i).1 (rkP ds x r i).2 (rkP ds x r i).2.length).drop (rkP ds x r i).1.length = B
      rw [h3, List.drop_append_of_le_length (Nat.le_refl _), List.drop_length, List.nil_append]
    have e1 : (rkP ds x r (i + 1)).1 = (rkP ds x r i).1 ++ B := h3
    rw [e1, e2, List.any_append, h1, Bool.false_or]
/-- The first number of pours that is enough, from k on. -/
def fewFrom (P : List Int → Bool) (ds : List Int) (x : Int) (r : List Int) : Nat → Nat → Option Nat
  | k, 0 => none
  | k, g + 1 => if srt P ds x k r = true then some k else fewFrom P ds x r (k + 1) g
theorem few_some {P : List Int → Bool} {ds : List Int} {x : Int} {r : List Int} {i : Nat} : ∀ (g k : Nat), k ≤ i → i < k + g → (∀ m, m < i → srt P ds x m r = false) → srt P ds x i r = true → fewFrom P ds x r k g = some i
  | 0, k, h1, h2, _, _ => by omega
  | g + 1, k, h1, h2, h3, h4 => by
    rw [fewFrom]
    by_cases e : k = i
    · subst e; rw [if_pos h4]
    · rw [h3 k (by omega), if_neg (by decide)]
      exact few_some g (k + 1) (by omega) (by omega) h3 h4
theorem few_none {P : List Int → Bool} {ds : List Int} {x : Int} {r : List Int} : ∀ (g k : Nat), (∀ m, m < k + g → srt P ds x m r = false) → fewFrom P ds x r k g = none
  | 0, _, _ => rfl
  | g + 1, k, h => by
    rw [fewFrom, h k (by omega), if_neg (by decide)]
    exact few_none g (k + 1) (fun m hm => h m (by omega))
end Go.Proofs.Ytglhinihhlmgeac.base
