/-
  The first form of a rack: the least one that renamings lead to; plain mathematics.
-/
import Derived.Test.YtlleenepinijdaaClsV
import Derived.Test.YtlleenepinijdaaLess
namespace Go.Proofs.Ytlleenepinijdaa.base
set_option linter.unusedVariables false
set_option linter.unusedSimpArgs false

theorem ltL_lex : ∀ a b : List Int, ltL a b = lexB a b
  | [], [] => rfl
  | [], _ :: _ => rfl
  | _ :: _, [] => rfl
  | x :: xs, y :: ys => by rw [ltL, lexB, ltL_lex xs ys]
/-- The least of a rack's form and of those to which the first k renamings lead. -/
def firstUp (ns : List Int) : Nat → List Int
  | 0 => formL ns
  | k + 1 => if ltL (rf ns (ag k)) (firstUp ns k) = true then rf ns (ag k) else firstUp ns k
theorem rf_len (ns g : List Int) : (rf ns g).length = 24 := formL_len _ (renR_len ns g)
theorem firstUp_len {ns : List Int} (h : ns.length = 24) : ∀ k, (firstUp ns k).length = 24
  | 0 => formL_len _ h
  | k + 1 => by
    rw [firstUp]
    split
    · exact rf_len _ _
    · exact firstUp_len h k
/-- One of them, and none is less. -/
structure Fst (ns : List Int) (S : List Int → Prop) (x : List Int) : Prop where
  one : x = formL ns ∨ ∃ g ∈ allN, x = rf ns g
  own : ltL (formL ns) x = false
  all : ∀ g ∈ allN, S (rf ns g) → ltL (rf ns g) x = false
theorem Fst.len {ns : List Int} {S : List Int → Prop} {x : List Int} (h24 : ns.length = 24) (h : Fst ns S x) : x.length = 24 := by
  rcases h.one with e | ⟨g, _, e⟩
  · rw [e]; exact formL_len _ h24
  · rw [e]; exact rf_len _ _
theorem ltL_after {a x y : List Int} (hax : a.length = x.length) (hxy : x.length = y.length) (h : ltL a x = false) (hy : ltL y x = true) : ltL a y = false := by
  rw [ltL_lex] at *
  exact lexB_ntrans hax hxy h (lexB_asym hy)
theorem Fst.start {ns : List Int} (S : List Int → Prop) (hS : ∀ l, ¬ S l) : Fst ns S (formL ns) := ⟨.inl rfl, ltL_same _, fun g _ hs => absurd hs (hS _)⟩
theorem Fst.step {ns : List Int} (h24 : ns.length = 24) {S S' : List Int → Prop} {x y : List Int} (h : Fst ns S x) (hy : ∃ g ∈ allN, y = rf ns g) (hS : ∀ l, S' l → S l ∨ l = y) : Fst ns S' (if ltL y x = true then y else x) := by
  have hx := h.len h24
  have ly : y.length = 24 := by obtain ⟨g, _, e⟩ := hy; rw [e]; exact rf_len _ _
  by_cases hl : ltL y x = true
  · rw [if_pos hl]
    refine ⟨.inr hy, ltL_after (by rw [formL_len _ h24, hx]) (by rw [hx, ly]) h.own hl, fun g hg hs => ?_⟩
    rcases hS _ hs with h1 | h1
    · exact ltL_after (by rw [rf_len, hx]) (by rw [hx, ly]) (h.all g hg h1) hl
    · rw [h1]; exact ltL_same _
  · rw [if_neg hl]
    refine ⟨h.one, h.own, fun g hg hs => ?_⟩
    rcases hS _ hs with h1 | h1
    · exact h.all g hg h1
    · rw [h1]; simpa using hl
theorem Fst.same {ns : List Int} (h24 : ns.length = 24) {S S' : List Int → Prop} {x y : List Int} (h : Fst ns S x) (k : Fst ns S' y) (hS : ∀ g ∈ allN, S (rf ns g)) (hS' : ∀ g ∈ allN, S' (rf ns g)) : x = y := by
  have hx := h.len h24
  have hy := k.len h24
  have h1 : ltL y x = false := by
    rcases k.one with e | ⟨g, hg, e⟩
    · rw [e]; exact h.own
    · rw [e]; exact h.all g hg (hS g hg)
  have h2 : ltL x y = false := by
    rcases h.one with e | ⟨g, hg, e⟩
    · rw [e]; exact k.own
    · rw [e]; exact k.all g hg (hS' g hg)
  rw [ltL_lex] at h1 h2
  exact lexB_tot x y (by rw [hx, hy]) h2 h1
theorem firstUp_fst {ns : List Int} (h24 : ns.length = 24) : ∀ k, k ≤ 120 → Fst ns (fun l => ∃ j, j < k ∧ l = rf ns (ag j)) (firstUp ns k)
  | 0, _ => Fst.start _ (fun l ⟨j, hj, _⟩ => by omega)
  | k + 1, hk => by
    rw [firstUp]
    refine (firstUp_fst h24 k (by omega)).step h24 ⟨ag k, ag_mem (by omega), rfl⟩ (fun l ⟨j, hj, e⟩ => ?_)
    by_cases hjk : j = k
    · subst hjk; exact .inr e
    · exact .inl ⟨j, by omega, e⟩
theorem allN_at {g : List Int} (hg : g ∈ allN) : ∃ j, j < 120 ∧ g = ag j := by
  obtain ⟨j, hj, e⟩ := List.mem_iff_getElem.1 hg
  have hl : j < 120 := by rw [allN_len] at hj; exact hj
  refine ⟨j, hl, ?_⟩
  have := ag_some hl
  rw [List.getElem?_eq_getElem hj, e] at this
  exact Option.some.inj this
theorem fst_is {ns : List Int} (h24 : ns.length = 24) {S : List Int → Prop} {x : List Int} (h : Fst ns S x) (hS : ∀ g ∈ allN, S (rf ns g)) : x = firstUp ns 120 :=
  h.same h24 (firstUp_fst h24 120 (Nat.le_refl _)) hS (fun g hg => by
    obtain ⟨j, hj, e⟩ := allN_at hg
    exact ⟨j, hj, by rw [e]⟩)
def firstR (ns : List Int) : List Int := if vR ns = true then firstUp ns 120 else z24
theorem firstR_len {ns : List Int} (h : ns.length = 24) : (firstR ns).length = 24 := by
  unfold firstR
  split
  · exact firstUp_len h 120
  · rfl
end Go.Proofs.Ytlleenepinijdaa.base
