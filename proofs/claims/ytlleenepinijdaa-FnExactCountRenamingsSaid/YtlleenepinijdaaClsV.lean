/-
  A rack's class as a map: the first renaming to each form; plain mathematics, and keys.
-/
import Derived.Test.YtlleenepinijdaaClsM
import Derived.Test.YtlleenepinijdaaMapV
import Derived.Test.YtlleenepinijdaaTubeW3
namespace Go.Proofs.Ytlleenepinijdaa.base
open Go.ChangeShapes Go.WideShapes Go.ChangeAt Go.RowKit
set_option linter.unusedVariables false
set_option linter.unusedSimpArgs false

def rf (ns g : List Int) : List Int := formL (renR ns g)
/-- The first of the first k renamings that leads to a form. -/
def clsF (ns : List Int) (k : Nat) (f : List Int) : Option (List Int) := (allN.take k).find? (fun g => decide (rf ns g = f))
def clsV (ns : List Int) (k : Nat) : List Int → Option Value := fun f => (clsF ns k f).map (fun g => .agg (ints g).toArray)
def ag (k : Nat) : List Int := allN.getD k []
theorem ag_some {k : Nat} (h : k < 120) : allN[k]? = some (ag k) := by
  have hk : k < allN.length := by rw [allN_len]; exact h
  unfold ag
  rw [List.getD_eq_getElem?_getD, List.getElem?_eq_getElem hk]; rfl
theorem ag_mem {k : Nat} (h : k < 120) : ag k ∈ allN := List.mem_of_getElem? (ag_some h)
theorem clsF_succ (ns : List Int) {k : Nat} (h : k < 120) (f : List Int) : clsF ns (k + 1) f = match clsF ns k f with
    | some g => some g
    | none => if rf ns (ag k) = f then some (ag k) else none := by
  unfold clsF
  have hk : k < allN.length := by rw [allN_len]; exact h
  have e : allN[k] = ag k := by have := ag_some h; rw [List.getElem?_eq_getElem hk] at this; exact Option.some.inj this
  rw [List.take_succ_eq_append_getElem hk, List.find?_append, e]
  cases hf : (allN.take k).find? (fun g => decide (rf ns g = f)) with
  | some g => rfl
  | none =>
    by_cases h2 : rf ns (ag k) = f
    · simp [h2]
    · simp [h2]
theorem clsV_same (ns : List Int) {k : Nat} (h : k < 120) {g : List Int} (hs : clsF ns k (rf ns (ag k)) = some g) (f : List Int) : clsV ns (k + 1) f = clsV ns k f := by
  unfold clsV
  rw [clsF_succ ns h]
  cases hf : clsF ns k f with
  | some g => rfl
  | none =>
    by_cases h2 : rf ns (ag k) = f
    · rw [h2, hf] at hs; cases hs
    · simp only [if_neg h2]
theorem clsV_put (ns : List Int) {k : Nat} (h : k < 120) (hs : clsF ns k (rf ns (ag k)) = none) (f : List Int) : mapPut (clsV ns k) (rf ns (ag k)) (.agg (ints (ag k)).toArray) f = clsV ns (k + 1) f := by
  have hs2 := clsF_succ ns h f
  unfold mapPut clsV
  rw [hs2]
  clear hs2
  generalize rf ns (ag k) = y at *
  generalize ag k = g at *
  by_cases h2 : f = y
  · subst h2
    rw [if_pos (Eq.refl f), hs]
    show _ = Option.map _ (if f = f then some g else none)
    rw [if_pos (Eq.refl f)]; rfl
  · rw [if_neg h2]
    cases hf : clsF ns k f with
    | some g => rfl
    | none => simp only [if_neg (fun e : y = f => h2 e.symm)]
/-- How many forms the first k lead to. -/
def clsN (ns : List Int) (k : Nat) : Nat := (firsts (renForms ns) k).length
theorem renForms_at (ns : List Int) {k : Nat} (h : k < 120) : (renForms ns)[k]? = some (rf ns (ag k)) := by
  unfold renForms
  rw [List.getElem?_map, ag_some h]; rfl
theorem clsF_firsts (ns : List Int) {k : Nat} (h : k ≤ 120) (f : List Int) : f ∈ firsts (renForms ns) k ↔ (clsF ns k f).isSome = true := by
  have hl : (renForms ns).length = 120 := by unfold renForms; rw [List.length_map, allN_len]
  rw [firsts_mem _ k (by omega)]
  unfold renForms clsF
  rw [← List.map_take, List.mem_map, List.find?_isSome]
  constructor
  · rintro ⟨g, hg, e⟩; exact ⟨g, hg, decide_eq_true e⟩
  · rintro ⟨g, hg, e⟩; exact ⟨g, hg, of_decide_eq_true e⟩
theorem clsN_same (ns : List Int) {k : Nat} (h : k < 120) {g : List Int} (hs : clsF ns k (rf ns (ag k)) = some g) : clsN ns (k + 1) = clsN ns k := by
  unfold clsN
  rw [firsts_succ (renForms_at ns h), if_pos ((clsF_firsts ns (by omega) _).2 (by rw [hs]; rfl))]
theorem clsN_new (ns : List Int) {k : Nat} (h : k < 120) (hs : clsF ns k (rf ns (ag k)) = none) : clsN ns (k + 1) = clsN ns k + 1 := by
  unfold clsN
  rw [firsts_succ (renForms_at ns h), if_neg (fun hm => by have := (clsF_firsts ns (by omega) _).1 hm; rw [hs] at this; cases this)]
  simp
theorem clsN_le (ns : List Int) : ∀ k, k ≤ 120 → clsN ns k ≤ k
  | 0, _ => Nat.le_refl _
  | k + 1, hk => by
    have := clsN_le ns k (by omega)
    cases hs : clsF ns k (rf ns (ag k)) with
    | some g => rw [clsN_same ns (by omega) hs]; omega
    | none => rw [clsN_new ns (by omega) hs]; omega

/-! keys -/
theorem mem_tubs_flat {ns : List Int} (h : ns.length = 24) (z : Int) : z ∈ ns ↔ ∃ t ∈ tubs ns, z ∈ t := by
  have e := flat_tubs ns h
  constructor
  · intro hz
    rw [← e, List.mem_flatten] at hz
    exact hz
  · intro hz
    rw [← e, List.mem_flatten]; exact hz
theorem mem_form {ns : List Int} (h : ns.length = 24) (z : Int) : z ∈ formL ns ↔ z ∈ ns := by
  rw [mem_tubs_flat h, mem_tubs_flat (formL_len ns h), formL_tubs ns h]
  constructor
  · rintro ⟨t, ht, hz⟩; exact ⟨t, (isort_perm _).mem_iff.1 ht, hz⟩
  · rintro ⟨t, ht, hz⟩; exact ⟨t, (isort_perm _).mem_iff.2 ht, hz⟩
theorem wf_col {z : Int} (h0 : 0 ≤ z) (h5 : z ≤ 5) : (Lit.int .i64 z).wf = true := by
  simp only [Lit.wf, IntKind.min, IntKind.max, IntKind.signed, IntKind.bits, Bool.and_eq_true, decide_eq_true_eq, if_true]
  omega
theorem layers_col {ns : List Int} (h24 : ns.length = 24) (hv : vR ns = true) : ∀ z ∈ ns, 0 ≤ z ∧ z ≤ 5 := by
  intro z hz
  obtain ⟨j, hj, e⟩ := List.mem_iff_getElem.1 hz
  have hp : j / 4 < 6 := by omega
  have h4 := tub_len ns (j / 4) h24 hp
  have hk := (known_iff h4).1 (by have := vR_tub hv (j / 4) hp; unfold vT at this; exact (Bool.and_eq_true_iff.1 this).1) (j % 4) (by omega)
  rw [tub_getD ns _ _ (by omega), Nat.div_add_mod', List.getD_eq_getElem?_getD, List.getElem?_eq_getElem hj, Option.getD_some, e] at hk
  exact hk
theorem cols_of {ns : List Int} (h24 : ns.length = 24) (hv : vR ns = true) : Cols ns := fun t ht c hc => layers_col h24 hv c ((mem_tubs_flat h24 c).2 ⟨t, ht, hc⟩)
theorem renR_col {ns g : List Int} (h24 : ns.length = 24) (hv : vR ns = true) (hg : g ∈ allN) : ∀ z ∈ renR ns g, 0 ≤ z ∧ z ≤ 5 := by
  intro z hz
  rw [renR_map h24, List.mem_map] at hz
  obtain ⟨c, hc, rfl⟩ := hz
  have hcol := layers_col h24 hv c hc
  obtain ⟨na, la⟩ := allN_names hg
  obtain ⟨_, ar, _⟩ := (names_iff la).1 na
  unfold colR
  exact ar _ (by omega)
theorem form_row {ns : List Int} (h24 : ns.length = 24) (h : ∀ z ∈ ns, 0 ≤ z ∧ z ≤ 5) : KeyRow 24 (formL ns) :=
  ⟨formL_len ns h24, fun z hz => by
    have := h z ((mem_form h24 z).1 hz)
    exact wf_col this.1 this.2⟩
theorem rf_row {ns g : List Int} (h24 : ns.length = 24) (hv : vR ns = true) (hg : g ∈ allN) : KeyRow 24 (rf ns g) := form_row (renR_len ns g) (renR_col h24 hv hg)
theorem formLawC : WideMaps.KeyLaw Try.prog 49 := deep_law_laid (by kernel_rfl) (m := 3) (by omega) (of_decide_eq_true (by kernel_rfl)) (by kernel_rfl) (by rw [Try.underlying49])
theorem formKeyedC : Go.Maps.Keyed Try.prog 49 := Go.Maps.Keyed.of_law formLawC
theorem form_keyC {ns : List Int} (h : KeyRow 24 ns) : keyOf Try.prog 49 (.agg (ints ns).toArray) = some (keyL ns) :=
  keyOf_rack Try.underlying49 Try.underlying22 Try.underlying3 (by kernel_rfl) (by kernel_rfl) (by kernel_rfl) (by kernel_rfl) (of_decide_eq_true (by kernel_rfl)) ns h.len h.wf

/-- The first renaming that takes a, with some order behind it, to b. -/
def rnTo (a b : List Int) : Option (List Int) := clsF a 120 (formL b)
theorem rnTo_len {a b g : List Int} (h : rnTo a b = some g) : g.length = 6 := by
  unfold rnTo clsF at h
  have := List.mem_of_find?_eq_some h
  exact (allN_names (List.mem_of_mem_take this)).2
def rnR (a b : List Int) : List Int := if vR a = true ∧ vR b = true then (rnTo a b).getD z6x else z6x
def rnOk (a b : List Int) : Bool := decide (vR a = true ∧ vR b = true) && (rnTo a b).isSome
theorem rnR_len (a b : List Int) : (rnR a b).length = 6 := by
  unfold rnR
  split
  · cases h : rnTo a b with
    | none => rfl
    | some g => exact rnTo_len h
  · rfl
def bothV (a b : List Int) : Bool := vR a && vR b
end Go.Proofs.Ytlleenepinijdaa.base
