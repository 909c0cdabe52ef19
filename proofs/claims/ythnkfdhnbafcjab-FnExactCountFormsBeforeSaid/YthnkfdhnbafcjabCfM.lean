/-
  The forms of the racks before a rack: mathematics.
-/
import Derived.Test.YthnkfdhnbafcjabGdnM
import Derived.Test.YthnkfdhnbafcjabForm
import Derived.Test.YthnkfdhnbafcjabMapV
namespace Go.Proofs.Ythnkfdhnbafcjab.base
open Go.ChangeShapes Go.WideShapes Go.ChangeAt Go.RowKit
set_option linter.unusedVariables false
set_option linter.unusedSimpArgs false

theorem form_valid {ns : List Int} (h24 : ns.length = 24) (hv : vR ns = true) : vR (formL ns) = true := by
  have ht : ∀ t ∈ tubs ns, vT t = true := fun t ht => by
    simp only [tubs, List.mem_cons, List.not_mem_nil, or_false] at ht
    rcases ht with rfl | rfl | rfl | rfl | rfl | rfl
    · exact vR_tub hv 0 (by omega)
    · exact vR_tub hv 1 (by omega)
    · exact vR_tub hv 2 (by omega)
    · exact vR_tub hv 3 (by omega)
    · exact vR_tub hv 4 (by omega)
    · exact vR_tub hv 5 (by omega)
  refine vR_of (fun i hi => ?_)
  have hm : tub (formL ns) i ∈ tubs (formL ns) := by
    match i, hi with
    | 0, _ => simp [tubs]
    | 1, _ => simp [tubs]
    | 2, _ => simp [tubs]
    | 3, _ => simp [tubs]
    | 4, _ => simp [tubs]
    | 5, _ => simp [tubs]
  rw [formL_tubs ns h24] at hm
  exact ht _ ((isort_perm _).mem_iff.1 hm)
theorem wf_lit {z : Int} (h0 : 0 ≤ z) (h5 : z ≤ 5) : (Lit.int .i64 z).wf = true := by
  simp only [Lit.wf, IntKind.min, IntKind.max, IntKind.signed, IntKind.bits, Bool.and_eq_true, decide_eq_true_eq, if_true]
  omega
theorem rack_row {ns : List Int} (h24 : ns.length = 24) (hv : vR ns = true) : KeyRow 24 ns := by
  refine ⟨h24, fun z hz => ?_⟩
  obtain ⟨j, hj, e⟩ := List.mem_iff_getElem.1 hz
  have hp : j / 4 < 6 := by omega
  have h4 := tub_len ns (j / 4) h24 hp
  have hk := (known_iff h4).1 (by have := vR_tub hv (j / 4) hp; unfold vT at this; exact (Bool.and_eq_true_iff.1 this).1) (j % 4) (by omega)
  rw [tub_getD ns _ _ (by omega), Nat.div_add_mod', List.getD_eq_getElem?_getD, List.getElem?_eq_getElem hj, Option.getD_some, e] at hk
  exact wf_lit hk.1 hk.2
theorem formLaw : WideMaps.KeyLaw Try.prog 75 := deep_law_laid (by kernel_rfl) (m := 3) (by omega) (of_decide_eq_true (by kernel_rfl)) (by kernel_rfl) (by rw [Try.underlying75])
theorem formKeyed : Go.Maps.Keyed Try.prog 75 := Go.Maps.Keyed.of_law formLaw
theorem form_key {ns : List Int} (h : KeyRow 24 ns) : keyOf Try.prog 75 (.agg (ints ns).toArray) = some (keyL ns) :=
  keyOf_rack Try.underlying75 Try.underlying22 Try.underlying3 (by kernel_rfl) (by kernel_rfl) (by kernel_rfl) (by kernel_rfl) (of_decide_eq_true (by kernel_rfl)) ns h.len h.wf

theorem zeroBool (u : World) : (zeroValue 4).run Try.prog u = .ok (.bool false) u := by kernel_rfl
/-- Which forms have been seen. -/
def seenF (fs : List (List Int)) : List Int → Option Value := fun l => if l ∈ fs then some (.bool true) else none
theorem seenF_get (fs : List (List Int)) (l : List Int) : (seenF fs l).getD (.bool false) = .bool (decide (l ∈ fs)) := by
  unfold seenF
  by_cases h : l ∈ fs
  · rw [if_pos h, decide_eq_true h]; rfl
  · rw [if_neg h, decide_eq_false h]; rfl

/-- A rack that is there stays where it is. -/
theorem rkIns_old {r : List Int} : ∀ {l : List (List Int)}, r ∈ l → l.Pairwise (fun a b => lexB a b = true) → rkIns r l = l
  | [], h, _ => absurd h List.not_mem_nil
  | y :: l, h, hp => by
    rw [List.pairwise_cons] at hp
    rw [rkIns]
    rcases List.mem_cons.1 h with h1 | h1
    · subst h1
      rw [if_neg (by rw [lexB_irr]; simp), if_pos rfl]
    · rw [if_pos (hp.1 r h1), rkIns_old h1 hp.2]
/-- The different forms of the first k racks before a rack, put to their places. -/
def fmK (ns : List Int) : Nat → List (List Int)
  | 0 => []
  | k + 1 => rkIns (formL ((rbA ns).getD k [])) (fmK ns k)
def cfA (ns : List Int) : Nat := (fmK ns (rbA ns).length).length
theorem fmK_facts {ns : List Int} (h24 : ns.length = 24) : ∀ k, k ≤ (rbA ns).length → (∀ x ∈ fmK ns k, x.length = 24) ∧ (fmK ns k).Pairwise (fun a b => lexB a b = true) ∧ (fmK ns k).length ≤ k
  | 0, _ => ⟨fun x h => by rw [fmK] at h; exact absurd h List.not_mem_nil, by rw [fmK]; exact List.Pairwise.nil, by rw [fmK]; exact Nat.le_refl _⟩
  | k + 1, hk => by
    obtain ⟨h1, h2, h3⟩ := fmK_facts h24 k (by omega)
    have hr := formL_len _ (rbA_item h24 (k := k) (by omega))
    have h4 := rkIns_le (formL ((rbA ns).getD k [])) (fmK ns k)
    rw [fmK]
    refine ⟨rkIns_len hr h1, ?_, by omega⟩
    by_cases h : formL ((rbA ns).getD k []) ∈ fmK ns k
    · rw [rkIns_old h h2]; exact h2
    · exact (rkIns_new hr h1 h h2).1
theorem fmK_step {ns : List Int} (h24 : ns.length = 24) {k : Nat} (hk : k < (rbA ns).length) :
    (if (seenF (fmK ns k) (formL ((rbA ns).getD k []))).isSome then (fmK ns k).length else (fmK ns k).length + 1) = (fmK ns (k + 1)).length ∧
    ∀ l, mapPut (seenF (fmK ns k)) (formL ((rbA ns).getD k [])) (.bool true) l = seenF (fmK ns (k + 1)) l := by
  obtain ⟨h1, h2, _⟩ := fmK_facts h24 k (by omega)
  have hr := formL_len _ (rbA_item h24 hk)
  rw [fmK]
  generalize formL ((rbA ns).getD k []) = r at *
  by_cases h : r ∈ fmK ns k
  · rw [rkIns_old h h2]
    refine ⟨by unfold seenF; rw [if_pos h]; rfl, fun l => ?_⟩
    unfold mapPut
    by_cases e : l = r
    · rw [if_pos e, e]; unfold seenF; rw [if_pos h]
    · rw [if_neg e]
  · obtain ⟨_, h4⟩ := rkIns_new hr h1 h h2
    have h5 := h4.length_eq
    rw [List.length_cons] at h5
    refine ⟨by unfold seenF; rw [if_neg h]; exact h5.symm, fun l => ?_⟩
    unfold mapPut
    by_cases e : l = r
    · rw [if_pos e, e]; unfold seenF; rw [if_pos (h4.mem_iff.2 (List.mem_cons_self ..))]
    · rw [if_neg e]
      unfold seenF
      by_cases hl : l ∈ fmK ns k
      · rw [if_pos hl, if_pos (h4.mem_iff.2 (List.mem_cons_of_mem _ hl))]
      · rw [if_neg hl, if_neg (fun hc => (List.mem_cons.1 (h4.mem_iff.1 hc)).elim e hl)]
theorem fm_row {ns : List Int} (h24 : ns.length = 24) {k : Nat} (hk : k < (rbA ns).length) : KeyRow 24 (formL ((rbA ns).getD k [])) :=
  rack_row (formL_len _ (rbA_item h24 hk)) (form_valid (rbA_item h24 hk) (rbA_valid h24 hk))
theorem cfA_le {ns : List Int} (h24 : ns.length = 24) : cfA ns ≤ 144 := Nat.le_trans (fmK_facts h24 _ (Nat.le_refl _)).2.2 (rbA_le h24)
theorem cfA_no {ns : List Int} (hv : ¬ vR ns = true) : cfA ns = 0 := by unfold cfA; rw [rbA_no hv]; rfl
def CfPost (ns : List Int) (w : World) (e : Ending) (w' : World) : Prop := e = .returned (.tuple #[.int .i64 (cfA ns : Nat), .bool (vR ns)]) ∧ Kept w w'
end Go.Proofs.Ythnkfdhnbafcjab.base
