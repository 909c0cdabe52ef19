/-
  Forms behind pours are those of valid racks, and keys; plain mathematics.
-/
import Derived.Test.YtbnffpcgcchnaabStepM
import Derived.Test.YtbnffpcgcchnaabPMath
import Derived.Test.YtbnffpcgcchnaabMapV
namespace Go.Proofs.Ytbnffpcgcchnaab.base
open Go.ChangeShapes Go.WideShapes Go.ChangeAt Go.RowKit
set_option linter.unusedVariables false
set_option linter.unusedSimpArgs false

theorem behN_valid {ns : List Int} {x : Pr} (h24 : ns.length = 24) (hv : vR ns = true) (h : PrOk ns x) : vR (behN ns x) = true := by
  have hok : pourOk ns (x.1 : Int) (x.2 : Int) = true := by
    have := h.can; have := h.q6; have := h.ne; have := h.p6
    unfold pourOk twoOk
    rw [hv]
    simp; omega
  have := (pour_facts h24 hok).valid
  unfold pourR at this
  rw [if_pos hok] at this
  exact this
theorem form_valid {ns : List Int} (h24 : ns.length = 24) (hv : vR ns = true) : vR (formL ns) = true := by
  have ht : ∀ t ∈ tubs ns, vT t = true := fun t ht => by
    simp only [tubs, List.mem_cons, List.not_mem_nil, or_false] at ht
    rcases ht with rfl | rfl | rfl | rfl | rfl | rfl
    · exact vR_tub hv 0 (by omega)
    · exact vR_tub hv 1 (by omega)
    · exact vR_tub hv 2 (by omega)
    · exact vR_tub hv 3 (by omega)
    · exact vR_tub hv 4 (by omega)
    · exact vR_tub hv 5 (by omega)
  refine vR_of (fun i hi => ?_)
  have hm : tub (formL ns) i ∈ tubs (formL ns) := by
    match i, hi with
    | 0, _ => simp [tubs]
    | 1, _ => simp [tubs]
    | 2, _ => simp [tubs]
    | 3, _ => simp [tubs]
    | 4, _ => simp [tubs]
    | 5, _ => simp [tubs]
  rw [formL_tubs ns h24] at hm
  exact ht _ ((isort_perm _).mem_iff.1 hm)
theorem wf_lit {z : Int} (h0 : 0 ≤ z) (h5 : z ≤ 5) : (Lit.int .i64 z).wf = true := by
  simp only [Lit.wf, IntKind.min, IntKind.max, IntKind.signed, IntKind.bits, Bool.and_eq_true, decide_eq_true_eq, if_true]
  omega
theorem rack_row {ns : List Int} (h24 : ns.length = 24) (hv : vR ns = true) : KeyRow 24 ns := by
  refine ⟨h24, fun z hz => ?_⟩
  obtain ⟨j, hj, e⟩ := List.mem_iff_getElem.1 hz
  have hp : j / 4 < 6 := by omega
  have h4 := tub_len ns (j / 4) h24 hp
  have hk := (known_iff h4).1 (by have := vR_tub hv (j / 4) hp; unfold vT at this; exact (Bool.and_eq_true_iff.1 this).1) (j % 4) (by omega)
  rw [tub_getD ns _ _ (by omega), Nat.div_add_mod', List.getD_eq_getElem?_getD, List.getElem?_eq_getElem hj, Option.getD_some, e] at hk
  exact wf_lit hk.1 hk.2
theorem behForm_valid {ns : List Int} {x : Pr} (h24 : ns.length = 24) (hv : vR ns = true) (h : PrOk ns x) : vR (behForm ns x) = true := form_valid (pourT_len2 h24 hv h) (behN_valid h24 hv h)
theorem behForm_row {ns : List Int} {x : Pr} (h24 : ns.length = 24) (hv : vR ns = true) (h : PrOk ns x) : KeyRow 24 (behForm ns x) := rack_row (behForm_len h24 hv h) (behForm_valid h24 hv h)
theorem formLaw : WideMaps.KeyLaw Try.prog 75 := deep_law_laid (by kernel_rfl) (m := 3) (by omega) (of_decide_eq_true (by kernel_rfl)) (by kernel_rfl) (by rw [Try.underlying75])
theorem formKeyed : Go.Maps.Keyed Try.prog 75 := Go.Maps.Keyed.of_law formLaw
theorem form_key {ns : List Int} (h : KeyRow 24 ns) : keyOf Try.prog 75 (.agg (ints ns).toArray) = some (keyL ns) :=
  keyOf_rack Try.underlying75 Try.underlying22 Try.underlying3 (by kernel_rfl) (by kernel_rfl) (by kernel_rfl) (by kernel_rfl) (of_decide_eq_true (by kernel_rfl)) ns h.len h.wf

/-- The pours whose forms are new: what the function returns. -/
def dstP (ns : List Int) : List Pr := (dstUp ns (usL ns).length).2
def dstN (ns : List Int) : Nat := if vR ns = true then (dstP ns).length else 0
def dstFl (ns : List Int) : List Int := if vR ns = true then flatP (dstP ns) else []
theorem dstN_le (ns : List Int) : dstN ns ≤ 36 := by
  unfold dstN dstP
  split
  · have := (dst_len ns (usL ns).length (Nat.le_refl _)).2.1
    have := usL_le ns
    omega
  · omega
def DistPost (ns : List Int) (w : World) (e : Ending) (w' : World) : Prop := ∃ v : Value, e = .returned (.tuple #[v, .bool (vR ns)]) ∧ Prs w' w.heap.size v (dstN ns) (dstFl ns) ∧ Kept w w'
end Go.Proofs.Ytbnffpcgcchnaab.base
