/-
  An argument that is a rack, opened: a value of 24 numbers, each in its range.
-/
import Derived.Test.YtpbfdjiglacbbabProg
import Derived.WalkKit
import Derived.ProofKit
import Derived.OpenShut
import Derived.ChangeOld
import Derived.Deep.Slices
import Derived.Deep.Fields
namespace Go.Proofs.Ytpbfdjiglacbbab.base
open Go.ChangeShapes Go.WideShapes Go.ChangeAt Go.RowKit Go.Deep
set_option linter.unusedVariables false
set_option linter.unusedSimpArgs false

section
variable {H : Type} {enc : TypeId × Value → H} {P : Program} {w : World} {b0 : Nat} {spare : Nat → Bool} {held : Bool}

def AllInt (k : IntKind) (cs : List Value) : Prop := ∀ j, j < cs.length → ∃ z : Int, cs[j]? = some (.int k z) ∧ (Lit.int k z).wf = true

theorem allInt_map {k : IntKind} {cs : List Value} (h : AllInt k cs) : ∃ ns : List Int, cs = ns.map (.int k) ∧ ns.length = cs.length ∧ ∀ n ∈ ns, (Lit.int k n).wf = true := by
  induction cs with
  | nil => exact ⟨[], rfl, rfl, by simp⟩
  | cons v r ih =>
    obtain ⟨z, hz, hw⟩ := h 0 (by simp)
    obtain ⟨ns, e, hl, hn⟩ := ih (fun j hj => h (j + 1) (by simp; omega))
    simp at hz
    refine ⟨z :: ns, by rw [hz, e]; rfl, by simp [hl], fun n hm => ?_⟩
    rcases List.mem_cons.1 hm with rfl | hm
    · exact hw
    · exact hn n hm

theorem trod_ints {t e : TypeId} {n fuel : Nat} {k : IntKind} {cs : List Value} {x : DataW H × List MemPlace} (ht : P.underlying t = some (.array n e)) (he : P.underlying e = some (.int k)) (hce : P.cellsOf e = 1) (hct : P.cellsOf t = n)
    (h : DataW.trod enc P w b0 spare held fuel t cs = some x) : AllInt k cs := by
  obtain ⟨xs, m, _, _, hl, hxl, hi⟩ := DataW.trod_array ht h
  intro j hj
  have hjn : j < n := by omega
  have h1 := hi j hjn
  rw [hce, Nat.mul_one] at h1
  obtain ⟨y, hy⟩ : ∃ y, xs[j]? = some y := ⟨_, List.getElem?_eq_getElem (by omega)⟩
  rw [hy] at h1
  obtain ⟨z, hz, _, hw⟩ := DataW.trod_int he h1
  refine ⟨z, ?_, hw⟩
  have := congrArg (fun l => l[0]?) hz
  simpa [List.getElem?_take, List.getElem?_drop] using this

theorem trod_rows {t a e : TypeId} {m n fuel : Nat} {k : IntKind} {cs : List Value} {x : DataW H × List MemPlace} (ht : P.underlying t = some (.array m a)) (ha : P.underlying a = some (.array n e)) (he : P.underlying e = some (.int k)) (hce : P.cellsOf e = 1) (hca : P.cellsOf a = n) (hct : P.cellsOf t = m * n) (hn : 0 < n)
    (h : DataW.trod enc P w b0 spare held fuel t cs = some x) : AllInt k cs := by
  obtain ⟨xs, q, _, _, hl, hxl, hi⟩ := DataW.trod_array ht h
  intro j hj
  have hjn : j / n < m := Nat.div_lt_of_lt_mul (by rw [Nat.mul_comm]; omega)
  have hr : j % n < n := Nat.mod_lt _ hn
  have h1 := hi (j / n) hjn
  rw [hca] at h1
  obtain ⟨y, hy⟩ : ∃ y, xs[j / n]? = some y := ⟨_, List.getElem?_eq_getElem (by omega)⟩
  rw [hy] at h1
  have hA := trod_ints ha he hce hca h1
  obtain ⟨_, _, _, _, hl2, _, _⟩ := DataW.trod_array ha h1
  obtain ⟨z, hz, hw⟩ := hA (j % n) (by rw [hl2, hca]; exact hr)
  refine ⟨z, ?_, hw⟩
  rw [List.getElem?_take, if_pos hr, List.getElem?_drop, Nat.div_add_mod'] at hz
  exact hz

theorem open_rack {r : Reach} {bb : Nat} {t : TypeId} {a c e : TypeId} {f : Field} {v : Value} {d : DataW H} {p : List MemPlace} (hs : P.underlying t = some (.struct #[f])) (hft : f.type = a) (hf0 : f.offset = 0) (ha : P.underlying a = some (.array 6 c)) (hc : P.underlying c = some (.array 4 e)) (he : P.underlying e = some (.int .i64)) (hce : P.cellsOf e = 1) (hcc : P.cellsOf c = 4) (hca : P.cellsOf a = 24) (hct : P.cellsOf t = 24)
    (hv : Value.okWide P w r bb t v) (h : DataW.Trod enc P w b0 spare held t v d p) : ∃ ns : List Int, v = .agg (ns.map (Value.int .i64)).toArray ∧ ns.length = 24 ∧ ∀ n ∈ ns, (Lit.int .i64 n).wf = true := by
  obtain ⟨cs, rfl, hsz⟩ := okWide_struct hs hv
  obtain ⟨fuel, hf⟩ := h
  obtain ⟨xs, q, _, _, hl, hxl, hi⟩ := DataW.trod_struct hs hf
  have h1 := hi 0 f rfl
  obtain ⟨y, hy⟩ : ∃ y, xs[0]? = some y := ⟨_, List.getElem?_eq_getElem (by rw [hxl]; simp)⟩
  rw [hy, hft, hf0, hca, List.drop_zero] at h1
  have hcl : (Value.agg cs).cells.toList = cs.toList := rfl
  rw [hcl] at h1 hl
  rw [List.take_of_length_le (by omega)] at h1
  have hA := trod_rows ha hc he hce hcc (by rw [hca]) (by decide) h1
  obtain ⟨ns, e1, e2, e3⟩ := allInt_map hA
  exact ⟨ns, by rw [← e1], by omega, e3⟩
theorem okWide_array {r : Reach} {bb n : Nat} {t e : TypeId} {v : Value} (ht : P.underlying t = some (.array n e)) (h : Value.okWide P w r bb t v) : ∃ cs, v = .agg cs ∧ cs.size = P.cellsOf t := by
  simp only [Value.okWide, ht] at h
  obtain ⟨cs, h1, h2, _⟩ := h
  exact ⟨cs, h1, h2⟩

theorem open_row {r : Reach} {bb n : Nat} {t e : TypeId} {v : Value} {d : DataW H} {p : List MemPlace} (ht : P.underlying t = some (.array n e)) (he : P.underlying e = some (.int .i64)) (hce : P.cellsOf e = 1) (hct : P.cellsOf t = n)
    (hv : Value.okWide P w r bb t v) (h : DataW.Trod enc P w b0 spare held t v d p) : ∃ ns : List Int, v = .agg (ns.map (Value.int .i64)).toArray ∧ ns.length = n ∧ ∀ n ∈ ns, (Lit.int .i64 n).wf = true := by
  obtain ⟨cs, rfl, hsz⟩ := okWide_array ht hv
  obtain ⟨fuel, hf⟩ := h
  have hA := trod_ints (cs := cs.toList) ht he hce hct hf
  obtain ⟨ns, e1, e2, e3⟩ := allInt_map hA
  have : cs.toList.length = cs.size := rfl
  exact ⟨ns, by rw [← e1], by omega, e3⟩
end
end Go.Proofs.Ytpbfdjiglacbbab.base
