/-
  An argument that is a view, opened: a value of 18 numbers, each in its range.
-/
import Derived.Test.YtemiljokdedidacRackArg
namespace Go.Proofs.Ytemiljokdedidac.base
open Go.ChangeShapes Go.WideShapes Go.ChangeAt Go.RowKit Go.Deep
set_option linter.unusedVariables false
set_option linter.unusedSimpArgs false
section
variable {H : Type} {enc : TypeId × Value → H} {P : Program} {w : World} {b0 : Nat} {spare : Nat → Bool} {held : Bool}
theorem allInt_at {k : IntKind} {cs : List Value} {o n : Nat} (h : AllInt k ((cs.drop o).take n)) (ho : o + n ≤ cs.length) (j : Nat) (h1 : o ≤ j) (h2 : j < o + n) : ∃ z : Int, cs[j]? = some (.int k z) ∧ (Lit.int k z).wf = true := by
  obtain ⟨z, hz, hw⟩ := h (j - o) (by rw [List.length_take, List.length_drop]; omega)
  refine ⟨z, ?_, hw⟩
  rw [List.getElem?_take, if_pos (by omega), List.getElem?_drop, show o + (j - o) = j by omega] at hz
  exact hz
theorem open_view {r : Reach} {bb : Nat} {t a e : TypeId} {f1 f2 f3 : Field} {v : Value} {d : DataW H} {p : List MemPlace} (hs : P.underlying t = some (.struct #[f1, f2, f3])) (t1 : f1.type = a) (o1 : f1.offset = 0) (t2 : f2.type = a) (o2 : f2.offset = 6) (t3 : f3.type = a) (o3 : f3.offset = 12)
    (ha : P.underlying a = some (.array 6 e)) (he : P.underlying e = some (.int .i64)) (hce : P.cellsOf e = 1) (hca : P.cellsOf a = 6) (hct : P.cellsOf t = 18)
    (hv : Value.okWide P w r bb t v) (h : DataW.Trod enc P w b0 spare held t v d p) : ∃ ns : List Int, v = .agg (ns.map (Value.int .i64)).toArray ∧ ns.length = 18 ∧ ∀ n ∈ ns, (Lit.int .i64 n).wf = true := by
  obtain ⟨cs, rfl, hsz⟩ := okWide_struct hs hv
  obtain ⟨fuel, hf⟩ := h
  obtain ⟨xs, q, _, _, hl, hxl, hi⟩ := DataW.trod_struct hs hf
  have hcl : (Value.agg cs).cells.toList = cs.toList := rfl
  rw [hcl] at hi hl
  have hlen : cs.toList.length = 18 := by omega
  have get : ∀ k : Nat, k < 3 → ∃ y, xs[k]? = some y := fun k hk => ⟨_, List.getElem?_eq_getElem (by rw [hxl]; simpa using hk)⟩
  have part : ∀ (k : Nat) (f : Field) (o : Nat), k < 3 → #[f1, f2, f3][k]? = some f → f.type = a → f.offset = o → AllInt .i64 ((cs.toList.drop o).take 6) := by
    intro k f o hk hfk hft hfo
    have h1 := hi k f hfk
    obtain ⟨y, hy⟩ := get k hk
    rw [hy, hft, hfo, hca] at h1
    exact trod_ints ha he hce hca h1
  have p1 := part 0 f1 0 (by omega) rfl t1 o1
  have p2 := part 1 f2 6 (by omega) rfl t2 o2
  have p3 := part 2 f3 12 (by omega) rfl t3 o3
  have hA : AllInt .i64 cs.toList := by
    intro j hj
    by_cases h6 : j < 6
    · exact allInt_at p1 (by omega) j (by omega) (by omega)
    · by_cases h12 : j < 12
      · exact allInt_at p2 (by omega) j (by omega) (by omega)
      · exact allInt_at p3 (by omega) j (by omega) (by omega)
  obtain ⟨ns, e1, e2, e3⟩ := allInt_map hA
  exact ⟨ns, by rw [← e1], by omega, e3⟩
end
end Go.Proofs.Ytemiljokdedidac.base
