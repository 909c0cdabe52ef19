/-
  Arguments that are sources, and slices of sources, opened.
-/
import Derived.Test.YthnkfdhnbafcjaaRackArg
namespace Go.Proofs.Ythnkfdhnbafcjaa.base
open Go.ChangeShapes Go.WideShapes Go.ChangeAt Go.RowKit Go.Deep
set_option linter.unusedVariables false
set_option linter.unusedSimpArgs false

/-- What the walk is told of a slice of sources that came in: its numbers, flat. -/
def IsTris (w : World) (a : Option Addr) (len : Nat) (zs : List Int) : Prop :=
  len ≤ maxLen ∧ zs.length = len * 3 ∧ (∀ n ∈ zs, (Lit.int .i64 n).wf = true) ∧ (len = 0 ∨ ∃ b off : Nat, a = some ⟨b, off, none⟩ ∧ b < w.heap.size ∧ ∀ j, j < len * 3 → w.cell? ⟨b, off + j, none⟩ = some (.int .i64 (zs.getD j 0)))

theorem IsTris.below {w w' : World} {a : Option Addr} {len : Nat} {zs : List Int} (h : IsTris w a len zs) (hb : Below w.heap.size w w') : IsTris w' a len zs := by
  obtain ⟨h1, h2, h3, h4 | ⟨b, off, h4, h5, h6⟩⟩ := h
  · exact ⟨h1, h2, h3, .inl h4⟩
  · exact ⟨h1, h2, h3, .inr ⟨b, off, h4, Nat.lt_of_lt_of_le h5 hb.size, fun j hj => (hb.cell (p := ⟨b, off + j, none⟩) h5).trans (h6 j hj)⟩⟩

def numAt3 (w : World) (ad : Addr) (j : Nat) : Int := match w.cell? (ad.add j) with
  | some (.int _ z) => z
  | _ => 0

section
variable {H : Type} {enc : TypeId × Value → H} {P : Program} {w : World} {b0 : Nat} {spare : Nat → Bool} {held : Bool}

theorem trod_src {t i : TypeId} {f0 f1 f2 : Field} {fuel : Nat} {cs : List Value} {x : DataW H × List MemPlace} (ht : P.underlying t = some (.struct #[f0, f1, f2])) (t0 : f0.type = i) (t1 : f1.type = i) (t2 : f2.type = i) (o0 : f0.offset = 0) (o1 : f1.offset = 1) (o2 : f2.offset = 2) (hi : P.underlying i = some (.int .i64)) (hci : P.cellsOf i = 1) (hct : P.cellsOf t = 3)
    (h : DataW.trod enc P w b0 spare held fuel t cs = some x) : AllInt .i64 cs := by
  obtain ⟨xs, q, _, _, hl, hxl, hel⟩ := DataW.trod_struct ht h
  have key : ∀ (j : Nat) (f : Field), j < 3 → (#[f0, f1, f2] : Array Field)[j]? = some f → f.type = i → f.offset = j → ∃ z : Int, cs[j]? = some (.int .i64 z) ∧ (Lit.int .i64 z).wf = true := by
    intro j f hj hf hft hfo
    have h1 := hel j f hf
    obtain ⟨y, hy⟩ : ∃ y, xs[j]? = some y := ⟨_, List.getElem?_eq_getElem (by rw [hxl]; simpa using hj)⟩
    rw [hy, hft, hfo, hci] at h1
    obtain ⟨z, hz, _, hw⟩ := DataW.trod_int hi h1
    refine ⟨z, ?_, hw⟩
    have := congrArg (fun l => l[0]?) hz
    simpa [List.getElem?_take, List.getElem?_drop] using this
  intro j hj
  have hj3 : j < 3 := by omega
  rcases (by omega : j = 0 ∨ j = 1 ∨ j = 2) with rfl | rfl | rfl
  · exact key 0 f0 (by omega) rfl t0 o0
  · exact key 1 f1 (by omega) rfl t1 o1
  · exact key 2 f2 (by omega) rfl t2 o2

theorem open_src {r : Reach} {bb : Nat} {t i : TypeId} {f0 f1 f2 : Field} {v : Value} {d : DataW H} {p : List MemPlace} (ht : P.underlying t = some (.struct #[f0, f1, f2])) (t0 : f0.type = i) (t1 : f1.type = i) (t2 : f2.type = i) (o0 : f0.offset = 0) (o1 : f1.offset = 1) (o2 : f2.offset = 2) (hi : P.underlying i = some (.int .i64)) (hci : P.cellsOf i = 1) (hct : P.cellsOf t = 3)
    (hv : Value.okWide P w r bb t v) (h : DataW.Trod enc P w b0 spare held t v d p) : ∃ ns : List Int, v = .agg (ns.map (Value.int .i64)).toArray ∧ ns.length = 3 ∧ ∀ n ∈ ns, (Lit.int .i64 n).wf = true := by
  obtain ⟨cs, rfl, hsz⟩ := okWide_struct ht hv
  obtain ⟨fuel, hf⟩ := h
  have hcl : (Value.agg cs).cells.toList = cs.toList := rfl
  rw [hcl] at hf
  have hA := trod_src ht t0 t1 t2 o0 o1 o2 hi hci hct hf
  obtain ⟨ns, e1, e2, e3⟩ := allInt_map hA
  have : cs.toList.length = cs.size := rfl
  exact ⟨ns, by rw [← e1], by omega, e3⟩

theorem open_tris {t e i : TypeId} {fuel : Nat} {a : Option Addr} {len cap : Nat} {x : DataW H × List MemPlace} (ht : P.underlying t = some (.slice e)) {f0 f1 f2 : Field} (he : P.underlying e = some (.struct #[f0, f1, f2])) (t0 : f0.type = i) (t1 : f1.type = i) (t2 : f2.type = i) (o0 : f0.offset = 0) (o1 : f1.offset = 1) (o2 : f2.offset = 2) (hi : P.underlying i = some (.int .i64)) (hci : P.cellsOf i = 1) (hce : P.cellsOf e = 3)
    (h : DataW.trod enc P w b0 spare held fuel t [.slice a len cap] = some x) : ∃ zs, IsTris w a len zs := by
  rcases DataW.trod_slice ht h with ⟨h0, _⟩ | ⟨ad, len', cap', elems, rest, n, _, h0, _, hb, hl, hm, hlen, hel, _, _⟩
  · simp only [List.cons.injEq, Value.slice.injEq, and_true] at h0
    obtain ⟨rfl, rfl, rfl⟩ := h0
    exact ⟨[], Nat.zero_le _, rfl, by simp, .inl rfl⟩
  · simp only [List.cons.injEq, Value.slice.injEq, and_true] at h0
    obtain ⟨rfl, rfl, rfl⟩ := h0
    have each : ∀ j, j < len * 3 → ∃ z, w.cell? (ad.add j) = some (.int .i64 z) ∧ (Lit.int .i64 z).wf = true := by
      intro j hj
      have hk : j / 3 < len := by omega
      have h1 := hel (j / 3) hk
      obtain ⟨y, hy⟩ : ∃ y, elems[j / 3]? = some y := ⟨_, List.getElem?_eq_getElem (by omega)⟩
      rw [hy, hce, Option.bind_eq_some_iff] at h1
      obtain ⟨cs', hcs, hy'⟩ := h1
      have hA := trod_src he t0 t1 t2 o0 o1 o2 hi hci hce hy'
      obtain ⟨_, hl2, hc2⟩ := World.cells?_some hcs
      obtain ⟨z, hz, hw⟩ := hA (j % 3) (by omega)
      refine ⟨z, ?_, hw⟩
      have := hc2 (j % 3) (by omega)
      rw [add_add, Nat.div_add_mod'] at this
      rw [this, hz]
    have num : ∀ j, j < len * 3 → w.cell? (ad.add j) = some (.int .i64 (numAt3 w ad j)) ∧ (Lit.int .i64 (numAt3 w ad j)).wf = true := by
      intro j hj
      obtain ⟨z, h1, h2⟩ := each j hj
      have e : numAt3 w ad j = z := by unfold numAt3; rw [h1]
      rw [e]; exact ⟨h1, h2⟩
    refine ⟨(List.range (len * 3)).map (numAt3 w ad), by omega, by simp, fun z hz => ?_, ?_⟩
    · obtain ⟨j, hj, rfl⟩ := List.mem_map.1 hz
      exact (num j (List.mem_range.1 hj)).2
    · by_cases h0 : len = 0
      · exact .inl h0
      · obtain ⟨b, off, spot⟩ := ad
        have hc := (num 0 (by omega)).1
        have hspot : spot = none := by simpa [Addr.add] using World.cell?_spot hc
        subst hspot
        have hc0 : w.cell? ⟨b, off, none⟩ = some (.int .i64 (numAt3 w ⟨b, off, none⟩ 0)) := by simpa [Addr.add] using hc
        refine .inr ⟨b, off, rfl, World.block_lt_of_cell? _ _ hc0, fun j hj => ?_⟩
        have := (num j hj).1
        have hadd : (⟨b, off, none⟩ : Addr).add j = ⟨b, off + j, none⟩ := by unfold Addr.add; split <;> simp_all
        rw [hadd] at this
        rw [this, List.getD_eq_getElem?_getD, List.getElem?_map, List.getElem?_range hj]; rfl
end
end Go.Proofs.Ythnkfdhnbafcjaa.base
