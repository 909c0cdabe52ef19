/-
  Racks as keys of the games' maps: those that have been seen, and values.
-/
import Derived.Test.YtpbfdjiglacbbaaGmV
import Derived.Test.YtpbfdjiglacbbaaMapV
import Derived.Test.YtpbfdjiglacbbaaTubeWZ
namespace Go.Proofs.Ytpbfdjiglacbbaa.base
open Go.ChangeShapes Go.WideShapes Go.ChangeAt Go.RowKit Go.Maps
set_option linter.unusedVariables false
set_option linter.unusedSimpArgs false
theorem wf_lit8G {z : Int} (h0 : 0 ≤ z) (h5 : z ≤ 5) : (Lit.int .i64 z).wf = true := by
  simp only [Lit.wf, IntKind.min, IntKind.max, IntKind.signed, IntKind.bits, Bool.and_eq_true, decide_eq_true_eq, if_true]
  omega
theorem rack_row8G {ns : List Int} (h24 : ns.length = 24) (hv : vR ns = true) : KeyRow 24 ns := by
  refine ⟨h24, fun z hz => ?_⟩
  obtain ⟨j, hj, e⟩ := List.mem_iff_getElem.1 hz
  have hp : j / 4 < 6 := by omega
  have h4 := tub_len ns (j / 4) h24 hp
  have hk : known (tub ns (j / 4)) = true := by have := vR_tub hv (j / 4) hp; unfold vT at this; exact (Bool.and_eq_true_iff.1 this).1
  have hm : z ∈ tub ns (j / 4) := by
    have g : (tub ns (j / 4)).getD (j % 4) 0 = z := by
      rw [tub_getD ns _ _ (by omega), Nat.div_add_mod', List.getD_eq_getElem?_getD, List.getElem?_eq_getElem hj, Option.getD_some, e]
    rw [← g, List.getD_eq_getElem?_getD, List.getElem?_eq_getElem (by omega)]
    exact List.getElem_mem _
  have := of_decide_eq_true (List.all_eq_true.1 hk z hm)
  exact wf_lit8G this.1 this.2
theorem keyLits_stG {P : Program} {T t c e : TypeId} {f : Field} (hT : P.underlying T = some (.struct #[f])) (hn : (f.name != "_") = true) (ho : f.offset = 0) (hf : f.type = t) (ht : P.underlying t = some (.array 6 c)) (hc : P.underlying c = some (.array 4 e)) (he : P.underlying e = some (.int .i64)) (hce : P.cellsOf e = 1) (hcc : P.cellsOf c = 4) (hct : P.cellsOf t = 24) (hcT : P.cellsOf T = 24) (d : Nat) (ns : List Int) (hl : ns.length = 24) (hw : WfL ns) :
    P.keyLits (d + 4) T (ints ns) = some (ns.map (Lit.int .i64)) := by
  have hk := keyLits_rack ht hc he hce hcc hct d ns hl hw
  have hlen : (ints ns).length = 24 := by rw [ints_len]; exact hl
  conv => lhs; unfold Program.keyLits
  have e1 : List.take 24 (ints ns) = ints ns := List.take_of_length_le (by omega)
  simp [hT, hcT, hlen, hn, ho, hf, hct, e1, hk]
theorem keyOf_stG {P : Program} {T t c e : TypeId} {f : Field} (hT : P.underlying T = some (.struct #[f])) (hn : (f.name != "_") = true) (ho : f.offset = 0) (hf : f.type = t) (ht : P.underlying t = some (.array 6 c)) (hc : P.underlying c = some (.array 4 e)) (he : P.underlying e = some (.int .i64)) (hce : P.cellsOf e = 1) (hcc : P.cellsOf c = 4) (hct : P.cellsOf t = 24) (hcT : P.cellsOf T = 24) (hk : P.keyType T = true) (hp : 3 ≤ P.types.size) (ns : List Int) (hl : ns.length = 24) (hw : WfL ns) :
    keyOf P T (.agg (ints ns).toArray) = some (keyL ns) := by
  unfold keyOf
  have hfm : Value.formed P T (.agg (ints ns).toArray) = true := by
    unfold Value.formed; simp [hT, hcT, ints_len, hl]
  simp only [hT, hk, hfm, Bool.and_self, if_true]
  have e1 : (Value.agg (ints ns).toArray).cells.toList = ints ns := rfl
  obtain ⟨d, hd⟩ : ∃ d, P.types.size + 1 = d + 4 := ⟨P.types.size - 3, by omega⟩
  rw [e1, hd, keyLits_stG hT hn ho hf ht hc he hce hcc hct hcT d ns hl hw]; rfl
theorem rackLaw8G : WideMaps.KeyLaw Try.prog 28 := deep_law_laid (by kernel_rfl) (m := 4) (by omega) (of_decide_eq_true (by kernel_rfl)) (by kernel_rfl) (by rw [Try.underlying28])
theorem rackKeyed8G : Go.Maps.Keyed Try.prog 28 := Go.Maps.Keyed.of_law rackLaw8G
theorem rack_key8G {ns : List Int} (h : KeyRow 24 ns) : keyOf Try.prog 28 (.agg (ints ns).toArray) = some (keyL ns) :=
  keyOf_stG Try.underlying28 (by decide) rfl rfl Try.underlying23 Try.underlying22 Try.underlying3 (by kernel_rfl) (by kernel_rfl) (by kernel_rfl) (by kernel_rfl) (by kernel_rfl) (of_decide_eq_true (by kernel_rfl)) ns h.len h.wf
theorem zeroBool8G (u : World) : (zeroValue 4).run Try.prog u = .ok (.bool false) u := by kernel_rfl
def seenRG (fs : List (List Int)) : List Int → Option Value := fun l => if l ∈ fs then some (.bool true) else none
theorem seenR_getG (fs : List (List Int)) (l : List Int) : (seenRG fs l).getD (.bool false) = .bool (decide (l ∈ fs)) := by
  unfold seenRG
  by_cases h : l ∈ fs
  · rw [if_pos h, decide_eq_true h]; rfl
  · rw [if_neg h, decide_eq_false h]; rfl
theorem seenR_putG (fs : List (List Int)) (t : List Int) (h : t ∉ fs) : (if (seenRG fs t).isSome then fs.length else fs.length + 1) = (fs ++ [t]).length ∧ ∀ l, mapPut (seenRG fs) t (.bool true) l = seenRG (fs ++ [t]) l := by
  unfold seenRG
  rw [if_neg h]
  refine ⟨by simp, fun l => ?_⟩
  unfold mapPut
  by_cases e : l = t
  · subst e; rw [if_pos rfl, if_pos (List.mem_append_right _ (List.mem_singleton.2 rfl))]
  · rw [if_neg e]
    show (if l ∈ fs then some (Value.bool true) else none) = _
    by_cases h2 : l ∈ fs
    · rw [if_pos h2, if_pos (List.mem_append_left _ h2)]
    · rw [if_neg h2, if_neg]
      intro h3
      rcases List.mem_append.1 h3 with h4 | h4
      · exact h2 h4
      · exact e (List.mem_singleton.1 h4)

def valF (K : List (List Int)) (V : List Int → Int) : List Int → Option Value := fun l => if l ∈ K then some (.int .i64 (V l)) else none
theorem valF_get {K : List (List Int)} {V : List Int → Int} (h : ∀ l, l ∉ K → V l = 0) (l : List Int) : (valF K V l).getD (.int .i64 0) = .int .i64 (V l) := by
  unfold valF
  by_cases hl : l ∈ K
  · rw [if_pos hl]; rfl
  · rw [if_neg hl, h l hl]; rfl
theorem zeroIntG (u : World) : (zeroValue 3).run Try.prog u = .ok (.int .i64 0) u := by kernel_rfl
/-- The values of the first i racks, and one more. -/
theorem valF_put (pt : List Int → Nat → Int) (no : Int) (V : List Int → Int) {L : List (List Int)} (hn : L.Nodup) {i : Nat} (h : i < L.length) :
    (if (valF (L.take i) (vI pt no V L i) (L.getD i [])).isSome then (L.take i).length else (L.take i).length + 1) = (L.take (i + 1)).length ∧
    ∀ l, mapPut (valF (L.take i) (vI pt no V L i)) (L.getD i []) (.int .i64 (gbest pt no V (L.getD i []))) l = valF (L.take (i + 1)) (vI pt no V L (i + 1)) l := by
  have hnew := take_newG hn h
  have e := take_oneG h
  refine ⟨?_, fun l => ?_⟩
  · have : valF (L.take i) (vI pt no V L i) (L.getD i []) = none := by unfold valF; rw [if_neg hnew]
    rw [this, e, List.length_append, List.length_singleton]; rfl
  · unfold mapPut
    by_cases hl : l = L.getD i []
    · subst hl
      rw [if_pos rfl]
      have hm : L.getD i [] ∈ L.take (i + 1) := by rw [e]; exact List.mem_append_right _ (List.mem_singleton.2 rfl)
      unfold valF vI nxV
      rw [if_pos hm, if_pos hm]
    · rw [if_neg hl]
      have hm : l ∈ L.take (i + 1) ↔ l ∈ L.take i := by
        rw [e, List.mem_append, List.mem_singleton]
        exact ⟨fun h => h.elim id (fun h => absurd h hl), .inl⟩
      unfold valF vI nxV
      by_cases h2 : l ∈ L.take i
      · rw [if_pos h2, if_pos (hm.2 h2), if_pos h2, if_pos (hm.2 h2)]
      · rw [if_neg h2, if_neg (fun h => h2 (hm.1 h))]
theorem mapSet_grown {w : World} {b : Nat} (o : Obj) : w.grownBy { w with heap := w.heap.setIfInBounds b o } (some b) :=
  ⟨rfl, rfl, rfl, by simp, fun i hi hn => by
    show (w.heap.setIfInBounds b o)[i]? = w.heap[i]?
    rw [Array.getElem?_setIfInBounds_ne (fun e => hn (by rw [e]))]⟩
/-- clear of a map. -/
theorem OwnV.clear {P : Program} {w : World} {K : TypeId} {b n L : Nat} {m : List Int → Option Value} (h : OwnV P w K b n L m) {t kt e : TypeId} (ht : P.underlying t = some (.map kt e)) :
    ∃ w', (∀ ty, (Builtin.clear_ #[t] ty #[.map (some b)]).run P w = .ok (.tuple #[]) w') ∧ OwnV P w' K b 0 L (fun _ => none) ∧ w.grownBy w' (some b) ∧ w'.heap.size = w.heap.size := by
  obtain ⟨D, ⟨es, c, hb, F, hs, hD⟩, h2⟩ := h
  refine ⟨{ w with heap := w.heap.setIfInBounds b (.map #[] c) }, fun ty => ?_, ?_, mapSet_grown _, by simp⟩
  · simp [Builtin.clear_, run_underlying ht, MapKept.run_getObj_map hb, MapKept.run_setObj_map _ hb, Result.andThen]
  · exact ⟨.map [], ⟨#[], c, (MapKept.heap_set hb).1, ⟨by simp, MapKept.stamped_empty c, by simp⟩, Nat.le_refl _, rfl⟩, fun l _ z => rfl, fun l _ => rfl, rfl⟩
end Go.Proofs.Ytpbfdjiglacbbaa.base
