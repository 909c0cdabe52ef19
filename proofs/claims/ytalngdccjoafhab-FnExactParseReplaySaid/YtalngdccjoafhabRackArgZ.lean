/-
  An argument that is a rack, opened: a value of 24 numbers, each in its range.
-/
/-
  An argument that is a slice of pairs of numbers, opened.
-/
/-
  An argument that is a replay, opened: a rack's numbers and a slice of pairs.
-/
import Derived.Test.YtalngdccjoafhabProg
import Derived.WalkKit
import Derived.ProofKit
import Derived.OpenShut
import Derived.ChangeOld
import Derived.Deep.Slices
import Derived.Deep.Fields
import Derived.Test.YtalngdccjoafhabRackCopyZ

section
namespace Go.Proofs.Ytalngdccjoafhab.base
open Go.ChangeShapes Go.WideShapes Go.ChangeAt Go.RowKit Go.Deep
set_option linter.unusedVariables false
set_option linter.unusedSimpArgs false

section
variable {H : Type} {enc : TypeId × Value → H} {P : Program} {w : World} {b0 : Nat} {spare : Nat → Bool} {held : Bool}

def AllInt (k : IntKind) (cs : List Value) : Prop := ∀ j, j < cs.length → ∃ z : Int, cs[j]? = some (.int k z) ∧ (Lit.int k z).wf = true

theorem allInt_map {k : IntKind} {cs : List Value} (h : AllInt k cs) : ∃ ns : List Int, cs = ns.map (.int k) ∧ ns.length = cs.length ∧ ∀ n ∈ ns, (Lit.int k n).wf = true := by
  induction cs with
  | nil => exact ⟨[], rfl, rfl, by simp⟩
  | cons v r ih =>
    obtain ⟨z, hz, hw⟩ := h 0 (by simp)
    obtain ⟨ns, e, hl, hn⟩ := ih (fun j hj => h (j + 1) (by simp; omega))
    simp at hz
    refine ⟨z :: ns, by rw [hz, e]; rfl, by simp [hl], fun n hm => ?_⟩
    rcases List.mem_cons.1 hm with rfl | hm
    · exact hw
    · exact hn n hm

theorem trod_ints {t e : TypeId} {n fuel : Nat} {k : IntKind} {cs : List Value} {x : DataW H × List MemPlace} (ht : P.underlying t = some (.array n e)) (he : P.underlying e = some (.int k)) (hce : P.cellsOf e = 1) (hct : P.cellsOf t = n)
    (h : DataW.trod enc P w b0 spare held fuel t cs = some x) : AllInt k cs := by
  obtain ⟨xs, m, _, _, hl, hxl, hi⟩ := DataW.trod_array ht h
  intro j hj
  have hjn : j < n := by omega
  have h1 := hi j hjn
  rw [hce, Nat.mul_one] at h1
  obtain ⟨y, hy⟩ : ∃ y, xs[j]? = some y := ⟨_, List.getElem?_eq_getElem (by omega)⟩
  rw [hy] at h1
  obtain ⟨z, hz, _, hw⟩ := DataW.trod_int he h1
  refine ⟨z, ?_, hw⟩
  have := congrArg (fun l => l[0]?) hz
  simpa [List.getElem?_take, List.getElem?_drop] using this

theorem trod_rows {t a e : TypeId} {m n fuel : Nat} {k : IntKind} {cs : List Value} {x : DataW H × List MemPlace} (ht : P.underlying t = some (.array m a)) (ha : P.underlying a = some (.array n e)) (he : P.underlying e = some (.int k)) (hce : P.cellsOf e = 1) (hca : P.cellsOf a = n) (hct : P.cellsOf t = m * n) (hn : 0 < n)
    (h : DataW.trod enc P w b0 spare held fuel t cs = some x) : AllInt k cs := by
  obtain ⟨xs, q, _, _, hl, hxl, hi⟩ := DataW.trod_array ht h
  intro j hj
  have hjn : j / n < m := Nat.div_lt_of_lt_mul (by rw [Nat.mul_comm]; omega)
  have hr : j % n < n := Nat.mod_lt _ hn
  have h1 := hi (j / n) hjn
  rw [hca] at h1
  obtain ⟨y, hy⟩ : ∃ y, xs[j / n]? = some y := ⟨_, List.getElem?_eq_getElem (by omega)⟩
  rw [hy] at h1
  have hA := trod_ints ha he hce hca h1
  obtain ⟨_, _, _, _, hl2, _, _⟩ := DataW.trod_array ha h1
  obtain ⟨z, hz, hw⟩ := hA (j % n) (by rw [hl2, hca]; exact hr)
  refine ⟨z, ?_, hw⟩
  rw [List.getElem?_take, if_pos hr, List.getElem?_drop, Nat.div_add_mod'] at hz
  exact hz

theorem open_rack {r : Reach} {bb : Nat} {t : TypeId} {a c e : TypeId} {f : Field} {v : Value} {d : DataW H} {p : List MemPlace} (hs : P.underlying t = some (.struct #[f])) (hft : f.type = a) (hf0 : f.offset = 0) (ha : P.underlying a = some (.array 6 c)) (hc : P.underlying c = some (.array 4 e)) (he : P.underlying e = some (.int .i64)) (hce : P.cellsOf e = 1) (hcc : P.cellsOf c = 4) (hca : P.cellsOf a = 24) (hct : P.cellsOf t = 24)
    (hv : Value.okWide P w r bb t v) (h : DataW.Trod enc P w b0 spare held t v d p) : ∃ ns : List Int, v = .agg (ns.map (Value.int .i64)).toArray ∧ ns.length = 24 ∧ ∀ n ∈ ns, (Lit.int .i64 n).wf = true := by
  obtain ⟨cs, rfl, hsz⟩ := okWide_struct hs hv
  obtain ⟨fuel, hf⟩ := h
  obtain ⟨xs, q, _, _, hl, hxl, hi⟩ := DataW.trod_struct hs hf
  have h1 := hi 0 f rfl
  obtain ⟨y, hy⟩ : ∃ y, xs[0]? = some y := ⟨_, List.getElem?_eq_getElem (by rw [hxl]; simp)⟩
  rw [hy, hft, hf0, hca, List.drop_zero] at h1
  have hcl : (Value.agg cs).cells.toList = cs.toList := rfl
  rw [hcl] at h1 hl
  rw [List.take_of_length_le (by omega)] at h1
  have hA := trod_rows ha hc he hce hcc (by rw [hca]) (by decide) h1
  obtain ⟨ns, e1, e2, e3⟩ := allInt_map hA
  exact ⟨ns, by rw [← e1], by omega, e3⟩
theorem okWide_array {r : Reach} {bb n : Nat} {t e : TypeId} {v : Value} (ht : P.underlying t = some (.array n e)) (h : Value.okWide P w r bb t v) : ∃ cs, v = .agg cs ∧ cs.size = P.cellsOf t := by
  simp only [Value.okWide, ht] at h
  obtain ⟨cs, h1, h2, _⟩ := h
  exact ⟨cs, h1, h2⟩

theorem open_row {r : Reach} {bb n : Nat} {t e : TypeId} {v : Value} {d : DataW H} {p : List MemPlace} (ht : P.underlying t = some (.array n e)) (he : P.underlying e = some (.int .i64)) (hce : P.cellsOf e = 1) (hct : P.cellsOf t = n)
    (hv : Value.okWide P w r bb t v) (h : DataW.Trod enc P w b0 spare held t v d p) : ∃ ns : List Int, v = .agg (ns.map (Value.int .i64)).toArray ∧ ns.length = n ∧ ∀ n ∈ ns, (Lit.int .i64 n).wf = true := by
  obtain ⟨cs, rfl, hsz⟩ := okWide_array ht hv
  obtain ⟨fuel, hf⟩ := h
  have hA := trod_ints (cs := cs.toList) ht he hce hct hf
  obtain ⟨ns, e1, e2, e3⟩ := allInt_map hA
  have : cs.toList.length = cs.size := rfl
  exact ⟨ns, by rw [← e1], by omega, e3⟩
end
end Go.Proofs.Ytalngdccjoafhab.base
end

section
namespace Go.Proofs.Ytalngdccjoafhab.base
open Go.ChangeShapes Go.WideShapes Go.ChangeAt Go.RowKit Go.Deep
set_option linter.unusedVariables false
set_option linter.unusedSimpArgs false

/-- What the walk is told of a slice of pairs that came in: its numbers, flat. -/
def IsPairs (w : World) (a : Option Addr) (len : Nat) (zs : List Int) : Prop :=
  len ≤ maxLen ∧ zs.length = len * 2 ∧ (∀ n ∈ zs, (Lit.int .i64 n).wf = true) ∧ (len = 0 ∨ ∃ b off : Nat, a = some ⟨b, off, none⟩ ∧ b < w.heap.size ∧ ∀ j, j < len * 2 → w.cell? ⟨b, off + j, none⟩ = some (.int .i64 (zs.getD j 0)))

theorem IsPairs.below {w w' : World} {a : Option Addr} {len : Nat} {zs : List Int} (h : IsPairs w a len zs) (hb : Below w.heap.size w w') : IsPairs w' a len zs := by
  obtain ⟨h1, h2, h3, h4 | ⟨b, off, h4, h5, h6⟩⟩ := h
  · exact ⟨h1, h2, h3, .inl h4⟩
  · exact ⟨h1, h2, h3, .inr ⟨b, off, h4, Nat.lt_of_lt_of_le h5 hb.size, fun j hj => (hb.cell (p := ⟨b, off + j, none⟩) h5).trans (h6 j hj)⟩⟩

def numAt (w : World) (ad : Addr) (j : Nat) : Int := match w.cell? (ad.add j) with
  | some (.int _ z) => z
  | _ => 0

section
variable {H : Type} {enc : TypeId × Value → H} {P : Program} {w : World} {b0 : Nat} {spare : Nat → Bool} {held : Bool}

theorem open_pairs {t e i : TypeId} {fuel : Nat} {a : Option Addr} {len cap : Nat} {x : DataW H × List MemPlace} (ht : P.underlying t = some (.slice e)) (he : P.underlying e = some (.array 2 i)) (hi : P.underlying i = some (.int .i64)) (hci : P.cellsOf i = 1) (hce : P.cellsOf e = 2)
    (h : DataW.trod enc P w b0 spare held fuel t [.slice a len cap] = some x) : ∃ zs, IsPairs w a len zs := by
  rcases DataW.trod_slice ht h with ⟨h0, _⟩ | ⟨ad, len', cap', elems, rest, n, _, h0, _, hb, hl, hm, hlen, hel, _, _⟩
  · simp only [List.cons.injEq, Value.slice.injEq, and_true] at h0
    obtain ⟨rfl, rfl, rfl⟩ := h0
    exact ⟨[], Nat.zero_le _, rfl, by simp, .inl rfl⟩
  · simp only [List.cons.injEq, Value.slice.injEq, and_true] at h0
    obtain ⟨rfl, rfl, rfl⟩ := h0
    have each : ∀ j, j < len * 2 → ∃ z, w.cell? (ad.add j) = some (.int .i64 z) ∧ (Lit.int .i64 z).wf = true := by
      intro j hj
      have hk : j / 2 < len := by omega
      have h1 := hel (j / 2) hk
      obtain ⟨y, hy⟩ : ∃ y, elems[j / 2]? = some y := ⟨_, List.getElem?_eq_getElem (by omega)⟩
      rw [hy, hce, Option.bind_eq_some_iff] at h1
      obtain ⟨cs', hcs, hy'⟩ := h1
      have hA := trod_ints he hi hci hce hy'
      obtain ⟨_, hl2, hc2⟩ := World.cells?_some hcs
      obtain ⟨z, hz, hw⟩ := hA (j % 2) (by omega)
      refine ⟨z, ?_, hw⟩
      have := hc2 (j % 2) (by omega)
      rw [add_add, Nat.div_add_mod'] at this
      rw [this, hz]
    have num : ∀ j, j < len * 2 → w.cell? (ad.add j) = some (.int .i64 (numAt w ad j)) ∧ (Lit.int .i64 (numAt w ad j)).wf = true := by
      intro j hj
      obtain ⟨z, h1, h2⟩ := each j hj
      have e : numAt w ad j = z := by unfold numAt; rw [h1]
      rw [e]; exact ⟨h1, h2⟩
    refine ⟨(List.range (len * 2)).map (numAt w ad), by omega, by simp, fun z hz => ?_, ?_⟩
    · obtain ⟨j, hj, rfl⟩ := List.mem_map.1 hz
      exact (num j (List.mem_range.1 hj)).2
    · by_cases h0 : len = 0
      · exact .inl h0
      · obtain ⟨b, off, spot⟩ := ad
        have hc := (num 0 (by omega)).1
        have hspot : spot = none := by simpa [Addr.add] using World.cell?_spot hc
        subst hspot
        have hc0 : w.cell? ⟨b, off, none⟩ = some (.int .i64 (numAt w ⟨b, off, none⟩ 0)) := by simpa [Addr.add] using hc
        refine .inr ⟨b, off, rfl, World.block_lt_of_cell? _ _ hc0, fun j hj => ?_⟩
        have := (num j hj).1
        have hadd : (⟨b, off, none⟩ : Addr).add j = ⟨b, off + j, none⟩ := by unfold Addr.add; split <;> simp_all
        rw [hadd] at this
        rw [this, List.getD_eq_getElem?_getD, List.getElem?_map, List.getElem?_range hj]; rfl
end
end Go.Proofs.Ytalngdccjoafhab.base
end

section
namespace Go.Proofs.Ytalngdccjoafhab.base
open Go.ChangeShapes Go.WideShapes Go.ChangeAt Go.RowKit Go.Deep
set_option linter.unusedVariables false
set_option linter.unusedSimpArgs false

/-- The cells of a replay: its rack's numbers and its pours. -/
def rpC (ns : List Int) (v : Value) : List Value := ints ns ++ [v]
theorem rpC_len {ns : List Int} (h : ns.length = 24) (v : Value) : (rpC ns v).length = 25 := by unfold rpC; rw [List.length_append, ints_len, h]; rfl
theorem rpC_pours {ns : List Int} (h : ns.length = 24) (v : Value) : (rpC ns v)[24]? = some v := by
  unfold rpC
  rw [List.getElem?_append_right (by rw [ints_len, h]; omega), ints_len, h]; rfl
theorem rpC_one (ns : List Int) {v : Value} (hv : v.oneCell' = true) : ∀ u ∈ rpC ns v, u.oneCell' = true := fun u hu => by
  rcases List.mem_append.1 hu with h | h
  · exact ints_one ns u h
  · rw [List.mem_singleton.1 h]; exact hv
section
variable {H : Type} {enc : TypeId × Value → H} {P : Program} {w : World} {b0 : Nat} {spare : Nat → Bool} {held : Bool}
theorem trod_rackC {t a c e : TypeId} {f : Field} {fuel : Nat} {cs : List Value} {x : DataW H × List MemPlace} (hs : P.underlying t = some (.struct #[f])) (hft : f.type = a) (hf0 : f.offset = 0) (ha : P.underlying a = some (.array 6 c)) (hc : P.underlying c = some (.array 4 e)) (he : P.underlying e = some (.int .i64)) (hce : P.cellsOf e = 1) (hcc : P.cellsOf c = 4) (hca : P.cellsOf a = 24) (hct : P.cellsOf t = 24)
    (h : DataW.trod enc P w b0 spare held fuel t cs = some x) : AllInt .i64 cs := by
  obtain ⟨xs, q, _, _, hl, hxl, hi⟩ := DataW.trod_struct hs h
  have h1 := hi 0 f rfl
  obtain ⟨y, hy⟩ : ∃ y, xs[0]? = some y := ⟨_, List.getElem?_eq_getElem (by rw [hxl]; simp)⟩
  rw [hy, hft, hf0, hca, List.drop_zero, List.take_of_length_le (by omega)] at h1
  exact trod_rows ha hc he hce hcc (by rw [hca]) (by decide) h1
theorem slice_form {t e : TypeId} {fuel : Nat} {cs : List Value} {x : DataW H × List MemPlace} (ht : P.underlying t = some (.slice e)) (h : DataW.trod enc P w b0 spare held fuel t cs = some x) : ∃ a len cap, cs = [.slice a len cap] := by
  rcases DataW.trod_slice ht h with ⟨h0, _⟩ | ⟨ad, len', cap', elems, rest, n, _, h0, _⟩
  · exact ⟨_, _, _, h0⟩
  · exact ⟨_, _, _, h0⟩
theorem open_replay {r : Reach} {bb : Nat} {t rt a c e st pt : TypeId} {f1 f2 f : Field} {v : Value} {d : DataW H} {p : List MemPlace} (hs : P.underlying t = some (.struct #[f1, f2])) (t1 : f1.type = rt) (o1 : f1.offset = 0) (t2 : f2.type = st) (o2 : f2.offset = 24)
    (hr : P.underlying rt = some (.struct #[f])) (hft : f.type = a) (hf0 : f.offset = 0) (ha : P.underlying a = some (.array 6 c)) (hc : P.underlying c = some (.array 4 e)) (he : P.underlying e = some (.int .i64))
    (hst : P.underlying st = some (.slice pt)) (hpt : P.underlying pt = some (.array 2 e))
    (hce : P.cellsOf e = 1) (hcc : P.cellsOf c = 4) (hca : P.cellsOf a = 24) (hcr : P.cellsOf rt = 24) (hcs : P.cellsOf st = 1) (hcp : P.cellsOf pt = 2) (hct : P.cellsOf t = 25)
    (hv : Value.okWide P w r bb t v) (h : DataW.Trod enc P w b0 spare held t v d p) :
    ∃ (ns : List Int) (ad : Option Addr) (len cap : Nat) (zs : List Int), v = .agg (rpC ns (.slice ad len cap)).toArray ∧ (ns.length = 24 ∧ ∀ n ∈ ns, (Lit.int .i64 n).wf = true) ∧ IsPairs w ad len zs := by
  obtain ⟨cs, rfl, hsz⟩ := okWide_struct hs hv
  obtain ⟨fuel, hf⟩ := h
  obtain ⟨xs, q, _, _, hl, hxl, hi⟩ := DataW.trod_struct hs hf
  have hcl : (Value.agg cs).cells.toList = cs.toList := rfl
  rw [hcl] at hi hl
  have hlen : cs.toList.length = 25 := by omega
  have get : ∀ k : Nat, k < 2 → ∃ y, xs[k]? = some y := fun k hk => ⟨_, List.getElem?_eq_getElem (by rw [hxl]; simpa using hk)⟩
  have h1 := hi 0 f1 rfl
  obtain ⟨y, hy⟩ := get 0 (by omega)
  rw [hy, t1, o1, hcr, List.drop_zero] at h1
  have hA := trod_rackC hr hft hf0 ha hc he hce hcc hca hcr h1
  obtain ⟨ns, e1, e2, e3⟩ := allInt_map hA
  have h2 := hi 1 f2 rfl
  obtain ⟨y2, hy2⟩ := get 1 (by omega)
  rw [hy2, t2, o2, hcs] at h2
  obtain ⟨ad, len, cap, he2⟩ := slice_form hst h2
  rw [he2] at h2
  obtain ⟨zs, hz⟩ := open_pairs hst hpt he hce hcp h2
  refine ⟨ns, ad, len, cap, zs, ?_, ⟨by rw [e2, List.length_take]; omega, e3⟩, hz⟩
  have e4 : cs.toList = rpC ns (.slice ad len cap) := by
    unfold rpC ints
    rw [← e1, ← he2]
    have e5 : (cs.toList.drop 24).take 1 = cs.toList.drop 24 := List.take_of_length_le (by rw [List.length_drop]; omega)
    rw [e5, List.take_append_drop]
  rw [← e4]
end
end Go.Proofs.Ytalngdccjoafhab.base
end
