/-
  An argument that is a slice of pairs of numbers, opened.
-/
import Derived.Test.YtpbfdjiglacbbabRackArg
namespace Go.Proofs.Ytpbfdjiglacbbab.base
open Go.ChangeShapes Go.WideShapes Go.ChangeAt Go.RowKit Go.Deep
set_option linter.unusedVariables false
set_option linter.unusedSimpArgs false

/-- What the walk is told of a slice of pairs that came in: its numbers, flat. -/
def IsPairs (w : World) (a : Option Addr) (len : Nat) (zs : List Int) : Prop :=
  len ≤ maxLen ∧ zs.length = len * 2 ∧ (∀ n ∈ zs, (Lit.int .i64 n).wf = true) ∧ (len = 0 ∨ ∃ b off : Nat, a = some ⟨b, off, none⟩ ∧ b < w.heap.size ∧ ∀ j, j < len * 2 → w.cell? ⟨b, off + j, none⟩ = some (.int .i64 (zs.getD j 0)))

theorem IsPairs.below {w w' : World} {a : Option Addr} {len : Nat} {zs : List Int} (h : IsPairs w a len zs) (hb : Below w.heap.size w w') : IsPairs w' a len zs := by
  obtain ⟨h1, h2, h3, h4 | ⟨b, off, h4, h5, h6⟩⟩ := h
  · exact ⟨h1, h2, h3, .inl h4⟩
  · exact ⟨h1, h2, h3, .inr ⟨b, off, h4, Nat.lt_of_lt_of_le h5 hb.size, fun j hj => (hb.cell (p := ⟨b, off + j, none⟩) h5).trans (h6 j hj)⟩⟩

def numAt (w : World) (ad : Addr) (j : Nat) : Int := match w.cell? (ad.add j) with
  | some (.int _ z) => z
  | _ => 0

section
variable {H : Type} {enc : TypeId × Value → H} {P : Program} {w : World} {b0 : Nat} {spare : Nat → Bool} {held : Bool}

theorem open_pairs {t e i : TypeId} {fuel : Nat} {a : Option Addr} {len cap : Nat} {x : DataW H × List MemPlace} (ht : P.underlying t = some (.slice e)) (he : P.underlying e = some (.array 2 i)) (hi : P.underlying i = some (.int .i64)) (hci : P.cellsOf i = 1) (hce : P.cellsOf e = 2)
    (h : DataW.trod enc P w b0 spare held fuel t [.slice a len cap] = some x) : ∃ zs, IsPairs w a len zs := by
  rcases DataW.trod_slice ht h with ⟨h0, _⟩ | ⟨ad, len', cap', elems, rest, n, _, h0, _, hb, hl, hm, hlen, hel, _, _⟩
  · simp only [List.cons.injEq, Value.slice.injEq, and_true] at h0
    obtain ⟨rfl, rfl, rfl⟩ := h0
    exact ⟨[], Nat.zero_le _, rfl, by simp, .inl rfl⟩
  · simp only [List.cons.injEq, Value.slice.injEq, and_true] at h0
    obtain ⟨rfl, rfl, rfl⟩ := h0
    have each : ∀ j, j < len * 2 → ∃ z, w.cell? (ad.add j) = some (.int .i64 z) ∧ (Lit.int .i64 z).wf = true := by
      intro j hj
      have hk : j / 2 < len := by omega
      have h1 := hel (j / 2) hk
      obtain ⟨y, hy⟩ : ∃ y, elems[j / 2]? = some y := ⟨_, List.getElem?_eq_getElem (by omega)⟩
      rw [hy, hce, Option.bind_eq_some_iff] at h1
      obtain ⟨cs', hcs, hy'⟩ := h1
      have hA := trod_ints he hi hci hce hy'
      obtain ⟨_, hl2, hc2⟩ := World.cells?_some hcs
      obtain ⟨z, hz, hw⟩ := hA (j % 2) (by omega)
      refine ⟨z, ?_, hw⟩
      have := hc2 (j % 2) (by omega)
      rw [add_add, Nat.div_add_mod'] at this
      rw [this, hz]
    have num : ∀ j, j < len * 2 → w.cell? (ad.add j) = some (.int .i64 (numAt w ad j)) ∧ (Lit.int .i64 (numAt w ad j)).wf = true := by
      intro j hj
      obtain ⟨z, h1, h2⟩ := each j hj
      have e : numAt w ad j = z := by unfold numAt; rw [h1]
      rw [e]; exact ⟨h1, h2⟩
    refine ⟨(List.range (len * 2)).map (numAt w ad), by omega, by simp, fun z hz => ?_, ?_⟩
    · obtain ⟨j, hj, rfl⟩ := List.mem_map.1 hz
      exact (num j (List.mem_range.1 hj)).2
    · by_cases h0 : len = 0
      · exact .inl h0
      · obtain ⟨b, off, spot⟩ := ad
        have hc := (num 0 (by omega)).1
        have hspot : spot = none := by simpa [Addr.add] using World.cell?_spot hc
        subst hspot
        have hc0 : w.cell? ⟨b, off, none⟩ = some (.int .i64 (numAt w ⟨b, off, none⟩ 0)) := by simpa [Addr.add] using hc
        refine .inr ⟨b, off, rfl, World.block_lt_of_cell? _ _ hc0, fun j hj => ?_⟩
        have := (num j hj).1
        have hadd : (⟨b, off, none⟩ : Addr).add j = ⟨b, off + j, none⟩ := by unfold Addr.add; split <;> simp_all
        rw [hadd] at this
        rw [this, List.getD_eq_getElem?_getD, List.getElem?_map, List.getElem?_range hj]; rfl
end
end Go.Proofs.Ytpbfdjiglacbbab.base
