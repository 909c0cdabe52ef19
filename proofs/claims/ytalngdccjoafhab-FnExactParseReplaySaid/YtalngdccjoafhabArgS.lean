/-
  The law's own helpers for a slice of strings that came in, walked: how great it is, and its copy in new memory.
-/
import Derived.Test.YtalngdccjoafhabMark
namespace Go.Proofs.Ytalngdccjoafhab.base
open Go.ChangeShapes Go.WideShapes Go.ChangeAt Go.RowKit
set_option linter.unusedVariables false
set_option linter.unusedSimpArgs false

/-- What the walk is told of a slice of strings that came in. -/
def IsStrs (w : World) (a : Option Addr) (len : Nat) (xs : List ByteArray) : Prop :=
  (len = 0 ∧ xs = []) ∨ ∃ b off : Nat, a = some ⟨b, off, none⟩ ∧ len = xs.length ∧ 0 < len ∧ b < w.heap.size ∧ ∀ (j : Nat) x, xs[j]? = some x → w.cell? ⟨b, off + j, none⟩ = some (.string x)

theorem IsStrs.below {w w' : World} {a : Option Addr} {len : Nat} {xs : List ByteArray} (h : IsStrs w a len xs) (hb : Below w.heap.size w w') : IsStrs w' a len xs := by
  rcases h with h | ⟨b, off, h1, h2, h3, h4, h5⟩
  · exact .inl h
  · exact .inr ⟨b, off, h1, h2, h3, Nat.lt_of_lt_of_le h4 hb.size, fun j x hj => (hb.cell (p := ⟨b, off + j, none⟩) h4).trans (h5 j x hj)⟩

theorem IsStrs.len {w : World} {a : Option Addr} {len : Nat} {xs : List ByteArray} (h : IsStrs w a len xs) : len = xs.length := by
  rcases h with ⟨h1, h2⟩ | ⟨b, off, h1, h2, _⟩
  · rw [h1, h2]; rfl
  · exact h2

theorem strs_of {w : World} {x : Addr} {len cap : Nat} {zs : List ByteArray} (hl : len ≤ cap) (hz : zs.length = cap) (hcell : ∀ i, i < zs.length → w.cell? (x.add i) = some (.string (zs.getD i ByteArray.empty))) : IsStrs w (some x) len (zs.take len) := by
  by_cases h0 : len = 0
  · exact .inl ⟨h0, by rw [h0]; rfl⟩
  · obtain ⟨b, off, spot⟩ := x
    have hc := hcell 0 (by omega)
    have hspot : spot = none := by simpa [Addr.add] using World.cell?_spot hc
    subst hspot
    have hc0 : w.cell? ⟨b, off, none⟩ = some (.string (zs.getD 0 ByteArray.empty)) := by simpa [Addr.add] using hc
    refine .inr ⟨b, off, rfl, by rw [List.length_take]; omega, by omega, World.block_lt_of_cell? _ _ hc0, fun j y hj => ?_⟩
    have hjl : j < zs.length := by
      rcases Nat.lt_or_ge j zs.length with h1 | h1
      · exact h1
      · rw [List.getElem?_eq_none (by rw [List.length_take]; omega)] at hj; cases hj
    have hjlen : j < len := by
      rcases Nat.lt_or_ge j len with h1 | h1
      · exact h1
      · rw [List.getElem?_eq_none (by rw [List.length_take]; omega)] at hj; cases hj
    have := hcell j hjl
    rw [List.getElem?_take_of_lt hjlen] at hj
    have e : zs.getD j ByteArray.empty = y := by rw [List.getD_eq_getElem?_getD, hj]; rfl
    rw [e] at this
    have hadd : (⟨b, off, none⟩ : Addr).add j = ⟨b, off + j, none⟩ := by unfold Addr.add; split <;> simp_all
    rwa [hadd] at this

/-- How many bytes some strings have together. -/
def sizes (xs : List ByteArray) : Nat := (xs.map (·.size)).sum
theorem sizes_snoc (xs : List ByteArray) (k : Nat) (x : ByteArray) (h : xs[k]? = some x) : sizes (xs.take (k + 1)) = sizes (xs.take k) + x.size := by
  have hlt : k < xs.length := by
    rcases Nat.lt_or_ge k xs.length with h1 | h1
    · exact h1
    · rw [List.getElem?_eq_none h1] at h; cases h
  rw [List.take_succ_eq_append_getElem hlt]
  rw [List.getElem?_eq_getElem hlt] at h
  injection h with h
  unfold sizes
  rw [List.map_append, List.sum_append, h]; simp
theorem sizes_le (xs : List ByteArray) (k : Nat) : sizes (xs.take k) ≤ sizes xs := by
  conv => rhs; rw [← List.take_append_drop k xs]
  unfold sizes; rw [List.map_append, List.sum_append]; omega

def Small (xs : List ByteArray) : Prop := xs.length + sizes xs ≤ 1048576
/-- What szStringS answers. -/
def SzPost (xs : List ByteArray) (w : World) (e : Ending) (w' : World) : Prop := ∃ r : Int, e = .returned (.int .i64 r) ∧ w = w' ∧ ((r = -1 ∧ ¬ Small xs) ∨ (0 ≤ r ∧ Small xs))

theorem toS_none : (Try.prog.info? 9).map (fun i => (i.zero, i.size, i.bytes)) = some (some (.string ByteArray.empty), 1, 16) := infoStr

/-- The first i of some values are those of another list. -/
def upTo (xs ys : List Value) (i : Nat) : List Value := xs.take i ++ ys.drop i
theorem upTo_set (xs ys : List Value) (i : Nat) (u : Value) (hu : xs[i]? = some u) (h : i < ys.length) : (upTo xs ys i).set i u = upTo xs ys (i + 1) := by
  have hlt : i < xs.length := by
    rcases Nat.lt_or_ge i xs.length with h1 | h1
    · exact h1
    · rw [List.getElem?_eq_none h1] at hu; cases hu
  unfold upTo
  have hl : (xs.take i).length = i := by rw [List.length_take]; omega
  rw [List.set_append_right _ _ (by omega), hl, Nat.sub_self, List.take_succ_eq_append_getElem hlt, List.append_assoc]
  congr 1
  rw [List.drop_eq_getElem_cons h]
  rw [List.getElem?_eq_getElem hlt] at hu; injection hu with hu
  rw [hu]; rfl

end Go.Proofs.Ytalngdccjoafhab.base
