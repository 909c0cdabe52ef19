/-
  The law's own helpers for slices of strings, walked: marks are written, held marks are found again, equal slices are told equal.
-/
import Derived.Test.YtalngdccjoafhabSplit
import Derived.Laws.IdiomStrings
import Derived.Laws.OwnMore
import Derived.Laws.Concat
import Derived.Lib.ItoaNum
import Derived.Lib.ItoaLen
import Derived.IntWalk
import Derived.Deep.QuietTactic
import Derived.BigQuiet
import Derived.Deep.RegionHeld3
namespace Go.Proofs.Ytalngdccjoafhab.base
open Go.ChangeShapes Go.WideShapes Go.ChangeAt Go.RowKit
set_option linter.unusedVariables false
set_option linter.unusedSimpArgs false

def mkText (k : Nat) : List UInt8 := 109 :: Lib.decDigits k

/-- Behind some rounds: m is still to be told, out has been told. -/
def Told (K m : Nat) (out : List UInt8) : Prop := (m = 0 ∧ out = Lib.decDigits K) ∨ (0 < m ∧ m ≤ K ∧ Lib.decDigits K = Lib.decDigits m ++ out)

def dg (m : Nat) : UInt8 := UInt8.ofNat (48 + m % 10)
theorem dg_nat (m : Nat) : (dg m).toNat = 48 + m % 10 := by unfold dg; simp [UInt8.toNat_ofNat]; omega
theorem told_step {K m : Nat} {out : List UInt8} (h : Told K m out) (hm : 0 < m) : Told K (m / 10) (dg m :: out) := by
  unfold dg
  rcases h with ⟨h, _⟩ | ⟨_, hle, h⟩
  · omega
  · by_cases h10 : m < 10
    · left
      refine ⟨by omega, ?_⟩
      rw [h, Lib.decDigits.eq_1 m, dif_pos h10, Nat.mod_eq_of_lt h10]; rfl
    · right
      refine ⟨by omega, by omega, ?_⟩
      rw [h, Lib.decDigits.eq_1 m, dif_neg h10]; simp

theorem told_len {K m : Nat} {out : List UInt8} (h : Told K m out) (hK : K < 18446744073709551616) : out.length ≤ 20 := by
  have h1 := Lib.nDigits_le20 K hK
  have h2 := Lib.decDigits_length K
  rcases h with ⟨_, rfl⟩ | ⟨_, _, h⟩
  · omega
  · rw [h, List.length_append] at h2; omega

theorem add_front (c : UInt8) (out : List UInt8) (h : out.length ≤ 100) (W : World) : (Op.stringOp .add ⟨#[c]⟩ ⟨out.toArray⟩).run Try.prog W = .ok (.string ⟨(c :: out).toArray⟩) W := by
  rw [run_string_add_sum]
  · congr 2
  · have : (⟨out.toArray⟩ : ByteArray).size = out.length := by show out.toArray.size = _; simp
    rw [this]; show 1 + _ ≤ _; omega

/-- What a slice of strings reads as: its cells, wherever it lies. -/
def Reads (w : World) (v : Value) (ps : List (List UInt8)) : Prop :=
  ∃ (a : Option Addr) (cap : Nat), v = .slice a ps.length cap ∧ (ps = [] ∨ ∃ g : Nat, a = some ⟨g, 0, none⟩) ∧ ∀ (g : Nat), a = some ⟨g, 0, none⟩ → ∀ j p, ps[j]? = some p → w.cell? ⟨g, j, none⟩ = some (strV p)

theorem row_none {w : World} {base : Nat} {e : TypeId} {size : Nat} {v : Value} {xs : List Value} (h : w.ownsRow base e size v 0 xs) : ∃ a cap, v = .slice a 0 cap := by
  rcases h.2 with ⟨h, _⟩ | ⟨g, cap, cur, hv, _⟩
  · exact ⟨none, 0, h⟩
  · exact ⟨_, cap, hv⟩

theorem row_cell {w : World} {base : Nat} {e : TypeId} {g n cap : Nat} {xs : List Value} (h : w.ownsRow base e 1 (.slice (some ⟨g, 0, none⟩) n cap) n xs) (j : Nat) (u : Value) (hj : xs[j]? = some u) : w.cell? ⟨g, j, none⟩ = some u := by
  have := h.cells rfl j u hj
  have hadd : (⟨g, 0, none⟩ : Addr).add j = ⟨g, j, none⟩ := by unfold Addr.add; split <;> simp_all
  rwa [hadd] at this

/-- The first i of some values, marked from K on. -/
def marks (K i : Nat) (xs : List Value) : List Value := ((List.range i).map fun j => strV (mkText (K + j))) ++ xs.drop i
theorem marks_zero (K : Nat) (xs : List Value) : marks K 0 xs = xs := by simp [marks]
theorem marks_set (K i : Nat) (xs : List Value) (h : i < xs.length) : (marks K i xs).set i (strV (mkText (K + i))) = marks K (i + 1) xs := by
  unfold marks
  rw [List.set_append_right _ _ (by simp), List.range_succ, List.map_append, List.append_assoc]
  congr 1
  simp only [List.length_map, List.length_range, Nat.sub_self]
  rw [List.drop_eq_getElem_cons h]; rfl
theorem marks_all (K : Nat) (xs ys : List Value) (h : xs.length = ys.length) : marks K xs.length xs = marks K ys.length ys := by
  unfold marks; rw [h, List.drop_of_length_le (Nat.le_of_eq h), List.drop_of_length_le (Nat.le_refl _)]
theorem marks_get (K n i : Nat) (xs : List Value) (hn : xs.length = n) (h : i < n) : (marks K n xs)[i]? = some (strV (mkText (K + i))) := by
  unfold marks
  rw [List.getElem?_append_left (by simpa using h), List.getElem?_map, List.getElem?_range h]; rfl
theorem marks_len (K n : Nat) (xs : List Value) (hn : xs.length = n) : (marks K n xs).length = n := by
  unfold marks; simp; omega

theorem grown_to {w wr wx : World} {g : Nat} (h : w.grownBy wr (some g)) (hb : Below wr.heap.size wr wx) (hg : g < wr.heap.size) : w.grownBy wx (some g) :=
  ⟨hb.os.trans h.os, hb.tape.trans h.tape, hb.output.trans h.output, Nat.le_trans h.size hb.size, fun i hi hn => (hb.block i (Nat.lt_of_lt_of_le hi h.size)).trans (h.block i hi hn)⟩
theorem grown_refl (w : World) (r : Option Nat) : w.grownBy w r := ⟨rfl, rfl, rfl, Nat.le_refl _, fun _ _ _ => rfl⟩
theorem grown_by {a b c : World} {g : Nat} (h : a.grownBy b (some g)) (k : b.grownBy c (some g)) : a.grownBy c (some g) :=
  ⟨k.os.trans h.os, k.tape.trans h.tape, k.output.trans h.output, Nat.le_trans h.size k.size, fun i hi hn => (k.block i (Nat.lt_of_lt_of_le hi h.size) hn).trans (h.block i hi hn)⟩
theorem row_below {w wx : World} {base : Nat} {e : TypeId} {size n : Nat} {v : Value} {xs : List Value} (h : w.ownsRow base e size v n xs) (hb : Below w.heap.size w wx) : wx.ownsRow base e size v n xs := by
  refine ⟨h.1, ?_⟩
  rcases h.2 with hn | ⟨g, cap, cur, hv, hbg, hg, rest⟩
  · exact .inl hn
  · exact .inr ⟨g, cap, cur, hv, hbg, (hb.block g (Array.getElem?_eq_some_iff.1 hg).1).trans hg, rest⟩
theorem row_block {w : World} {base : Nat} {e : TypeId} {size n g cap : Nat} {xs : List Value} (h : w.ownsRow base e size (.slice (some ⟨g, 0, none⟩) n cap) n xs) : base ≤ g ∧ g < w.heap.size := h.lt g rfl
theorem row_free {w : World} {base : Nat} {e : TypeId} {g n cap : Nat} {xs : List Value} (h : w.ownsRow base e 1 (.slice (some ⟨g, 0, none⟩) n cap) n xs) (j : Nat) : w.frozen? ⟨g, j, none⟩ = false := by
  rcases h.2 with ⟨h, _⟩ | ⟨g', cap', cur, hv, _, hg, _⟩
  · cases h
  · simp only [Value.slice.injEq, Option.some.injEq, Addr.mk.injEq, and_true, true_and] at hv
    obtain ⟨rfl, rfl⟩ := hv
    unfold World.frozen?; simp [hg]

end Go.Proofs.Ytalngdccjoafhab.base
