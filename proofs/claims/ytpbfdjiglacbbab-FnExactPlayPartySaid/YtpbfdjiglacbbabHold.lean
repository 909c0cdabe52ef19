/-
  A block that holds a known list of cells: what reading, storing and new blocks do to it.
-/
import Derived.Test.YtpbfdjiglacbbabRackCopy
import Derived.Test.YtpbfdjiglacbbabTube
namespace Go.Proofs.Ytpbfdjiglacbbab.base
open Go.ChangeShapes Go.WideShapes Go.ChangeAt Go.RowKit
set_option linter.unusedVariables false
set_option linter.unusedSimpArgs false

/-- Block b holds the cells cs, from its head on, and they may be written. -/
structure Holds (w : World) (b : Nat) (cs : List Value) : Prop where
  range : w.rangeAt b 0 cs
  there : w.there b 0 cs.length

def ints (ns : List Int) : List Value := ns.map (Value.int .i64)
theorem ints_len (ns : List Int) : (ints ns).length = ns.length := List.length_map _
theorem ints_get (ns : List Int) (j : Nat) (h : j < ns.length) : (ints ns)[j]? = some (.int .i64 (ns.getD j 0)) := by
  unfold ints
  rw [List.getElem?_map, List.getElem?_eq_getElem h, List.getD_eq_getElem?_getD, List.getElem?_eq_getElem h]; rfl
theorem ints_one (ns : List Int) : ∀ v ∈ ints ns, v.oneCell' = true := fun v hv => by
  obtain ⟨z, _, rfl⟩ := List.mem_map.1 hv; rfl
theorem row_ints (ns : List Int) : row ns = .agg (ints ns).toArray := rfl
theorem ints_take (ns : List Int) (o n : Nat) : ((ints ns).drop o).take n = ints ((ns.drop o).take n) := by
  unfold ints; rw [List.map_take, List.map_drop]
theorem ints_set (ns : List Int) (k : Nat) (z : Int) : (ints ns).set k (.int .i64 z) = ints (ns.set k z) := by
  unfold ints; rw [List.map_set]
theorem ints_app (a b : List Int) : ints (a ++ b) = ints a ++ ints b := List.map_append

theorem Holds.new (w : World) (c : Array Value) (t : TypeId) : Holds (w.alloc (.cells c t)) w.heap.size c.toList :=
  ⟨range_new w c t, by have := there_new w c t; rw [← Array.length_toList] at this; exact this⟩
theorem Holds.lt {w : World} {b : Nat} {cs : List Value} (h : Holds w b cs) (hc : 0 < cs.length) : b < w.heap.size := by
  have := h.range 0 _ (List.getElem?_eq_getElem hc)
  exact World.block_lt_of_cell? _ _ this
theorem Holds.below {B : Nat} {w w' : World} {b : Nat} {cs : List Value} (h : Holds w b cs) (m : Below B w w') (hb : b < B) : Holds w' b cs :=
  ⟨range_below h.range m hb, there_below h.there m hb⟩
theorem Holds.alloc {w : World} {b : Nat} {cs : List Value} (h : Holds w b cs) (o : Obj) (hc : 0 < cs.length) : Holds (w.alloc o) b cs :=
  h.below ((Below.refl _ _).alloc (Nat.le_refl _) o) (h.lt hc)
theorem Holds.drew {w : World} {b : Nat} {cs : List Value} (h : Holds w b cs) : Holds w.drew b cs :=
  ⟨(World.rangeAt_drew _ _ _ _).2 h.range, (World.there_drew _ _ _ _).2 h.there⟩
theorem Holds.drewN {w : World} {b : Nat} {cs : List Value} (h : Holds w b cs) (n : Nat) : Holds (w.drewN n) b cs :=
  ⟨fun j v hv => (h.range j v hv), fun j hj => (h.there j hj)⟩
theorem Holds.cellAt {w : World} {b : Nat} {cs : List Value} (h : Holds w b cs) {k : Nat} {v : Value} (hk : cs[k]? = some v) : w.cell? ⟨b, k, none⟩ = some v := by
  have := h.range k v hk; rwa [Nat.zero_add] at this
theorem Holds.int {w : World} {b : Nat} {ns : List Int} (h : Holds w b (ints ns)) (k : Nat) (hk : k < ns.length) : w.cell? ⟨b, k, none⟩ = some (.int .i64 (ns.getD k 0)) :=
  h.cellAt (ints_get ns k hk)
theorem Holds.free {w : World} {b : Nat} {cs : List Value} (h : Holds w b cs) (k : Nat) (hk : k < cs.length) : w.frozen? ⟨b, k, none⟩ = false := by
  have := (h.there k hk).2; rwa [Nat.zero_add] at this
theorem setCells_one (w : World) (b k : Nat) (v : Value) : w.setCells b k [v] = w.setCell ⟨b, k, none⟩ v := rfl
/-- Part of the block is stored anew. -/
theorem Holds.put {w : World} {b : Nat} {cs : List Value} (h : Holds w b cs) (o : Nat) (vs : List Value) (hl : o + vs.length ≤ cs.length) : Holds (w.setCells b o vs) b (cs.take o ++ vs ++ cs.drop (o + vs.length)) := by
  refine ⟨range_put h.range o vs (there_sub h.there _ hl) hl, ?_⟩
  have e : (cs.take o ++ vs ++ cs.drop (o + vs.length)).length = cs.length := by simp; omega
  rw [e]; exact there_put h.there _ _
theorem Holds.set {w : World} {b : Nat} {cs : List Value} (h : Holds w b cs) (k : Nat) (v : Value) (hk : k < cs.length) : Holds (w.setCell ⟨b, k, none⟩ v) b (cs.set k v) := by
  have := h.put k [v] (by simp; omega)
  rw [setCells_one] at this
  have e : cs.take k ++ [v] ++ cs.drop (k + [v].length) = cs.set k v := by
    rw [List.set_eq_take_append_cons_drop, if_pos hk]; simp
  rw [e] at this; exact this
theorem Holds.putInts {w : World} {b : Nat} {ns : List Int} (h : Holds w b (ints ns)) (o : Nat) (ms : List Int) (hl : o + ms.length ≤ ns.length) : Holds (w.setCells b o (ints ms)) b (ints (ns.take o ++ ms ++ ns.drop (o + ms.length))) := by
  have := h.put o (ints ms) (by rw [ints_len, ints_len]; exact hl)
  rw [ints_app, ints_app]
  rw [ints_len] at this
  unfold ints at this ⊢
  rw [List.map_take, List.map_drop]; exact this
theorem Holds.setInt {w : World} {b : Nat} {ns : List Int} (h : Holds w b (ints ns)) (k : Nat) (z : Int) (hk : k < ns.length) : Holds (w.setCell ⟨b, k, none⟩ (.int .i64 z)) b (ints (ns.set k z)) := by
  rw [← ints_set]; exact h.set k _ (by rw [ints_len]; exact hk)
theorem Holds.putOther {w : World} {b : Nat} {cs : List Value} (h : Holds w b cs) {b' : Nat} (o : Nat) (vs : List Value) (hb : b ≠ b') : Holds (w.setCells b' o vs) b cs :=
  ⟨range_other h.range _ _ _ hb, there_put h.there _ _⟩
theorem Holds.setOther {w : World} {b : Nat} {cs : List Value} (h : Holds w b cs) {b' : Nat} (k : Nat) (v : Value) (hb : b ≠ b') : Holds (w.setCell ⟨b', k, none⟩ v) b cs := by
  rw [← setCells_one]; exact h.putOther _ _ hb
theorem Holds.sub {w : World} {b : Nat} {ns : List Int} (h : Holds w b (ints ns)) (o n : Nat) : w.rangeAt b o (ints ((ns.drop o).take n)) := by
  have := range_sub h.range o n
  rwa [ints_take] at this
theorem Holds.thereSub {w : World} {b : Nat} {cs : List Value} (h : Holds w b cs) (o n : Nat) (hn : o + n ≤ cs.length) : w.there b o n := there_sub h.there n hn
theorem below_set {B : Nat} {a w : World} (h : Below B a w) {b : Nat} (hB : B ≤ b) (o : Nat) (vs : List Value) : Below B a (w.setCells b o vs) := below_setCells b hB vs o a w h

/-! a tube of a rack is put -/
def setTub (ns : List Int) (i : Nat) (t : List Int) : List Int := ns.take (i * 4) ++ t ++ ns.drop (i * 4 + 4)
theorem setTub_len (ns : List Int) (i : Nat) (t : List Int) (h : ns.length = 24) (hi : i < 6) (ht : t.length = 4) : (setTub ns i t).length = 24 := by
  unfold setTub; simp; omega
theorem tub_setTub (ns : List Int) (i : Nat) (t : List Int) (h : ns.length = 24) (hi : i < 6) (ht : t.length = 4) : tub (setTub ns i t) i = t := by
  unfold tub setTub
  rw [List.append_assoc, List.drop_append_of_le_length (by simp; omega), List.drop_of_length_le (by simp; omega), List.nil_append, List.take_append_of_le_length (by omega), List.take_of_length_le (by omega)]
theorem tub_setTub_other (ns : List Int) (i j : Nat) (t : List Int) (h : ns.length = 24) (hi : i < 6) (hj : j < 6) (ht : t.length = 4) (hij : i ≠ j) : tub (setTub ns i t) j = tub ns j := by
  apply List.ext_getElem?
  intro k
  unfold tub setTub
  rw [List.getElem?_take, List.getElem?_take]
  by_cases hk : k < 4
  · rw [if_pos hk, if_pos hk, List.getElem?_drop, List.getElem?_drop]
    by_cases hlt : j < i
    · rw [List.append_assoc, List.getElem?_append_left (by simp; omega), List.getElem?_take, if_pos (by omega)]
    · rw [List.getElem?_append_right (by simp; omega), List.getElem?_drop]
      congr 1
      simp; omega
  · rw [if_neg hk, if_neg hk]
theorem rack_ext {a b : List Int} (ha : a.length = 24) (hb : b.length = 24) (h : ∀ i, i < 6 → tub a i = tub b i) : a = b := by
  apply List.ext_getElem?
  intro k
  by_cases hk : k < 24
  · have := congrArg (fun l => l[k % 4]?) (h (k / 4) (by omega))
    unfold tub at this
    simp only [List.getElem?_take, List.getElem?_drop, if_pos (Nat.mod_lt k (by decide : 0 < 4))] at this
    rwa [Nat.div_add_mod' k 4] at this
  · rw [List.getElem?_eq_none (by omega), List.getElem?_eq_none (by omega)]
theorem set_tub (ns : List Int) (i k : Nat) (z : Int) (h : ns.length = 24) (hi : i < 6) (hk : k < 4) : ns.set (i * 4 + k) z = setTub ns i ((tub ns i).set k z) := by
  have hl : (setTub ns i ((tub ns i).set k z)).length = 24 := setTub_len ns i _ h hi (by rw [List.length_set, tub_len ns i h hi])
  refine rack_ext (by simpa using h) hl (fun j hj => ?_)
  by_cases e : i = j
  · subst e
    rw [tub_setTub ns i _ h hi (by rw [List.length_set, tub_len ns i h hi])]
    apply List.ext_getElem?
    intro q
    unfold tub
    rw [List.getElem?_take, List.getElem?_set, List.getElem?_drop, List.getElem?_set]
    have hlt : ((ns.drop (i * 4)).take 4).length = 4 := tub_len ns i h hi
    rw [hlt, List.getElem?_take, List.getElem?_drop]
    by_cases hq : q < 4
    · rw [if_pos hq, if_pos hq]
      by_cases e2 : k = q
      · subst e2; simp [hk]; omega
      · rw [if_neg (by omega), if_neg e2]
    · rw [if_neg hq, if_neg hq]
      rw [if_neg (by omega)]
  · rw [tub_setTub_other ns i j _ h hi hj (by rw [List.length_set, tub_len ns i h hi]) e]
    apply List.ext_getElem?
    intro q
    unfold tub
    rw [List.getElem?_take, List.getElem?_drop, List.getElem?_set, List.getElem?_take, List.getElem?_drop]
    by_cases hq : q < 4
    · rw [if_pos hq, if_pos hq, if_neg (by omega)]
    · rw [if_neg hq, if_neg hq]
end Go.Proofs.Ytpbfdjiglacbbab.base
