/-
  Blocks that hold a struct of any cells.
-/
import Derived.Test.YtnldnjnnjfbhnabRowOpsZ
import Derived.Deep.RegionHeld3
import Derived.Deep.Upon
import Derived.Laws.AppendOwn
namespace Go.Proofs.Ytnldnjnnjfbhnab.base
open Go.ChangeShapes Go.WideShapes Go.ChangeAt Go.RowKit
set_option linter.unusedVariables false
set_option linter.unusedSimpArgs false

/-- Block p holds these cells, and they may be written. -/
def Bk (w : World) (p : Nat) (cs : List Value) (T : TypeId) : Prop := w.heap[p]? = some (.cells cs.toArray T (0, 0))
theorem bk_lt {w : World} {p : Nat} {o : Obj} (h : w.heap[p]? = some o) : p < w.heap.size := by
  rcases Nat.lt_or_ge p w.heap.size with h1 | h1
  · exact h1
  · rw [Array.getElem?_eq_none h1] at h; cases h
theorem bk_cell {w : World} {p k : Nat} {cs : Array Value} {T : TypeId} {f : Nat × Nat} (h : w.heap[p]? = some (.cells cs T f)) : w.cell? ⟨p, k, Option.none⟩ = cs[k]? := by
  simp [World.cell?, h]
section
variable {w w' : World} {p : Nat} {cs : List Value} {T : TypeId}
theorem Bk.box (w : World) (cs : List Value) (T : TypeId) : Bk (w.alloc (.cells cs.toArray T)) w.heap.size cs T := heap_alloc_new w _
theorem Bk.lt (h : Bk w p cs T) : p < w.heap.size := bk_lt h
theorem Bk.at {q : Nat} (h : Bk w p cs T) (e : p = q) : Bk w q cs T := e ▸ h
theorem Bk.same (h : Bk w p cs T) (e : w'.heap[p]? = w.heap[p]?) : Bk w' p cs T := e.trans h
theorem Bk.alloc (h : Bk w p cs T) (o : Obj) : Bk (w.alloc o) p cs T := h.same ((World.grownBy_alloc w o none).block p h.lt (by simp))
theorem Bk.below (h : Bk w p cs T) (k : Below w.heap.size w w') : Bk w' p cs T := h.same (k.block p h.lt)
theorem Bk.grown (h : Bk w p cs T) {r : Option Nat} (hg : w.grownBy w' r) (hr : some p ≠ r) : Bk w' p cs T := h.same (hg.block p h.lt hr)
theorem Bk.drew (h : Bk w p cs T) : Bk w.drew p cs T := h
theorem Bk.cell (h : Bk w p cs T) (k : Nat) {v : Value} (hk : cs[k]? = some v) : w.cell? ⟨p, k, Option.none⟩ = some v := by
  rw [bk_cell h]; simpa using hk
theorem Bk.free (h : Bk w p cs T) (k : Nat) : w.frozen? ⟨p, k, Option.none⟩ = false := by
  simp [World.frozen?, show w.heap[p]? = some (.cells cs.toArray T (0, 0)) from h]
theorem Bk.range (h : Bk w p cs T) : w.rangeAt p 0 cs := fun j v hv => by
  rw [Nat.zero_add]; exact h.cell j hv
theorem Bk.there (h : Bk w p cs T) : w.there p 0 cs.length := fun j hj => by
  rw [Nat.zero_add]
  refine ⟨?_, h.free j⟩
  rw [h.cell j (List.getElem?_eq_getElem hj)]; rfl
theorem Bk.setOther (h : Bk w p cs T) {q : Nat} (k : Nat) (v : Value) (e : p ≠ q) : Bk (w.setCell ⟨q, k, Option.none⟩ v) p cs T := h.same (Below.heap_setCell w ⟨q, k, Option.none⟩ v p e)
theorem Bk.putOther (h : Bk w p cs T) {q : Nat} (k : Nat) (vs : List Value) (e : p ≠ q) : Bk (w.setCells q k vs) p cs T := h.same (World.heap_setCells_other w q k vs h.lt e)
theorem Bk.set (h : Bk w p cs T) (k : Nat) (v : Value) : Bk (w.setCell ⟨p, k, Option.none⟩ v) p (cs.set k v) T := by
  unfold Bk at h ⊢
  simp only [World.setCell, Array.getElem?_modify, if_true, h, Option.map_some, Option.some.injEq]
  simp
theorem Bk.puts : ∀ (vs : List Value) {w : World} {pre cs : List Value}, vs.length = cs.length → Bk w p (pre ++ cs) T → Bk (w.setCells p pre.length vs) p (pre ++ vs) T
  | [], w, pre, [], _, h => h
  | v :: r, w, pre, c :: cs, hl, h => by
    have h1 := h.set pre.length v
    have e : (pre ++ c :: cs).set pre.length v = (pre ++ [v]) ++ cs := by simp
    rw [e] at h1
    have h2 := Bk.puts r (pre := pre ++ [v]) (by simpa using hl) h1
    have e2 : (pre ++ [v]).length = pre.length + 1 := by simp
    rw [e2] at h2
    rw [World.setCells]
    have e3 : pre ++ v :: r = (pre ++ [v]) ++ r := by simp
    rw [e3]; exact h2
theorem Bk.putAll (h : Bk w p cs T) (vs : List Value) (hl : vs.length = cs.length) : Bk (w.setCells p 0 vs) p vs T := Bk.puts (pre := []) vs hl h
end
section
variable {P : Program} {ops : Array Oper} {rest : List Oper} {op : Oper} {a : Act} {w : World} {Q : Exit → Act → World → Prop}
/-- A struct is loaded whole. -/
theorem load_bk (hw : Region.wanted op (yielded ops a.tmps) = true) (T : TypeId) (x : Operand) (ho : op.op = .load T x) (b : Nat) (hx : a.eval x = .pointer (some ⟨b, 0, none⟩)) (cs : List Value) (T' : TypeId) (H : Bk w b cs T')
    (d : TypeDesc) (hu : P.underlying T = some d) (hd : d.isRow = true) (hi : (P.info? T).map (·.size) = some cs.length)
    (h : wpList P ops Q rest (a.put op.dst (.agg cs.toArray)) w) : wpList P ops Q (op :: rest) a w :=
  wpList_wanted hw fun _ hK => wp_load_mid T x ho b 0 hx cs d H.range hu hd hi (hK _ _ h)
/-- A struct is stored whole. -/
theorem store_bk (hw : Region.wanted op (yielded ops a.tmps) = true) (T : TypeId) (x y : Operand) (ho : op.op = .store T x y) (b : Nat) (hx : a.eval x = .pointer (some ⟨b, 0, none⟩)) (ms : List Value) (hy : a.eval y = .agg ms.toArray)
    (cs : List Value) (T' : TypeId) (H : Bk w b cs T') (hl : ms.length = cs.length) (h1 : ∀ v ∈ ms, v.oneCell' = true) (hi : (P.info? T).map (·.size) = some ms.length)
    (h : wpList P ops Q rest (a.put op.dst undef) (w.setCells b 0 ms)) : wpList P ops Q (op :: rest) a w :=
  wpList_wanted hw fun _ hK => wp_store_mid T x y ho b 0 ms.toArray hx hy (by simpa [hl] using H.there) (by simpa using hi) (all_oneCell_toArray h1) (hK _ _ h)
/-- A new struct is stored whole. -/
theorem store_newbk (hw : Region.wanted op (yielded ops a.tmps) = true) (T : TypeId) (x y : Operand) (ho : op.op = .store T x y) (W : World) (cs : Array Value) (T' : TypeId) (hW : w = W.alloc (.cells cs T')) (b : Nat) (hb : b = W.heap.size) (ms : List Value) (hx : a.eval x = .pointer (some ⟨b, 0, none⟩)) (hy : a.eval y = .agg ms.toArray)
    (hm : ms.length = cs.size) (h1 : ∀ v ∈ ms, v.oneCell' = true) (hi : (P.info? T).map (·.size) = some cs.size)
    (h : wpList P ops Q rest (a.put op.dst undef) (W.alloc (.cells ms.toArray T'))) : wpList P ops Q (op :: rest) a w := by
  subst hW
  subst hb
  refine wpList_wanted hw fun _ hK => wp_store_mid T x y ho W.heap.size 0 ms.toArray hx hy (by simpa [hm] using there_new W cs T') (by simpa [hm] using hi) (all_oneCell_toArray h1) ?_
  rw [show ms.toArray.toList = ms by simp, put_whole W T' cs ms hm.symm W.heap.size rfl]
  exact hK _ _ h
end
theorem res_bk1 {P : Program} {fn : Func} {p q : Tmp} {T : TypeId} (h : fn.results = #[.cell p T, .tmp q]) (tmps : Array Value) (w : World) (b : Nat) (cs : List Value) (T' : TypeId) (d : TypeDesc) (v : Value)
    (hp : tmps.getD p undef = .pointer (some ⟨b, 0, none⟩)) (hq : tmps.getD q undef = v) (H : Bk w b cs T') (hu : P.underlying T = some d) (hd : d.isRow = true) (hi : (P.info? T).map (·.size) = some cs.length) :
    (results fn tmps).run P w = .ok (.tuple #[.agg cs.toArray, v]) w := by
  have hp' : tmps[p]?.getD undef = .pointer (some ⟨b, 0, none⟩) := by simpa using hp
  have hq' : tmps[q]?.getD undef = v := by simpa using hq
  have hl := run_loadVar_mid (P := P) w b 0 T cs d H.range hu hd hi
  simp [results, h, hp', hq', asAddr, hl]
end Go.Proofs.Ytnldnjnnjfbhnab.base
