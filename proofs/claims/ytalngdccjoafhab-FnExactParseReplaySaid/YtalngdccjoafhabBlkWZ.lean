/-
  Blocks that hold a struct of any cells.
-/
/-
  Replays in memory: a block with a rack and a slice.
-/
import Derived.Test.YtalngdccjoafhabRowOpsZ
import Derived.Deep.RegionHeld3
import Derived.Deep.Upon
import Derived.Laws.AppendOwn
import Derived.Test.YtalngdccjoafhabRackArgZ
import Derived.Test.YtalngdccjoafhabCanZ
import Derived.Test.YtalngdccjoafhabRwZ

section
namespace Go.Proofs.Ytalngdccjoafhab.base
open Go.ChangeShapes Go.WideShapes Go.ChangeAt Go.RowKit
set_option linter.unusedVariables false
set_option linter.unusedSimpArgs false

/-- Block p holds these cells, and they may be written. -/
def Bk (w : World) (p : Nat) (cs : List Value) (T : TypeId) : Prop := w.heap[p]? = some (.cells cs.toArray T (0, 0))
theorem bk_lt {w : World} {p : Nat} {o : Obj} (h : w.heap[p]? = some o) : p < w.heap.size := by
  rcases Nat.lt_or_ge p w.heap.size with h1 | h1
  · exact h1
  · rw [Array.getElem?_eq_none h1] at h; cases h
theorem bk_cell {w : World} {p k : Nat} {cs : Array Value} {T : TypeId} {f : Nat × Nat} (h : w.heap[p]? = some (.cells cs T f)) : w.cell? ⟨p, k, Option.none⟩ = cs[k]? := by
  simp [World.cell?, h]
section
variable {w w' : World} {p : Nat} {cs : List Value} {T : TypeId}
theorem Bk.box (w : World) (cs : List Value) (T : TypeId) : Bk (w.alloc (.cells cs.toArray T)) w.heap.size cs T := heap_alloc_new w _
theorem Bk.lt (h : Bk w p cs T) : p < w.heap.size := bk_lt h
theorem Bk.at {q : Nat} (h : Bk w p cs T) (e : p = q) : Bk w q cs T := e ▸ h
theorem Bk.same (h : Bk w p cs T) (e : w'.heap[p]? = w.heap[p]?) : Bk w' p cs T := e.trans h
theorem Bk.alloc (h : Bk w p cs T) (o : Obj) : Bk (w.alloc o) p cs T := h.same ((World.grownBy_alloc w o none).block p h.lt (by simp))
theorem Bk.below (h : Bk w p cs T) (k : Below w.heap.size w w') : Bk w' p cs T := h.same (k.block p h.lt)
theorem Bk.grown (h : Bk w p cs T) {r : Option Nat} (hg : w.grownBy w' r) (hr : some p ≠ r) : Bk w' p cs T := h.same (hg.block p h.lt hr)
theorem Bk.drew (h : Bk w p cs T) : Bk w.drew p cs T := h
theorem Bk.cell (h : Bk w p cs T) (k : Nat) {v : Value} (hk : cs[k]? = some v) : w.cell? ⟨p, k, Option.none⟩ = some v := by
  rw [bk_cell h]; simpa using hk
theorem Bk.free (h : Bk w p cs T) (k : Nat) : w.frozen? ⟨p, k, Option.none⟩ = false := by
  simp [World.frozen?, show w.heap[p]? = some (.cells cs.toArray T (0, 0)) from h]
theorem Bk.range (h : Bk w p cs T) : w.rangeAt p 0 cs := fun j v hv => by
  rw [Nat.zero_add]; exact h.cell j hv
theorem Bk.there (h : Bk w p cs T) : w.there p 0 cs.length := fun j hj => by
  rw [Nat.zero_add]
  refine ⟨?_, h.free j⟩
  rw [h.cell j (List.getElem?_eq_getElem hj)]; rfl
theorem Bk.setOther (h : Bk w p cs T) {q : Nat} (k : Nat) (v : Value) (e : p ≠ q) : Bk (w.setCell ⟨q, k, Option.none⟩ v) p cs T := h.same (Below.heap_setCell w ⟨q, k, Option.none⟩ v p e)
theorem Bk.putOther (h : Bk w p cs T) {q : Nat} (k : Nat) (vs : List Value) (e : p ≠ q) : Bk (w.setCells q k vs) p cs T := h.same (World.heap_setCells_other w q k vs h.lt e)
theorem Bk.set (h : Bk w p cs T) (k : Nat) (v : Value) : Bk (w.setCell ⟨p, k, Option.none⟩ v) p (cs.set k v) T := by
  unfold Bk at h ⊢
  simp only [World.setCell, Array.getElem?_modify, if_true, h, Option.map_some, Option.some.injEq]
  simp
theorem Bk.puts : ∀ (vs : List Value) {w : World} {pre cs : List Value}, vs.length = cs.length → Bk w p (pre ++ cs) T → Bk (w.setCells p pre.length vs) p (pre ++ vs) T
  | [], w, pre, [], _, h => h
  | v :: r, w, pre, c :: cs, hl, h => by
    have h1 := h.set pre.length v
    have e : (pre ++ c :: cs).set pre.length v = (pre ++ [v]) ++ cs := by simp
    rw [e] at h1
    have h2 := Bk.puts r (pre := pre ++ [v]) (by simpa using hl) h1
    have e2 : (pre ++ [v]).length = pre.length + 1 := by simp
    rw [e2] at h2
    rw [World.setCells]
    have e3 : pre ++ v :: r = (pre ++ [v]) ++ r := by simp
    rw [e3]; exact h2
theorem Bk.putAll (h : Bk w p cs T) (vs : List Value) (hl : vs.length = cs.length) : Bk (w.setCells p 0 vs) p vs T := Bk.puts (pre := []) vs hl h
end
section
variable {P : Program} {ops : Array Oper} {rest : List Oper} {op : Oper} {a : Act} {w : World} {Q : Exit → Act → World → Prop}
/-- A struct is loaded whole. -/
theorem load_bk (hw : Region.wanted op (yielded ops a.tmps) = true) (T : TypeId) (x : Operand) (ho : op.op = .load T x) (b : Nat) (hx : a.eval x = .pointer (some ⟨b, 0, none⟩)) (cs : List Value) (T' : TypeId) (H : Bk w b cs T')
    (d : TypeDesc) (hu : P.underlying T = some d) (hd : d.isRow = true) (hi : (P.info? T).map (·.size) = some cs.length)
    (h : wpList P ops Q rest (a.put op.dst (.agg cs.toArray)) w) : wpList P ops Q (op :: rest) a w :=
  wpList_wanted hw fun _ hK => wp_load_mid T x ho b 0 hx cs d H.range hu hd hi (hK _ _ h)
/-- A struct is stored whole. -/
theorem store_bk (hw : Region.wanted op (yielded ops a.tmps) = true) (T : TypeId) (x y : Operand) (ho : op.op = .store T x y) (b : Nat) (hx : a.eval x = .pointer (some ⟨b, 0, none⟩)) (ms : List Value) (hy : a.eval y = .agg ms.toArray)
    (cs : List Value) (T' : TypeId) (H : Bk w b cs T') (hl : ms.length = cs.length) (h1 : ∀ v ∈ ms, v.oneCell' = true) (hi : (P.info? T).map (·.size) = some ms.length)
    (h : wpList P ops Q rest (a.put op.dst undef) (w.setCells b 0 ms)) : wpList P ops Q (op :: rest) a w :=
  wpList_wanted hw fun _ hK => wp_store_mid T x y ho b 0 ms.toArray hx hy (by simpa [hl] using H.there) (by simpa using hi) (all_oneCell_toArray h1) (hK _ _ h)
/-- A new struct is stored whole. -/
theorem store_newbk (hw : Region.wanted op (yielded ops a.tmps) = true) (T : TypeId) (x y : Operand) (ho : op.op = .store T x y) (W : World) (cs : Array Value) (T' : TypeId) (hW : w = W.alloc (.cells cs T')) (b : Nat) (hb : b = W.heap.size) (ms : List Value) (hx : a.eval x = .pointer (some ⟨b, 0, none⟩)) (hy : a.eval y = .agg ms.toArray)
    (hm : ms.length = cs.size) (h1 : ∀ v ∈ ms, v.oneCell' = true) (hi : (P.info? T).map (·.size) = some cs.size)
    (h : wpList P ops Q rest (a.put op.dst undef) (W.alloc (.cells ms.toArray T'))) : wpList P ops Q (op :: rest) a w := by
  subst hW
  subst hb
  refine wpList_wanted hw fun _ hK => wp_store_mid T x y ho W.heap.size 0 ms.toArray hx hy (by simpa [hm] using there_new W cs T') (by simpa [hm] using hi) (all_oneCell_toArray h1) ?_
  rw [show ms.toArray.toList = ms by simp, put_whole W T' cs ms hm.symm W.heap.size rfl]
  exact hK _ _ h
end
theorem res_bk1 {P : Program} {fn : Func} {p q : Tmp} {T : TypeId} (h : fn.results = #[.cell p T, .tmp q]) (tmps : Array Value) (w : World) (b : Nat) (cs : List Value) (T' : TypeId) (d : TypeDesc) (v : Value)
    (hp : tmps.getD p undef = .pointer (some ⟨b, 0, none⟩)) (hq : tmps.getD q undef = v) (H : Bk w b cs T') (hu : P.underlying T = some d) (hd : d.isRow = true) (hi : (P.info? T).map (·.size) = some cs.length) :
    (results fn tmps).run P w = .ok (.tuple #[.agg cs.toArray, v]) w := by
  have hp' : tmps[p]?.getD undef = .pointer (some ⟨b, 0, none⟩) := by simpa using hp
  have hq' : tmps[q]?.getD undef = v := by simpa using hq
  have hl := run_loadVar_mid (P := P) w b 0 T cs d H.range hu hd hi
  simp [results, h, hp', hq', asAddr, hl]
end Go.Proofs.Ytalngdccjoafhab.base
end

section
namespace Go.Proofs.Ytalngdccjoafhab.base
open Go.ChangeShapes Go.WideShapes Go.ChangeAt Go.RowKit
set_option linter.unusedVariables false
set_option linter.unusedSimpArgs false

/-- The value of a replay. -/
def rpV (ns : List Int) (v : Value) : Value := .agg (rpC ns v).toArray
/-- Block p holds a replay: the rack ns and the pours v. -/
def Ry (w : World) (p : Nat) (ns : List Int) (v : Value) (T : TypeId) : Prop := Bk w p (rpC ns v) T ∧ ns.length = 24
section
variable {w w' : World} {p : Nat} {ns : List Int} {v : Value} {T : TypeId}
theorem Ry.box (w : World) (T : TypeId) (h : ns.length = 24) : Ry (w.alloc (.cells (rpC ns v).toArray T)) w.heap.size ns v T := ⟨Bk.box w _ T, h⟩
theorem Ry.lt (h : Ry w p ns v T) : p < w.heap.size := h.1.lt
theorem Ry.at {q : Nat} (h : Ry w p ns v T) (e : p = q) : Ry w q ns v T := e ▸ h
theorem Ry.alloc (h : Ry w p ns v T) (o : Obj) : Ry (w.alloc o) p ns v T := ⟨h.1.alloc o, h.2⟩
theorem Ry.below (h : Ry w p ns v T) (k : Below w.heap.size w w') : Ry w' p ns v T := ⟨h.1.below k, h.2⟩
theorem Ry.grown (h : Ry w p ns v T) {r : Option Nat} (hg : w.grownBy w' r) (hr : some p ≠ r) : Ry w' p ns v T := ⟨h.1.grown hg hr, h.2⟩
theorem Ry.drew (h : Ry w p ns v T) : Ry w.drew p ns v T := ⟨h.1.drew, h.2⟩
theorem Ry.drewN (h : Ry w p ns v T) (n : Nat) : Ry (w.drewN n) p ns v T := h
theorem Ry.putOther (h : Ry w p ns v T) {q : Nat} (k : Nat) (vs : List Value) (e : p ≠ q) : Ry (w.setCells q k vs) p ns v T := ⟨h.1.putOther k vs e, h.2⟩
theorem Ry.setOther (h : Ry w p ns v T) {q : Nat} (k : Nat) (u : Value) (e : p ≠ q) : Ry (w.setCell ⟨q, k, Option.none⟩ u) p ns v T := ⟨h.1.setOther k u e, h.2⟩
theorem Ry.pours (h : Ry w p ns v T) : w.cell? ⟨p, 24, Option.none⟩ = some v := h.1.cell 24 (rpC_pours h.2 v)
theorem Ry.free (h : Ry w p ns v T) (k : Nat) : w.frozen? ⟨p, k, Option.none⟩ = false := h.1.free k
theorem Ry.start (h : Ry w p ns v T) : w.rangeAt p 0 (ints ns) := fun j u hu => by
  have hj : j < (ints ns).length := (List.getElem?_eq_some_iff.1 hu).1
  rw [Nat.zero_add]
  refine h.1.cell j ?_
  unfold rpC
  rw [List.getElem?_append_left hj]; exact hu
theorem Ry.there (h : Ry w p ns v T) : w.there p 0 24 := fun j hj => h.1.there j (by rw [rpC_len h.2]; omega)
theorem Ry.len (h : Ry w p ns v T) : ns.length = 24 := h.2
/-- The pours are stored anew. -/
theorem Ry.setPours (h : Ry w p ns v T) (u : Value) : Ry (w.setCell ⟨p, 24, Option.none⟩ u) p ns u T := by
  refine ⟨?_, h.2⟩
  have := h.1.set 24 u
  have e : (rpC ns v).set 24 u = rpC ns u := by
    unfold rpC
    rw [List.set_append_right _ _ (by rw [ints_len, h.2]; omega), ints_len, h.2]; rfl
  rw [e] at this; exact this
/-- The rack is stored anew. -/
theorem Ry.setStart (h : Ry w p ns v T) (ms : List Int) (hm : ms.length = 24) : Ry (w.setCells p 0 (ints ms)) p ms v T := by
  refine ⟨?_, hm⟩
  have hb := h.1
  unfold Bk at hb ⊢
  have gen : ∀ (vs : List Value) (W : World) (pre cs post : List Value), vs.length = cs.length → W.heap[p]? = some (.cells (pre ++ cs ++ post).toArray T (0, 0)) → (W.setCells p pre.length vs).heap[p]? = some (.cells (pre ++ vs ++ post).toArray T (0, 0)) := by
    intro vs
    induction vs with
    | nil =>
      intro W pre cs post hl hW
      cases cs with
      | nil => exact hW
      | cons c r => simp at hl
    | cons x r ih =>
      intro W pre cs post hl hW
      cases cs with
      | nil => simp at hl
      | cons c cs =>
        have h1 : Bk (W.setCell ⟨p, pre.length, Option.none⟩ x) p ((pre ++ (c :: cs) ++ post).set pre.length x) T := Bk.set hW pre.length x
        have e : (pre ++ (c :: cs) ++ post).set pre.length x = (pre ++ [x]) ++ cs ++ post := by simp
        rw [e] at h1
        have h2 := ih (W.setCell ⟨p, pre.length, Option.none⟩ x) (pre ++ [x]) cs post (by simpa using hl) h1
        have e2 : (pre ++ [x]).length = pre.length + 1 := by simp
        rw [e2] at h2
        rw [World.setCells]
        have e3 : pre ++ (x :: r) ++ post = (pre ++ [x]) ++ r ++ post := by simp
        rw [e3]; exact h2
  have := gen (ints ms) w [] (ints ns) [v] (by rw [ints_len, ints_len, hm, h.2]) (by simpa [rpC] using hb)
  simpa [rpC] using this
theorem Ry.putAll (h : Ry w p ns v T) (ms : List Int) (u : Value) (hm : ms.length = 24) : Ry (w.setCells p 0 (rpC ms u)) p ms u T := ⟨h.1.putAll _ (by rw [rpC_len hm, rpC_len h.2]), hm⟩
theorem Ry.as {ms : List Int} {u : Value} (h : Ry w p ns v T) (e1 : ns = ms) (e2 : v = u) : Ry w p ms u T := by subst e1; subst e2; exact h
end
def isStY (T : TypeId) : Op → Bool
  | .store t _ _ => t == T
  | _ => false
def isLdY (T : TypeId) : Op → Bool
  | .load t _ => t == T
  | _ => false
def isBdY (T : TypeId) : Op → Bool
  | .build t _ => t == T
  | _ => false
section
variable {P : Program} {ops : Array Oper} {rest : List Oper} {op : Oper} {a : Act} {w : World} {Q : Exit → Act → World → Prop}
theorem guardY (f : Op → Bool) (h : f op.op = true) (g : wpList P ops Q (op :: rest) a w) : wpList P ops Q (op :: rest) a w := g
/-- The rack of a replay is loaded. -/
theorem load_start (hw : Region.wanted op (yielded ops a.tmps) = true) (T : TypeId) (x : Operand) (ho : op.op = .load T x) (b : Nat) (hx : a.eval x = .pointer (some ⟨b, 0, none⟩)) (ns : List Int) (v : Value) (T' : TypeId) (H : Ry w b ns v T')
    (d : TypeDesc) (hu : P.underlying T = some d) (hd : d.isRow = true) (hi : (P.info? T).map (·.size) = some 24)
    (h : wpList P ops Q rest (a.put op.dst (.agg (ints ns).toArray)) w) : wpList P ops Q (op :: rest) a w :=
  wpList_wanted hw fun _ hK => wp_load_mid T x ho b 0 hx (ints ns) d H.start hu hd (by rw [ints_len, H.2]; exact hi) (hK _ _ h)
theorem store_start (hw : Region.wanted op (yielded ops a.tmps) = true) (T : TypeId) (x y : Operand) (ho : op.op = .store T x y) (b : Nat) (ms : List Int) (hx : a.eval x = .pointer (some ⟨b, 0, none⟩)) (hy : a.eval y = .agg (ints ms).toArray)
    (ns : List Int) (v : Value) (T' : TypeId) (H : Ry w b ns v T') (hm : ms.length = 24) (hi : (P.info? T).map (·.size) = some 24)
    (h : wpList P ops Q rest (a.put op.dst undef) (w.setCells b 0 (ints ms))) : wpList P ops Q (op :: rest) a w :=
  store_has hw T x y ho b 0 ms hx hy 24 hm H.there hi h
theorem load_ry (hw : Region.wanted op (yielded ops a.tmps) = true) (T : TypeId) (x : Operand) (ho : op.op = .load T x) (b : Nat) (hx : a.eval x = .pointer (some ⟨b, 0, none⟩)) (ns : List Int) (v : Value) (T' : TypeId) (H : Ry w b ns v T')
    (d : TypeDesc) (hu : P.underlying T = some d) (hd : d.isRow = true) (hi : (P.info? T).map (·.size) = some 25)
    (h : wpList P ops Q rest (a.put op.dst (rpV ns v)) w) : wpList P ops Q (op :: rest) a w :=
  load_bk hw T x ho b hx (rpC ns v) T' H.1 d hu hd (by rw [rpC_len H.2]; exact hi) h
theorem store_ry (hw : Region.wanted op (yielded ops a.tmps) = true) (T : TypeId) (x y : Operand) (ho : op.op = .store T x y) (b : Nat) (hx : a.eval x = .pointer (some ⟨b, 0, none⟩)) (ms : List Int) (u : Value) (hy : a.eval y = rpV ms u)
    (ns : List Int) (v : Value) (T' : TypeId) (H : Ry w b ns v T') (hm : ms.length = 24) (h1 : u.oneCell' = true) (hi : (P.info? T).map (·.size) = some 25)
    (h : wpList P ops Q rest (a.put op.dst undef) (w.setCells b 0 (rpC ms u))) : wpList P ops Q (op :: rest) a w :=
  store_bk hw T x y ho b hx (rpC ms u) hy (rpC ns v) T' H.1 (by rw [rpC_len hm, rpC_len H.2]) (rpC_one ms h1) (by rw [rpC_len hm]; exact hi) h
theorem store_newry (hw : Region.wanted op (yielded ops a.tmps) = true) (T : TypeId) (x y : Operand) (ho : op.op = .store T x y) (W : World) (cs : Array Value) (T' : TypeId) (hW : w = W.alloc (.cells cs T')) (b : Nat) (hb : b = W.heap.size) (ms : List Int) (u : Value) (hx : a.eval x = .pointer (some ⟨b, 0, none⟩)) (hy : a.eval y = rpV ms u)
    (hc : cs.size = 25) (hm : ms.length = 24) (h1 : u.oneCell' = true) (hi : (P.info? T).map (·.size) = some 25)
    (h : wpList P ops Q rest (a.put op.dst undef) (W.alloc (.cells (rpC ms u).toArray T'))) : wpList P ops Q (op :: rest) a w :=
  store_newbk hw T x y ho W cs T' hW b hb (rpC ms u) hx hy (by rw [rpC_len hm, hc]) (rpC_one ms h1) (by rw [hc]; exact hi) h
end
theorem res_ry1 {P : Program} {fn : Func} {p q : Tmp} {T : TypeId} (h : fn.results = #[.cell p T, .tmp q]) (tmps : Array Value) (w : World) (b : Nat) (ns : List Int) (v : Value) (T' : TypeId) (d : TypeDesc) (u : Value)
    (hp : tmps.getD p undef = .pointer (some ⟨b, 0, none⟩)) (hq : tmps.getD q undef = u) (H : Ry w b ns v T') (hu : P.underlying T = some d) (hd : d.isRow = true) (hi : (P.info? T).map (·.size) = some 25) :
    (results fn tmps).run P w = .ok (.tuple #[rpV ns v, u]) w := res_bk1 h tmps w b (rpC ns v) T' d u hp hq H.1 hu hd (by rw [rpC_len H.2]; exact hi)
theorem res_ry {P : Program} {fn : Func} {p : Tmp} {T : TypeId} (h : fn.results = #[.cell p T]) (tmps : Array Value) (w : World) (b : Nat) (ns : List Int) (v : Value) (T' : TypeId) (d : TypeDesc)
    (hp : tmps.getD p undef = .pointer (some ⟨b, 0, none⟩)) (H : Ry w b ns v T') (hu : P.underlying T = some d) (hd : d.isRow = true) (hi : (P.info? T).map (·.size) = some 25) :
    (results fn tmps).run P w = .ok (rpV ns v) w :=
  results_cell_mid h tmps w b (rpC ns v) d hp H.1.range hu hd (by rw [rpC_len H.2]; exact hi)
/-- The cells of a replay that is nothing. -/
def z25 : List Value := rpC z24 (.slice none 0 0)
theorem Ry.zero (w : World) (T : TypeId) : Ry (w.alloc (.cells z25.toArray T)) w.heap.size z24 (.slice none 0 0) T := Ry.box w T rfl
end Go.Proofs.Ytalngdccjoafhab.base
end
