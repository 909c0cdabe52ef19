/-
  A map that a call makes, keyed by arrays of numbers: told by a plain function from keys to values.
-/
import Derived.Test.YtpbfdjiglacbbaaRowOps
import Derived.Maps.OwnSet
import Derived.Maps.Ext
import Derived.DeepKeys4
namespace Go.Proofs.Ytpbfdjiglacbbaa.base
open Go.ChangeShapes Go.WideShapes Go.ChangeAt Go.RowKit Go.Maps
set_option linter.unusedVariables false
set_option linter.unusedSimpArgs false

/-! keys that are rows of numbers -/
def keyL (ns : List Int) : Lit := .string (keyBytes (ns.map (Lit.int .i64)))
def WfL (ns : List Int) : Prop := ∀ z ∈ ns, (Lit.int .i64 z).wf = true
structure KeyRow (L : Nat) (ns : List Int) : Prop where
  len : ns.length = L
  wf : WfL ns
theorem alike_ints : ∀ ns ms : List Int, ns.length = ms.length → Alike (ns.map (Lit.int .i64)) (ms.map (Lit.int .i64))
  | [], [], _ => trivial
  | x :: ns, y :: ms, h => ⟨rfl, alike_ints ns ms (by simpa using h)⟩
  | [], _ :: _, h => by simp at h
  | _ :: _, [], h => by simp at h
theorem keyL_inj {L : Nat} {ns ms : List Int} (hn : KeyRow L ns) (hm : KeyRow L ms) (h : keyL ns = keyL ms) : ns = ms := by
  unfold keyL at h
  injection h with h
  have wf : ∀ l : List Int, WfL l → ∀ a ∈ l.map (Lit.int .i64), a.keyWf := fun l hl a ha => by
    obtain ⟨z, hz, rfl⟩ := List.mem_map.1 ha
    exact hl z hz
  have e := keyBytes_inj (alike_ints ns ms (by rw [hn.len, hm.len])) (wf ns hn.wf) (wf ms hm.wf) h
  have inj : ∀ l l' : List Int, l.map (Lit.int .i64) = l'.map (Lit.int .i64) → l = l' := by
    intro l
    induction l with
    | nil => intro l' h; cases l' with
      | nil => rfl
      | cons _ _ => simp at h
    | cons x r ih => intro l' h; cases l' with
      | nil => simp at h
      | cons y t =>
        simp only [List.map_cons, List.cons.injEq, Lit.int.injEq, true_and] at h
        rw [h.1, ih t h.2]
  exact inj ns ms e

/-- A value reads as itself. -/
def RV (v : Value) : Option (DataW Value × List MemPlace) := some (.held v, [])
/-- Block b is a map with n entries, whose keys are rows of L numbers: m tells the value at each. -/
def OwnV (P : Program) (w : World) (K : TypeId) (b n L : Nat) (m : List Int → Option Value) : Prop :=
  ∃ D : DataW Value, w.ownsMap P K RV b n D ∧ (∀ ns, KeyRow L ns → ∀ z, D.atKey (keyL ns) z = ((m ns).map DataW.held).getD z) ∧ (∀ ns, KeyRow L ns → Maps.has D (keyL ns) = (m ns).isSome) ∧ Maps.size D = n
def mapPut (m : List Int → Option Value) (k : List Int) (v : Value) : List Int → Option Value := fun l => if l = k then some v else m l

section
variable {P : Program} {w : World} {K : TypeId} {b n L : Nat} {m : List Int → Option Value}
theorem OwnV.made (w : World) (P : Program) (K : TypeId) (L : Nat) : OwnV P (w.alloc (.map #[] 0)) K w.heap.size 0 L (fun _ => none) :=
  ⟨.map [], World.ownsMap_made w P K RV, fun l _ z => rfl, fun l _ => rfl, rfl⟩
theorem OwnV.lt (h : OwnV P w K b n L m) : b < w.heap.size := by obtain ⟨D, h, _⟩ := h; exact h.lt
theorem OwnV.grown {w' : World} {r : Option Nat} (h : OwnV P w K b n L m) (hg : w.grownBy w' r) (hne : some b ≠ r) : OwnV P w' K b n L m := by
  obtain ⟨D, h, h2⟩ := h; exact ⟨D, h.kept hg hne, h2⟩
theorem OwnV.alloc (h : OwnV P w K b n L m) (o : Obj) : OwnV P (w.alloc o) K b n L m := by
  obtain ⟨D, h, h2⟩ := h; exact ⟨D, h.alloc o, h2⟩
theorem OwnV.block {w' : World} (h : OwnV P w K b n L m) (e : w'.heap[b]? = w.heap[b]?) : OwnV P w' K b n L m := by
  obtain ⟨D, ⟨es, c, hb, F, hs, hD⟩, h2⟩ := h; exact ⟨D, ⟨es, c, e.trans hb, F, hs, hD⟩, h2⟩
theorem OwnV.below {w' : World} (h : OwnV P w K b n L m) (k : Below w.heap.size w w') : OwnV P w' K b n L m := h.block (k.block b h.lt)
theorem OwnV.drewN (h : OwnV P w K b n L m) (k : Nat) : OwnV P (w.drewN k) K b n L m := h.block rfl
theorem OwnV.set (h : OwnV P w K b n L m) {c : Nat} (k : Nat) (v : Value) (e : b ≠ c) : OwnV P (w.setCell ⟨c, k, none⟩ v) K b n L m := by
  obtain ⟨D, h, h2⟩ := h; exact ⟨D, h.setCell (a := ⟨c, k, none⟩) e v, h2⟩
theorem OwnV.puts {c : Nat} (e : b ≠ c) : ∀ (vs : List Value) (o : Nat) (w : World), OwnV P w K b n L m → OwnV P (w.setCells c o vs) K b n L m
  | [], _, _, h => h
  | v :: r, o, w, h => OwnV.puts e r (o + 1) _ (h.set o v e)
theorem OwnV.as {m' : List Int → Option Value} (h : OwnV P w K b n L m) (e : ∀ ns, KeyRow L ns → m ns = m' ns) : OwnV P w K b n L m' := by
  obtain ⟨D, h, ha, hh, hs⟩ := h
  exact ⟨D, h, fun ns hn z => by rw [ha ns hn, e ns hn], fun ns hn => by rw [hh ns hn, e ns hn], hs⟩
theorem OwnV.len (h : OwnV P w K b n L m) {t e : TypeId} (ht : P.underlying t = some (.map K e)) (ty : TypeId) : (Builtin.len_ #[t] ty #[.map (some b)]).run P w = .ok (.int .i64 n) w := by
  obtain ⟨D, h, _, _, hn⟩ := h; rw [h.len ht ty, hn]

/-- 'm[k] = v' -/
theorem OwnV.store {t e : TypeId} (h : OwnV P w K b n L m) (KL : Keyed P K) (ht : P.underlying t = some (.map K e)) (hn : n < maxLen) {key val : Value} {r : List Int} (hr : KeyRow L r) (hkey : keyOf P K key = some (keyL r)) :
    ∃ w', (Instr.mapUpdate t (.map (some b)) key val).run P w = .ok () w' ∧ OwnV P w' K b (if (m r).isSome then n else n + 1) L (mapPut m r val) ∧ w.grownBy w' (some b) := by
  obtain ⟨D, h, ha, hh, hs⟩ := h
  have hkl := KL.key hkey
  have T := h.tidy KL
  have hz := Maps.size_put (k := keyL r) T (.held val)
  rw [hh r hr, hs] at hz
  obtain ⟨w', hrun, hown, hg⟩ := h.update KL ht hn hkey (d := .held val) (ps := []) rfl
  refine ⟨w', hrun, ⟨_, ?_, ?_, ?_, hz⟩, hg⟩
  · obtain ⟨es, c, hb, F, _, hD⟩ := hown
    refine ⟨es, c, hb, F, ?_, hD⟩
    rw [← hz, hD]
    simp [Maps.size, length_sorted]
  · intro l hl z
    unfold mapPut
    by_cases e : l = r
    · subst e
      rw [if_pos rfl, Maps.atKey_put_same h.isMap hkl]; rfl
    · rw [if_neg e, Maps.atKey_put_other (fun x => e (keyL_inj hl hr x))]; exact ha l hl z
  · intro l hl
    unfold mapPut
    by_cases e : l = r
    · subst e
      rw [if_pos rfl, Maps.has_put_same h.isMap hkl]; rfl
    · rw [if_neg e, Maps.has_put_other (fun x => e (keyL_inj hl hr x))]; exact hh l hl
/-- 'v, ok := m[k]' -/
theorem OwnV.look_ok {t e : TypeId} (h : OwnV P w K b n L m) (KL : Keyed P K) (ht : P.underlying t = some (.map K e)) {z : Value} (hz : (zeroValue e).run P w = .ok z w) {key : Value} {r : List Int} (hr : KeyRow L r) (hkey : keyOf P K key = some (keyL r)) :
    (Instr.lookup t (.map (some b)) key true).run P w = .ok (.tuple #[(m r).getD z, .bool (m r).isSome]) w := by
  obtain ⟨D, h, ha, hh, hs⟩ := h
  obtain ⟨v, ps, hrun, hv⟩ := h.look_ok KL ht hz (zd := .held z) (zp := []) rfl hkey
  rw [ha r hr] at hv
  rw [hh r hr] at hrun
  rw [hrun]
  cases hm : m r with
  | none => rw [hm] at hv; unfold RV at hv; simp at hv; rw [hv.1]; rfl
  | some x => rw [hm] at hv; unfold RV at hv; simp at hv; rw [hv.1]; rfl
/-- 'm[k]' -/
theorem OwnV.look {t e : TypeId} (h : OwnV P w K b n L m) (KL : Keyed P K) (ht : P.underlying t = some (.map K e)) {z : Value} (hz : (zeroValue e).run P w = .ok z w) {key : Value} {r : List Int} (hr : KeyRow L r) (hkey : keyOf P K key = some (keyL r)) :
    (Instr.lookup t (.map (some b)) key false).run P w = .ok ((m r).getD z) w := by
  obtain ⟨D, h, ha, hh, hs⟩ := h
  obtain ⟨v, ps, hrun, hv⟩ := h.lookup KL ht hz (zd := .held z) (zp := []) rfl hkey
  rw [ha r hr] at hv
  rw [hrun]
  cases hm : m r with
  | none => rw [hm] at hv; unfold RV at hv; simp at hv; rw [hv.1]; rfl
  | some x => rw [hm] at hv; unfold RV at hv; simp at hv; rw [hv.1]; rfl
end

section
variable {P : Program} {w : World} {ops : Array Oper} {rest : List Oper} {o : Oper} {a : Act} {Q : Exit → Act → World → Prop}
theorem lookup_okV (hg : o.guard = none) (m x : Operand) (t : TypeId) (hop : o.op = Op.lookup t m x true) (K e : TypeId) (KL : Keyed P K) (ht : P.underlying t = some (.map K e)) {z : Value} (hz : (zeroValue e).run P w = .ok z w)
    (b n L : Nat) (f : List Int → Option Value) (hown : OwnV P w K b n L f) (hm : a.eval m = .map (some b)) (key : Value) (hx : a.eval x = key) (r : List Int) (hr : KeyRow L r) (hkey : keyOf P K key = some (keyL r))
    (h : wpList P ops Q rest (a.put o.dst (.tuple #[(f r).getD z, .bool (f r).isSome])) w) : wpList P ops Q (o :: rest) a w := by
  refine wpList_plain hg fun K' hK' => ?_
  have hrun := hown.look_ok KL ht hz hr hkey
  unfold Oper.wp
  simp only [execOp, hop, hm, hx, hrun, Result.andThen, Sem.run_bind, Result.andThen_ok, Sem.run_pure]
  exact hK' _ _ h
theorem lookupV (hg : o.guard = none) (m x : Operand) (t : TypeId) (hop : o.op = Op.lookup t m x false) (K e : TypeId) (KL : Keyed P K) (ht : P.underlying t = some (.map K e)) {z : Value} (hz : (zeroValue e).run P w = .ok z w)
    (b n L : Nat) (f : List Int → Option Value) (hown : OwnV P w K b n L f) (hm : a.eval m = .map (some b)) (key : Value) (hx : a.eval x = key) (r : List Int) (hr : KeyRow L r) (hkey : keyOf P K key = some (keyL r))
    (h : wpList P ops Q rest (a.put o.dst ((f r).getD z)) w) : wpList P ops Q (o :: rest) a w := by
  refine wpList_plain hg fun K' hK' => ?_
  have hrun := hown.look KL ht hz hr hkey
  unfold Oper.wp
  simp only [execOp, hop, hm, hx, hrun, Result.andThen, Sem.run_bind, Result.andThen_ok, Sem.run_pure]
  exact hK' _ _ h
theorem updateV (hg : o.guard = none) (m x v : Operand) (t : TypeId) (hop : o.op = Op.mapUpdate t m x v) (K e : TypeId) (KL : Keyed P K) (ht : P.underlying t = some (.map K e))
    (b n L : Nat) (f : List Int → Option Value) (hown : OwnV P w K b n L f) (hn : n < maxLen) (hm : a.eval m = .map (some b)) (key val : Value) (hx : a.eval x = key) (hv : a.eval v = val) (r : List Int) (hr : KeyRow L r) (hkey : keyOf P K key = some (keyL r))
    (h : ∀ w', OwnV P w' K b (if (f r).isSome then n else n + 1) L (mapPut f r val) → w.grownBy w' (some b) → wpList P ops Q rest (a.put o.dst undef) w') : wpList P ops Q (o :: rest) a w := by
  refine wpList_plain hg fun K' hK' => ?_
  obtain ⟨w', hrun, r1, r2⟩ := hown.store (val := val) KL ht hn hr hkey
  unfold Oper.wp
  simp only [execOp, hop, hm, hx, hv, hrun, Result.andThen, Sem.run_bind, Result.andThen_ok, Sem.run_pure]
  exact hK' _ _ (h w' r1 r2)
end

section
variable {P : Program}
theorem keyLits_int {e : TypeId} (he : P.underlying e = some (.int .i64)) (d : Nat) (z : Int) (hz : (Lit.int .i64 z).wf = true) : P.keyLits (d + 1) e [.int .i64 z] = some [.int .i64 z] := by
  unfold Program.keyLits
  simp [he, hz]
theorem keyLits_arr {t e : TypeId} {n : Nat} (ht : P.underlying t = some (.array n e)) (d : Nat) (cs : List Value) :
    P.keyLits (d + 1) t cs = if cs.length = P.cellsOf t then ((List.range n).mapM fun i => P.keyLits d e ((cs.drop (i * P.cellsOf e)).take (P.cellsOf e))).map List.flatten else none := by
  conv => lhs; unfold Program.keyLits
  simp only [ht]
theorem mapM_some {α β : Type} (f : α → Option β) (g : α → β) : ∀ l : List α, (∀ x ∈ l, f x = some (g x)) → l.mapM f = some (l.map g)
  | [], _ => by simp
  | x :: r, h => by
    rw [List.mapM_cons, h x (List.mem_cons_self ..), mapM_some f g r (fun y hy => h y (List.mem_cons_of_mem _ hy))]; rfl
theorem keyLits_row {t e : TypeId} {n : Nat} (ht : P.underlying t = some (.array n e)) (he : P.underlying e = some (.int .i64)) (hce : P.cellsOf e = 1) (hct : P.cellsOf t = n) (d : Nat) (ns : List Int) (hl : ns.length = n) (hw : WfL ns) :
    P.keyLits (d + 2) t (ints ns) = some (ns.map (Lit.int .i64)) := by
  rw [keyLits_arr ht]
  simp only [hct, ints_len, hl, if_true, hce, Nat.mul_one]
  rw [mapM_some _ (fun i => [Lit.int .i64 (ns.getD i 0)])]
  · rw [Option.map_some]
    congr 1
    have : (List.range n).map (fun i => [Lit.int .i64 (ns.getD i 0)]) = ((List.range n).map (fun i => ns.getD i 0)).map (fun z => [Lit.int .i64 z]) := by rw [List.map_map]; rfl
    have e2 : (List.range n).map (fun i => ns.getD i 0) = ns := by
      apply List.ext_getElem?
      intro j
      rw [List.getElem?_map]
      by_cases hj : j < n
      · rw [List.getElem?_range hj, List.getElem?_eq_getElem (by omega)]
        show some (ns.getD j 0) = _
        rw [List.getD_eq_getElem?_getD, List.getElem?_eq_getElem (by omega)]; rfl
      · rw [List.getElem?_eq_none (by simp; omega), List.getElem?_eq_none (by omega)]; rfl
    rw [this, e2]
    clear this e2 hw hl
    induction ns with
    | nil => rfl
    | cons z r ih => simp only [List.map_cons, List.flatten_cons, List.singleton_append]; rw [ih]
  · intro i hi
    have hi' : i < ns.length := by rw [hl]; exact List.mem_range.1 hi
    have e1 : ((ints ns).drop i).take 1 = [.int .i64 (ns.getD i 0)] := by
      rw [ints_take, List.drop_eq_getElem_cons hi', List.take_succ_cons, List.take_zero, List.getD_eq_getElem?_getD, List.getElem?_eq_getElem hi']; rfl
    rw [e1]
    refine keyLits_int he d _ (hw _ ?_)
    rw [List.getD_eq_getElem?_getD, List.getElem?_eq_getElem hi']; exact List.getElem_mem hi'
theorem keyLits_rack {t c e : TypeId} (ht : P.underlying t = some (.array 6 c)) (hc : P.underlying c = some (.array 4 e)) (he : P.underlying e = some (.int .i64)) (hce : P.cellsOf e = 1) (hcc : P.cellsOf c = 4) (hct : P.cellsOf t = 24) (d : Nat) (ns : List Int) (hl : ns.length = 24) (hw : WfL ns) :
    P.keyLits (d + 3) t (ints ns) = some (ns.map (Lit.int .i64)) := by
  rw [keyLits_arr ht]
  simp only [hct, ints_len, hl, if_true, hcc]
  rw [mapM_some _ (fun i => (tub ns i).map (Lit.int .i64))]
  · rw [Option.map_some]
    congr 1
    show ([0, 1, 2, 3, 4, 5].map fun i => (tub ns i).map (Lit.int .i64)).flatten = _
    obtain ⟨a0, a1, a2, a3, a4, a5, a6, a7, a8, a9, a10, a11, a12, a13, a14, a15, a16, a17, a18, a19, a20, a21, a22, a23, rfl⟩ : ∃ a0 a1 a2 a3 a4 a5 a6 a7 a8 a9 a10 a11 a12 a13 a14 a15 a16 a17 a18 a19 a20 a21 a22 a23, ns = [a0, a1, a2, a3, a4, a5, a6, a7, a8, a9, a10, a11, a12, a13, a14, a15, a16, a17, a18, a19, a20, a21, a22, a23] := by
      match ns, hl with
      | [a0, a1, a2, a3, a4, a5, a6, a7, a8, a9, a10, a11, a12, a13, a14, a15, a16, a17, a18, a19, a20, a21, a22, a23], _ => exact ⟨a0, a1, a2, a3, a4, a5, a6, a7, a8, a9, a10, a11, a12, a13, a14, a15, a16, a17, a18, a19, a20, a21, a22, a23, rfl⟩
    rfl
  · intro i hi
    have hi' : i < 6 := List.mem_range.1 hi
    rw [ints_take]
    refine keyLits_row hc he hce hcc d (tub ns i) (tub_len ns i hl hi') (fun z hz => hw z ?_)
    unfold tub at hz
    exact List.mem_of_mem_drop (List.mem_of_mem_take hz)
theorem keyOf_row {t e : TypeId} {n : Nat} (ht : P.underlying t = some (.array n e)) (he : P.underlying e = some (.int .i64)) (hce : P.cellsOf e = 1) (hct : P.cellsOf t = n) (hk : P.keyType t = true) (hp : 1 ≤ P.types.size) (ns : List Int) (hl : ns.length = n) (hw : WfL ns) :
    keyOf P t (.agg (ints ns).toArray) = some (keyL ns) := by
  unfold keyOf
  have hf : Value.formed P t (.agg (ints ns).toArray) = true := by
    unfold Value.formed; simp [ht, hct, ints_len, hl]
  simp only [ht, hk, hf, Bool.and_self, if_true]
  have e1 : (Value.agg (ints ns).toArray).cells.toList = ints ns := rfl
  obtain ⟨d, hd⟩ : ∃ d, P.types.size + 1 = d + 2 := ⟨P.types.size - 1, by omega⟩
  rw [e1, hd, keyLits_row ht he hce hct d ns hl hw]; rfl
theorem keyOf_rack {t c e : TypeId} (ht : P.underlying t = some (.array 6 c)) (hc : P.underlying c = some (.array 4 e)) (he : P.underlying e = some (.int .i64)) (hce : P.cellsOf e = 1) (hcc : P.cellsOf c = 4) (hct : P.cellsOf t = 24) (hk : P.keyType t = true) (hp : 2 ≤ P.types.size) (ns : List Int) (hl : ns.length = 24) (hw : WfL ns) :
    keyOf P t (.agg (ints ns).toArray) = some (keyL ns) := by
  unfold keyOf
  have hf : Value.formed P t (.agg (ints ns).toArray) = true := by
    unfold Value.formed; simp [ht, hct, ints_len, hl]
  simp only [ht, hk, hf, Bool.and_self, if_true]
  have e1 : (Value.agg (ints ns).toArray).cells.toList = ints ns := rfl
  obtain ⟨d, hd⟩ : ∃ d, P.types.size + 1 = d + 3 := ⟨P.types.size - 2, by omega⟩
  rw [e1, hd, keyLits_rack ht hc he hce hcc hct d ns hl hw]; rfl
end
end Go.Proofs.Ytpbfdjiglacbbaa.base
