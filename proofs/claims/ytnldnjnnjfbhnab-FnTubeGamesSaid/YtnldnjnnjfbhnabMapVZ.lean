/-
  A map that a call makes, keyed by arrays of numbers: told by a plain function from keys to values.
-/
/-
  Racks as keys of the games' maps: those that have been seen, and values.
-/
/-
  A map's entry is made and stored ('m[k]++'): what the two operations give.
-/
import Derived.Test.YtnldnjnnjfbhnabRowOpsZ
import Derived.Maps.OwnSet
import Derived.Maps.Ext
import Derived.DeepKeys4
import Derived.Test.YtnldnjnnjfbhnabGmV
import Derived.Test.YtnldnjnnjfbhnabTubeWZ
import Derived.WideKeyEntry

section
namespace Go.Proofs.Ytnldnjnnjfbhnab.base
open Go.ChangeShapes Go.WideShapes Go.ChangeAt Go.RowKit Go.Maps
set_option linter.unusedVariables false
set_option linter.unusedSimpArgs false

/-! keys that are rows of numbers -/
def keyL (ns : List Int) : Lit := .string (keyBytes (ns.map (Lit.int .i64)))
def WfL (ns : List Int) : Prop := ∀ z ∈ ns, (Lit.int .i64 z).wf = true
structure KeyRow (L : Nat) (ns : List Int) : Prop where
  len : ns.length = L
  wf : WfL ns
theorem alike_ints : ∀ ns ms : List Int, ns.length = ms.length → Alike (ns.map (Lit.int .i64)) (ms.map (Lit.int .i64))
  | [], [], _ => trivial
  | x :: ns, y :: ms, h => ⟨rfl, alike_ints ns ms (by simpa using h)⟩
  | [], _ :: _, h => by simp at h
  | _ :: _, [], h => by simp at h
theorem keyL_inj {L : Nat} {ns ms : List Int} (hn : KeyRow L ns) (hm : KeyRow L ms) (h : keyL ns = keyL ms) : ns = ms := by
  unfold keyL at h
  injection h with h
  have wf : ∀ l : List Int, WfL l → ∀ a ∈ l.map (Lit.int .i64), a.keyWf := fun l hl a ha => by
    obtain ⟨z, hz, rfl⟩ := List.mem_map.1 ha
    exact hl z hz
  have e := keyBytes_inj (alike_ints ns ms (by rw [hn.len, hm.len])) (wf ns hn.wf) (wf ms hm.wf) h
  have inj : ∀ l l' : List Int, l.map (Lit.int .i64) = l'.map (Lit.int .i64) → l = l' := by
    intro l
    induction l with
    | nil => intro l' h; cases l' with
      | nil => rfl
      | cons _ _ => simp at h
    | cons x r ih => intro l' h; cases l' with
      | nil => simp at h
      | cons y t =>
        simp only [List.map_cons, List.cons.injEq, Lit.int.injEq, true_and] at h
        rw [h.1, ih t h.2]
  exact inj ns ms e

/-- A value reads as itself. -/
def RV (v : Value) : Option (DataW Value × List MemPlace) := some (.held v, [])
/-- Block b is a map with n entries, whose keys are rows of L numbers: m tells the value at each. -/
def OwnV (P : Program) (w : World) (K : TypeId) (b n L : Nat) (m : List Int → Option Value) : Prop :=
  ∃ D : DataW Value, w.ownsMap P K RV b n D ∧ (∀ ns, KeyRow L ns → ∀ z, D.atKey (keyL ns) z = ((m ns).map DataW.held).getD z) ∧ (∀ ns, KeyRow L ns → Maps.has D (keyL ns) = (m ns).isSome) ∧ Maps.size D = n
def mapPut (m : List Int → Option Value) (k : List Int) (v : Value) : List Int → Option Value := fun l => if l = k then some v else m l

section
variable {P : Program} {w : World} {K : TypeId} {b n L : Nat} {m : List Int → Option Value}
theorem OwnV.made (w : World) (P : Program) (K : TypeId) (L : Nat) : OwnV P (w.alloc (.map #[] 0)) K w.heap.size 0 L (fun _ => none) :=
  ⟨.map [], World.ownsMap_made w P K RV, fun l _ z => rfl, fun l _ => rfl, rfl⟩
theorem OwnV.lt (h : OwnV P w K b n L m) : b < w.heap.size := by obtain ⟨D, h, _⟩ := h; exact h.lt
theorem OwnV.grown {w' : World} {r : Option Nat} (h : OwnV P w K b n L m) (hg : w.grownBy w' r) (hne : some b ≠ r) : OwnV P w' K b n L m := by
  obtain ⟨D, h, h2⟩ := h; exact ⟨D, h.kept hg hne, h2⟩
theorem OwnV.alloc (h : OwnV P w K b n L m) (o : Obj) : OwnV P (w.alloc o) K b n L m := by
  obtain ⟨D, h, h2⟩ := h; exact ⟨D, h.alloc o, h2⟩
theorem OwnV.block {w' : World} (h : OwnV P w K b n L m) (e : w'.heap[b]? = w.heap[b]?) : OwnV P w' K b n L m := by
  obtain ⟨D, ⟨es, c, hb, F, hs, hD⟩, h2⟩ := h; exact ⟨D, ⟨es, c, e.trans hb, F, hs, hD⟩, h2⟩
theorem OwnV.below {w' : World} (h : OwnV P w K b n L m) (k : Below w.heap.size w w') : OwnV P w' K b n L m := h.block (k.block b h.lt)
theorem OwnV.drewN (h : OwnV P w K b n L m) (k : Nat) : OwnV P (w.drewN k) K b n L m := h.block rfl
theorem OwnV.set (h : OwnV P w K b n L m) {c : Nat} (k : Nat) (v : Value) (e : b ≠ c) : OwnV P (w.setCell ⟨c, k, none⟩ v) K b n L m := by
  obtain ⟨D, h, h2⟩ := h; exact ⟨D, h.setCell (a := ⟨c, k, none⟩) e v, h2⟩
theorem OwnV.puts {c : Nat} (e : b ≠ c) : ∀ (vs : List Value) (o : Nat) (w : World), OwnV P w K b n L m → OwnV P (w.setCells c o vs) K b n L m
  | [], _, _, h => h
  | v :: r, o, w, h => OwnV.puts e r (o + 1) _ (h.set o v e)
theorem OwnV.as {m' : List Int → Option Value} (h : OwnV P w K b n L m) (e : ∀ ns, KeyRow L ns → m ns = m' ns) : OwnV P w K b n L m' := by
  obtain ⟨D, h, ha, hh, hs⟩ := h
  exact ⟨D, h, fun ns hn z => by rw [ha ns hn, e ns hn], fun ns hn => by rw [hh ns hn, e ns hn], hs⟩
theorem OwnV.len (h : OwnV P w K b n L m) {t e : TypeId} (ht : P.underlying t = some (.map K e)) (ty : TypeId) : (Builtin.len_ #[t] ty #[.map (some b)]).run P w = .ok (.int .i64 n) w := by
  obtain ⟨D, h, _, _, hn⟩ := h; rw [h.len ht ty, hn]

/-- 'm[k] = v' -/
theorem OwnV.store {t e : TypeId} (h : OwnV P w K b n L m) (KL : Keyed P K) (ht : P.underlying t = some (.map K e)) (hn : n < maxLen) {key val : Value} {r : List Int} (hr : KeyRow L r) (hkey : keyOf P K key = some (keyL r)) :
    ∃ w', (Instr.mapUpdate t (.map (some b)) key val).run P w = .ok () w' ∧ OwnV P w' K b (if (m r).isSome then n else n + 1) L (mapPut m r val) ∧ w.grownBy w' (some b) := by
  obtain ⟨D, h, ha, hh, hs⟩ := h
  have hkl := KL.key hkey
  have T := h.tidy KL
  have hz := Maps.size_put (k := keyL r) T (.held val)
  rw [hh r hr, hs] at hz
  obtain ⟨w', hrun, hown, hg⟩ := h.update KL ht hn hkey (d := .held val) (ps := []) rfl
  refine ⟨w', hrun, ⟨_, ?_, ?_, ?_, hz⟩, hg⟩
  · obtain ⟨es, c, hb, F, _, hD⟩ := hown
    refine ⟨es, c, hb, F, ?_, hD⟩
    rw [← hz, hD]
    simp [Maps.size, length_sorted]
  · intro l hl z
    unfold mapPut
    by_cases e : l = r
    · subst e
      rw [if_pos rfl, Maps.atKey_put_same h.isMap hkl]; rfl
    · rw [if_neg e, Maps.atKey_put_other (fun x => e (keyL_inj hl hr x))]; exact ha l hl z
  · intro l hl
    unfold mapPut
    by_cases e : l = r
    · subst e
      rw [if_pos rfl, Maps.has_put_same h.isMap hkl]; rfl
    · rw [if_neg e, Maps.has_put_other (fun x => e (keyL_inj hl hr x))]; exact hh l hl
/-- 'v, ok := m[k]' -/
theorem OwnV.look_ok {t e : TypeId} (h : OwnV P w K b n L m) (KL : Keyed P K) (ht : P.underlying t = some (.map K e)) {z : Value} (hz : (zeroValue e).run P w = .ok z w) {key : Value} {r : List Int} (hr : KeyRow L r) (hkey : keyOf P K key = some (keyL r)) :
    (Instr.lookup t (.map (some b)) key true).run P w = .ok (.tuple #[(m r).getD z, .bool (m r).isSome]) w := by
  obtain ⟨D, h, ha, hh, hs⟩ := h
  obtain ⟨v, ps, hrun, hv⟩ := h.look_ok KL ht hz (zd := .held z) (zp := []) rfl hkey
  rw [ha r hr] at hv
  rw [hh r hr] at hrun
  rw [hrun]
  cases hm : m r with
  | none => rw [hm] at hv; unfold RV at hv; simp at hv; rw [hv.1]; rfl
  | some x => rw [hm] at hv; unfold RV at hv; simp at hv; rw [hv.1]; rfl
/-- 'm[k]' -/
theorem OwnV.look {t e : TypeId} (h : OwnV P w K b n L m) (KL : Keyed P K) (ht : P.underlying t = some (.map K e)) {z : Value} (hz : (zeroValue e).run P w = .ok z w) {key : Value} {r : List Int} (hr : KeyRow L r) (hkey : keyOf P K key = some (keyL r)) :
    (Instr.lookup t (.map (some b)) key false).run P w = .ok ((m r).getD z) w := by
  obtain ⟨D, h, ha, hh, hs⟩ := h
  obtain ⟨v, ps, hrun, hv⟩ := h.lookup KL ht hz (zd := .held z) (zp := []) rfl hkey
  rw [ha r hr] at hv
  rw [hrun]
  cases hm : m r with
  | none => rw [hm] at hv; unfold RV at hv; simp at hv; rw [hv.1]; rfl
  | some x => rw [hm] at hv; unfold RV at hv; simp at hv; rw [hv.1]; rfl
end

section
variable {P : Program} {w : World} {ops : Array Oper} {rest : List Oper} {o : Oper} {a : Act} {Q : Exit → Act → World → Prop}
theorem lookup_okV (hg : o.guard = none) (m x : Operand) (t : TypeId) (hop : o.op = Op.lookup t m x true) (K e : TypeId) (KL : Keyed P K) (ht : P.underlying t = some (.map K e)) {z : Value} (hz : (zeroValue e).run P w = .ok z w)
    (b n L : Nat) (f : List Int → Option Value) (hown : OwnV P w K b n L f) (hm : a.eval m = .map (some b)) (key : Value) (hx : a.eval x = key) (r : List Int) (hr : KeyRow L r) (hkey : keyOf P K key = some (keyL r))
    (h : wpList P ops Q rest (a.put o.dst (.tuple #[(f r).getD z, .bool (f r).isSome])) w) : wpList P ops Q (o :: rest) a w := by
  refine wpList_plain hg fun K' hK' => ?_
  have hrun := hown.look_ok KL ht hz hr hkey
  unfold Oper.wp
  simp only [execOp, hop, hm, hx, hrun, Result.andThen, Sem.run_bind, Result.andThen_ok, Sem.run_pure]
  exact hK' _ _ h
theorem lookupV (hg : o.guard = none) (m x : Operand) (t : TypeId) (hop : o.op = Op.lookup t m x false) (K e : TypeId) (KL : Keyed P K) (ht : P.underlying t = some (.map K e)) {z : Value} (hz : (zeroValue e).run P w = .ok z w)
    (b n L : Nat) (f : List Int → Option Value) (hown : OwnV P w K b n L f) (hm : a.eval m = .map (some b)) (key : Value) (hx : a.eval x = key) (r : List Int) (hr : KeyRow L r) (hkey : keyOf P K key = some (keyL r))
    (h : wpList P ops Q rest (a.put o.dst ((f r).getD z)) w) : wpList P ops Q (o :: rest) a w := by
  refine wpList_plain hg fun K' hK' => ?_
  have hrun := hown.look KL ht hz hr hkey
  unfold Oper.wp
  simp only [execOp, hop, hm, hx, hrun, Result.andThen, Sem.run_bind, Result.andThen_ok, Sem.run_pure]
  exact hK' _ _ h
theorem updateV (hg : o.guard = none) (m x v : Operand) (t : TypeId) (hop : o.op = Op.mapUpdate t m x v) (K e : TypeId) (KL : Keyed P K) (ht : P.underlying t = some (.map K e))
    (b n L : Nat) (f : List Int → Option Value) (hown : OwnV P w K b n L f) (hn : n < maxLen) (hm : a.eval m = .map (some b)) (key val : Value) (hx : a.eval x = key) (hv : a.eval v = val) (r : List Int) (hr : KeyRow L r) (hkey : keyOf P K key = some (keyL r))
    (h : ∀ w', OwnV P w' K b (if (f r).isSome then n else n + 1) L (mapPut f r val) → w.grownBy w' (some b) → wpList P ops Q rest (a.put o.dst undef) w') : wpList P ops Q (o :: rest) a w := by
  refine wpList_plain hg fun K' hK' => ?_
  obtain ⟨w', hrun, r1, r2⟩ := hown.store (val := val) KL ht hn hr hkey
  unfold Oper.wp
  simp only [execOp, hop, hm, hx, hv, hrun, Result.andThen, Sem.run_bind, Result.andThen_ok, Sem.run_pure]
  exact hK' _ _ (h w' r1 r2)
end

section
variable {P : Program}
theorem keyLits_int {e : TypeId} (he : P.underlying e = some (.int .i64)) (d : Nat) (z : Int) (hz : (Lit.int .i64 z).wf = true) : P.keyLits (d + 1) e [.int .i64 z] = some [.int .i64 z] := by
  unfold Program.keyLits
  simp [he, hz]
theorem keyLits_arr {t e : TypeId} {n : Nat} (ht : P.underlying t = some (.array n e)) (d : Nat) (cs : List Value) :
    P.keyLits (d + 1) t cs = if cs.length = P.cellsOf t then ((List.range n).mapM fun i => P.keyLits d e ((cs.drop (i * P.cellsOf e)).take (P.cellsOf e))).map List.flatten else none := by
  conv => lhs; unfold Program.keyLits
  simp only [ht]
theorem mapM_some {α β : Type} (f : α → Option β) (g : α → β) : ∀ l : List α, (∀ x ∈ l, f x = some (g x)) → l.mapM f = some (l.map g)
  | [], _ => by simp
  | x :: r, h => by
    rw [List.mapM_cons, h x (List.mem_cons_self ..), mapM_some f g r (fun y hy => h y (List.mem_cons_of_mem _ hy))]; rfl
theorem keyLits_row {t e : TypeId} {n : Nat} (ht : P.underlying t = some (.array n e)) (he : P.underlying e = some (.int .i64)) (hce : P.cellsOf e = 1) (hct : P.cellsOf t = n) (d : Nat) (ns : List Int) (hl : ns.length = n) (hw : WfL ns) :
    P.keyLits (d + 2) t (ints ns) = some (ns.map (Lit.int .i64)) := by
  rw [keyLits_arr ht]
  simp only [hct, ints_len, hl, if_true, hce, Nat.mul_one]
  rw [mapM_some _ (fun i => [Lit.int .i64 (ns.getD i 0)])]
  · rw [Option.map_some]
    congr 1
    have : (List.range n).map (fun i => [Lit.int .i64 (ns.getD i 0)]) = ((List.range n).map (fun i => ns.getD i 0)).map (fun z => [Lit.int .i64 z]) := by rw [List.map_map]; rfl
    have e2 : (List.range n).map (fun i => ns.getD i 0) = ns := by
      apply List.ext_getElem?
      intro j
      rw [List.getElem?_map]
      by_cases hj : j < n
      · rw [List.getElem?_range hj, List.getElem?_eq_getElem (by omega)]
        show some (ns.getD j 0) = _
        rw [List.getD_eq_getElem?_getD, List.getElem?_eq_getElem (by omega)]; rfl
      · rw [List.getElem?_eq_none (by simp; omega), List.getElem?_eq_none (by omega)]; rfl
    rw [this, e2]
    clear this e2 hw hl
    induction ns with
    | nil => rfl
    | cons z r ih => simp only [List.map_cons, List.flatten_cons, List.singleton_append]; rw [ih]
  · intro i hi
    have hi' : i < ns.length := by rw [hl]; exact List.mem_range.1 hi
    have e1 : ((ints ns).drop i).take 1 = [.int .i64 (ns.getD i 0)] := by
      rw [ints_take, List.drop_eq_getElem_cons hi', List.take_succ_cons, List.take_zero, List.getD_eq_getElem?_getD, List.getElem?_eq_getElem hi']; rfl
    rw [e1]
    refine keyLits_int he d _ (hw _ ?_)
    rw [List.getD_eq_getElem?_getD, List.getElem?_eq_getElem hi']; exact List.getElem_mem hi'
theorem keyLits_rack {t c e : TypeId} (ht : P.underlying t = some (.array 6 c)) (hc : P.underlying c = some (.array 4 e)) (he : P.underlying e = some (.int .i64)) (hce : P.cellsOf e = 1) (hcc : P.cellsOf c = 4) (hct : P.cellsOf t = 24) (d : Nat) (ns : List Int) (hl : ns.length = 24) (hw : WfL ns) :
    P.keyLits (d + 3) t (ints ns) = some (ns.map (Lit.int .i64)) := by
  rw [keyLits_arr ht]
  simp only [hct, ints_len, hl, if_true, hcc]
  rw [mapM_some _ (fun i => (tub ns i).map (Lit.int .i64))]
  · rw [Option.map_some]
    congr 1
    show ([0, 1, 2, 3, 4, 5].map fun i => (tub ns i).map (Lit.int .i64)).flatten = _
    obtain ⟨a0, a1, a2, a3, a4, a5, a6, a7, a8, a9, a10, a11, a12, a13, a14, a15, a16, a17, a18, a19, a20, a21, a22, a23, rfl⟩ : ∃ a0 a1 a2 a3 a4 a5 a6 a7 a8 a9 a10 a11 a12 a13 a14 a15 a16 a17 a18 a19 a20 a21 a22 a23, ns = [a0, a1, a2, a3, a4, a5, a6, a7, a8, a9, a10, a11, a12, a13, a14, a15, a16, a17, a18, a19, a20, a21, a22, a23] := by
      match ns, hl with
      | [a0, a1, a2, a3, a4, a5, a6, a7, a8, a9, a10, a11, a12, a13, a14, a15, a16, a17, a18, a19, a20, a21, a22, a23], _ => exact ⟨a0, a1, a2, a3, a4, a5, a6, a7, a8, a9, a10, a11, a12, a13, a14, a15, a16, a17, a18, a19, a20, a21, a22, a23, rfl⟩
    rfl
  · intro i hi
    have hi' : i < 6 := List.mem_range.1 hi
    rw [ints_take]
    refine keyLits_row hc he hce hcc d (tub ns i) (tub_len ns i hl hi') (fun z hz => hw z ?_)
    unfold tub at hz
    exact List.mem_of_mem_drop (List.mem_of_mem_take hz)
theorem keyOf_row {t e : TypeId} {n : Nat} (ht : P.underlying t = some (.array n e)) (he : P.underlying e = some (.int .i64)) (hce : P.cellsOf e = 1) (hct : P.cellsOf t = n) (hk : P.keyType t = true) (hp : 1 ≤ P.types.size) (ns : List Int) (hl : ns.length = n) (hw : WfL ns) :
    keyOf P t (.agg (ints ns).toArray) = some (keyL ns) := by
  unfold keyOf
  have hf : Value.formed P t (.agg (ints ns).toArray) = true := by
    unfold Value.formed; simp [ht, hct, ints_len, hl]
  simp only [ht, hk, hf, Bool.and_self, if_true]
  have e1 : (Value.agg (ints ns).toArray).cells.toList = ints ns := rfl
  obtain ⟨d, hd⟩ : ∃ d, P.types.size + 1 = d + 2 := ⟨P.types.size - 1, by omega⟩
  rw [e1, hd, keyLits_row ht he hce hct d ns hl hw]; rfl
theorem keyOf_rack {t c e : TypeId} (ht : P.underlying t = some (.array 6 c)) (hc : P.underlying c = some (.array 4 e)) (he : P.underlying e = some (.int .i64)) (hce : P.cellsOf e = 1) (hcc : P.cellsOf c = 4) (hct : P.cellsOf t = 24) (hk : P.keyType t = true) (hp : 2 ≤ P.types.size) (ns : List Int) (hl : ns.length = 24) (hw : WfL ns) :
    keyOf P t (.agg (ints ns).toArray) = some (keyL ns) := by
  unfold keyOf
  have hf : Value.formed P t (.agg (ints ns).toArray) = true := by
    unfold Value.formed; simp [ht, hct, ints_len, hl]
  simp only [ht, hk, hf, Bool.and_self, if_true]
  have e1 : (Value.agg (ints ns).toArray).cells.toList = ints ns := rfl
  obtain ⟨d, hd⟩ : ∃ d, P.types.size + 1 = d + 3 := ⟨P.types.size - 2, by omega⟩
  rw [e1, hd, keyLits_rack ht hc he hce hcc hct d ns hl hw]; rfl
end
end Go.Proofs.Ytnldnjnnjfbhnab.base
end

section
namespace Go.Proofs.Ytnldnjnnjfbhnab.base
open Go.ChangeShapes Go.WideShapes Go.ChangeAt Go.RowKit Go.Maps
set_option linter.unusedVariables false
set_option linter.unusedSimpArgs false
theorem wf_lit8G {z : Int} (h0 : 0 ≤ z) (h5 : z ≤ 5) : (Lit.int .i64 z).wf = true := by
  simp only [Lit.wf, IntKind.min, IntKind.max, IntKind.signed, IntKind.bits, Bool.and_eq_true, decide_eq_true_eq, if_true]
  omega
theorem rack_row8G {ns : List Int} (h24 : ns.length = 24) (hv : vR ns = true) : KeyRow 24 ns := by
  refine ⟨h24, fun z hz => ?_⟩
  obtain ⟨j, hj, e⟩ := List.mem_iff_getElem.1 hz
  have hp : j / 4 < 6 := by omega
  have h4 := tub_len ns (j / 4) h24 hp
  have hk : known (tub ns (j / 4)) = true := by have := vR_tub hv (j / 4) hp; unfold vT at this; exact (Bool.and_eq_true_iff.1 this).1
  have hm : z ∈ tub ns (j / 4) := by
    have g : (tub ns (j / 4)).getD (j % 4) 0 = z := by
      rw [tub_getD ns _ _ (by omega), Nat.div_add_mod', List.getD_eq_getElem?_getD, List.getElem?_eq_getElem hj, Option.getD_some, e]
    rw [← g, List.getD_eq_getElem?_getD, List.getElem?_eq_getElem (by omega)]
    exact List.getElem_mem _
  have := of_decide_eq_true (List.all_eq_true.1 hk z hm)
  exact wf_lit8G this.1 this.2
theorem keyLits_stG {P : Program} {T t c e : TypeId} {f : Field} (hT : P.underlying T = some (.struct #[f])) (hn : (f.name != "_") = true) (ho : f.offset = 0) (hf : f.type = t) (ht : P.underlying t = some (.array 6 c)) (hc : P.underlying c = some (.array 4 e)) (he : P.underlying e = some (.int .i64)) (hce : P.cellsOf e = 1) (hcc : P.cellsOf c = 4) (hct : P.cellsOf t = 24) (hcT : P.cellsOf T = 24) (d : Nat) (ns : List Int) (hl : ns.length = 24) (hw : WfL ns) :
    P.keyLits (d + 4) T (ints ns) = some (ns.map (Lit.int .i64)) := by
  have hk := keyLits_rack ht hc he hce hcc hct d ns hl hw
  have hlen : (ints ns).length = 24 := by rw [ints_len]; exact hl
  conv => lhs; unfold Program.keyLits
  have e1 : List.take 24 (ints ns) = ints ns := List.take_of_length_le (by omega)
  simp [hT, hcT, hlen, hn, ho, hf, hct, e1, hk]
theorem keyOf_stG {P : Program} {T t c e : TypeId} {f : Field} (hT : P.underlying T = some (.struct #[f])) (hn : (f.name != "_") = true) (ho : f.offset = 0) (hf : f.type = t) (ht : P.underlying t = some (.array 6 c)) (hc : P.underlying c = some (.array 4 e)) (he : P.underlying e = some (.int .i64)) (hce : P.cellsOf e = 1) (hcc : P.cellsOf c = 4) (hct : P.cellsOf t = 24) (hcT : P.cellsOf T = 24) (hk : P.keyType T = true) (hp : 3 ≤ P.types.size) (ns : List Int) (hl : ns.length = 24) (hw : WfL ns) :
    keyOf P T (.agg (ints ns).toArray) = some (keyL ns) := by
  unfold keyOf
  have hfm : Value.formed P T (.agg (ints ns).toArray) = true := by
    unfold Value.formed; simp [hT, hcT, ints_len, hl]
  simp only [hT, hk, hfm, Bool.and_self, if_true]
  have e1 : (Value.agg (ints ns).toArray).cells.toList = ints ns := rfl
  obtain ⟨d, hd⟩ : ∃ d, P.types.size + 1 = d + 4 := ⟨P.types.size - 3, by omega⟩
  rw [e1, hd, keyLits_stG hT hn ho hf ht hc he hce hcc hct hcT d ns hl hw]; rfl
theorem rackLaw8G : WideMaps.KeyLaw Try.prog 27 := deep_law_laid (by kernel_rfl) (m := 4) (by omega) (of_decide_eq_true (by kernel_rfl)) (by kernel_rfl) (by rw [Try.underlying27])
theorem rackKeyed8G : Go.Maps.Keyed Try.prog 27 := Go.Maps.Keyed.of_law rackLaw8G
theorem rack_key8G {ns : List Int} (h : KeyRow 24 ns) : keyOf Try.prog 27 (.agg (ints ns).toArray) = some (keyL ns) :=
  keyOf_stG Try.underlying27 (by decide) rfl rfl Try.underlying25 Try.underlying24 Try.underlying3 (by kernel_rfl) (by kernel_rfl) (by kernel_rfl) (by kernel_rfl) (by kernel_rfl) (of_decide_eq_true (by kernel_rfl)) ns h.len h.wf
theorem zeroBool8G (u : World) : (zeroValue 4).run Try.prog u = .ok (.bool false) u := by kernel_rfl
def seenRG (fs : List (List Int)) : List Int → Option Value := fun l => if l ∈ fs then some (.bool true) else none
theorem seenR_getG (fs : List (List Int)) (l : List Int) : (seenRG fs l).getD (.bool false) = .bool (decide (l ∈ fs)) := by
  unfold seenRG
  by_cases h : l ∈ fs
  · rw [if_pos h, decide_eq_true h]; rfl
  · rw [if_neg h, decide_eq_false h]; rfl
theorem seenR_putG (fs : List (List Int)) (t : List Int) (h : t ∉ fs) : (if (seenRG fs t).isSome then fs.length else fs.length + 1) = (fs ++ [t]).length ∧ ∀ l, mapPut (seenRG fs) t (.bool true) l = seenRG (fs ++ [t]) l := by
  unfold seenRG
  rw [if_neg h]
  refine ⟨by simp, fun l => ?_⟩
  unfold mapPut
  by_cases e : l = t
  · subst e; rw [if_pos rfl, if_pos (List.mem_append_right _ (List.mem_singleton.2 rfl))]
  · rw [if_neg e]
    show (if l ∈ fs then some (Value.bool true) else none) = _
    by_cases h2 : l ∈ fs
    · rw [if_pos h2, if_pos (List.mem_append_left _ h2)]
    · rw [if_neg h2, if_neg]
      intro h3
      rcases List.mem_append.1 h3 with h4 | h4
      · exact h2 h4
      · exact e (List.mem_singleton.1 h4)

def valF (K : List (List Int)) (V : List Int → Int) : List Int → Option Value := fun l => if l ∈ K then some (.int .i64 (V l)) else none
theorem valF_get {K : List (List Int)} {V : List Int → Int} (h : ∀ l, l ∉ K → V l = 0) (l : List Int) : (valF K V l).getD (.int .i64 0) = .int .i64 (V l) := by
  unfold valF
  by_cases hl : l ∈ K
  · rw [if_pos hl]; rfl
  · rw [if_neg hl, h l hl]; rfl
theorem zeroIntG (u : World) : (zeroValue 3).run Try.prog u = .ok (.int .i64 0) u := by kernel_rfl
/-- The values of the first i racks, and one more. -/
theorem valF_put (pt : List Int → Nat → Int) (no : Int) (V : List Int → Int) {L : List (List Int)} (hn : L.Nodup) {i : Nat} (h : i < L.length) :
    (if (valF (L.take i) (vI pt no V L i) (L.getD i [])).isSome then (L.take i).length else (L.take i).length + 1) = (L.take (i + 1)).length ∧
    ∀ l, mapPut (valF (L.take i) (vI pt no V L i)) (L.getD i []) (.int .i64 (gbest pt no V (L.getD i []))) l = valF (L.take (i + 1)) (vI pt no V L (i + 1)) l := by
  have hnew := take_newG hn h
  have e := take_oneG h
  refine ⟨?_, fun l => ?_⟩
  · have : valF (L.take i) (vI pt no V L i) (L.getD i []) = none := by unfold valF; rw [if_neg hnew]
    rw [this, e, List.length_append, List.length_singleton]; rfl
  · unfold mapPut
    by_cases hl : l = L.getD i []
    · subst hl
      rw [if_pos rfl]
      have hm : L.getD i [] ∈ L.take (i + 1) := by rw [e]; exact List.mem_append_right _ (List.mem_singleton.2 rfl)
      unfold valF vI nxV
      rw [if_pos hm, if_pos hm]
    · rw [if_neg hl]
      have hm : l ∈ L.take (i + 1) ↔ l ∈ L.take i := by
        rw [e, List.mem_append, List.mem_singleton]
        exact ⟨fun h => h.elim id (fun h => absurd h hl), .inl⟩
      unfold valF vI nxV
      by_cases h2 : l ∈ L.take i
      · rw [if_pos h2, if_pos (hm.2 h2), if_pos h2, if_pos (hm.2 h2)]
      · rw [if_neg h2, if_neg (fun h => h2 (hm.1 h))]
theorem mapSet_grown {w : World} {b : Nat} (o : Obj) : w.grownBy { w with heap := w.heap.setIfInBounds b o } (some b) :=
  ⟨rfl, rfl, rfl, by simp, fun i hi hn => by
    show (w.heap.setIfInBounds b o)[i]? = w.heap[i]?
    rw [Array.getElem?_setIfInBounds_ne (fun e => hn (by rw [e]))]⟩
/-- clear of a map. -/
theorem OwnV.clear {P : Program} {w : World} {K : TypeId} {b n L : Nat} {m : List Int → Option Value} (h : OwnV P w K b n L m) {t kt e : TypeId} (ht : P.underlying t = some (.map kt e)) :
    ∃ w', (∀ ty, (Builtin.clear_ #[t] ty #[.map (some b)]).run P w = .ok (.tuple #[]) w') ∧ OwnV P w' K b 0 L (fun _ => none) ∧ w.grownBy w' (some b) ∧ w'.heap.size = w.heap.size := by
  obtain ⟨D, ⟨es, c, hb, F, hs, hD⟩, h2⟩ := h
  refine ⟨{ w with heap := w.heap.setIfInBounds b (.map #[] c) }, fun ty => ?_, ?_, mapSet_grown _, by simp⟩
  · simp [Builtin.clear_, run_underlying ht, MapKept.run_getObj_map hb, MapKept.run_setObj_map _ hb, Result.andThen]
  · exact ⟨.map [], ⟨#[], c, (MapKept.heap_set hb).1, ⟨by simp, MapKept.stamped_empty c, by simp⟩, Nat.le_refl _, rfl⟩, fun l _ z => rfl, fun l _ => rfl, rfl⟩
end Go.Proofs.Ytnldnjnnjfbhnab.base
end

section
namespace Go.Proofs.Ytnldnjnnjfbhnab.base
open Go.ChangeShapes Go.WideShapes Go.ChangeAt Go.RowKit Go.Maps
set_option linter.unusedVariables false
set_option linter.unusedSimpArgs false

section
variable {P : Program} {w : World} {K : TypeId} {b n L : Nat} {m : List Int → Option Value}
/-- The entry holds what the look-up gives, and making it is as storing that. -/
theorem entry_as_update {t e : TypeId} (KL : Keyed P K) (ht : P.underlying t = some (.map K e)) {z : Value} (hz : ∀ u : World, (zeroValue e).run P u = .ok z u) {es : Array MapEntry} {clock : Nat} {R : Value → Option (DataW Value × List MemPlace)} (hb : w.heap[b]? = some (.map es clock)) (F : WideElems.Fit P K R es clock)
    {key : Value} {kl : Lit} (hkey : keyOf P K key = some kl) :
    ∃ (v : Value) (st : Nat) (w1 : World), (Instr.mapEntry t (.map (some b)) key).run P w = .ok (.tuple #[v, goInt st]) w1 ∧ (Instr.mapUpdate t (.map (some b)) key v).run P w = .ok () w1 ∧ (Instr.lookup t (.map (some b)) key false).run P w = .ok v w := by
  have hks : ∀ x ∈ es.toList, ∃ l, keyOf P K x.key = some l := fun x hx => by
    obtain ⟨y, hy⟩ := F.reads x hx
    exact ⟨_, WideElems.rd_key hy⟩
  rcases KL.find w hkey es.toList hks with ⟨h1, _⟩ | ⟨j, e0, h1, h2, h3⟩
  · refine ⟨z, clock, ChangeMaps.setBlock w b (.map (es.push ⟨key, z, clock⟩) (clock + 1)), ?_, ?_, ?_⟩
    · simp [Instr.mapEntry, run_underlying ht, MapKept.run_getObj_map hb, KL.check w false hkey, h1, hz, MapKept.run_setObj_map _ hb, Result.andThen, ChangeMaps.setBlock]
    · simp [Instr.mapUpdate, run_underlying ht, MapKept.run_getObj_map hb, KL.check w false hkey, h1, MapKept.run_setObj_map _ hb, Result.andThen, ChangeMaps.setBlock]
    · simp [Instr.lookup, run_underlying ht, MapKept.run_getObj_map hb, KL.check w es.isEmpty hkey, h1, hz, Result.andThen]
  · have hj : es[j]? = some e0 := by simpa using h2
    have m1 : es.modify j (fun x => { x with key := key }) = es := by
      apply Array.ext_getElem?
      intro i
      rw [Array.getElem?_modify]
      by_cases hi : j = i
      · subst hi
        rw [if_pos rfl, hj]
        simp only [Option.map_some, Option.some.injEq]
        rw [← h3]
      · rw [if_neg hi]
    have m2 : es.modify j (fun x => { x with key := key, val := e0.val }) = es := by
      apply Array.ext_getElem?
      intro i
      rw [Array.getElem?_modify]
      by_cases hi : j = i
      · subst hi
        rw [if_pos rfl, hj]
        simp only [Option.map_some, Option.some.injEq]
        rw [← h3]
      · rw [if_neg hi]
    refine ⟨e0.val, e0.born, ChangeMaps.setBlock w b (.map es clock), ?_, ?_, ?_⟩
    · simp [Instr.mapEntry, run_underlying ht, MapKept.run_getObj_map hb, KL.check w false hkey, h1, hj, h3, KL.stays w hkey, m1, MapKept.run_setObj_map _ hb, Result.andThen, ChangeMaps.setBlock]
    · simp [Instr.mapUpdate, run_underlying ht, MapKept.run_getObj_map hb, KL.check w false hkey, h1, hj, h3, KL.stays w hkey, m2, MapKept.run_setObj_map _ hb, Result.andThen, ChangeMaps.setBlock]
    · simp [Instr.lookup, run_underlying ht, MapKept.run_getObj_map hb, KL.check w es.isEmpty hkey, h1, Result.andThen]
theorem OwnV.entry {t e : TypeId} (h : OwnV P w K b n L m) (KW : WideMaps.KeyLaw P K) (ht : P.underlying t = some (.map K e)) {z : Value} (hz : ∀ u : World, (zeroValue e).run P u = .ok z u) (hn : n < maxLen) {key : Value} {r : List Int} (hr : KeyRow L r) (hkey : keyOf P K key = some (keyL r)) :
    ∃ (st : Nat) (w1 : World), (Instr.mapEntry t (.map (some b)) key).run P w = .ok (.tuple #[(m r).getD z, goInt st]) w1 ∧ OwnV P w1 K b (if (m r).isSome then n else n + 1) L (mapPut m r ((m r).getD z)) ∧ w.grownBy w1 (some b) ∧
      ∀ val : Value, ∃ w3, (Instr.entryStore t (.map (some b)) (goInt st) val).run P w1 = .ok () w3 ∧ OwnV P w3 K b (if (m r).isSome then n else n + 1) L (mapPut m r val) ∧ w.grownBy w3 (some b) := by
  have KL := Keyed.of_law KW
  have hlook := h.look KL ht (hz w) hr hkey
  have h0 := h
  obtain ⟨D, ⟨es, c, hb, F, hs, hD⟩, h2⟩ := h0
  obtain ⟨v, st, w1, e1, e2, e3⟩ := entry_as_update KL ht hz hb F hkey
  rw [hlook] at e3
  injection e3 with e3 _
  subst e3
  obtain ⟨v', st', es1, clock1, f1, _, f2⟩ := WideElems.entry_then_store KW ht hz hb F hkey
  rw [e1] at f1
  injection f1 with f1 f3
  injection f1 with f1
  have g1 : #[(m r).getD z, goInt st].toList = #[v', goInt st'].toList := congrArg Array.toList f1
  simp only [List.cons.injEq, and_true] at g1
  obtain ⟨w4, s1, s2, s3⟩ := h.store (val := (m r).getD z) KL ht hn hr hkey
  rw [e2] at s1
  injection s1 with _ s1
  subst s1
  refine ⟨st, w1, e1, s2, s3, fun val => ?_⟩
  obtain ⟨es', clock', p1, p2⟩ := f2 w1 val (by rw [f3]; exact ChangeMaps.heap_setBlock_same hb _)
  obtain ⟨w5, q1, q2, q3⟩ := h.store (val := val) KL ht hn hr hkey
  rw [p2] at q1
  injection q1 with _ q1
  rw [← g1.2] at p1
  refine ⟨_, p1, ?_, ?_⟩
  · refine q2.block ?_
    rw [← q1, ChangeMaps.heap_setBlock_same hb, ChangeMaps.heap_setBlock_same (by rw [f3]; exact ChangeMaps.heap_setBlock_same hb _)]
  · refine ⟨?_, ?_, ?_, ?_, fun i hi hne => ?_⟩
    · rw [f3]; rfl
    · rw [f3]; rfl
    · rw [f3]; rfl
    · rw [f3]; simp [ChangeMaps.setBlock]
    · have hib : i ≠ b := fun x => hne (by rw [x])
      rw [f3, ChangeMaps.heap_setBlock_other (by rw [ChangeMaps.heap_setBlock_same hb]) _ hib, ChangeMaps.heap_setBlock_other hb _ hib]
end
section
variable {P : Program} {w w1 : World} {o : Oper} {a : Act} {K : Act → World → Prop} {Q : Exit → Act → World → Prop}
theorem wp_entryV (m x : Operand) (t : TypeId) (hop : o.op = Op.mapEntry t m x) (b : Nat) (hm : a.eval m = .map (some b)) (key : Value) (hx : a.eval x = key) (v : Value) (hrun : (Instr.mapEntry t (.map (some b)) key).run P w = .ok v w1) (h : K (a.put o.dst v) w1) : Oper.wp P o a w K Q := by
  unfold Oper.wp
  simp only [execOp, hop, hm, hx, hrun, Result.andThen, Sem.run_bind, Result.andThen_ok, Sem.run_pure]
  exact h
theorem wp_entryStoreV (m s x : Operand) (t : TypeId) (hop : o.op = Op.entryStore t m s x) (b : Nat) (hm : a.eval m = .map (some b)) (st val : Value) (hs : a.eval s = st) (hx : a.eval x = val) (hrun : (Instr.entryStore t (.map (some b)) st val).run P w = .ok () w1) (h : K (a.put o.dst undef) w1) : Oper.wp P o a w K Q := by
  unfold Oper.wp
  simp only [execOp, hop, hm, hs, hx, hrun, Result.andThen, Sem.run_bind, Result.andThen_ok, Sem.run_pure]
  exact h
theorem wp_lookV {KT e : TypeId} {b n L : Nat} {f : List Int → Option Value} (m x : Operand) (t : TypeId) (hop : o.op = Op.lookup t m x false) (KL : Keyed P KT) (ht : P.underlying t = some (.map KT e)) {z : Value} (hz : (zeroValue e).run P w = .ok z w)
    (hown : OwnV P w KT b n L f) (hm : a.eval m = .map (some b)) (key : Value) (hx : a.eval x = key) (r : List Int) (hr : KeyRow L r) (hkey : keyOf P KT key = some (keyL r)) (h : K (a.put o.dst ((f r).getD z)) w) : Oper.wp P o a w K Q := by
  have hrun := hown.look KL ht hz hr hkey
  unfold Oper.wp
  simp only [execOp, hop, hm, hx, hrun, Result.andThen, Sem.run_bind, Result.andThen_ok, Sem.run_pure]
  exact h
theorem look_runV {ev : Operand → Value} {KT e : TypeId} {b n L : Nat} {f : List Int → Option Value} (m x : Operand) (t : TypeId) (hop : o.op = Op.lookup t m x false) (KL : Keyed P KT) (ht : P.underlying t = some (.map KT e)) {z : Value} (hz : (zeroValue e).run P w = .ok z w)
    (hown : OwnV P w KT b n L f) (hm : ev m = .map (some b)) (key : Value) (hx : ev x = key) (r : List Int) (hr : KeyRow L r) (hkey : keyOf P KT key = some (keyL r)) : (execOp ev o).run P w = .ok (.value ((f r).getD z)) w := by
  have hrun := hown.look KL ht hz hr hkey
  unfold execOp
  simp only [hop, hm, hx, hrun, Sem.run_bind, Result.andThen_ok, Sem.run_pure]
end
end Go.Proofs.Ytnldnjnnjfbhnab.base
end
