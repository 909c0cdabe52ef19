/-
  A map's entry is made and stored ('m[k]++'): what the two operations give.
-/
import Derived.Test.YtpbfdjiglacbbaaMapV
import Derived.WideKeyEntry
namespace Go.Proofs.Ytpbfdjiglacbbaa.base
open Go.ChangeShapes Go.WideShapes Go.ChangeAt Go.RowKit Go.Maps
set_option linter.unusedVariables false
set_option linter.unusedSimpArgs false

section
variable {P : Program} {w : World} {K : TypeId} {b n L : Nat} {m : List Int → Option Value}
/-- The entry holds what the look-up gives, and making it is as storing that. -/
theorem entry_as_update {t e : TypeId} (KL : Keyed P K) (ht : P.underlying t = some (.map K e)) {z : Value} (hz : ∀ u : World, (zeroValue e).run P u = .ok z u) {es : Array MapEntry} {clock : Nat} {R : Value → Option (DataW Value × List MemPlace)} (hb : w.heap[b]? = some (.map es clock)) (F : WideElems.Fit P K R es clock)
    {key : Value} {kl : Lit} (hkey : keyOf P K key = some kl) :
    ∃ (v : Value) (st : Nat) (w1 : World), (Instr.mapEntry t (.map (some b)) key).run P w = .ok (.tuple #[v, goInt st]) w1 ∧ (Instr.mapUpdate t (.map (some b)) key v).run P w = .ok () w1 ∧ (Instr.lookup t (.map (some b)) key false).run P w = .ok v w := by
  have hks : ∀ x ∈ es.toList, ∃ l, keyOf P K x.key = some l := fun x hx => by
    obtain ⟨y, hy⟩ := F.reads x hx
    exact ⟨_, WideElems.rd_key hy⟩
  rcases KL.find w hkey es.toList hks with ⟨h1, _⟩ | ⟨j, e0, h1, h2, h3⟩
  · refine ⟨z, clock, ChangeMaps.setBlock w b (.map (es.push ⟨key, z, clock⟩) (clock + 1)), ?_, ?_, ?_⟩
    · simp [Instr.mapEntry, run_underlying ht, MapKept.run_getObj_map hb, KL.check w false hkey, h1, hz, MapKept.run_setObj_map _ hb, Result.andThen, ChangeMaps.setBlock]
    · simp [Instr.mapUpdate, run_underlying ht, MapKept.run_getObj_map hb, KL.check w false hkey, h1, MapKept.run_setObj_map _ hb, Result.andThen, ChangeMaps.setBlock]
    · simp [Instr.lookup, run_underlying ht, MapKept.run_getObj_map hb, KL.check w es.isEmpty hkey, h1, hz, Result.andThen]
  · have hj : es[j]? = some e0 := by simpa using h2
    have m1 : es.modify j (fun x => { x with key := key }) = es := by
      apply Array.ext_getElem?
      intro i
      rw [Array.getElem?_modify]
      by_cases hi : j = i
      · subst hi
        rw [if_pos rfl, hj]
        simp only [Option.map_some, Option.some.injEq]
        rw [← h3]
      · rw [if_neg hi]
    have m2 : es.modify j (fun x => { x with key := key, val := e0.val }) = es := by
      apply Array.ext_getElem?
      intro i
      rw [Array.getElem?_modify]
      by_cases hi : j = i
      · subst hi
        rw [if_pos rfl, hj]
        simp only [Option.map_some, Option.some.injEq]
        rw [← h3]
      · rw [if_neg hi]
    refine ⟨e0.val, e0.born, ChangeMaps.setBlock w b (.map es clock), ?_, ?_, ?_⟩
    · simp [Instr.mapEntry, run_underlying ht, MapKept.run_getObj_map hb, KL.check w false hkey, h1, hj, h3, KL.stays w hkey, m1, MapKept.run_setObj_map _ hb, Result.andThen, ChangeMaps.setBlock]
    · simp [Instr.mapUpdate, run_underlying ht, MapKept.run_getObj_map hb, KL.check w false hkey, h1, hj, h3, KL.stays w hkey, m2, MapKept.run_setObj_map _ hb, Result.andThen, ChangeMaps.setBlock]
    · simp [Instr.lookup, run_underlying ht, MapKept.run_getObj_map hb, KL.check w es.isEmpty hkey, h1, Result.andThen]
theorem OwnV.entry {t e : TypeId} (h : OwnV P w K b n L m) (KW : WideMaps.KeyLaw P K) (ht : P.underlying t = some (.map K e)) {z : Value} (hz : ∀ u : World, (zeroValue e).run P u = .ok z u) (hn : n < maxLen) {key : Value} {r : List Int} (hr : KeyRow L r) (hkey : keyOf P K key = some (keyL r)) :
    ∃ (st : Nat) (w1 : World), (Instr.mapEntry t (.map (some b)) key).run P w = .ok (.tuple #[(m r).getD z, goInt st]) w1 ∧ OwnV P w1 K b (if (m r).isSome then n else n + 1) L (mapPut m r ((m r).getD z)) ∧ w.grownBy w1 (some b) ∧
      ∀ val : Value, ∃ w3, (Instr.entryStore t (.map (some b)) (goInt st) val).run P w1 = .ok () w3 ∧ OwnV P w3 K b (if (m r).isSome then n else n + 1) L (mapPut m r val) ∧ w.grownBy w3 (some b) := by
  have KL := Keyed.of_law KW
  have hlook := h.look KL ht (hz w) hr hkey
  have h0 := h
  obtain ⟨D, ⟨es, c, hb, F, hs, hD⟩, h2⟩ := h0
  obtain ⟨v, st, w1, e1, e2, e3⟩ := entry_as_update KL ht hz hb F hkey
  rw [hlook] at e3
  injection e3 with e3 _
  subst e3
  obtain ⟨v', st', es1, clock1, f1, _, f2⟩ := WideElems.entry_then_store KW ht hz hb F hkey
  rw [e1] at f1
  injection f1 with f1 f3
  injection f1 with f1
  have g1 : #[(m r).getD z, goInt st].toList = #[v', goInt st'].toList := congrArg Array.toList f1
  simp only [List.cons.injEq, and_true] at g1
  obtain ⟨w4, s1, s2, s3⟩ := h.store (val := (m r).getD z) KL ht hn hr hkey
  rw [e2] at s1
  injection s1 with _ s1
  subst s1
  refine ⟨st, w1, e1, s2, s3, fun val => ?_⟩
  obtain ⟨es', clock', p1, p2⟩ := f2 w1 val (by rw [f3]; exact ChangeMaps.heap_setBlock_same hb _)
  obtain ⟨w5, q1, q2, q3⟩ := h.store (val := val) KL ht hn hr hkey
  rw [p2] at q1
  injection q1 with _ q1
  rw [← g1.2] at p1
  refine ⟨_, p1, ?_, ?_⟩
  · refine q2.block ?_
    rw [← q1, ChangeMaps.heap_setBlock_same hb, ChangeMaps.heap_setBlock_same (by rw [f3]; exact ChangeMaps.heap_setBlock_same hb _)]
  · refine ⟨?_, ?_, ?_, ?_, fun i hi hne => ?_⟩
    · rw [f3]; rfl
    · rw [f3]; rfl
    · rw [f3]; rfl
    · rw [f3]; simp [ChangeMaps.setBlock]
    · have hib : i ≠ b := fun x => hne (by rw [x])
      rw [f3, ChangeMaps.heap_setBlock_other (by rw [ChangeMaps.heap_setBlock_same hb]) _ hib, ChangeMaps.heap_setBlock_other hb _ hib]
end
section
variable {P : Program} {w w1 : World} {o : Oper} {a : Act} {K : Act → World → Prop} {Q : Exit → Act → World → Prop}
theorem wp_entryV (m x : Operand) (t : TypeId) (hop : o.op = Op.mapEntry t m x) (b : Nat) (hm : a.eval m = .map (some b)) (key : Value) (hx : a.eval x = key) (v : Value) (hrun : (Instr.mapEntry t (.map (some b)) key).run P w = .ok v w1) (h : K (a.put o.dst v) w1) : Oper.wp P o a w K Q := by
  unfold Oper.wp
  simp only [execOp, hop, hm, hx, hrun, Result.andThen, Sem.run_bind, Result.andThen_ok, Sem.run_pure]
  exact h
theorem wp_entryStoreV (m s x : Operand) (t : TypeId) (hop : o.op = Op.entryStore t m s x) (b : Nat) (hm : a.eval m = .map (some b)) (st val : Value) (hs : a.eval s = st) (hx : a.eval x = val) (hrun : (Instr.entryStore t (.map (some b)) st val).run P w = .ok () w1) (h : K (a.put o.dst undef) w1) : Oper.wp P o a w K Q := by
  unfold Oper.wp
  simp only [execOp, hop, hm, hs, hx, hrun, Result.andThen, Sem.run_bind, Result.andThen_ok, Sem.run_pure]
  exact h
theorem wp_lookV {KT e : TypeId} {b n L : Nat} {f : List Int → Option Value} (m x : Operand) (t : TypeId) (hop : o.op = Op.lookup t m x false) (KL : Keyed P KT) (ht : P.underlying t = some (.map KT e)) {z : Value} (hz : (zeroValue e).run P w = .ok z w)
    (hown : OwnV P w KT b n L f) (hm : a.eval m = .map (some b)) (key : Value) (hx : a.eval x = key) (r : List Int) (hr : KeyRow L r) (hkey : keyOf P KT key = some (keyL r)) (h : K (a.put o.dst ((f r).getD z)) w) : Oper.wp P o a w K Q := by
  have hrun := hown.look KL ht hz hr hkey
  unfold Oper.wp
  simp only [execOp, hop, hm, hx, hrun, Result.andThen, Sem.run_bind, Result.andThen_ok, Sem.run_pure]
  exact h
theorem look_runV {ev : Operand → Value} {KT e : TypeId} {b n L : Nat} {f : List Int → Option Value} (m x : Operand) (t : TypeId) (hop : o.op = Op.lookup t m x false) (KL : Keyed P KT) (ht : P.underlying t = some (.map KT e)) {z : Value} (hz : (zeroValue e).run P w = .ok z w)
    (hown : OwnV P w KT b n L f) (hm : ev m = .map (some b)) (key : Value) (hx : ev x = key) (r : List Int) (hr : KeyRow L r) (hkey : keyOf P KT key = some (keyL r)) : (execOp ev o).run P w = .ok (.value ((f r).getD z)) w := by
  have hrun := hown.look KL ht hz hr hkey
  unfold execOp
  simp only [hop, hm, hx, hrun, Sem.run_bind, Result.andThen_ok, Sem.run_pure]
end
end Go.Proofs.Ytpbfdjiglacbbaa.base
