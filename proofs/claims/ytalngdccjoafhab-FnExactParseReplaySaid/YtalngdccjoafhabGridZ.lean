/-
  Rows of arrays of numbers that are the call's own: what they hold, one item read, one item more.
-/
/-
  A row of one array is made, and put behind a row: in a region's own form.
-/
import Derived.Test.YtalngdccjoafhabRowOpsZ
import Derived.Deep.AppendLies
import Derived.Laws.OwnMore
import Derived.Deep.Upon
import Derived.Great.BuildSlice

section
namespace Go.Proofs.Ytalngdccjoafhab.base
open Go.ChangeShapes Go.WideShapes Go.ChangeAt Go.RowKit
set_option linter.unusedVariables false
set_option linter.unusedSimpArgs false

/-- The value v is a row of arrays of m numbers, ls, in blocks from b on. -/
structure Gr (w : World) (b : Nat) (t : TypeId) (m : Nat) (v : Value) (ls : List (List Int)) : Prop where
  row : w.ownsRow b t m v ls.length (ints ls.flatten)
  lens : ∀ l ∈ ls, l.length = m

theorem flat_len {m : Nat} : ∀ ls : List (List Int), (∀ l ∈ ls, l.length = m) → ls.flatten.length = ls.length * m
  | [], _ => by simp
  | l :: r, h => by
    rw [List.flatten_cons, List.length_append, flat_len r (fun x hx => h x (List.mem_cons_of_mem _ hx)), h l (List.mem_cons_self ..), List.length_cons, Nat.add_mul]; omega
theorem flat_get {m : Nat} : ∀ (ls : List (List Int)), (∀ l ∈ ls, l.length = m) → ∀ k j, k < ls.length → j < m → ls.flatten.getD (k * m + j) 0 = (ls.getD k []).getD j 0
  | [], _, k, j, hk, hj => by simp at hk
  | l :: r, h, k, j, hk, hj => by
    have hl := h l (List.mem_cons_self ..)
    cases k with
    | zero =>
      rw [Nat.zero_mul, Nat.zero_add, List.flatten_cons, List.getD_eq_getElem?_getD, List.getElem?_append_left (by omega), List.getD_cons_zero, List.getD_eq_getElem?_getD]
    | succ k =>
      have e : (k + 1) * m + j = m + (k * m + j) := by rw [Nat.add_mul]; omega
      rw [e, List.flatten_cons, List.getD_eq_getElem?_getD, List.getElem?_append_right (by omega), hl, Nat.add_sub_cancel_left, List.getD_cons_succ, ← List.getD_eq_getElem?_getD]
      exact flat_get r (fun x hx => h x (List.mem_cons_of_mem _ hx)) k j (by simpa using hk) hj
theorem getD_mem {ls : List (List Int)} {k : Nat} (h : k < ls.length) : ls.getD k [] ∈ ls := by
  rw [List.getD_eq_getElem?_getD, List.getElem?_eq_getElem h]; exact List.getElem_mem h

section
variable {w : World} {b m : Nat} {t : TypeId} {v : Value} {ls : List (List Int)}
theorem Gr.item (h : Gr w b t m v ls) {k : Nat} (hk : k < ls.length) : (ls.getD k []).length = m := h.lens _ (getD_mem hk)
theorem Gr.kept {w' : World} (h : Gr w b t m v ls) {r : Option Nat} (hg : w.grownBy w' r) (hr : ∀ z, v.ownBlock = some z → r ≠ some z) : Gr w' b t m v ls := by
  refine ⟨World.ownsRow.kept h.row hg ?_, h.lens⟩
  cases hv : v.ownBlock with
  | none => exact .inl rfl
  | some z => exact .inr fun e => hr z hv e.symm
theorem Gr.below {w' : World} (h : Gr w b t m v ls) (k : Below w.heap.size w w') : Gr w' b t m v ls :=
  ⟨World.ownsRow.kept (row := none) h.row ⟨k.os, k.tape, k.output, k.size, fun j hj _ => k.block j hj⟩ (by cases v.ownBlock <;> simp), h.lens⟩
theorem Gr.drewN (h : Gr w b t m v ls) (k : Nat) : Gr (w.drewN k) b t m v ls := ⟨h.row, h.lens⟩
theorem Gr.drew (h : Gr w b t m v ls) : Gr w.drew b t m v ls := ⟨h.row, h.lens⟩
theorem Gr.alloc (h : Gr w b t m v ls) (o : Obj) : Gr (w.alloc o) b t m v ls := ⟨World.ownsRow.alloc h.row o, h.lens⟩
theorem Gr.none (w : World) (b : Nat) (t : TypeId) (m : Nat) (hb : b ≤ w.heap.size) : Gr (w.alloc (.cells #[] t)) b t m (.slice (some ⟨w.heap.size, 0, Option.none⟩) 0 0) [] := by
  have := World.ownsRow_made (base := b) (e := t) (size := m) w #[] 0 hb (by unfold maxLen; omega) (by simp)
  exact ⟨by simpa [ints] using this, fun l hl => absurd hl List.not_mem_nil⟩
theorem Gr.as {ls' : List (List Int)} (h : Gr w b t m v ls) (e : ls = ls') : Gr w b t m v ls' := e ▸ h
theorem Gr.mono {b' : Nat} (h : Gr w b t m v ls) (hb : b' ≤ b) : Gr w b' t m v ls := by
  refine ⟨⟨h.row.1, ?_⟩, h.lens⟩
  rcases h.row.2 with h0 | ⟨g, cap, cur, hv, hg, rest⟩
  · exact .inl h0
  · exact .inr ⟨g, cap, cur, hv, by omega, rest⟩
theorem Gr.own (h : Gr w b t m v ls) : ∀ k, v.ownBlock = some k → b ≤ k ∧ k < w.heap.size := fun k hk => World.ownsRow.lt h.row k hk
theorem Gr.shape (h : Gr w b t m v ls) : ∃ a cap, v = .slice a ls.length cap := by
  rcases h.row.2 with ⟨h0, h1⟩ | ⟨g, cap, cur, hv, _⟩
  · exact ⟨_, _, by rw [h1]; exact h0⟩
  · exact ⟨_, _, hv⟩
theorem Gr.form (h : Gr w b t m v ls) (hn : 0 < ls.length) : ∃ g cap, v = .slice (some ⟨g, 0, Option.none⟩) ls.length cap ∧ b ≤ g ∧ g < w.heap.size := by
  rcases h.row.2 with ⟨_, h0⟩ | ⟨g, cap, cur, hv, hb, hg, _⟩
  · omega
  · exact ⟨g, cap, hv, hb, lt_of_block hg⟩
theorem Gr.cell {g cap n : Nat} (h : Gr w b t m (.slice (some ⟨g, 0, Option.none⟩) n cap) ls) (hn : n = ls.length) (k j : Nat) (hk : k < n) (hj : j < m) : w.cell? ⟨g, k * m + j, Option.none⟩ = some (.int .i64 ((ls.getD k []).getD j 0)) := by
  subst hn
  have hlt : k * m + j < ls.length * m := by
    have : (k + 1) * m ≤ ls.length * m := Nat.mul_le_mul_right m (by omega)
    rw [Nat.add_mul] at this; omega
  rw [World.ownsRow.cellAt h.row (k * m + j) hlt, ints_get _ _ (by rw [flat_len ls h.lens]; exact hlt), flat_get ls h.lens k j hk hj]
theorem Gr.range {g cap n : Nat} (h : Gr w b t m (.slice (some ⟨g, 0, Option.none⟩) n cap) ls) (hn : n = ls.length) (k : Nat) (hk : k < n) : w.rangeAt g (k * m) (ints (ls.getD k [])) := by
  intro j v hv
  have hl := h.item (k := k) (by omega)
  have hj : j < m := by
    rcases Nat.lt_or_ge j m with h1 | h1
    · exact h1
    · rw [List.getElem?_eq_none (by rw [ints_len, hl]; exact h1)] at hv; cases hv
  rw [h.cell hn k j hk hj, ← hv, ints_get _ _ (by rw [hl]; exact hj)]
theorem Gr.free {g cap n : Nat} (h : Gr w b t m (.slice (some ⟨g, 0, Option.none⟩) n cap) ls) (hn : n = ls.length) (j : Nat) : w.frozen? ⟨g, j, Option.none⟩ = false := by
  subst hn; exact World.ownsRow.frozenAt h.row j
theorem Has.grownNo {w' : World} {c : Nat} {ns : List Int} {n : Nat} (H : Has w c ns n) {r : Option Nat} (hg : w.grownBy w' r) (hr : some c ≠ r) : Has w' c ns n := by
  have hb := hg.block c H.lt hr
  refine ⟨⟨fun j v hv => (World.cell?_of_block (a := ⟨c, 0 + j, Option.none⟩) hb).trans (H.holds.range j v hv), fun j hj => ?_⟩, H.len, H.pos⟩
  have := H.holds.there j hj
  rw [World.cell?_of_block (w' := w') (w := w) (a := ⟨c, 0 + j, Option.none⟩) hb, World.frozen?_of_block (w' := w') (w := w) (a := ⟨c, 0 + j, Option.none⟩) hb]
  exact this
theorem Gr.puts (h : Gr w b t m v ls) (c o : Nat) (vs : List Value) (hne : ∀ z, v.ownBlock = some z → z ≠ c) : Gr (w.setCells c o vs) b t m v ls :=
  h.kept (r := some c) (have k := below_setCells (B := 0) c (Nat.zero_le _) vs o w w (Below.refl _ _)
    ⟨k.os, k.tape, k.output, Nat.le_of_eq (size_setCells c vs o w).symm, fun i hi hn => World.heap_setCells_other w c o vs hi (fun e => hn (by rw [e]))⟩) (fun z hz e => hne z hz (Option.some.inj e).symm)
theorem has_news {c n : Nat} {ns : List Int} (H : Has w c ns n) : ∀ j u, (ints ns)[j]? = some u → w.cell? ((⟨c, 0, Option.none⟩ : Addr).add j) = some u := by
  intro j u hu
  have hj : j < n := by
    rcases Nat.lt_or_ge j n with h | h
    · exact h
    · rw [List.getElem?_eq_none (by rw [ints_len, H.len]; exact h)] at hu; cases hu
  rw [ints_get _ _ (by rw [H.len]; exact hj)] at hu
  rw [← hu, ← H.cell j hj]
  by_cases h0 : j = 0
  · subst h0; rfl
  · simp [Addr.add, h0]
end
section
variable {P : Program} {ops : Array Oper} {rest : List Oper} {o : Oper} {a : Act} {w : World} {Q : Exit → Act → World → Prop}
/-- One item more. -/
theorem append_gr (hgd : o.guard = none) (s x : Operand) (tt : TypeId) (ho : o.op = .call { callee := .builtin .append, args := #[s, x], argTypes := #[tt, tt] })
    (base : Nat) (t : TypeId) (m bytes : Nat) (ht : P.underlying tt = some (.slice t)) (hi : (P.info? t).map (fun i => (i.zero.map fun z => z.cells.size, i.size, i.bytes)) = some (some m, m, bytes)) (hm : 0 < m) (hby : bytes ≤ 1000)
    (v : Value) (n : Nat) (ls : List (List Int)) (hls : ls.length = n) (hs : a.eval s = v) (G : Gr w base t m v ls) (c cap : Nat) (hx : a.eval x = .slice (some ⟨c, 0, none⟩) 1 cap) (y : List Int) (H : Has w c y m) (hbase : base ≤ w.heap.size) (hn : n ≤ 100000)
    (h : ∀ g cap w', Gr w' base t m (.slice (some ⟨g, 0, none⟩) (n + 1) cap) (ls ++ [y]) → w.grownBy w' v.ownBlock → (v.ownBlock = some g ∨ g = w.heap.size) → g < w'.heap.size → wpList P ops Q rest (a.put o.dst (.slice (some ⟨g, 0, none⟩) (n + 1) cap)) w') : wpList P ops Q (o :: rest) a w := by
  subst hls
  obtain ⟨i, hi0, hi1⟩ : ∃ i, P.info? t = some i ∧ (i.zero.map fun z => z.cells.size, i.size, i.bytes) = (some m, m, bytes) := by
    cases h0 : P.info? t with
    | none => rw [h0] at hi; cases hi
    | some i => rw [h0] at hi; simp only [Option.map_some, Option.some.injEq] at hi; exact ⟨i, rfl, hi⟩
  have h2 : i.zero.map (fun z => z.cells.size) = some m := congrArg Prod.fst hi1
  have h3 : i.size = m := congrArg (fun p => p.2.1) hi1
  have h4 : i.bytes = bytes := congrArg (fun p => p.2.2) hi1
  obtain ⟨z, hz, hzs⟩ : ∃ z, i.zero = some z ∧ z.cells.size = m := by
    cases h5 : i.zero with
    | none => rw [h5] at h2; cases h2
    | some z => rw [h5] at h2; simp only [Option.map_some, Option.some.injEq] at h2; exact ⟨z, rfl, h2⟩
  have hb : (ls.length + 1) * bytes ≤ 140737488355328 := by
    have := Nat.mul_le_mul (show ls.length + 1 ≤ 100001 by omega) hby
    omega
  refine wpList_append_lies w hgd s x tt ho base t i z m bytes ht hi0 hz h3 h4 hzs hm v ls.length (ints ls.flatten) hs G.row ⟨c, 0, none⟩ 1 cap (ints y) hx (by rw [ints_len, H.len, Nat.one_mul]) (has_news H) (ints_one y) (by decide) (by unfold maxLen; omega) hb hbase w.heap.size rfl ?_
  intro g cap' w' h5 h6 h7 h8
  refine h g cap' w' ⟨?_, ?_⟩ h6 h7 h8
  · have e : ints (ls ++ [y]).flatten = ints ls.flatten ++ ints y := by
      rw [List.flatten_append, List.flatten_singleton]; unfold ints; rw [List.map_append]
    rw [List.length_append, List.length_singleton, e]; exact h5
  · intro l hl
    rcases List.mem_append.1 hl with h9 | h9
    · exact G.lens l h9
    · rw [List.mem_singleton.1 h9]; exact H.len
end
end Go.Proofs.Ytalngdccjoafhab.base
end

section
namespace Go.Proofs.Ytalngdccjoafhab.base
open Go.ChangeShapes Go.WideShapes Go.ChangeAt Go.RowKit
set_option linter.unusedVariables false
set_option linter.unusedSimpArgs false

theorem fold_sets : ∀ (l b : List Value) (k : Nat), k + l.length = b.length → (l.zipIdx k).foldl (fun (cs : Array Value) (x : Value × Nat) => cs.setIfInBounds (0 + x.2) x.1) b.toArray = (b.take k ++ l).toArray
  | [], b, k, h => by
    simp only [List.length_nil, Nat.add_zero] at h
    simp [h]
  | x :: l, b, k, h => by
    rw [List.zipIdx_cons, List.foldl_cons]
    have e : (b.toArray).setIfInBounds (0 + k) x = (b.set k x).toArray := by rw [Nat.zero_add, List.setIfInBounds_toArray]
    simp only at e ⊢
    rw [e, fold_sets l (b.set k x) (k + 1) (by rw [List.length_set]; simp only [List.length_cons] at h; omega)]
    congr 1
    have hk : k < b.length := by simp only [List.length_cons] at h; omega
    rw [List.take_succ_eq_append_getElem (by rw [List.length_set]; exact hk), List.getElem_set_self, List.take_set_of_le (Nat.le_refl _), List.append_assoc]; rfl
theorem fill_one (n : Nat) (base : Array Value) (cs : List Value) (hb : base.size = n) (hc : cs.length = n) : Instr.fill (fun i => some (i * n, n)) base [(0, .agg cs.toArray)] = some cs.toArray := by
  have hs : (Value.agg cs.toArray).cells.size = n := by show cs.toArray.size = n; rw [List.size_toArray]; exact hc
  unfold Instr.fill
  dsimp only
  split
  · rename_i h
    simp [hs, hb] at h
  · unfold Instr.fill
    congr 1
    obtain ⟨bl, rfl⟩ : ∃ bl : List Value, base = bl.toArray := ⟨base.toList, by simp⟩
    have := fold_sets cs bl 0 (by rw [List.size_toArray] at hb; omega)
    rw [List.take_zero, List.nil_append] at this
    rw [← Array.foldl_toList, Array.toList_zipIdx]
    simp only [Nat.zero_mul, Nat.zero_add] at this ⊢
    exact this

section
variable {P : Program} {o : Oper} {a : Act} {w : World} {K : Act → World → Prop} {Q : Exit → Act → World → Prop}
theorem info_of {t : TypeId} {m bytes : Nat} (hi : (P.info? t).map (fun i => (i.zero.map fun z => z.cells.size, i.size, i.bytes)) = some (some m, m, bytes)) : ∃ i z, P.info? t = some i ∧ i.zero = some z ∧ z.cells.size = m ∧ i.size = m ∧ i.bytes = bytes := by
  obtain ⟨i, hi0, hi1⟩ : ∃ i, P.info? t = some i ∧ (i.zero.map fun z => z.cells.size, i.size, i.bytes) = (some m, m, bytes) := by
    cases h0 : P.info? t with
    | none => rw [h0] at hi; cases hi
    | some i => rw [h0] at hi; simp only [Option.map_some, Option.some.injEq] at hi; exact ⟨i, rfl, hi⟩
  have h2 : i.zero.map (fun z => z.cells.size) = some m := congrArg Prod.fst hi1
  have h3 : i.size = m := congrArg (fun p => p.2.1) hi1
  have h4 : i.bytes = bytes := congrArg (fun p => p.2.2) hi1
  cases h5 : i.zero with
  | none => rw [h5] at h2; cases h2
  | some z => rw [h5] at h2; simp only [Option.map_some, Option.some.injEq] at h2; exact ⟨i, z, hi0, h5, h2, h3, h4⟩
/-- A slice literal of one array. -/
theorem wp_slice1 (tt t : TypeId) (x : Operand) (ho : o.op = .buildSlice tt 1 #[(0, x)]) (m bytes : Nat) (ht : P.underlying tt = some (.slice t)) (hi : (P.info? t).map (fun i => (i.zero.map fun z => z.cells.size, i.size, i.bytes)) = some (some m, m, bytes)) (hm : 0 < m) (hb : m ≤ 1000)
    (ns : List Int) (hx : a.eval x = .agg (ints ns).toArray) (hl : ns.length = m) (h : K (a.put o.dst (.slice (some ⟨w.heap.size, 0, none⟩) 1 1)) (w.alloc (.cells (ints ns).toArray t))) : Oper.wp P o a w K Q := by
  obtain ⟨i, z, h0, h1, h2, h3, h4⟩ := info_of hi
  refine wp_buildSlice tt t 1 _ ho (ints ns).toArray i z ht h0 h1 (by rw [h3]; omega) (by rw [h3]; omega) ?_ h
  rw [h3, Nat.one_mul]
  have e : ((#[(0, x)] : Array (Nat × Operand)).map fun (i, x) => (i, a.eval x)).toList = [(0, .agg (ints ns).toArray)] := by simp [hx]
  rw [e]
  exact fill_one m _ (ints ns) (by simp) (by rw [ints_len]; exact hl)
theorem wpList_slice1 {ops : Array Oper} {rest : List Oper} (hg : o.guard = none) (tt t : TypeId) (x : Operand) (ho : o.op = .buildSlice tt 1 #[(0, x)]) (m bytes : Nat) (ht : P.underlying tt = some (.slice t)) (hi : (P.info? t).map (fun i => (i.zero.map fun z => z.cells.size, i.size, i.bytes)) = some (some m, m, bytes)) (hm : 0 < m) (hb : m ≤ 1000)
    (ns : List Int) (hx : a.eval x = .agg (ints ns).toArray) (hl : ns.length = m) (h : wpList P ops Q rest (a.put o.dst (.slice (some ⟨w.heap.size, 0, none⟩) 1 1)) (w.alloc (.cells (ints ns).toArray t))) : wpList P ops Q (o :: rest) a w :=
  wpList_plain hg fun _ hK => wp_slice1 tt t x ho m bytes ht hi hm hb ns hx hl (hK _ _ h)
theorem wp_append_gr (s x : Operand) (tt : TypeId) (ho : o.op = .call { callee := .builtin .append, args := #[s, x], argTypes := #[tt, tt] })
    (base : Nat) (t : TypeId) (m bytes : Nat) (ht : P.underlying tt = some (.slice t)) (hi : (P.info? t).map (fun i => (i.zero.map fun z => z.cells.size, i.size, i.bytes)) = some (some m, m, bytes)) (hm : 0 < m) (hby : bytes ≤ 1000)
    (v : Value) (n : Nat) (ls : List (List Int)) (hls : ls.length = n) (hs : a.eval s = v) (G : Gr w base t m v ls) (c cap : Nat) (hx : a.eval x = .slice (some ⟨c, 0, none⟩) 1 cap) (y : List Int) (H : Has w c y m) (hbase : base ≤ w.heap.size) (hn : n ≤ 100000)
    (h : ∀ g cap w', Gr w' base t m (.slice (some ⟨g, 0, none⟩) (n + 1) cap) (ls ++ [y]) → w.grownBy w' v.ownBlock → (v.ownBlock = some g ∨ g = w.heap.size) → g < w'.heap.size → K (a.put o.dst (.slice (some ⟨g, 0, none⟩) (n + 1) cap)) w') : Oper.wp P o a w K Q := by
  subst hls
  obtain ⟨i, z, hi0, hz, hzs, h3, h4⟩ := info_of hi
  have hb : (ls.length + 1) * bytes ≤ 140737488355328 := by
    have := Nat.mul_le_mul (show ls.length + 1 ≤ 100001 by omega) hby
    omega
  refine wp_append_lies w s x tt ho base t i z m bytes ht hi0 hz h3 h4 hzs hm v ls.length (ints ls.flatten) hs G.row ⟨c, 0, none⟩ 1 cap (ints y) hx (by rw [ints_len, H.len, Nat.one_mul]) (has_news H) (ints_one y) (by decide) (by unfold maxLen; omega) hb hbase w.heap.size rfl ?_
  intro g cap' w' h5 h6 h7 h8
  refine h g cap' w' ⟨?_, ?_⟩ h6 h7 h8
  · have e : ints (ls ++ [y]).flatten = ints ls.flatten ++ ints y := by
      rw [List.flatten_append, List.flatten_singleton]; unfold ints; rw [List.map_append]
    rw [List.length_append, List.length_singleton, e]; exact h5
  · intro l hl
    rcases List.mem_append.1 hl with h9 | h9
    · exact G.lens l h9
    · rw [List.mem_singleton.1 h9]; exact H.len
end
end Go.Proofs.Ytalngdccjoafhab.base
end
