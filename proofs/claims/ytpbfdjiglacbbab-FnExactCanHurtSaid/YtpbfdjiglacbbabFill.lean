/-
  A row of one array is made, and put behind a row: in a region's own form.
-/
import Derived.Test.YtpbfdjiglacbbabGrid
import Derived.Great.BuildSlice
namespace Go.Proofs.Ytpbfdjiglacbbab.base
open Go.ChangeShapes Go.WideShapes Go.ChangeAt Go.RowKit
set_option linter.unusedVariables false
set_option linter.unusedSimpArgs false

theorem fold_sets : ∀ (l b : List Value) (k : Nat), k + l.length = b.length → (l.zipIdx k).foldl (fun (cs : Array Value) (x : Value × Nat) => cs.setIfInBounds (0 + x.2) x.1) b.toArray = (b.take k ++ l).toArray
  | [], b, k, h => by
    simp only [List.length_nil, Nat.add_zero] at h
    simp [h]
  | x :: l, b, k, h => by
    rw [List.zipIdx_cons, List.foldl_cons]
    have e : (b.toArray).setIfInBounds (0 + k) x = (b.set k x).toArray := by rw [Nat.zero_add, List.setIfInBounds_toArray]
    simp only at e ⊢
    rw [e, fold_sets l (b.set k x) (k + 1) (by rw [List.length_set]; simp only [List.length_cons] at h; omega)]
    congr 1
    have hk : k < b.length := by simp only [List.length_cons] at h; omega
    rw [List.take_succ_eq_append_getElem (by rw [List.length_set]; exact hk), List.getElem_set_self, List.take_set_of_le (Nat.le_refl _), List.append_assoc]; rfl
theorem fill_one (n : Nat) (base : Array Value) (cs : List Value) (hb : base.size = n) (hc : cs.length = n) : Instr.fill (fun i => some (i * n, n)) base [(0, .agg cs.toArray)] = some cs.toArray := by
  have hs : (Value.agg cs.toArray).cells.size = n := by show cs.toArray.size = n; rw [List.size_toArray]; exact hc
  unfold Instr.fill
  dsimp only
  split
  · rename_i h
    simp [hs, hb] at h
  · unfold Instr.fill
    congr 1
    obtain ⟨bl, rfl⟩ : ∃ bl : List Value, base = bl.toArray := ⟨base.toList, by simp⟩
    have := fold_sets cs bl 0 (by rw [List.size_toArray] at hb; omega)
    rw [List.take_zero, List.nil_append] at this
    rw [← Array.foldl_toList, Array.toList_zipIdx]
    simp only [Nat.zero_mul, Nat.zero_add] at this ⊢
    exact this

section
variable {P : Program} {o : Oper} {a : Act} {w : World} {K : Act → World → Prop} {Q : Exit → Act → World → Prop}
theorem info_of {t : TypeId} {m bytes : Nat} (hi : (P.info? t).map (fun i => (i.zero.map fun z => z.cells.size, i.size, i.bytes)) = some (some m, m, bytes)) : ∃ i z, P.info? t = some i ∧ i.zero = some z ∧ z.cells.size = m ∧ i.size = m ∧ i.bytes = bytes := by
  obtain ⟨i, hi0, hi1⟩ : ∃ i, P.info? t = some i ∧ (i.zero.map fun z => z.cells.size, i.size, i.bytes) = (some m, m, bytes) := by
    cases h0 : P.info? t with
    | none => rw [h0] at hi; cases hi
    | some i => rw [h0] at hi; simp only [Option.map_some, Option.some.injEq] at hi; exact ⟨i, rfl, hi⟩
  have h2 : i.zero.map (fun z => z.cells.size) = some m := congrArg Prod.fst hi1
  have h3 : i.size = m := congrArg (fun p => p.2.1) hi1
  have h4 : i.bytes = bytes := congrArg (fun p => p.2.2) hi1
  cases h5 : i.zero with
  | none => rw [h5] at h2; cases h2
  | some z => rw [h5] at h2; simp only [Option.map_some, Option.some.injEq] at h2; exact ⟨i, z, hi0, h5, h2, h3, h4⟩
/-- A slice literal of one array. -/
theorem wp_slice1 (tt t : TypeId) (x : Operand) (ho : o.op = .buildSlice tt 1 #[(0, x)]) (m bytes : Nat) (ht : P.underlying tt = some (.slice t)) (hi : (P.info? t).map (fun i => (i.zero.map fun z => z.cells.size, i.size, i.bytes)) = some (some m, m, bytes)) (hm : 0 < m) (hb : m ≤ 1000)
    (ns : List Int) (hx : a.eval x = .agg (ints ns).toArray) (hl : ns.length = m) (h : K (a.put o.dst (.slice (some ⟨w.heap.size, 0, none⟩) 1 1)) (w.alloc (.cells (ints ns).toArray t))) : Oper.wp P o a w K Q := by
  obtain ⟨i, z, h0, h1, h2, h3, h4⟩ := info_of hi
  refine wp_buildSlice tt t 1 _ ho (ints ns).toArray i z ht h0 h1 (by rw [h3]; omega) (by rw [h3]; omega) ?_ h
  rw [h3, Nat.one_mul]
  have e : ((#[(0, x)] : Array (Nat × Operand)).map fun (i, x) => (i, a.eval x)).toList = [(0, .agg (ints ns).toArray)] := by simp [hx]
  rw [e]
  exact fill_one m _ (ints ns) (by simp) (by rw [ints_len]; exact hl)
theorem wpList_slice1 {ops : Array Oper} {rest : List Oper} (hg : o.guard = none) (tt t : TypeId) (x : Operand) (ho : o.op = .buildSlice tt 1 #[(0, x)]) (m bytes : Nat) (ht : P.underlying tt = some (.slice t)) (hi : (P.info? t).map (fun i => (i.zero.map fun z => z.cells.size, i.size, i.bytes)) = some (some m, m, bytes)) (hm : 0 < m) (hb : m ≤ 1000)
    (ns : List Int) (hx : a.eval x = .agg (ints ns).toArray) (hl : ns.length = m) (h : wpList P ops Q rest (a.put o.dst (.slice (some ⟨w.heap.size, 0, none⟩) 1 1)) (w.alloc (.cells (ints ns).toArray t))) : wpList P ops Q (o :: rest) a w :=
  wpList_plain hg fun _ hK => wp_slice1 tt t x ho m bytes ht hi hm hb ns hx hl (hK _ _ h)
theorem wp_append_gr (s x : Operand) (tt : TypeId) (ho : o.op = .call { callee := .builtin .append, args := #[s, x], argTypes := #[tt, tt] })
    (base : Nat) (t : TypeId) (m bytes : Nat) (ht : P.underlying tt = some (.slice t)) (hi : (P.info? t).map (fun i => (i.zero.map fun z => z.cells.size, i.size, i.bytes)) = some (some m, m, bytes)) (hm : 0 < m) (hby : bytes ≤ 1000)
    (v : Value) (n : Nat) (ls : List (List Int)) (hls : ls.length = n) (hs : a.eval s = v) (G : Gr w base t m v ls) (c cap : Nat) (hx : a.eval x = .slice (some ⟨c, 0, none⟩) 1 cap) (y : List Int) (H : Has w c y m) (hbase : base ≤ w.heap.size) (hn : n ≤ 100000)
    (h : ∀ g cap w', Gr w' base t m (.slice (some ⟨g, 0, none⟩) (n + 1) cap) (ls ++ [y]) → w.grownBy w' v.ownBlock → (v.ownBlock = some g ∨ g = w.heap.size) → g < w'.heap.size → K (a.put o.dst (.slice (some ⟨g, 0, none⟩) (n + 1) cap)) w') : Oper.wp P o a w K Q := by
  subst hls
  obtain ⟨i, z, hi0, hz, hzs, h3, h4⟩ := info_of hi
  have hb : (ls.length + 1) * bytes ≤ 140737488355328 := by
    have := Nat.mul_le_mul (show ls.length + 1 ≤ 100001 by omega) hby
    omega
  refine wp_append_lies w s x tt ho base t i z m bytes ht hi0 hz h3 h4 hzs hm v ls.length (ints ls.flatten) hs G.row ⟨c, 0, none⟩ 1 cap (ints y) hx (by rw [ints_len, H.len, Nat.one_mul]) (has_news H) (ints_one y) (by decide) (by unfold maxLen; omega) hb hbase w.heap.size rfl ?_
  intro g cap' w' h5 h6 h7 h8
  refine h g cap' w' ⟨?_, ?_⟩ h6 h7 h8
  · have e : ints (ls ++ [y]).flatten = ints ls.flatten ++ ints y := by
      rw [List.flatten_append, List.flatten_singleton]; unfold ints; rw [List.map_append]
    rw [List.length_append, List.length_singleton, e]; exact h5
  · intro l hl
    rcases List.mem_append.1 hl with h9 | h9
    · exact G.lens l h9
    · rw [List.mem_singleton.1 h9]; exact H.len
end
end Go.Proofs.Ytpbfdjiglacbbab.base
