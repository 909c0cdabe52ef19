/-
  What the operations on whole arrays of numbers give: comparing, indexing, building.
-/
/-
  A block that holds known numbers: the laws by which a walk loads and stores them whole.
-/
import Derived.Test.YtalngdccjoafhabRackCopyZ
import Derived.Laws.StructEq
import Derived.Tactics
import Derived.Deep.QuietTactic
import Derived.BigQuiet
import Derived.Deep.LoopGhost
import Derived.WalkMore
import Derived.Outline

section
namespace Go.Proofs.Ytalngdccjoafhab.base
open Go.ChangeShapes Go.WideShapes Go.ChangeAt Go.RowKit
set_option linter.unusedVariables false
set_option linter.unusedSimpArgs false

theorem ints_extract (ns : List Int) (o n : Nat) : (ints ns).toArray.extract o (o + n) = (ints ((ns.drop o).take n)).toArray := by
  rw [List.extract_toArray]
  congr 1
  rw [List.extract_eq_take_drop, Nat.add_sub_cancel_left, ints_take]
theorem ints_getA (ns : List Int) (j : Nat) (h : j < ns.length) : (ints ns).toArray[j]? = some (.int .i64 (ns.getD j 0)) := by
  rw [List.getElem?_toArray]; exact ints_get ns j h

section
variable {P : Program}
theorem run_part_int (e : TypeId) (he : P.underlying e = some (.int .i64)) (ns : List Int) (j : Nat) (h : j < ns.length) (w : World) : (part e (ints ns).toArray j).run P w = .ok (.int .i64 (ns.getD j 0)) w := by
  simp [part, isAgg, run_underlying he, ints_getA ns j h]
theorem run_part_row (e x : TypeId) (n : Nat) (he : P.underlying e = some (.array n x)) (hz : ∀ w, (sizeOf e).run P w = .ok n w) (ns : List Int) (o : Nat) (w : World) : (part e (ints ns).toArray o).run P w = .ok (.agg (ints ((ns.drop o).take n)).toArray) w := by
  simp only [part, isAgg, Sem.run_bind, run_underlying he, Result.andThen_ok, Sem.run_pure, if_true, hz, ints_extract]
theorem eq4 (a b c d e f g h : Int) : ((a == e) && (b == f) && (c == g) && (d == h)) = decide ([a, b, c, d] = [e, f, g, h]) := by
  rw [Bool.eq_iff_iff]; simp [and_assoc]
theorem run_eq4 (D : Nat) (T e : TypeId) (hT : P.underlying T = some (.array 4 e)) (he : P.underlying e = some (.int .i64)) (hz : ∀ w, (sizeOf e).run P w = .ok 1 w) (xs ys : List Int) (hx : xs.length = 4) (hy : ys.length = 4) (w : World) :
    (Op.equalIn (D + 2) T (.agg (ints xs).toArray) (.agg (ints ys).toArray)).run P w = .ok (decide (xs = ys)) w := by
  obtain ⟨a, b, c, d, rfl⟩ := len4 hx
  obtain ⟨e', f, g, h, rfl⟩ := len4 hy
  rw [← eq4]
  have p : ∀ (a b c d : Int) (j : Nat) (hj : j < 4) (w : World), (part e (ints [a, b, c, d]).toArray j).run P w = .ok (.int .i64 ([a, b, c, d].getD j 0)) w := fun a b c d j hj w => run_part_int e he [a, b, c, d] j hj w
  have q : ∀ (x y : Int) (w : World), (Op.equalIn (D + 1) e (.int .i64 x) (.int .i64 y)).run P w = .ok (x == y) w := fun x y w => run_equalIn_int w D e .i64 .i64 x y he
  rw [Op.equalIn]
  simp only [Sem.run_bind, run_underlying hT, Result.andThen_ok, hz]
  simp only [Std.Legacy.Range.forIn_eq_forIn_range', Std.Legacy.Range.size, Nat.sub_zero, Nat.add_sub_cancel, Nat.div_one, List.range'_succ, List.range'_zero, List.forIn_cons, List.forIn_nil, Nat.mul_one]
  simp only [Sem.run_bind, p _ _ _ _ 0 (by omega), q, Result.andThen_ok]
  by_cases h1 : a = e' <;> by_cases h2 : b = f <;> by_cases h3 : c = g <;> by_cases h4 : d = h <;> simp [h1, h2, h3, h4, q, p]
theorem tub_eq6 (xs ys : List Int) (hx : xs.length = 24) (hy : ys.length = 24) : (decide (tub xs 0 = tub ys 0) && decide (tub xs 1 = tub ys 1) && decide (tub xs 2 = tub ys 2) && decide (tub xs 3 = tub ys 3) && decide (tub xs 4 = tub ys 4) && decide (tub xs 5 = tub ys 5)) = decide (xs = ys) := by
  rw [Bool.eq_iff_iff]
  simp only [Bool.and_eq_true, decide_eq_true_eq]
  constructor
  · rintro ⟨⟨⟨⟨⟨h0, h1⟩, h2⟩, h3⟩, h4⟩, h5⟩
    refine rack_ext hx hy (fun i hi => ?_)
    match i, hi with
    | 0, _ => exact h0
    | 1, _ => exact h1
    | 2, _ => exact h2
    | 3, _ => exact h3
    | 4, _ => exact h4
    | 5, _ => exact h5
  · rintro rfl; exact ⟨⟨⟨⟨⟨rfl, rfl⟩, rfl⟩, rfl⟩, rfl⟩, rfl⟩
theorem run_eq24 (D : Nat) (T c e : TypeId) (hT : P.underlying T = some (.array 6 c)) (hc : P.underlying c = some (.array 4 e)) (he : P.underlying e = some (.int .i64)) (hz : ∀ w, (sizeOf e).run P w = .ok 1 w) (hzc : ∀ w, (sizeOf c).run P w = .ok 4 w) (xs ys : List Int) (hx : xs.length = 24) (hy : ys.length = 24) (w : World) :
    (Op.equalIn (D + 3) T (.agg (ints xs).toArray) (.agg (ints ys).toArray)).run P w = .ok (decide (xs = ys)) w := by
  rw [← tub_eq6 xs ys hx hy]
  have p : ∀ (ns : List Int) (o : Nat) (w : World), (part c (ints ns).toArray o).run P w = .ok (.agg (ints ((ns.drop o).take 4)).toArray) w := fun ns o w => run_part_row c e 4 hc hzc ns o w
  have q : ∀ (i : Nat) (hi : i < 6) (w : World), (Op.equalIn (D + 2) c (.agg (ints (tub xs i)).toArray) (.agg (ints (tub ys i)).toArray)).run P w = .ok (decide (tub xs i = tub ys i)) w := fun i hi w => run_eq4 D c e hc he hz _ _ (tub_len xs i hx hi) (tub_len ys i hy hi) w
  have q0 := q 0 (by omega); have q1 := q 1 (by omega); have q2 := q 2 (by omega); have q3 := q 3 (by omega); have q4 := q 4 (by omega); have q5 := q 5 (by omega)
  clear q
  generalize decide (tub xs 0 = tub ys 0) = b0 at *
  generalize decide (tub xs 1 = tub ys 1) = b1 at *
  generalize decide (tub xs 2 = tub ys 2) = b2 at *
  generalize decide (tub xs 3 = tub ys 3) = b3 at *
  generalize decide (tub xs 4 = tub ys 4) = b4 at *
  generalize decide (tub xs 5 = tub ys 5) = b5 at *
  unfold tub at q0 q1 q2 q3 q4 q5
  simp only [Nat.reduceMul] at q0 q1 q2 q3 q4 q5
  rw [Op.equalIn]
  simp only [Sem.run_bind, run_underlying hT, Result.andThen_ok, hzc]
  simp only [Std.Legacy.Range.forIn_eq_forIn_range', Std.Legacy.Range.size, Nat.sub_zero, Nat.div_one, List.range'_succ, List.range'_zero, List.forIn_cons, List.forIn_nil, Nat.zero_add, Nat.reduceAdd, Nat.reduceMul, Sem.run_bind, p, q0, Result.andThen_ok]
  cases b0
  · simp
  cases b1
  · simp [p, q1]
  cases b2
  · simp [p, q1, q2]
  cases b3
  · simp [p, q1, q2, q3]
  cases b4
  · simp [p, q1, q2, q3, q4]
  cases b5
  · simp [p, q1, q2, q3, q4, q5]
  · simp [p, q1, q2, q3, q4, q5]
theorem run_index_int (T e : TypeId) (n : Nat) (hT : P.underlying T = some (.array n e)) (he : P.underlying e = some (.int .i64)) (hz : ∀ w, (sizeOf e).run P w = .ok 1 w) (ns : List Int) (hn : ns.length = n) (k : Nat) (hk : k < n) (w : World) :
    (Instr.index T (.agg (ints ns).toArray) (.int .i64 (k : Nat))).run P w = .ok (.int .i64 (ns.getD k 0)) w := by
  have h1 : (0 : Int) ≤ (k : Int) ∧ (k : Int) < (n : Int) := by omega
  simp only [Instr.index, asIntOf, Sem.run_bind, Sem.run_pure, Result.andThen_ok, run_underlying hT, h1, and_self, if_true, hz, Int.toNat_natCast, Nat.mul_one]
  exact run_part_int e he ns k (by omega) w
theorem run_index_row (T c e : TypeId) (m n : Nat) (hT : P.underlying T = some (.array m c)) (hc : P.underlying c = some (.array n e)) (hz : ∀ w, (sizeOf c).run P w = .ok n w) (ns : List Int) (k : Nat) (hk : k < m) (w : World) :
    (Instr.index T (.agg (ints ns).toArray) (.int .i64 (k : Nat))).run P w = .ok (.agg (ints ((ns.drop (k * n)).take n)).toArray) w := by
  have h1 : (0 : Int) ≤ (k : Int) ∧ (k : Int) < (m : Int) := by omega
  simp only [Instr.index, asIntOf, Sem.run_bind, Sem.run_pure, Result.andThen_ok, run_underlying hT, h1, and_self, if_true, hz, Int.toNat_natCast]
  exact run_part_row c e n hc hz ns (k * n) w
end

/-! at this program's types -/
theorem eqTube (xs ys : List Int) (hx : xs.length = 4) (hy : ys.length = 4) (w : World) : (Op.equalIn 10000 112 (.agg (ints xs).toArray) (.agg (ints ys).toArray)).run Try.prog w = .ok (decide (xs = ys)) w :=
  run_eq4 9998 112 3 Try.underlying112 Try.underlying3 (fun w => by rw [Try.sizeOf3]) xs ys hx hy w
theorem eqArr4 (xs ys : List Int) (hx : xs.length = 4) (hy : ys.length = 4) (w : World) : (Op.equalIn 10000 22 (.agg (ints xs).toArray) (.agg (ints ys).toArray)).run Try.prog w = .ok (decide (xs = ys)) w :=
  run_eq4 9998 22 3 Try.underlying22 Try.underlying3 (fun w => by rw [Try.sizeOf3]) xs ys hx hy w
theorem index4 (T : TypeId) (hT : Try.prog.underlying T = some (.array 4 3)) (ns : List Int) (hn : ns.length = 4) (k : Nat) (hk : k < 4) (w : World) : (Instr.index T (.agg (ints ns).toArray) (.int .i64 (k : Nat))).run Try.prog w = .ok (.int .i64 (ns.getD k 0)) w :=
  run_index_int T 3 4 hT Try.underlying3 (fun w => by rw [Try.sizeOf3]) ns hn k hk w
theorem indexTub (ns : List Int) (k : Nat) (hk : k < 6) (w : World) : (Instr.index 23 (.agg (ints ns).toArray) (.int .i64 (k : Nat))).run Try.prog w = .ok (.agg (ints (tub ns k)).toArray) w :=
  run_index_row 23 22 3 6 4 Try.underlying23 Try.underlying22 (fun w => by rw [Try.sizeOf22]) ns k hk w
theorem buildTube (w : World) : (Instr.build 112 #[]).run Try.prog w = .ok (.agg (ints [0, 0, 0, 0]).toArray) w := by kernel_rfl
end Go.Proofs.Ytalngdccjoafhab.base
end

section
namespace Go.Proofs.Ytalngdccjoafhab.base
open Go.ChangeShapes Go.WideShapes Go.ChangeAt Go.RowKit
set_option linter.unusedVariables false
set_option linter.unusedSimpArgs false

/-- Block b holds the n numbers ns. -/
structure Has (w : World) (b : Nat) (ns : List Int) (n : Nat) : Prop where
  holds : Holds w b (ints ns)
  len : ns.length = n
  pos : 0 < n

theorem Has.lt {w : World} {b : Nat} {ns : List Int} {n : Nat} (h : Has w b ns n) : b < w.heap.size := h.holds.lt (by rw [ints_len, h.len]; exact h.pos)
theorem Has.box {ns : List Int} {n : Nat} (w : World) (T : TypeId) (hl : ns.length = n) (hn : 0 < n) : Has (w.alloc (.cells (ints ns).toArray T)) w.heap.size ns n :=
  ⟨by have := Holds.new w (ints ns).toArray T; simpa using this, hl, hn⟩
theorem Has.alloc {w : World} {b : Nat} {ns : List Int} {n : Nat} (h : Has w b ns n) (o : Obj) : Has (w.alloc o) b ns n := ⟨h.holds.alloc o (by rw [ints_len, h.len]; exact h.pos), h.len, h.pos⟩
theorem Has.below {w w' : World} {b : Nat} {ns : List Int} {n : Nat} (h : Has w b ns n) (m : Below w.heap.size w w') : Has w' b ns n := ⟨h.holds.below m h.lt, h.len, h.pos⟩
theorem Has.drewN {w : World} {b : Nat} {ns : List Int} {n : Nat} (h : Has w b ns n) (k : Nat) : Has (w.drewN k) b ns n := ⟨h.holds.drewN k, h.len, h.pos⟩
theorem Has.drew {w : World} {b : Nat} {ns : List Int} {n : Nat} (h : Has w b ns n) : Has w.drew b ns n := ⟨h.holds.drew, h.len, h.pos⟩
theorem Has.cell {w : World} {b : Nat} {ns : List Int} {n : Nat} (h : Has w b ns n) (k : Nat) (hk : k < n) : w.cell? ⟨b, k, none⟩ = some (.int .i64 (ns.getD k 0)) := h.holds.int k (by rw [h.len]; exact hk)
theorem Has.free {w : World} {b : Nat} {ns : List Int} {n : Nat} (h : Has w b ns n) (k : Nat) (hk : k < n) : w.frozen? ⟨b, k, none⟩ = false := h.holds.free k (by rw [ints_len, h.len]; exact hk)
theorem Has.set {w : World} {b : Nat} {ns : List Int} {n : Nat} (h : Has w b ns n) (k : Nat) (z : Int) (hk : k < n) : Has (w.setCell ⟨b, k, none⟩ (.int .i64 z)) b (ns.set k z) n :=
  ⟨h.holds.setInt k z (by rw [h.len]; exact hk), by rw [List.length_set]; exact h.len, h.pos⟩
theorem Has.setOther {w : World} {b : Nat} {ns : List Int} {n : Nat} (h : Has w b ns n) {b' : Nat} (k : Nat) (v : Value) (hb : b ≠ b') : Has (w.setCell ⟨b', k, none⟩ v) b ns n := ⟨h.holds.setOther k v hb, h.len, h.pos⟩
theorem Has.putOther {w : World} {b : Nat} {ns : List Int} {n : Nat} (h : Has w b ns n) {b' : Nat} (o : Nat) (vs : List Value) (hb : b ≠ b') : Has (w.setCells b' o vs) b ns n := ⟨h.holds.putOther o vs hb, h.len, h.pos⟩
theorem Has.putAll {w : World} {b : Nat} {ns : List Int} {n : Nat} (h : Has w b ns n) (ms : List Int) (hm : ms.length = n) : Has (w.setCells b 0 (ints ms)) b ms n := by
  have := h.holds.putInts 0 ms (by rw [h.len]; omega)
  rw [List.take_zero, List.nil_append, Nat.zero_add, List.drop_of_length_le (by rw [h.len]; omega), List.append_nil] at this
  exact ⟨this, hm, h.pos⟩
theorem Has.putTub {w : World} {b : Nat} {ns : List Int} (h : Has w b ns 24) (i : Nat) (hi : i < 6) (t : List Int) (ht : t.length = 4) : Has (w.setCells b (i * 4) (ints t)) b (setTub ns i t) 24 := by
  have := h.holds.putInts (i * 4) t (by rw [h.len]; omega)
  rw [ht] at this
  exact ⟨this, setTub_len ns i t h.len hi ht, by omega⟩
theorem Has.there {w : World} {b : Nat} {ns : List Int} {n : Nat} (h : Has w b ns n) : w.there b 0 n := by
  have := h.holds.there; rwa [ints_len, h.len] at this
theorem Has.rackCell {w : World} {b : Nat} {ns : List Int} (h : Has w b ns 24) (i k : Nat) (hi : i < 6) (hk : k < 4) : w.cell? ⟨b, i * 4 + k, none⟩ = some (.int .i64 ((tub ns i).getD k 0)) := by
  rw [tub_getD ns i k hk]; exact h.cell _ (by omega)

theorem ret_bool {a b : Bool} (h : a = b) : Ending.returned (.bool a) = .returned (.bool b) := by rw [h]
theorem ret_int {a b : Int} (h : a = b) : Ending.returned (.int .i64 a) = .returned (.int .i64 b) := by rw [h]
/-- What a chain of new blocks and calls keeps. -/
abbrev Kept (w w' : World) : Prop := Below w.heap.size w w'
theorem Kept.alloc {w w' : World} (h : Kept w w') (o : Obj) : Kept w (w'.alloc o) := Below.alloc h h.size o
theorem Kept.call {w w' w2 : World} (h : Kept w w') (m : Kept w' w2) : Kept w w2 := h.trans (m.mono h.size)
theorem Kept.set {w w' : World} (h : Kept w w') {b : Nat} (hb : w.heap.size ≤ b) (k : Nat) (v : Value) : Kept w (w'.setCell ⟨b, k, none⟩ v) := h.setCell hb v
theorem Kept.puts {w w' : World} (h : Kept w w') {b : Nat} (hb : w.heap.size ≤ b) (k : Nat) (vs : List Value) : Kept w (w'.setCells b k vs) := below_setCells b hb vs k w w' h
theorem Kept.drewN {w w' : World} (h : Kept w w') (n : Nat) : Kept w (w'.drewN n) := ⟨h.os, h.tape, h.output, h.size, h.block⟩
theorem kept_refl (w : World) : Kept w w := Below.refl _ _

section
variable {P : Program} {ops : Array Oper} {rest : List Oper} {op : Oper} {a : Act} {w : World} {Q : Exit → Act → World → Prop}
theorem wpList_wanted (hw : Region.wanted op (yielded ops a.tmps) = true) (h : ∀ K : Act → World → Prop, (∀ a w, wpList P ops Q rest a w → K a w) → op.wp P a w K Q) : wpList P ops Q (op :: rest) a w :=
  wpList_step fun K hK => by rw [if_pos hw]; exact h K hK
/-- A whole array is loaded. -/
theorem load_has (hw : Region.wanted op (yielded ops a.tmps) = true) (T : TypeId) (x : Operand) (ho : op.op = .load T x) (b : Nat) (hx : a.eval x = .pointer (some ⟨b, 0, none⟩)) (ns : List Int) (n : Nat) (H : Has w b ns n)
    (d : TypeDesc) (hu : P.underlying T = some d) (hd : d.isRow = true) (hi : (P.info? T).map (·.size) = some n)
    (h : wpList P ops Q rest (a.put op.dst (.agg (ints ns).toArray)) w) : wpList P ops Q (op :: rest) a w :=
  wpList_wanted hw fun _ hK => wp_load_mid T x ho b 0 hx (ints ns) d H.holds.range hu hd (by rw [ints_len, H.len]; exact hi) (hK _ _ h)
/-- A tube is loaded out of a rack. -/
theorem load_tub (hw : Region.wanted op (yielded ops a.tmps) = true) (T : TypeId) (x : Operand) (ho : op.op = .load T x) (b i o : Nat) (hx : a.eval x = .pointer (some ⟨b, o, none⟩)) (hio : o = i * 4) (ns : List Int) (H : Has w b ns 24) (hi6 : i < 6)
    (d : TypeDesc) (hu : P.underlying T = some d) (hd : d.isRow = true) (hi : (P.info? T).map (·.size) = some 4)
    (h : wpList P ops Q rest (a.put op.dst (.agg (ints (tub ns i)).toArray)) w) : wpList P ops Q (op :: rest) a w := by
  subst hio
  exact wpList_wanted hw fun _ hK => wp_load_mid T x ho b (i * 4) hx (ints (tub ns i)) d (H.holds.sub (i * 4) 4) hu hd (by rw [ints_len, tub_len ns i H.len hi6]; exact hi) (hK _ _ h)
/-- A whole array is stored. -/
theorem store_has (hw : Region.wanted op (yielded ops a.tmps) = true) (T : TypeId) (x y : Operand) (ho : op.op = .store T x y) (b o : Nat) (ms : List Int) (hx : a.eval x = .pointer (some ⟨b, o, none⟩)) (hy : a.eval y = .agg (ints ms).toArray)
    (n : Nat) (hm : ms.length = n) (ht : w.there b o n) (hi : (P.info? T).map (·.size) = some n)
    (h : wpList P ops Q rest (a.put op.dst undef) (w.setCells b o (ints ms))) : wpList P ops Q (op :: rest) a w :=
  wpList_wanted hw fun _ hK => wp_store_mid T x y ho b o (ints ms).toArray hx hy (by simpa [ints_len, hm] using ht) (by simpa [ints_len, hm] using hi) (all_oneCell_toArray (ints_one ms)) (hK _ _ h)
theorem store_at (hw : Region.wanted op (yielded ops a.tmps) = true) (T : TypeId) (x y : Operand) (ho : op.op = .store T x y) (b : Nat) (ms : List Int) (hx : a.eval x = .pointer (some ⟨b, 0, none⟩)) (hy : a.eval y = .agg (ints ms).toArray)
    (ns : List Int) (n : Nat) (H : Has w b ns n) (hm : ms.length = n) (hi : (P.info? T).map (·.size) = some n)
    (h : wpList P ops Q rest (a.put op.dst undef) (w.setCells b 0 (ints ms))) : wpList P ops Q (op :: rest) a w :=
  store_has hw T x y ho b 0 ms hx hy n hm H.there hi h
theorem put_new (w : World) (T : TypeId) (b : Nat) (hb : b = w.heap.size) : ∀ (vs pre cs : List Value), (w.alloc (.cells (pre ++ cs).toArray T)).setCells b pre.length vs = w.alloc (.cells (pre ++ (vs.take cs.length ++ cs.drop vs.length)).toArray T)
  | [], pre, cs => by simp [World.setCells]
  | v :: r, pre, [] => by
    have := put_new w T b hb r pre []
    rw [World.setCells, World.setCell_alloc_at _ _ _ _ _ hb]
    have e : (pre ++ []).toArray.setIfInBounds pre.length v = (pre ++ []).toArray := by simp [List.set_eq_of_length_le]
    rw [e]
    have hx : ∀ (vs : List Value) (o : Nat), pre.length ≤ o → (w.alloc (.cells (pre ++ []).toArray T)).setCells b o vs = w.alloc (.cells (pre ++ []).toArray T) := by
      intro vs
      induction vs with
      | nil => intro o _; rfl
      | cons u s ih =>
        intro o ho
        rw [World.setCells, World.setCell_alloc_at _ _ _ _ _ hb]
        have e : (pre ++ []).toArray.setIfInBounds o u = (pre ++ []).toArray := by
          apply Array.ext_getElem?
          intro i
          rw [Array.getElem?_setIfInBounds]
          split
          · rename_i h; subst h
            rw [Array.getElem?_eq_none (by simpa using ho)]; simp; exact ho
          · rfl
        rw [e]; exact ih (o + 1) (by omega)
    rw [hx r (pre.length + 1) (by omega)]; simp
  | v :: r, pre, c :: cs => by
    have h := put_new w T b hb r (pre ++ [v]) cs
    rw [World.setCells, World.setCell_alloc_at _ _ _ _ _ hb]
    have e : (pre ++ c :: cs).toArray.setIfInBounds pre.length v = (pre ++ [v] ++ cs).toArray := by
      rw [List.setIfInBounds_toArray]; congr 1; simp
    rw [e]
    have el : (pre ++ [v]).length = pre.length + 1 := by simp
    rw [el] at h
    rw [h]; simp
theorem put_whole (w : World) (T : TypeId) (cs : Array Value) (vs : List Value) (h : cs.size = vs.length) (b : Nat) (hb : b = w.heap.size) : (w.alloc (.cells cs T)).setCells b 0 vs = w.alloc (.cells vs.toArray T) := by
  have := put_new w T b hb vs [] cs.toList
  simp only [List.nil_append, List.length_nil] at this
  rw [List.take_of_length_le (by simp; omega), List.drop_of_length_le (by simp; omega), List.append_nil] at this
  exact this
/-- A whole array is stored into the block that was just made. -/
theorem store_new (hw : Region.wanted op (yielded ops a.tmps) = true) (T : TypeId) (x y : Operand) (ho : op.op = .store T x y) (W : World) (cs : Array Value) (T' : TypeId) (hW : w = W.alloc (.cells cs T')) (b : Nat) (hb : b = W.heap.size) (ms : List Int) (hx : a.eval x = .pointer (some ⟨b, 0, none⟩)) (hy : a.eval y = .agg (ints ms).toArray)
    (hm : ms.length = cs.size) (hi : (P.info? T).map (·.size) = some cs.size)
    (h : wpList P ops Q rest (a.put op.dst undef) (W.alloc (.cells (ints ms).toArray T'))) : wpList P ops Q (op :: rest) a w := by
  subst hW
  refine store_has hw T x y ho b 0 ms hx hy cs.size hm (by subst hb; exact there_new W cs T') hi ?_
  rw [put_whole W T' cs (ints ms) (by rw [ints_len]; exact hm.symm) b hb]
  exact h
/-- Two arrays are compared. -/
theorem eql_has (hw : Region.wanted op (yielded ops a.tmps) = true) (T T2 : TypeId) (x y : Operand) (ho : op.op = .binOp .eql T x y T2) (xs ys : List Int) (hx : a.eval x = .agg (ints xs).toArray) (hy : a.eval y = .agg (ints ys).toArray)
    (hm : P.eqGuardType P.depth T = false) (hq : ∀ w, (Op.equalIn 10000 T (.agg (ints xs).toArray) (.agg (ints ys).toArray)).run P w = .ok (decide (xs = ys)) w)
    (h : wpList P ops Q rest (a.put op.dst (.bool (decide (xs = ys)))) w) : wpList P ops Q (op :: rest) a w :=
  wpList_wanted hw fun _ hK => by
    unfold Oper.wp execOp
    simp only [ho, hx, hy, Sem.run_bind, run_eqGuard_agg w .eql T x y _ _ hm, run_eql_struct, hq, Result.andThen_ok, Sem.run_pure]
    exact hK _ _ h
theorem neq_has (hw : Region.wanted op (yielded ops a.tmps) = true) (T T2 : TypeId) (x y : Operand) (ho : op.op = .binOp .neq T x y T2) (xs ys : List Int) (hx : a.eval x = .agg (ints xs).toArray) (hy : a.eval y = .agg (ints ys).toArray)
    (hm : P.eqGuardType P.depth T = false) (hq : ∀ w, (Op.equalIn 10000 T (.agg (ints xs).toArray) (.agg (ints ys).toArray)).run P w = .ok (decide (xs = ys)) w)
    (h : wpList P ops Q rest (a.put op.dst (.bool (!decide (xs = ys)))) w) : wpList P ops Q (op :: rest) a w :=
  wpList_wanted hw fun _ hK => by
    unfold Oper.wp execOp
    simp only [ho, hx, hy, Sem.run_bind, run_eqGuard_agg w .neq T x y _ _ hm, run_neq_struct, hq, Result.andThen_ok, Sem.run_pure]
    exact hK _ _ h
/-- An array is indexed. -/
theorem index_law (hw : Region.wanted op (yielded ops a.tmps) = true) (T : TypeId) (x y : Operand) (ho : op.op = .index T x y) (u : Value) (z : Value) (v : Value) (hx : a.eval x = u) (hy : a.eval y = z)
    (hq : (Instr.index T u z).run P w = .ok v w)
    (h : wpList P ops Q rest (a.put op.dst v) w) : wpList P ops Q (op :: rest) a w :=
  wpList_wanted hw fun _ hK => by
    unfold Oper.wp execOp
    simp only [ho, hx, hy, Sem.run_bind, hq, Result.andThen_ok, Sem.run_pure]
    exact hK _ _ h
theorem build_law (hw : Region.wanted op (yielded ops a.tmps) = true) (T : TypeId) (ho : op.op = .build T #[]) (v : Value)
    (hq : ∀ w, (Instr.build T #[]).run P w = .ok v w)
    (h : wpList P ops Q rest (a.put op.dst v) w) : wpList P ops Q (op :: rest) a w :=
  wpList_wanted hw fun _ hK => by
    unfold Oper.wp execOp
    simp only [ho, Sem.run_bind, List.map_toArray, List.map_nil, hq, Result.andThen_ok, Sem.run_pure]
    exact hK _ _ h
end
/-- A result that lies in a cell slot. -/
theorem res_has {P : Program} {fn : Func} {p : Tmp} {T : TypeId} (h : fn.results = #[.cell p T]) (tmps : Array Value) (w : World) (b : Nat) (ns : List Int) (n : Nat) (d : TypeDesc)
    (hp : tmps.getD p undef = .pointer (some ⟨b, 0, none⟩)) (H : Has w b ns n) (hu : P.underlying T = some d) (hd : d.isRow = true) (hi : (P.info? T).map (·.size) = some n) :
    (results fn tmps).run P w = .ok (.agg (ints ns).toArray) w :=
  results_cell_mid h tmps w b (ints ns) d hp H.holds.range hu hd (by rw [ints_len, H.len]; exact hi)
theorem res_has1 {P : Program} {fn : Func} {p q : Tmp} {T : TypeId} (h : fn.results = #[.cell p T, .tmp q]) (tmps : Array Value) (w : World) (b : Nat) (ns : List Int) (n : Nat) (d : TypeDesc) (v : Value)
    (hp : tmps.getD p undef = .pointer (some ⟨b, 0, none⟩)) (hq : tmps.getD q undef = v) (H : Has w b ns n) (hu : P.underlying T = some d) (hd : d.isRow = true) (hi : (P.info? T).map (·.size) = some n) :
    (results fn tmps).run P w = .ok (.tuple #[.agg (ints ns).toArray, v]) w := by
  have hp' : tmps[p]?.getD undef = .pointer (some ⟨b, 0, none⟩) := by simpa using hp
  have hq' : tmps[q]?.getD undef = v := by simpa using hq
  have hl := run_loadVar_mid (P := P) w b 0 T (ints ns) d H.holds.range hu hd (by rw [ints_len, H.len]; exact hi)
  simp [results, h, hp', hq', asAddr, hl]
theorem res_has2 {P : Program} {fn : Func} {p q r : Tmp} {T : TypeId} (h : fn.results = #[.cell p T, .tmp q, .tmp r]) (tmps : Array Value) (w : World) (b : Nat) (ns : List Int) (n : Nat) (d : TypeDesc) (v u : Value)
    (hp : tmps.getD p undef = .pointer (some ⟨b, 0, none⟩)) (hq : tmps.getD q undef = v) (hr : tmps.getD r undef = u) (H : Has w b ns n) (hu : P.underlying T = some d) (hd : d.isRow = true) (hi : (P.info? T).map (·.size) = some n) :
    (results fn tmps).run P w = .ok (.tuple #[.agg (ints ns).toArray, v, u]) w := by
  have hp' : tmps[p]?.getD undef = .pointer (some ⟨b, 0, none⟩) := by simpa using hp
  have hq' : tmps[q]?.getD undef = v := by simpa using hq
  have hr' : tmps[r]?.getD undef = u := by simpa using hr
  have hl := run_loadVar_mid (P := P) w b 0 T (ints ns) d H.holds.range hu hd (by rw [ints_len, H.len]; exact hi)
  simp [results, h, hp', hq', hr', asAddr, hl]
theorem res_hasc {P : Program} {fn : Func} {p p' q : Tmp} {T T' : TypeId} (h : fn.results = #[.cell p T, .cell p' T', .tmp q]) (tmps : Array Value) (w : World) (b b' : Nat) (ns ms : List Int) (n n' : Nat) (d d' : TypeDesc) (v : Value)
    (hp : tmps.getD p undef = .pointer (some ⟨b, 0, none⟩)) (hpp : tmps.getD p' undef = .pointer (some ⟨b', 0, none⟩)) (hq : tmps.getD q undef = v) (H : Has w b ns n) (H' : Has w b' ms n')
    (hu : P.underlying T = some d) (hd : d.isRow = true) (hi : (P.info? T).map (·.size) = some n) (hu' : P.underlying T' = some d') (hd' : d'.isRow = true) (hi' : (P.info? T').map (·.size) = some n') :
    (results fn tmps).run P w = .ok (.tuple #[.agg (ints ns).toArray, .agg (ints ms).toArray, v]) w := by
  have hp' : tmps[p]?.getD undef = .pointer (some ⟨b, 0, none⟩) := by simpa using hp
  have hpp' : tmps[p']?.getD undef = .pointer (some ⟨b', 0, none⟩) := by simpa using hpp
  have hq' : tmps[q]?.getD undef = v := by simpa using hq
  have hl := run_loadVar_mid (P := P) w b 0 T (ints ns) d H.holds.range hu hd (by rw [ints_len, H.len]; exact hi)
  have hl' := run_loadVar_mid (P := P) w b' 0 T' (ints ms) d' H'.holds.range hu' hd' (by rw [ints_len, H'.len]; exact hi')
  simp [results, h, hp', hpp', hq', asAddr, hl, hl']
theorem Has.zero (w : World) (T : TypeId) : Has (w.alloc (.cells #[.int .i64 0, .int .i64 0, .int .i64 0, .int .i64 0] T)) w.heap.size [0, 0, 0, 0] 4 := Has.box (ns := [0, 0, 0, 0]) w T rfl (by decide)
theorem Has.at {w : World} {b c : Nat} {ns : List Int} {n : Nat} (h : Has w b ns n) (e : b = c) : Has w c ns n := e ▸ h
theorem size1 (w : World) (o : Obj) : (w.alloc o).heap.size = w.heap.size + 1 := by simp
end Go.Proofs.Ytalngdccjoafhab.base
end
