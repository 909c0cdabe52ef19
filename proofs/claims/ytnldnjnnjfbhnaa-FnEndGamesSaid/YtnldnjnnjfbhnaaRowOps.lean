/-
  What the operations on whole arrays of numbers give: comparing, indexing, building.
-/
import Derived.Test.YtnldnjnnjfbhnaaTubeZ
import Derived.Laws.StructEq
import Derived.Tactics
namespace Go.Proofs.Ytnldnjnnjfbhnaa.base
open Go.ChangeShapes Go.WideShapes Go.ChangeAt Go.RowKit
set_option linter.unusedVariables false
set_option linter.unusedSimpArgs false

theorem ints_extract (ns : List Int) (o n : Nat) : (ints ns).toArray.extract o (o + n) = (ints ((ns.drop o).take n)).toArray := by
  rw [List.extract_toArray]
  congr 1
  rw [List.extract_eq_take_drop, Nat.add_sub_cancel_left, ints_take]
theorem ints_getA (ns : List Int) (j : Nat) (h : j < ns.length) : (ints ns).toArray[j]? = some (.int .i64 (ns.getD j 0)) := by
  rw [List.getElem?_toArray]; exact ints_get ns j h

section
variable {P : Program}
theorem run_part_int (e : TypeId) (he : P.underlying e = some (.int .i64)) (ns : List Int) (j : Nat) (h : j < ns.length) (w : World) : (part e (ints ns).toArray j).run P w = .ok (.int .i64 (ns.getD j 0)) w := by
  simp [part, isAgg, run_underlying he, ints_getA ns j h]
theorem run_part_row (e x : TypeId) (n : Nat) (he : P.underlying e = some (.array n x)) (hz : ∀ w, (sizeOf e).run P w = .ok n w) (ns : List Int) (o : Nat) (w : World) : (part e (ints ns).toArray o).run P w = .ok (.agg (ints ((ns.drop o).take n)).toArray) w := by
  simp only [part, isAgg, Sem.run_bind, run_underlying he, Result.andThen_ok, Sem.run_pure, if_true, hz, ints_extract]
theorem eq4 (a b c d e f g h : Int) : ((a == e) && (b == f) && (c == g) && (d == h)) = decide ([a, b, c, d] = [e, f, g, h]) := by
  rw [Bool.eq_iff_iff]; simp [and_assoc]
theorem run_eq4 (D : Nat) (T e : TypeId) (hT : P.underlying T = some (.array 4 e)) (he : P.underlying e = some (.int .i64)) (hz : ∀ w, (sizeOf e).run P w = .ok 1 w) (xs ys : List Int) (hx : xs.length = 4) (hy : ys.length = 4) (w : World) :
    (Op.equalIn (D + 2) T (.agg (ints xs).toArray) (.agg (ints ys).toArray)).run P w = .ok (decide (xs = ys)) w := by
  obtain ⟨a, b, c, d, rfl⟩ := len4 hx
  obtain ⟨e', f, g, h, rfl⟩ := len4 hy
  rw [← eq4]
  have p : ∀ (a b c d : Int) (j : Nat) (hj : j < 4) (w : World), (part e (ints [a, b, c, d]).toArray j).run P w = .ok (.int .i64 ([a, b, c, d].getD j 0)) w := fun a b c d j hj w => run_part_int e he [a, b, c, d] j hj w
  have q : ∀ (x y : Int) (w : World), (Op.equalIn (D + 1) e (.int .i64 x) (.int .i64 y)).run P w = .ok (x == y) w := fun x y w => run_equalIn_int w D e .i64 .i64 x y he
  rw [Op.equalIn]
  simp only [Sem.run_bind, run_underlying hT, Result.andThen_ok, hz]
  simp only [Std.Legacy.Range.forIn_eq_forIn_range', Std.Legacy.Range.size, Nat.sub_zero, Nat.add_sub_cancel, Nat.div_one, List.range'_succ, List.range'_zero, List.forIn_cons, List.forIn_nil, Nat.mul_one]
  simp only [Sem.run_bind, p _ _ _ _ 0 (by omega), q, Result.andThen_ok]
  by_cases h1 : a = e' <;> by_cases h2 : b = f <;> by_cases h3 : c = g <;> by_cases h4 : d = h <;> simp [h1, h2, h3, h4, q, p]
theorem tub_eq6 (xs ys : List Int) (hx : xs.length = 24) (hy : ys.length = 24) : (decide (tub xs 0 = tub ys 0) && decide (tub xs 1 = tub ys 1) && decide (tub xs 2 = tub ys 2) && decide (tub xs 3 = tub ys 3) && decide (tub xs 4 = tub ys 4) && decide (tub xs 5 = tub ys 5)) = decide (xs = ys) := by
  rw [Bool.eq_iff_iff]
  simp only [Bool.and_eq_true, decide_eq_true_eq]
  constructor
  · rintro ⟨⟨⟨⟨⟨h0, h1⟩, h2⟩, h3⟩, h4⟩, h5⟩
    refine rack_ext hx hy (fun i hi => ?_)
    match i, hi with
    | 0, _ => exact h0
    | 1, _ => exact h1
    | 2, _ => exact h2
    | 3, _ => exact h3
    | 4, _ => exact h4
    | 5, _ => exact h5
  · rintro rfl; exact ⟨⟨⟨⟨⟨rfl, rfl⟩, rfl⟩, rfl⟩, rfl⟩, rfl⟩
theorem run_eq24 (D : Nat) (T c e : TypeId) (hT : P.underlying T = some (.array 6 c)) (hc : P.underlying c = some (.array 4 e)) (he : P.underlying e = some (.int .i64)) (hz : ∀ w, (sizeOf e).run P w = .ok 1 w) (hzc : ∀ w, (sizeOf c).run P w = .ok 4 w) (xs ys : List Int) (hx : xs.length = 24) (hy : ys.length = 24) (w : World) :
    (Op.equalIn (D + 3) T (.agg (ints xs).toArray) (.agg (ints ys).toArray)).run P w = .ok (decide (xs = ys)) w := by
  rw [← tub_eq6 xs ys hx hy]
  have p : ∀ (ns : List Int) (o : Nat) (w : World), (part c (ints ns).toArray o).run P w = .ok (.agg (ints ((ns.drop o).take 4)).toArray) w := fun ns o w => run_part_row c e 4 hc hzc ns o w
  have q : ∀ (i : Nat) (hi : i < 6) (w : World), (Op.equalIn (D + 2) c (.agg (ints (tub xs i)).toArray) (.agg (ints (tub ys i)).toArray)).run P w = .ok (decide (tub xs i = tub ys i)) w := fun i hi w => run_eq4 D c e hc he hz _ _ (tub_len xs i hx hi) (tub_len ys i hy hi) w
  have q0 := q 0 (by omega); have q1 := q 1 (by omega); have q2 := q 2 (by omega); have q3 := q 3 (by omega); have q4 := q 4 (by omega); have q5 := q 5 (by omega)
  clear q
  generalize decide (tub xs 0 = tub ys 0) = b0 at *
  generalize decide (tub xs 1 = tub ys 1) = b1 at *
  generalize decide (tub xs 2 = tub ys 2) = b2 at *
  generalize decide (tub xs 3 = tub ys 3) = b3 at *
  generalize decide (tub xs 4 = tub ys 4) = b4 at *
  generalize decide (tub xs 5 = tub ys 5) = b5 at *
  unfold tub at q0 q1 q2 q3 q4 q5
  simp only [Nat.reduceMul] at q0 q1 q2 q3 q4 q5
  rw [Op.equalIn]
  simp only [Sem.run_bind, run_underlying hT, Result.andThen_ok, hzc]
  simp only [Std.Legacy.Range.forIn_eq_forIn_range', Std.Legacy.Range.size, Nat.sub_zero, Nat.div_one, List.range'_succ, List.range'_zero, List.forIn_cons, List.forIn_nil, Nat.zero_add, Nat.reduceAdd, Nat.reduceMul, Sem.run_bind, p, q0, Result.andThen_ok]
  cases b0
  · simp
  cases b1
  · simp [p, q1]
  cases b2
  · simp [p, q1, q2]
  cases b3
  · simp [p, q1, q2, q3]
  cases b4
  · simp [p, q1, q2, q3, q4]
  cases b5
  · simp [p, q1, q2, q3, q4, q5]
  · simp [p, q1, q2, q3, q4, q5]
theorem run_index_int (T e : TypeId) (n : Nat) (hT : P.underlying T = some (.array n e)) (he : P.underlying e = some (.int .i64)) (hz : ∀ w, (sizeOf e).run P w = .ok 1 w) (ns : List Int) (hn : ns.length = n) (k : Nat) (hk : k < n) (w : World) :
    (Instr.index T (.agg (ints ns).toArray) (.int .i64 (k : Nat))).run P w = .ok (.int .i64 (ns.getD k 0)) w := by
  have h1 : (0 : Int) ≤ (k : Int) ∧ (k : Int) < (n : Int) := by omega
  simp only [Instr.index, asIntOf, Sem.run_bind, Sem.run_pure, Result.andThen_ok, run_underlying hT, h1, and_self, if_true, hz, Int.toNat_natCast, Nat.mul_one]
  exact run_part_int e he ns k (by omega) w
theorem run_index_row (T c e : TypeId) (m n : Nat) (hT : P.underlying T = some (.array m c)) (hc : P.underlying c = some (.array n e)) (hz : ∀ w, (sizeOf c).run P w = .ok n w) (ns : List Int) (k : Nat) (hk : k < m) (w : World) :
    (Instr.index T (.agg (ints ns).toArray) (.int .i64 (k : Nat))).run P w = .ok (.agg (ints ((ns.drop (k * n)).take n)).toArray) w := by
  have h1 : (0 : Int) ≤ (k : Int) ∧ (k : Int) < (m : Int) := by omega
  simp only [Instr.index, asIntOf, Sem.run_bind, Sem.run_pure, Result.andThen_ok, run_underlying hT, h1, and_self, if_true, hz, Int.toNat_natCast]
  exact run_part_row c e n hc hz ns (k * n) w
end

/-! at this program's types -/
theorem eqTube (xs ys : List Int) (hx : xs.length = 4) (hy : ys.length = 4) (w : World) : (Op.equalIn 10000 68 (.agg (ints xs).toArray) (.agg (ints ys).toArray)).run Try.prog w = .ok (decide (xs = ys)) w :=
  run_eq4 9998 68 3 Try.underlying68 Try.underlying3 (fun w => by rw [Try.sizeOf3]) xs ys hx hy w
theorem eqArr4 (xs ys : List Int) (hx : xs.length = 4) (hy : ys.length = 4) (w : World) : (Op.equalIn 10000 24 (.agg (ints xs).toArray) (.agg (ints ys).toArray)).run Try.prog w = .ok (decide (xs = ys)) w :=
  run_eq4 9998 24 3 Try.underlying24 Try.underlying3 (fun w => by rw [Try.sizeOf3]) xs ys hx hy w
theorem index4 (T : TypeId) (hT : Try.prog.underlying T = some (.array 4 3)) (ns : List Int) (hn : ns.length = 4) (k : Nat) (hk : k < 4) (w : World) : (Instr.index T (.agg (ints ns).toArray) (.int .i64 (k : Nat))).run Try.prog w = .ok (.int .i64 (ns.getD k 0)) w :=
  run_index_int T 3 4 hT Try.underlying3 (fun w => by rw [Try.sizeOf3]) ns hn k hk w
theorem indexTub (ns : List Int) (k : Nat) (hk : k < 6) (w : World) : (Instr.index 25 (.agg (ints ns).toArray) (.int .i64 (k : Nat))).run Try.prog w = .ok (.agg (ints (tub ns k)).toArray) w :=
  run_index_row 25 24 3 6 4 Try.underlying25 Try.underlying24 (fun w => by rw [Try.sizeOf24]) ns k hk w
theorem buildTube (w : World) : (Instr.build 68 #[]).run Try.prog w = .ok (.agg (ints [0, 0, 0, 0]).toArray) w := by kernel_rfl
end Go.Proofs.Ytnldnjnnjfbhnaa.base
