/-
  Exchanging two tubes, on both sides, walked.
-/
/-
  Whole racks, pairs and counts are compared: what the operations give.
-/
import Derived.Test.YtalngdccjoafhabCanZ
import Derived.Deep.RegionHeld3

section
namespace Go.Proofs.Ytalngdccjoafhab.base
open Go.ChangeShapes Go.WideShapes Go.ChangeAt Go.RowKit
set_option linter.unusedVariables false
set_option linter.unusedSimpArgs false

def swapOk (ns : List Int) (i j : Int) : Bool := vR ns && decide (0 ≤ i ∧ i < 6) && decide (0 ≤ j ∧ j < 6)
def swapR (ns : List Int) (i j : Int) : List Int := if swapOk ns i j = true then setTub (setTub ns i.toNat (tub ns j.toNat)) j.toNat (tub ns i.toNat) else z24
theorem swapOk_not {ns : List Int} {i j : Int} (h : ¬ (vR ns = true ∧ (0 ≤ i ∧ i < 6) ∧ (0 ≤ j ∧ j < 6))) : swapOk ns i j = false := by
  cases hb : swapOk ns i j with
  | false => rfl
  | true => unfold swapOk at hb; simp at hb; exact absurd ⟨hb.1.1, hb.1.2, hb.2⟩ h
theorem swapR_yes {ns : List Int} {p q : Nat} (hv : vR ns = true) (hp : p < 6) (hq : q < 6) : swapOk ns p q = true ∧ swapR ns p q = setTub (setTub ns p (tub ns q)) q (tub ns p) := by
  have h : swapOk ns p q = true := by unfold swapOk; rw [hv]; simp; omega
  exact ⟨h, by unfold swapR; rw [if_pos h]; simp⟩
theorem swapR_len {ns : List Int} (h : ns.length = 24) (i j : Int) : (swapR ns i j).length = 24 := by
  unfold swapR
  by_cases hb : swapOk ns i j = true
  · rw [if_pos hb]
    unfold swapOk at hb
    simp at hb
    have a1 := tub_len ns j.toNat h (by omega)
    have a2 := tub_len ns i.toNat h (by omega)
    exact setTub_len _ _ _ (setTub_len ns _ _ h (by omega) a1) (by omega) a2
  · rw [if_neg hb]; rfl

structure HasOnly (w : World) (b : Nat) (ns : List Int) : Prop where
  has : Has w b ns 24
end Go.Proofs.Ytalngdccjoafhab.base
end

section
namespace Go.Proofs.Ytalngdccjoafhab.base
open Go.ChangeShapes Go.WideShapes Go.ChangeAt Go.RowKit
set_option linter.unusedVariables false
set_option linter.unusedSimpArgs false

theorem eql_run {P : Program} (ev : Operand → Value) (o : Oper) (T T2 : TypeId) (x y : Operand) (ho : o.op = .binOp .eql T x y T2) (xs ys : List Int) (hx : ev x = .agg (ints xs).toArray) (hy : ev y = .agg (ints ys).toArray)
    (hm : P.eqGuardType P.depth T = false) (hq : ∀ w, (Op.equalIn 10000 T (.agg (ints xs).toArray) (.agg (ints ys).toArray)).run P w = .ok (decide (xs = ys)) w) {w : World} :
    (execOp ev o).run P w = .ok (.value (.bool (decide (xs = ys)))) w := by
  unfold execOp
  simp only [ho, hx, hy, Sem.run_bind, run_eqGuard_agg w .eql T x y _ _ hm, run_eql_struct, hq, Result.andThen_ok, Sem.run_pure]

section
variable {P : Program} {ops : Array Oper} {rest : List Oper} {op : Oper} {a : Act} {w : World} {Q : Exit → Act → World → Prop}
theorem neq_yes (hw : Region.wanted op (yielded ops a.tmps) = true) (T T2 : TypeId) (x y : Operand) (ho : op.op = .binOp .neq T x y T2) (xs ys : List Int) (hx : a.eval x = .agg (ints xs).toArray) (hy : a.eval y = .agg (ints ys).toArray)
    (hm : P.eqGuardType P.depth T = false) (hq : ∀ w, (Op.equalIn 10000 T (.agg (ints xs).toArray) (.agg (ints ys).toArray)).run P w = .ok (decide (xs = ys)) w) (hn : xs ≠ ys)
    (h : wpList P ops Q rest (a.put op.dst (.bool true)) w) : wpList P ops Q (op :: rest) a w :=
  neq_has hw T T2 x y ho xs ys hx hy hm hq (by rw [decide_eq_false hn]; exact h)
theorem neq_no (hw : Region.wanted op (yielded ops a.tmps) = true) (T T2 : TypeId) (x y : Operand) (ho : op.op = .binOp .neq T x y T2) (xs ys : List Int) (hx : a.eval x = .agg (ints xs).toArray) (hy : a.eval y = .agg (ints ys).toArray)
    (hm : P.eqGuardType P.depth T = false) (hq : ∀ w, (Op.equalIn 10000 T (.agg (ints xs).toArray) (.agg (ints ys).toArray)).run P w = .ok (decide (xs = ys)) w) (hn : xs = ys)
    (h : wpList P ops Q rest (a.put op.dst (.bool false)) w) : wpList P ops Q (op :: rest) a w :=
  neq_has hw T T2 x y ho xs ys hx hy hm hq (by rw [decide_eq_true hn]; exact h)
end
theorem run_part_whole {P : Program} (e x : TypeId) (m : Nat) (he : P.underlying e = some (.array m x)) (hz : ∀ w, (sizeOf e).run P w = .ok 24 w) (ns : List Int) (h : ns.length = 24) (w : World) : (part e (ints ns).toArray 0).run P w = .ok (.agg (ints ns).toArray) w := by
  simp only [part, isAgg, Sem.run_bind, run_underlying he, Result.andThen_ok, Sem.run_pure, if_true, hz]
  rw [ints_extract ns 0 24, List.drop_zero, List.take_of_length_le (by omega)]
theorem run_eqOne {P : Program} (D : Nat) (T : TypeId) (f : Field) (hT : P.underlying T = some (.struct #[f])) (hn : f.name ≠ "_") (ho : f.offset = 0) (hs : P.stoodInHeld T = false) (X Y : Array Value) (u v : Value) (b : Bool)
    (px : ∀ w, (part f.type X 0).run P w = .ok u w) (py : ∀ w, (part f.type Y 0).run P w = .ok v w) (q : ∀ w, (Op.equalIn D f.type u v).run P w = .ok b w) (w : World) :
    (Op.equalIn (D + 1) T (.agg X) (.agg Y)).run P w = .ok b w := by
  rw [Op.equalIn]
  simp only [Sem.run_bind, run_underlying hT, Result.andThen_ok, run_program, hs, Bool.false_eq_true, if_false, ho]
  cases b <;> simp [hn, ho, px, py, q]
theorem run_eqRack {P : Program} (D : Nat) (T a c e : TypeId) (f : Field) (hT : P.underlying T = some (.struct #[f])) (hn : f.name ≠ "_") (ho : f.offset = 0) (hf : f.type = a) (hs : P.stoodInHeld T = false)
    (ha : P.underlying a = some (.array 6 c)) (hc : P.underlying c = some (.array 4 e)) (he : P.underlying e = some (.int .i64)) (hz : ∀ w, (sizeOf e).run P w = .ok 1 w) (hzc : ∀ w, (sizeOf c).run P w = .ok 4 w) (hza : ∀ w, (sizeOf a).run P w = .ok 24 w)
    (xs ys : List Int) (hx : xs.length = 24) (hy : ys.length = 24) (w : World) :
    (Op.equalIn (D + 4) T (.agg (ints xs).toArray) (.agg (ints ys).toArray)).run P w = .ok (decide (xs = ys)) w := by
  subst hf
  exact run_eqOne (D + 3) T f hT hn ho hs _ _ _ _ _ (run_part_whole f.type c 6 ha hza xs hx) (run_part_whole f.type c 6 ha hza ys hy) (run_eq24 D f.type c e ha hc he hz hzc xs ys hx hy) w
theorem eqRackT (xs ys : List Int) (hx : xs.length = 24) (hy : ys.length = 24) (w : World) : (Op.equalIn 10000 30 (.agg (ints xs).toArray) (.agg (ints ys).toArray)).run Try.prog w = .ok (decide (xs = ys)) w :=
  run_eqRack 9996 30 23 22 3 _ Try.underlying30 (by decide) rfl rfl (by kernel_rfl) Try.underlying23 Try.underlying22 Try.underlying3
    (fun w => by rw [Try.sizeOf3]) (fun w => by rw [Try.sizeOf22]) (fun w => by rw [Try.sizeOf23]) xs ys hx hy w

theorem neq_run {P : Program} (ev : Operand → Value) (o : Oper) (T T2 : TypeId) (x y : Operand) (ho : o.op = .binOp .neq T x y T2) (xs ys : List Int) (hx : ev x = .agg (ints xs).toArray) (hy : ev y = .agg (ints ys).toArray)
    (hm : P.eqGuardType P.depth T = false) (hq : ∀ w, (Op.equalIn 10000 T (.agg (ints xs).toArray) (.agg (ints ys).toArray)).run P w = .ok (decide (xs = ys)) w) {w : World} :
    (execOp ev o).run P w = .ok (.value (.bool (!decide (xs = ys)))) w := by
  unfold execOp
  simp only [ho, hx, hy, Sem.run_bind, run_eqGuard_agg w .neq T x y _ _ hm, run_neq_struct, hq, Result.andThen_ok, Sem.run_pure]
theorem neq_same_run {P : Program} (ev : Operand → Value) (o : Oper) (T T2 : TypeId) (x y : Operand) (ho : o.op = .binOp .neq T x y T2) (xs : List Int) (hx : ev x = .agg (ints xs).toArray) (hy : ev y = .agg (ints xs).toArray)
    (hm : P.eqGuardType P.depth T = false) (hq : ∀ w, (Op.equalIn 10000 T (.agg (ints xs).toArray) (.agg (ints xs).toArray)).run P w = .ok (decide (xs = xs)) w) {w : World} :
    (execOp ev o).run P w = .ok (.value (.bool false)) w := by
  have := neq_run (w := w) ev o T T2 x y ho xs xs hx hy hm hq
  rwa [decide_eq_true rfl] at this
theorem len2 {t : List Int} (h : t.length = 2) : ∃ a b, t = [a, b] := by
  match t, h with
  | [a, b], _ => exact ⟨a, b, rfl⟩
theorem len6 {t : List Int} (h : t.length = 6) : ∃ a b c d e f, t = [a, b, c, d, e, f] := by
  match t, h with
  | [a, b, c, d, e, f], _ => exact ⟨a, b, c, d, e, f, rfl⟩
theorem run_eq2 {P : Program} (D : Nat) (T e : TypeId) (hT : P.underlying T = some (.array 2 e)) (he : P.underlying e = some (.int .i64)) (hz : ∀ w, (sizeOf e).run P w = .ok 1 w) (xs ys : List Int) (hx : xs.length = 2) (hy : ys.length = 2) (w : World) :
    (Op.equalIn (D + 2) T (.agg (ints xs).toArray) (.agg (ints ys).toArray)).run P w = .ok (decide (xs = ys)) w := by
  obtain ⟨a, b, rfl⟩ := len2 hx
  obtain ⟨e', f, rfl⟩ := len2 hy
  have p : ∀ (a b : Int) (j : Nat) (hj : j < 2) (w : World), (part e (ints [a, b]).toArray j).run P w = .ok (.int .i64 ([a, b].getD j 0)) w := fun a b j hj w => run_part_int e he [a, b] j hj w
  have q : ∀ (x y : Int) (w : World), (Op.equalIn (D + 1) e (.int .i64 x) (.int .i64 y)).run P w = .ok (x == y) w := fun x y w => run_equalIn_int w D e .i64 .i64 x y he
  rw [Op.equalIn]
  simp only [Sem.run_bind, run_underlying hT, Result.andThen_ok, hz]
  simp only [Std.Legacy.Range.forIn_eq_forIn_range', Std.Legacy.Range.size, Nat.sub_zero, Nat.add_sub_cancel, Nat.div_one, List.range'_succ, List.range'_zero, List.forIn_cons, List.forIn_nil, Nat.mul_one]
  simp only [Sem.run_bind, p _ _ 0 (by omega), q, Result.andThen_ok]
  by_cases h1 : a = e' <;> by_cases h2 : b = f <;> simp [h1, h2, q, p]
theorem run_eq6 {P : Program} (D : Nat) (T e : TypeId) (hT : P.underlying T = some (.array 6 e)) (he : P.underlying e = some (.int .i64)) (hz : ∀ w, (sizeOf e).run P w = .ok 1 w) (xs : List Int) (hx : xs.length = 6) (w : World) :
    (Op.equalIn (D + 2) T (.agg (ints xs).toArray) (.agg (ints xs).toArray)).run P w = .ok (decide (xs = xs)) w := by
  rw [decide_eq_true rfl]
  obtain ⟨a, b, c, d, x, y, rfl⟩ := len6 hx
  have p : ∀ (j : Nat) (hj : j < 6) (w : World), (part e (ints [a, b, c, d, x, y]).toArray j).run P w = .ok (.int .i64 ([a, b, c, d, x, y].getD j 0)) w := fun j hj w => run_part_int e he [a, b, c, d, x, y] j hj w
  have q : ∀ (x y : Int) (w : World), (Op.equalIn (D + 1) e (.int .i64 x) (.int .i64 y)).run P w = .ok (x == y) w := fun x y w => run_equalIn_int w D e .i64 .i64 x y he
  rw [Op.equalIn]
  simp only [Sem.run_bind, run_underlying hT, Result.andThen_ok, hz]
  simp only [Std.Legacy.Range.forIn_eq_forIn_range', Std.Legacy.Range.size, Nat.sub_zero, Nat.add_sub_cancel, Nat.div_one, List.range'_succ, List.range'_zero, List.forIn_cons, List.forIn_nil, Nat.mul_one]
  simp [q, p]
theorem eqPair (xs ys : List Int) (hx : xs.length = 2) (hy : ys.length = 2) (w : World) : (Op.equalIn 10000 51 (.agg (ints xs).toArray) (.agg (ints ys).toArray)).run Try.prog w = .ok (decide (xs = ys)) w :=
  run_eq2 9998 51 3 Try.underlying51 Try.underlying3 (fun w => by rw [Try.sizeOf3]) xs ys hx hy w
theorem eqSix (xs : List Int) (hx : xs.length = 6) (w : World) : (Op.equalIn 10000 116 (.agg (ints xs).toArray) (.agg (ints xs).toArray)).run Try.prog w = .ok (decide (xs = xs)) w :=
  run_eq6 9998 116 3 Try.underlying116 Try.underlying3 (fun w => by rw [Try.sizeOf3]) xs hx w
/-! an operation of another kind is passed over at once -/
section
variable {P : Program} {ops : Array Oper} {rest : List Oper} {op : Oper} {a : Act} {w : World} {Q : Exit → Act → World → Prop}
theorem guard_at (f : Op → Bool) (h : f op.op = true) (g : wpList P ops Q (op :: rest) a w) : wpList P ops Q (op :: rest) a w := g
end
section
variable {P : Program} {ops : Array Oper} {rest : List Oper} {op : Oper} {a : Act} {w : World} {Q : Exit → Act → World → Prop}
/-- The same array twice is not unequal. -/
theorem neq_same (hw : Region.wanted op (yielded ops a.tmps) = true) (T T2 : TypeId) (x y : Operand) (ho : op.op = .binOp .neq T x y T2) (xs : List Int) (hx : a.eval x = .agg (ints xs).toArray) (hy : a.eval y = .agg (ints xs).toArray)
    (hm : P.eqGuardType P.depth T = false) (hq : ∀ w, (Op.equalIn 10000 T (.agg (ints xs).toArray) (.agg (ints xs).toArray)).run P w = .ok (decide (xs = xs)) w)
    (h : wpList P ops Q rest (a.put op.dst (.bool false)) w) : wpList P ops Q (op :: rest) a w :=
  neq_no hw T T2 x y ho xs xs hx hy hm hq rfl h
end
def isNeq (T : TypeId) : Op → Bool
  | .binOp .neq t _ _ _ => t == T
  | _ => false
end Go.Proofs.Ytalngdccjoafhab.base
end
