/-
  Whole racks, pairs and counts are compared: what the operations give.
-/
/-
  Whether a pair is in a row of pairs: the library's search, walked.
-/
/-
  Pours that each rule allows, and pours with one outcome: plain mathematics over rows of pairs.
-/
import Derived.Test.YtemiljokdedidacSwap
import Derived.Deep.RegionHeld3
import Derived.Test.YtemiljokdedidacRwZ
import Derived.Test.YtemiljokdedidacDepIZ
import Derived.Test.YtemiljokdedidacFilM

section
namespace Go.Proofs.Ytemiljokdedidac.base
open Go.ChangeShapes Go.WideShapes Go.ChangeAt Go.RowKit
set_option linter.unusedVariables false
set_option linter.unusedSimpArgs false

theorem eql_run {P : Program} (ev : Operand → Value) (o : Oper) (T T2 : TypeId) (x y : Operand) (ho : o.op = .binOp .eql T x y T2) (xs ys : List Int) (hx : ev x = .agg (ints xs).toArray) (hy : ev y = .agg (ints ys).toArray)
    (hm : P.eqGuardType P.depth T = false) (hq : ∀ w, (Op.equalIn 10000 T (.agg (ints xs).toArray) (.agg (ints ys).toArray)).run P w = .ok (decide (xs = ys)) w) {w : World} :
    (execOp ev o).run P w = .ok (.value (.bool (decide (xs = ys)))) w := by
  unfold execOp
  simp only [ho, hx, hy, Sem.run_bind, run_eqGuard_agg w .eql T x y _ _ hm, run_eql_struct, hq, Result.andThen_ok, Sem.run_pure]

section
variable {P : Program} {ops : Array Oper} {rest : List Oper} {op : Oper} {a : Act} {w : World} {Q : Exit → Act → World → Prop}
theorem neq_yes (hw : Region.wanted op (yielded ops a.tmps) = true) (T T2 : TypeId) (x y : Operand) (ho : op.op = .binOp .neq T x y T2) (xs ys : List Int) (hx : a.eval x = .agg (ints xs).toArray) (hy : a.eval y = .agg (ints ys).toArray)
    (hm : P.eqGuardType P.depth T = false) (hq : ∀ w, (Op.equalIn 10000 T (.agg (ints xs).toArray) (.agg (ints ys).toArray)).run P w = .ok (decide (xs = ys)) w) (hn : xs ≠ ys)
    (h : wpList P ops Q rest (a.put op.dst (.bool true)) w) : wpList P ops Q (op :: rest) a w :=
  neq_has hw T T2 x y ho xs ys hx hy hm hq (by rw [decide_eq_false hn]; exact h)
theorem neq_no (hw : Region.wanted op (yielded ops a.tmps) = true) (T T2 : TypeId) (x y : Operand) (ho : op.op = .binOp .neq T x y T2) (xs ys : List Int) (hx : a.eval x = .agg (ints xs).toArray) (hy : a.eval y = .agg (ints ys).toArray)
    (hm : P.eqGuardType P.depth T = false) (hq : ∀ w, (Op.equalIn 10000 T (.agg (ints xs).toArray) (.agg (ints ys).toArray)).run P w = .ok (decide (xs = ys)) w) (hn : xs = ys)
    (h : wpList P ops Q rest (a.put op.dst (.bool false)) w) : wpList P ops Q (op :: rest) a w :=
  neq_has hw T T2 x y ho xs ys hx hy hm hq (by rw [decide_eq_true hn]; exact h)
end
theorem run_part_whole {P : Program} (e x : TypeId) (m : Nat) (he : P.underlying e = some (.array m x)) (hz : ∀ w, (sizeOf e).run P w = .ok 24 w) (ns : List Int) (h : ns.length = 24) (w : World) : (part e (ints ns).toArray 0).run P w = .ok (.agg (ints ns).toArray) w := by
  simp only [part, isAgg, Sem.run_bind, run_underlying he, Result.andThen_ok, Sem.run_pure, if_true, hz]
  rw [ints_extract ns 0 24, List.drop_zero, List.take_of_length_le (by omega)]
theorem run_eqOne {P : Program} (D : Nat) (T : TypeId) (f : Field) (hT : P.underlying T = some (.struct #[f])) (hn : f.name ≠ "_") (ho : f.offset = 0) (hs : P.stoodInHeld T = false) (X Y : Array Value) (u v : Value) (b : Bool)
    (px : ∀ w, (part f.type X 0).run P w = .ok u w) (py : ∀ w, (part f.type Y 0).run P w = .ok v w) (q : ∀ w, (Op.equalIn D f.type u v).run P w = .ok b w) (w : World) :
    (Op.equalIn (D + 1) T (.agg X) (.agg Y)).run P w = .ok b w := by
  rw [Op.equalIn]
  simp only [Sem.run_bind, run_underlying hT, Result.andThen_ok, run_program, hs, Bool.false_eq_true, if_false, ho]
  cases b <;> simp [hn, ho, px, py, q]
theorem run_eqRack {P : Program} (D : Nat) (T a c e : TypeId) (f : Field) (hT : P.underlying T = some (.struct #[f])) (hn : f.name ≠ "_") (ho : f.offset = 0) (hf : f.type = a) (hs : P.stoodInHeld T = false)
    (ha : P.underlying a = some (.array 6 c)) (hc : P.underlying c = some (.array 4 e)) (he : P.underlying e = some (.int .i64)) (hz : ∀ w, (sizeOf e).run P w = .ok 1 w) (hzc : ∀ w, (sizeOf c).run P w = .ok 4 w) (hza : ∀ w, (sizeOf a).run P w = .ok 24 w)
    (xs ys : List Int) (hx : xs.length = 24) (hy : ys.length = 24) (w : World) :
    (Op.equalIn (D + 4) T (.agg (ints xs).toArray) (.agg (ints ys).toArray)).run P w = .ok (decide (xs = ys)) w := by
  subst hf
  exact run_eqOne (D + 3) T f hT hn ho hs _ _ _ _ _ (run_part_whole f.type c 6 ha hza xs hx) (run_part_whole f.type c 6 ha hza ys hy) (run_eq24 D f.type c e ha hc he hz hzc xs ys hx hy) w
theorem eqRackT (xs ys : List Int) (hx : xs.length = 24) (hy : ys.length = 24) (w : World) : (Op.equalIn 10000 42 (.agg (ints xs).toArray) (.agg (ints ys).toArray)).run Try.prog w = .ok (decide (xs = ys)) w :=
  run_eqRack 9996 42 38 37 3 _ Try.underlying42 (by decide) rfl rfl (by kernel_rfl) Try.underlying38 Try.underlying37 Try.underlying3
    (fun w => by rw [Try.sizeOf3]) (fun w => by rw [Try.sizeOf37]) (fun w => by rw [Try.sizeOf38]) xs ys hx hy w

theorem neq_run {P : Program} (ev : Operand → Value) (o : Oper) (T T2 : TypeId) (x y : Operand) (ho : o.op = .binOp .neq T x y T2) (xs ys : List Int) (hx : ev x = .agg (ints xs).toArray) (hy : ev y = .agg (ints ys).toArray)
    (hm : P.eqGuardType P.depth T = false) (hq : ∀ w, (Op.equalIn 10000 T (.agg (ints xs).toArray) (.agg (ints ys).toArray)).run P w = .ok (decide (xs = ys)) w) {w : World} :
    (execOp ev o).run P w = .ok (.value (.bool (!decide (xs = ys)))) w := by
  unfold execOp
  simp only [ho, hx, hy, Sem.run_bind, run_eqGuard_agg w .neq T x y _ _ hm, run_neq_struct, hq, Result.andThen_ok, Sem.run_pure]
theorem neq_same_run {P : Program} (ev : Operand → Value) (o : Oper) (T T2 : TypeId) (x y : Operand) (ho : o.op = .binOp .neq T x y T2) (xs : List Int) (hx : ev x = .agg (ints xs).toArray) (hy : ev y = .agg (ints xs).toArray)
    (hm : P.eqGuardType P.depth T = false) (hq : ∀ w, (Op.equalIn 10000 T (.agg (ints xs).toArray) (.agg (ints xs).toArray)).run P w = .ok (decide (xs = xs)) w) {w : World} :
    (execOp ev o).run P w = .ok (.value (.bool false)) w := by
  have := neq_run (w := w) ev o T T2 x y ho xs xs hx hy hm hq
  rwa [decide_eq_true rfl] at this
theorem len2 {t : List Int} (h : t.length = 2) : ∃ a b, t = [a, b] := by
  match t, h with
  | [a, b], _ => exact ⟨a, b, rfl⟩
theorem len6 {t : List Int} (h : t.length = 6) : ∃ a b c d e f, t = [a, b, c, d, e, f] := by
  match t, h with
  | [a, b, c, d, e, f], _ => exact ⟨a, b, c, d, e, f, rfl⟩
theorem run_eq2 {P : Program} (D : Nat) (T e : TypeId) (hT : P.underlying T = some (.array 2 e)) (he : P.underlying e = some (.int .i64)) (hz : ∀ w, (sizeOf e).run P w = .ok 1 w) (xs ys : List Int) (hx : xs.length = 2) (hy : ys.length = 2) (w : World) :
    (Op.equalIn (D + 2) T (.agg (ints xs).toArray) (.agg (ints ys).toArray)).run P w = .ok (decide (xs = ys)) w := by
  obtain ⟨a, b, rfl⟩ := len2 hx
  obtain ⟨e', f, rfl⟩ := len2 hy
  have p : ∀ (a b : Int) (j : Nat) (hj : j < 2) (w : World), (part e (ints [a, b]).toArray j).run P w = .ok (.int .i64 ([a, b].getD j 0)) w := fun a b j hj w => run_part_int e he [a, b] j hj w
  have q : ∀ (x y : Int) (w : World), (Op.equalIn (D + 1) e (.int .i64 x) (.int .i64 y)).run P w = .ok (x == y) w := fun x y w => run_equalIn_int w D e .i64 .i64 x y he
  rw [Op.equalIn]
  simp only [Sem.run_bind, run_underlying hT, Result.andThen_ok, hz]
  simp only [Std.Legacy.Range.forIn_eq_forIn_range', Std.Legacy.Range.size, Nat.sub_zero, Nat.add_sub_cancel, Nat.div_one, List.range'_succ, List.range'_zero, List.forIn_cons, List.forIn_nil, Nat.mul_one]
  simp only [Sem.run_bind, p _ _ 0 (by omega), q, Result.andThen_ok]
  by_cases h1 : a = e' <;> by_cases h2 : b = f <;> simp [h1, h2, q, p]
theorem run_eq6 {P : Program} (D : Nat) (T e : TypeId) (hT : P.underlying T = some (.array 6 e)) (he : P.underlying e = some (.int .i64)) (hz : ∀ w, (sizeOf e).run P w = .ok 1 w) (xs : List Int) (hx : xs.length = 6) (w : World) :
    (Op.equalIn (D + 2) T (.agg (ints xs).toArray) (.agg (ints xs).toArray)).run P w = .ok (decide (xs = xs)) w := by
  rw [decide_eq_true rfl]
  obtain ⟨a, b, c, d, x, y, rfl⟩ := len6 hx
  have p : ∀ (j : Nat) (hj : j < 6) (w : World), (part e (ints [a, b, c, d, x, y]).toArray j).run P w = .ok (.int .i64 ([a, b, c, d, x, y].getD j 0)) w := fun j hj w => run_part_int e he [a, b, c, d, x, y] j hj w
  have q : ∀ (x y : Int) (w : World), (Op.equalIn (D + 1) e (.int .i64 x) (.int .i64 y)).run P w = .ok (x == y) w := fun x y w => run_equalIn_int w D e .i64 .i64 x y he
  rw [Op.equalIn]
  simp only [Sem.run_bind, run_underlying hT, Result.andThen_ok, hz]
  simp only [Std.Legacy.Range.forIn_eq_forIn_range', Std.Legacy.Range.size, Nat.sub_zero, Nat.add_sub_cancel, Nat.div_one, List.range'_succ, List.range'_zero, List.forIn_cons, List.forIn_nil, Nat.mul_one]
  simp [q, p]
theorem eqPair (xs ys : List Int) (hx : xs.length = 2) (hy : ys.length = 2) (w : World) : (Op.equalIn 10000 33 (.agg (ints xs).toArray) (.agg (ints ys).toArray)).run Try.prog w = .ok (decide (xs = ys)) w :=
  run_eq2 9998 33 3 Try.underlying33 Try.underlying3 (fun w => by rw [Try.sizeOf3]) xs ys hx hy w
theorem eqSix (xs : List Int) (hx : xs.length = 6) (w : World) : (Op.equalIn 10000 22 (.agg (ints xs).toArray) (.agg (ints xs).toArray)).run Try.prog w = .ok (decide (xs = xs)) w :=
  run_eq6 9998 22 3 Try.underlying22 Try.underlying3 (fun w => by rw [Try.sizeOf3]) xs hx w
/-! an operation of another kind is passed over at once -/
section
variable {P : Program} {ops : Array Oper} {rest : List Oper} {op : Oper} {a : Act} {w : World} {Q : Exit → Act → World → Prop}
theorem guard_at (f : Op → Bool) (h : f op.op = true) (g : wpList P ops Q (op :: rest) a w) : wpList P ops Q (op :: rest) a w := g
end
section
variable {P : Program} {ops : Array Oper} {rest : List Oper} {op : Oper} {a : Act} {w : World} {Q : Exit → Act → World → Prop}
/-- The same array twice is not unequal. -/
theorem neq_same (hw : Region.wanted op (yielded ops a.tmps) = true) (T T2 : TypeId) (x y : Operand) (ho : op.op = .binOp .neq T x y T2) (xs : List Int) (hx : a.eval x = .agg (ints xs).toArray) (hy : a.eval y = .agg (ints xs).toArray)
    (hm : P.eqGuardType P.depth T = false) (hq : ∀ w, (Op.equalIn 10000 T (.agg (ints xs).toArray) (.agg (ints xs).toArray)).run P w = .ok (decide (xs = xs)) w)
    (h : wpList P ops Q rest (a.put op.dst (.bool false)) w) : wpList P ops Q (op :: rest) a w :=
  neq_no hw T T2 x y ho xs xs hx hy hm hq rfl h
end
def isNeq (T : TypeId) : Op → Bool
  | .binOp .neq t _ _ _ => t == T
  | _ => false
end Go.Proofs.Ytemiljokdedidac.base
end

section
namespace Go.Proofs.Ytemiljokdedidac.base
open Go.ChangeShapes Go.WideShapes Go.ChangeAt Go.RowKit
set_option linter.unusedVariables false
set_option linter.unusedSimpArgs false

def isPr (fs : List Int) (x y : Int) (j : Nat) : Bool := decide (fs.getD (j * 2) 0 = x) && decide (fs.getD (j * 2 + 1) 0 = y)
def hasP (fs : List Int) (n : Nat) (x y : Int) : Bool := (List.range n).any fun j => isPr fs x y j
def FoundP (fs : List Int) (n : Nat) (x y : Int) (z : Int) : Prop := (z = -1 ∧ hasP fs n x y = false) ∨ (0 ≤ z ∧ hasP fs n x y = true)
theorem eqPairT (xs ys : List Int) (hx : xs.length = 2) (hy : ys.length = 2) (w : World) : (Op.equalIn 10000 33 (.agg (ints xs).toArray) (.agg (ints ys).toArray)).run Try.prog w = .ok (decide (xs = ys)) w :=
  run_eq2 9998 33 3 Try.underlying33 Try.underlying3 (fun w => by rw [Try.sizeOf3]) xs ys hx hy w
theorem range_twoP {w : World} {g o : Nat} {x y : Int} (h0 : w.cell? ⟨g, o, Option.none⟩ = some (.int .i64 x)) (h1 : w.cell? ⟨g, o + 1, Option.none⟩ = some (.int .i64 y)) : w.rangeAt g o (ints [x, y]) := by
  intro j v hv
  match j, hv with
  | 0, hv => cases hv; exact h0
  | 1, hv => cases hv; exact h1

end Go.Proofs.Ytemiljokdedidac.base
end

section
namespace Go.Proofs.Ytemiljokdedidac.base
set_option linter.unusedVariables false
set_option linter.unusedSimpArgs false

theorem getD_app_left {l r : List Int} {j : Nat} (h : j < l.length) : (l ++ r).getD j 0 = l.getD j 0 := by
  rw [List.getD_eq_getElem?_getD, List.getD_eq_getElem?_getD, List.getElem?_append_left h]
theorem getD_app_0 {l : List Int} {x y : Int} : (l ++ [x, y]).getD l.length 0 = x := by
  rw [List.getD_eq_getElem?_getD, List.getElem?_append_right (Nat.le_refl _), Nat.sub_self]; rfl
theorem getD_app_1 {l : List Int} {x y : Int} : (l ++ [x, y]).getD (l.length + 1) 0 = y := by
  rw [List.getD_eq_getElem?_getD, List.getElem?_append_right (by omega), Nat.add_sub_cancel_left]; rfl
theorem filt_app (Q : Int → Int → Bool) (l r : List Int) : ∀ n, n * 2 ≤ l.length → filtF Q (l ++ r) n = filtF Q l n
  | 0, _ => rfl
  | n + 1, h => by
    have ih := filt_app Q l r n (by omega)
    rw [filtF, filtF, ih, getD_app_left (by omega), getD_app_left (by omega)]
/-- A row of chosen pairs, filtered, is the row of those that are chosen and kept. -/
theorem filt_pF (Q : Int → Int → Bool) (P : Nat → Nat → Bool) : ∀ m, filtF Q (pF P m) (pN P m) = pF (fun p q => P p q && Q (p : Int) (q : Int)) m
  | 0 => by rw [(p0 P).1]; rfl
  | m + 1 => by
    have ih := filt_pF Q P m
    have hl := pF_len P m
    by_cases h : P (m / 6) (m % 6) = true
    · have e1 : pF P (m + 1) = pF P m ++ [((m / 6 : Nat) : Int), ((m % 6 : Nat) : Int)] := by rw [pF, if_pos h]
      have e2 : pN P (m + 1) = pN P m + 1 := by
        unfold pN; rw [e1, List.length_append]; simp
      have g0 : (pF P m ++ [((m / 6 : Nat) : Int), ((m % 6 : Nat) : Int)]).getD (pN P m * 2) 0 = ((m / 6 : Nat) : Int) := by rw [← hl]; exact getD_app_0
      have g1 : (pF P m ++ [((m / 6 : Nat) : Int), ((m % 6 : Nat) : Int)]).getD (pN P m * 2 + 1) 0 = ((m % 6 : Nat) : Int) := by rw [← hl]; exact getD_app_1
      rw [e1, e2, filtF, g0, g1, filt_app Q _ _ _ (by omega), ih]
      by_cases hq : Q ((m / 6 : Nat) : Int) ((m % 6 : Nat) : Int) = true
      · rw [if_pos hq]
        conv => rhs; rw [pF]
        rw [if_pos (by rw [h, hq]; rfl)]
      · rw [if_neg hq]
        conv => rhs; rw [pF]
        rw [if_neg (by rw [h, Bool.true_and]; exact hq)]
    · have e1 : pF P (m + 1) = pF P m := by rw [pF, if_neg h]
      have e2 : pN P (m + 1) = pN P m := by unfold pN; rw [e1]
      rw [e1, e2, ih]
      conv => rhs; rw [pF]
      rw [if_neg (by simp only [Bool.and_eq_true]; exact fun e => h e.1)]
theorem filtN_pN (Q : Int → Int → Bool) (P : Nat → Nat → Bool) (m : Nat) : filtN Q (pF P m) (pN P m) = pN (fun p q => P p q && Q (p : Int) (q : Int)) m := by
  unfold filtN pN
  rw [← show pN P m = (pF P m).length / 2 from rfl, filt_pF]
theorem pF_ext {P P' : Nat → Nat → Bool} (h : ∀ p q, p < 6 → q < 6 → P p q = P' p q) : ∀ m, m ≤ 36 → pF P m = pF P' m
  | 0, _ => rfl
  | m + 1, hm => by
    have ih := pF_ext h m (by omega)
    rw [pF, pF, ih, h (m / 6) (m % 6) (by omega) (by omega)]
theorem pN_ext {P P' : Nat → Nat → Bool} (h : ∀ p q, p < 6 → q < 6 → P p q = P' p q) : pN P 36 = pN P' 36 := by unfold pN; rw [pF_ext h 36 (Nat.le_refl _)]
theorem has_app (l : List Int) (u v x y : Int) (n : Nat) (hl : l.length = n * 2) : hasP (l ++ [u, v]) (n + 1) x y = (hasP l n x y || (decide (u = x) && decide (v = y))) := by
  unfold hasP
  rw [List.range_succ, List.any_append]
  congr 1
  · rw [Bool.eq_iff_iff, List.any_eq_true, List.any_eq_true]
    constructor
    · rintro ⟨j, hj, h⟩
      have := List.mem_range.1 hj
      refine ⟨j, hj, ?_⟩
      unfold isPr at h ⊢
      rwa [getD_app_left (by omega), getD_app_left (by omega)] at h
    · rintro ⟨j, hj, h⟩
      have := List.mem_range.1 hj
      refine ⟨j, hj, ?_⟩
      unfold isPr at h ⊢
      rwa [getD_app_left (by omega), getD_app_left (by omega)]
  · unfold isPr
    have g0 : (l ++ [u, v]).getD (n * 2) 0 = u := by rw [← hl]; exact getD_app_0
    have g1 : (l ++ [u, v]).getD (n * 2 + 1) 0 = v := by rw [← hl]; exact getD_app_1
    simp only [List.any_cons, List.any_nil, Bool.or_false, g0, g1]
/-- A pair is in the row of the chosen ones exactly if it is chosen. -/
theorem has_pF (P : Nat → Nat → Bool) (p q : Nat) (hq : q < 6) : ∀ m, hasP (pF P m) (pN P m) (p : Int) (q : Int) = (decide (p * 6 + q < m) && P p q)
  | 0 => by rw [(p0 P).1]; rfl
  | m + 1 => by
    have ih := has_pF P p q hq m
    have hl := pF_len P m
    by_cases h : P (m / 6) (m % 6) = true
    · have e1 : pF P (m + 1) = pF P m ++ [((m / 6 : Nat) : Int), ((m % 6 : Nat) : Int)] := by rw [pF, if_pos h]
      have e2 : pN P (m + 1) = pN P m + 1 := by
        unfold pN; rw [e1, List.length_append]; simp
      rw [e1, e2, has_app _ _ _ _ _ _ hl, ih]
      by_cases hm : p * 6 + q = m
      · have a1 : m / 6 = p := by omega
        have a2 : m % 6 = q := by omega
        rw [a1, a2] at h ⊢
        rw [h, decide_eq_true (show p * 6 + q < m + 1 by omega)]
        simp
      · have : ¬ (((m / 6 : Nat) : Int) = (p : Int) ∧ ((m % 6 : Nat) : Int) = (q : Int)) := by omega
        have z : (decide (((m / 6 : Nat) : Int) = (p : Int)) && decide (((m % 6 : Nat) : Int) = (q : Int))) = false := by
          cases hb : (decide (((m / 6 : Nat) : Int) = (p : Int)) && decide (((m % 6 : Nat) : Int) = (q : Int))) with
          | false => rfl
          | true =>
            simp only [Bool.and_eq_true, decide_eq_true_eq] at hb
            exact absurd hb this
        rw [z, Bool.or_false]
        congr 1
        rw [decide_eq_decide]; omega
    · have e1 : pF P (m + 1) = pF P m := by rw [pF, if_neg h]
      have e2 : pN P (m + 1) = pN P m := by unfold pN; rw [e1]
      rw [e1, e2, ih]
      by_cases hm : p * 6 + q = m
      · have a1 : m / 6 = p := by omega
        have a2 : m % 6 = q := by omega
        rw [a1, a2] at h
        have hf : P p q = false := by simpa using h
        rw [hf, Bool.and_false, Bool.and_false]
      · congr 1
        rw [decide_eq_decide]; omega
theorem has_pF36 (P : Nat → Nat → Bool) (p q : Nat) (hp : p < 6) (hq : q < 6) : hasP (pF P 36) (pN P 36) (p : Int) (q : Int) = P p q := by
  rw [has_pF P p q hq 36, decide_eq_true (by omega), Bool.true_and]

/-- What the first rules allow. -/
def coP (ns ds : List Int) : Nat → Nat → Nat → Bool
  | 0 => byP ns ds 1
  | r + 1 => fun p q => coP ns ds r p q && byP ns ds ((r + 2 : Nat) : Int) p q
def coFA (ns ds : List Int) : List Int := if fitA ns ds = true then pF (coP ns ds 3) 36 else []
def coNA (ns ds : List Int) : Nat := if fitA ns ds = true then pN (coP ns ds 3) 36 else 0
theorem coNA_le (ns ds : List Int) : coNA ns ds ≤ 36 := by
  unfold coNA; split
  · exact pN_le _ 36
  · omega
/-- A pour that moves a top of one layer. -/
def saP (ns ds : List Int) (p q : Nat) : Bool := decide (mvN ns ds 1 p q = 1) && decide (mvN ns ds 3 p q = 1)
def saFA (ns ds : List Int) : List Int := if fitA ns ds = true then pF (saP ns ds) 36 else []
def saNA (ns ds : List Int) : Nat := if fitA ns ds = true then pN (saP ns ds) 36 else 0
theorem saNA_le (ns ds : List Int) : saNA ns ds ≤ 36 := by
  unfold saNA; split
  · exact pN_le _ 36
  · omega
theorem sa_by {ns ds : List Int} (p q : Nat) : (byP ns ds 1 p q && saP ns ds p q) = saP ns ds p q := by
  unfold byP saP
  by_cases h : mvN ns ds 1 p q = 1
  · rw [decide_eq_true (by omega), Bool.true_and]
  · rw [decide_eq_false h, Bool.false_and, Bool.and_false]
end Go.Proofs.Ytemiljokdedidac.base
end
