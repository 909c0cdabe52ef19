/-
  Whole racks, pairs and counts are compared: what the operations give.
-/
/-
  The law's helpers on rows of pairs, walked: equal rows are told equal, which pairs stand in a row.
-/
/-
  The law's comparisons of rows of pairs and of numbers, walked over rows that hold their cells alone.
-/
import Derived.Test.YtnldnjnnjfbhnabSwapZ
import Derived.Deep.RegionHeld3
import Derived.Test.YtnldnjnnjfbhnabPMath
import Derived.Test.YtnldnjnnjfbhnabSortZ
import Derived.Test.YtnldnjnnjfbhnabNu
import Derived.Test.YtnldnjnnjfbhnabRwZ

section
namespace Go.Proofs.Ytnldnjnnjfbhnab.base
open Go.ChangeShapes Go.WideShapes Go.ChangeAt Go.RowKit
set_option linter.unusedVariables false
set_option linter.unusedSimpArgs false

theorem eql_run {P : Program} (ev : Operand → Value) (o : Oper) (T T2 : TypeId) (x y : Operand) (ho : o.op = .binOp .eql T x y T2) (xs ys : List Int) (hx : ev x = .agg (ints xs).toArray) (hy : ev y = .agg (ints ys).toArray)
    (hm : P.eqGuardType P.depth T = false) (hq : ∀ w, (Op.equalIn 10000 T (.agg (ints xs).toArray) (.agg (ints ys).toArray)).run P w = .ok (decide (xs = ys)) w) {w : World} :
    (execOp ev o).run P w = .ok (.value (.bool (decide (xs = ys)))) w := by
  unfold execOp
  simp only [ho, hx, hy, Sem.run_bind, run_eqGuard_agg w .eql T x y _ _ hm, run_eql_struct, hq, Result.andThen_ok, Sem.run_pure]

section
variable {P : Program} {ops : Array Oper} {rest : List Oper} {op : Oper} {a : Act} {w : World} {Q : Exit → Act → World → Prop}
theorem neq_yes (hw : Region.wanted op (yielded ops a.tmps) = true) (T T2 : TypeId) (x y : Operand) (ho : op.op = .binOp .neq T x y T2) (xs ys : List Int) (hx : a.eval x = .agg (ints xs).toArray) (hy : a.eval y = .agg (ints ys).toArray)
    (hm : P.eqGuardType P.depth T = false) (hq : ∀ w, (Op.equalIn 10000 T (.agg (ints xs).toArray) (.agg (ints ys).toArray)).run P w = .ok (decide (xs = ys)) w) (hn : xs ≠ ys)
    (h : wpList P ops Q rest (a.put op.dst (.bool true)) w) : wpList P ops Q (op :: rest) a w :=
  neq_has hw T T2 x y ho xs ys hx hy hm hq (by rw [decide_eq_false hn]; exact h)
theorem neq_no (hw : Region.wanted op (yielded ops a.tmps) = true) (T T2 : TypeId) (x y : Operand) (ho : op.op = .binOp .neq T x y T2) (xs ys : List Int) (hx : a.eval x = .agg (ints xs).toArray) (hy : a.eval y = .agg (ints ys).toArray)
    (hm : P.eqGuardType P.depth T = false) (hq : ∀ w, (Op.equalIn 10000 T (.agg (ints xs).toArray) (.agg (ints ys).toArray)).run P w = .ok (decide (xs = ys)) w) (hn : xs = ys)
    (h : wpList P ops Q rest (a.put op.dst (.bool false)) w) : wpList P ops Q (op :: rest) a w :=
  neq_has hw T T2 x y ho xs ys hx hy hm hq (by rw [decide_eq_true hn]; exact h)
end
theorem run_part_whole {P : Program} (e x : TypeId) (m : Nat) (he : P.underlying e = some (.array m x)) (hz : ∀ w, (sizeOf e).run P w = .ok 24 w) (ns : List Int) (h : ns.length = 24) (w : World) : (part e (ints ns).toArray 0).run P w = .ok (.agg (ints ns).toArray) w := by
  simp only [part, isAgg, Sem.run_bind, run_underlying he, Result.andThen_ok, Sem.run_pure, if_true, hz]
  rw [ints_extract ns 0 24, List.drop_zero, List.take_of_length_le (by omega)]
theorem run_eqOne {P : Program} (D : Nat) (T : TypeId) (f : Field) (hT : P.underlying T = some (.struct #[f])) (hn : f.name ≠ "_") (ho : f.offset = 0) (hs : P.stoodInHeld T = false) (X Y : Array Value) (u v : Value) (b : Bool)
    (px : ∀ w, (part f.type X 0).run P w = .ok u w) (py : ∀ w, (part f.type Y 0).run P w = .ok v w) (q : ∀ w, (Op.equalIn D f.type u v).run P w = .ok b w) (w : World) :
    (Op.equalIn (D + 1) T (.agg X) (.agg Y)).run P w = .ok b w := by
  rw [Op.equalIn]
  simp only [Sem.run_bind, run_underlying hT, Result.andThen_ok, run_program, hs, Bool.false_eq_true, if_false, ho]
  cases b <;> simp [hn, ho, px, py, q]
theorem run_eqRack {P : Program} (D : Nat) (T a c e : TypeId) (f : Field) (hT : P.underlying T = some (.struct #[f])) (hn : f.name ≠ "_") (ho : f.offset = 0) (hf : f.type = a) (hs : P.stoodInHeld T = false)
    (ha : P.underlying a = some (.array 6 c)) (hc : P.underlying c = some (.array 4 e)) (he : P.underlying e = some (.int .i64)) (hz : ∀ w, (sizeOf e).run P w = .ok 1 w) (hzc : ∀ w, (sizeOf c).run P w = .ok 4 w) (hza : ∀ w, (sizeOf a).run P w = .ok 24 w)
    (xs ys : List Int) (hx : xs.length = 24) (hy : ys.length = 24) (w : World) :
    (Op.equalIn (D + 4) T (.agg (ints xs).toArray) (.agg (ints ys).toArray)).run P w = .ok (decide (xs = ys)) w := by
  subst hf
  exact run_eqOne (D + 3) T f hT hn ho hs _ _ _ _ _ (run_part_whole f.type c 6 ha hza xs hx) (run_part_whole f.type c 6 ha hza ys hy) (run_eq24 D f.type c e ha hc he hz hzc xs ys hx hy) w
theorem eqRackT (xs ys : List Int) (hx : xs.length = 24) (hy : ys.length = 24) (w : World) : (Op.equalIn 10000 27 (.agg (ints xs).toArray) (.agg (ints ys).toArray)).run Try.prog w = .ok (decide (xs = ys)) w :=
  run_eqRack 9996 27 25 24 3 _ Try.underlying27 (by decide) rfl rfl (by kernel_rfl) Try.underlying25 Try.underlying24 Try.underlying3
    (fun w => by rw [Try.sizeOf3]) (fun w => by rw [Try.sizeOf24]) (fun w => by rw [Try.sizeOf25]) xs ys hx hy w

theorem neq_run {P : Program} (ev : Operand → Value) (o : Oper) (T T2 : TypeId) (x y : Operand) (ho : o.op = .binOp .neq T x y T2) (xs ys : List Int) (hx : ev x = .agg (ints xs).toArray) (hy : ev y = .agg (ints ys).toArray)
    (hm : P.eqGuardType P.depth T = false) (hq : ∀ w, (Op.equalIn 10000 T (.agg (ints xs).toArray) (.agg (ints ys).toArray)).run P w = .ok (decide (xs = ys)) w) {w : World} :
    (execOp ev o).run P w = .ok (.value (.bool (!decide (xs = ys)))) w := by
  unfold execOp
  simp only [ho, hx, hy, Sem.run_bind, run_eqGuard_agg w .neq T x y _ _ hm, run_neq_struct, hq, Result.andThen_ok, Sem.run_pure]
theorem neq_same_run {P : Program} (ev : Operand → Value) (o : Oper) (T T2 : TypeId) (x y : Operand) (ho : o.op = .binOp .neq T x y T2) (xs : List Int) (hx : ev x = .agg (ints xs).toArray) (hy : ev y = .agg (ints xs).toArray)
    (hm : P.eqGuardType P.depth T = false) (hq : ∀ w, (Op.equalIn 10000 T (.agg (ints xs).toArray) (.agg (ints xs).toArray)).run P w = .ok (decide (xs = xs)) w) {w : World} :
    (execOp ev o).run P w = .ok (.value (.bool false)) w := by
  have := neq_run (w := w) ev o T T2 x y ho xs xs hx hy hm hq
  rwa [decide_eq_true rfl] at this
theorem len2 {t : List Int} (h : t.length = 2) : ∃ a b, t = [a, b] := by
  match t, h with
  | [a, b], _ => exact ⟨a, b, rfl⟩
theorem len6 {t : List Int} (h : t.length = 6) : ∃ a b c d e f, t = [a, b, c, d, e, f] := by
  match t, h with
  | [a, b, c, d, e, f], _ => exact ⟨a, b, c, d, e, f, rfl⟩
theorem run_eq2 {P : Program} (D : Nat) (T e : TypeId) (hT : P.underlying T = some (.array 2 e)) (he : P.underlying e = some (.int .i64)) (hz : ∀ w, (sizeOf e).run P w = .ok 1 w) (xs ys : List Int) (hx : xs.length = 2) (hy : ys.length = 2) (w : World) :
    (Op.equalIn (D + 2) T (.agg (ints xs).toArray) (.agg (ints ys).toArray)).run P w = .ok (decide (xs = ys)) w := by
  obtain ⟨a, b, rfl⟩ := len2 hx
  obtain ⟨e', f, rfl⟩ := len2 hy
  have p : ∀ (a b : Int) (j : Nat) (hj : j < 2) (w : World), (part e (ints [a, b]).toArray j).run P w = .ok (.int .i64 ([a, b].getD j 0)) w := fun a b j hj w => run_part_int e he [a, b] j hj w
  have q : ∀ (x y : Int) (w : World), (Op.equalIn (D + 1) e (.int .i64 x) (.int .i64 y)).run P w = .ok (x == y) w := fun x y w => run_equalIn_int w D e .i64 .i64 x y he
  rw [Op.equalIn]
  simp only [Sem.run_bind, run_underlying hT, Result.andThen_ok, hz]
  simp only [Std.Legacy.Range.forIn_eq_forIn_range', Std.Legacy.Range.size, Nat.sub_zero, Nat.add_sub_cancel, Nat.div_one, List.range'_succ, List.range'_zero, List.forIn_cons, List.forIn_nil, Nat.mul_one]
  simp only [Sem.run_bind, p _ _ 0 (by omega), q, Result.andThen_ok]
  by_cases h1 : a = e' <;> by_cases h2 : b = f <;> simp [h1, h2, q, p]
theorem run_eq6 {P : Program} (D : Nat) (T e : TypeId) (hT : P.underlying T = some (.array 6 e)) (he : P.underlying e = some (.int .i64)) (hz : ∀ w, (sizeOf e).run P w = .ok 1 w) (xs : List Int) (hx : xs.length = 6) (w : World) :
    (Op.equalIn (D + 2) T (.agg (ints xs).toArray) (.agg (ints xs).toArray)).run P w = .ok (decide (xs = xs)) w := by
  rw [decide_eq_true rfl]
  obtain ⟨a, b, c, d, x, y, rfl⟩ := len6 hx
  have p : ∀ (j : Nat) (hj : j < 6) (w : World), (part e (ints [a, b, c, d, x, y]).toArray j).run P w = .ok (.int .i64 ([a, b, c, d, x, y].getD j 0)) w := fun j hj w => run_part_int e he [a, b, c, d, x, y] j hj w
  have q : ∀ (x y : Int) (w : World), (Op.equalIn (D + 1) e (.int .i64 x) (.int .i64 y)).run P w = .ok (x == y) w := fun x y w => run_equalIn_int w D e .i64 .i64 x y he
  rw [Op.equalIn]
  simp only [Sem.run_bind, run_underlying hT, Result.andThen_ok, hz]
  simp only [Std.Legacy.Range.forIn_eq_forIn_range', Std.Legacy.Range.size, Nat.sub_zero, Nat.add_sub_cancel, Nat.div_one, List.range'_succ, List.range'_zero, List.forIn_cons, List.forIn_nil, Nat.mul_one]
  simp [q, p]
theorem eqPair (xs ys : List Int) (hx : xs.length = 2) (hy : ys.length = 2) (w : World) : (Op.equalIn 10000 36 (.agg (ints xs).toArray) (.agg (ints ys).toArray)).run Try.prog w = .ok (decide (xs = ys)) w :=
  run_eq2 9998 36 3 Try.underlying36 Try.underlying3 (fun w => by rw [Try.sizeOf3]) xs ys hx hy w
theorem eqSix (xs : List Int) (hx : xs.length = 6) (w : World) : (Op.equalIn 10000 112 (.agg (ints xs).toArray) (.agg (ints xs).toArray)).run Try.prog w = .ok (decide (xs = xs)) w :=
  run_eq6 9998 112 3 Try.underlying112 Try.underlying3 (fun w => by rw [Try.sizeOf3]) xs hx w
/-! an operation of another kind is passed over at once -/
section
variable {P : Program} {ops : Array Oper} {rest : List Oper} {op : Oper} {a : Act} {w : World} {Q : Exit → Act → World → Prop}
theorem guard_at (f : Op → Bool) (h : f op.op = true) (g : wpList P ops Q (op :: rest) a w) : wpList P ops Q (op :: rest) a w := g
end
section
variable {P : Program} {ops : Array Oper} {rest : List Oper} {op : Oper} {a : Act} {w : World} {Q : Exit → Act → World → Prop}
/-- The same array twice is not unequal. -/
theorem neq_same (hw : Region.wanted op (yielded ops a.tmps) = true) (T T2 : TypeId) (x y : Operand) (ho : op.op = .binOp .neq T x y T2) (xs : List Int) (hx : a.eval x = .agg (ints xs).toArray) (hy : a.eval y = .agg (ints xs).toArray)
    (hm : P.eqGuardType P.depth T = false) (hq : ∀ w, (Op.equalIn 10000 T (.agg (ints xs).toArray) (.agg (ints xs).toArray)).run P w = .ok (decide (xs = xs)) w)
    (h : wpList P ops Q rest (a.put op.dst (.bool false)) w) : wpList P ops Q (op :: rest) a w :=
  neq_no hw T T2 x y ho xs xs hx hy hm hq rfl h
end
def isNeq (T : TypeId) : Op → Bool
  | .binOp .neq t _ _ _ => t == T
  | _ => false
end Go.Proofs.Ytnldnjnnjfbhnab.base
end

section
namespace Go.Proofs.Ytnldnjnnjfbhnab.base
open Go.ChangeShapes Go.WideShapes Go.ChangeAt Go.RowKit
set_option linter.unusedVariables false
set_option linter.unusedSimpArgs false

theorem Prs.loadable {w : World} {b g cap n : Nat} {fs : List Int} (h : Prs w b (.slice (some ⟨g, 0, Option.none⟩) n cap) n fs) (k : Nat) (hk : k < n) : w.rangeAt g (k * 2) (ints [fs.getD (k * 2) 0, fs.getD (k * 2 + 1) 0]) := by
  intro j v hv
  match j, hv with
  | 0, hv => injection hv with hv; subst hv; exact h.cell (k * 2) (by omega)
  | 1, hv => injection hv with hv; subst hv; exact h.cell (k * 2 + 1) (by omega)

set_option maxHeartbeats 1600000 in
set_option maxRecDepth 100000 in
theorem rPairs_same (v1 v2 : Value) (b1 b2 n : Nat) (fs : List Int) (w : World) (hn : n ≤ 1000) (h1 : Prs w b1 v1 n fs) (h2 : Prs w b2 v2 n fs) :
    Calls Try.prog 10 #[v1, v2] w fun e w' => e = .returned (.bool true) ∧ Kept w w' := by
  cases n with
  | zero =>
    obtain ⟨a1, c1, rfl⟩ := prs_zero h1
    obtain ⟨a2, c2, rfl⟩ := prs_zero h2
    clear h1 h2
    go_enter Try.func10, Try.ntmps10
    go_wp2_with fail
    go_loop [5] (fun i => i = .int .i64 0) (fun _ => 0)
    case atStart => rfl
    case round =>
      obtain rfl := hrel
      go_wp2_with fail
      go_ret
      exact ⟨rfl, kept_refl _⟩
  | succ n =>
    obtain ⟨g1, c1, rfl, _, _⟩ := h1.form (by omega)
    obtain ⟨g2, c2, rfl, _, _⟩ := h2.form (by omega)
    have HM : Hid (Try.prog.eqGuardType Try.prog.depth 36 = false) := Lib.hid (by kernel_rfl)
    go_enter Try.func10, Try.ntmps10
    go_wp2_with fail
    go_loopw [5] (fun z wr => ∃ k : Nat, k ≤ n + 1 ∧ z = .int .i64 k ∧ Hid (Prs wr b1 (.slice (some ⟨g1, 0, none⟩) (n + 1) c1) (n + 1) fs) ∧ Hid (Prs wr b2 (.slice (some ⟨g2, 0, none⟩) (n + 1) c2) (n + 1) fs) ∧ Hid (Kept w wr)) (fun z _ => n + 1 - (intOf z).toNat)
    case atStart => exact ⟨0, by omega, rfl, Lib.hid h1, Lib.hid h2, Lib.hid (kept_refl _)⟩
    case round =>
      obtain ⟨k, hk, rfl, G1, G2, GB⟩ := hrel
      by_cases h : k < n + 1
      · have hki : (k : Int) < (n : Int) + 1 := by omega
        have hk0 : (0 : Int) ≤ (k : Int) := by omega
        have hi1 : (Try.prog.info? 36).map (·.size) = some (ints [fs.getD (k * 2) 0, fs.getD (k * 2 + 1) 0]).length := by kernel_rfl
        go_wp2_with fail
        refine wp_region_held_drew (S := fun w' => Prs w' b1 (.slice (some ⟨g1, 0, none⟩) (n + 1) c1) (n + 1) fs ∧ Prs w' b2 (.slice (some ⟨g2, 0, none⟩) (n + 1) c2) (n + 1) fs ∧ Kept w w') (by kernel_rfl) ?_ (fun hHeld => ?_)
        · exact ⟨G1.out.drewN 1, G2.out.drewN 1, GB.out.drewN 1⟩
        (refine wpAnyH_take (i := 0) (v := ?_) rfl (by kernel_rfl) (by kernel_rfl) (by kernel_rfl) (fun _ _ _ h => h) (Or.inl ⟨by rfl, ?_⟩) hHeld ?_; rotate_left; (· (intro w' hSw; go_simp; try with_reducible rfl)); (try simp only [List.getElem_toArray, List.getElem_cons_zero, List.getElem_cons_succ, Act.put, List.setIfInBounds_toArray, List.set_cons_zero, List.set_cons_succ])); (refine wpAnyH_take (i := 1) (v := ?_) rfl (by kernel_rfl) (by kernel_rfl) (by kernel_rfl) (fun _ _ _ h => h) (Or.inl ⟨by rfl, ?_⟩) hHeld ?_; rotate_left; (· (intro w' hSw; go_simp; try with_reducible rfl)); (try simp only [List.getElem_toArray, List.getElem_cons_zero, List.getElem_cons_succ, Act.put, List.setIfInBounds_toArray, List.set_cons_zero, List.set_cons_succ])); (refine wpAnyH_take (i := 2) (v := ?_) rfl (by kernel_rfl) (by kernel_rfl) (by kernel_rfl) (fun _ _ _ h => h) (Or.inl ⟨by rfl, ?_⟩) hHeld ?_; rotate_left; (· (intro w' hSw; go_simp; try with_reducible rfl)); (try simp only [List.getElem_toArray, List.getElem_cons_zero, List.getElem_cons_succ, Act.put, List.setIfInBounds_toArray, List.set_cons_zero, List.set_cons_succ])); (refine wpAnyH_take (i := 4) (v := ?_) rfl (by kernel_rfl) (by kernel_rfl) (by kernel_rfl) (fun _ _ _ h => h) (Or.inl ⟨by rfl, ?_⟩) hHeld ?_; rotate_left; (· (intro w' hSw; go_simp; try with_reducible rfl)); (try simp only [List.getElem_toArray, List.getElem_cons_zero, List.getElem_cons_succ, Act.put, List.setIfInBounds_toArray, List.set_cons_zero, List.set_cons_succ])); (refine wpAnyH_take (i := 5) (v := ?_) rfl (by kernel_rfl) (by kernel_rfl) (by kernel_rfl) (fun _ _ _ h => h) (Or.inl ⟨by rfl, ?_⟩) hHeld ?_; rotate_left; (· (intro w' hSw; go_simp; try with_reducible rfl)); (try simp only [List.getElem_toArray, List.getElem_cons_zero, List.getElem_cons_succ, Act.put, List.setIfInBounds_toArray, List.set_cons_zero, List.set_cons_succ])); (refine wpAnyH_take (i := 6) (v := ?_) rfl (by kernel_rfl) (by kernel_rfl) (by kernel_rfl) (fun _ _ _ h => h) (Or.inl ⟨by rfl, ?_⟩) hHeld ?_; rotate_left; (· (intro w' hSw; go_simp; try with_reducible rfl)); (try simp only [List.getElem_toArray, List.getElem_cons_zero, List.getElem_cons_succ, Act.put, List.setIfInBounds_toArray, List.set_cons_zero, List.set_cons_succ]))
        (refine wpAnyH_take (i := 3) (v := _) rfl (by kernel_rfl) (by kernel_rfl) (by kernel_rfl) (fun _ _ _ h => h) (yieldsIf_load_mid (by rfl) 36 _ rfl _ _ rfl (ints [fs.getD (k * 2) 0, fs.getD (k * 2 + 1) 0]) _ (fun w' hSw => hSw.1.loadable k h) Try.underlying36 rfl (hi1)) hHeld ?_; (try simp only [List.getElem_toArray, List.getElem_cons_zero, List.getElem_cons_succ, Act.put, List.setIfInBounds_toArray, List.set_cons_zero, List.set_cons_succ]))
        (refine wpAnyH_take (i := 7) (v := _) rfl (by kernel_rfl) (by kernel_rfl) (by kernel_rfl) (fun _ _ _ h => h) (yieldsIf_load_mid (by rfl) 36 _ rfl _ _ rfl (ints [fs.getD (k * 2) 0, fs.getD (k * 2 + 1) 0]) _ (fun w' hSw => hSw.2.1.loadable k h) Try.underlying36 rfl (hi1)) hHeld ?_; (try simp only [List.getElem_toArray, List.getElem_cons_zero, List.getElem_cons_succ, Act.put, List.setIfInBounds_toArray, List.set_cons_zero, List.set_cons_succ]))
        refine wpAnyH_take (i := 8) (v := .bool false) rfl (by kernel_rfl) (by kernel_rfl) (by kernel_rfl) (fun _ _ _ h => h) (Or.inl ⟨by rfl, ?_⟩) hHeld ?_
        · intro w' hSw
          exact neq_same_run _ _ _ _ _ _ rfl [fs.getD (k * 2) 0, fs.getD (k * 2 + 1) 0] rfl rfl HM.out (eqPair _ _ rfl rfl)
        (try simp only [List.getElem_toArray, List.getElem_cons_zero, List.getElem_cons_succ, Act.put, List.setIfInBounds_toArray, List.set_cons_zero, List.set_cons_succ])
        refine wpAnyH_done (by kernel_rfl) ?_ _
        have G5 := Lib.hid hHeld.1
        have G6 := Lib.hid hHeld.2.1
        have GB3 := Lib.hid hHeld.2.2
        clear hHeld G1 G2 GB hi1
        go_wp2_with fail
        go_roundw
        case rel => exact ⟨k + 1, by omega, by go_num, G5, G6, GB3⟩
        case measure => simp [intOf]; omega
      · obtain rfl : k = n + 1 := by omega
        go_wp2_with fail
        go_ret
        exact ⟨rfl, GB.out⟩

end Go.Proofs.Ytnldnjnnjfbhnab.base
end

section
namespace Go.Proofs.Ytnldnjnnjfbhnab.base
open Go.ChangeShapes Go.WideShapes Go.ChangeAt Go.RowKit
set_option linter.unusedVariables false
set_option linter.unusedSimpArgs false

theorem Rw.loadable {w : World} {b n g cap : Nat} {fs : List Int} (h : Rw w b (.slice (some ⟨g, 0, Option.none⟩) n cap) n fs) (k : Nat) (hk : k < n) : w.rangeAt g (k * 2) (ints [fs.getD (k * 2) 0, fs.getD (k * 2 + 1) 0]) :=
  range_two (h.cell (k * 2) (by omega)) (h.cell (k * 2 + 1) (by omega))


set_option maxHeartbeats 1600000 in
set_option maxRecDepth 100000 in
theorem rPairs_rw (v1 v2 : Value) (b1 b2 n : Nat) (fs : List Int) (w : World) (hn : n ≤ 1048576) (h1 : Rw w b1 v1 n fs) (h2 : Rw w b2 v2 n fs) :
    Calls Try.prog 10 #[v1, v2] w fun e w' => e = .returned (.bool true) ∧ Kept w w' := by
  cases n with
  | zero =>
    obtain ⟨a1, c1, rfl⟩ := h1.shape
    obtain ⟨a2, c2, rfl⟩ := h2.shape
    clear h1 h2
    go_enter Try.func10, Try.ntmps10
    go_wp2_with fail
    go_loop [5] (fun i => i = .int .i64 0) (fun _ => 0)
    case atStart => rfl
    case round =>
      obtain rfl := hrel
      go_wp2_with fail
      go_ret
      exact ⟨rfl, kept_refl _⟩
  | succ n =>
    obtain ⟨g1, c1, rfl, _, _⟩ := h1.form (by omega)
    obtain ⟨g2, c2, rfl, _, _⟩ := h2.form (by omega)
    have HM : Hid (Try.prog.eqGuardType Try.prog.depth 36 = false) := Lib.hid (by kernel_rfl)
    go_enter Try.func10, Try.ntmps10
    go_wp2_with fail
    go_loopw [5] (fun z wr => ∃ k : Nat, k ≤ n + 1 ∧ z = .int .i64 k ∧ Hid (Rw wr b1 (.slice (some ⟨g1, 0, none⟩) (n + 1) c1) (n + 1) fs) ∧ Hid (Rw wr b2 (.slice (some ⟨g2, 0, none⟩) (n + 1) c2) (n + 1) fs) ∧ Hid (Kept w wr)) (fun z _ => n + 1 - (intOf z).toNat)
    case atStart => exact ⟨0, by omega, rfl, Lib.hid h1, Lib.hid h2, Lib.hid (kept_refl _)⟩
    case round =>
      obtain ⟨k, hk, rfl, G1, G2, GB⟩ := hrel
      by_cases h : k < n + 1
      · have hki : (k : Int) < (n : Int) + 1 := by omega
        have hk0 : (0 : Int) ≤ (k : Int) := by omega
        have hi1 : (Try.prog.info? 36).map (·.size) = some (ints [fs.getD (k * 2) 0, fs.getD (k * 2 + 1) 0]).length := by kernel_rfl
        go_wp2_with fail
        refine wp_region_held_drew (S := fun w' => Rw w' b1 (.slice (some ⟨g1, 0, none⟩) (n + 1) c1) (n + 1) fs ∧ Rw w' b2 (.slice (some ⟨g2, 0, none⟩) (n + 1) c2) (n + 1) fs ∧ Kept w w') (by kernel_rfl) ?_ (fun hHeld => ?_)
        · exact ⟨G1.out.drewN 1, G2.out.drewN 1, GB.out.drewN 1⟩
        (refine wpAnyH_take (i := 0) (v := ?_) rfl (by kernel_rfl) (by kernel_rfl) (by kernel_rfl) (fun _ _ _ h => h) (Or.inl ⟨by rfl, ?_⟩) hHeld ?_; rotate_left; (· (intro w' hSw; go_simp; try with_reducible rfl)); (try simp only [List.getElem_toArray, List.getElem_cons_zero, List.getElem_cons_succ, Act.put, List.setIfInBounds_toArray, List.set_cons_zero, List.set_cons_succ])); (refine wpAnyH_take (i := 1) (v := ?_) rfl (by kernel_rfl) (by kernel_rfl) (by kernel_rfl) (fun _ _ _ h => h) (Or.inl ⟨by rfl, ?_⟩) hHeld ?_; rotate_left; (· (intro w' hSw; go_simp; try with_reducible rfl)); (try simp only [List.getElem_toArray, List.getElem_cons_zero, List.getElem_cons_succ, Act.put, List.setIfInBounds_toArray, List.set_cons_zero, List.set_cons_succ])); (refine wpAnyH_take (i := 2) (v := ?_) rfl (by kernel_rfl) (by kernel_rfl) (by kernel_rfl) (fun _ _ _ h => h) (Or.inl ⟨by rfl, ?_⟩) hHeld ?_; rotate_left; (· (intro w' hSw; go_simp; try with_reducible rfl)); (try simp only [List.getElem_toArray, List.getElem_cons_zero, List.getElem_cons_succ, Act.put, List.setIfInBounds_toArray, List.set_cons_zero, List.set_cons_succ])); (refine wpAnyH_take (i := 4) (v := ?_) rfl (by kernel_rfl) (by kernel_rfl) (by kernel_rfl) (fun _ _ _ h => h) (Or.inl ⟨by rfl, ?_⟩) hHeld ?_; rotate_left; (· (intro w' hSw; go_simp; try with_reducible rfl)); (try simp only [List.getElem_toArray, List.getElem_cons_zero, List.getElem_cons_succ, Act.put, List.setIfInBounds_toArray, List.set_cons_zero, List.set_cons_succ])); (refine wpAnyH_take (i := 5) (v := ?_) rfl (by kernel_rfl) (by kernel_rfl) (by kernel_rfl) (fun _ _ _ h => h) (Or.inl ⟨by rfl, ?_⟩) hHeld ?_; rotate_left; (· (intro w' hSw; go_simp; try with_reducible rfl)); (try simp only [List.getElem_toArray, List.getElem_cons_zero, List.getElem_cons_succ, Act.put, List.setIfInBounds_toArray, List.set_cons_zero, List.set_cons_succ])); (refine wpAnyH_take (i := 6) (v := ?_) rfl (by kernel_rfl) (by kernel_rfl) (by kernel_rfl) (fun _ _ _ h => h) (Or.inl ⟨by rfl, ?_⟩) hHeld ?_; rotate_left; (· (intro w' hSw; go_simp; try with_reducible rfl)); (try simp only [List.getElem_toArray, List.getElem_cons_zero, List.getElem_cons_succ, Act.put, List.setIfInBounds_toArray, List.set_cons_zero, List.set_cons_succ]))
        (refine wpAnyH_take (i := 3) (v := _) rfl (by kernel_rfl) (by kernel_rfl) (by kernel_rfl) (fun _ _ _ h => h) (yieldsIf_load_mid (by rfl) 36 _ rfl _ _ rfl (ints [fs.getD (k * 2) 0, fs.getD (k * 2 + 1) 0]) _ (fun w' hSw => hSw.1.loadable k h) Try.underlying36 rfl (hi1)) hHeld ?_; (try simp only [List.getElem_toArray, List.getElem_cons_zero, List.getElem_cons_succ, Act.put, List.setIfInBounds_toArray, List.set_cons_zero, List.set_cons_succ]))
        (refine wpAnyH_take (i := 7) (v := _) rfl (by kernel_rfl) (by kernel_rfl) (by kernel_rfl) (fun _ _ _ h => h) (yieldsIf_load_mid (by rfl) 36 _ rfl _ _ rfl (ints [fs.getD (k * 2) 0, fs.getD (k * 2 + 1) 0]) _ (fun w' hSw => hSw.2.1.loadable k h) Try.underlying36 rfl (hi1)) hHeld ?_; (try simp only [List.getElem_toArray, List.getElem_cons_zero, List.getElem_cons_succ, Act.put, List.setIfInBounds_toArray, List.set_cons_zero, List.set_cons_succ]))
        refine wpAnyH_take (i := 8) (v := .bool false) rfl (by kernel_rfl) (by kernel_rfl) (by kernel_rfl) (fun _ _ _ h => h) (Or.inl ⟨by rfl, ?_⟩) hHeld ?_
        · intro w' hSw
          exact neq_same_run _ _ _ _ _ _ rfl [fs.getD (k * 2) 0, fs.getD (k * 2 + 1) 0] rfl rfl HM.out (eqPair _ _ rfl rfl)
        (try simp only [List.getElem_toArray, List.getElem_cons_zero, List.getElem_cons_succ, Act.put, List.setIfInBounds_toArray, List.set_cons_zero, List.set_cons_succ])
        refine wpAnyH_done (by kernel_rfl) ?_ _
        have G5 := Lib.hid hHeld.1
        have G6 := Lib.hid hHeld.2.1
        have GB3 := Lib.hid hHeld.2.2
        clear hHeld G1 G2 GB hi1
        go_wp2_with fail
        go_roundw
        case rel => exact ⟨k + 1, by omega, by go_num, G5, G6, GB3⟩
        case measure => simp [intOf]; omega
      · obtain rfl : k = n + 1 := by omega
        go_wp2_with fail
        go_ret
        exact ⟨rfl, GB.out⟩


set_option maxHeartbeats 1600000 in
theorem rInts_same (v1 v2 : Value) (b1 b2 n : Nat) (fs : List Int) (w : World) (hn : n ≤ 1048576) (h1 : Nu w b1 v1 n fs) (h2 : Nu w b2 v2 n fs) :
    Calls Try.prog 21 #[v1, v2] w fun e w' => e = .returned (.bool true) ∧ Kept w w' := by
  cases n with
  | zero =>
    obtain ⟨a1, c1, rfl⟩ := h1.shape
    obtain ⟨a2, c2, rfl⟩ := h2.shape
    clear h1 h2
    go_enter Try.func21, Try.ntmps21
    go_wp2_with fail
    go_loop [5] (fun i => i = .int .i64 0) (fun _ => 0)
    case atStart => rfl
    case round =>
      obtain rfl := hrel
      go_wp2_with fail
      go_ret
      exact ⟨rfl, kept_refl _⟩
  | succ n =>
    obtain ⟨g1, c1, rfl, _, _⟩ := h1.form (by omega)
    obtain ⟨g2, c2, rfl, _, _⟩ := h2.form (by omega)
    go_enter Try.func21, Try.ntmps21
    go_wp2_with fail
    go_loopw [5] (fun z wr => ∃ k : Nat, k ≤ n + 1 ∧ z = .int .i64 k ∧ Hid (Nu wr b1 (.slice (some ⟨g1, 0, none⟩) (n + 1) c1) (n + 1) fs) ∧ Hid (Nu wr b2 (.slice (some ⟨g2, 0, none⟩) (n + 1) c2) (n + 1) fs) ∧ Hid (Kept w wr)) (fun z _ => n + 1 - (intOf z).toNat)
    case atStart => exact ⟨0, by omega, rfl, Lib.hid h1, Lib.hid h2, Lib.hid (kept_refl _)⟩
    case round =>
      obtain ⟨k, hk, rfl, G1, G2, GB⟩ := hrel
      by_cases h : k < n + 1
      · have hki : (k : Int) < (n : Int) + 1 := by omega
        have hk0 : (0 : Int) ≤ (k : Int) := by omega
        obtain ⟨x, hx⟩ : ∃ x, fs.getD k 0 = x := ⟨_, rfl⟩
        go_wp2_with fail
        refine wp_region_held_drew (S := fun w' => Nu w' b1 (.slice (some ⟨g1, 0, none⟩) (n + 1) c1) (n + 1) fs ∧ Nu w' b2 (.slice (some ⟨g2, 0, none⟩) (n + 1) c2) (n + 1) fs ∧ Kept w w') (by kernel_rfl) ?_ (fun hHeld => ?_)
        · exact ⟨G1.out.drewN 1, G2.out.drewN 1, GB.out.drewN 1⟩
        (refine wpAnyH_take (i := 0) (v := ?_) rfl (by kernel_rfl) (by kernel_rfl) (by kernel_rfl) (fun _ _ _ h => h) (Or.inl ⟨by rfl, ?_⟩) hHeld ?_; rotate_left; (· (intro w' hSw; go_simp; try with_reducible rfl)); (try simp only [List.getElem_toArray, List.getElem_cons_zero, List.getElem_cons_succ, Act.put, List.setIfInBounds_toArray, List.set_cons_zero, List.set_cons_succ])); (refine wpAnyH_take (i := 1) (v := ?_) rfl (by kernel_rfl) (by kernel_rfl) (by kernel_rfl) (fun _ _ _ h => h) (Or.inl ⟨by rfl, ?_⟩) hHeld ?_; rotate_left; (· (intro w' hSw; go_simp; try with_reducible rfl)); (try simp only [List.getElem_toArray, List.getElem_cons_zero, List.getElem_cons_succ, Act.put, List.setIfInBounds_toArray, List.set_cons_zero, List.set_cons_succ])); (refine wpAnyH_take (i := 2) (v := ?_) rfl (by kernel_rfl) (by kernel_rfl) (by kernel_rfl) (fun _ _ _ h => h) (Or.inl ⟨by rfl, ?_⟩) hHeld ?_; rotate_left; (· (intro w' hSw; go_simp; try with_reducible rfl)); (try simp only [List.getElem_toArray, List.getElem_cons_zero, List.getElem_cons_succ, Act.put, List.setIfInBounds_toArray, List.set_cons_zero, List.set_cons_succ])); (refine wpAnyH_take (i := 4) (v := ?_) rfl (by kernel_rfl) (by kernel_rfl) (by kernel_rfl) (fun _ _ _ h => h) (Or.inl ⟨by rfl, ?_⟩) hHeld ?_; rotate_left; (· (intro w' hSw; go_simp; try with_reducible rfl)); (try simp only [List.getElem_toArray, List.getElem_cons_zero, List.getElem_cons_succ, Act.put, List.setIfInBounds_toArray, List.set_cons_zero, List.set_cons_succ])); (refine wpAnyH_take (i := 5) (v := ?_) rfl (by kernel_rfl) (by kernel_rfl) (by kernel_rfl) (fun _ _ _ h => h) (Or.inl ⟨by rfl, ?_⟩) hHeld ?_; rotate_left; (· (intro w' hSw; go_simp; try with_reducible rfl)); (try simp only [List.getElem_toArray, List.getElem_cons_zero, List.getElem_cons_succ, Act.put, List.setIfInBounds_toArray, List.set_cons_zero, List.set_cons_succ])); (refine wpAnyH_take (i := 6) (v := ?_) rfl (by kernel_rfl) (by kernel_rfl) (by kernel_rfl) (fun _ _ _ h => h) (Or.inl ⟨by rfl, ?_⟩) hHeld ?_; rotate_left; (· (intro w' hSw; go_simp; try with_reducible rfl)); (try simp only [List.getElem_toArray, List.getElem_cons_zero, List.getElem_cons_succ, Act.put, List.setIfInBounds_toArray, List.set_cons_zero, List.set_cons_succ]))
        (refine wpAnyH_take (i := 3) (v := .int .i64 x) rfl (by kernel_rfl) (by kernel_rfl) (by kernel_rfl) (fun _ _ _ h => h) (Or.inl ⟨by rfl, ?_⟩) hHeld ?_; (· (intro w' hSw; have q := hSw.1.cellX h hx; clear hSw; go_simp; try with_reducible rfl)); (try simp only [List.getElem_toArray, List.getElem_cons_zero, List.getElem_cons_succ, Act.put, List.setIfInBounds_toArray, List.set_cons_zero, List.set_cons_succ]))
        (refine wpAnyH_take (i := 7) (v := .int .i64 x) rfl (by kernel_rfl) (by kernel_rfl) (by kernel_rfl) (fun _ _ _ h => h) (Or.inl ⟨by rfl, ?_⟩) hHeld ?_; (· (intro w' hSw; have q := hSw.2.1.cellX h hx; clear hSw; go_simp; try with_reducible rfl)); (try simp only [List.getElem_toArray, List.getElem_cons_zero, List.getElem_cons_succ, Act.put, List.setIfInBounds_toArray, List.set_cons_zero, List.set_cons_succ]))
        (refine wpAnyH_take (i := 8) (v := ?_) rfl (by kernel_rfl) (by kernel_rfl) (by kernel_rfl) (fun _ _ _ h => h) (Or.inl ⟨by rfl, ?_⟩) hHeld ?_; rotate_left; (· (intro w' hSw; go_simp; try with_reducible rfl)); (try simp only [List.getElem_toArray, List.getElem_cons_zero, List.getElem_cons_succ, Act.put, List.setIfInBounds_toArray, List.set_cons_zero, List.set_cons_succ]))
        refine wpAnyH_done (by kernel_rfl) ?_ _
        have G5 := Lib.hid hHeld.1
        have G6 := Lib.hid hHeld.2.1
        have GB3 := Lib.hid hHeld.2.2
        clear hHeld G1 G2 GB
        go_wp2_with fail
        go_roundw
        case rel => exact ⟨k + 1, by omega, by go_num, G5, G6, GB3⟩
        case measure => simp [intOf]; omega
      · obtain rfl : k = n + 1 := by omega
        go_wp2_with fail
        go_ret
        exact ⟨rfl, GB.out⟩
end Go.Proofs.Ytnldnjnnjfbhnab.base
end
