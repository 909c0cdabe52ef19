/-
  The chance that a rack is sorted, on both sides, and its law, walked.
-/
import Derived.Test.YtemiljokdedidacPlnM
import Derived.Test.YtemiljokdedidacBelW
import Derived.Test.YtemiljokdedidacSortI
import Derived.Test.YtemiljokdedidacVofI
import Derived.Test.YtemiljokdedidacMdW
import Derived.Test.YtemiljokdedidacVwI2
namespace Go.Proofs.Ytemiljokdedidac.base
open Go.ChangeShapes Go.WideShapes Go.ChangeAt Go.RowKit
set_option linter.unusedVariables false
set_option linter.unusedSimpArgs false

theorem Has.tCellX {w : World} {b : Nat} {vs : List Int} {x : Int} (h : Has w b vs 18) (k : Nat) (hk : k < 6) (e : vTop vs k = x) : w.cell? ⟨b, k, none⟩ = some (.int .i64 x) := by
  rw [← e]; exact h.tCell k hk
theorem Has.cCellX {w : World} {b : Nat} {vs : List Int} {x : Int} (h : Has w b vs 18) (k : Nat) (hk : k < 6) (e : vCnt vs k = x) : w.cell? ⟨b, 12 + k, none⟩ = some (.int .i64 x) := by
  have := h.vCell 2 k (by omega) hk
  have e2 : (prt vs 2).getD k 0 = x := e
  rw [e2] at this
  simpa using this
/-! whole views and counts are compared -/
theorem eq6v (a b c d e f a' b' c' d' e' f' : Int) : ((a == a') && (b == b') && (c == c') && (d == d') && (e == e') && (f == f')) = decide ([a, b, c, d, e, f] = [a', b', c', d', e', f']) := by
  rw [Bool.eq_iff_iff]; simp [and_assoc]
theorem run_eq6v {P : Program} (D : Nat) (T e : TypeId) (hT : P.underlying T = some (.array 6 e)) (he : P.underlying e = some (.int .i64)) (hz : ∀ w, (sizeOf e).run P w = .ok 1 w) (xs ys : List Int) (hx : xs.length = 6) (hy : ys.length = 6) (w : World) :
    (Op.equalIn (D + 2) T (.agg (ints xs).toArray) (.agg (ints ys).toArray)).run P w = .ok (decide (xs = ys)) w := by
  have p : ∀ (ns : List Int) (hn : ns.length = 6) (j : Nat) (hj : j < 6) (w : World), (part e (ints ns).toArray j).run P w = .ok (.int .i64 (ns.getD j 0)) w := fun ns hn j hj w => run_part_int e he ns j (by omega) w
  have q : ∀ (x y : Int) (w : World), (Op.equalIn (D + 1) e (.int .i64 x) (.int .i64 y)).run P w = .ok (x == y) w := fun x y w => run_equalIn_int w D e .i64 .i64 x y he
  have px := fun j hj w => p xs hx j hj w
  have py := fun j hj w => p ys hy j hj w
  have E : decide (xs = ys) = ((xs.getD 0 0 == ys.getD 0 0) && (xs.getD 1 0 == ys.getD 1 0) && (xs.getD 2 0 == ys.getD 2 0) && (xs.getD 3 0 == ys.getD 3 0) && (xs.getD 4 0 == ys.getD 4 0) && (xs.getD 5 0 == ys.getD 5 0)) := by
    obtain ⟨a, b, c, d, e, f, rfl⟩ := len6v hx
    obtain ⟨a', b', c', d', e', f', rfl⟩ := len6v hy
    exact (eq6v _ _ _ _ _ _ _ _ _ _ _ _).symm
  rw [E]
  clear E p
  have q0 := fun w => q (xs.getD 0 0) (ys.getD 0 0) w
  have q1 := fun w => q (xs.getD 1 0) (ys.getD 1 0) w
  have q2 := fun w => q (xs.getD 2 0) (ys.getD 2 0) w
  have q3 := fun w => q (xs.getD 3 0) (ys.getD 3 0) w
  have q4 := fun w => q (xs.getD 4 0) (ys.getD 4 0) w
  have q5 := fun w => q (xs.getD 5 0) (ys.getD 5 0) w
  clear q
  have px0 := px 0 (by omega); have px1 := px 1 (by omega); have px2 := px 2 (by omega); have px3 := px 3 (by omega); have px4 := px 4 (by omega); have px5 := px 5 (by omega)
  have py0 := py 0 (by omega); have py1 := py 1 (by omega); have py2 := py 2 (by omega); have py3 := py 3 (by omega); have py4 := py 4 (by omega); have py5 := py 5 (by omega)
  clear px py
  generalize xs.getD 0 0 = x0 at *
  generalize ys.getD 0 0 = y0 at *
  generalize xs.getD 1 0 = x1 at *
  generalize ys.getD 1 0 = y1 at *
  generalize xs.getD 2 0 = x2 at *
  generalize ys.getD 2 0 = y2 at *
  generalize xs.getD 3 0 = x3 at *
  generalize ys.getD 3 0 = y3 at *
  generalize xs.getD 4 0 = x4 at *
  generalize ys.getD 4 0 = y4 at *
  generalize xs.getD 5 0 = x5 at *
  generalize ys.getD 5 0 = y5 at *
  generalize (x0 == y0) = b0 at *
  generalize (x1 == y1) = b1 at *
  generalize (x2 == y2) = b2 at *
  generalize (x3 == y3) = b3 at *
  generalize (x4 == y4) = b4 at *
  generalize (x5 == y5) = b5 at *
  rw [Op.equalIn]
  simp only [Sem.run_bind, run_underlying hT, Result.andThen_ok, hz]
  simp only [Std.Legacy.Range.forIn_eq_forIn_range', Std.Legacy.Range.size, Nat.sub_zero, Nat.add_sub_cancel, Nat.div_one, List.range'_succ, List.range'_zero, List.forIn_cons, List.forIn_nil, Nat.zero_add, Nat.reduceAdd, Nat.mul_one, Sem.run_bind, px0, py0, q0, Result.andThen_ok]
  cases b0
  · simp
  cases b1
  · simp [px1, py1, q1]
  cases b2
  · simp [px1, py1, q1, px2, py2, q2]
  cases b3
  · simp [px1, py1, q1, px2, py2, q2, px3, py3, q3]
  cases b4
  · simp [px1, py1, q1, px2, py2, q2, px3, py3, q3, px4, py4, q4]
  cases b5
  · simp [px1, py1, q1, px2, py2, q2, px3, py3, q3, px4, py4, q4, px5, py5, q5]
  · simp [px1, py1, q1, px2, py2, q2, px3, py3, q3, px4, py4, q4, px5, py5, q5]
theorem prt_eq (xs ys : List Int) (hx : xs.length = 18) (hy : ys.length = 18) : (decide (prt xs 0 = prt ys 0) && decide (prt xs 1 = prt ys 1) && decide (prt xs 2 = prt ys 2)) = decide (xs = ys) := by
  rw [Bool.eq_iff_iff]
  simp only [Bool.and_eq_true, decide_eq_true_eq]
  constructor
  · rintro ⟨⟨h0, h1⟩, h2⟩
    rw [← setPrt_all z18 xs rfl hx, ← setPrt_all z18 ys rfl hy, h0, h1, h2]
  · rintro rfl; exact ⟨⟨rfl, rfl⟩, rfl⟩
theorem run_eqView {P : Program} (D : Nat) (T a e : TypeId) (f g h : Field) (hT : P.underlying T = some (.struct #[f, g, h])) (fn : f.name ≠ "_") (gn : g.name ≠ "_") (hn : h.name ≠ "_") (fo : f.offset = 0) (go : g.offset = 6) (ho : h.offset = 12)
    (ft : f.type = a) (gt : g.type = a) (ht : h.type = a) (hs : P.stoodInHeld T = false) (ha : P.underlying a = some (.array 6 e)) (he : P.underlying e = some (.int .i64)) (hz : ∀ w, (sizeOf e).run P w = .ok 1 w) (hza : ∀ w, (sizeOf a).run P w = .ok 6 w)
    (xs ys : List Int) (hx : xs.length = 18) (hy : ys.length = 18) (w : World) :
    (Op.equalIn (D + 3) T (.agg (ints xs).toArray) (.agg (ints ys).toArray)).run P w = .ok (decide (xs = ys)) w := by
  rw [← prt_eq xs ys hx hy]
  have p : ∀ (ns : List Int) (o : Nat) (w : World), (part a (ints ns).toArray o).run P w = .ok (.agg (ints ((ns.drop o).take 6)).toArray) w := fun ns o w => run_part_row a e 6 ha hza ns o w
  have q : ∀ (k : Nat) (hk : k < 3) (w : World), (Op.equalIn (D + 2) a (.agg (ints (prt xs k)).toArray) (.agg (ints (prt ys k)).toArray)).run P w = .ok (decide (prt xs k = prt ys k)) w := fun k hk w => run_eq6v D a e ha he hz _ _ (prt_len xs k hx hk) (prt_len ys k hy hk) w
  have q0 := q 0 (by omega); have q1 := q 1 (by omega); have q2 := q 2 (by omega)
  clear q
  generalize decide (prt xs 0 = prt ys 0) = b0 at *
  generalize decide (prt xs 1 = prt ys 1) = b1 at *
  generalize decide (prt xs 2 = prt ys 2) = b2 at *
  unfold prt at q0 q1 q2
  simp only [Nat.reduceMul, Nat.zero_mul, List.drop_zero] at q0 q1 q2
  rw [Op.equalIn]
  simp only [Sem.run_bind, run_underlying hT, Result.andThen_ok, run_program, hs, Bool.false_eq_true, if_false]
  cases b0
  · simp [fn, gn, hn, fo, go, ho, ft, gt, ht, p, q0]
  cases b1
  · simp [fn, gn, hn, fo, go, ho, ft, gt, ht, p, q0, q1]
  cases b2
  · simp [fn, gn, hn, fo, go, ho, ft, gt, ht, p, q0, q1, q2]
  · simp [fn, gn, hn, fo, go, ho, ft, gt, ht, p, q0, q1, q2]
theorem eqViewT (xs ys : List Int) (hx : xs.length = 18) (hy : ys.length = 18) (w : World) : (Op.equalIn 10000 28 (.agg (ints xs).toArray) (.agg (ints ys).toArray)).run Try.prog w = .ok (decide (xs = ys)) w :=
  run_eqView 9997 28 22 3 _ _ _ Try.underlying28 (by decide) (by decide) (by decide) rfl rfl rfl rfl rfl rfl (by kernel_rfl) Try.underlying22 Try.underlying3
    (fun w => by rw [Try.sizeOf3]) (fun w => by rw [Try.sizeOf22]) xs ys hx hy w
theorem eqSixV (xs ys : List Int) (hx : xs.length = 6) (hy : ys.length = 6) (w : World) : (Op.equalIn 10000 22 (.agg (ints xs).toArray) (.agg (ints ys).toArray)).run Try.prog w = .ok (decide (xs = ys)) w :=
  run_eq6v 9998 22 3 Try.underlying22 Try.underlying3 (fun w => by rw [Try.sizeOf3]) xs ys hx hy w

section
variable {P : Program} {ops : Array Oper} {rest : List Oper} {op : Oper} {a : Act} {w : World} {Q : Exit → Act → World → Prop}
theorem neqv_is (hw : Region.wanted op (yielded ops a.tmps) = true) (T T2 : TypeId) (x y : Operand) (ho : op.op = .binOp .neq T x y T2) (xs ys : List Int) (hx : a.eval x = .agg (ints xs).toArray) (hy : a.eval y = .agg (ints ys).toArray)
    (hm : P.eqGuardType P.depth T = false) (hq : ∀ w, (Op.equalIn 10000 T (.agg (ints xs).toArray) (.agg (ints ys).toArray)).run P w = .ok (decide (xs = ys)) w) (b : Bool) (hn : (!decide (xs = ys)) = b)
    (h : wpList P ops Q rest (a.put op.dst (.bool b)) w) : wpList P ops Q (op :: rest) a w :=
  neq_has hw T T2 x y ho xs ys hx hy hm hq (by rw [hn]; exact h)
theorem neqv_run (ev : Operand → Value) (o : Oper) (T T2 : TypeId) (x y : Operand) (ho : o.op = .binOp .neq T x y T2) (xs ys : List Int) (hx : ev x = .agg (ints xs).toArray) (hy : ev y = .agg (ints ys).toArray)
    (hm : P.eqGuardType P.depth T = false) (hq : ∀ w, (Op.equalIn 10000 T (.agg (ints xs).toArray) (.agg (ints ys).toArray)).run P w = .ok (decide (xs = ys)) w) (b : Bool) (hn : (!decide (xs = ys)) = b) :
    (execOp ev o).run P w = .ok (.value (.bool b)) w := by
  rw [← hn]
  unfold execOp
  simp only [ho, hx, hy, Sem.run_bind, run_eqGuard_agg w .neq T x y _ _ hm, run_neq_struct, hq, Result.andThen_ok, Sem.run_pure]
end

def csOk (vs : List Int) : Bool := sortedA (plain vs) && decide (vwR (plain vs) = vs)
def csA (vs : List Int) : List Int := if vV vs = true then (if csOk vs = true then [1, ((ordA (hid vs) : Nat) : Int)] else [0, 1]) else z2
theorem csA_len (vs : List Int) : (csA vs).length = 2 := by
  unfold csA; split
  · split <;> rfl
  · rfl
set_option maxHeartbeats 1600000 in
set_option maxRecDepth 100000 in
theorem plainTubes_any (vs : List Int) (w : World) (h : vs.length = 18) (ht : topV vs = true) :
    Calls Try.prog 47 #[row vs] w fun e w' => e = .returned (.agg (ints (plain vs)).toArray) ∧ Kept w w' := by
  have H := ((Has.box w 28 h (by omega)).alloc (.cells #[.int .i64 0, .int .i64 0, .int .i64 0, .int .i64 0, .int .i64 0, .int .i64 0, .int .i64 0, .int .i64 0, .int .i64 0, .int .i64 0, .int .i64 0, .int .i64 0, .int .i64 0, .int .i64 0, .int .i64 0, .int .i64 0, .int .i64 0, .int .i64 0, .int .i64 0, .int .i64 0, .int .i64 0, .int .i64 0, .int .i64 0, .int .i64 0] 42)).alloc (.cells (ints z24).toArray 42)
  have Z := ((Has.zero24 (w.alloc (.cells (ints vs).toArray 28)) 42).at (size1 _ _)).alloc (.cells (ints z24).toArray 42)
  have Y := (Has.box ((w.alloc (.cells (ints vs).toArray 28)).alloc (.cells #[.int .i64 0, .int .i64 0, .int .i64 0, .int .i64 0, .int .i64 0, .int .i64 0, .int .i64 0, .int .i64 0, .int .i64 0, .int .i64 0, .int .i64 0, .int .i64 0, .int .i64 0, .int .i64 0, .int .i64 0, .int .i64 0, .int .i64 0, .int .i64 0, .int .i64 0, .int .i64 0, .int .i64 0, .int .i64 0, .int .i64 0, .int .i64 0] 42)) 42 (ns := z24) (n := 24) rfl (by decide)).at (c := w.heap.size + 1 + 1) (by simp)
  have HB := Lib.hid ((((kept_refl w).alloc (.cells (ints vs).toArray 28)).alloc (.cells #[.int .i64 0, .int .i64 0, .int .i64 0, .int .i64 0, .int .i64 0, .int .i64 0, .int .i64 0, .int .i64 0, .int .i64 0, .int .i64 0, .int .i64 0, .int .i64 0, .int .i64 0, .int .i64 0, .int .i64 0, .int .i64 0, .int .i64 0, .int .i64 0, .int .i64 0, .int .i64 0, .int .i64 0, .int .i64 0, .int .i64 0, .int .i64 0] 42)).alloc (.cells (ints z24).toArray 42))
  have Y := Y.asV (plR_zero vs).symm
  have hl1 := prt_len vs 1 h (by omega)
  rw [row_ints]
  go_enter Try.func47, Try.ntmps47
  go_upto_region 2 with (first | (refine build_law rfl 42 rfl _ buildRack ?_) | (refine store_new rfl 42 _ _ rfl _ _ _ rfl _ (by simp) z24 rfl rfl ?_ ?_ ?_; (· (first | assumption | rfl)); (· kernel_rfl)))
  generalize (((w.alloc (.cells (ints vs).toArray 28)).alloc (.cells #[.int .i64 0, .int .i64 0, .int .i64 0, .int .i64 0, .int .i64 0, .int .i64 0, .int .i64 0, .int .i64 0, .int .i64 0, .int .i64 0, .int .i64 0, .int .i64 0, .int .i64 0, .int .i64 0, .int .i64 0, .int .i64 0, .int .i64 0, .int .i64 0, .int .i64 0, .int .i64 0, .int .i64 0, .int .i64 0, .int .i64 0, .int .i64 0] 42)).alloc (.cells (ints z24).toArray 42)) = W at *
  have HT := Lib.hid (fun i hi => topV_at ht i hi)
  have gi := Lib.hid (fun k hk w => index6v 22 Try.underlying22 (prt vs 1) hl1 k hk w)
  clear hl1 ht
  go_wp2_with (refine load_prt rfl 22 _ rfl _ (1) _ rfl ?_ ?_ ?_ ?_ _ Try.underlying22 rfl ?_ ?_; (· (first | rfl | omega)); rotate_left; (· (repeat (first | (with_reducible assumption) | ((with_reducible refine Has.box _ _ ?_ ?_) <;> (first | assumption | decide)) | (with_reducible refine Has.alloc ?_ _) | ((with_reducible refine Has.putOther ?_ _ _ ?_); rotate_left; omega; skip) | ((with_reducible refine Has.below ?_ ?_); rotate_left; assumption)))); (· omega); (· kernel_rfl))
  go_loopg [10] 6 (fun gk ii wr => ∃ i : Nat, gk = 6 - i ∧ i ≤ 6 ∧ ii = .int .i64 i ∧ Has wr w.heap.size vs 18 ∧ Has wr (w.heap.size + 1) z24 24 ∧ Has wr (w.heap.size + 1 + 1) (plR vs (i * 4)) 24 ∧ Hid (Kept w wr))
  case atStart => exact ⟨0, rfl, by omega, rfl, H, Z, Y, HB⟩
  case round =>
    clear H Z Y HB
    obtain ⟨i, rfl, hi, rfl, GH, GZ, GY, GB⟩ := hrel
    by_cases hi6 : i < 6
    · have hii : (i : Int) < 6 := by omega
      have g0 := gi.out i hi6
      have tk := HT.out i hi6
      obtain ⟨m, hm⟩ : ∃ m : Nat, vMany vs i = (m : Int) := ⟨(vMany vs i).toNat, by omega⟩
      have hm4 : m ≤ 4 := by omega
      have e1 : (prt vs 1).getD i 0 = (m : Int) := hm
      rw [e1] at g0
      have PE := Lib.hid (plR_end vs i m hm hm4)
      have PA := Lib.hid (show ∀ q, q < m → plAt vs i q = vTop vs i from fun q hq => by unfold plAt; rw [hm, if_pos (by omega)])
      have DI := Lib.hid (show 6 - (i + 1) < 6 - i by omega)
      clear tk hm e1
      go_wp2_with fail
      clear g0
      go_loopg [15] m (fun gk kk wr => ∃ k : Nat, gk = m - k ∧ k ≤ m ∧ kk = .int .i64 k ∧ Has wr w.heap.size vs 18 ∧ Has wr (w.heap.size + 1) z24 24 ∧ Has wr (w.heap.size + 1 + 1) (plR vs (i * 4 + k)) 24 ∧ Hid (Kept w wr))
      case atStart => exact ⟨0, rfl, by omega, rfl, GH, GZ, GY, GB⟩
      case round =>
        clear GH GZ GY GB
        obtain ⟨k, rfl, hk, rfl, KH, KZ, KY, KB⟩ := hrel
        by_cases hkl : k < m
        · have dk : decide ((k : Int) < (m : Int)) = true := decide_eq_true (by omega)
          have hk4 : (k : Int) < 4 := by omega
          have k4 : k < 4 := by omega
          have MSH := Lib.hid (show (plR vs (i * 4 + k)).set (i * 4 + k) (vTop vs i) = plR vs (i * 4 + (k + 1)) by rw [← PA.out k hkl]; exact plR_set vs i k k4)
          have DK := Lib.hid (show m - (k + 1) < m - k by omega)
          have HK1 := Lib.hid (show k + 1 ≤ m from hkl)
          have hii4 : i * 4 + k < 24 := by omega
          have hne2 : w.heap.size + 1 + 1 ≠ w.heap.size := by omega
          clear hkl
          go_upto_region 8 with fail
          refine wp_region_held_drew (S := fun w' => Has w' w.heap.size vs 18 ∧ (∃ zs, Has w' (w.heap.size + 1 + 1) zs 24)) (by kernel_rfl) ⟨KH.drew, ⟨_, KY.drew⟩⟩ (fun hHeld => ?_)
          have D1 := KZ.drew
          have D2 := KY.drew
          have D4 := Lib.hid (KB.out.drewN 1)
          change Hid (Kept _ (World.drew wr)) at D4
          clear KZ KY KB KH
          generalize World.drew wr = WD at *
          (refine wpAnyH_take (i := 0) (v := ?_) rfl (by kernel_rfl) (by kernel_rfl) (by kernel_rfl) (fun _ _ _ h => h) (Or.inl ⟨by rfl, ?_⟩) hHeld ?_; rotate_left; (· (intro w' hSw; go_simp; try with_reducible rfl)); (try simp only [List.getElem_toArray, List.getElem_cons_zero, List.getElem_cons_succ, Act.put, List.setIfInBounds_toArray, List.set_cons_zero, List.set_cons_succ])); (refine wpAnyH_take (i := 1) (v := ?_) rfl (by kernel_rfl) (by kernel_rfl) (by kernel_rfl) (fun _ _ _ h => h) (Or.inl ⟨by rfl, ?_⟩) hHeld ?_; rotate_left; (· (intro w' hSw; go_simp; try with_reducible rfl)); (try simp only [List.getElem_toArray, List.getElem_cons_zero, List.getElem_cons_succ, Act.put, List.setIfInBounds_toArray, List.set_cons_zero, List.set_cons_succ])); (refine wpAnyH_take (i := 2) (v := ?_) rfl (by kernel_rfl) (by kernel_rfl) (by kernel_rfl) (fun _ _ _ h => h) (Or.inl ⟨by rfl, ?_⟩) hHeld ?_; rotate_left; (· (intro w' hSw; go_simp; try with_reducible rfl)); (try simp only [List.getElem_toArray, List.getElem_cons_zero, List.getElem_cons_succ, Act.put, List.setIfInBounds_toArray, List.set_cons_zero, List.set_cons_succ])); (refine wpAnyH_take (i := 3) (v := ?_) rfl (by kernel_rfl) (by kernel_rfl) (by kernel_rfl) (fun _ _ _ h => h) (Or.inl ⟨by rfl, ?_⟩) hHeld ?_; rotate_left; (· (intro w' hSw; go_simp; try with_reducible rfl)); (try simp only [List.getElem_toArray, List.getElem_cons_zero, List.getElem_cons_succ, Act.put, List.setIfInBounds_toArray, List.set_cons_zero, List.set_cons_succ])); (refine wpAnyH_take (i := 4) (v := ?_) rfl (by kernel_rfl) (by kernel_rfl) (by kernel_rfl) (fun _ _ _ h => h) (Or.inl ⟨by rfl, ?_⟩) hHeld ?_; rotate_left; (· (intro w' hSw; go_simp; try with_reducible rfl)); (try simp only [List.getElem_toArray, List.getElem_cons_zero, List.getElem_cons_succ, Act.put, List.setIfInBounds_toArray, List.set_cons_zero, List.set_cons_succ])); (refine wpAnyH_take (i := 6) (v := ?_) rfl (by kernel_rfl) (by kernel_rfl) (by kernel_rfl) (fun _ _ _ h => h) (Or.inl ⟨by rfl, ?_⟩) hHeld ?_; rotate_left; (· (intro w' hSw; go_simp; try with_reducible rfl)); (try simp only [List.getElem_toArray, List.getElem_cons_zero, List.getElem_cons_succ, Act.put, List.setIfInBounds_toArray, List.set_cons_zero, List.set_cons_succ])); (refine wpAnyH_take (i := 7) (v := ?_) rfl (by kernel_rfl) (by kernel_rfl) (by kernel_rfl) (fun _ _ _ h => h) (Or.inl ⟨by rfl, ?_⟩) hHeld ?_; rotate_left; (· (intro w' hSw; go_simp; try with_reducible rfl)); (try simp only [List.getElem_toArray, List.getElem_cons_zero, List.getElem_cons_succ, Act.put, List.setIfInBounds_toArray, List.set_cons_zero, List.set_cons_succ]))
          (refine wpAnyH_take (i := 5) (v := .int .i64 (vTop vs i)) rfl (by kernel_rfl) (by kernel_rfl) (by kernel_rfl) (fun _ _ _ h => h) (Or.inl ⟨by rfl, ?_⟩) hHeld ?_; (· (intro w' hSw; have q := hSw.1.tCell i hi6; clear hSw; go_simp; try with_reducible rfl)); (try simp only [List.getElem_toArray, List.getElem_cons_zero, List.getElem_cons_succ, Act.put, List.setIfInBounds_toArray, List.set_cons_zero, List.set_cons_succ]))
          (refine wpAnyH_take (i := 8) (v := ?_) rfl (by kernel_rfl) (by kernel_rfl) (by kernel_rfl) (fun _ _ _ h => h) (Or.inl ⟨by rfl, ?_⟩) hHeld ?_; rotate_left; (· (intro w' hSw; go_simp; try with_reducible rfl)); (try simp only [List.getElem_toArray, List.getElem_cons_zero, List.getElem_cons_succ, Act.put, List.setIfInBounds_toArray, List.set_cons_zero, List.set_cons_succ]))
          have y2 := D2.cell (i * 4 + k) hii4
          have f2 := D2.free (i * 4 + k) hii4
          have M2 := (D2.set (i * 4 + k) (vTop vs i) hii4).asV MSH.out
          have M0 := hHeld.1.setOther (b' := w.heap.size + 1 + 1) (i * 4 + k) (.int .i64 (vTop vs i)) (by omega)
          have M1 := Lib.hid (D1.setOther (b' := w.heap.size + 1 + 1) (i * 4 + k) (.int .i64 (vTop vs i)) (by omega))
          have M4 := Lib.hid (D4.out.set (b := w.heap.size + 1 + 1) (by omega) (i * 4 + k) (.int .i64 (vTop vs i)))
          (refine wpAnyH_ready (rs := [9]) (by kernel_rfl) (by simp) ?_; refine AllReadyH.cons (o := _) rfl (fun K hK => ?_) AllReadyH.nil; (simp only [List.getElem_toArray, List.getElem_cons_zero, List.getElem_cons_succ, Region.wanted, if_true]))
          go_simp
          (try simp only [List.getElem_toArray, List.getElem_cons_zero, List.getElem_cons_succ, Act.put, List.setIfInBounds_toArray, List.set_cons_zero, List.set_cons_succ])
          refine hK.out _ _ ⟨M0, ⟨_, M2⟩⟩ (fun hHeld => ?_)
          clear hK K
          refine wpAnyH_done (by kernel_rfl) ?_ _
          have M0 := Lib.hid M0
          have M2 := Lib.hid M2
          clear hHeld D1 D2 D4 y2 f2
          go_wp2_with fail
          go_roundg (m - (k + 1))
          case rel => exact ⟨k + 1, rfl, HK1.out, by go_num, M0.out, M1.out, M2.out, M4⟩
          case measure => exact DK.out
        · have hke : k = m := by omega
          subst hke
          have KY2 := KY.asV PE.out
          go_wp2_with fail
          go_roundg (6 - (i + 1))
          case rel => exact ⟨i + 1, rfl, by omega, by go_num, KH, KZ, KY2, KB⟩
          case measure => exact DI.out
    · obtain rfl : i = 6 := by omega
      have hl := plain_len vs
      have S1 := Lib.hid (GZ.putAll (plain vs) hl)
      have S2 := Lib.hid (GB.out.puts (b := w.heap.size + 1) (by omega) 0 (ints (plain vs)))
      have er : plR vs (6 * 4) = plain vs := rfl
      rw [er] at GY
      clear er
      go_wp2_with (first | (refine load_has rfl 42 _ rfl _ rfl ?_ 24 ?_ _ Try.underlying42 rfl ?_ ?_; rotate_left; (· (repeat (first | (with_reducible assumption) | ((with_reducible refine Has.box _ _ ?_ ?_) <;> (first | assumption | decide)) | (with_reducible refine Has.alloc ?_ _) | ((with_reducible refine Has.putOther ?_ _ _ ?_); rotate_left; omega; skip) | ((with_reducible refine Has.below ?_ ?_); rotate_left; assumption)))); (· kernel_rfl)) | (refine store_at rfl 42 _ _ rfl _ _ rfl rfl ?_ 24 ?_ ?_ ?_ ?_; rotate_left; (· (repeat (first | (with_reducible assumption) | ((with_reducible refine Has.box _ _ ?_ ?_) <;> (first | assumption | decide)) | (with_reducible refine Has.alloc ?_ _) | ((with_reducible refine Has.putOther ?_ _ _ ?_); rotate_left; omega; skip) | ((with_reducible refine Has.below ?_ ?_); rotate_left; assumption)))); (· (first | assumption | rfl)); (· kernel_rfl)))
      exact bodyPost_ret (res_has rfl _ _ (w.heap.size + 1) (plain vs) 24 _ rfl S1.out Try.underlying42 rfl (by kernel_rfl)) rfl ⟨rfl, S2.out⟩
set_option maxHeartbeats 1600000 in
set_option maxRecDepth 100000 in
theorem implCs (vs : List Int) (w : World) (h : vs.length = 18) :
    Calls Try.prog 17 #[row vs] w fun e w' => e = .returned (.tuple #[.agg (ints (csA vs)).toArray, .bool (vV vs)]) ∧ Kept w w' := by
  have H := (Has.box w 28 h (by omega)).alloc (.cells #[.int .i64 0, .int .i64 0] 33)
  have Z := (Has.zero2v (w.alloc (.cells (ints vs).toArray 28)) 33).at (size1 _ _)
  have HB := Lib.hid (((kept_refl w).alloc (.cells (ints vs).toArray 28)).alloc (.cells #[.int .i64 0, .int .i64 0] 33))
  have hz : z2.length = 2 := rfl
  rw [row_ints]
  go_enter Try.func17, Try.ntmps17
  go_wp2_with (refine load_has rfl 28 _ rfl _ rfl ?_ 18 ?_ _ Try.underlying28 rfl ?_ ?_; rotate_left; (· (repeat (first | (with_reducible assumption) | ((with_reducible refine Has.box _ _ ?_ ?_) <;> (first | assumption | decide)) | (with_reducible refine Has.alloc ?_ _) | ((with_reducible refine Has.putOther ?_ _ _ ?_); rotate_left; omega; skip) | ((with_reducible refine Has.below ?_ ?_); rotate_left; assumption)))); (· kernel_rfl))
  refine (implCountCand vs _ h).mono ?_
  rintro e w1 ⟨rfl, b1⟩
  have H1 := H.below b1
  have Z1 := Z.below b1
  have HB1 := Lib.hid (HB.out.call b1)
  clear H Z HB b1
  by_cases hv : vV vs = true
  rotate_left
  · have hf : vV vs = false := by simpa using hv
    have EA := Lib.hid (show csA vs = z2 by unfold csA; rw [if_neg hv])
    have HF := Lib.hid hf
    rw [hf]
    have S1 := Lib.hid (Z1.putAll z2 rfl)
    have S2 := Lib.hid (HB1.out.puts (b := w.heap.size + 1) (by omega) 0 (ints z2))
    clear hv hf
    go_wp2_with (first | (refine build_law rfl 33 rfl _ build2z ?_) | (refine store_at rfl 33 _ _ rfl _ _ rfl rfl ?_ 2 ?_ ?_ ?_ ?_; rotate_left; (· (repeat (first | (with_reducible assumption) | ((with_reducible refine Has.box _ _ ?_ ?_) <;> (first | assumption | decide)) | (with_reducible refine Has.alloc ?_ _) | ((with_reducible refine Has.putOther ?_ _ _ ?_); rotate_left; omega; skip) | ((with_reducible refine Has.below ?_ ?_); rotate_left; assumption)))); (· (first | assumption | rfl)); (· kernel_rfl)))
    exact bodyPost_ret (res_has1 rfl _ _ (w.heap.size + 1) z2 2 _ (.bool false) rfl rfl S1.out Try.underlying33 rfl (by kernel_rfl)) rfl ⟨by rw [EA.out, HF.out], S2.out⟩
  have F := viewFacts h hv
  have ht := F.tops
  have EC : candA vs = ordA (hid vs) := by unfold candA; rw [if_pos hv]
  have EA := Lib.hid (show csA vs = if csOk vs = true then [1, ((ordA (hid vs) : Nat) : Int)] else [0, 1] by unfold csA; rw [if_pos hv])
  have PV := plain_valid ht
  have HV := Lib.hid hv
  have pl := plain_len vs
  have CO : csOk vs = (sortedA (plain vs) && decide (vwR (plain vs) = vs)) := rfl
  have VA : viewA (plain vs) = vwR (plain vs) := by unfold viewA; rw [if_pos PV]
  have vl := vwR_len (plain vs)
  rw [hv, EC]
  clear F EC
  go_wp2_with (refine load_has rfl 28 _ rfl _ rfl ?_ 18 ?_ _ Try.underlying28 rfl ?_ ?_; rotate_left; (· (repeat (first | (with_reducible assumption) | ((with_reducible refine Has.box _ _ ?_ ?_) <;> (first | assumption | decide)) | (with_reducible refine Has.alloc ?_ _) | ((with_reducible refine Has.putOther ?_ _ _ ?_); rotate_left; omega; skip) | ((with_reducible refine Has.below ?_ ?_); rotate_left; assumption)))); (· kernel_rfl))
  refine (plainTubes_any vs _ h ht).mono ?_
  rintro e w2 ⟨rfl, b2⟩
  clear ht
  generalize plain vs = P at *
  have P2 := Has.box w2 42 pl (by omega)
  have H2 := (H1.below b2).alloc (.cells (ints P).toArray 42)
  have Z2 := (Z1.below b2).alloc (.cells (ints P).toArray 42)
  have HB2 := Lib.hid ((HB1.out.call b2).alloc (.cells (ints P).toArray 42))
  clear H1 Z1 HB1 b2
  go_wp2_with (first | (refine store_new rfl 42 _ _ rfl _ _ _ rfl _ rfl _ rfl rfl ?_ ?_ ?_; (· (first | assumption | rfl)); (· kernel_rfl)) | (refine load_has rfl 42 _ rfl _ rfl ?_ 24 ?_ _ Try.underlying42 rfl ?_ ?_; rotate_left; (· (repeat (first | (with_reducible assumption) | ((with_reducible refine Has.box _ _ ?_ ?_) <;> (first | assumption | decide)) | (with_reducible refine Has.alloc ?_ _) | ((with_reducible refine Has.putOther ?_ _ _ ?_); rotate_left; omega; skip) | ((with_reducible refine Has.below ?_ ?_); rotate_left; assumption)))); (· kernel_rfl)))
  refine (implSorted P _ pl).mono ?_
  rintro e w3 ⟨rfl, b3⟩
  have P3 := P2.below b3
  have H3 := H2.below b3
  have Z3 := Z2.below b3
  have HB3 := Lib.hid (HB2.out.call b3)
  clear P2 H2 Z2 HB2 b3
  go_wp2_with (refine load_has rfl 42 _ rfl _ rfl ?_ 24 ?_ _ Try.underlying42 rfl ?_ ?_; rotate_left; (· (repeat (first | (with_reducible assumption) | ((with_reducible refine Has.box _ _ ?_ ?_) <;> (first | assumption | decide)) | (with_reducible refine Has.alloc ?_ _) | ((with_reducible refine Has.putOther ?_ _ _ ?_); rotate_left; omega; skip) | ((with_reducible refine Has.below ?_ ?_); rotate_left; assumption)))); (· kernel_rfl))
  refine (implViewOf P _ pl).mono ?_
  rintro e w4 ⟨rfl, b4⟩
  rw [VA, PV]
  have H4 := (H3.below b4).alloc (.cells (ints (vwR P)).toArray 28)
  have Z4 := (Z3.below b4).alloc (.cells (ints (vwR P)).toArray 28)
  have V4 := Has.box w4 28 vl (by omega)
  have HB4 := Lib.hid ((HB3.out.call b4).alloc (.cells (ints (vwR P)).toArray 28))
  have hi1 : Hid (Try.prog.eqGuardType Try.prog.depth 28 = false) := Lib.hid (by kernel_rfl)
  have EQ := Lib.hid (fun w => eqViewT (vwR P) vs vl h w)
  clear P3 H3 Z3 HB3 b4 VA PV
  have hb2 : ∀ (w : World), (Instr.build 33 #[(0, .int .i64 0), (1, .int .i64 1)]).run Try.prog w = .ok (.agg (ints [0, 1]).toArray) w := fun w => by kernel_rfl
  have hb3 : ∀ (w : World), (Instr.build 33 #[(0, .int .i64 1), (1, .int .i64 ((ordA (hid vs) : Nat) : Int))]).run Try.prog w = .ok (.agg (ints [1, ((ordA (hid vs) : Nat) : Int)]).toArray) w := fun w => by kernel_rfl
  by_cases hs : sortedA P = true
  · rw [hs]
    by_cases he : vwR P = vs
    · clear hb2
      have hb2 := hb3
      have C := Lib.hid (show csOk vs = true by rw [CO, hs, decide_eq_true he]; rfl)
      have EA2 := Lib.hid (show csA vs = [1, ((ordA (hid vs) : Nat) : Int)] by rw [EA.out, C.out]; rfl)
      have EB := Lib.hid (show (!decide (vwR P = vs)) = false by rw [decide_eq_true he]; rfl)
      have S1 := Lib.hid (Z4.putAll [1, ((ordA (hid vs) : Nat) : Int)] rfl)
      have S2 := Lib.hid (HB4.out.puts (b := w.heap.size + 1) (by omega) 0 (ints [1, ((ordA (hid vs) : Nat) : Int)]))
      have hl2 : ([1, ((ordA (hid vs) : Nat) : Int)] : List Int).length = 2 := rfl
      clear hs he CO hb3
      generalize vwR P = vp at *
      go_wp2_with (first | (refine store_new rfl 28 _ _ rfl _ _ _ rfl _ rfl _ rfl rfl ?_ ?_ ?_; (· (first | assumption | rfl)); (· kernel_rfl)) | (refine load_has rfl 28 _ rfl _ rfl ?_ 18 ?_ _ Try.underlying28 rfl ?_ ?_; rotate_left; (· (repeat (first | (with_reducible assumption) | ((with_reducible refine Has.box _ _ ?_ ?_) <;> (first | assumption | decide)) | (with_reducible refine Has.alloc ?_ _) | ((with_reducible refine Has.putOther ?_ _ _ ?_); rotate_left; omega; skip) | ((with_reducible refine Has.below ?_ ?_); rotate_left; assumption)))); (· kernel_rfl)) | (refine neqv_is rfl 28 28 _ _ rfl vp vs rfl rfl hi1.out EQ.out _ EB.out ?_) | (refine store_at rfl 33 _ _ rfl _ [1, ((ordA (hid vs) : Nat) : Int)] rfl rfl ?_ 2 ?_ rfl ?_ ?_; rotate_left; (· (repeat (first | (with_reducible assumption) | ((with_reducible refine Has.box _ _ ?_ ?_) <;> (first | assumption | decide)) | (with_reducible refine Has.alloc ?_ _) | ((with_reducible refine Has.putOther ?_ _ _ ?_); rotate_left; omega; skip) | ((with_reducible refine Has.below ?_ ?_); rotate_left; assumption)))); (· kernel_rfl)))
      exact bodyPost_ret (res_has1 rfl _ _ (w.heap.size + 1) [1, ((ordA (hid vs) : Nat) : Int)] 2 _ (.bool true) rfl rfl S1.out Try.underlying33 rfl (by kernel_rfl)) rfl ⟨by rw [EA2.out, HV.out], S2.out⟩
    · have C := Lib.hid (show csOk vs = false by rw [CO, hs, decide_eq_false he]; rfl)
      have EA2 := Lib.hid (show csA vs = [0, 1] by rw [EA.out, C.out]; rfl)
      have EB := Lib.hid (show (!decide (vwR P = vs)) = true by rw [decide_eq_false he]; rfl)
      have S1 := Lib.hid (Z4.putAll [0, 1] rfl)
      have S2 := Lib.hid (HB4.out.puts (b := w.heap.size + 1) (by omega) 0 (ints [0, 1]))
      have hl2 : ([0, 1] : List Int).length = 2 := rfl
      clear hs he CO hb3
      generalize vwR P = vp at *
      go_wp2_with (first | (refine store_new rfl 28 _ _ rfl _ _ _ rfl _ rfl _ rfl rfl ?_ ?_ ?_; (· (first | assumption | rfl)); (· kernel_rfl)) | (refine load_has rfl 28 _ rfl _ rfl ?_ 18 ?_ _ Try.underlying28 rfl ?_ ?_; rotate_left; (· (repeat (first | (with_reducible assumption) | ((with_reducible refine Has.box _ _ ?_ ?_) <;> (first | assumption | decide)) | (with_reducible refine Has.alloc ?_ _) | ((with_reducible refine Has.putOther ?_ _ _ ?_); rotate_left; omega; skip) | ((with_reducible refine Has.below ?_ ?_); rotate_left; assumption)))); (· kernel_rfl)) | (refine neqv_is rfl 28 28 _ _ rfl vp vs rfl rfl hi1.out EQ.out _ EB.out ?_) | (refine store_at rfl 33 _ _ rfl _ [0, 1] rfl rfl ?_ 2 ?_ rfl ?_ ?_; rotate_left; (· (repeat (first | (with_reducible assumption) | ((with_reducible refine Has.box _ _ ?_ ?_) <;> (first | assumption | decide)) | (with_reducible refine Has.alloc ?_ _) | ((with_reducible refine Has.putOther ?_ _ _ ?_); rotate_left; omega; skip) | ((with_reducible refine Has.below ?_ ?_); rotate_left; assumption)))); (· kernel_rfl)))
      exact bodyPost_ret (res_has1 rfl _ _ (w.heap.size + 1) [0, 1] 2 _ (.bool true) rfl rfl S1.out Try.underlying33 rfl (by kernel_rfl)) rfl ⟨by rw [EA2.out, HV.out], S2.out⟩
  · have hf : sortedA P = false := by simpa using hs
    rw [hf]
    have C := Lib.hid (show csOk vs = false by rw [CO, hf]; rfl)
    have EA2 := Lib.hid (show csA vs = [0, 1] by rw [EA.out, C.out]; rfl)
    have EB := Lib.hid (show True from trivial)
    have S1 := Lib.hid (Z4.putAll [0, 1] rfl)
    have S2 := Lib.hid (HB4.out.puts (b := w.heap.size + 1) (by omega) 0 (ints [0, 1]))
    have hl2 : ([0, 1] : List Int).length = 2 := rfl
    clear hs hf CO hb3 EQ hi1
    generalize vwR P = vp at *
    go_wp2_with (first | (refine store_new rfl 28 _ _ rfl _ _ _ rfl _ rfl _ rfl rfl ?_ ?_ ?_; (· (first | assumption | rfl)); (· kernel_rfl)) | (refine load_has rfl 28 _ rfl _ rfl ?_ 18 ?_ _ Try.underlying28 rfl ?_ ?_; rotate_left; (· (repeat (first | (with_reducible assumption) | ((with_reducible refine Has.box _ _ ?_ ?_) <;> (first | assumption | decide)) | (with_reducible refine Has.alloc ?_ _) | ((with_reducible refine Has.putOther ?_ _ _ ?_); rotate_left; omega; skip) | ((with_reducible refine Has.below ?_ ?_); rotate_left; assumption)))); (· kernel_rfl)) | (refine neqv_is rfl 28 28 _ _ rfl vp vs rfl rfl hi1.out EQ.out _ EB.out ?_) | (refine store_at rfl 33 _ _ rfl _ [0, 1] rfl rfl ?_ 2 ?_ rfl ?_ ?_; rotate_left; (· (repeat (first | (with_reducible assumption) | ((with_reducible refine Has.box _ _ ?_ ?_) <;> (first | assumption | decide)) | (with_reducible refine Has.alloc ?_ _) | ((with_reducible refine Has.putOther ?_ _ _ ?_); rotate_left; omega; skip) | ((with_reducible refine Has.below ?_ ?_); rotate_left; assumption)))); (· kernel_rfl)))
    exact bodyPost_ret (res_has1 rfl _ _ (w.heap.size + 1) [0, 1] 2 _ (.bool true) rfl rfl S1.out Try.underlying33 rfl (by kernel_rfl)) rfl ⟨by rw [EA2.out, HV.out], S2.out⟩
end Go.Proofs.Ytemiljokdedidac.base
