/-
  The view of a rack, on both sides, walked.
-/
/-
  The view of a rack, on the program's side and at the model's door, walked.
-/
import Derived.Test.YtemiljokdedidacSixVZ
import Derived.Deep.Cut
import Derived.Deep.CutRange
import Derived.Test.YtemiljokdedidacVwSZ

section
namespace Go.Proofs.Ytemiljokdedidac.base
open Go.ChangeShapes Go.WideShapes Go.ChangeAt Go.RowKit
set_option linter.unusedVariables false
set_option linter.unusedSimpArgs false

theorem range_set (n : Nat) (f g : Nat → Int) (k : Nat) (h : ∀ j, j ≠ k → f j = g j) : ((List.range n).map f).set k (g k) = (List.range n).map g := by
  apply List.ext_getElem?
  intro j
  rw [List.getElem?_set, List.getElem?_map, List.getElem?_map]
  by_cases e : k = j
  · subst e
    rw [if_pos rfl]
    by_cases hk : k < n
    · rw [List.getElem?_range hk]; simp [hk]
    · rw [List.getElem?_eq_none (by simp; omega)]; simp [hk]
  · rw [if_neg e]
    by_cases hj : j < n
    · rw [List.getElem?_range hj]; simp [h j (fun e2 => e e2.symm)]
    · rw [List.getElem?_eq_none (by simp; omega)]; rfl
/-- The counts, with 0 at the place 0. -/
def cnt0 (ns : List Int) : List Int := (cntUp ns 24).set 0 0
theorem cnt0_len (ns : List Int) : (cnt0 ns).length = 6 := by unfold cnt0; rw [List.length_set]; exact (cnt_all ns 24).1
def vwAt (ns : List Int) (a b j : Nat) : Int := if j < 6 then (if j < a then topC (tub ns j) else 0) else if j < 12 then (if j - 6 < b then (lay (tub ns (j - 6)) : Nat) else 0) else (cnt0 ns).getD (j - 12) 0
def vwUp (ns : List Int) (a b : Nat) : List Int := (List.range 18).map (vwAt ns a b)
def vwR (ns : List Int) : List Int := vwUp ns 6 6
def viewA (ns : List Int) : List Int := if vR ns = true then vwR ns else z18
theorem vwUp_len (ns : List Int) (a b : Nat) : (vwUp ns a b).length = 18 := by unfold vwUp; rw [List.length_map, List.length_range]
theorem vwR_len (ns : List Int) : (vwR ns).length = 18 := vwUp_len ns 6 6
theorem viewA_len (ns : List Int) : (viewA ns).length = 18 := by
  unfold viewA; split
  · exact vwR_len ns
  · rfl
theorem vwUp_top (ns : List Int) (k b : Nat) (hk : k < 6) : (vwUp ns k b).set k (topC (tub ns k)) = vwUp ns (k + 1) b := by
  have e : topC (tub ns k) = vwAt ns (k + 1) b k := by unfold vwAt; rw [if_pos hk, if_pos (by omega)]
  rw [e]
  refine range_set 18 _ _ k fun j hj => ?_
  unfold vwAt
  by_cases h6 : j < 6
  · rw [if_pos h6, if_pos h6]
    by_cases hl : j < k
    · rw [if_pos hl, if_pos (by omega)]
    · rw [if_neg hl, if_neg (by omega)]
  · rw [if_neg h6, if_neg h6]
theorem vwUp_many (ns : List Int) (a k : Nat) (hk : k < 6) : (vwUp ns a k).set (6 + k) (lay (tub ns k) : Nat) = vwUp ns a (k + 1) := by
  have e : ((lay (tub ns k) : Nat) : Int) = vwAt ns a (k + 1) (6 + k) := by
    unfold vwAt; rw [if_neg (by omega), if_pos (by omega), if_pos (by omega), show 6 + k - 6 = k by omega]
  rw [e]
  refine range_set 18 _ _ (6 + k) fun j hj => ?_
  unfold vwAt
  by_cases h6 : j < 6
  · rw [if_pos h6, if_pos h6]
  · rw [if_neg h6, if_neg h6]
    by_cases h12 : j < 12
    · rw [if_pos h12, if_pos h12]
      by_cases hl : j - 6 < k
      · rw [if_pos hl, if_pos (by omega)]
      · rw [if_neg hl, if_neg (by omega)]
    · rw [if_neg h12, if_neg h12]
theorem len6v {t : List Int} (h : t.length = 6) : ∃ a b c d e f, t = [a, b, c, d, e, f] := by
  match t, h with
  | [a, b, c, d, e, f], _ => exact ⟨a, b, c, d, e, f, rfl⟩
def z12 : List Int := [0, 0, 0, 0, 0, 0, 0, 0, 0, 0, 0, 0]
theorem vwUp_start (ns : List Int) : z12 ++ cnt0 ns = vwUp ns 0 0 := by
  obtain ⟨a, b, c, d, e, f, h⟩ := len6v (cnt0_len ns)
  unfold vwUp vwAt
  rw [h]
  simp [z12, List.range_succ]
theorem z12_set (cs : List Int) (h : cs.length = 6) : (z12 ++ cs).set 12 0 = z12 ++ cs.set 0 0 := by
  obtain ⟨a, b, c, d, e, f, rfl⟩ := len6v h
  rfl
theorem z12_len (cs : List Int) (h : cs.length = 6) : (z12 ++ cs).length = 18 := by rw [List.length_append, h]; rfl
theorem buildCounts (cs : List Int) (h : cs.length = 6) (w : World) : (Instr.build 28 #[(2, .agg (ints cs).toArray)]).run Try.prog w = .ok (.agg (ints (z12 ++ cs)).toArray) w := by
  obtain ⟨a, b, c, d, e, f, rfl⟩ := len6v h
  kernel_rfl
section
variable {P : Program} {ops : Array Oper} {rest : List Oper} {op : Oper} {a : Act} {w : World} {Q : Exit → Act → World → Prop}
theorem build_at (hw : Region.wanted op (yielded ops a.tmps) = true) (T : TypeId) (k : Nat) (x : Operand) (ho : op.op = .build T #[(k, x)]) (u v : Value) (hx : a.eval x = u)
    (hq : ∀ w, (Instr.build T #[(k, u)]).run P w = .ok v w)
    (h : wpList P ops Q rest (a.put op.dst v) w) : wpList P ops Q (op :: rest) a w :=
  wpList_wanted hw fun _ hK => by
    unfold Oper.wp execOp
    simp only [ho, Sem.run_bind, List.map_toArray, List.map_cons, List.map_nil, hx, hq, Result.andThen_ok, Sem.run_pure]
    exact hK _ _ h
end

end Go.Proofs.Ytemiljokdedidac.base
end

section
namespace Go.Proofs.Ytemiljokdedidac.base
open Go.ChangeShapes Go.WideShapes Go.ChangeAt Go.RowKit
set_option linter.unusedVariables false
set_option linter.unusedSimpArgs false

set_option maxHeartbeats 800000 in
set_option maxRecDepth 100000 in
theorem implViewOf (ns : List Int) (w : World) (h24 : ns.length = 24) :
    Calls Try.prog 49 #[row ns] w fun e w' => e = .returned (.tuple #[.agg (ints (viewA ns)).toArray, .bool (vR ns)]) ∧ Kept w w' := by
  have H := (Has.box w 42 h24 (by omega)).alloc (.cells (ints z18).toArray 28)
  have Z := (Has.box (w.alloc (.cells (ints ns).toArray 42)) 28 (ns := z18) (n := 18) rfl (by decide)).at (size1 _ _)
  have HB := Lib.hid (((kept_refl w).alloc (.cells (ints ns).toArray 42)).alloc (.cells (ints z18).toArray 28))
  rw [row_ints]
  go_enter Try.func49, Try.ntmps49
  go_wp2_with (refine load_has rfl 42 _ rfl _ rfl ?_ 24 ?_ _ Try.underlying42 rfl ?_ ?_; rotate_left; (· (repeat (first | (with_reducible assumption) | ((with_reducible refine Has.box _ _ ?_ ?_) <;> (first | assumption | decide)) | (with_reducible refine Has.alloc ?_ _) | ((with_reducible refine Has.putOther ?_ _ _ ?_); rotate_left; omega; skip) | ((with_reducible refine Has.below ?_ ?_); rotate_left; assumption)))); (· kernel_rfl))
  refine (implCount ns _ h24).mono ?_
  rintro e w1 ⟨rfl, b1⟩
  have hl := countA_len ns
  have H1 := (H.below b1).alloc (.cells (ints (countA ns)).toArray 22)
  have Z1 := (Z.below b1).alloc (.cells (ints (countA ns)).toArray 22)
  have Y1 := Has.box w1 22 hl (by omega)
  have HB1 := Lib.hid ((HB.out.call b1).alloc (.cells (ints (countA ns)).toArray 22))
  have hne : w.heap.size + 1 < w1.heap.size := by have := (Z.below b1).lt; omega
  clear H Z HB b1
  go_upto_region 2 with (refine store_new rfl 22 _ _ rfl _ _ _ rfl _ rfl _ rfl rfl ?_ ?_ ?_; (· (first | assumption | rfl)); (· kernel_rfl))
  generalize w1.alloc (.cells (ints (countA ns)).toArray 22) = W1 at *
  generalize w1.heap.size = b at *
  by_cases hv : vR ns = true
  rotate_left
  · have hf : vR ns = false := by simpa using hv
    have EA := Lib.hid (show viewA ns = z18 by unfold viewA; rw [if_neg hv])
    have HV := Lib.hid hf
    rw [hf]
    clear hf hv
    have hz : z18.length = 18 := rfl
    have S1 := Lib.hid (Z1.putAll z18 rfl)
    have S2 := Lib.hid (HB1.out.puts (b := w.heap.size + 1) (by omega) 0 (ints z18))
    go_wp2_with (first | (refine build_law rfl 28 rfl _ buildView ?_) | (refine store_at rfl 28 _ _ rfl _ _ rfl rfl ?_ 18 ?_ ?_ ?_ ?_; rotate_left; (· (repeat (first | (with_reducible assumption) | ((with_reducible refine Has.box _ _ ?_ ?_) <;> (first | assumption | decide)) | (with_reducible refine Has.alloc ?_ _) | ((with_reducible refine Has.putOther ?_ _ _ ?_); rotate_left; omega; skip) | ((with_reducible refine Has.below ?_ ?_); rotate_left; assumption)))); (· (first | assumption | rfl)); (· kernel_rfl)))
    exact bodyPost_ret (res_has1 rfl _ _ (w.heap.size + 1) z18 18 _ (.bool false) rfl rfl S1.out Try.underlying28 rfl (by kernel_rfl)) rfl ⟨by rw [EA.out, HV.out], S2.out⟩
  have EC : countA ns = cntUp ns 24 := by unfold countA; rw [if_pos hv]
  have EA := Lib.hid (show viewA ns = vwR ns by unfold viewA; rw [if_pos hv])
  rw [hv]
  rw [EC] at Y1 hl
  have c0 := Y1.cell 0 (by omega)
  have f0 := Y1.free 0 (by omega)
  have Y2 := (Y1.set 0 0 (by omega)).asV (show (cntUp ns 24).set 0 0 = cnt0 ns from rfl)
  have H2 := H1.setOther (b' := b) 0 (.int .i64 0) (by omega)
  have Z2 := Z1.setOther (b' := b) 0 (.int .i64 0) (by omega)
  have HB2 := Lib.hid (HB1.out.set (b := b) (by omega) 0 (.int .i64 0))
  have HV := Lib.hid hv
  have HL := Lib.hid h24
  have l0 := cnt0_len ns
  have gt := Lib.hid (fun k hk w => indexTub ns k hk w)
  have hb := buildCounts (cnt0 ns) l0
  have h18 := z12_len (cnt0 ns) l0
  clear Y1 H1 Z1 HB1 hl EC hv h24
  generalize (cntUp ns 24).getD 0 0 = x at *
  generalize countA ns = ca at *
  go_upto_region 5 with fail
  clear c0 f0
  generalize W1.setCell ⟨b, 0, none⟩ (.int .i64 0) = W2 at *
  have H3 := H2.alloc (.cells (ints (z12 ++ cnt0 ns)).toArray 28)
  have Z3 := Z2.alloc (.cells (ints (z12 ++ cnt0 ns)).toArray 28)
  have Y3 := (Has.box W2 28 h18 (by omega)).asV (vwUp_start ns)
  have HB3 := Lib.hid (HB2.out.alloc (.cells (ints (z12 ++ cnt0 ns)).toArray 28))
  have hne2 : w.heap.size + 1 < W2.heap.size := Z2.lt
  go_upto_region 7 with (first | (refine load_has rfl 22 _ rfl _ rfl ?_ 6 ?_ _ Try.underlying22 rfl ?_ ?_; rotate_left; (· (repeat (first | (with_reducible assumption) | ((with_reducible refine Has.box _ _ ?_ ?_) <;> (first | assumption | decide)) | (with_reducible refine Has.alloc ?_ _) | ((with_reducible refine Has.putOther ?_ _ _ ?_); rotate_left; omega; skip) | ((with_reducible refine Has.below ?_ ?_); rotate_left; assumption)))); (· kernel_rfl)) | (refine build_at rfl 28 2 _ rfl (.agg (ints (cnt0 ns)).toArray) (.agg (ints (z12 ++ cnt0 ns)).toArray) rfl hb ?_) | (refine store_new rfl 28 _ _ rfl _ _ _ rfl _ rfl _ rfl rfl ?_ ?_ ?_; (· (first | assumption | rfl)); (· kernel_rfl)) | (refine load_has rfl 38 _ rfl _ rfl ?_ 24 ?_ _ Try.underlying38 rfl ?_ ?_; rotate_left; (· (repeat (first | (with_reducible assumption) | ((with_reducible refine Has.box _ _ ?_ ?_) <;> (first | assumption | decide)) | (with_reducible refine Has.alloc ?_ _) | ((with_reducible refine Has.putOther ?_ _ _ ?_); rotate_left; omega; skip) | ((with_reducible refine Has.below ?_ ?_); rotate_left; assumption)))); (· kernel_rfl)))
  clear H2 Z2 HB2 Y2 hb h18 H3
  generalize W2.alloc (.cells (ints (z12 ++ cnt0 ns)).toArray 28) = W3 at *
  generalize W2.heap.size = c at *
  go_loopg [22] 6 (fun gk i wr => ∃ k : Nat, gk = 6 - k ∧ k ≤ 6 ∧ i = .int .i64 k ∧ Has wr (w.heap.size + 1) z18 18 ∧ Has wr c (vwUp ns k k) 18 ∧ Hid (Kept w wr))
  case atStart => exact ⟨0, rfl, by omega, rfl, Z3, Y3, HB3⟩
  case round =>
    obtain ⟨k, rfl, hk, rfl, GZ, GY, GB⟩ := hrel
    by_cases hlt : k < 6
    · have hki : (k : Int) < 6 := by omega
      have h4 := tub_len ns k HL.out hlt
      have hvt := vR_tub HV.out k hlt
      have g0 := gt.out k hlt
      have VT := Lib.hid (vwUp_top ns k k hlt)
      have VM := Lib.hid (vwUp_many ns (k + 1) k hlt)
      generalize tub ns k = t at *
      have GZ2 := GZ.alloc (.cells (ints t).toArray 37)
      have GY2 := GY.alloc (.cells (ints t).toArray 37)
      have GT2 := Has.box wr 37 h4 (by omega)
      have GB2 := Lib.hid (GB.out.alloc (.cells (ints t).toArray 37))
      have hcw : c < wr.heap.size := GY.lt
      have hbw := GB.out.size
      go_wp2_with (first | (refine store_new rfl 37 _ _ rfl _ _ _ rfl _ rfl _ rfl rfl ?_ ?_ ?_; (· (first | assumption | rfl)); (· kernel_rfl)) | (refine load_has rfl 37 _ rfl _ rfl ?_ 4 ?_ _ Try.underlying37 rfl ?_ ?_; rotate_left; (· (repeat (first | (with_reducible assumption) | ((with_reducible refine Has.box _ _ ?_ ?_) <;> (first | assumption | decide)) | (with_reducible refine Has.alloc ?_ _) | ((with_reducible refine Has.putOther ?_ _ _ ?_); rotate_left; omega; skip) | ((with_reducible refine Has.below ?_ ?_); rotate_left; assumption)))); (· kernel_rfl)))
      clear g0 GZ GY GB
      generalize wr.alloc (.cells (ints t).toArray 37) = wt at *
      generalize wr.heap.size = d at *
      refine (top_any t _ h4 hvt).mono ?_
      rintro e w3 ⟨rfl, b3⟩
      have GZ3 := GZ2.below b3
      have GY3 := GY2.below b3
      have GT3 := GT2.below b3
      have GB3 := Lib.hid (GB2.out.call b3)
      have c1 := GY3.cell k (by omega)
      have f1 := GY3.free k (by omega)
      have GY4 := (GY3.set k (topC t) (by omega)).asV VT.out
      have GT4 := GT3.setOther (b' := c) k (.int .i64 (topC t)) (by omega)
      have GZ4 := GZ3.setOther (b' := c) k (.int .i64 (topC t)) (by omega)
      have GB4 := Lib.hid (GB3.out.set (b := c) (by omega) k (.int .i64 (topC t)))
      clear GT2 GZ2 GY2 GB2 b3 GT3 GZ3 GY3 GB3
      generalize (vwUp ns k k).getD k 0 = x1 at *
      go_wp2_with (refine load_has rfl 37 _ rfl _ rfl ?_ 4 ?_ _ Try.underlying37 rfl ?_ ?_; rotate_left; (· (repeat (first | (with_reducible assumption) | ((with_reducible refine Has.box _ _ ?_ ?_) <;> (first | assumption | decide)) | (with_reducible refine Has.alloc ?_ _) | ((with_reducible refine Has.putOther ?_ _ _ ?_); rotate_left; omega; skip) | ((with_reducible refine Has.below ?_ ?_); rotate_left; assumption)))); (· kernel_rfl))
      refine (layers_any t _ h4 hvt).mono ?_
      rintro e w5 ⟨rfl, b5⟩
      have GZ5 := GZ4.below b5
      have GY5 := GY4.below b5
      have GB5 := Lib.hid (GB4.out.call b5)
      have c2 := GY5.cell (6 + k) (by omega)
      have f2 := GY5.free (6 + k) (by omega)
      have GY6 := Lib.hid ((GY5.set (6 + k) (lay t : Nat) (by omega)).asV VM.out)
      have GZ6 := Lib.hid (GZ5.setOther (b' := c) (6 + k) (.int .i64 (lay t : Nat)) (by omega))
      have GB6 := Lib.hid (GB5.out.set (b := c) (by omega) (6 + k) (.int .i64 (lay t : Nat)))
      clear GT4 GZ4 GY4 GB4 b5 GZ5 GY5 GB5 c1 f1
      generalize (vwUp ns (k + 1) k).getD (6 + k) 0 = x2 at *
      go_wp2_with fail
      go_roundg (6 - (k + 1))
      case rel => exact ⟨k + 1, rfl, by omega, by go_num, GZ6.out, GY6.out, GB6⟩
      case measure => omega
    · obtain rfl : k = 6 := by omega
      have hl := vwR_len ns
      have S1 := Lib.hid (GZ.putAll (vwR ns) hl)
      have S2 := Lib.hid (GB.out.puts (b := w.heap.size + 1) (by omega) 0 (ints (vwR ns)))
      have er : vwUp ns 6 6 = vwR ns := rfl
      rw [er] at GY
      clear er
      go_wp2_with (first | (refine load_has rfl 28 _ rfl _ rfl ?_ 18 ?_ _ Try.underlying28 rfl ?_ ?_; rotate_left; (· (repeat (first | (with_reducible assumption) | ((with_reducible refine Has.box _ _ ?_ ?_) <;> (first | assumption | decide)) | (with_reducible refine Has.alloc ?_ _) | ((with_reducible refine Has.putOther ?_ _ _ ?_); rotate_left; omega; skip) | ((with_reducible refine Has.below ?_ ?_); rotate_left; assumption)))); (· kernel_rfl)) | (refine store_at rfl 28 _ _ rfl _ _ rfl rfl ?_ 18 ?_ ?_ ?_ ?_; rotate_left; (· (repeat (first | (with_reducible assumption) | ((with_reducible refine Has.box _ _ ?_ ?_) <;> (first | assumption | decide)) | (with_reducible refine Has.alloc ?_ _) | ((with_reducible refine Has.putOther ?_ _ _ ?_); rotate_left; omega; skip) | ((with_reducible refine Has.below ?_ ?_); rotate_left; assumption)))); (· (first | assumption | rfl)); (· kernel_rfl)))
      exact bodyPost_ret (res_has1 rfl _ _ (w.heap.size + 1) (vwR ns) 18 _ (.bool true) rfl rfl S1.out Try.underlying28 rfl (by kernel_rfl)) rfl ⟨by rw [EA.out, HV.out], S2.out⟩

end Go.Proofs.Ytemiljokdedidac.base
end
