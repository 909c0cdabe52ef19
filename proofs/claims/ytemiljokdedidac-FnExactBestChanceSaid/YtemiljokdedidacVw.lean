/-
  Views: their parts loaded and stored, turned and compared in a law, walked.
-/
import Derived.Test.YtemiljokdedidacVwM
import Derived.Test.YtemiljokdedidacSixV
import Derived.Test.YtemiljokdedidacCount
namespace Go.Proofs.Ytemiljokdedidac.base
open Go.ChangeShapes Go.WideShapes Go.ChangeAt Go.RowKit
set_option linter.unusedVariables false
set_option linter.unusedSimpArgs false

def z18 : List Int := [0, 0, 0, 0, 0, 0, 0, 0, 0, 0, 0, 0, 0, 0, 0, 0, 0, 0]
def setPrt (vs : List Int) (k : Nat) (t : List Int) : List Int := vs.take (k * 6) ++ t ++ vs.drop (k * 6 + 6)
theorem setPrt_len (vs : List Int) (k : Nat) (t : List Int) (h : vs.length = 18) (hk : k < 3) (ht : t.length = 6) : (setPrt vs k t).length = 18 := by
  unfold setPrt; simp; omega
theorem setPrt_all (zs vs : List Int) (hz : zs.length = 18) (h : vs.length = 18) : setPrt (setPrt (setPrt zs 0 (prt vs 0)) 1 (prt vs 1)) 2 (prt vs 2) = vs := by
  have l0 := prt_len vs 0 h (by omega)
  have l1 := prt_len vs 1 h (by omega)
  have l2 := prt_len vs 2 h (by omega)
  have e : prt vs 0 ++ prt vs 1 ++ prt vs 2 = vs := by
    unfold prt
    rw [List.take_of_length_le (l := vs.drop (2 * 6)) (by rw [List.length_drop]; omega)]
    simp only [Nat.zero_mul, List.drop_zero, Nat.one_mul]
    have e2 : vs.drop (2 * 6) = (vs.drop 6).drop 6 := by rw [List.drop_drop]
    rw [e2, List.append_assoc, List.take_append_drop, List.take_append_drop]
  have a0 : setPrt zs 0 (prt vs 0) = prt vs 0 ++ zs.drop 6 := by unfold setPrt; simp
  have a1 : setPrt (prt vs 0 ++ zs.drop 6) 1 (prt vs 1) = prt vs 0 ++ prt vs 1 ++ zs.drop 12 := by
    unfold setPrt
    rw [Nat.one_mul, List.take_append_of_le_length (by omega), List.take_of_length_le (by omega), List.drop_append, List.drop_of_length_le (by omega), List.nil_append, l0, List.drop_drop]
  have a2 : setPrt (prt vs 0 ++ prt vs 1 ++ zs.drop 12) 2 (prt vs 2) = prt vs 0 ++ prt vs 1 ++ prt vs 2 := by
    unfold setPrt
    rw [List.take_append_of_le_length (by simp; omega), List.take_of_length_le (by simp; omega), List.drop_append, List.drop_of_length_le (l := prt vs 0 ++ prt vs 1) (by simp; omega), List.drop_of_length_le (by simp; omega)]
    simp
  rw [a0, a1, a2, e]
theorem Has.zero18 (w : World) (T : TypeId) : Has (w.alloc (.cells #[.int .i64 0, .int .i64 0, .int .i64 0, .int .i64 0, .int .i64 0, .int .i64 0, .int .i64 0, .int .i64 0, .int .i64 0, .int .i64 0, .int .i64 0, .int .i64 0, .int .i64 0, .int .i64 0, .int .i64 0, .int .i64 0, .int .i64 0, .int .i64 0] T)) w.heap.size z18 18 := Has.box (ns := z18) w T rfl (by decide)
theorem buildView (w : World) : (Instr.build 28 #[]).run Try.prog w = .ok (.agg (ints z18).toArray) w := by kernel_rfl
theorem Has.putPrt {w : World} {b : Nat} {vs : List Int} (h : Has w b vs 18) (k : Nat) (hk : k < 3) (t : List Int) (ht : t.length = 6) : Has (w.setCells b (k * 6) (ints t)) b (setPrt vs k t) 18 := by
  have := h.holds.putInts (k * 6) t (by rw [h.len]; omega)
  rw [ht] at this
  exact ⟨this, setPrt_len vs k t h.len hk ht, by omega⟩
theorem Has.vCell {w : World} {b : Nat} {vs : List Int} (h : Has w b vs 18) (k i : Nat) (hk : k < 3) (hi : i < 6) : w.cell? ⟨b, k * 6 + i, none⟩ = some (.int .i64 ((prt vs k).getD i 0)) := by
  rw [prt_getD vs k i hi]; exact h.cell _ (by omega)
section
variable {P : Program} {ops : Array Oper} {rest : List Oper} {op : Oper} {a : Act} {w : World} {Q : Exit → Act → World → Prop}
/-- A part is loaded out of a view. -/
theorem load_prt (hw : Region.wanted op (yielded ops a.tmps) = true) (T : TypeId) (x : Operand) (ho : op.op = .load T x) (b k o : Nat) (hx : a.eval x = .pointer (some ⟨b, o, none⟩)) (hko : o = k * 6) (vs : List Int) (H : Has w b vs 18) (hk : k < 3)
    (d : TypeDesc) (hu : P.underlying T = some d) (hd : d.isRow = true) (hi : (P.info? T).map (·.size) = some 6)
    (h : wpList P ops Q rest (a.put op.dst (.agg (ints (prt vs k)).toArray)) w) : wpList P ops Q (op :: rest) a w := by
  subst hko
  exact wpList_wanted hw fun _ hK => wp_load_mid T x ho b (k * 6) hx (ints (prt vs k)) d (H.holds.sub (k * 6) 6) hu hd (by rw [ints_len, prt_len vs k H.len hk]; exact hi) (hK _ _ h)
end

set_option maxHeartbeats 400000 in
theorem toView_any (vs : List Int) (w : World) (h : vs.length = 18) :
    Calls Try.prog 11 #[row vs] w fun e w' => e = .returned (row vs) ∧ Kept w w' := by
  have H := ((Has.box w 24 h (by omega)).alloc (.cells (ints z18).toArray 28)).alloc (.cells (ints z18).toArray 28)
  have Z := ((Has.box (w.alloc (.cells (ints vs).toArray 24)) 28 (ns := z18) (n := 18) rfl (by decide)).at (size1 _ _)).alloc (.cells (ints z18).toArray 28)
  have Y := (Has.box ((w.alloc (.cells (ints vs).toArray 24)).alloc (.cells (ints z18).toArray 28)) 28 (ns := z18) (n := 18) rfl (by decide)).at (c := w.heap.size + 1 + 1) (by simp)
  have HB := Lib.hid ((((kept_refl w).alloc (.cells (ints vs).toArray 24)).alloc (.cells (ints z18).toArray 28)).alloc (.cells (ints z18).toArray 28))
  have l0 := prt_len vs 0 h (by omega)
  have l1 := prt_len vs 1 h (by omega)
  have l2 := prt_len vs 2 h (by omega)
  have EA := Lib.hid (setPrt_all z18 vs rfl h)
  rw [row_ints]
  go_enter Try.func11, Try.ntmps11
  go_wp2_with (refine load_prt rfl 22 _ rfl _ (0) _ rfl ?_ ?_ ?_ ?_ _ Try.underlying22 rfl ?_ ?_; (· (first | rfl | omega)); rotate_left; (· (repeat (first | (with_reducible assumption) | ((with_reducible refine Has.box _ _ ?_ ?_) <;> (first | assumption | decide)) | (with_reducible refine Has.alloc ?_ _) | ((with_reducible refine Has.putOther ?_ _ _ ?_); rotate_left; omega; skip) | ((with_reducible refine Has.below ?_ ?_); rotate_left; assumption)))); (· omega); (· kernel_rfl))
  refine (toIntA6v (prt vs 0) _ l0).mono ?_
  rintro e w1 ⟨rfl, b1⟩
  have H1 := H.below b1
  have Z1 := Z.below b1
  have Y1 := Y.below b1
  have HB1 := Lib.hid (HB.out.call b1)
  have T1 := Lib.hid (Y1.holds.thereSub (0 * 6) 6 (by rw [ints_len]; decide))
  have Y2 := Y1.putPrt 0 (by omega) (prt vs 0) l0
  have H2 := H1.putOther (b' := w.heap.size + 1 + 1) (0 * 6) (ints (prt vs 0)) (by omega)
  have Z2 := Z1.putOther (b' := w.heap.size + 1 + 1) (0 * 6) (ints (prt vs 0)) (by omega)
  have HB2 := Lib.hid (HB1.out.puts (b := w.heap.size + 1 + 1) (by omega) (0 * 6) (ints (prt vs 0)))
  simp only [Nat.zero_mul] at T1 Y2 H2 Z2 HB2
  clear H Z Y HB b1 H1 Z1 Y1 HB1
  go_wp2_with (first | (refine store_has rfl 22 _ _ rfl (w.heap.size + 1 + 1) 0 (prt vs 0) rfl rfl 6 l0 T1.out ?_ ?_; (· kernel_rfl)) | (refine load_prt rfl 22 _ rfl _ (1) _ rfl ?_ ?_ ?_ ?_ _ Try.underlying22 rfl ?_ ?_; (· (first | rfl | omega)); rotate_left; (· (repeat (first | (with_reducible assumption) | ((with_reducible refine Has.box _ _ ?_ ?_) <;> (first | assumption | decide)) | (with_reducible refine Has.alloc ?_ _) | ((with_reducible refine Has.putOther ?_ _ _ ?_); rotate_left; omega; skip) | ((with_reducible refine Has.below ?_ ?_); rotate_left; assumption)))); (· omega); (· kernel_rfl)))
  refine (toIntA6v (prt vs 1) _ l1).mono ?_
  rintro e w3 ⟨rfl, b3⟩
  have H3 := H2.below b3
  have Z3 := Z2.below b3
  have Y3 := Y2.below b3
  have HB3 := Lib.hid (HB2.out.call b3)
  have T3 := Lib.hid (Y3.holds.thereSub (1 * 6) 6 (by rw [ints_len, Y3.len]; decide))
  have Y4 := Y3.putPrt 1 (by omega) (prt vs 1) l1
  have H4 := H3.putOther (b' := w.heap.size + 1 + 1) (1 * 6) (ints (prt vs 1)) (by omega)
  have Z4 := Z3.putOther (b' := w.heap.size + 1 + 1) (1 * 6) (ints (prt vs 1)) (by omega)
  have HB4 := Lib.hid (HB3.out.puts (b := w.heap.size + 1 + 1) (by omega) (1 * 6) (ints (prt vs 1)))
  simp only [Nat.one_mul] at T3 Y4 H4 Z4 HB4
  clear H2 Z2 Y2 HB2 T1 b3 H3 Z3 Y3 HB3
  go_wp2_with (first | (refine store_has rfl 22 _ _ rfl (w.heap.size + 1 + 1) 6 (prt vs 1) rfl rfl 6 l1 T3.out ?_ ?_; (· kernel_rfl)) | (refine load_prt rfl 22 _ rfl _ (2) _ rfl ?_ ?_ ?_ ?_ _ Try.underlying22 rfl ?_ ?_; (· (first | rfl | omega)); rotate_left; (· (repeat (first | (with_reducible assumption) | ((with_reducible refine Has.box _ _ ?_ ?_) <;> (first | assumption | decide)) | (with_reducible refine Has.alloc ?_ _) | ((with_reducible refine Has.putOther ?_ _ _ ?_); rotate_left; omega; skip) | ((with_reducible refine Has.below ?_ ?_); rotate_left; assumption)))); (· omega); (· kernel_rfl)))
  refine (toIntA6v (prt vs 2) _ l2).mono ?_
  rintro e w5 ⟨rfl, b5⟩
  have Z5 := Z4.below b5
  have Y5 := Y4.below b5
  have HB5 := Lib.hid (HB4.out.call b5)
  have T5 := Lib.hid (Y5.holds.thereSub (2 * 6) 6 (by rw [ints_len, Y5.len]; decide))
  have Y6 := Y5.putPrt 2 (by omega) (prt vs 2) l2
  have Z6 := Z5.putOther (b' := w.heap.size + 1 + 1) (2 * 6) (ints (prt vs 2)) (by omega)
  have HB6 := Lib.hid (HB5.out.puts (b := w.heap.size + 1 + 1) (by omega) (2 * 6) (ints (prt vs 2)))
  rw [EA.out] at Y6
  simp only [Nat.reduceMul] at T5 Y6 Z6 HB6
  have S1 := Lib.hid (Z6.putAll vs h)
  have S2 := Lib.hid (HB6.out.puts (b := w.heap.size + 1) (by omega) 0 (ints vs))
  clear H4 Z4 Y4 HB4 T3 b5 Z5 Y5 HB5 HB6
  go_wp2_with (first | (refine store_has rfl 22 _ _ rfl (w.heap.size + 1 + 1) 12 (prt vs 2) rfl rfl 6 l2 T5.out ?_ ?_; (· kernel_rfl)) | (refine load_has rfl 28 _ rfl _ rfl ?_ 18 ?_ _ Try.underlying28 rfl ?_ ?_; rotate_left; (· (repeat (first | (with_reducible assumption) | ((with_reducible refine Has.box _ _ ?_ ?_) <;> (first | assumption | decide)) | (with_reducible refine Has.alloc ?_ _) | ((with_reducible refine Has.putOther ?_ _ _ ?_); rotate_left; omega; skip) | ((with_reducible refine Has.below ?_ ?_); rotate_left; assumption)))); (· kernel_rfl)) | (refine store_at rfl 28 _ _ rfl _ _ rfl rfl ?_ 18 ?_ ?_ ?_ ?_; rotate_left; (· (repeat (first | (with_reducible assumption) | ((with_reducible refine Has.box _ _ ?_ ?_) <;> (first | assumption | decide)) | (with_reducible refine Has.alloc ?_ _) | ((with_reducible refine Has.putOther ?_ _ _ ?_); rotate_left; omega; skip) | ((with_reducible refine Has.below ?_ ?_); rotate_left; assumption)))); (· (first | assumption | rfl)); (· kernel_rfl)))
  exact bodyPost_ret (res_has rfl _ _ (w.heap.size + 1) vs 18 _ rfl S1.out Try.underlying28 rfl (by kernel_rfl)) rfl ⟨rfl, S2.out⟩

end Go.Proofs.Ytemiljokdedidac.base
