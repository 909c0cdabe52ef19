/-
  Arrays of six numbers: turned and indexed in a law, walked.
-/
/-
  Views: their parts loaded and stored, turned and compared in a law, walked.
-/
import Derived.Test.YtemiljokdedidacCount
import Derived.Test.YtemiljokdedidacVwMZ

section
namespace Go.Proofs.Ytemiljokdedidac.base
open Go.ChangeShapes Go.WideShapes Go.ChangeAt Go.RowKit
set_option linter.unusedVariables false
set_option linter.unusedSimpArgs false

/-- The first k of n numbers are f's, the others g's. -/
def mixV (n : Nat) (f g : Nat → Int) (k : Nat) : List Int := (List.range n).map (fun j => if j < k then f j else g j)
theorem mixV_len (n : Nat) (f g : Nat → Int) (k : Nat) : (mixV n f g k).length = n := by unfold mixV; simp
theorem mixV_getD (n : Nat) (f g : Nat → Int) (k j : Nat) (h : j < n) : (mixV n f g k).getD j 0 = if j < k then f j else g j := by
  unfold mixV
  rw [List.getD_eq_getElem?_getD, List.getElem?_map, List.getElem?_range h]; rfl
theorem mixV_set (n : Nat) (f g : Nat → Int) (k : Nat) : (mixV n f g k).set k (f k) = mixV n f g (k + 1) := by
  apply List.ext_getElem?
  intro j
  unfold mixV
  rw [List.getElem?_set]
  simp only [List.length_map, List.length_range]
  by_cases e : k = j
  · subst e
    rw [if_pos rfl]
    by_cases h : k < n
    · rw [if_pos h, List.getElem?_map, List.getElem?_range h]; simp
    · rw [if_neg h, List.getElem?_eq_none (by simp; omega)]
  · rw [if_neg e, List.getElem?_map, List.getElem?_map]
    by_cases h : j < n
    · rw [List.getElem?_range h]
      simp only [Option.map_some, Option.some.injEq]
      by_cases h2 : j < k
      · rw [if_pos h2, if_pos (by omega)]
      · rw [if_neg h2, if_neg (by omega)]
    · rw [List.getElem?_eq_none (by simp; omega)]; rfl
theorem list_rangeV {n : Nat} {ns : List Int} (h : ns.length = n) : (List.range n).map (fun j => ns.getD j 0) = ns := by
  apply List.ext_getElem?
  intro j
  rw [List.getElem?_map]
  by_cases hj : j < n
  · rw [List.getElem?_range hj, List.getElem?_eq_getElem (by omega)]
    show some (ns.getD j 0) = _
    rw [List.getD_eq_getElem?_getD, List.getElem?_eq_getElem (by omega)]; rfl
  · rw [List.getElem?_eq_none (by simp; omega), List.getElem?_eq_none (by omega)]; rfl
theorem mixV_0 (n : Nat) (f : Nat → Int) {ns : List Int} (h : ns.length = n) : mixV n f (fun j => ns.getD j 0) 0 = ns := by
  unfold mixV; simp only [Nat.not_lt_zero, if_false]; exact list_rangeV h
theorem mixV_all (n : Nat) (f g : Nat → Int) : mixV n f g n = (List.range n).map f := by
  unfold mixV
  apply List.map_congr_left
  intro j hj
  rw [if_pos (List.mem_range.1 hj)]
theorem mixV_copy {n : Nat} (g : Nat → Int) {ns : List Int} (h : ns.length = n) : mixV n (fun j => ns.getD j 0) g n = ns := by
  rw [mixV_all]; exact list_rangeV h

theorem index6v (T : TypeId) (hT : Try.prog.underlying T = some (.array 6 3)) (ns : List Int) (hn : ns.length = 6) (k : Nat) (hk : k < 6) (w : World) : (Instr.index T (.agg (ints ns).toArray) (.int .i64 (k : Nat))).run Try.prog w = .ok (.int .i64 (ns.getD k 0)) w :=
  run_index_int T 3 6 hT Try.underlying3 (fun w => by rw [Try.sizeOf3]) ns hn k hk w
theorem Has.asV {w : World} {b : Nat} {ns ms : List Int} {n : Nat} (h : Has w b ns n) (e : ns = ms) : Has w b ms n := e ▸ h

set_option maxHeartbeats 400000 in
theorem toIntA6v (ns : List Int) (w : World) (h6 : ns.length = 6) :
    Calls Try.prog 35 #[row ns] w fun e w' => e = .returned (row ns) ∧ Kept w w' := by
  have HB := Lib.hid ((((kept_refl w).alloc (.cells (ints ns).toArray 22)).alloc (.cells #[.int .i64 0, .int .i64 0, .int .i64 0, .int .i64 0, .int .i64 0, .int .i64 0] 22)).alloc (.cells #[.int .i64 0, .int .i64 0, .int .i64 0, .int .i64 0, .int .i64 0, .int .i64 0] 22))
  have H := ((Has.box w 22 h6 (by omega)).alloc (.cells #[.int .i64 0, .int .i64 0, .int .i64 0, .int .i64 0, .int .i64 0, .int .i64 0] 22)).alloc (.cells #[.int .i64 0, .int .i64 0, .int .i64 0, .int .i64 0, .int .i64 0, .int .i64 0] 22)
  have Z := ((Has.zero6 (w.alloc (.cells (ints ns).toArray 22)) 22).at (size1 _ _)).alloc (.cells #[.int .i64 0, .int .i64 0, .int .i64 0, .int .i64 0, .int .i64 0, .int .i64 0] 22)
  have Y := ((Has.zero6 ((w.alloc (.cells (ints ns).toArray 22)).alloc (.cells #[.int .i64 0, .int .i64 0, .int .i64 0, .int .i64 0, .int .i64 0, .int .i64 0] 22)) 22).at (c := w.heap.size + 1 + 1) (by simp)).asV (mixV_0 6 (fun j => ns.getD j 0) (ns := z6) rfl).symm
  rw [row_ints]
  go_enter Try.func35, Try.ntmps35
  go_wp2_with fail
  have HL := Lib.hid h6
  clear h6
  generalize (((w.alloc (.cells (ints ns).toArray 22)).alloc (.cells #[.int .i64 0, .int .i64 0, .int .i64 0, .int .i64 0, .int .i64 0, .int .i64 0] 22)).alloc (.cells #[.int .i64 0, .int .i64 0, .int .i64 0, .int .i64 0, .int .i64 0, .int .i64 0] 22)) = W at *
  go_loopw [4] (fun z wr => ∃ k : Nat, k ≤ 6 ∧ z = .int .i64 k ∧ Has wr w.heap.size ns 6 ∧ Has wr (w.heap.size + 1) z6 6 ∧ Has wr (w.heap.size + 1 + 1) (mixV 6 (fun j => ns.getD j 0) (fun j => z6.getD j 0) k) 6 ∧ Hid (Kept w wr)) (fun z _ => 6 - (intOf z).toNat)
  case atStart => exact ⟨0, by omega, rfl, H, Z, Y, HB⟩
  case round =>
    obtain ⟨k, hk, rfl, GH, GZ, GY, GB⟩ := hrel
    by_cases h : k < 6
    · have c1 := GH.cell k h
      have f1 := GY.free k h
      have c2 := GY.cell k h
      have hki : (k : Int) < 6 := by omega
      have S0 := GY.set k (ns.getD k 0) h
      have S1 := Lib.hid (S0.asV (mixV_set 6 (fun j => ns.getD j 0) (fun j => z6.getD j 0) k))
      have S2 := Lib.hid (GH.setOther (b' := w.heap.size + 1 + 1) k (.int .i64 (ns.getD k 0)) (by omega))
      have S3 := Lib.hid (GZ.setOther (b' := w.heap.size + 1 + 1) k (.int .i64 (ns.getD k 0)) (by omega))
      have S4 := Lib.hid (GB.out.set (b := w.heap.size + 1 + 1) (by omega) k (.int .i64 (ns.getD k 0)))
      clear S0 GY GH GZ GB
      generalize ns.getD k 0 = x at *
      go_wp2_with fail
      go_roundw
      case rel => exact ⟨k + 1, by omega, by go_num, S2.out, S3.out, S1.out, S4⟩
      case measure => simp [intOf]; omega
    · obtain rfl : k = 6 := by omega
      have GY2 := GY.asV (mixV_copy (fun j => z6.getD j 0) HL.out)
      have hl := HL.out
      have S1 := Lib.hid (GZ.putAll ns hl)
      have S2 := Lib.hid (GB.out.puts (b := w.heap.size + 1) (by omega) 0 (ints ns))
      clear GY
      go_wp2_with (first | (refine load_has rfl 22 _ rfl _ rfl ?_ 6 ?_ _ Try.underlying22 rfl ?_ ?_; rotate_left; (· (repeat (first | (with_reducible assumption) | ((with_reducible refine Has.box _ _ ?_ ?_) <;> (first | assumption | decide)) | (with_reducible refine Has.alloc ?_ _) | ((with_reducible refine Has.putOther ?_ _ _ ?_); rotate_left; omega; skip) | ((with_reducible refine Has.below ?_ ?_); rotate_left; assumption)))); (· kernel_rfl)) | (refine store_at rfl 22 _ _ rfl _ _ rfl rfl ?_ 6 ?_ ?_ ?_ ?_; rotate_left; (· (repeat (first | (with_reducible assumption) | ((with_reducible refine Has.box _ _ ?_ ?_) <;> (first | assumption | decide)) | (with_reducible refine Has.alloc ?_ _) | ((with_reducible refine Has.putOther ?_ _ _ ?_); rotate_left; omega; skip) | ((with_reducible refine Has.below ?_ ?_); rotate_left; assumption)))); (· (first | assumption | rfl)); (· kernel_rfl)))
      exact bodyPost_ret (res_has rfl _ _ (w.heap.size + 1) ns 6 _ rfl S1.out Try.underlying22 rfl (by kernel_rfl)) rfl ⟨rfl, S2.out⟩

end Go.Proofs.Ytemiljokdedidac.base
end

section
namespace Go.Proofs.Ytemiljokdedidac.base
open Go.ChangeShapes Go.WideShapes Go.ChangeAt Go.RowKit
set_option linter.unusedVariables false
set_option linter.unusedSimpArgs false

def z18 : List Int := [0, 0, 0, 0, 0, 0, 0, 0, 0, 0, 0, 0, 0, 0, 0, 0, 0, 0]
def setPrt (vs : List Int) (k : Nat) (t : List Int) : List Int := vs.take (k * 6) ++ t ++ vs.drop (k * 6 + 6)
theorem setPrt_len (vs : List Int) (k : Nat) (t : List Int) (h : vs.length = 18) (hk : k < 3) (ht : t.length = 6) : (setPrt vs k t).length = 18 := by
  unfold setPrt; simp; omega
theorem setPrt_all (zs vs : List Int) (hz : zs.length = 18) (h : vs.length = 18) : setPrt (setPrt (setPrt zs 0 (prt vs 0)) 1 (prt vs 1)) 2 (prt vs 2) = vs := by
  have l0 := prt_len vs 0 h (by omega)
  have l1 := prt_len vs 1 h (by omega)
  have l2 := prt_len vs 2 h (by omega)
  have e : prt vs 0 ++ prt vs 1 ++ prt vs 2 = vs := by
    unfold prt
    rw [List.take_of_length_le (l := vs.drop (2 * 6)) (by rw [List.length_drop]; omega)]
    simp only [Nat.zero_mul, List.drop_zero, Nat.one_mul]
    have e2 : vs.drop (2 * 6) = (vs.drop 6).drop 6 := by rw [List.drop_drop]
    rw [e2, List.append_assoc, List.take_append_drop, List.take_append_drop]
  have a0 : setPrt zs 0 (prt vs 0) = prt vs 0 ++ zs.drop 6 := by unfold setPrt; simp
  have a1 : setPrt (prt vs 0 ++ zs.drop 6) 1 (prt vs 1) = prt vs 0 ++ prt vs 1 ++ zs.drop 12 := by
    unfold setPrt
    rw [Nat.one_mul, List.take_append_of_le_length (by omega), List.take_of_length_le (by omega), List.drop_append, List.drop_of_length_le (by omega), List.nil_append, l0, List.drop_drop]
  have a2 : setPrt (prt vs 0 ++ prt vs 1 ++ zs.drop 12) 2 (prt vs 2) = prt vs 0 ++ prt vs 1 ++ prt vs 2 := by
    unfold setPrt
    rw [List.take_append_of_le_length (by simp; omega), List.take_of_length_le (by simp; omega), List.drop_append, List.drop_of_length_le (l := prt vs 0 ++ prt vs 1) (by simp; omega), List.drop_of_length_le (by simp; omega)]
    simp
  rw [a0, a1, a2, e]
theorem Has.zero18 (w : World) (T : TypeId) : Has (w.alloc (.cells #[.int .i64 0, .int .i64 0, .int .i64 0, .int .i64 0, .int .i64 0, .int .i64 0, .int .i64 0, .int .i64 0, .int .i64 0, .int .i64 0, .int .i64 0, .int .i64 0, .int .i64 0, .int .i64 0, .int .i64 0, .int .i64 0, .int .i64 0, .int .i64 0] T)) w.heap.size z18 18 := Has.box (ns := z18) w T rfl (by decide)
theorem buildView (w : World) : (Instr.build 28 #[]).run Try.prog w = .ok (.agg (ints z18).toArray) w := by kernel_rfl
theorem Has.putPrt {w : World} {b : Nat} {vs : List Int} (h : Has w b vs 18) (k : Nat) (hk : k < 3) (t : List Int) (ht : t.length = 6) : Has (w.setCells b (k * 6) (ints t)) b (setPrt vs k t) 18 := by
  have := h.holds.putInts (k * 6) t (by rw [h.len]; omega)
  rw [ht] at this
  exact ⟨this, setPrt_len vs k t h.len hk ht, by omega⟩
theorem Has.vCell {w : World} {b : Nat} {vs : List Int} (h : Has w b vs 18) (k i : Nat) (hk : k < 3) (hi : i < 6) : w.cell? ⟨b, k * 6 + i, none⟩ = some (.int .i64 ((prt vs k).getD i 0)) := by
  rw [prt_getD vs k i hi]; exact h.cell _ (by omega)
section
variable {P : Program} {ops : Array Oper} {rest : List Oper} {op : Oper} {a : Act} {w : World} {Q : Exit → Act → World → Prop}
/-- A part is loaded out of a view. -/
theorem load_prt (hw : Region.wanted op (yielded ops a.tmps) = true) (T : TypeId) (x : Operand) (ho : op.op = .load T x) (b k o : Nat) (hx : a.eval x = .pointer (some ⟨b, o, none⟩)) (hko : o = k * 6) (vs : List Int) (H : Has w b vs 18) (hk : k < 3)
    (d : TypeDesc) (hu : P.underlying T = some d) (hd : d.isRow = true) (hi : (P.info? T).map (·.size) = some 6)
    (h : wpList P ops Q rest (a.put op.dst (.agg (ints (prt vs k)).toArray)) w) : wpList P ops Q (op :: rest) a w := by
  subst hko
  exact wpList_wanted hw fun _ hK => wp_load_mid T x ho b (k * 6) hx (ints (prt vs k)) d (H.holds.sub (k * 6) 6) hu hd (by rw [ints_len, prt_len vs k H.len hk]; exact hi) (hK _ _ h)
end

set_option maxHeartbeats 400000 in
theorem toView_any (vs : List Int) (w : World) (h : vs.length = 18) :
    Calls Try.prog 11 #[row vs] w fun e w' => e = .returned (row vs) ∧ Kept w w' := by
  have H := ((Has.box w 24 h (by omega)).alloc (.cells (ints z18).toArray 28)).alloc (.cells (ints z18).toArray 28)
  have Z := ((Has.box (w.alloc (.cells (ints vs).toArray 24)) 28 (ns := z18) (n := 18) rfl (by decide)).at (size1 _ _)).alloc (.cells (ints z18).toArray 28)
  have Y := (Has.box ((w.alloc (.cells (ints vs).toArray 24)).alloc (.cells (ints z18).toArray 28)) 28 (ns := z18) (n := 18) rfl (by decide)).at (c := w.heap.size + 1 + 1) (by simp)
  have HB := Lib.hid ((((kept_refl w).alloc (.cells (ints vs).toArray 24)).alloc (.cells (ints z18).toArray 28)).alloc (.cells (ints z18).toArray 28))
  have l0 := prt_len vs 0 h (by omega)
  have l1 := prt_len vs 1 h (by omega)
  have l2 := prt_len vs 2 h (by omega)
  have EA := Lib.hid (setPrt_all z18 vs rfl h)
  rw [row_ints]
  go_enter Try.func11, Try.ntmps11
  go_wp2_with (refine load_prt rfl 22 _ rfl _ (0) _ rfl ?_ ?_ ?_ ?_ _ Try.underlying22 rfl ?_ ?_; (· (first | rfl | omega)); rotate_left; (· (repeat (first | (with_reducible assumption) | ((with_reducible refine Has.box _ _ ?_ ?_) <;> (first | assumption | decide)) | (with_reducible refine Has.alloc ?_ _) | ((with_reducible refine Has.putOther ?_ _ _ ?_); rotate_left; omega; skip) | ((with_reducible refine Has.below ?_ ?_); rotate_left; assumption)))); (· omega); (· kernel_rfl))
  refine (toIntA6v (prt vs 0) _ l0).mono ?_
  rintro e w1 ⟨rfl, b1⟩
  have H1 := H.below b1
  have Z1 := Z.below b1
  have Y1 := Y.below b1
  have HB1 := Lib.hid (HB.out.call b1)
  have T1 := Lib.hid (Y1.holds.thereSub (0 * 6) 6 (by rw [ints_len]; decide))
  have Y2 := Y1.putPrt 0 (by omega) (prt vs 0) l0
  have H2 := H1.putOther (b' := w.heap.size + 1 + 1) (0 * 6) (ints (prt vs 0)) (by omega)
  have Z2 := Z1.putOther (b' := w.heap.size + 1 + 1) (0 * 6) (ints (prt vs 0)) (by omega)
  have HB2 := Lib.hid (HB1.out.puts (b := w.heap.size + 1 + 1) (by omega) (0 * 6) (ints (prt vs 0)))
  simp only [Nat.zero_mul] at T1 Y2 H2 Z2 HB2
  clear H Z Y HB b1 H1 Z1 Y1 HB1
  go_wp2_with (first | (refine store_has rfl 22 _ _ rfl (w.heap.size + 1 + 1) 0 (prt vs 0) rfl rfl 6 l0 T1.out ?_ ?_; (· kernel_rfl)) | (refine load_prt rfl 22 _ rfl _ (1) _ rfl ?_ ?_ ?_ ?_ _ Try.underlying22 rfl ?_ ?_; (· (first | rfl | omega)); rotate_left; (· (repeat (first | (with_reducible assumption) | ((with_reducible refine Has.box _ _ ?_ ?_) <;> (first | assumption | decide)) | (with_reducible refine Has.alloc ?_ _) | ((with_reducible refine Has.putOther ?_ _ _ ?_); rotate_left; omega; skip) | ((with_reducible refine Has.below ?_ ?_); rotate_left; assumption)))); (· omega); (· kernel_rfl)))
  refine (toIntA6v (prt vs 1) _ l1).mono ?_
  rintro e w3 ⟨rfl, b3⟩
  have H3 := H2.below b3
  have Z3 := Z2.below b3
  have Y3 := Y2.below b3
  have HB3 := Lib.hid (HB2.out.call b3)
  have T3 := Lib.hid (Y3.holds.thereSub (1 * 6) 6 (by rw [ints_len, Y3.len]; decide))
  have Y4 := Y3.putPrt 1 (by omega) (prt vs 1) l1
  have H4 := H3.putOther (b' := w.heap.size + 1 + 1) (1 * 6) (ints (prt vs 1)) (by omega)
  have Z4 := Z3.putOther (b' := w.heap.size + 1 + 1) (1 * 6) (ints (prt vs 1)) (by omega)
  have HB4 := Lib.hid (HB3.out.puts (b := w.heap.size + 1 + 1) (by omega) (1 * 6) (ints (prt vs 1)))
  simp only [Nat.one_mul] at T3 Y4 H4 Z4 HB4
  clear H2 Z2 Y2 HB2 T1 b3 H3 Z3 Y3 HB3
  go_wp2_with (first | (refine store_has rfl 22 _ _ rfl (w.heap.size + 1 + 1) 6 (prt vs 1) rfl rfl 6 l1 T3.out ?_ ?_; (· kernel_rfl)) | (refine load_prt rfl 22 _ rfl _ (2) _ rfl ?_ ?_ ?_ ?_ _ Try.underlying22 rfl ?_ ?_; (· (first | rfl | omega)); rotate_left; (· (repeat (first | (with_reducible assumption) | ((with_reducible refine Has.box _ _ ?_ ?_) <;> (first | assumption | decide)) | (with_reducible refine Has.alloc ?_ _) | ((with_reducible refine Has.putOther ?_ _ _ ?_); rotate_left; omega; skip) | ((with_reducible refine Has.below ?_ ?_); rotate_left; assumption)))); (· omega); (· kernel_rfl)))
  refine (toIntA6v (prt vs 2) _ l2).mono ?_
  rintro e w5 ⟨rfl, b5⟩
  have Z5 := Z4.below b5
  have Y5 := Y4.below b5
  have HB5 := Lib.hid (HB4.out.call b5)
  have T5 := Lib.hid (Y5.holds.thereSub (2 * 6) 6 (by rw [ints_len, Y5.len]; decide))
  have Y6 := Y5.putPrt 2 (by omega) (prt vs 2) l2
  have Z6 := Z5.putOther (b' := w.heap.size + 1 + 1) (2 * 6) (ints (prt vs 2)) (by omega)
  have HB6 := Lib.hid (HB5.out.puts (b := w.heap.size + 1 + 1) (by omega) (2 * 6) (ints (prt vs 2)))
  rw [EA.out] at Y6
  simp only [Nat.reduceMul] at T5 Y6 Z6 HB6
  have S1 := Lib.hid (Z6.putAll vs h)
  have S2 := Lib.hid (HB6.out.puts (b := w.heap.size + 1) (by omega) 0 (ints vs))
  clear H4 Z4 Y4 HB4 T3 b5 Z5 Y5 HB5 HB6
  go_wp2_with (first | (refine store_has rfl 22 _ _ rfl (w.heap.size + 1 + 1) 12 (prt vs 2) rfl rfl 6 l2 T5.out ?_ ?_; (· kernel_rfl)) | (refine load_has rfl 28 _ rfl _ rfl ?_ 18 ?_ _ Try.underlying28 rfl ?_ ?_; rotate_left; (· (repeat (first | (with_reducible assumption) | ((with_reducible refine Has.box _ _ ?_ ?_) <;> (first | assumption | decide)) | (with_reducible refine Has.alloc ?_ _) | ((with_reducible refine Has.putOther ?_ _ _ ?_); rotate_left; omega; skip) | ((with_reducible refine Has.below ?_ ?_); rotate_left; assumption)))); (· kernel_rfl)) | (refine store_at rfl 28 _ _ rfl _ _ rfl rfl ?_ 18 ?_ ?_ ?_ ?_; rotate_left; (· (repeat (first | (with_reducible assumption) | ((with_reducible refine Has.box _ _ ?_ ?_) <;> (first | assumption | decide)) | (with_reducible refine Has.alloc ?_ _) | ((with_reducible refine Has.putOther ?_ _ _ ?_); rotate_left; omega; skip) | ((with_reducible refine Has.below ?_ ?_); rotate_left; assumption)))); (· (first | assumption | rfl)); (· kernel_rfl)))
  exact bodyPost_ret (res_has rfl _ _ (w.heap.size + 1) vs 18 _ rfl S1.out Try.underlying28 rfl (by kernel_rfl)) rfl ⟨rfl, S2.out⟩

end Go.Proofs.Ytemiljokdedidac.base
end
