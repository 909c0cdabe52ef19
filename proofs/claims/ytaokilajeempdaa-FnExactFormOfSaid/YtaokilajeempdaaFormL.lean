/-
  FormOf of the program, walked, and its exact law.
-/
import Derived.Test.YtaokilajeempdaaFormI
namespace Go.Proofs.Ytaokilajeempdaa.base
open Go.ChangeShapes Go.WideShapes Go.ChangeAt Go.RowKit
set_option linter.unusedVariables false
set_option linter.unusedSimpArgs false

theorem list24 {ns : List Int} (h : ns.length = 24) : ∃ a0 a1 a2 a3 a4 a5 a6 a7 a8 a9 a10 a11 a12 a13 a14 a15 a16 a17 a18 a19 a20 a21 a22 a23, ns = [a0, a1, a2, a3, a4, a5, a6, a7, a8, a9, a10, a11, a12, a13, a14, a15, a16, a17, a18, a19, a20, a21, a22, a23] := by
  match ns, h with
  | [a0, a1, a2, a3, a4, a5, a6, a7, a8, a9, a10, a11, a12, a13, a14, a15, a16, a17, a18, a19, a20, a21, a22, a23], _ => exact ⟨a0, a1, a2, a3, a4, a5, a6, a7, a8, a9, a10, a11, a12, a13, a14, a15, a16, a17, a18, a19, a20, a21, a22, a23, rfl⟩
set_option maxRecDepth 100000 in
theorem buildRackOf (ns : List Int) (h : ns.length = 24) (w : World) : (Instr.build 28 #[(0, .agg (ints ns).toArray)]).run Try.prog w = .ok (.agg (ints ns).toArray) w := by
  obtain ⟨a0, a1, a2, a3, a4, a5, a6, a7, a8, a9, a10, a11, a12, a13, a14, a15, a16, a17, a18, a19, a20, a21, a22, a23, rfl⟩ := list24 h
  exact run_build w _ _ _ (by kernel_rfl)
section
variable {P : Program} {ops : Array Oper} {rest : List Oper} {op : Oper} {a : Act} {w : World} {Q : Exit → Act → World → Prop}
theorem build_law1 (hw : Region.wanted op (yielded ops a.tmps) = true) (T : TypeId) (x : Operand) (ho : op.op = .build T #[(0, x)]) (u v : Value) (hx : a.eval x = u)
    (hq : ∀ w, (Instr.build T #[(0, u)]).run P w = .ok v w)
    (h : wpList P ops Q rest (a.put op.dst v) w) : wpList P ops Q (op :: rest) a w :=
  wpList_wanted hw fun _ hK => by
    unfold Oper.wp execOp
    simp only [ho, hx, Sem.run_bind, List.map_toArray, List.map_cons, List.map_nil, hq, Result.andThen_ok, Sem.run_pure]
    exact hK _ _ h
end

set_option maxHeartbeats 800000 in
theorem formRack_any (ns : List Int) (w : World) (h24 : ns.length = 24) :
    Calls Try.prog 43 #[.agg (ints ns).toArray] w fun e w' => e = .returned (.agg (ints ns).toArray) ∧ Kept w w' := by
  have HB := Lib.hid (((kept_refl w).alloc (.cells (ints ns).toArray 64)).alloc (.cells #[.int .i64 0, .int .i64 0, .int .i64 0, .int .i64 0, .int .i64 0, .int .i64 0, .int .i64 0, .int .i64 0, .int .i64 0, .int .i64 0, .int .i64 0, .int .i64 0, .int .i64 0, .int .i64 0, .int .i64 0, .int .i64 0, .int .i64 0, .int .i64 0, .int .i64 0, .int .i64 0, .int .i64 0, .int .i64 0, .int .i64 0, .int .i64 0] 28))
  have H := (Has.box w 64 h24 (by omega)).alloc (.cells #[.int .i64 0, .int .i64 0, .int .i64 0, .int .i64 0, .int .i64 0, .int .i64 0, .int .i64 0, .int .i64 0, .int .i64 0, .int .i64 0, .int .i64 0, .int .i64 0, .int .i64 0, .int .i64 0, .int .i64 0, .int .i64 0, .int .i64 0, .int .i64 0, .int .i64 0, .int .i64 0, .int .i64 0, .int .i64 0, .int .i64 0, .int .i64 0] 28)
  have Z := (Has.zero24 (w.alloc (.cells (ints ns).toArray 64)) 28).at (size1 _ _)
  have hz : z24.length = 24 := rfl
  have S1 := Lib.hid (Z.putAll ns h24)
  have S2 := Lib.hid (HB.out.puts (b := w.heap.size + 1) (by omega) 0 (ints ns))
  go_enter Try.func43, Try.ntmps43
  go_wp2_with (first | (refine load_has rfl 64 _ rfl _ rfl ?_ 24 ?_ _ Try.underlying64 rfl ?_ ?_; rotate_left; (· (repeat (first | (with_reducible assumption) | ((with_reducible refine Has.box _ _ ?_ ?_) <;> (first | assumption | decide)) | (with_reducible refine Has.alloc ?_ _) | ((with_reducible refine Has.putOther ?_ _ _ ?_); rotate_left; omega; skip) | ((with_reducible refine Has.below ?_ ?_); rotate_left; assumption)))); (· kernel_rfl)) | (refine build_law1 rfl 28 _ rfl (.agg (ints ns).toArray) (.agg (ints ns).toArray) rfl (buildRackOf ns h24) ?_) | (refine store_at rfl 28 _ _ rfl _ _ rfl rfl ?_ 24 ?_ ?_ ?_ ?_; rotate_left; (· (repeat (first | (with_reducible assumption) | ((with_reducible refine Has.box _ _ ?_ ?_) <;> (first | assumption | decide)) | (with_reducible refine Has.alloc ?_ _) | ((with_reducible refine Has.putOther ?_ _ _ ?_); rotate_left; omega; skip) | ((with_reducible refine Has.below ?_ ?_); rotate_left; assumption)))); (· (first | assumption | rfl)); (· kernel_rfl)))
  exact bodyPost_ret (res_has (P := Try.prog) rfl _ _ (w.heap.size + 1) ns 24 _ rfl S1.out Try.underlying28 rfl (by kernel_rfl)) rfl ⟨rfl, S2.out⟩

set_option maxHeartbeats 800000 in
theorem implForm (ns : List Int) (w : World) (h24 : ns.length = 24) :
    Calls Try.prog 22 #[row ns] w fun e w' => e = .returned (.tuple #[.agg (ints (formA ns)).toArray, .bool (vR ns)]) ∧ Kept w w' := by
  have HB := Lib.hid (((kept_refl w).alloc (.cells (ints ns).toArray 28)).alloc (.cells #[.int .i64 0, .int .i64 0, .int .i64 0, .int .i64 0, .int .i64 0, .int .i64 0, .int .i64 0, .int .i64 0, .int .i64 0, .int .i64 0, .int .i64 0, .int .i64 0, .int .i64 0, .int .i64 0, .int .i64 0, .int .i64 0, .int .i64 0, .int .i64 0, .int .i64 0, .int .i64 0, .int .i64 0, .int .i64 0, .int .i64 0, .int .i64 0] 28))
  have H := (Has.box w 28 h24 (by omega)).alloc (.cells #[.int .i64 0, .int .i64 0, .int .i64 0, .int .i64 0, .int .i64 0, .int .i64 0, .int .i64 0, .int .i64 0, .int .i64 0, .int .i64 0, .int .i64 0, .int .i64 0, .int .i64 0, .int .i64 0, .int .i64 0, .int .i64 0, .int .i64 0, .int .i64 0, .int .i64 0, .int .i64 0, .int .i64 0, .int .i64 0, .int .i64 0, .int .i64 0] 28)
  have Z := (Has.zero24 (w.alloc (.cells (ints ns).toArray 28)) 28).at (size1 _ _)
  have hz : z24.length = 24 := rfl
  rw [row_ints]
  go_enter Try.func22, Try.ntmps22
  go_wp2_with (refine load_has rfl 28 _ rfl _ rfl ?_ 24 ?_ _ Try.underlying28 rfl ?_ ?_; rotate_left; (· (repeat (first | (with_reducible assumption) | ((with_reducible refine Has.box _ _ ?_ ?_) <;> (first | assumption | decide)) | (with_reducible refine Has.alloc ?_ _) | ((with_reducible refine Has.putOther ?_ _ _ ?_); rotate_left; omega; skip) | ((with_reducible refine Has.below ?_ ?_); rotate_left; assumption)))); (· kernel_rfl))
  refine (isRack_any ns _ h24).mono ?_
  rintro e w1 ⟨rfl, b1⟩
  have H1 := H.below b1
  have Z1 := Z.below b1
  have HB1 := Lib.hid (HB.out.call b1)
  clear H Z HB b1
  by_cases hv : vR ns = true
  · rw [hv]
    have FA := Lib.hid (show formA ns = formL ns by unfold formA; rw [if_pos hv])
    have HV := Lib.hid hv
    clear hv
    go_wp2_with (refine load_has rfl 28 _ rfl _ rfl ?_ 24 ?_ _ Try.underlying28 rfl ?_ ?_; rotate_left; (· (repeat (first | (with_reducible assumption) | ((with_reducible refine Has.box _ _ ?_ ?_) <;> (first | assumption | decide)) | (with_reducible refine Has.alloc ?_ _) | ((with_reducible refine Has.putOther ?_ _ _ ?_); rotate_left; omega; skip) | ((with_reducible refine Has.below ?_ ?_); rotate_left; assumption)))); (· kernel_rfl))
    refine (formOf_any ns _ h24).mono ?_
    rintro e w2 ⟨rfl, b2⟩
    have Z2 := Z1.below b2
    have hl := formL_len ns h24
    have HB2 := Lib.hid (HB1.out.call b2)
    clear b2 H1 Z1 HB1
    go_wp2_with fail
    refine (formRack_any (formL ns) _ hl).mono ?_
    rintro e w3 ⟨rfl, b3⟩
    have Z3 := Z2.below b3
    have S1 := Lib.hid (Z3.putAll (formL ns) hl)
    have S2 := Lib.hid ((HB2.out.call b3).puts (b := w.heap.size + 1) (by omega) 0 (ints (formL ns)))
    clear b3 HB2 Z2
    go_wp2_with (first | (refine load_has rfl 28 _ rfl _ rfl ?_ 24 ?_ _ Try.underlying28 rfl ?_ ?_; rotate_left; (· (repeat (first | (with_reducible assumption) | ((with_reducible refine Has.box _ _ ?_ ?_) <;> (first | assumption | decide)) | (with_reducible refine Has.alloc ?_ _) | ((with_reducible refine Has.putOther ?_ _ _ ?_); rotate_left; omega; skip) | ((with_reducible refine Has.below ?_ ?_); rotate_left; assumption)))); (· kernel_rfl)) | (refine store_at rfl 28 _ _ rfl _ _ rfl rfl ?_ 24 ?_ ?_ ?_ ?_; rotate_left; (· (repeat (first | (with_reducible assumption) | ((with_reducible refine Has.box _ _ ?_ ?_) <;> (first | assumption | decide)) | (with_reducible refine Has.alloc ?_ _) | ((with_reducible refine Has.putOther ?_ _ _ ?_); rotate_left; omega; skip) | ((with_reducible refine Has.below ?_ ?_); rotate_left; assumption)))); (· (first | assumption | rfl)); (· kernel_rfl)))
    exact bodyPost_ret (res_has1 rfl _ _ (w.heap.size + 1) (formL ns) 24 _ (.bool true) rfl rfl S1.out Try.underlying28 rfl (by kernel_rfl)) rfl ⟨by rw [FA.out, HV.out], S2.out⟩
  · have hf : vR ns = false := by simpa using hv
    have FA := Lib.hid (show formA ns = z24 by unfold formA; rw [if_neg hv])
    have HV := Lib.hid hf
    rw [hf]
    have S1 := Lib.hid (Z1.putAll z24 rfl)
    have S2 := Lib.hid (HB1.out.puts (b := w.heap.size + 1) (by omega) 0 (ints z24))
    clear hf hv
    go_wp2_with (first | (refine build_law rfl 28 rfl _ buildRack ?_) | (refine store_at rfl 28 _ _ rfl _ _ rfl rfl ?_ 24 ?_ ?_ ?_ ?_; rotate_left; (· (repeat (first | (with_reducible assumption) | ((with_reducible refine Has.box _ _ ?_ ?_) <;> (first | assumption | decide)) | (with_reducible refine Has.alloc ?_ _) | ((with_reducible refine Has.putOther ?_ _ _ ?_); rotate_left; omega; skip) | ((with_reducible refine Has.below ?_ ?_); rotate_left; assumption)))); (· (first | assumption | rfl)); (· kernel_rfl)))
    exact bodyPost_ret (res_has1 rfl _ _ (w.heap.size + 1) z24 24 _ (.bool false) rfl rfl S1.out Try.underlying28 rfl (by kernel_rfl)) rfl ⟨by rw [FA.out, HV.out], S2.out⟩

set_option maxHeartbeats 400000 in
theorem lawFormOf (ns : List Int) (w : World) (h0 : ns.length = 24 ∧ ∀ n ∈ ns, (Lit.int .i64 n).wf = true) :
    Calls Try.prog 7 #[row ns] w fun e w' => e = .returned (.bool true) ∧ Kept w w' := by
  have h24 := h0.1
  clear h0
  have hl : (formA ns).length = 24 := formA_len h24
  have HB := Lib.hid ((kept_refl w).alloc (.cells (ints ns).toArray 25))
  have H := Has.box w 25 h24 (by omega)
  rw [row_ints]
  go_enter Try.func7, Try.ntmps7
  go_wp2_with (refine load_has rfl 25 _ rfl _ rfl ?_ 24 ?_ _ Try.underlying25 rfl ?_ ?_; rotate_left; (· (repeat (first | (with_reducible assumption) | ((with_reducible refine Has.box _ _ ?_ ?_) <;> (first | assumption | decide)) | (with_reducible refine Has.alloc ?_ _) | ((with_reducible refine Has.putOther ?_ _ _ ?_); rotate_left; omega; skip) | ((with_reducible refine Has.below ?_ ?_); rotate_left; assumption)))); (· kernel_rfl))
  refine (toRack_any ns _ h24).mono ?_
  rintro e w1 ⟨rfl, b1⟩
  have H1 := H.below b1
  have HB1 := Lib.hid (HB.out.call b1)
  clear H HB b1
  go_wp2_with fail
  refine (specForm ns _ h24).mono ?_
  rintro e w2 ⟨rfl, b2⟩
  have H2 := (H1.below b2).alloc (.cells (ints (formA ns)).toArray 28)
  have R2 := Has.box w2 28 hl (by omega)
  have HB2 := Lib.hid ((HB1.out.call b2).alloc (.cells (ints (formA ns)).toArray 28))
  clear H1 HB1 b2
  go_wp2_with (first | (refine store_new rfl 28 _ _ rfl _ _ _ rfl _ rfl _ rfl rfl ?_ ?_ ?_; (· (first | assumption | rfl)); (· kernel_rfl)) | (refine load_has rfl 25 _ rfl _ rfl ?_ 24 ?_ _ Try.underlying25 rfl ?_ ?_; rotate_left; (· (repeat (first | (with_reducible assumption) | ((with_reducible refine Has.box _ _ ?_ ?_) <;> (first | assumption | decide)) | (with_reducible refine Has.alloc ?_ _) | ((with_reducible refine Has.putOther ?_ _ _ ?_); rotate_left; omega; skip) | ((with_reducible refine Has.below ?_ ?_); rotate_left; assumption)))); (· kernel_rfl)))
  refine (toRack_any ns _ h24).mono ?_
  rintro e w3 ⟨rfl, b3⟩
  have R3 := R2.below b3
  have HB3 := Lib.hid (HB2.out.call b3)
  clear H2 R2 HB2 b3
  go_wp2_with fail
  refine (implForm ns _ h24).mono ?_
  rintro e w4 ⟨rfl, b4⟩
  have R4 := (R3.below b4).alloc (.cells (ints (formA ns)).toArray 28)
  have Q4 := Has.box w4 28 hl (by omega)
  have HB4 := Lib.hid ((HB3.out.call b4).alloc (.cells (ints (formA ns)).toArray 28))
  clear R3 HB3 b4
  go_wp2_with (first | (refine store_new rfl 28 _ _ rfl _ _ _ rfl _ rfl _ rfl rfl ?_ ?_ ?_; (· (first | assumption | rfl)); (· kernel_rfl)) | (refine load_has rfl 28 _ rfl _ rfl ?_ 24 ?_ _ Try.underlying28 rfl ?_ ?_; rotate_left; (· (repeat (first | (with_reducible assumption) | ((with_reducible refine Has.box _ _ ?_ ?_) <;> (first | assumption | decide)) | (with_reducible refine Has.alloc ?_ _) | ((with_reducible refine Has.putOther ?_ _ _ ?_); rotate_left; omega; skip) | ((with_reducible refine Has.below ?_ ?_); rotate_left; assumption)))); (· kernel_rfl)))
  refine (eqRack_same (formA ns) _ hl).mono ?_
  rintro e w5 ⟨rfl, b5⟩
  have HB5 := Lib.hid (HB4.out.call b5)
  clear R4 Q4 HB4 b5
  go_wp2_with fail
  go_ret
  exact ⟨rfl, HB5.out⟩

end Go.Proofs.Ytaokilajeempdaa.base
