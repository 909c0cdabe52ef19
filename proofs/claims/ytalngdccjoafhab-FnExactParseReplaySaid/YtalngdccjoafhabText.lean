/-
  The text of a rack: plain mathematics, and both sides walked.
-/
import Derived.Test.YtalngdccjoafhabSwapZ
import Derived.Test.YtalngdccjoafhabJoin
import Derived.Lib.ConvBytes
namespace Go.Proofs.Ytalngdccjoafhab.base
open Go.ChangeShapes Go.WideShapes Go.ChangeAt Go.RowKit
set_option linter.unusedVariables false
set_option linter.unusedSimpArgs false

/-- The sign of a layer. -/
def chr (z : Int) : UInt8 := if z = 0 then 46 else UInt8.ofNat (96 + z.toNat)
def tubB (t : List Int) : List UInt8 := t.map chr
def sepB (i : Nat) : List UInt8 := if 0 < i then [47] else []
def preT (ns : List Int) : Nat → List UInt8
  | 0 => []
  | i + 1 => preT ns i ++ sepB i ++ tubB (tub ns i)
/-- The text of a rack. -/
def textL (ns : List Int) : List UInt8 := preT ns 6
def textA (ns : List Int) : List UInt8 := if vR ns = true then textL ns else []
theorem tubB_len (t : List Int) : (tubB t).length = t.length := List.length_map _
theorem sepB_len (i : Nat) : (sepB i).length ≤ 1 := by unfold sepB; split <;> simp
theorem preT_len (ns : List Int) (h : ns.length = 24) : ∀ i, i ≤ 6 → (preT ns i).length ≤ i * 5
  | 0, _ => by simp [preT]
  | i + 1, hi => by
    have := preT_len ns h i (by omega)
    have h2 := sepB_len i
    have h3 := tub_len ns i h (by omega)
    unfold preT
    rw [List.length_append, List.length_append, tubB_len, h3]; omega
theorem tubB_step (t : List Int) (k : Nat) (h : k < t.length) : (tubB t).take (k + 1) = (tubB t).take k ++ [chr (t.getD k 0)] := by
  rw [List.take_succ_eq_append_getElem (by rw [tubB_len]; exact h)]
  unfold tubB
  rw [List.getElem_map, List.getD_eq_getElem?_getD, List.getElem?_eq_getElem h]; rfl
theorem six_cases {z : Int} (h0 : 0 ≤ z) (h5 : z ≤ 5) : z = 0 ∨ z = 1 ∨ z = 2 ∨ z = 3 ∨ z = 4 ∨ z = 5 := by omega
theorem known_at {t : List Int} (hv : vT t = true) (k : Nat) (hk : k < t.length) : 0 ≤ t.getD k 0 ∧ t.getD k 0 ≤ 5 := by
  have hkn : known t = true := by unfold vT at hv; exact (Bool.and_eq_true_iff.1 hv).1
  have := List.all_eq_true.1 hkn (t.getD k 0) (by rw [List.getD_eq_getElem?_getD, List.getElem?_eq_getElem hk]; exact List.getElem_mem hk)
  simpa using this

section
variable {P : Program} {ops : Array Oper} {rest : List Oper} {op : Oper} {a : Act} {w : World} {Q : Exit → Act → World → Prop}
theorem slice_law (hw : Region.wanted op (yielded ops a.tmps) = true) (T : TypeId) (x y z : Operand) (ho : op.op = .slice T x (some y) (some z) none) (u p q v : Value) (hx : a.eval x = u) (hy : a.eval y = p) (hz : a.eval z = q)
    (hq : (Instr.sliceAt T u (some p) (some q) none).run P w = .ok v w)
    (h : wpList P ops Q rest (a.put op.dst v) w) : wpList P ops Q (op :: rest) a w :=
  wpList_wanted hw fun _ hK => by
    unfold Oper.wp execOp
    simp only [ho, hx, hy, hz, Sem.run_bind, Option.map_some, Option.map_none, hq, Result.andThen_ok, Sem.run_pure]
    exact hK _ _ h
end
theorem signSlice (z : Int) (h0 : 0 ≤ z) (h5 : z ≤ 5) (w : World) : (Instr.sliceAt 9 (.string ⟨#[46, 97, 98, 99, 100, 101]⟩) (some (.int .i64 z)) (some (.int .i64 (z + 1))) none).run Try.prog w = .ok (.string (mk [chr z])) w := by
  rcases six_cases h0 h5 with rfl | rfl | rfl | rfl | rfl | rfl <;> kernel_rfl

set_option maxHeartbeats 1600000 in
theorem l2Text_any (ns : List Int) (w : World) (h24 : ns.length = 24) (hv : vR ns = true) :
    Calls Try.prog 74 #[row ns] w fun e w' => e = .returned (.string (mk (textL ns))) ∧ Kept w w' := by
  have HB := Lib.hid ((kept_refl w).alloc (.cells (ints ns).toArray 30))
  have H := Has.box w 30 h24 (by omega)
  rw [row_ints]
  go_enter Try.func74, Try.ntmps74
  go_wp2_with fail
  have H24 := Lib.hid h24
  have HV := Lib.hid hv
  have HL := Lib.hid (preT_len ns h24)
  clear h24 hv
  go_loopg [3, 4] 6 (fun gk s i wr => ∃ p : Nat, gk = 6 - p ∧ p ≤ 6 ∧ i = .int .i64 p ∧ s = .string (mk (preT ns p)) ∧ wr = w.alloc (.cells (ints ns).toArray 30))
  case atStart => exact ⟨0, rfl, by omega, rfl, rfl, rfl⟩
  case round =>
    obtain ⟨p, rfl, hp, rfl, rfl, rfl⟩ := hrel
    by_cases hp6 : p < 6
    · have hpi : (p : Int) < 6 := by omega
      have hp0 : (0 : Int) ≤ (p : Int) := by omega
      have hl := HL.out p hp
      have h4 := tub_len ns p H24.out hp6
      have C := Lib.hid (fun q (hq : q < 4) => H.rackCell p q hp6 hq)
      have KN := Lib.hid (fun q (hq : q < 4) => known_at (vR_tub HV.out p hp6) q (by omega))
      have ST := Lib.hid (fun q (hq : q < 4) => tubB_step (tub ns p) q (by omega))
      have TL : Hid ((tubB (tub ns p)).take 4 = tubB (tub ns p)) := Lib.hid (List.take_of_length_le (by rw [tubB_len]; omega))
      have TN := Lib.hid (fun q => show ((tubB (tub ns p)).take q).length ≤ 4 by rw [List.length_take, tubB_len]; omega)
      have PE := Lib.hid (show preT ns (p + 1) = preT ns p ++ sepB p ++ tubB (tub ns p) from rfl)
      generalize preT ns p = A at *
      clear h4
      have main : ∀ B : List UInt8, B.length ≤ 31 → B = A ++ sepB p → True := fun _ _ _ => trivial
      by_cases h0 : p = 0
      · subst h0
        have g0 : ¬ ((0 : Int) < ((0 : Nat) : Int)) := by omega
        go_wp2_with fail
        go_loopg [3, 5] 4 (fun gk s j wr => ∃ q : Nat, gk = 4 - q ∧ q ≤ 4 ∧ j = .int .i64 q ∧ s = .string (mk (A ++ sepB 0 ++ (tubB (tub ns 0)).take q)) ∧ wr = w.alloc (.cells (ints ns).toArray 30))
        case atStart => exact ⟨0, rfl, by omega, rfl, by simp [sepB], rfl⟩
        case round =>
          obtain ⟨q, rfl, hq, rfl, rfl, rfl⟩ := hrel
          by_cases hq4 : q < 4
          · have hqi : (q : Int) < 4 := by omega
            have hq0 : (0 : Int) ≤ (q : Int) := by omega
            have c0 := C.out q hq4
            rw [Nat.zero_mul, Nat.zero_add] at c0
            obtain ⟨k0, k5⟩ := KN.out q hq4
            have S := Lib.hid (ST.out q hq4)
            have tn := TN.out q
            generalize (tub ns 0).getD q 0 = z at *
            obtain ⟨B, hB⟩ : ∃ B, B = A ++ sepB 0 ++ (tubB (tub ns 0)).take q := ⟨_, rfl⟩
            obtain ⟨C1, hC⟩ : ∃ C, C = [chr z] := ⟨_, rfl⟩
            have SS := signSlice z k0 k5
            rw [← hB]
            rw [← hC] at SS
            have hbl : B.length ≤ 36 := by have := sepB_len 0; rw [hB, List.length_append, List.length_append]; omega
            have hcl : C1.length = 1 := by rw [hC]; rfl
            have hadd := add_mk B C1 (by omega)
            have R := Lib.hid (show B ++ C1 = A ++ sepB 0 ++ (tubB (tub ns 0)).take (q + 1) by rw [hB, hC, S.out, List.append_assoc (A ++ sepB 0)])
            clear hB hC
            go_wp2_with (first | (refine slice_law rfl 9 _ _ _ rfl (.string ⟨#[46, 97, 98, 99, 100, 101]⟩) (.int .i64 z) (.int .i64 (z + 1)) _ ?_ ?_ ?_ (SS _) ?_; (· rfl); (· rfl); (· rfl)))
            go_roundg (4 - (q + 1))
            case rel => exact ⟨q + 1, rfl, by omega, by go_num, by rw [R.out], rfl⟩
            case measure => omega
          · obtain rfl : q = 4 := by omega
            have E : A ++ sepB 0 ++ (tubB (tub ns 0)).take 4 = preT ns (0 + 1) := by rw [TL.out, PE.out]
            rw [E]
            go_wp2_with fail
            go_roundg (6 - (0 + 1))
            case rel => exact ⟨0 + 1, rfl, by omega, by go_num, rfl, rfl⟩
            case measure => omega
      · have g0 : (0 : Int) < (p : Int) := by omega
        have gN : 0 < p := by omega
        have hadd0 := add_mk A [47] (by simp; omega)
        have e0 : Hid (sepB p = [47]) := Lib.hid (by unfold sepB; rw [if_pos (by omega)])
        have hadd1 : ∀ W, (Op.stringOp .add (mk A) ⟨#[47]⟩).run Try.prog W = .ok (.string (mk (A ++ [47]))) W := hadd0
        clear hadd0
        go_wp2_with fail
        go_loopg [3, 5] 4 (fun gk s j wr => ∃ q : Nat, gk = 4 - q ∧ q ≤ 4 ∧ j = .int .i64 q ∧ s = .string (mk (A ++ sepB p ++ (tubB (tub ns p)).take q)) ∧ wr = w.alloc (.cells (ints ns).toArray 30))
        case atStart => exact ⟨0, rfl, by omega, rfl, by rw [e0.out]; simp, rfl⟩
        case round =>
          obtain ⟨q, rfl, hq, rfl, rfl, rfl⟩ := hrel
          by_cases hq4 : q < 4
          · have hqi : (q : Int) < 4 := by omega
            have hq0 : (0 : Int) ≤ (q : Int) := by omega
            have c0 := C.out q hq4
            obtain ⟨k0, k5⟩ := KN.out q hq4
            have S := Lib.hid (ST.out q hq4)
            have tn := TN.out q
            generalize (tub ns p).getD q 0 = z at *
            obtain ⟨B, hB⟩ : ∃ B, B = A ++ sepB p ++ (tubB (tub ns p)).take q := ⟨_, rfl⟩
            obtain ⟨C1, hC⟩ : ∃ C, C = [chr z] := ⟨_, rfl⟩
            have SS := signSlice z k0 k5
            rw [← hB]
            rw [← hC] at SS
            have hbl : B.length ≤ 36 := by have := sepB_len p; rw [hB, List.length_append, List.length_append]; omega
            have hcl : C1.length = 1 := by rw [hC]; rfl
            have hadd := add_mk B C1 (by omega)
            have R := Lib.hid (show B ++ C1 = A ++ sepB p ++ (tubB (tub ns p)).take (q + 1) by rw [hB, hC, S.out, List.append_assoc (A ++ sepB p)])
            clear hB hC
            go_wp2_with (first | (refine slice_law rfl 9 _ _ _ rfl (.string ⟨#[46, 97, 98, 99, 100, 101]⟩) (.int .i64 z) (.int .i64 (z + 1)) _ ?_ ?_ ?_ (SS _) ?_; (· rfl); (· rfl); (· rfl)))
            go_roundg (4 - (q + 1))
            case rel => exact ⟨q + 1, rfl, by omega, by go_num, by rw [R.out], rfl⟩
            case measure => omega
          · obtain rfl : q = 4 := by omega
            have E : A ++ sepB p ++ (tubB (tub ns p)).take 4 = preT ns (p + 1) := by rw [TL.out, PE.out]
            rw [E]
            go_wp2_with fail
            go_roundg (6 - (p + 1))
            case rel => exact ⟨p + 1, rfl, by omega, by go_num, rfl, rfl⟩
            case measure => omega
    · obtain rfl : p = 6 := by omega
      go_wp2_with fail
      go_ret
      exact ⟨rfl, HB.out⟩

end Go.Proofs.Ytalngdccjoafhab.base
