/-
  Runs, bottoms, boundaries and bounds, on the program's side, walked.
-/
import Derived.Test.YtemiljokdedidacBndS
import Derived.Test.YtemiljokdedidacRunsIZ
namespace Go.Proofs.Ytemiljokdedidac.base
open Go.ChangeShapes Go.WideShapes Go.ChangeAt Go.RowKit
set_option linter.unusedVariables false
set_option linter.unusedSimpArgs false

set_option maxHeartbeats 1600000 in
theorem implCountRuns (ns : List Int) (w : World) (h24 : ns.length = 24) :
    Calls Try.prog 57 #[row ns] w fun e w' => e = .returned (.tuple #[.int .i64 (runsA ns), .bool (vR ns)]) ∧ Kept w w' := by
  have HB := Lib.hid ((kept_refl w).alloc (.cells (ints ns).toArray 42))
  have H := Has.box w 42 h24 (by omega)
  rw [row_ints]
  go_enter Try.func57, Try.ntmps57
  go_wp2_with (refine load_has rfl 42 _ rfl _ rfl ?_ 24 ?_ _ Try.underlying42 rfl ?_ ?_; rotate_left; (· (repeat (first | (with_reducible assumption) | ((with_reducible refine Has.box _ _ ?_ ?_) <;> (first | assumption | decide)) | (with_reducible refine Has.alloc ?_ _) | ((with_reducible refine Has.putOther ?_ _ _ ?_); rotate_left; omega; skip) | ((with_reducible refine Has.below ?_ ?_); rotate_left; assumption)))); (· kernel_rfl))
  refine (isRack_any ns _ h24).mono ?_
  rintro e w1 ⟨rfl, b1⟩
  have H1 := H.below b1
  have HB1 := Lib.hid (HB.out.call b1)
  clear H HB b1
  by_cases hv : vR ns = true
  · rw [hv]
    have HU := Lib.hid (runUp_le h24 hv)
    have HN := Lib.hid (fun p hp => nR_le h24 hv p hp)
    have HV := Lib.hid hv
    have H24 := Lib.hid h24
    have E := Lib.hid (show runsA ns = (runUp ns 6 : Nat) by unfold runsA; rw [if_pos hv])
    clear hv
    go_wp2_with (refine load_has rfl 38 _ rfl _ rfl ?_ 24 ?_ _ Try.underlying38 rfl ?_ ?_; rotate_left; (· (repeat (first | (with_reducible assumption) | ((with_reducible refine Has.box _ _ ?_ ?_) <;> (first | assumption | decide)) | (with_reducible refine Has.alloc ?_ _) | ((with_reducible refine Has.putOther ?_ _ _ ?_); rotate_left; omega; skip) | ((with_reducible refine Has.below ?_ ?_); rotate_left; assumption)))); (· kernel_rfl))
    clear h24 H1
    go_loopw [4, 12] (fun m i wr => ∃ p : Nat, p ≤ 6 ∧ i = .int .i64 p ∧ m = .int .i64 (runUp ns p : Nat) ∧ Hid (Kept w wr)) (fun _ z _ => 6 - (intOf z).toNat)
    case atStart => exact ⟨0, by omega, rfl, rfl, HB1⟩
    case round =>
      obtain ⟨p, hp, rfl, rfl, GB⟩ := hrel
      by_cases hp6 : p < 6
      · have hpi : (p : Int) < 6 := by omega
        have h4 := tub_len ns p H24.out hp6
        have hvt := vR_tub HV.out p hp6
        have hu := HU.out p (by omega)
        have hn := HN.out p hp6
        have ER : Hid (runUp ns (p + 1) = runUp ns p + nR ns p) := Lib.hid rfl
        have EN : Hid (nR ns p = runsN (tub ns p) (lay (tub ns p))) := Lib.hid rfl
        have g0 := indexTub ns p hp6
        have HT := Has.box wr 37 h4 (by omega)
        have GB2 := Lib.hid (GB.out.alloc (.cells (ints (tub ns p)).toArray 37))
        clear GB
        go_wp2_with (first | (refine store_new rfl 37 _ _ rfl _ _ _ rfl _ rfl _ rfl rfl ?_ ?_ ?_; (· (first | assumption | rfl)); (· kernel_rfl)) | (refine load_has rfl 37 _ rfl _ rfl ?_ 4 ?_ _ Try.underlying37 rfl ?_ ?_; rotate_left; (· (repeat (first | (with_reducible assumption) | ((with_reducible refine Has.box _ _ ?_ ?_) <;> (first | assumption | decide)) | (with_reducible refine Has.alloc ?_ _) | ((with_reducible refine Has.putOther ?_ _ _ ?_); rotate_left; omega; skip) | ((with_reducible refine Has.below ?_ ?_); rotate_left; assumption)))); (· kernel_rfl)))
        refine (runs_any (tub ns p) _ h4 hvt).mono ?_
        rintro e w2 ⟨vr, rfl, q1, b2⟩
        rw [← EN.out] at q1
        obtain ⟨a, cap, rfl⟩ := prs_shape q1
        have GB3 := Lib.hid (GB2.out.call b2)
        clear g0 HT GB2 b2 q1
        generalize nR ns p = x at *
        generalize runUp ns p = y at *
        go_wp2_with fail
        go_roundw
        case rel => exact ⟨p + 1, by omega, by go_num, by rw [ER.out]; go_num, GB3⟩
        case measure => simp [intOf]; omega
      · obtain rfl : p = 6 := by omega
        go_wp2_with fail
        go_ret2
        exact ⟨by rw [E.out, HV.out]; rfl, GB.out⟩
  · have hf : vR ns = false := by simpa using hv
    have E := Lib.hid (show runsA ns = 0 by unfold runsA; rw [if_neg hv])
    rw [hf]
    have HV := Lib.hid hf
    clear hf hv
    go_wp2_with fail
    go_ret2
    exact ⟨by rw [E.out, HV.out]; rfl, HB1.out⟩

end Go.Proofs.Ytemiljokdedidac.base
