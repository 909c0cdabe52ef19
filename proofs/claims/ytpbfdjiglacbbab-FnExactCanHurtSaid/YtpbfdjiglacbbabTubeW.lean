/-
  The program's methods on a tube, walked: how many layers, and which top.
-/
import Derived.Test.YtpbfdjiglacbbabHas
namespace Go.Proofs.Ytpbfdjiglacbbab.base
open Go.ChangeShapes Go.WideShapes Go.ChangeAt Go.RowKit
set_option linter.unusedVariables false
set_option linter.unusedSimpArgs false

theorem layers_any (t : List Int) (w : World) (h4 : t.length = 4) (hv : vT t = true) :
    Calls Try.prog 70 #[row t] w fun e w' => e = .returned (.int .i64 (lay t : Nat)) ∧ Kept w w' := by
  have F := tubeFacts h4 hv
  have HF := Lib.hid F.full
  have hL := F.lay4
  have H := Has.box w 52 h4 (by omega)
  have HB := Lib.hid ((kept_refl w).alloc (.cells (ints t).toArray 52))
  rw [row_ints]
  clear F hv
  go_enter Try.func70, Try.ntmps70
  go_wp2_with fail
  go_loop [3] (fun n => ∃ k : Nat, k ≤ lay t ∧ n = .int .i64 k) (fun n => 4 - (intOf n).toNat)
  case atStart => exact ⟨0, Nat.zero_le _, rfl⟩
  case round =>
    obtain ⟨k, hk, rfl⟩ := hrel
    by_cases h : k < 4
    · have c0 := H.cell k h
      have f0 := HF.out k h
      by_cases hl : k < lay t
      · have n0 : (t.getD k 0 == 0) = false := by have := f0.2 hl; simpa using this
        clear f0
        generalize t.getD k 0 = x at *
        go_wp2_with fail
        go_round
        case rel => exact ⟨k + 1, by omega, by go_num⟩
        case measure => simp [intOf]; omega
      · have n0 : t.getD k 0 = 0 := Decidable.byContradiction fun hn => hl (f0.1 hn)
        rw [n0] at c0
        clear f0 n0
        go_wp2_with fail
        go_ret
        obtain rfl : k = lay t := by omega
        exact ⟨rfl, HB.out⟩
    · go_wp2_with fail
      go_ret
      obtain rfl : k = lay t := by omega
      exact ⟨rfl, HB.out⟩

theorem room_any (t : List Int) (w : World) (h4 : t.length = 4) (hv : vT t = true) :
    Calls Try.prog 55 #[row t] w fun e w' => e = .returned (.int .i64 (4 - (lay t : Nat))) ∧ Kept w w' := by
  have hL := (tubeFacts h4 hv).lay4
  have HB := Lib.hid ((kept_refl w).alloc (.cells (ints t).toArray 52))
  rw [row_ints]
  go_enter Try.func55, Try.ntmps55
  go_wp2_with (refine load_has rfl 52 _ rfl _ rfl ?_ 4 ?_ _ Try.underlying52 rfl ?_ ?_; rotate_left; (· (repeat (first | (with_reducible assumption) | ((with_reducible refine Has.box _ _ ?_ ?_) <;> (first | assumption | decide)) | (with_reducible refine Has.alloc ?_ _) | ((with_reducible refine Has.putOther ?_ _ _ ?_); rotate_left; omega; skip) | ((with_reducible refine Has.below ?_ ?_); rotate_left; assumption)))); (· kernel_rfl))
  refine (layers_any t _ h4 hv).mono ?_
  rintro e w1 ⟨rfl, b1⟩
  go_wp2_with fail
  go_ret
  exact ⟨rfl, HB.out.call b1⟩

theorem isEmpty_any (t : List Int) (w : World) (h4 : t.length = 4) (hv : vT t = true) :
    Calls Try.prog 67 #[row t] w fun e w' => e = .returned (.bool (decide (lay t = 0))) ∧ Kept w w' := by
  have HE := Lib.hid (tubeFacts h4 hv).empty
  have HB := Lib.hid ((kept_refl w).alloc (.cells (ints t).toArray 52))
  rw [row_ints]
  go_enter Try.func67, Try.ntmps67
  go_wp2_with (first | (refine load_has rfl 52 _ rfl _ rfl ?_ 4 ?_ _ Try.underlying52 rfl ?_ ?_; rotate_left; (· (repeat (first | (with_reducible assumption) | ((with_reducible refine Has.box _ _ ?_ ?_) <;> (first | assumption | decide)) | (with_reducible refine Has.alloc ?_ _) | ((with_reducible refine Has.putOther ?_ _ _ ?_); rotate_left; omega; skip) | ((with_reducible refine Has.below ?_ ?_); rotate_left; assumption)))); (· kernel_rfl)) | (refine build_law rfl 52 rfl _ buildTube ?_) | (refine eql_has rfl 52 _ _ _ rfl _ _ rfl rfl ?_ (eqTube _ _ ?_ ?_) ?_; (· kernel_rfl); (· assumption); (· rfl)))
  go_ret
  exact ⟨ret_bool (decide_eq_decide.2 HE.out), HB.out⟩

theorem top_any (t : List Int) (w : World) (h4 : t.length = 4) (hv : vT t = true) :
    Calls Try.prog 71 #[row t] w fun e w' => e = .returned (.tuple #[.int .i64 (topC t), .int .i64 (topN t : Nat)]) ∧ Kept w w' := by
  have F := tubeFacts h4 hv
  have hL := F.lay4
  have hN := F.topN
  have HB := Lib.hid ((kept_refl w).alloc (.cells (ints t).toArray 52))
  have H := Has.box w 52 h4 (by omega)
  rw [row_ints]
  go_enter Try.func71, Try.ntmps71
  go_wp2_with (refine load_has rfl 52 _ rfl _ rfl ?_ 4 ?_ _ Try.underlying52 rfl ?_ ?_; rotate_left; (· (repeat (first | (with_reducible assumption) | ((with_reducible refine Has.box _ _ ?_ ?_) <;> (first | assumption | decide)) | (with_reducible refine Has.alloc ?_ _) | ((with_reducible refine Has.putOther ?_ _ _ ?_); rotate_left; omega; skip) | ((with_reducible refine Has.below ?_ ?_); rotate_left; assumption)))); (· kernel_rfl))
  refine (layers_any t _ h4 hv).mono ?_
  rintro e w1 ⟨rfl, b1⟩
  have H1 := H.below b1
  have HB1 := Lib.hid (HB.out.call b1)
  clear H HB b1
  by_cases h0 : lay t = 0
  · have hn := Lib.hid (F.none.1 h0)
    have hc := Lib.hid (F.noneC.2 hn.out)
    rw [h0]
    clear F
    go_wp2_with fail
    go_ret2
    exact ⟨by rw [hc.out, hn.out]; rfl, HB1.out⟩
  · have hn : topN t ≠ 0 := fun h => h0 (F.none.2 h)
    have HR := Lib.hid F.run
    have HS := Lib.hid F.stop
    have c0 := H1.cell (lay t - 1) (by omega)
    have r0 := F.run 0 (by omega)
    rw [Nat.sub_zero] at r0
    rw [r0] at c0
    have i0 : ((lay t : Int) - 1).toNat = lay t - 1 := by omega
    have n0 : ((lay t : Int) == 0) = false := by simp; omega
    have H0 := Lib.hid h0
    clear F r0 h0
    go_wp2_with fail
    go_loop [6] (fun z => ∃ k : Nat, 1 ≤ k ∧ k ≤ topN t ∧ z = .int .i64 k) (fun z => 4 - (intOf z).toNat)
    case atStart => exact ⟨1, by omega, by omega, rfl⟩
    case round =>
      obtain ⟨k, hk1, hk, rfl⟩ := hrel
      by_cases h : k < lay t
      · have c1 := H1.cell (lay t - 1 - k) (by omega)
        have i1 : ((lay t : Int) - 1 - (k : Int)).toNat = lay t - 1 - k := by omega
        have j0 : (0 : Int) ≤ (lay t : Int) - 1 - (k : Int) := by omega
        have j1 : (lay t : Int) - 1 - (k : Int) < 4 := by omega
        by_cases hl : k < topN t
        · have r1 := HR.out k hl
          rw [r1] at c1
          clear r1
          go_wp2_with fail
          go_round
          case rel => exact ⟨k + 1, by omega, by omega, by go_num⟩
          case measure => simp [intOf]; omega
        · have e : k = topN t := by omega
          have r1 : (t.getD (lay t - 1 - k) 0 == topC t) = false := by
            have := HS.out (by omega); rw [← e] at this; simpa using this
          clear e
          generalize t.getD (lay t - 1 - k) 0 = x at *
          go_wp2_with fail
          go_ret2
          obtain rfl : k = topN t := by omega
          exact ⟨rfl, HB1.out⟩
      · go_wp2_with fail
        go_ret2
        obtain rfl : k = topN t := by omega
        exact ⟨rfl, HB1.out⟩
end Go.Proofs.Ytpbfdjiglacbbab.base
