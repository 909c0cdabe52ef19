/-
  The model's functions on a tube, walked: how many layers, which top, and which pours are possible.
-/
/-
  What is asked of one tube of a rack, on both sides: layers and tops, walked.
-/
import Derived.Test.YtalngdccjoafhabTubeWZ

section
namespace Go.Proofs.Ytalngdccjoafhab.base
open Go.ChangeShapes Go.WideShapes Go.ChangeAt Go.RowKit
set_option linter.unusedVariables false
set_option linter.unusedSimpArgs false

theorem l2Many_any (t : List Int) (w : World) (h4 : t.length = 4) (hv : vT t = true) :
    Calls Try.prog 61 #[row t] w fun e w' => e = .returned (.int .i64 (lay t : Nat)) ∧ Kept w w' := by
  have F := tubeFacts h4 hv
  have HF := Lib.hid F.pos
  have hL := F.lay4
  have HB := Lib.hid ((kept_refl w).alloc (.cells (ints t).toArray 22))
  have H := Has.box w 22 h4 (by omega)
  rw [row_ints]
  clear F
  go_enter Try.func61, Try.ntmps61
  go_wp2_with fail
  go_loop [3, 4] (fun m i => ∃ k q : Nat, k ≤ 4 ∧ i = .int .i64 k ∧ m = .int .i64 q ∧ Hid (q = min k (lay t)) ∧ q ≤ 4) (fun _ i => 4 - (intOf i).toNat)
  case atStart => exact ⟨0, 0, by omega, rfl, rfl, Lib.hid (by omega), by omega⟩
  case round =>
    obtain ⟨k, q, hk, rfl, rfl, HQ, hq4⟩ := hrel
    by_cases h : k < 4
    · have c0 := H.cell k h
      have f0 := HF.out k h
      generalize t.getD k 0 = x at *
      by_cases hl : k < lay t
      · have p0 := f0.2 hl
        have R := Lib.hid (show q + 1 = min (k + 1) (lay t) by have := HQ.out; omega)
        have q5 : q < 4 := by have := HQ.out; omega
        clear f0
        go_wp2_with fail
        go_round
        case rel => exact ⟨k + 1, q + 1, by omega, by go_num, by go_num, R, by omega⟩
        case measure => simp [intOf]; omega
      · have p0 : decide (0 < x) = false := by simp; have := mt f0.1 hl; omega
        have R := Lib.hid (show q = min (k + 1) (lay t) by have := HQ.out; omega)
        clear f0
        go_wp2_with fail
        go_round
        case rel => exact ⟨k + 1, q, by omega, by go_num, rfl, R, hq4⟩
        case measure => simp [intOf]; omega
    · have e : q = lay t := by have := HQ.out; omega
      have E := Lib.hid e
      clear e
      go_wp2_with fail
      go_ret
      exact ⟨ret_int (by rw [E.out]), HB.out⟩

set_option maxHeartbeats 400000 in
theorem l2Top_any (t : List Int) (w : World) (h4 : t.length = 4) (hv : vT t = true) :
    Calls Try.prog 62 #[row t] w fun e w' => e = .returned (.tuple #[.int .i64 (topC t), .int .i64 (topN t : Nat)]) ∧ Kept w w' := by
  have F := tubeFacts h4 hv
  have hL := F.lay4
  have hN := F.topN
  have HB := Lib.hid ((kept_refl w).alloc (.cells (ints t).toArray 22))
  have H := Has.box w 22 h4 (by omega)
  rw [row_ints]
  go_enter Try.func62, Try.ntmps62
  go_wp2_with (refine load_has rfl 22 _ rfl _ rfl ?_ 4 ?_ _ Try.underlying22 rfl ?_ ?_; rotate_left; (· (repeat (first | (with_reducible assumption) | ((with_reducible refine Has.box _ _ ?_ ?_) <;> (first | assumption | decide)) | (with_reducible refine Has.alloc ?_ _) | ((with_reducible refine Has.putOther ?_ _ _ ?_); rotate_left; omega; skip) | ((with_reducible refine Has.below ?_ ?_); rotate_left; assumption)))); (· kernel_rfl))
  refine (l2Many_any t _ h4 hv).mono ?_
  rintro e w1 ⟨rfl, b1⟩
  have H1 := H.below b1
  have HB1 := Lib.hid (HB.out.call b1)
  clear H HB b1
  by_cases h0 : lay t = 0
  · have hn := Lib.hid (F.none.1 h0)
    have hc := Lib.hid (F.noneC.2 hn.out)
    rw [h0]
    clear F
    go_wp2_with fail
    go_ret2
    exact ⟨by rw [hc.out, hn.out]; rfl, HB1.out⟩
  · have hn : topN t ≠ 0 := fun h => h0 (F.none.2 h)
    have HR := Lib.hid F.run
    have HS := Lib.hid F.stop
    have n0 : ((lay t : Int) == 0) = false := by simp; omega
    have H0 := Lib.hid (show 0 < lay t by omega)
    have h1 : (1 : Int) ≤ (lay t : Int) := by omega
    have h5 : (lay t : Int) ≤ 4 := by omega
    have i0 : ((lay t : Int) - 1).toNat = lay t - 1 := by omega
    clear F h0
    go_wp2_with fail
    go_loopw [5] (fun z wr => ∃ k : Nat, k ≤ topN t ∧ z = .int .i64 k ∧ Has wr w.heap.size t 4 ∧ Hid (Kept w wr)) (fun z _ => 4 - (intOf z).toNat)
    case atStart => exact ⟨0, by omega, rfl, H1, HB1⟩
    case round =>
      obtain ⟨k, hk, rfl, H2, HB2⟩ := hrel
      have c0 := H2.cell (lay t - 1) (by have := H0.out; omega)
      have r0 := HR.out 0 (by omega)
      rw [Nat.sub_zero] at r0
      rw [r0] at c0
      clear r0 H1
      by_cases h : k < lay t
      · have c1 := H2.cell (lay t - 1 - k) (by omega)
        have i1 : ((lay t : Int) - 1 - (k : Int)).toNat = lay t - 1 - k := by omega
        have j0 : (0 : Int) ≤ (lay t : Int) - 1 - (k : Int) := by omega
        have j1 : (lay t : Int) - 1 - (k : Int) < 4 := by omega
        have l0 : (0 : Int) ≤ (lay t : Int) - 1 := by omega
        have l1 : (lay t : Int) - 1 < 4 := by omega
        have g1 : decide ((k : Int) < (lay t : Int)) = true := by simp; omega
        have g2 : decide (k < lay t) = true := by simp; omega
        have w1' : IntKind.i64.wrap ((lay t : Int) - 1) = (lay t : Int) - 1 := IntWalk.i64_in _ (by omega)
        have w2' : IntKind.i64.wrap ((lay t : Int) - 1 - (k : Int)) = (lay t : Int) - 1 - (k : Int) := IntWalk.i64_in _ (by omega)
        by_cases hl : k < topN t
        · have r1 := HR.out k hl
          rw [r1] at c1
          clear r1
          go_wp2_with fail
          go_quiet (fail)
          clear w1' w2'
          have H3 := H2.drewN nq
          have HB3 := Lib.hid (HB2.out.drewN nq)
          go_wp2_with fail
          go_roundw
          case rel => exact ⟨k + 1, by omega, by go_num, H3, HB3⟩
          case measure => simp [intOf]; omega
        · have e : k = topN t := by omega
          have r1 : (t.getD (lay t - 1 - k) 0 == topC t) = false := by
            have := HS.out (by omega); rw [← e] at this; simpa using this
          have E := Lib.hid e
          clear e
          generalize t.getD (lay t - 1 - k) 0 = x at *
          go_wp2_with fail
          go_quiet (fail)
          clear w1' w2'
          have HB3 := Lib.hid (HB2.out.drewN nq)
          go_wp2_with fail
          go_ret2
          exact ⟨by rw [← E.out]; rfl, HB3.out⟩
      · have g1 : decide ((k : Int) < (lay t : Int)) = false := by simp; omega
        have g2 : decide (k < lay t) = false := by simp; omega
        have E := Lib.hid (show k = topN t by omega)
        go_wp2_with fail
        go_quiet (fail)
        have HB3 := Lib.hid (HB2.out.drewN nq)
        go_wp2_with fail
        go_ret2
        exact ⟨by rw [← E.out]; rfl, HB3.out⟩
end Go.Proofs.Ytalngdccjoafhab.base
end

section
namespace Go.Proofs.Ytalngdccjoafhab.base
open Go.ChangeShapes Go.WideShapes Go.ChangeAt Go.RowKit
set_option linter.unusedVariables false
set_option linter.unusedSimpArgs false

theorem topOk_not {ns : List Int} {i : Int} (h : inR ns i = false) : topOk ns i = false := by unfold topOk; rw [h]; rfl
end Go.Proofs.Ytalngdccjoafhab.base
end
