/-
  The counts of colors add up to the layers of all tubes: walked.
-/
import Derived.Test.YtemiljokdedidaaDelM
import Derived.Test.YtemiljokdedidaaSixV
import Derived.Deep.Cut
import Derived.Deep.CutRange
namespace Go.Proofs.Ytemiljokdedidaa.base
open Go.ChangeShapes Go.WideShapes Go.ChangeAt Go.RowKit
set_option linter.unusedVariables false
set_option linter.unusedSimpArgs false

set_option maxHeartbeats 400000 in
set_option maxRecDepth 100000 in
theorem addUp_any (ms cs : List Int) (w : World) (h1 : ms.length = 6) (h2 : cs.length = 6) (hm : ∀ i, i < 6 → 0 ≤ ms.getD i 0 ∧ ms.getD i 0 ≤ 4) :
    Calls Try.prog 49 #[row ms, row cs] w fun e w' => e = .returned (.bool (cntB ms cs)) ∧ Kept w w' := by
  have HB := Lib.hid (((kept_refl w).alloc (.cells (ints ms).toArray 22)).alloc (.cells (ints cs).toArray 22))
  have H1 := (Has.box w 22 h1 (by omega)).alloc (.cells (ints cs).toArray 22)
  have H := (Has.box (w.alloc (.cells (ints ms).toArray 22)) 22 h2 (by omega)).at (size1 _ _)
  have gi := index6v 22 Try.underlying22 ms h1
  have HG := Lib.hid gi
  have gj := index6v 22 Try.underlying22 cs h2
  have HJ := Lib.hid gj
  have HM := Lib.hid hm
  have HU := Lib.hid (fun i hi => many_in hm i hi)
  have HT := Lib.hid (fun c hc ho => cnO_in (cs := cs) hm c hc ho)
  have EC : Hid (cntB ms cs = (cnO ms cs 6 && decide (sumUp ms 6 - sumUp cs 6 = 0) && decide (cs.getD 0 0 = 0))) := Lib.hid rfl
  rw [row_ints, row_ints]
  clear gi gj hm
  go_enter Try.func49, Try.ntmps49
  go_upto_region 3 with (refine load_has rfl 22 _ rfl _ rfl ?_ 6 ?_ _ Try.underlying22 rfl ?_ ?_; rotate_left; (· (repeat (first | (with_reducible assumption) | ((with_reducible refine Has.box _ _ ?_ ?_) <;> (first | assumption | decide)) | (with_reducible refine Has.alloc ?_ _) | ((with_reducible refine Has.putOther ?_ _ _ ?_); rotate_left; omega; skip) | ((with_reducible refine Has.below ?_ ?_); rotate_left; assumption)))); (· kernel_rfl))
  generalize (w.alloc (.cells (ints ms).toArray 22)).alloc (.cells (ints cs).toArray 22) = W at *
  go_loopg [5, 11] 6 (fun gk m i wr => ∃ k : Nat, gk = 6 - k ∧ k ≤ 6 ∧ i = .int .i64 k ∧ m = .int .i64 (sumUp ms k) ∧ W = wr)
  case atStart => exact ⟨0, rfl, by omega, rfl, rfl, rfl⟩
  case round =>
    obtain ⟨k, rfl, hk, rfl, rfl, rfl⟩ := hrel
    by_cases hlt : k < 6
    · have hki : (k : Int) < 6 := by omega
      have g0 := HG.out k hlt
      have mk := HM.out k hlt
      have uk := HU.out k (by omega)
      have E : Hid (sumUp ms (k + 1) = sumUp ms k + ms.getD k 0) := Lib.hid rfl
      have m0 : 0 ≤ ms.getD k 0 := by omega
      have m4 : ms.getD k 0 ≤ 4 := by omega
      have u0 := uk.1
      have u4 : sumUp ms k ≤ 24 := by omega
      clear mk uk
      generalize ms.getD k 0 = m at *
      generalize sumUp ms k = u at *
      go_wp2_with fail
      go_roundg (6 - (k + 1))
      case rel => exact ⟨k + 1, rfl, by omega, by go_num, by rw [E.out], rfl⟩
      case measure => omega
    · obtain rfl : k = 6 := by omega
      go_upto_region 8 with (refine load_has rfl 22 _ rfl _ rfl ?_ 6 ?_ _ Try.underlying22 rfl ?_ ?_; rotate_left; (· (repeat (first | (with_reducible assumption) | ((with_reducible refine Has.box _ _ ?_ ?_) <;> (first | assumption | decide)) | (with_reducible refine Has.alloc ?_ _) | ((with_reducible refine Has.putOther ?_ _ _ ?_); rotate_left; omega; skip) | ((with_reducible refine Has.below ?_ ?_); rotate_left; assumption)))); (· kernel_rfl))
      go_loopg [5, 19] 6 (fun gk m i wr => ∃ c : Nat, gk = 6 - c ∧ c ≤ 6 ∧ i = .int .i64 c ∧ m = .int .i64 (sumUp ms 6 - sumUp cs c) ∧ Hid (cnO ms cs c = true) ∧ W = wr)
      case atStart => exact ⟨0, rfl, by omega, rfl, by simp [sumUp], Lib.hid rfl, rfl⟩
      case round =>
        obtain ⟨c, rfl, hc, rfl, rfl, CO, rfl⟩ := hrel
        have ub := HU.out 6 (by omega)
        have sb := (HT.out c hc CO.out).1
        by_cases hct : c < 6
        · have hci : (c : Int) < 6 := by omega
          have g1 := HJ.out c hct
          have E : Hid (sumUp cs (c + 1) = sumUp cs c + cs.getD c 0) := Lib.hid rfl
          have EO : Hid (cnO ms cs (c + 1) = (cnO ms cs c && decide (0 ≤ cs.getD c 0) && decide (cs.getD c 0 ≤ sumUp ms 6 - sumUp cs c))) := Lib.hid rfl
          have NO := Lib.hid (show cnO ms cs (c + 1) = false → cntB ms cs = false from fun hn => by
            rw [EC.out]
            have : cnO ms cs 6 = false := by
              have : ∀ d, c + 1 + d ≤ 6 → cnO ms cs (c + 1 + d) = false := by
                intro d
                induction d with
                | zero => intro _; exact hn
                | succ d ih => intro hd; show (cnO ms cs (c + 1 + d) && _ && _) = false; rw [ih (by omega)]; rfl
              have := this (5 - c) (by omega)
              rwa [show c + 1 + (5 - c) = 6 by omega] at this
            rw [this]; rfl)
          have u1 := ub.2
          have u0 := ub.1
          have s0 := sb.1
          have s1 := sb.2
          clear ub sb
          generalize cs.getD c 0 = x at *
          have y0 : -24 ≤ sumUp ms 6 - sumUp cs c := by omega
          have y1 : sumUp ms 6 - sumUp cs c ≤ 24 := by omega
          have E2 := Lib.hid (show sumUp ms 6 - sumUp cs (c + 1) = sumUp ms 6 - sumUp cs c - x by rw [E.out]; omega)
          clear u0 u1 s0 s1 E
          generalize sumUp ms 6 - sumUp cs c = y at *
          by_cases hx : x < 0
          · have N := Lib.hid (NO.out (by rw [EO.out, decide_eq_false (show ¬ 0 ≤ x by omega)]; simp))
            have x0 : decide (x < 0) = true := decide_eq_true hx
            clear hx NO EO
            go_wp2_with fail
            go_ret
            exact ⟨by rw [N.out]; rfl, HB.out⟩
          · have x0 : decide (x < 0) = false := decide_eq_false hx
            by_cases hy : y < x
            · have N := Lib.hid (NO.out (by rw [EO.out, decide_eq_false (show ¬ x ≤ y by omega)]; simp))
              have x1 : decide (y < x) = true := decide_eq_true hy
              clear hx hy NO EO
              go_wp2_with fail
              go_ret
              exact ⟨by rw [N.out]; rfl, HB.out⟩
            · have x1 : decide (y < x) = false := decide_eq_false hy
              have N := Lib.hid (show cnO ms cs (c + 1) = true by rw [EO.out, CO.out, decide_eq_true (show 0 ≤ x by omega), decide_eq_true (show x ≤ y by omega)]; rfl)
              have x2 : 0 ≤ x := by omega
              have x3 : x ≤ y := by omega
              clear hx hy NO EO CO
              go_wp2_with fail
              go_roundg (6 - (c + 1))
              case rel => exact ⟨c + 1, rfl, by omega, by go_num, by rw [E2.out], N, rfl⟩
              case measure => omega
        · obtain rfl : c = 6 := by omega
          have c0 := H.cell 0 (by omega)
          have EC2 := Lib.hid (show cntB ms cs = (decide (sumUp ms 6 - sumUp cs 6 = 0) && decide (cs.getD 0 0 = 0)) by rw [EC.out, CO.out, Bool.true_and])
          clear ub sb CO EC
          generalize sumUp ms 6 - sumUp cs 6 = y at *
          generalize cs.getD 0 0 = z at *
          by_cases hy : y = 0
          · subst hy
            go_wp2_with fail
            go_ret
            exact ⟨by rw [EC2.out]; rfl, HB.out⟩
          · have y0 : (y == 0) = false := by simpa using hy
            have E3 := Lib.hid (decide_eq_false hy)
            clear hy
            go_wp2_with fail
            go_ret
            exact ⟨by rw [EC2.out, E3.out]; rfl, HB.out⟩
end Go.Proofs.Ytemiljokdedidaa.base
