/-
  The plain rack of counts, on both sides, walked.
-/
import Derived.Test.YthnkfdhnbafcjaaPlainM
import Derived.Test.YthnkfdhnbafcjaaSix
import Derived.Deep.Cut
import Derived.Deep.CutRange
import Derived.Deep.RegionHeld3
namespace Go.Proofs.Ythnkfdhnbafcjaa.base
open Go.ChangeShapes Go.WideShapes Go.ChangeAt Go.RowKit
set_option linter.unusedVariables false
set_option linter.unusedSimpArgs false

set_option maxHeartbeats 3200000 in
set_option maxRecDepth 100000 in
theorem implPlain (cs : List Int) (w : World) (h6 : cs.length = 6) :
    Calls Try.prog 30 #[.agg (ints cs).toArray] w fun e w' => e = .returned (.tuple #[.agg (ints (plainR cs)).toArray, .bool (plainOk cs)]) ∧ Kept w w' := by
  have HB := Lib.hid (((kept_refl w).alloc (.cells (ints cs).toArray 52)).alloc (.cells #[.int .i64 0, .int .i64 0, .int .i64 0, .int .i64 0, .int .i64 0, .int .i64 0, .int .i64 0, .int .i64 0, .int .i64 0, .int .i64 0, .int .i64 0, .int .i64 0, .int .i64 0, .int .i64 0, .int .i64 0, .int .i64 0, .int .i64 0, .int .i64 0, .int .i64 0, .int .i64 0, .int .i64 0, .int .i64 0, .int .i64 0, .int .i64 0] 28))
  have H := (Has.box w 52 h6 (by omega)).alloc (.cells #[.int .i64 0, .int .i64 0, .int .i64 0, .int .i64 0, .int .i64 0, .int .i64 0, .int .i64 0, .int .i64 0, .int .i64 0, .int .i64 0, .int .i64 0, .int .i64 0, .int .i64 0, .int .i64 0, .int .i64 0, .int .i64 0, .int .i64 0, .int .i64 0, .int .i64 0, .int .i64 0, .int .i64 0, .int .i64 0, .int .i64 0, .int .i64 0] 28)
  have Z := (Has.zero24 (w.alloc (.cells (ints cs).toArray 52)) 28).at (size1 _ _)
  have hz : z24.length = 24 := rfl
  have c0 := H.cell 0 (by omega)
  go_enter Try.func30, Try.ntmps30
  go_upto_region 1 with fail
  generalize (w.alloc (.cells (ints cs).toArray 52)).alloc (.cells #[.int .i64 0, .int .i64 0, .int .i64 0, .int .i64 0, .int .i64 0, .int .i64 0, .int .i64 0, .int .i64 0, .int .i64 0, .int .i64 0, .int .i64 0, .int .i64 0, .int .i64 0, .int .i64 0, .int .i64 0, .int .i64 0, .int .i64 0, .int .i64 0, .int .i64 0, .int .i64 0, .int .i64 0, .int .i64 0, .int .i64 0, .int .i64 0] 28) = W at *
  have R1 := Has.box (ns := z24) W 28 rfl (by decide)
  have H1 := H.alloc (.cells (ints z24).toArray 28)
  have Z1 := Z.alloc (.cells (ints z24).toArray 28)
  have HB1 := Lib.hid (HB.out.alloc (.cells (ints z24).toArray 28))
  have hlt := Z.lt
  obtain ⟨OB, hOB⟩ : ∃ OB, OB = W.heap.size := ⟨_, rfl⟩
  rw [← hOB] at R1
  have HOB : w.heap.size + 1 < OB := by omega
  by_cases h0 : cs.getD 0 0 = 0
  · have H0 := Lib.hid h0
    rw [h0] at c0
    have gi := index6 52 Try.underlying52 cs h6
    have hl6 := h6
    have GI := Lib.hid gi
    clear h0 gi
    go_upto_region 3 with fail
    clear H Z HB
    have hI : (0 : Nat) ≤ (plainP cs 0).1 := Nat.zero_le _
    go_upto_region 6 with (first | (refine build_law rfl 28 rfl _ buildRack ?_) | (refine store_new rfl 28 _ _ rfl _ _ _ rfl _ rfl _ rfl rfl ?_ ?_ ?_; (· (first | assumption | rfl)); (· kernel_rfl)) | (refine load_has rfl 52 _ rfl _ rfl ?_ 6 ?_ _ Try.underlying52 rfl ?_ ?_; rotate_left; (· (repeat (first | (with_reducible assumption) | ((with_reducible refine Has.box _ _ ?_ ?_) <;> (first | assumption | decide)) | (with_reducible refine Has.alloc ?_ _) | ((with_reducible refine Has.putOther ?_ _ _ ?_); rotate_left; omega; skip) | ((with_reducible refine Has.below ?_ ?_); rotate_left; assumption)))); (· kernel_rfl)))
    rw [← hOB]
    clear hOB c0 hI hl6 H1
    generalize W.alloc (.cells (ints z24).toArray 28) = W1 at *
    have V0 : Hid (∀ j, j < 0 → 0 ≤ cs.getD j 0 ∧ cs.getD j 0 ≤ 4) := Lib.hid (fun j h => by omega)
    go_loopg [5, 15] 6 (fun gk s5 s15 wr => ∃ m : Nat, gk = 6 - m ∧ m ≤ 6 ∧ s5 = .int .i64 ((plainP cs m).1 : Nat) ∧ s15 = .int .i64 m ∧ Has wr OB (plainP cs m).2 24 ∧ Has wr (w.heap.size + 1) z24 24 ∧ Hid (Kept w wr) ∧ Hid (∀ j, j < m → 0 ≤ cs.getD j 0 ∧ cs.getD j 0 ≤ 4))
    case atStart => exact ⟨0, rfl, by omega, rfl, rfl, R1, Z1, HB1, V0⟩
    case round =>
      obtain ⟨m, rfl, hm, rfl, rfl, GO, GZ, GB, GV⟩ := hrel
      by_cases hm6 : m < 6
      · have hmi : (m : Int) < 6 := by omega
        have g1 := GI.out m hm6
        have PL := Lib.hid (plainP_len cs m)
        by_cases hv : 0 ≤ cs.getD m 0 ∧ cs.getD m 0 ≤ 4
        · obtain ⟨N, hN⟩ : ∃ N : Nat, cs.getD m 0 = (N : Int) := ⟨(cs.getD m 0).toNat, by omega⟩
          have GV2 : Hid (∀ j, j < m + 1 → 0 ≤ cs.getD j 0 ∧ cs.getD j 0 ≤ 4) := Lib.hid (fun j h => by
            rcases Nat.lt_succ_iff_lt_or_eq.1 h with h1 | h1
            · exact GV.out j h1
            · rw [h1]; exact hv)
          rw [hN] at g1
          have hN4 : N ≤ 4 := by omega
          have d1 : decide ((N : Int) < 0) = false := by simp
          have d2 : decide ((4 : Int) < (N : Int)) = false := by simp; omega
          have d3 : decide ((N : Int) > 4) = false := by simp; omega
          have d4 : decide (4 < N) = false := by simp; omega
          clear hv GV
          by_cases hN0 : N = 0
          · have P := Lib.hid (plainP_no (cs := cs) (m := m) (by rw [hN]; omega))
            subst hN0
            clear hN
            go_wp2_with fail
            go_roundg (6 - (m + 1))
            case rel => exact ⟨m + 1, rfl, by omega, by rw [P.out], by go_num, by rw [P.out]; exact GO, GZ, GB, GV2⟩
            case measure => omega
          · have P := Lib.hid (plainP_yes (cs := cs) (m := m) (by rw [hN]; omega))
            have hb : (((N : Nat) : Int) == 0) = false := by simp; omega
            have hb2 : (N == 0) = false := by simp; omega
            have hT := plainP_le cs m
            have HT6 : (plainP cs m).1 < 6 := by omega
            have GH2 := Lib.hid hN
            clear hN
            generalize hR : (plainP cs m).2 = R at *
            generalize ht : (plainP cs m).1 = t at *
            have HR := Lib.hid hR
            have HTT := Lib.hid ht
            clear hR ht
            have hti : (t : Int) < 6 := by omega
            have ht0 : (0 : Int) ≤ (t : Int) := by omega
            go_wp2_with fail
            clear g1 d1 d2 d3 d4 hb hb2
            go_loopg [29] N (fun gk s29 wx => ∃ k : Nat, gk = N - k ∧ k ≤ N ∧ s29 = .int .i64 k ∧ Has wx OB (fillT R t (m : Int) k) 24 ∧ Has wx (w.heap.size + 1) z24 24 ∧ Hid (Kept w wx))
            case atStart => exact ⟨0, rfl, by omega, rfl, GO, GZ, GB⟩
            case round =>
              obtain ⟨k, rfl, hk, rfl, KO, KZ, KB⟩ := hrel
              by_cases hkN : k < N
              · have hki : (k : Int) < ((N : Nat) : Int) := by omega
                have hk4 : (k : Int) < 4 := by omega
                have hk0 : (0 : Int) ≤ (k : Int) := by omega
                have hlen := KO.len
                have c1 := KO.cell (t * 4 + k) (by omega)
                have f1 := KO.free (t * 4 + k) (by omega)
                have K1 := Lib.hid (show Has _ OB (fillT R t (m : Int) (k + 1)) 24 from KO.set (t * 4 + k) (m : Int) (by omega))
                have K2 := Lib.hid (KZ.setOther (b' := OB) (t * 4 + k) (.int .i64 (m : Int)) (by omega))
                have K4 := Lib.hid (KB.out.set (b := OB) (by omega) (t * 4 + k) (.int .i64 (m : Int)))
                clear KO KZ KB
                generalize (fillT R t (m : Int) k).getD (t * 4 + k) 0 = x1 at *
                go_wp2_with fail
                go_roundg (N - (k + 1))
                case rel => exact ⟨k + 1, rfl, by omega, by go_num, K1.out, K2.out, K4⟩
                case measure => omega
              · obtain rfl : k = N := by omega
                go_wp2_with fail
                go_roundg (6 - (m + 1))
                case rel => exact ⟨m + 1, rfl, by omega, by rw [P.out]; show Value.int .i64 ((t : Int) + 1) = .int .i64 ((t + 1 : Nat) : Int); go_num, by go_num, by rw [P.out]; show Has _ OB (fillT R t (m : Int) (cs.getD m 0).toNat) 24; rw [GH2.out]; exact KO, KZ, KB, GV2⟩
                case measure => omega
        · have O := Lib.hid (plainOk_at m hm6 hv)
          clear GV
          generalize cs.getD m 0 = x at *
          by_cases hx : x < 0
          · have d1 := decide_eq_true hx
            clear hv
            have S1 := Lib.hid (GZ.putAll z24 rfl)
            have S2 := Lib.hid (GB.out.puts (b := w.heap.size + 1) (by omega) 0 (ints z24))
            go_wp2_with (first | (refine build_law rfl 28 rfl _ buildRack ?_) | (refine store_new rfl 28 _ _ rfl _ _ _ rfl _ rfl _ rfl rfl ?_ ?_ ?_; (· (first | assumption | rfl)); (· kernel_rfl)) | (refine store_at rfl 28 _ _ rfl _ _ rfl rfl ?_ 24 ?_ ?_ ?_ ?_; rotate_left; (· (repeat (first | (with_reducible assumption) | ((with_reducible refine Has.box _ _ ?_ ?_) <;> (first | assumption | decide)) | (with_reducible refine Has.alloc ?_ _) | ((with_reducible refine Has.putOther ?_ _ _ ?_); rotate_left; omega; skip) | ((with_reducible refine Has.below ?_ ?_); rotate_left; assumption)))); (· (first | assumption | rfl)); (· kernel_rfl)))
            exact bodyPost_ret (res_has1 rfl _ _ (w.heap.size + 1) z24 24 _ (.bool false) rfl rfl S1.out Try.underlying28 rfl (by kernel_rfl)) rfl ⟨by unfold plainR; rw [O.out]; rfl, S2.out⟩
          · have d1 := decide_eq_false hx
            have d2 : decide (4 < x) = true := by simp; omega
            have d3 : 4 < x := by omega
            have d4 : x > 4 := by omega
            clear hv hx
            have S1 := Lib.hid (GZ.putAll z24 rfl)
            have S2 := Lib.hid (GB.out.puts (b := w.heap.size + 1) (by omega) 0 (ints z24))
            go_wp2_with (first | (refine build_law rfl 28 rfl _ buildRack ?_) | (refine store_new rfl 28 _ _ rfl _ _ _ rfl _ rfl _ rfl rfl ?_ ?_ ?_; (· (first | assumption | rfl)); (· kernel_rfl)) | (refine store_at rfl 28 _ _ rfl _ _ rfl rfl ?_ 24 ?_ ?_ ?_ ?_; rotate_left; (· (repeat (first | (with_reducible assumption) | ((with_reducible refine Has.box _ _ ?_ ?_) <;> (first | assumption | decide)) | (with_reducible refine Has.alloc ?_ _) | ((with_reducible refine Has.putOther ?_ _ _ ?_); rotate_left; omega; skip) | ((with_reducible refine Has.below ?_ ?_); rotate_left; assumption)))); (· (first | assumption | rfl)); (· kernel_rfl)))
            exact bodyPost_ret (res_has1 rfl _ _ (w.heap.size + 1) z24 24 _ (.bool false) rfl rfl S1.out Try.underlying28 rfl (by kernel_rfl)) rfl ⟨by unfold plainR; rw [O.out]; rfl, S2.out⟩
      · obtain rfl : m = 6 := by omega
        have O := Lib.hid (plainOk_all H0.out (fun j hj => GV.out j hj))
        have E := Lib.hid (show plainR cs = (plainP cs 6).2 by unfold plainR; rw [if_pos O.out])
        have PL := plainP_len cs 6
        have S1 := Lib.hid (GZ.putAll (plainP cs 6).2 PL)
        have S2 := Lib.hid (GB.out.puts (b := w.heap.size + 1) (by omega) 0 (ints (plainP cs 6).2))
        go_wp2_with (first | (refine load_has rfl 28 _ rfl _ rfl ?_ 24 ?_ _ Try.underlying28 rfl ?_ ?_; rotate_left; (· (repeat (first | (with_reducible assumption) | ((with_reducible refine Has.box _ _ ?_ ?_) <;> (first | assumption | decide)) | (with_reducible refine Has.alloc ?_ _) | ((with_reducible refine Has.putOther ?_ _ _ ?_); rotate_left; omega; skip) | ((with_reducible refine Has.below ?_ ?_); rotate_left; assumption)))); (· kernel_rfl)) | (refine store_at rfl 28 _ _ rfl _ _ rfl rfl ?_ 24 ?_ ?_ ?_ ?_; rotate_left; (· (repeat (first | (with_reducible assumption) | ((with_reducible refine Has.box _ _ ?_ ?_) <;> (first | assumption | decide)) | (with_reducible refine Has.alloc ?_ _) | ((with_reducible refine Has.putOther ?_ _ _ ?_); rotate_left; omega; skip) | ((with_reducible refine Has.below ?_ ?_); rotate_left; assumption)))); (· (first | assumption | rfl)); (· kernel_rfl)))
        exact bodyPost_ret (res_has1 rfl _ _ (w.heap.size + 1) _ 24 _ (.bool true) rfl rfl S1.out Try.underlying28 rfl (by kernel_rfl)) rfl ⟨by rw [E.out, O.out], S2.out⟩
  · have O := Lib.hid (plainOk_zero h0)
    have hb : (cs.getD 0 0 != 0) = true := by rw [bne_iff_ne]; exact h0
    clear R1 H1 Z1 HB1 hOB HOB
    generalize cs.getD 0 0 = x0 at *
    clear h0
    have S1 := Lib.hid (Z.putAll z24 rfl)
    have S2 := Lib.hid (HB.out.puts (b := w.heap.size + 1) (by omega) 0 (ints z24))
    go_wp2_with (first | (refine build_law rfl 28 rfl _ buildRack ?_) | (refine store_new rfl 28 _ _ rfl _ _ _ rfl _ rfl _ rfl rfl ?_ ?_ ?_; (· (first | assumption | rfl)); (· kernel_rfl)) | (refine store_at rfl 28 _ _ rfl _ _ rfl rfl ?_ 24 ?_ ?_ ?_ ?_; rotate_left; (· (repeat (first | (with_reducible assumption) | ((with_reducible refine Has.box _ _ ?_ ?_) <;> (first | assumption | decide)) | (with_reducible refine Has.alloc ?_ _) | ((with_reducible refine Has.putOther ?_ _ _ ?_); rotate_left; omega; skip) | ((with_reducible refine Has.below ?_ ?_); rotate_left; assumption)))); (· (first | assumption | rfl)); (· kernel_rfl)))
    exact bodyPost_ret (res_has1 rfl _ _ (w.heap.size + 1) z24 24 _ (.bool false) rfl rfl S1.out Try.underlying28 rfl (by kernel_rfl)) rfl ⟨by unfold plainR; rw [O.out]; rfl, S2.out⟩

set_option maxHeartbeats 3200000 in
set_option maxRecDepth 100000 in
theorem specPlain (cs : List Int) (w : World) (h6 : cs.length = 6) :
    Calls Try.prog 28 #[.agg (ints cs).toArray] w fun e w' => e = .returned (.tuple #[.agg (ints (plainR cs)).toArray, .bool (plainOk cs)]) ∧ Kept w w' := by
  have HB := Lib.hid (((kept_refl w).alloc (.cells (ints cs).toArray 52)).alloc (.cells #[.int .i64 0, .int .i64 0, .int .i64 0, .int .i64 0, .int .i64 0, .int .i64 0, .int .i64 0, .int .i64 0, .int .i64 0, .int .i64 0, .int .i64 0, .int .i64 0, .int .i64 0, .int .i64 0, .int .i64 0, .int .i64 0, .int .i64 0, .int .i64 0, .int .i64 0, .int .i64 0, .int .i64 0, .int .i64 0, .int .i64 0, .int .i64 0] 28))
  have H := (Has.box w 52 h6 (by omega)).alloc (.cells #[.int .i64 0, .int .i64 0, .int .i64 0, .int .i64 0, .int .i64 0, .int .i64 0, .int .i64 0, .int .i64 0, .int .i64 0, .int .i64 0, .int .i64 0, .int .i64 0, .int .i64 0, .int .i64 0, .int .i64 0, .int .i64 0, .int .i64 0, .int .i64 0, .int .i64 0, .int .i64 0, .int .i64 0, .int .i64 0, .int .i64 0, .int .i64 0] 28)
  have Z := (Has.zero24 (w.alloc (.cells (ints cs).toArray 52)) 28).at (size1 _ _)
  have hz : z24.length = 24 := rfl
  have c0 := H.cell 0 (by omega)
  go_enter Try.func28, Try.ntmps28
  go_upto_region 1 with fail
  generalize (w.alloc (.cells (ints cs).toArray 52)).alloc (.cells #[.int .i64 0, .int .i64 0, .int .i64 0, .int .i64 0, .int .i64 0, .int .i64 0, .int .i64 0, .int .i64 0, .int .i64 0, .int .i64 0, .int .i64 0, .int .i64 0, .int .i64 0, .int .i64 0, .int .i64 0, .int .i64 0, .int .i64 0, .int .i64 0, .int .i64 0, .int .i64 0, .int .i64 0, .int .i64 0, .int .i64 0, .int .i64 0] 28) = W at *
  have R1 := Has.box (ns := z24) W 28 rfl (by decide)
  have H1 := H.alloc (.cells (ints z24).toArray 28)
  have Z1 := Z.alloc (.cells (ints z24).toArray 28)
  have HB1 := Lib.hid (HB.out.alloc (.cells (ints z24).toArray 28))
  have hlt := Z.lt
  obtain ⟨OB, hOB⟩ : ∃ OB, OB = W.heap.size := ⟨_, rfl⟩
  rw [← hOB] at R1
  have HOB : w.heap.size + 1 < OB := by omega
  by_cases h0 : cs.getD 0 0 = 0
  · have H0 := Lib.hid h0
    have c1' := H1.cell 0 (by omega)
    rw [h0] at c1'
    clear h0 c0 H Z HB
    go_upto_region 5 with (first | (refine build_law rfl 28 rfl _ buildRack ?_) | (refine store_new rfl 28 _ _ rfl _ _ _ rfl _ rfl _ rfl rfl ?_ ?_ ?_; (· (first | assumption | rfl)); (· kernel_rfl)))
    rw [← hOB]
    clear hOB c1'
    generalize W.alloc (.cells (ints z24).toArray 28) = W1 at *
    have V0 : Hid (∀ j, j < 1 → 0 ≤ cs.getD j 0 ∧ cs.getD j 0 ≤ 4) := Lib.hid (fun j h => by
      obtain rfl : j = 0 := by omega
      rw [H0.out]; omega)
    have E1 := plainP_one H0.out
    go_loopg [5, 6, 7] 6 (fun gk s5 s6 s7 wr => ∃ m : Nat, gk = 7 - m ∧ 1 ≤ m ∧ m ≤ 6 ∧ s5 = .int .i64 ((plainP cs m).1 : Nat) ∧ s6 = .int .i64 m ∧ Has wr w.heap.size cs 6 ∧ Has wr OB (plainP cs m).2 24 ∧ Has wr (w.heap.size + 1) z24 24 ∧ Hid (Kept w wr) ∧ Hid (∀ j, j < m → 0 ≤ cs.getD j 0 ∧ cs.getD j 0 ≤ 4))
    case atStart => exact ⟨1, rfl, by omega, by omega, by rw [E1]; rfl, rfl, H1, by rw [E1]; exact R1, Z1, HB1, V0⟩
    case round =>
      obtain ⟨m, rfl, hm1, hm, rfl, rfl, GH, GO, GZ, GB, GV⟩ := hrel
      clear E1
      by_cases hm6 : m < 6
      · have hmi : (m : Int) ≤ 5 := by omega
        have hmi6 : (m : Int) < 6 := by omega
        have hm0 : (0 : Int) ≤ (m : Int) := by omega
        have cm := GH.cell m hm6
        by_cases hv : 0 ≤ cs.getD m 0 ∧ cs.getD m 0 ≤ 4
        · obtain ⟨N, hN⟩ : ∃ N : Nat, cs.getD m 0 = (N : Int) := ⟨(cs.getD m 0).toNat, by omega⟩
          have GV2 : Hid (∀ j, j < m + 1 → 0 ≤ cs.getD j 0 ∧ cs.getD j 0 ≤ 4) := Lib.hid (fun j h => by
            rcases Nat.lt_succ_iff_lt_or_eq.1 h with h1 | h1
            · exact GV.out j h1
            · rw [h1]; exact hv)
          have dv := decide_eq_true hv
          rw [hN] at cm dv
          have hN4 : N ≤ 4 := by omega
          have GN := Lib.hid hN
          have PY := Lib.hid (fun h => plainP_yes (cs := cs) (m := m) h)
          have PN := Lib.hid (show ¬ 0 < cs.getD m 0 → (plainP cs (m + 1)).1 = (plainP cs m).1 ∧ (plainP cs (m + 1)).2 = (plainP cs m).2 from fun h => by rw [plainP_no h]; exact ⟨rfl, rfl⟩)
          have hT : (plainP cs m).1 < 6 := by have := plainP_le cs m; omega
          have HL := Lib.hid (plainP_len cs m)
          clear hv GV hN
          go_wp2_with fail
          refine (l1In_any _ _ _ _).mono ?_
          rintro e w' ⟨rfl, rfl⟩
          rw [dv]
          generalize hR : (plainP cs m).2 = R at *
          generalize ht : (plainP cs m).1 = t at *
          clear hR ht dv cm
          have hti : (t : Int) < 6 := by omega
          have ht0 : (0 : Int) ≤ (t : Int) := by omega
          have K0 : Has wr OB (fillT R t (m : Int) 0) 24 := GO
          go_wp2_with fail
          go_loopg [7] N (fun gk s7 wx => ∃ k : Nat, gk = N - k ∧ k ≤ N ∧ s7 = .int .i64 k ∧ Has wx w.heap.size cs 6 ∧ Has wx OB (fillT R t (m : Int) k) 24 ∧ Has wx (w.heap.size + 1) z24 24 ∧ Hid (Kept w wx))
          case atStart => exact ⟨0, rfl, by omega, rfl, GH, K0, GZ, GB⟩
          case round =>
            obtain ⟨k, rfl, hk, rfl, KH, KO, KZ, KB⟩ := hrel
            have cm := KH.cell m hm6
            rw [GN.out] at cm
            by_cases hkN : k < N
            · have hki : (k : Int) < ((N : Nat) : Int) := by omega
              have hk4 : (k : Int) < 4 := by omega
              have hk0 : (0 : Int) ≤ (k : Int) := by omega
              have hlen := KO.len
              have c1 := KO.cell (t * 4 + k) (by omega)
              have f1 := KO.free (t * 4 + k) (by omega)
              have K1 := Lib.hid (show Has _ OB (fillT R t (m : Int) (k + 1)) 24 from KO.set (t * 4 + k) (m : Int) (by omega))
              have K2 := Lib.hid (KZ.setOther (b' := OB) (t * 4 + k) (.int .i64 (m : Int)) (by omega))
              have K3 := (KH.setOther (b' := OB) (t * 4 + k) (.int .i64 (m : Int)) (by omega))
              have K4 := Lib.hid (KB.out.set (b := OB) (by omega) (t * 4 + k) (.int .i64 (m : Int)))
              clear KO KZ KB KH
              generalize (fillT R t (m : Int) k).getD (t * 4 + k) 0 = x1 at *
              go_wp2_with fail
              go_roundg (N - (k + 1))
              case rel => exact ⟨k + 1, rfl, by omega, by go_num, K3, K1.out, K2.out, K4⟩
              case measure => omega
            · obtain rfl : k = N := by omega
              by_cases hk0 : 0 < k
              · have d1 : decide ((0 : Int) < (k : Int)) = true := by simp; omega
                have d2 : (0 : Int) < (k : Int) := by omega
                have P := Lib.hid (PY.out (by rw [GN.out]; omega))
                have L := Lib.hid KO
                clear KO
                go_wp2_with fail
                go_roundg (7 - (m + 1))
                case rel => exact ⟨m + 1, rfl, by omega, by omega, by rw [P.out]; show Value.int .i64 ((t : Int) + 1) = .int .i64 ((t + 1 : Nat) : Int); go_num, by go_num, KH, by rw [P.out]; show Has _ OB (fillT R t (m : Int) (cs.getD m 0).toNat) 24; rw [GN.out]; exact L.out, KZ, KB, GV2⟩
                case measure => omega
              · obtain rfl : k = 0 := by omega
                have P := Lib.hid (PN.out (by rw [GN.out]; omega))
                have L := Lib.hid KO
                clear KO
                go_wp2_with fail
                go_roundg (7 - (m + 1))
                case rel => exact ⟨m + 1, rfl, by omega, by omega, by rw [P.out.1], by go_num, KH, by rw [P.out.2]; exact L.out, KZ, KB, GV2⟩
                case measure => omega
        · have O := Lib.hid (plainOk_at m hm6 hv)
          have dv := decide_eq_false hv
          clear GV
          generalize cs.getD m 0 = x at *
          go_wp2_with fail
          refine (l1In_any _ _ _ _).mono ?_
          rintro e w' ⟨rfl, rfl⟩
          rw [dv]
          clear hv dv cm
          have S1 := Lib.hid (GZ.putAll z24 rfl)
          have S2 := Lib.hid (GB.out.puts (b := w.heap.size + 1) (by omega) 0 (ints z24))
          go_wp2_with (first | (refine build_law rfl 28 rfl _ buildRack ?_) | (refine store_new rfl 28 _ _ rfl _ _ _ rfl _ rfl _ rfl rfl ?_ ?_ ?_; (· (first | assumption | rfl)); (· kernel_rfl)) | (refine store_at rfl 28 _ _ rfl _ _ rfl rfl ?_ 24 ?_ ?_ ?_ ?_; rotate_left; (· (repeat (first | (with_reducible assumption) | ((with_reducible refine Has.box _ _ ?_ ?_) <;> (first | assumption | decide)) | (with_reducible refine Has.alloc ?_ _) | ((with_reducible refine Has.putOther ?_ _ _ ?_); rotate_left; omega; skip) | ((with_reducible refine Has.below ?_ ?_); rotate_left; assumption)))); (· (first | assumption | rfl)); (· kernel_rfl)))
          exact bodyPost_ret (res_has1 rfl _ _ (w.heap.size + 1) z24 24 _ (.bool false) rfl rfl S1.out Try.underlying28 rfl (by kernel_rfl)) rfl ⟨by unfold plainR; rw [O.out]; rfl, S2.out⟩
      · obtain rfl : m = 6 := by omega
        have O := Lib.hid (plainOk_all H0.out (fun j hj => GV.out j hj))
        have E := Lib.hid (show plainR cs = (plainP cs 6).2 by unfold plainR; rw [if_pos O.out])
        have PL := plainP_len cs 6
        have S1 := Lib.hid (GZ.putAll (plainP cs 6).2 PL)
        have S2 := Lib.hid (GB.out.puts (b := w.heap.size + 1) (by omega) 0 (ints (plainP cs 6).2))
        go_wp2_with (first | (refine load_has rfl 28 _ rfl _ rfl ?_ 24 ?_ _ Try.underlying28 rfl ?_ ?_; rotate_left; (· (repeat (first | (with_reducible assumption) | ((with_reducible refine Has.box _ _ ?_ ?_) <;> (first | assumption | decide)) | (with_reducible refine Has.alloc ?_ _) | ((with_reducible refine Has.putOther ?_ _ _ ?_); rotate_left; omega; skip) | ((with_reducible refine Has.below ?_ ?_); rotate_left; assumption)))); (· kernel_rfl)) | (refine store_at rfl 28 _ _ rfl _ _ rfl rfl ?_ 24 ?_ ?_ ?_ ?_; rotate_left; (· (repeat (first | (with_reducible assumption) | ((with_reducible refine Has.box _ _ ?_ ?_) <;> (first | assumption | decide)) | (with_reducible refine Has.alloc ?_ _) | ((with_reducible refine Has.putOther ?_ _ _ ?_); rotate_left; omega; skip) | ((with_reducible refine Has.below ?_ ?_); rotate_left; assumption)))); (· (first | assumption | rfl)); (· kernel_rfl)))
        exact bodyPost_ret (res_has1 rfl _ _ (w.heap.size + 1) _ 24 _ (.bool true) rfl rfl S1.out Try.underlying28 rfl (by kernel_rfl)) rfl ⟨by rw [E.out, O.out], S2.out⟩
  · have O := Lib.hid (plainOk_zero h0)
    have hb : (cs.getD 0 0 != 0) = true := by rw [bne_iff_ne]; exact h0
    have c1' := H1.cell 0 (by omega)
    clear H Z HB c0
    generalize cs.getD 0 0 = x0 at *
    clear h0 hOB R1
    have S1 := Lib.hid (Z1.putAll z24 rfl)
    have S2 := Lib.hid (HB1.out.puts (b := w.heap.size + 1) (by omega) 0 (ints z24))
    go_wp2_with (first | (refine build_law rfl 28 rfl _ buildRack ?_) | (refine store_new rfl 28 _ _ rfl _ _ _ rfl _ rfl _ rfl rfl ?_ ?_ ?_; (· (first | assumption | rfl)); (· kernel_rfl)) | (refine store_at rfl 28 _ _ rfl _ _ rfl rfl ?_ 24 ?_ ?_ ?_ ?_; rotate_left; (· (repeat (first | (with_reducible assumption) | ((with_reducible refine Has.box _ _ ?_ ?_) <;> (first | assumption | decide)) | (with_reducible refine Has.alloc ?_ _) | ((with_reducible refine Has.putOther ?_ _ _ ?_); rotate_left; omega; skip) | ((with_reducible refine Has.below ?_ ?_); rotate_left; assumption)))); (· (first | assumption | rfl)); (· kernel_rfl)))
    exact bodyPost_ret (res_has1 rfl _ _ (w.heap.size + 1) z24 24 _ (.bool false) rfl rfl S1.out Try.underlying28 rfl (by kernel_rfl)) rfl ⟨by unfold plainR; rw [O.out]; rfl, S2.out⟩
end Go.Proofs.Ythnkfdhnbafcjaa.base
