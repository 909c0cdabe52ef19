/-
  Runs, bottoms, boundaries and bounds, on the program's side, walked.
-/
import Derived.Test.YtmhkjakgdfadbaaBndS
import Derived.Test.YtmhkjakgdfadbaaRunsI
namespace Go.Proofs.Ytmhkjakgdfadbaa.base
open Go.ChangeShapes Go.WideShapes Go.ChangeAt Go.RowKit
set_option linter.unusedVariables false
set_option linter.unusedSimpArgs false

set_option maxHeartbeats 1600000 in
theorem implCountRuns (ns : List Int) (w : World) (h24 : ns.length = 24) :
    Calls Try.prog 11 #[row ns] w fun e w' => e = .returned (.tuple #[.int .i64 (runsA ns), .bool (vR ns)]) ∧ Kept w w' := by
  have HB := Lib.hid ((kept_refl w).alloc (.cells (ints ns).toArray 27))
  have H := Has.box w 27 h24 (by omega)
  rw [row_ints]
  go_enter Try.func11, Try.ntmps11
  go_wp2_with (refine load_has rfl 27 _ rfl _ rfl ?_ 24 ?_ _ Try.underlying27 rfl ?_ ?_; rotate_left; (· (repeat (first | (with_reducible assumption) | ((with_reducible refine Has.box _ _ ?_ ?_) <;> (first | assumption | decide)) | (with_reducible refine Has.alloc ?_ _) | ((with_reducible refine Has.putOther ?_ _ _ ?_); rotate_left; omega; skip) | ((with_reducible refine Has.below ?_ ?_); rotate_left; assumption)))); (· kernel_rfl))
  refine (isRack_any ns _ h24).mono ?_
  rintro e w1 ⟨rfl, b1⟩
  have H1 := H.below b1
  have HB1 := Lib.hid (HB.out.call b1)
  clear H HB b1
  by_cases hv : vR ns = true
  · rw [hv]
    have HU := Lib.hid (runUp_le h24 hv)
    have HN := Lib.hid (fun p hp => nR_le h24 hv p hp)
    have HV := Lib.hid hv
    have H24 := Lib.hid h24
    have E := Lib.hid (show runsA ns = (runUp ns 6 : Nat) by unfold runsA; rw [if_pos hv])
    clear hv
    go_wp2_with (refine load_has rfl 25 _ rfl _ rfl ?_ 24 ?_ _ Try.underlying25 rfl ?_ ?_; rotate_left; (· (repeat (first | (with_reducible assumption) | ((with_reducible refine Has.box _ _ ?_ ?_) <;> (first | assumption | decide)) | (with_reducible refine Has.alloc ?_ _) | ((with_reducible refine Has.putOther ?_ _ _ ?_); rotate_left; omega; skip) | ((with_reducible refine Has.below ?_ ?_); rotate_left; assumption)))); (· kernel_rfl))
    clear h24 H1
    go_loopw [4, 12] (fun m i wr => ∃ p : Nat, p ≤ 6 ∧ i = .int .i64 p ∧ m = .int .i64 (runUp ns p : Nat) ∧ Hid (Kept w wr)) (fun _ z _ => 6 - (intOf z).toNat)
    case atStart => exact ⟨0, by omega, rfl, rfl, HB1⟩
    case round =>
      obtain ⟨p, hp, rfl, rfl, GB⟩ := hrel
      by_cases hp6 : p < 6
      · have hpi : (p : Int) < 6 := by omega
        have h4 := tub_len ns p H24.out hp6
        have hvt := vR_tub HV.out p hp6
        have hu := HU.out p (by omega)
        have hn := HN.out p hp6
        have ER : Hid (runUp ns (p + 1) = runUp ns p + nR ns p) := Lib.hid rfl
        have EN : Hid (nR ns p = runsN (tub ns p) (lay (tub ns p))) := Lib.hid rfl
        have g0 := indexTub ns p hp6
        have HT := Has.box wr 24 h4 (by omega)
        have GB2 := Lib.hid (GB.out.alloc (.cells (ints (tub ns p)).toArray 24))
        clear GB
        go_wp2_with (first | (refine store_new rfl 24 _ _ rfl _ _ _ rfl _ rfl _ rfl rfl ?_ ?_ ?_; (· (first | assumption | rfl)); (· kernel_rfl)) | (refine load_has rfl 24 _ rfl _ rfl ?_ 4 ?_ _ Try.underlying24 rfl ?_ ?_; rotate_left; (· (repeat (first | (with_reducible assumption) | ((with_reducible refine Has.box _ _ ?_ ?_) <;> (first | assumption | decide)) | (with_reducible refine Has.alloc ?_ _) | ((with_reducible refine Has.putOther ?_ _ _ ?_); rotate_left; omega; skip) | ((with_reducible refine Has.below ?_ ?_); rotate_left; assumption)))); (· kernel_rfl)))
        refine (runs_any (tub ns p) _ h4 hvt).mono ?_
        rintro e w2 ⟨vr, rfl, q1, b2⟩
        rw [← EN.out] at q1
        obtain ⟨a, cap, rfl⟩ := prs_shape q1
        have GB3 := Lib.hid (GB2.out.call b2)
        clear g0 HT GB2 b2 q1
        generalize nR ns p = x at *
        generalize runUp ns p = y at *
        go_wp2_with fail
        go_roundw
        case rel => exact ⟨p + 1, by omega, by go_num, by rw [ER.out]; go_num, GB3⟩
        case measure => simp [intOf]; omega
      · obtain rfl : p = 6 := by omega
        go_wp2_with fail
        go_ret2
        exact ⟨by rw [E.out, HV.out]; rfl, GB.out⟩
  · have hf : vR ns = false := by simpa using hv
    have E := Lib.hid (show runsA ns = 0 by unfold runsA; rw [if_neg hv])
    rw [hf]
    have HV := Lib.hid hf
    clear hf hv
    go_wp2_with fail
    go_ret2
    exact ⟨by rw [E.out, HV.out]; rfl, HB1.out⟩

set_option maxHeartbeats 1600000 in
theorem implBottoms (ns : List Int) (w : World) (h24 : ns.length = 24) :
    Calls Try.prog 17 #[row ns] w fun e w' => e = .returned (.tuple #[.agg (ints (botA ns)).toArray, .bool (vR ns)]) ∧ Kept w w' := by
  have HB := Lib.hid ((((kept_refl w).alloc (.cells (ints ns).toArray 27)).alloc (.cells #[.int .i64 0, .int .i64 0, .int .i64 0, .int .i64 0, .int .i64 0, .int .i64 0] 36)).alloc (.cells #[.int .i64 0, .int .i64 0, .int .i64 0, .int .i64 0, .int .i64 0, .int .i64 0] 36))
  have H := ((Has.box w 27 h24 (by omega)).alloc (.cells #[.int .i64 0, .int .i64 0, .int .i64 0, .int .i64 0, .int .i64 0, .int .i64 0] 36)).alloc (.cells #[.int .i64 0, .int .i64 0, .int .i64 0, .int .i64 0, .int .i64 0, .int .i64 0] 36)
  have Z := ((Has.zero6 (w.alloc (.cells (ints ns).toArray 27)) 36).at (size1 _ _)).alloc (.cells #[.int .i64 0, .int .i64 0, .int .i64 0, .int .i64 0, .int .i64 0, .int .i64 0] 36)
  have Y := (Has.zero6 ((w.alloc (.cells (ints ns).toArray 27)).alloc (.cells #[.int .i64 0, .int .i64 0, .int .i64 0, .int .i64 0, .int .i64 0, .int .i64 0] 36)) 36).at (c := w.heap.size + 1 + 1) (by simp)
  rw [row_ints]
  go_enter Try.func17, Try.ntmps17
  go_wp2_with (refine load_has rfl 27 _ rfl _ rfl ?_ 24 ?_ _ Try.underlying27 rfl ?_ ?_; rotate_left; (· (repeat (first | (with_reducible assumption) | ((with_reducible refine Has.box _ _ ?_ ?_) <;> (first | assumption | decide)) | (with_reducible refine Has.alloc ?_ _) | ((with_reducible refine Has.putOther ?_ _ _ ?_); rotate_left; omega; skip) | ((with_reducible refine Has.below ?_ ?_); rotate_left; assumption)))); (· kernel_rfl))
  refine (isRack_any ns _ h24).mono ?_
  rintro e w1 ⟨rfl, b1⟩
  have H1 := H.below b1
  have Z1 := Z.below b1
  have Y1 := Y.below b1
  have HB1 := Lib.hid (HB.out.call b1)
  have B0 := Lib.hid (bot0 ns)
  clear H HB Z Y b1
  by_cases hv : vR ns = true
  · rw [hv]
    have HV := Lib.hid hv
    have HL := Lib.hid h24
    have E := Lib.hid (show botA ns = botUp ns 6 by unfold botA; rw [if_pos hv])
    clear hv h24
    go_wp2_with fail
    go_loopg [11] 6 (fun gk i wr => ∃ p : Nat, gk = 6 - p ∧ p ≤ 6 ∧ i = .int .i64 p ∧ Has wr w.heap.size ns 24 ∧ Has wr (w.heap.size + 1 + 1) (botUp ns p) 6 ∧ Has wr (w.heap.size + 1) z6 6 ∧ Hid (Kept w wr))
    case atStart => exact ⟨0, rfl, by omega, rfl, H1, by rw [B0.out]; exact Y1, Z1, HB1⟩
    case round =>
      obtain ⟨p, rfl, hp, rfl, GH, GY, GZ, GB⟩ := hrel
      by_cases hp6 : p < 6
      · have hpi : (p : Int) < 6 := by omega
        have c0 := GH.rackCell p 0 hp6 (by omega)
        rw [Nat.add_zero] at c0
        obtain ⟨c, hc6, hce, hcs⟩ := bot_step ns HL.out HV.out p hp6
        rw [hce] at c0
        have cb := (bot_all ns p).2 c
        have c1 := GY.cell c hc6
        have f1 := GY.free c hc6
        have hc6' : (c : Int) < 6 := by omega
        have S1 := GY.set c ((botUp ns p).getD c 0 + 1) hc6
        rw [← hcs] at S1
        have S2 := Lib.hid S1
        have S3 := Lib.hid (GZ.setOther (b' := w.heap.size + 1 + 1) c (.int .i64 ((botUp ns p).getD c 0 + 1)) (by omega))
        have S5 := Lib.hid (GH.setOther (b' := w.heap.size + 1 + 1) c (.int .i64 ((botUp ns p).getD c 0 + 1)) (by omega))
        have S4 := Lib.hid (GB.out.set (b := w.heap.size + 1 + 1) (by omega) c (.int .i64 ((botUp ns p).getD c 0 + 1)))
        have cb0 := cb.1
        have cb1 : (botUp ns p).getD c 0 ≤ 6 := by omega
        clear cb hce hcs S1 GH GY GZ GB
        generalize (botUp ns p).getD c 0 = v at *
        go_wp2_with fail
        go_roundg (6 - (p + 1))
        case rel => exact ⟨p + 1, rfl, by omega, by go_num, S5.out, S2.out, S3.out, S4⟩
        case measure => omega
      · obtain rfl : p = 6 := by omega
        have hl := (bot_all ns 6).1
        have S1 := Lib.hid (GZ.putAll (botUp ns 6) hl)
        have S2 := Lib.hid (GB.out.puts (b := w.heap.size + 1) (by omega) 0 (ints (botUp ns 6)))
        go_wp2_with (first | (refine load_has rfl 36 _ rfl _ rfl ?_ 6 ?_ _ Try.underlying36 rfl ?_ ?_; rotate_left; (· (repeat (first | (with_reducible assumption) | ((with_reducible refine Has.box _ _ ?_ ?_) <;> (first | assumption | decide)) | (with_reducible refine Has.alloc ?_ _) | ((with_reducible refine Has.putOther ?_ _ _ ?_); rotate_left; omega; skip) | ((with_reducible refine Has.below ?_ ?_); rotate_left; assumption)))); (· kernel_rfl)) | (refine store_at rfl 36 _ _ rfl _ _ rfl rfl ?_ 6 ?_ ?_ ?_ ?_; rotate_left; (· (repeat (first | (with_reducible assumption) | ((with_reducible refine Has.box _ _ ?_ ?_) <;> (first | assumption | decide)) | (with_reducible refine Has.alloc ?_ _) | ((with_reducible refine Has.putOther ?_ _ _ ?_); rotate_left; omega; skip) | ((with_reducible refine Has.below ?_ ?_); rotate_left; assumption)))); (· (first | assumption | rfl)); (· kernel_rfl)))
        exact bodyPost_ret (res_has1 rfl _ _ (w.heap.size + 1) (botUp ns 6) 6 _ (.bool true) rfl rfl S1.out Try.underlying36 rfl (by kernel_rfl)) rfl ⟨by rw [E.out, HV.out], S2.out⟩
  · have hf : vR ns = false := by simpa using hv
    have E := Lib.hid (show botA ns = z6 by unfold botA; rw [if_neg hv])
    rw [hf]
    have HF := Lib.hid hf
    clear hf hv
    have S1 := Lib.hid (Z1.putAll z6 rfl)
    have S2 := Lib.hid (HB1.out.puts (b := w.heap.size + 1) (by omega) 0 (ints z6))
    have hz : z6.length = 6 := rfl
    go_wp2_with (first | (refine load_has rfl 36 _ rfl _ rfl ?_ 6 ?_ _ Try.underlying36 rfl ?_ ?_; rotate_left; (· (repeat (first | (with_reducible assumption) | ((with_reducible refine Has.box _ _ ?_ ?_) <;> (first | assumption | decide)) | (with_reducible refine Has.alloc ?_ _) | ((with_reducible refine Has.putOther ?_ _ _ ?_); rotate_left; omega; skip) | ((with_reducible refine Has.below ?_ ?_); rotate_left; assumption)))); (· kernel_rfl)) | (refine store_at rfl 36 _ _ rfl _ _ rfl rfl ?_ 6 ?_ ?_ ?_ ?_; rotate_left; (· (repeat (first | (with_reducible assumption) | ((with_reducible refine Has.box _ _ ?_ ?_) <;> (first | assumption | decide)) | (with_reducible refine Has.alloc ?_ _) | ((with_reducible refine Has.putOther ?_ _ _ ?_); rotate_left; omega; skip) | ((with_reducible refine Has.below ?_ ?_); rotate_left; assumption)))); (· (first | assumption | rfl)); (· kernel_rfl)))
    exact bodyPost_ret (res_has1 rfl _ _ (w.heap.size + 1) z6 6 _ (.bool false) rfl rfl S1.out Try.underlying36 rfl (by kernel_rfl)) rfl ⟨by rw [E.out, HF.out], S2.out⟩

set_option maxHeartbeats 1600000 in
theorem implEdges (ns : List Int) (w : World) (h24 : ns.length = 24) :
    Calls Try.prog 13 #[row ns] w fun e w' => e = .returned (.tuple #[.int .i64 (edgeA ns), .bool (vR ns)]) ∧ Kept w w' := by
  have HB := Lib.hid ((kept_refl w).alloc (.cells (ints ns).toArray 27))
  have H := Has.box w 27 h24 (by omega)
  rw [row_ints]
  go_enter Try.func13, Try.ntmps13
  go_wp2_with (refine load_has rfl 27 _ rfl _ rfl ?_ 24 ?_ _ Try.underlying27 rfl ?_ ?_; rotate_left; (· (repeat (first | (with_reducible assumption) | ((with_reducible refine Has.box _ _ ?_ ?_) <;> (first | assumption | decide)) | (with_reducible refine Has.alloc ?_ _) | ((with_reducible refine Has.putOther ?_ _ _ ?_); rotate_left; omega; skip) | ((with_reducible refine Has.below ?_ ?_); rotate_left; assumption)))); (· kernel_rfl))
  refine (implCountRuns ns _ h24).mono ?_
  rintro e w1 ⟨rfl, b1⟩
  have H1 := H.below b1
  have HB1 := Lib.hid (HB.out.call b1)
  clear H HB b1
  by_cases hv : vR ns = true
  · rw [hv]
    have hu := runUp_le h24 hv 6 (Nat.le_refl _)
    have HV := Lib.hid hv
    rw [show runsA ns = (runUp ns 6 : Nat) by unfold runsA; rw [if_pos hv]]
    have E := Lib.hid (show edgeA ns = (runUp ns 6 : Nat) - 6 + (botUp ns 6).getD 0 0 by unfold edgeA; rw [if_pos hv]; rfl)
    have EB := Lib.hid (show botA ns = botUp ns 6 by unfold botA; rw [if_pos hv])
    have hl := (bot_all ns 6).1
    have hb := (bot_all ns 6).2 0
    generalize runUp ns 6 = y at *
    clear hv
    go_wp2_with (refine load_has rfl 27 _ rfl _ rfl ?_ 24 ?_ _ Try.underlying27 rfl ?_ ?_; rotate_left; (· (repeat (first | (with_reducible assumption) | ((with_reducible refine Has.box _ _ ?_ ?_) <;> (first | assumption | decide)) | (with_reducible refine Has.alloc ?_ _) | ((with_reducible refine Has.putOther ?_ _ _ ?_); rotate_left; omega; skip) | ((with_reducible refine Has.below ?_ ?_); rotate_left; assumption)))); (· kernel_rfl))
    refine (implBottoms ns _ h24).mono ?_
    rintro e w2 ⟨rfl, b2⟩
    rw [EB.out, HV.out]
    have HB2 := Lib.hid ((HB1.out.call b2).alloc (.cells (ints (botUp ns 6)).toArray 36))
    have Z := Has.box w2 36 hl (by omega)
    have c0 := Z.cell 0 (by omega)
    clear b2 H1 HB1
    generalize hx : (botUp ns 6).getD 0 0 = x at *
    clear hx
    go_wp2_with (first | (refine store_new rfl 36 _ _ rfl _ _ _ rfl _ rfl _ rfl rfl ?_ ?_ ?_; (· (first | assumption | rfl)); (· kernel_rfl)))
    go_ret2
    exact ⟨by rw [E.out, HV.out, show (y : Int) - 6 + x = (y : Int) - (6 - x) by omega]; rfl, HB2.out⟩
  · have hf : vR ns = false := by simpa using hv
    have E := Lib.hid (show edgeA ns = 0 by unfold edgeA; rw [if_neg hv])
    rw [hf]
    have HV := Lib.hid hf
    clear hf hv
    go_wp2_with fail
    go_ret2
    exact ⟨by rw [E.out, HV.out]; rfl, HB1.out⟩

set_option maxHeartbeats 1600000 in
theorem implBound (ns : List Int) (w : World) (h24 : ns.length = 24) :
    Calls Try.prog 8 #[row ns] w fun e w' => e = .returned (.tuple #[.int .i64 (bndA ns), .bool (vR ns)]) ∧ Kept w w' := by
  have HB := Lib.hid ((kept_refl w).alloc (.cells (ints ns).toArray 27))
  have H := Has.box w 27 h24 (by omega)
  rw [row_ints]
  go_enter Try.func8, Try.ntmps8
  go_wp2_with (refine load_has rfl 27 _ rfl _ rfl ?_ 24 ?_ _ Try.underlying27 rfl ?_ ?_; rotate_left; (· (repeat (first | (with_reducible assumption) | ((with_reducible refine Has.box _ _ ?_ ?_) <;> (first | assumption | decide)) | (with_reducible refine Has.alloc ?_ _) | ((with_reducible refine Has.putOther ?_ _ _ ?_); rotate_left; omega; skip) | ((with_reducible refine Has.below ?_ ?_); rotate_left; assumption)))); (· kernel_rfl))
  refine (implEdges ns _ h24).mono ?_
  rintro e w1 ⟨rfl, b1⟩
  have H1 := H.below b1
  have HB1 := Lib.hid (HB.out.call b1)
  clear H HB b1
  by_cases hv : vR ns = true
  · rw [hv]
    have HI := Lib.hid (bnd_in h24 hv)
    have HV := Lib.hid hv
    rw [show edgeA ns = bndUp ns 0 by unfold edgeA; rw [if_pos hv]; rfl]
    have E := Lib.hid (show bndA ns = bndUp ns 5 by unfold bndA; rw [if_pos hv]; rfl)
    have EB := Lib.hid (show botA ns = botUp ns 6 by unfold botA; rw [if_pos hv])
    have hl := (bot_all ns 6).1
    have HC := Lib.hid (bot_all ns 6).2
    clear hv
    go_wp2_with (refine load_has rfl 27 _ rfl _ rfl ?_ 24 ?_ _ Try.underlying27 rfl ?_ ?_; rotate_left; (· (repeat (first | (with_reducible assumption) | ((with_reducible refine Has.box _ _ ?_ ?_) <;> (first | assumption | decide)) | (with_reducible refine Has.alloc ?_ _) | ((with_reducible refine Has.putOther ?_ _ _ ?_); rotate_left; omega; skip) | ((with_reducible refine Has.below ?_ ?_); rotate_left; assumption)))); (· kernel_rfl))
    refine (implBottoms ns _ h24).mono ?_
    rintro e w2 ⟨rfl, b2⟩
    rw [EB.out, HV.out]
    have HB2 := Lib.hid ((HB1.out.call b2).alloc (.cells (ints (botUp ns 6)).toArray 36))
    have Z := Has.box w2 36 hl (by omega)
    clear b2 H1 HB1
    go_wp2_with (first | (refine store_new rfl 36 _ _ rfl _ _ _ rfl _ rfl _ rfl rfl ?_ ?_ ?_; (· (first | assumption | rfl)); (· kernel_rfl)))
    generalize w2.alloc (.cells (ints (botUp ns 6)).toArray 36) = W3 at *
    go_loop [4, 21] (fun m i => ∃ c : Nat, c ≤ 5 ∧ i = .int .i64 (c : Int) ∧ m = .int .i64 (bndUp ns c)) (fun _ z => 5 - (intOf z).toNat)
    case atStart => exact ⟨0, by omega, rfl, rfl⟩
    case round =>
      obtain ⟨c, hc, rfl, rfl⟩ := hrel
      by_cases hc5 : c < 5
      · have hci : (c : Int) < 5 := by omega
        have hc0 := Z.cell (c + 1) (by omega)
        have hcc := HC.out (c + 1)
        have hbb := HI.out c
        have EN : Hid (bndUp ns (c + 1) = bndUp ns c + max ((botUp ns 6).getD (c + 1) 0 - 1) 0) := Lib.hid rfl
        generalize (botUp ns 6).getD (c + 1) 0 = x at *
        generalize bndUp ns c = y at *
        go_wp2_with fail
        all_goals
          go_round
          case rel => exact ⟨c + 1, by omega, by go_num, by rw [EN.out]; congr 1; omega⟩
          case measure => simp [intOf]; omega
      · obtain rfl : c = 5 := by omega
        go_wp2_with fail
        go_ret2
        exact ⟨by rw [E.out, HV.out]; rfl, HB2.out⟩
  · have hf : vR ns = false := by simpa using hv
    have E := Lib.hid (show bndA ns = 0 by unfold bndA; rw [if_neg hv])
    rw [hf]
    have HV := Lib.hid hf
    clear hf hv
    go_wp2_with fail
    go_ret2
    exact ⟨by rw [E.out, HV.out]; rfl, HB1.out⟩
end Go.Proofs.Ytmhkjakgdfadbaa.base
