/-
  Racks in another order, on both sides, walked.
-/
import Derived.Test.YtjbphpjmpjkclaaSixW
import Derived.Test.YtjbphpjmpjkclaaRackOps
namespace Go.Proofs.Ytjbphpjmpjkclaa.base
open Go.ChangeShapes Go.WideShapes Go.ChangeAt Go.RowKit
set_option linter.unusedVariables false
set_option linter.unusedSimpArgs false

theorem ordR_yes {ns os : List Int} (hv : vR ns = true) (hn : permL os = true) : ordOk ns os = true ∧ ordR ns os = ordUp ns os 6 := by
  have h : ordOk ns os = true := by unfold ordOk; rw [hv, hn]; rfl
  exact ⟨h, by unfold ordR; rw [if_pos h]⟩
theorem ordR_no {ns os : List Int} (h : ¬ (vR ns = true ∧ permL os = true)) : ordOk ns os = false ∧ ordR ns os = z24 := by
  have h2 : ordOk ns os = false := by
    cases hb : ordOk ns os with
    | false => rfl
    | true => unfold ordOk at hb; exact absurd (Bool.and_eq_true_iff.1 hb) h
  exact ⟨h2, by unfold ordR; rw [h2]; rfl⟩

set_option maxHeartbeats 1600000 in
theorem l4Order_any (ns os : List Int) (w : World) (h24 : ns.length = 24) (h6 : os.length = 6) (hp : permL os = true) :
    Calls Try.prog 34 #[row ns, row os] w fun e w' => e = .returned (.agg (ints (ordUp ns os 6)).toArray) ∧ Kept w w' := by
  have HB := Lib.hid (((((kept_refl w).alloc (.cells (ints ns).toArray 29)).alloc (.cells (ints os).toArray 22)).alloc (.cells #[.int .i64 0, .int .i64 0, .int .i64 0, .int .i64 0, .int .i64 0, .int .i64 0, .int .i64 0, .int .i64 0, .int .i64 0, .int .i64 0, .int .i64 0, .int .i64 0, .int .i64 0, .int .i64 0, .int .i64 0, .int .i64 0, .int .i64 0, .int .i64 0, .int .i64 0, .int .i64 0, .int .i64 0, .int .i64 0, .int .i64 0, .int .i64 0] 29)).alloc (.cells #[.int .i64 0, .int .i64 0, .int .i64 0, .int .i64 0, .int .i64 0, .int .i64 0, .int .i64 0, .int .i64 0, .int .i64 0, .int .i64 0, .int .i64 0, .int .i64 0, .int .i64 0, .int .i64 0, .int .i64 0, .int .i64 0, .int .i64 0, .int .i64 0, .int .i64 0, .int .i64 0, .int .i64 0, .int .i64 0, .int .i64 0, .int .i64 0] 29))
  have H := (((Has.box w 29 h24 (by omega)).alloc (.cells (ints os).toArray 22)).alloc (.cells #[.int .i64 0, .int .i64 0, .int .i64 0, .int .i64 0, .int .i64 0, .int .i64 0, .int .i64 0, .int .i64 0, .int .i64 0, .int .i64 0, .int .i64 0, .int .i64 0, .int .i64 0, .int .i64 0, .int .i64 0, .int .i64 0, .int .i64 0, .int .i64 0, .int .i64 0, .int .i64 0, .int .i64 0, .int .i64 0, .int .i64 0, .int .i64 0] 29)).alloc (.cells #[.int .i64 0, .int .i64 0, .int .i64 0, .int .i64 0, .int .i64 0, .int .i64 0, .int .i64 0, .int .i64 0, .int .i64 0, .int .i64 0, .int .i64 0, .int .i64 0, .int .i64 0, .int .i64 0, .int .i64 0, .int .i64 0, .int .i64 0, .int .i64 0, .int .i64 0, .int .i64 0, .int .i64 0, .int .i64 0, .int .i64 0, .int .i64 0] 29)
  have O := (((Has.box (w.alloc (.cells (ints ns).toArray 29)) 22 h6 (by omega)).at (size1 _ _)).alloc (.cells #[.int .i64 0, .int .i64 0, .int .i64 0, .int .i64 0, .int .i64 0, .int .i64 0, .int .i64 0, .int .i64 0, .int .i64 0, .int .i64 0, .int .i64 0, .int .i64 0, .int .i64 0, .int .i64 0, .int .i64 0, .int .i64 0, .int .i64 0, .int .i64 0, .int .i64 0, .int .i64 0, .int .i64 0, .int .i64 0, .int .i64 0, .int .i64 0] 29)).alloc (.cells #[.int .i64 0, .int .i64 0, .int .i64 0, .int .i64 0, .int .i64 0, .int .i64 0, .int .i64 0, .int .i64 0, .int .i64 0, .int .i64 0, .int .i64 0, .int .i64 0, .int .i64 0, .int .i64 0, .int .i64 0, .int .i64 0, .int .i64 0, .int .i64 0, .int .i64 0, .int .i64 0, .int .i64 0, .int .i64 0, .int .i64 0, .int .i64 0] 29)
  have Z := ((Has.zero24 ((w.alloc (.cells (ints ns).toArray 29)).alloc (.cells (ints os).toArray 22)) 29).at (c := w.heap.size + 1 + 1) (by simp)).alloc (.cells #[.int .i64 0, .int .i64 0, .int .i64 0, .int .i64 0, .int .i64 0, .int .i64 0, .int .i64 0, .int .i64 0, .int .i64 0, .int .i64 0, .int .i64 0, .int .i64 0, .int .i64 0, .int .i64 0, .int .i64 0, .int .i64 0, .int .i64 0, .int .i64 0, .int .i64 0, .int .i64 0, .int .i64 0, .int .i64 0, .int .i64 0, .int .i64 0] 29)
  have Y := ((Has.zero24 (((w.alloc (.cells (ints ns).toArray 29)).alloc (.cells (ints os).toArray 22)).alloc (.cells #[.int .i64 0, .int .i64 0, .int .i64 0, .int .i64 0, .int .i64 0, .int .i64 0, .int .i64 0, .int .i64 0, .int .i64 0, .int .i64 0, .int .i64 0, .int .i64 0, .int .i64 0, .int .i64 0, .int .i64 0, .int .i64 0, .int .i64 0, .int .i64 0, .int .i64 0, .int .i64 0, .int .i64 0, .int .i64 0, .int .i64 0, .int .i64 0] 29)) 29).at (c := w.heap.size + 1 + 1 + 1) (by simp)).asL (ordUp_0 ns os).symm
  have hz : z24.length = 24 := rfl
  rw [row_ints, row_ints]
  go_enter Try.func34, Try.ntmps34
  go_wp2_with (first | (refine build_law rfl 29 rfl _ buildRack ?_) | (refine store_new rfl 29 _ _ rfl _ _ _ rfl _ (by simp) z24 rfl rfl ?_ ?_ ?_; (· (first | assumption | rfl)); (· kernel_rfl)))
  have HP := Lib.hid hp
  have HL := Lib.hid h24
  clear hp h24 h6
  go_loopg [6] 6 (fun gk i wr => ∃ p : Nat, gk = 6 - p ∧ p ≤ 6 ∧ i = .int .i64 p ∧ Has wr w.heap.size ns 24 ∧ Has wr (w.heap.size + 1) os 6 ∧ Has wr (w.heap.size + 1 + 1) z24 24 ∧ Has wr (w.heap.size + 1 + 1 + 1) (ordUp ns os p) 24 ∧ Hid (Kept w wr))
  case atStart => exact ⟨0, rfl, by omega, rfl, H, O, Z, Y, HB⟩
  case round =>
    obtain ⟨p, rfl, hp, rfl, GH, GO, GZ, GY, GB⟩ := hrel
    by_cases hp6 : p < 6
    · have hpi : (p : Int) < 6 := by omega
      obtain ⟨c, hc6, hce⟩ := perm_nat HP.out p hp6
      have hc6' : (c : Int) < 6 := by omega
      have g1 := GO.cell p hp6
      rw [hce] at g1
      have t4 := tub_len ns c HL.out hc6
      have th := Lib.hid (GY.holds.thereSub (p * 4) 4 (by rw [ints_len, GY.len]; omega))
      have S1 := Lib.hid ((GY.putTub p hp6 (tub ns c) t4).asL (ordUp_step HL.out HP.out p c hp6 hc6 hce))
      have S2 := Lib.hid (GZ.putOther (b' := w.heap.size + 1 + 1 + 1) (p * 4) (ints (tub ns c)) (by omega))
      have S5 := Lib.hid (GH.putOther (b' := w.heap.size + 1 + 1 + 1) (p * 4) (ints (tub ns c)) (by omega))
      have S3 := Lib.hid (GO.putOther (b' := w.heap.size + 1 + 1 + 1) (p * 4) (ints (tub ns c)) (by omega))
      have S4 := Lib.hid (GB.out.puts (b := w.heap.size + 1 + 1 + 1) (by omega) (p * 4) (ints (tub ns c)))
      clear hce GZ GB GY
      go_wp2_with (first | (refine load_tub rfl 25 _ rfl _ (c) _ rfl ?_ ?_ ?_ ?_ _ Try.underlying25 rfl ?_ ?_; (· (first | rfl | omega)); rotate_left; (· (repeat (first | (with_reducible assumption) | ((with_reducible refine Has.box _ _ ?_ ?_) <;> (first | assumption | decide)) | (with_reducible refine Has.alloc ?_ _) | ((with_reducible refine Has.putOther ?_ _ _ ?_); rotate_left; omega; skip) | ((with_reducible refine Has.below ?_ ?_); rotate_left; assumption)))); (· omega); (· kernel_rfl)) | (refine store_has rfl 25 _ _ rfl (w.heap.size + 1 + 1 + 1) (p * 4) (tub ns c) rfl rfl 4 t4 th.out ?_ ?_; (· kernel_rfl)))
      go_roundg (6 - (p + 1))
      case rel => exact ⟨p + 1, rfl, by omega, by go_num, S5.out, S3.out, S2.out, S1.out, S4⟩
      case measure => omega
    · obtain rfl : p = 6 := by omega
      obtain ⟨ms, hms⟩ : ∃ ms, ordUp ns os 6 = ms := ⟨_, rfl⟩
      rw [hms] at GY
      have HM := Lib.hid hms
      clear hms
      have hl := GY.len
      have S1 := Lib.hid (GZ.putAll ms hl)
      have S2 := Lib.hid (GB.out.puts (b := w.heap.size + 1 + 1) (by omega) 0 (ints ms))
      go_wp2_with (first | (refine load_has rfl 29 _ rfl _ rfl ?_ 24 ?_ _ Try.underlying29 rfl ?_ ?_; rotate_left; (· (repeat (first | (with_reducible assumption) | ((with_reducible refine Has.box _ _ ?_ ?_) <;> (first | assumption | decide)) | (with_reducible refine Has.alloc ?_ _) | ((with_reducible refine Has.putOther ?_ _ _ ?_); rotate_left; omega; skip) | ((with_reducible refine Has.below ?_ ?_); rotate_left; assumption)))); (· kernel_rfl)) | (refine store_at rfl 29 _ _ rfl _ _ rfl rfl ?_ 24 ?_ ?_ ?_ ?_; rotate_left; (· (repeat (first | (with_reducible assumption) | ((with_reducible refine Has.box _ _ ?_ ?_) <;> (first | assumption | decide)) | (with_reducible refine Has.alloc ?_ _) | ((with_reducible refine Has.putOther ?_ _ _ ?_); rotate_left; omega; skip) | ((with_reducible refine Has.below ?_ ?_); rotate_left; assumption)))); (· (first | assumption | rfl)); (· kernel_rfl)))
      exact bodyPost_ret (res_has rfl _ _ (w.heap.size + 1 + 1) ms 24 _ rfl S1.out Try.underlying29 rfl (by kernel_rfl)) rfl ⟨by rw [HM.out], S2.out⟩

set_option maxHeartbeats 1600000 in
theorem specOrderRack (ns os : List Int) (w : World) (h24 : ns.length = 24) (h6 : os.length = 6) :
    Calls Try.prog 18 #[row ns, row os] w fun e w' => e = .returned (.tuple #[.agg (ints (ordR ns os)).toArray, .bool (ordOk ns os)]) ∧ Kept w w' := by
  have HB := Lib.hid ((((kept_refl w).alloc (.cells (ints ns).toArray 29)).alloc (.cells (ints os).toArray 22)).alloc (.cells #[.int .i64 0, .int .i64 0, .int .i64 0, .int .i64 0, .int .i64 0, .int .i64 0, .int .i64 0, .int .i64 0, .int .i64 0, .int .i64 0, .int .i64 0, .int .i64 0, .int .i64 0, .int .i64 0, .int .i64 0, .int .i64 0, .int .i64 0, .int .i64 0, .int .i64 0, .int .i64 0, .int .i64 0, .int .i64 0, .int .i64 0, .int .i64 0] 29))
  have H := ((Has.box w 29 h24 (by omega)).alloc (.cells (ints os).toArray 22)).alloc (.cells #[.int .i64 0, .int .i64 0, .int .i64 0, .int .i64 0, .int .i64 0, .int .i64 0, .int .i64 0, .int .i64 0, .int .i64 0, .int .i64 0, .int .i64 0, .int .i64 0, .int .i64 0, .int .i64 0, .int .i64 0, .int .i64 0, .int .i64 0, .int .i64 0, .int .i64 0, .int .i64 0, .int .i64 0, .int .i64 0, .int .i64 0, .int .i64 0] 29)
  have O := ((Has.box (w.alloc (.cells (ints ns).toArray 29)) 22 h6 (by omega)).at (size1 _ _)).alloc (.cells #[.int .i64 0, .int .i64 0, .int .i64 0, .int .i64 0, .int .i64 0, .int .i64 0, .int .i64 0, .int .i64 0, .int .i64 0, .int .i64 0, .int .i64 0, .int .i64 0, .int .i64 0, .int .i64 0, .int .i64 0, .int .i64 0, .int .i64 0, .int .i64 0, .int .i64 0, .int .i64 0, .int .i64 0, .int .i64 0, .int .i64 0, .int .i64 0] 29)
  have Z := (Has.zero24 ((w.alloc (.cells (ints ns).toArray 29)).alloc (.cells (ints os).toArray 22)) 29).at (c := w.heap.size + 1 + 1) (by simp)
  have hz : z24.length = 24 := rfl
  rw [row_ints, row_ints]
  go_enter Try.func18, Try.ntmps18
  go_wp2_with (first | (refine load_has rfl 29 _ rfl _ rfl ?_ 24 ?_ _ Try.underlying29 rfl ?_ ?_; rotate_left; (· (repeat (first | (with_reducible assumption) | ((with_reducible refine Has.box _ _ ?_ ?_) <;> (first | assumption | decide)) | (with_reducible refine Has.alloc ?_ _) | ((with_reducible refine Has.putOther ?_ _ _ ?_); rotate_left; omega; skip) | ((with_reducible refine Has.below ?_ ?_); rotate_left; assumption)))); (· kernel_rfl)) | (refine load_has rfl 22 _ rfl _ rfl ?_ 6 ?_ _ Try.underlying22 rfl ?_ ?_; rotate_left; (· (repeat (first | (with_reducible assumption) | ((with_reducible refine Has.box _ _ ?_ ?_) <;> (first | assumption | decide)) | (with_reducible refine Has.alloc ?_ _) | ((with_reducible refine Has.putOther ?_ _ _ ?_); rotate_left; omega; skip) | ((with_reducible refine Has.below ?_ ?_); rotate_left; assumption)))); (· kernel_rfl)))
  refine (l2Rack_any ns _ h24).mono ?_
  rintro e w1 ⟨rfl, b1⟩
  replace H := H.below b1
  replace O := O.below b1
  replace Z := Z.below b1
  replace HB := Lib.hid (HB.out.call b1)
  clear b1
  by_cases hv : vR ns = true
  · rw [hv]
    have HV := Lib.hid hv
    clear hv
    go_wp2_with (first | (refine load_has rfl 29 _ rfl _ rfl ?_ 24 ?_ _ Try.underlying29 rfl ?_ ?_; rotate_left; (· (repeat (first | (with_reducible assumption) | ((with_reducible refine Has.box _ _ ?_ ?_) <;> (first | assumption | decide)) | (with_reducible refine Has.alloc ?_ _) | ((with_reducible refine Has.putOther ?_ _ _ ?_); rotate_left; omega; skip) | ((with_reducible refine Has.below ?_ ?_); rotate_left; assumption)))); (· kernel_rfl)) | (refine load_has rfl 22 _ rfl _ rfl ?_ 6 ?_ _ Try.underlying22 rfl ?_ ?_; rotate_left; (· (repeat (first | (with_reducible assumption) | ((with_reducible refine Has.box _ _ ?_ ?_) <;> (first | assumption | decide)) | (with_reducible refine Has.alloc ?_ _) | ((with_reducible refine Has.putOther ?_ _ _ ?_); rotate_left; omega; skip) | ((with_reducible refine Has.below ?_ ?_); rotate_left; assumption)))); (· kernel_rfl)))
    refine (l4Perm_any os _ h6).mono ?_
    rintro e w2 ⟨rfl, b2⟩
    replace H := H.below b2
    replace O := O.below b2
    replace Z := Z.below b2
    replace HB := Lib.hid (HB.out.call b2)
    clear b2
    by_cases hn : permL os = true
    · rw [hn]
      have V := Lib.hid (ordR_yes HV.out hn)
      have HP := Lib.hid hn
      clear hn
      go_wp2_with (first | (refine load_has rfl 29 _ rfl _ rfl ?_ 24 ?_ _ Try.underlying29 rfl ?_ ?_; rotate_left; (· (repeat (first | (with_reducible assumption) | ((with_reducible refine Has.box _ _ ?_ ?_) <;> (first | assumption | decide)) | (with_reducible refine Has.alloc ?_ _) | ((with_reducible refine Has.putOther ?_ _ _ ?_); rotate_left; omega; skip) | ((with_reducible refine Has.below ?_ ?_); rotate_left; assumption)))); (· kernel_rfl)) | (refine load_has rfl 22 _ rfl _ rfl ?_ 6 ?_ _ Try.underlying22 rfl ?_ ?_; rotate_left; (· (repeat (first | (with_reducible assumption) | ((with_reducible refine Has.box _ _ ?_ ?_) <;> (first | assumption | decide)) | (with_reducible refine Has.alloc ?_ _) | ((with_reducible refine Has.putOther ?_ _ _ ?_); rotate_left; omega; skip) | ((with_reducible refine Has.below ?_ ?_); rotate_left; assumption)))); (· kernel_rfl)))
      refine (l4Order_any ns os _ h24 h6 HP.out).mono ?_
      rintro e w3 ⟨rfl, b3⟩
      replace Z := Z.below b3
      replace HB := Lib.hid (HB.out.call b3)
      clear H O b3
      have hl : (ordUp ns os 6).length = 24 := ordUp_len _ _ _
      obtain ⟨ms, hms⟩ : ∃ ms, ordUp ns os 6 = ms := ⟨_, rfl⟩
      rw [hms] at hl ⊢
      have HM := Lib.hid hms
      clear hms
      have S1 := Lib.hid (Z.putAll ms hl)
      have S2 := Lib.hid (HB.out.puts (b := w.heap.size + 1 + 1) (by omega) 0 (ints ms))
      go_wp2_with (refine store_at rfl 29 _ _ rfl _ _ rfl rfl ?_ 24 ?_ ?_ ?_ ?_; rotate_left; (· (repeat (first | (with_reducible assumption) | ((with_reducible refine Has.box _ _ ?_ ?_) <;> (first | assumption | decide)) | (with_reducible refine Has.alloc ?_ _) | ((with_reducible refine Has.putOther ?_ _ _ ?_); rotate_left; omega; skip) | ((with_reducible refine Has.below ?_ ?_); rotate_left; assumption)))); (· (first | assumption | rfl)); (· kernel_rfl))
      exact bodyPost_ret (res_has1 rfl _ _ (w.heap.size + 1 + 1) ms 24 _ (.bool true) rfl rfl S1.out Try.underlying29 rfl (by kernel_rfl)) rfl ⟨by rw [V.out.1, V.out.2, HM.out], S2.out⟩
    · have V := Lib.hid (ordR_no (ns := ns) (os := os) fun h => hn h.2)
      have hf : permL os = false := by simpa using hn
      rw [hf]
      clear hn hf
      have S1 := Lib.hid (Z.putAll z24 rfl)
      have S2 := Lib.hid (HB.out.puts (b := w.heap.size + 1 + 1) (by omega) 0 (ints z24))
      go_wp2_with (first | (refine build_law rfl 29 rfl _ buildRack ?_) | (refine store_at rfl 29 _ _ rfl _ _ rfl rfl ?_ 24 ?_ ?_ ?_ ?_; rotate_left; (· (repeat (first | (with_reducible assumption) | ((with_reducible refine Has.box _ _ ?_ ?_) <;> (first | assumption | decide)) | (with_reducible refine Has.alloc ?_ _) | ((with_reducible refine Has.putOther ?_ _ _ ?_); rotate_left; omega; skip) | ((with_reducible refine Has.below ?_ ?_); rotate_left; assumption)))); (· (first | assumption | rfl)); (· kernel_rfl)))
      exact bodyPost_ret (res_has1 rfl _ _ (w.heap.size + 1 + 1) z24 24 _ (.bool false) rfl rfl S1.out Try.underlying29 rfl (by kernel_rfl)) rfl ⟨by rw [V.out.1, V.out.2], S2.out⟩
  · have V := Lib.hid (ordR_no (ns := ns) (os := os) fun h => hv h.1)
    have hf : vR ns = false := by simpa using hv
    rw [hf]
    clear hv hf
    have S1 := Lib.hid (Z.putAll z24 rfl)
    have S2 := Lib.hid (HB.out.puts (b := w.heap.size + 1 + 1) (by omega) 0 (ints z24))
    go_wp2_with (first | (refine build_law rfl 29 rfl _ buildRack ?_) | (refine store_at rfl 29 _ _ rfl _ _ rfl rfl ?_ 24 ?_ ?_ ?_ ?_; rotate_left; (· (repeat (first | (with_reducible assumption) | ((with_reducible refine Has.box _ _ ?_ ?_) <;> (first | assumption | decide)) | (with_reducible refine Has.alloc ?_ _) | ((with_reducible refine Has.putOther ?_ _ _ ?_); rotate_left; omega; skip) | ((with_reducible refine Has.below ?_ ?_); rotate_left; assumption)))); (· (first | assumption | rfl)); (· kernel_rfl)))
    exact bodyPost_ret (res_has1 rfl _ _ (w.heap.size + 1 + 1) z24 24 _ (.bool false) rfl rfl S1.out Try.underlying29 rfl (by kernel_rfl)) rfl ⟨by rw [V.out.1, V.out.2], S2.out⟩

set_option maxHeartbeats 1600000 in
theorem implOrderRack (ns os : List Int) (w : World) (h24 : ns.length = 24) (h6 : os.length = 6) :
    Calls Try.prog 19 #[row ns, row os] w fun e w' => e = .returned (.tuple #[.agg (ints (ordR ns os)).toArray, .bool (ordOk ns os)]) ∧ Kept w w' := by
  have HB := Lib.hid ((((kept_refl w).alloc (.cells (ints ns).toArray 29)).alloc (.cells (ints os).toArray 22)).alloc (.cells #[.int .i64 0, .int .i64 0, .int .i64 0, .int .i64 0, .int .i64 0, .int .i64 0, .int .i64 0, .int .i64 0, .int .i64 0, .int .i64 0, .int .i64 0, .int .i64 0, .int .i64 0, .int .i64 0, .int .i64 0, .int .i64 0, .int .i64 0, .int .i64 0, .int .i64 0, .int .i64 0, .int .i64 0, .int .i64 0, .int .i64 0, .int .i64 0] 29))
  have H := ((Has.box w 29 h24 (by omega)).alloc (.cells (ints os).toArray 22)).alloc (.cells #[.int .i64 0, .int .i64 0, .int .i64 0, .int .i64 0, .int .i64 0, .int .i64 0, .int .i64 0, .int .i64 0, .int .i64 0, .int .i64 0, .int .i64 0, .int .i64 0, .int .i64 0, .int .i64 0, .int .i64 0, .int .i64 0, .int .i64 0, .int .i64 0, .int .i64 0, .int .i64 0, .int .i64 0, .int .i64 0, .int .i64 0, .int .i64 0] 29)
  have O := ((Has.box (w.alloc (.cells (ints ns).toArray 29)) 22 h6 (by omega)).at (size1 _ _)).alloc (.cells #[.int .i64 0, .int .i64 0, .int .i64 0, .int .i64 0, .int .i64 0, .int .i64 0, .int .i64 0, .int .i64 0, .int .i64 0, .int .i64 0, .int .i64 0, .int .i64 0, .int .i64 0, .int .i64 0, .int .i64 0, .int .i64 0, .int .i64 0, .int .i64 0, .int .i64 0, .int .i64 0, .int .i64 0, .int .i64 0, .int .i64 0, .int .i64 0] 29)
  have Z := (Has.zero24 ((w.alloc (.cells (ints ns).toArray 29)).alloc (.cells (ints os).toArray 22)) 29).at (c := w.heap.size + 1 + 1) (by simp)
  have hz : z24.length = 24 := rfl
  rw [row_ints, row_ints]
  go_enter Try.func19, Try.ntmps19
  go_wp2_with (first | (refine load_has rfl 29 _ rfl _ rfl ?_ 24 ?_ _ Try.underlying29 rfl ?_ ?_; rotate_left; (· (repeat (first | (with_reducible assumption) | ((with_reducible refine Has.box _ _ ?_ ?_) <;> (first | assumption | decide)) | (with_reducible refine Has.alloc ?_ _) | ((with_reducible refine Has.putOther ?_ _ _ ?_); rotate_left; omega; skip) | ((with_reducible refine Has.below ?_ ?_); rotate_left; assumption)))); (· kernel_rfl)) | (refine load_has rfl 22 _ rfl _ rfl ?_ 6 ?_ _ Try.underlying22 rfl ?_ ?_; rotate_left; (· (repeat (first | (with_reducible assumption) | ((with_reducible refine Has.box _ _ ?_ ?_) <;> (first | assumption | decide)) | (with_reducible refine Has.alloc ?_ _) | ((with_reducible refine Has.putOther ?_ _ _ ?_); rotate_left; omega; skip) | ((with_reducible refine Has.below ?_ ?_); rotate_left; assumption)))); (· kernel_rfl)))
  refine (isRack_any ns _ h24).mono ?_
  rintro e w1 ⟨rfl, b1⟩
  replace H := H.below b1
  replace O := O.below b1
  replace Z := Z.below b1
  replace HB := Lib.hid (HB.out.call b1)
  clear b1
  by_cases hv : vR ns = true
  · rw [hv]
    have HV := Lib.hid hv
    clear hv
    go_wp2_with (first | (refine load_has rfl 29 _ rfl _ rfl ?_ 24 ?_ _ Try.underlying29 rfl ?_ ?_; rotate_left; (· (repeat (first | (with_reducible assumption) | ((with_reducible refine Has.box _ _ ?_ ?_) <;> (first | assumption | decide)) | (with_reducible refine Has.alloc ?_ _) | ((with_reducible refine Has.putOther ?_ _ _ ?_); rotate_left; omega; skip) | ((with_reducible refine Has.below ?_ ?_); rotate_left; assumption)))); (· kernel_rfl)) | (refine load_has rfl 22 _ rfl _ rfl ?_ 6 ?_ _ Try.underlying22 rfl ?_ ?_; rotate_left; (· (repeat (first | (with_reducible assumption) | ((with_reducible refine Has.box _ _ ?_ ?_) <;> (first | assumption | decide)) | (with_reducible refine Has.alloc ?_ _) | ((with_reducible refine Has.putOther ?_ _ _ ?_); rotate_left; omega; skip) | ((with_reducible refine Has.below ?_ ?_); rotate_left; assumption)))); (· kernel_rfl)))
    refine (implIsOrder os _ h6).mono ?_
    rintro e w2 ⟨rfl, b2⟩
    replace H := H.below b2
    replace O := O.below b2
    replace Z := Z.below b2
    replace HB := Lib.hid (HB.out.call b2)
    clear b2
    by_cases hn : permL os = true
    · rw [hn]
      have V := Lib.hid (ordR_yes HV.out hn)
      have HP := Lib.hid hn
      clear hn
      have gi := index6 22 Try.underlying22 os h6
      have HG := Lib.hid gi
      have HL := Lib.hid h24
      have hlt := Z.lt
      have Y := (Has.box (ns := z24) w2 29 rfl (by omega)).asL (ordUp_0 ns os).symm
      replace H := H.alloc (.cells (ints z24).toArray 29)
      replace O := O.alloc (.cells (ints z24).toArray 29)
      replace Z := Z.alloc (.cells (ints z24).toArray 29)
      replace HB := Lib.hid (HB.out.alloc (.cells (ints z24).toArray 29))
      clear gi
      go_wp2_with (first | (refine build_law rfl 29 rfl _ buildRack ?_) | (refine store_new rfl 29 _ _ rfl _ _ _ rfl _ (by simp) z24 rfl rfl ?_ ?_ ?_; (· (first | assumption | rfl)); (· kernel_rfl)) | (refine load_has rfl 22 _ rfl _ rfl ?_ 6 ?_ _ Try.underlying22 rfl ?_ ?_; rotate_left; (· (repeat (first | (with_reducible assumption) | ((with_reducible refine Has.box _ _ ?_ ?_) <;> (first | assumption | decide)) | (with_reducible refine Has.alloc ?_ _) | ((with_reducible refine Has.putOther ?_ _ _ ?_); rotate_left; omega; skip) | ((with_reducible refine Has.below ?_ ?_); rotate_left; assumption)))); (· kernel_rfl)))
      clear h24 h6 O
      generalize w2.alloc (.cells (ints z24).toArray 29) = W at *
      generalize w2.heap.size = BB at *
      go_loopg [20] 6 (fun gk i wr => ∃ p : Nat, gk = 6 - p ∧ p ≤ 6 ∧ i = .int .i64 p ∧ Has wr w.heap.size ns 24 ∧ Has wr (w.heap.size + 1 + 1) z24 24 ∧ Has wr (BB) (ordUp ns os p) 24 ∧ Hid (Kept w wr))
      case atStart => exact ⟨0, rfl, by omega, rfl, H, Z, Y, HB⟩
      case round =>
        obtain ⟨p, rfl, hp, rfl, GH, GZ, GY, GB⟩ := hrel
        by_cases hp6 : p < 6
        · have hpi : (p : Int) < 6 := by omega
          obtain ⟨c, hc6, hce⟩ := perm_nat HP.out p hp6
          have hc6' : (c : Int) < 6 := by omega
          have g1 := HG.out p hp6
          rw [hce] at g1
          have t4 := tub_len ns c HL.out hc6
          have th := Lib.hid (GY.holds.thereSub (p * 4) 4 (by rw [ints_len, GY.len]; omega))
          have S1 := Lib.hid ((GY.putTub p hp6 (tub ns c) t4).asL (ordUp_step HL.out HP.out p c hp6 hc6 hce))
          have S2 := Lib.hid (GZ.putOther (b' := BB) (p * 4) (ints (tub ns c)) (by omega))
          have S5 := Lib.hid (GH.putOther (b' := BB) (p * 4) (ints (tub ns c)) (by omega))
    
          have S4 := Lib.hid (GB.out.puts (b := BB) (by omega) (p * 4) (ints (tub ns c)))
          clear hce GZ GB GY
          go_wp2_with (first | (refine load_tub rfl 25 _ rfl _ (c) _ rfl ?_ ?_ ?_ ?_ _ Try.underlying25 rfl ?_ ?_; (· (first | rfl | omega)); rotate_left; (· (repeat (first | (with_reducible assumption) | ((with_reducible refine Has.box _ _ ?_ ?_) <;> (first | assumption | decide)) | (with_reducible refine Has.alloc ?_ _) | ((with_reducible refine Has.putOther ?_ _ _ ?_); rotate_left; omega; skip) | ((with_reducible refine Has.below ?_ ?_); rotate_left; assumption)))); (· omega); (· kernel_rfl)) | (refine store_has rfl 25 _ _ rfl (BB) (p * 4) (tub ns c) rfl rfl 4 t4 th.out ?_ ?_; (· kernel_rfl)))
          go_roundg (6 - (p + 1))
          case rel => exact ⟨p + 1, rfl, by omega, by go_num, S5.out, S2.out, S1.out, S4⟩
          case measure => omega
        · obtain rfl : p = 6 := by omega
          obtain ⟨ms, hms⟩ : ∃ ms, ordUp ns os 6 = ms := ⟨_, rfl⟩
          rw [hms] at GY
          have HM := Lib.hid hms
          clear hms
          have hl := GY.len
          have S1 := Lib.hid (GZ.putAll ms hl)
          have S2 := Lib.hid (GB.out.puts (b := w.heap.size + 1 + 1) (by omega) 0 (ints ms))
          go_wp2_with (first | (refine load_has rfl 29 _ rfl _ rfl ?_ 24 ?_ _ Try.underlying29 rfl ?_ ?_; rotate_left; (· (repeat (first | (with_reducible assumption) | ((with_reducible refine Has.box _ _ ?_ ?_) <;> (first | assumption | decide)) | (with_reducible refine Has.alloc ?_ _) | ((with_reducible refine Has.putOther ?_ _ _ ?_); rotate_left; omega; skip) | ((with_reducible refine Has.below ?_ ?_); rotate_left; assumption)))); (· kernel_rfl)) | (refine store_at rfl 29 _ _ rfl _ _ rfl rfl ?_ 24 ?_ ?_ ?_ ?_; rotate_left; (· (repeat (first | (with_reducible assumption) | ((with_reducible refine Has.box _ _ ?_ ?_) <;> (first | assumption | decide)) | (with_reducible refine Has.alloc ?_ _) | ((with_reducible refine Has.putOther ?_ _ _ ?_); rotate_left; omega; skip) | ((with_reducible refine Has.below ?_ ?_); rotate_left; assumption)))); (· (first | assumption | rfl)); (· kernel_rfl)))
          exact bodyPost_ret (res_has1 rfl _ _ (w.heap.size + 1 + 1) ms 24 _ (.bool true) rfl rfl S1.out Try.underlying29 rfl (by kernel_rfl)) rfl ⟨by rw [V.out.1, V.out.2, HM.out], S2.out⟩
    · have V := Lib.hid (ordR_no (ns := ns) (os := os) fun h => hn h.2)
      have hf : permL os = false := by simpa using hn
      rw [hf]
      clear hn hf
      have S1 := Lib.hid (Z.putAll z24 rfl)
      have S2 := Lib.hid (HB.out.puts (b := w.heap.size + 1 + 1) (by omega) 0 (ints z24))
      go_wp2_with (first | (refine build_law rfl 29 rfl _ buildRack ?_) | (refine store_at rfl 29 _ _ rfl _ _ rfl rfl ?_ 24 ?_ ?_ ?_ ?_; rotate_left; (· (repeat (first | (with_reducible assumption) | ((with_reducible refine Has.box _ _ ?_ ?_) <;> (first | assumption | decide)) | (with_reducible refine Has.alloc ?_ _) | ((with_reducible refine Has.putOther ?_ _ _ ?_); rotate_left; omega; skip) | ((with_reducible refine Has.below ?_ ?_); rotate_left; assumption)))); (· (first | assumption | rfl)); (· kernel_rfl)))
      exact bodyPost_ret (res_has1 rfl _ _ (w.heap.size + 1 + 1) z24 24 _ (.bool false) rfl rfl S1.out Try.underlying29 rfl (by kernel_rfl)) rfl ⟨by rw [V.out.1, V.out.2], S2.out⟩
  · have V := Lib.hid (ordR_no (ns := ns) (os := os) fun h => hv h.1)
    have hf : vR ns = false := by simpa using hv
    rw [hf]
    clear hv hf
    have S1 := Lib.hid (Z.putAll z24 rfl)
    have S2 := Lib.hid (HB.out.puts (b := w.heap.size + 1 + 1) (by omega) 0 (ints z24))
    go_wp2_with (first | (refine build_law rfl 29 rfl _ buildRack ?_) | (refine store_at rfl 29 _ _ rfl _ _ rfl rfl ?_ 24 ?_ ?_ ?_ ?_; rotate_left; (· (repeat (first | (with_reducible assumption) | ((with_reducible refine Has.box _ _ ?_ ?_) <;> (first | assumption | decide)) | (with_reducible refine Has.alloc ?_ _) | ((with_reducible refine Has.putOther ?_ _ _ ?_); rotate_left; omega; skip) | ((with_reducible refine Has.below ?_ ?_); rotate_left; assumption)))); (· (first | assumption | rfl)); (· kernel_rfl)))
    exact bodyPost_ret (res_has1 rfl _ _ (w.heap.size + 1 + 1) z24 24 _ (.bool false) rfl rfl S1.out Try.underlying29 rfl (by kernel_rfl)) rfl ⟨by rw [V.out.1, V.out.2], S2.out⟩


end Go.Proofs.Ytjbphpjmpjkclaa.base

