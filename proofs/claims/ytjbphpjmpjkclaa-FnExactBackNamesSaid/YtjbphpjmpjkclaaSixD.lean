/-
  Renamings taken back and one behind another one, on both sides, walked.
-/
import Derived.Test.YtjbphpjmpjkclaaSixW
namespace Go.Proofs.Ytjbphpjmpjkclaa.base
open Go.ChangeShapes Go.WideShapes Go.ChangeAt Go.RowKit
set_option linter.unusedVariables false
set_option linter.unusedSimpArgs false

theorem build6z (w : World) : (Instr.build 22 #[]).run Try.prog w = .ok (.agg (ints z6x).toArray) w := by kernel_rfl
theorem backR_yes {ns : List Int} (h : namesB ns = true) : backR ns = backUp ns 6 := by unfold backR; rw [if_pos h]
theorem backR_no {ns : List Int} (h : namesB ns = false) : backR ns = z6x := by unfold backR; rw [h]; rfl
theorem backUp_step (ns : List Int) (k c : Nat) (e : ns.getD k 0 = (c : Int)) : (backUp ns k).set c (k : Int) = backUp ns (k + 1) := by
  rw [backUp, e]; rfl
theorem behR_yes {a b : List Int} (ha : namesB a = true) (hb : namesB b = true) : behOk a b = true ∧ behR a b = behUp a b 6 := by
  have h : behOk a b = true := by unfold behOk; rw [ha, hb]; rfl
  exact ⟨h, by unfold behR; rw [if_pos h]⟩
theorem behR_no {a b : List Int} (h : ¬ (namesB a = true ∧ namesB b = true)) : behOk a b = false ∧ behR a b = z6x := by
  have h2 : behOk a b = false := by
    cases hb : behOk a b with
    | false => rfl
    | true => unfold behOk at hb; exact absurd (Bool.and_eq_true_iff.1 hb) h
  exact ⟨h2, by unfold behR; rw [h2]; rfl⟩
theorem behUp_len (a b : List Int) (k : Nat) : (behUp a b k).length = 6 := mixUp_len _ _ _ _
theorem behUp_step (a b : List Int) (k c : Nat) (e : a.getD k 0 = (c : Int)) : (behUp a b k).set k (b.getD c 0) = behUp a b (k + 1) := by
  have h : behF a b k = b.getD c 0 := by unfold behF; rw [e]; rfl
  rw [← h]; exact mixUp_set _ _ _ _

set_option maxHeartbeats 800000 in
theorem specBackNames (ns : List Int) (w : World) (h6 : ns.length = 6) :
    Calls Try.prog 20 #[row ns] w fun e w' => e = .returned (.tuple #[.agg (ints (backR ns)).toArray, .bool (namesB ns)]) ∧ Kept w w' := by
  have HB := Lib.hid ((((kept_refl w).alloc (.cells (ints ns).toArray 22)).alloc (.cells #[.int .i64 0, .int .i64 0, .int .i64 0, .int .i64 0, .int .i64 0, .int .i64 0] 22)).alloc (.cells #[.int .i64 0, .int .i64 0, .int .i64 0, .int .i64 0, .int .i64 0, .int .i64 0] 22))
  have H := ((Has.box w 22 h6 (by omega)).alloc (.cells #[.int .i64 0, .int .i64 0, .int .i64 0, .int .i64 0, .int .i64 0, .int .i64 0] 22)).alloc (.cells #[.int .i64 0, .int .i64 0, .int .i64 0, .int .i64 0, .int .i64 0, .int .i64 0] 22)
  have Z := ((Has.zero6x (w.alloc (.cells (ints ns).toArray 22)) 22).at (size1 _ _)).alloc (.cells #[.int .i64 0, .int .i64 0, .int .i64 0, .int .i64 0, .int .i64 0, .int .i64 0] 22)
  have Y := (Has.zero6x ((w.alloc (.cells (ints ns).toArray 22)).alloc (.cells #[.int .i64 0, .int .i64 0, .int .i64 0, .int .i64 0, .int .i64 0, .int .i64 0] 22)) 22).at (c := w.heap.size + 1 + 1) (by simp)
  have hz : z6x.length = 6 := rfl
  rw [row_ints]
  go_enter Try.func20, Try.ntmps20
  go_wp2_with (first | (refine build_law rfl 22 rfl _ build6z ?_) | (refine store_new rfl 22 _ _ rfl _ _ _ rfl _ (by simp) z6x rfl rfl ?_ ?_ ?_; (· (first | assumption | rfl)); (· kernel_rfl)) | (refine load_has rfl 22 _ rfl _ rfl ?_ 6 ?_ _ Try.underlying22 rfl ?_ ?_; rotate_left; (· (repeat (first | (with_reducible assumption) | ((with_reducible refine Has.box _ _ ?_ ?_) <;> (first | assumption | decide)) | (with_reducible refine Has.alloc ?_ _) | ((with_reducible refine Has.putOther ?_ _ _ ?_); rotate_left; omega; skip) | ((with_reducible refine Has.below ?_ ?_); rotate_left; assumption)))); (· kernel_rfl)))
  refine (l4Names_any ns _ h6).mono ?_
  rintro e w1 ⟨rfl, b1⟩
  replace H := H.below b1
  replace Z := Z.below b1
  replace Y := Y.below b1
  replace HB := Lib.hid (HB.out.call b1)
  clear b1
  by_cases hv : namesB ns = true
  · rw [hv]
    have V := Lib.hid (backR_yes hv)
    have HP := Lib.hid (names_perm hv)
    have HV := Lib.hid hv
    have gi := index6 22 Try.underlying22 ns h6
    have HG := Lib.hid gi
    clear hv gi
    go_wp2_with fail
    clear h6
    go_loopg [5] 6 (fun gk i wr => ∃ p : Nat, gk = 6 - p ∧ p ≤ 6 ∧ i = .int .i64 p ∧ Has wr w.heap.size ns 6 ∧ Has wr (w.heap.size + 1) z6x 6 ∧ Has wr (w.heap.size + 1 + 1) (backUp ns p) 6 ∧ Hid (Kept w wr))
    case atStart => exact ⟨0, rfl, by omega, rfl, H, Z, Y, HB⟩
    case round =>
      obtain ⟨p, rfl, hp, rfl, GH, GZ, GY, GB⟩ := hrel
      by_cases hp6 : p < 6
      · have hpi : (p : Int) < 6 := by omega
        obtain ⟨c, hc6, hce⟩ := perm_nat HP.out p hp6
        have hc6' : (c : Int) < 6 := by omega
        have g1 := GH.cell p hp6
        rw [hce] at g1
        have c1 := GY.cell c hc6
        have f1 := GY.free c hc6
        have S1 := Lib.hid ((GY.set c (p : Int) hc6).asL (backUp_step ns p c hce))
        have S2 := Lib.hid (GZ.setOther (b' := w.heap.size + 1 + 1) c (.int .i64 (p : Int)) (by omega))
        have S3 := Lib.hid (GH.setOther (b' := w.heap.size + 1 + 1) c (.int .i64 (p : Int)) (by omega))
        have S4 := Lib.hid (GB.out.set (b := w.heap.size + 1 + 1) (by omega) c (.int .i64 (p : Int)))
        clear hce GY GZ GB GH
        go_wp2_with fail
        go_roundg (6 - (p + 1))
        case rel => exact ⟨p + 1, rfl, by omega, by go_num, S3.out, S2.out, S1.out, S4⟩
        case measure => omega
      · obtain rfl : p = 6 := by omega
        have hl := backUp_len ns 6
        have S1 := Lib.hid (GZ.putAll (backUp ns 6) hl)
        have S2 := Lib.hid (GB.out.puts (b := w.heap.size + 1) (by omega) 0 (ints (backUp ns 6)))
        go_wp2_with (first | (refine load_has rfl 22 _ rfl _ rfl ?_ 6 ?_ _ Try.underlying22 rfl ?_ ?_; rotate_left; (· (repeat (first | (with_reducible assumption) | ((with_reducible refine Has.box _ _ ?_ ?_) <;> (first | assumption | decide)) | (with_reducible refine Has.alloc ?_ _) | ((with_reducible refine Has.putOther ?_ _ _ ?_); rotate_left; omega; skip) | ((with_reducible refine Has.below ?_ ?_); rotate_left; assumption)))); (· kernel_rfl)) | (refine store_at rfl 22 _ _ rfl _ _ rfl rfl ?_ 6 ?_ ?_ ?_ ?_; rotate_left; (· (repeat (first | (with_reducible assumption) | ((with_reducible refine Has.box _ _ ?_ ?_) <;> (first | assumption | decide)) | (with_reducible refine Has.alloc ?_ _) | ((with_reducible refine Has.putOther ?_ _ _ ?_); rotate_left; omega; skip) | ((with_reducible refine Has.below ?_ ?_); rotate_left; assumption)))); (· (first | assumption | rfl)); (· kernel_rfl)))
        exact bodyPost_ret (res_has1 rfl _ _ (w.heap.size + 1) (backUp ns 6) 6 _ (.bool true) rfl rfl S1.out Try.underlying22 rfl (by kernel_rfl)) rfl ⟨by rw [V.out, HV.out], S2.out⟩
  · have hf : namesB ns = false := by simpa using hv
    have V := Lib.hid (backR_no hf)
    rw [hf]
    clear hv
    have S1 := Lib.hid (Z.putAll z6x rfl)
    have S2 := Lib.hid (HB.out.puts (b := w.heap.size + 1) (by omega) 0 (ints z6x))
    go_wp2_with (first | (refine load_has rfl 22 _ rfl _ rfl ?_ 6 ?_ _ Try.underlying22 rfl ?_ ?_; rotate_left; (· (repeat (first | (with_reducible assumption) | ((with_reducible refine Has.box _ _ ?_ ?_) <;> (first | assumption | decide)) | (with_reducible refine Has.alloc ?_ _) | ((with_reducible refine Has.putOther ?_ _ _ ?_); rotate_left; omega; skip) | ((with_reducible refine Has.below ?_ ?_); rotate_left; assumption)))); (· kernel_rfl)) | (refine store_at rfl 22 _ _ rfl _ _ rfl rfl ?_ 6 ?_ ?_ ?_ ?_; rotate_left; (· (repeat (first | (with_reducible assumption) | ((with_reducible refine Has.box _ _ ?_ ?_) <;> (first | assumption | decide)) | (with_reducible refine Has.alloc ?_ _) | ((with_reducible refine Has.putOther ?_ _ _ ?_); rotate_left; omega; skip) | ((with_reducible refine Has.below ?_ ?_); rotate_left; assumption)))); (· (first | assumption | rfl)); (· kernel_rfl)))
    exact bodyPost_ret (res_has1 rfl _ _ (w.heap.size + 1) z6x 6 _ (.bool false) rfl rfl S1.out Try.underlying22 rfl (by kernel_rfl)) rfl ⟨by rw [V.out, hf], S2.out⟩

set_option maxHeartbeats 800000 in
theorem implBackNames (ns : List Int) (w : World) (h6 : ns.length = 6) :
    Calls Try.prog 21 #[row ns] w fun e w' => e = .returned (.tuple #[.agg (ints (backR ns)).toArray, .bool (namesB ns)]) ∧ Kept w w' := by
  have HB := Lib.hid ((((kept_refl w).alloc (.cells (ints ns).toArray 22)).alloc (.cells #[.int .i64 0, .int .i64 0, .int .i64 0, .int .i64 0, .int .i64 0, .int .i64 0] 22)).alloc (.cells #[.int .i64 0, .int .i64 0, .int .i64 0, .int .i64 0, .int .i64 0, .int .i64 0] 22))
  have H := ((Has.box w 22 h6 (by omega)).alloc (.cells #[.int .i64 0, .int .i64 0, .int .i64 0, .int .i64 0, .int .i64 0, .int .i64 0] 22)).alloc (.cells #[.int .i64 0, .int .i64 0, .int .i64 0, .int .i64 0, .int .i64 0, .int .i64 0] 22)
  have Z := ((Has.zero6x (w.alloc (.cells (ints ns).toArray 22)) 22).at (size1 _ _)).alloc (.cells #[.int .i64 0, .int .i64 0, .int .i64 0, .int .i64 0, .int .i64 0, .int .i64 0] 22)
  have Y := (Has.zero6x ((w.alloc (.cells (ints ns).toArray 22)).alloc (.cells #[.int .i64 0, .int .i64 0, .int .i64 0, .int .i64 0, .int .i64 0, .int .i64 0] 22)) 22).at (c := w.heap.size + 1 + 1) (by simp)
  have hz : z6x.length = 6 := rfl
  rw [row_ints]
  go_enter Try.func21, Try.ntmps21
  go_wp2_with (first | (refine build_law rfl 22 rfl _ build6z ?_) | (refine store_new rfl 22 _ _ rfl _ _ _ rfl _ (by simp) z6x rfl rfl ?_ ?_ ?_; (· (first | assumption | rfl)); (· kernel_rfl)) | (refine load_has rfl 22 _ rfl _ rfl ?_ 6 ?_ _ Try.underlying22 rfl ?_ ?_; rotate_left; (· (repeat (first | (with_reducible assumption) | ((with_reducible refine Has.box _ _ ?_ ?_) <;> (first | assumption | decide)) | (with_reducible refine Has.alloc ?_ _) | ((with_reducible refine Has.putOther ?_ _ _ ?_); rotate_left; omega; skip) | ((with_reducible refine Has.below ?_ ?_); rotate_left; assumption)))); (· kernel_rfl)))
  refine (implIsRenaming ns _ h6).mono ?_
  rintro e w1 ⟨rfl, b1⟩
  replace H := H.below b1
  replace Z := Z.below b1
  replace Y := Y.below b1
  replace HB := Lib.hid (HB.out.call b1)
  clear b1
  by_cases hv : namesB ns = true
  · rw [hv]
    have V := Lib.hid (backR_yes hv)
    have HP := Lib.hid (names_perm hv)
    have HV := Lib.hid hv
    have gi := index6 22 Try.underlying22 ns h6
    have HG := Lib.hid gi
    clear hv gi
    go_wp2_with (refine load_has rfl 22 _ rfl _ rfl ?_ 6 ?_ _ Try.underlying22 rfl ?_ ?_; rotate_left; (· (repeat (first | (with_reducible assumption) | ((with_reducible refine Has.box _ _ ?_ ?_) <;> (first | assumption | decide)) | (with_reducible refine Has.alloc ?_ _) | ((with_reducible refine Has.putOther ?_ _ _ ?_); rotate_left; omega; skip) | ((with_reducible refine Has.below ?_ ?_); rotate_left; assumption)))); (· kernel_rfl))
    clear h6 H
    go_loopg [13] 6 (fun gk i wr => ∃ p : Nat, gk = 6 - p ∧ p ≤ 6 ∧ i = .int .i64 p ∧ Has wr (w.heap.size + 1) z6x 6 ∧ Has wr (w.heap.size + 1 + 1) (backUp ns p) 6 ∧ Hid (Kept w wr))
    case atStart => exact ⟨0, rfl, by omega, rfl, Z, Y, HB⟩
    case round =>
      obtain ⟨p, rfl, hp, rfl, GZ, GY, GB⟩ := hrel
      by_cases hp6 : p < 6
      · have hpi : (p : Int) < 6 := by omega
        obtain ⟨c, hc6, hce⟩ := perm_nat HP.out p hp6
        have hc6' : (c : Int) < 6 := by omega
        have g1 := HG.out p hp6
        rw [hce] at g1
        have c1 := GY.cell c hc6
        have f1 := GY.free c hc6
        have S1 := Lib.hid ((GY.set c (p : Int) hc6).asL (backUp_step ns p c hce))
        have S2 := Lib.hid (GZ.setOther (b' := w.heap.size + 1 + 1) c (.int .i64 (p : Int)) (by omega))
        
        have S4 := Lib.hid (GB.out.set (b := w.heap.size + 1 + 1) (by omega) c (.int .i64 (p : Int)))
        clear hce GY GZ GB
        go_wp2_with fail
        go_roundg (6 - (p + 1))
        case rel => exact ⟨p + 1, rfl, by omega, by go_num, S2.out, S1.out, S4⟩
        case measure => omega
      · obtain rfl : p = 6 := by omega
        have hl := backUp_len ns 6
        have S1 := Lib.hid (GZ.putAll (backUp ns 6) hl)
        have S2 := Lib.hid (GB.out.puts (b := w.heap.size + 1) (by omega) 0 (ints (backUp ns 6)))
        go_wp2_with (first | (refine load_has rfl 22 _ rfl _ rfl ?_ 6 ?_ _ Try.underlying22 rfl ?_ ?_; rotate_left; (· (repeat (first | (with_reducible assumption) | ((with_reducible refine Has.box _ _ ?_ ?_) <;> (first | assumption | decide)) | (with_reducible refine Has.alloc ?_ _) | ((with_reducible refine Has.putOther ?_ _ _ ?_); rotate_left; omega; skip) | ((with_reducible refine Has.below ?_ ?_); rotate_left; assumption)))); (· kernel_rfl)) | (refine store_at rfl 22 _ _ rfl _ _ rfl rfl ?_ 6 ?_ ?_ ?_ ?_; rotate_left; (· (repeat (first | (with_reducible assumption) | ((with_reducible refine Has.box _ _ ?_ ?_) <;> (first | assumption | decide)) | (with_reducible refine Has.alloc ?_ _) | ((with_reducible refine Has.putOther ?_ _ _ ?_); rotate_left; omega; skip) | ((with_reducible refine Has.below ?_ ?_); rotate_left; assumption)))); (· (first | assumption | rfl)); (· kernel_rfl)))
        exact bodyPost_ret (res_has1 rfl _ _ (w.heap.size + 1) (backUp ns 6) 6 _ (.bool true) rfl rfl S1.out Try.underlying22 rfl (by kernel_rfl)) rfl ⟨by rw [V.out, HV.out], S2.out⟩
  · have hf : namesB ns = false := by simpa using hv
    have V := Lib.hid (backR_no hf)
    rw [hf]
    clear hv
    have S1 := Lib.hid (Z.putAll z6x rfl)
    have S2 := Lib.hid (HB.out.puts (b := w.heap.size + 1) (by omega) 0 (ints z6x))
    go_wp2_with (first | (refine load_has rfl 22 _ rfl _ rfl ?_ 6 ?_ _ Try.underlying22 rfl ?_ ?_; rotate_left; (· (repeat (first | (with_reducible assumption) | ((with_reducible refine Has.box _ _ ?_ ?_) <;> (first | assumption | decide)) | (with_reducible refine Has.alloc ?_ _) | ((with_reducible refine Has.putOther ?_ _ _ ?_); rotate_left; omega; skip) | ((with_reducible refine Has.below ?_ ?_); rotate_left; assumption)))); (· kernel_rfl)) | (refine store_at rfl 22 _ _ rfl _ _ rfl rfl ?_ 6 ?_ ?_ ?_ ?_; rotate_left; (· (repeat (first | (with_reducible assumption) | ((with_reducible refine Has.box _ _ ?_ ?_) <;> (first | assumption | decide)) | (with_reducible refine Has.alloc ?_ _) | ((with_reducible refine Has.putOther ?_ _ _ ?_); rotate_left; omega; skip) | ((with_reducible refine Has.below ?_ ?_); rotate_left; assumption)))); (· (first | assumption | rfl)); (· kernel_rfl)))
    exact bodyPost_ret (res_has1 rfl _ _ (w.heap.size + 1) z6x 6 _ (.bool false) rfl rfl S1.out Try.underlying22 rfl (by kernel_rfl)) rfl ⟨by rw [V.out, hf], S2.out⟩

set_option maxHeartbeats 800000 in
theorem specNamesBehind (a b : List Int) (w : World) (ha : a.length = 6) (hb : b.length = 6) :
    Calls Try.prog 23 #[row a, row b] w fun e w' => e = .returned (.tuple #[.agg (ints (behR a b)).toArray, .bool (behOk a b)]) ∧ Kept w w' := by
  have HB := Lib.hid (((((kept_refl w).alloc (.cells (ints a).toArray 22)).alloc (.cells (ints b).toArray 22)).alloc (.cells #[.int .i64 0, .int .i64 0, .int .i64 0, .int .i64 0, .int .i64 0, .int .i64 0] 22)).alloc (.cells #[.int .i64 0, .int .i64 0, .int .i64 0, .int .i64 0, .int .i64 0, .int .i64 0] 22))
  have HA := (((Has.box w 22 ha (by omega)).alloc (.cells (ints b).toArray 22)).alloc (.cells #[.int .i64 0, .int .i64 0, .int .i64 0, .int .i64 0, .int .i64 0, .int .i64 0] 22)).alloc (.cells #[.int .i64 0, .int .i64 0, .int .i64 0, .int .i64 0, .int .i64 0, .int .i64 0] 22)
  have HS := (((Has.box (w.alloc (.cells (ints a).toArray 22)) 22 hb (by omega)).at (size1 _ _)).alloc (.cells #[.int .i64 0, .int .i64 0, .int .i64 0, .int .i64 0, .int .i64 0, .int .i64 0] 22)).alloc (.cells #[.int .i64 0, .int .i64 0, .int .i64 0, .int .i64 0, .int .i64 0, .int .i64 0] 22)
  have Z := ((Has.zero6x ((w.alloc (.cells (ints a).toArray 22)).alloc (.cells (ints b).toArray 22)) 22).at (c := w.heap.size + 1 + 1) (by simp)).alloc (.cells #[.int .i64 0, .int .i64 0, .int .i64 0, .int .i64 0, .int .i64 0, .int .i64 0] 22)
  have Y := ((Has.zero6x (((w.alloc (.cells (ints a).toArray 22)).alloc (.cells (ints b).toArray 22)).alloc (.cells #[.int .i64 0, .int .i64 0, .int .i64 0, .int .i64 0, .int .i64 0, .int .i64 0] 22)) 22).at (c := w.heap.size + 1 + 1 + 1) (by simp)).asL (behUp_0 a b).symm
  have hz : z6x.length = 6 := rfl
  rw [row_ints, row_ints]
  go_enter Try.func23, Try.ntmps23
  go_wp2_with (first | (refine build_law rfl 22 rfl _ build6z ?_) | (refine store_new rfl 22 _ _ rfl _ _ _ rfl _ (by simp) z6x rfl rfl ?_ ?_ ?_; (· (first | assumption | rfl)); (· kernel_rfl)) | (refine load_has rfl 22 _ rfl _ rfl ?_ 6 ?_ _ Try.underlying22 rfl ?_ ?_; rotate_left; (· (repeat (first | (with_reducible assumption) | ((with_reducible refine Has.box _ _ ?_ ?_) <;> (first | assumption | decide)) | (with_reducible refine Has.alloc ?_ _) | ((with_reducible refine Has.putOther ?_ _ _ ?_); rotate_left; omega; skip) | ((with_reducible refine Has.below ?_ ?_); rotate_left; assumption)))); (· kernel_rfl)))
  refine (l4Names_any a _ ha).mono ?_
  rintro e w1 ⟨rfl, b1⟩
  replace HA := HA.below b1
  replace HS := HS.below b1
  replace Z := Z.below b1
  replace Y := Y.below b1
  replace HB := Lib.hid (HB.out.call b1)
  clear b1
  by_cases hv : namesB a = true
  · rw [hv]
    have HV := Lib.hid hv
    have HP := Lib.hid (names_perm hv)
    clear hv
    go_wp2_with (refine load_has rfl 22 _ rfl _ rfl ?_ 6 ?_ _ Try.underlying22 rfl ?_ ?_; rotate_left; (· (repeat (first | (with_reducible assumption) | ((with_reducible refine Has.box _ _ ?_ ?_) <;> (first | assumption | decide)) | (with_reducible refine Has.alloc ?_ _) | ((with_reducible refine Has.putOther ?_ _ _ ?_); rotate_left; omega; skip) | ((with_reducible refine Has.below ?_ ?_); rotate_left; assumption)))); (· kernel_rfl))
    refine (l4Names_any b _ hb).mono ?_
    rintro e w2 ⟨rfl, b2⟩
    replace HA := HA.below b2
    replace HS := HS.below b2
    replace Z := Z.below b2
    replace Y := Y.below b2
    replace HB := Lib.hid (HB.out.call b2)
    clear b2
    by_cases hu : namesB b = true
    · rw [hu]
      have V := Lib.hid (behR_yes HV.out hu)
      have gi := index6 22 Try.underlying22 a ha
      have HG := Lib.hid gi
      clear hu gi
      go_wp2_with fail
      clear ha hb
      go_loopg [7] 6 (fun gk i wr => ∃ p : Nat, gk = 6 - p ∧ p ≤ 6 ∧ i = .int .i64 p ∧ Has wr w.heap.size a 6 ∧ Has wr (w.heap.size + 1) b 6 ∧ Has wr (w.heap.size + 1 + 1) z6x 6 ∧ Has wr (w.heap.size + 1 + 1 + 1) (behUp a b p) 6 ∧ Hid (Kept w wr))
      case atStart => exact ⟨0, rfl, by omega, rfl, HA, HS, Z, Y, HB⟩
      case round =>
        obtain ⟨p, rfl, hp, rfl, GH, GS, GZ, GY, GB⟩ := hrel
        by_cases hp6 : p < 6
        · have hpi : (p : Int) < 6 := by omega
          obtain ⟨c, hc6, hce⟩ := perm_nat HP.out p hp6
          have hc6' : (c : Int) < 6 := by omega
          have g1 := GH.cell p hp6
          rw [hce] at g1
          have g2 := GS.cell c hc6
          have c1 := GY.cell p hp6
          have f1 := GY.free p hp6
          have S1 := Lib.hid ((GY.set p (b.getD c 0) hp6).asL (behUp_step a b p c hce))
          have S2 := Lib.hid (GZ.setOther (b' := w.heap.size + 1 + 1 + 1) p (.int .i64 (b.getD c 0)) (by omega))
          have S5 := Lib.hid (GS.setOther (b' := w.heap.size + 1 + 1 + 1) p (.int .i64 (b.getD c 0)) (by omega))
          have S3 := Lib.hid (GH.setOther (b' := w.heap.size + 1 + 1 + 1) p (.int .i64 (b.getD c 0)) (by omega))
          have S4 := Lib.hid (GB.out.set (b := w.heap.size + 1 + 1 + 1) (by omega) p (.int .i64 (b.getD c 0)))
          clear hce GY GZ GB GS GH
          generalize b.getD c 0 = v at *
          go_wp2_with fail
          go_roundg (6 - (p + 1))
          case rel => exact ⟨p + 1, rfl, by omega, by go_num, S3.out, S5.out, S2.out, S1.out, S4⟩
          case measure => omega
        · obtain rfl : p = 6 := by omega
          have hl := behUp_len a b 6
          have S1 := Lib.hid (GZ.putAll (behUp a b 6) hl)
          have S2 := Lib.hid (GB.out.puts (b := w.heap.size + 1 + 1) (by omega) 0 (ints (behUp a b 6)))
          go_wp2_with (first | (refine load_has rfl 22 _ rfl _ rfl ?_ 6 ?_ _ Try.underlying22 rfl ?_ ?_; rotate_left; (· (repeat (first | (with_reducible assumption) | ((with_reducible refine Has.box _ _ ?_ ?_) <;> (first | assumption | decide)) | (with_reducible refine Has.alloc ?_ _) | ((with_reducible refine Has.putOther ?_ _ _ ?_); rotate_left; omega; skip) | ((with_reducible refine Has.below ?_ ?_); rotate_left; assumption)))); (· kernel_rfl)) | (refine store_at rfl 22 _ _ rfl _ _ rfl rfl ?_ 6 ?_ ?_ ?_ ?_; rotate_left; (· (repeat (first | (with_reducible assumption) | ((with_reducible refine Has.box _ _ ?_ ?_) <;> (first | assumption | decide)) | (with_reducible refine Has.alloc ?_ _) | ((with_reducible refine Has.putOther ?_ _ _ ?_); rotate_left; omega; skip) | ((with_reducible refine Has.below ?_ ?_); rotate_left; assumption)))); (· (first | assumption | rfl)); (· kernel_rfl)))
          exact bodyPost_ret (res_has1 rfl _ _ (w.heap.size + 1 + 1) (behUp a b 6) 6 _ (.bool true) rfl rfl S1.out Try.underlying22 rfl (by kernel_rfl)) rfl ⟨by rw [V.out.1, V.out.2], S2.out⟩
    · have V := Lib.hid (behR_no (a := a) (b := b) fun h => hu h.2)
      have hf : namesB b = false := by simpa using hu
      rw [hf]
      clear hu hf
      have S1 := Lib.hid (Z.putAll z6x rfl)
      have S2 := Lib.hid (HB.out.puts (b := w.heap.size + 1 + 1) (by omega) 0 (ints z6x))
      go_wp2_with (first | (refine load_has rfl 22 _ rfl _ rfl ?_ 6 ?_ _ Try.underlying22 rfl ?_ ?_; rotate_left; (· (repeat (first | (with_reducible assumption) | ((with_reducible refine Has.box _ _ ?_ ?_) <;> (first | assumption | decide)) | (with_reducible refine Has.alloc ?_ _) | ((with_reducible refine Has.putOther ?_ _ _ ?_); rotate_left; omega; skip) | ((with_reducible refine Has.below ?_ ?_); rotate_left; assumption)))); (· kernel_rfl)) | (refine store_at rfl 22 _ _ rfl _ _ rfl rfl ?_ 6 ?_ ?_ ?_ ?_; rotate_left; (· (repeat (first | (with_reducible assumption) | ((with_reducible refine Has.box _ _ ?_ ?_) <;> (first | assumption | decide)) | (with_reducible refine Has.alloc ?_ _) | ((with_reducible refine Has.putOther ?_ _ _ ?_); rotate_left; omega; skip) | ((with_reducible refine Has.below ?_ ?_); rotate_left; assumption)))); (· (first | assumption | rfl)); (· kernel_rfl)))
      exact bodyPost_ret (res_has1 rfl _ _ (w.heap.size + 1 + 1) z6x 6 _ (.bool false) rfl rfl S1.out Try.underlying22 rfl (by kernel_rfl)) rfl ⟨by rw [V.out.1, V.out.2], S2.out⟩
  · have V := Lib.hid (behR_no (a := a) (b := b) fun h => hv h.1)
    have hf : namesB a = false := by simpa using hv
    rw [hf]
    clear hv hf
    have S1 := Lib.hid (Z.putAll z6x rfl)
    have S2 := Lib.hid (HB.out.puts (b := w.heap.size + 1 + 1) (by omega) 0 (ints z6x))
    go_wp2_with (first | (refine load_has rfl 22 _ rfl _ rfl ?_ 6 ?_ _ Try.underlying22 rfl ?_ ?_; rotate_left; (· (repeat (first | (with_reducible assumption) | ((with_reducible refine Has.box _ _ ?_ ?_) <;> (first | assumption | decide)) | (with_reducible refine Has.alloc ?_ _) | ((with_reducible refine Has.putOther ?_ _ _ ?_); rotate_left; omega; skip) | ((with_reducible refine Has.below ?_ ?_); rotate_left; assumption)))); (· kernel_rfl)) | (refine store_at rfl 22 _ _ rfl _ _ rfl rfl ?_ 6 ?_ ?_ ?_ ?_; rotate_left; (· (repeat (first | (with_reducible assumption) | ((with_reducible refine Has.box _ _ ?_ ?_) <;> (first | assumption | decide)) | (with_reducible refine Has.alloc ?_ _) | ((with_reducible refine Has.putOther ?_ _ _ ?_); rotate_left; omega; skip) | ((with_reducible refine Has.below ?_ ?_); rotate_left; assumption)))); (· (first | assumption | rfl)); (· kernel_rfl)))
    exact bodyPost_ret (res_has1 rfl _ _ (w.heap.size + 1 + 1) z6x 6 _ (.bool false) rfl rfl S1.out Try.underlying22 rfl (by kernel_rfl)) rfl ⟨by rw [V.out.1, V.out.2], S2.out⟩

set_option maxHeartbeats 800000 in
theorem implNamesBehind (a b : List Int) (w : World) (ha : a.length = 6) (hb : b.length = 6) :
    Calls Try.prog 24 #[row a, row b] w fun e w' => e = .returned (.tuple #[.agg (ints (behR a b)).toArray, .bool (behOk a b)]) ∧ Kept w w' := by
  have HB := Lib.hid (((((kept_refl w).alloc (.cells (ints a).toArray 22)).alloc (.cells (ints b).toArray 22)).alloc (.cells #[.int .i64 0, .int .i64 0, .int .i64 0, .int .i64 0, .int .i64 0, .int .i64 0] 22)).alloc (.cells #[.int .i64 0, .int .i64 0, .int .i64 0, .int .i64 0, .int .i64 0, .int .i64 0] 22))
  have HA := (((Has.box w 22 ha (by omega)).alloc (.cells (ints b).toArray 22)).alloc (.cells #[.int .i64 0, .int .i64 0, .int .i64 0, .int .i64 0, .int .i64 0, .int .i64 0] 22)).alloc (.cells #[.int .i64 0, .int .i64 0, .int .i64 0, .int .i64 0, .int .i64 0, .int .i64 0] 22)
  have HS := (((Has.box (w.alloc (.cells (ints a).toArray 22)) 22 hb (by omega)).at (size1 _ _)).alloc (.cells #[.int .i64 0, .int .i64 0, .int .i64 0, .int .i64 0, .int .i64 0, .int .i64 0] 22)).alloc (.cells #[.int .i64 0, .int .i64 0, .int .i64 0, .int .i64 0, .int .i64 0, .int .i64 0] 22)
  have Z := ((Has.zero6x ((w.alloc (.cells (ints a).toArray 22)).alloc (.cells (ints b).toArray 22)) 22).at (c := w.heap.size + 1 + 1) (by simp)).alloc (.cells #[.int .i64 0, .int .i64 0, .int .i64 0, .int .i64 0, .int .i64 0, .int .i64 0] 22)
  have Y := ((Has.zero6x (((w.alloc (.cells (ints a).toArray 22)).alloc (.cells (ints b).toArray 22)).alloc (.cells #[.int .i64 0, .int .i64 0, .int .i64 0, .int .i64 0, .int .i64 0, .int .i64 0] 22)) 22).at (c := w.heap.size + 1 + 1 + 1) (by simp)).asL (behUp_0 a b).symm
  have hz : z6x.length = 6 := rfl
  rw [row_ints, row_ints]
  go_enter Try.func24, Try.ntmps24
  go_wp2_with (first | (refine build_law rfl 22 rfl _ build6z ?_) | (refine store_new rfl 22 _ _ rfl _ _ _ rfl _ (by simp) z6x rfl rfl ?_ ?_ ?_; (· (first | assumption | rfl)); (· kernel_rfl)) | (refine load_has rfl 22 _ rfl _ rfl ?_ 6 ?_ _ Try.underlying22 rfl ?_ ?_; rotate_left; (· (repeat (first | (with_reducible assumption) | ((with_reducible refine Has.box _ _ ?_ ?_) <;> (first | assumption | decide)) | (with_reducible refine Has.alloc ?_ _) | ((with_reducible refine Has.putOther ?_ _ _ ?_); rotate_left; omega; skip) | ((with_reducible refine Has.below ?_ ?_); rotate_left; assumption)))); (· kernel_rfl)))
  refine (implIsRenaming a _ ha).mono ?_
  rintro e w1 ⟨rfl, b1⟩
  replace HA := HA.below b1
  replace HS := HS.below b1
  replace Z := Z.below b1
  replace Y := Y.below b1
  replace HB := Lib.hid (HB.out.call b1)
  clear b1
  by_cases hv : namesB a = true
  · rw [hv]
    have HV := Lib.hid hv
    have HP := Lib.hid (names_perm hv)
    clear hv
    go_wp2_with (refine load_has rfl 22 _ rfl _ rfl ?_ 6 ?_ _ Try.underlying22 rfl ?_ ?_; rotate_left; (· (repeat (first | (with_reducible assumption) | ((with_reducible refine Has.box _ _ ?_ ?_) <;> (first | assumption | decide)) | (with_reducible refine Has.alloc ?_ _) | ((with_reducible refine Has.putOther ?_ _ _ ?_); rotate_left; omega; skip) | ((with_reducible refine Has.below ?_ ?_); rotate_left; assumption)))); (· kernel_rfl))
    refine (implIsRenaming b _ hb).mono ?_
    rintro e w2 ⟨rfl, b2⟩
    replace HA := HA.below b2
    replace HS := HS.below b2
    replace Z := Z.below b2
    replace Y := Y.below b2
    replace HB := Lib.hid (HB.out.call b2)
    clear b2
    by_cases hu : namesB b = true
    · rw [hu]
      have V := Lib.hid (behR_yes HV.out hu)
      have gi := index6 22 Try.underlying22 a ha
      have HG := Lib.hid gi
      clear hu gi
      go_wp2_with (refine load_has rfl 22 _ rfl _ rfl ?_ 6 ?_ _ Try.underlying22 rfl ?_ ?_; rotate_left; (· (repeat (first | (with_reducible assumption) | ((with_reducible refine Has.box _ _ ?_ ?_) <;> (first | assumption | decide)) | (with_reducible refine Has.alloc ?_ _) | ((with_reducible refine Has.putOther ?_ _ _ ?_); rotate_left; omega; skip) | ((with_reducible refine Has.below ?_ ?_); rotate_left; assumption)))); (· kernel_rfl))
      clear ha hb HA
      go_loopg [20] 6 (fun gk i wr => ∃ p : Nat, gk = 6 - p ∧ p ≤ 6 ∧ i = .int .i64 p ∧ Has wr (w.heap.size + 1) b 6 ∧ Has wr (w.heap.size + 1 + 1) z6x 6 ∧ Has wr (w.heap.size + 1 + 1 + 1) (behUp a b p) 6 ∧ Hid (Kept w wr))
      case atStart => exact ⟨0, rfl, by omega, rfl, HS, Z, Y, HB⟩
      case round =>
        obtain ⟨p, rfl, hp, rfl, GS, GZ, GY, GB⟩ := hrel
        by_cases hp6 : p < 6
        · have hpi : (p : Int) < 6 := by omega
          obtain ⟨c, hc6, hce⟩ := perm_nat HP.out p hp6
          have hc6' : (c : Int) < 6 := by omega
          have g1 := HG.out p hp6
          rw [hce] at g1
          have g2 := GS.cell c hc6
          have c1 := GY.cell p hp6
          have f1 := GY.free p hp6
          have S1 := Lib.hid ((GY.set p (b.getD c 0) hp6).asL (behUp_step a b p c hce))
          have S2 := Lib.hid (GZ.setOther (b' := w.heap.size + 1 + 1 + 1) p (.int .i64 (b.getD c 0)) (by omega))
          have S5 := Lib.hid (GS.setOther (b' := w.heap.size + 1 + 1 + 1) p (.int .i64 (b.getD c 0)) (by omega))
          
          have S4 := Lib.hid (GB.out.set (b := w.heap.size + 1 + 1 + 1) (by omega) p (.int .i64 (b.getD c 0)))
          clear hce GY GZ GB GS
          generalize b.getD c 0 = v at *
          go_wp2_with fail
          go_roundg (6 - (p + 1))
          case rel => exact ⟨p + 1, rfl, by omega, by go_num, S5.out, S2.out, S1.out, S4⟩
          case measure => omega
        · obtain rfl : p = 6 := by omega
          have hl := behUp_len a b 6
          have S1 := Lib.hid (GZ.putAll (behUp a b 6) hl)
          have S2 := Lib.hid (GB.out.puts (b := w.heap.size + 1 + 1) (by omega) 0 (ints (behUp a b 6)))
          go_wp2_with (first | (refine load_has rfl 22 _ rfl _ rfl ?_ 6 ?_ _ Try.underlying22 rfl ?_ ?_; rotate_left; (· (repeat (first | (with_reducible assumption) | ((with_reducible refine Has.box _ _ ?_ ?_) <;> (first | assumption | decide)) | (with_reducible refine Has.alloc ?_ _) | ((with_reducible refine Has.putOther ?_ _ _ ?_); rotate_left; omega; skip) | ((with_reducible refine Has.below ?_ ?_); rotate_left; assumption)))); (· kernel_rfl)) | (refine store_at rfl 22 _ _ rfl _ _ rfl rfl ?_ 6 ?_ ?_ ?_ ?_; rotate_left; (· (repeat (first | (with_reducible assumption) | ((with_reducible refine Has.box _ _ ?_ ?_) <;> (first | assumption | decide)) | (with_reducible refine Has.alloc ?_ _) | ((with_reducible refine Has.putOther ?_ _ _ ?_); rotate_left; omega; skip) | ((with_reducible refine Has.below ?_ ?_); rotate_left; assumption)))); (· (first | assumption | rfl)); (· kernel_rfl)))
          exact bodyPost_ret (res_has1 rfl _ _ (w.heap.size + 1 + 1) (behUp a b 6) 6 _ (.bool true) rfl rfl S1.out Try.underlying22 rfl (by kernel_rfl)) rfl ⟨by rw [V.out.1, V.out.2], S2.out⟩
    · have V := Lib.hid (behR_no (a := a) (b := b) fun h => hu h.2)
      have hf : namesB b = false := by simpa using hu
      rw [hf]
      clear hu hf
      have S1 := Lib.hid (Z.putAll z6x rfl)
      have S2 := Lib.hid (HB.out.puts (b := w.heap.size + 1 + 1) (by omega) 0 (ints z6x))
      go_wp2_with (first | (refine load_has rfl 22 _ rfl _ rfl ?_ 6 ?_ _ Try.underlying22 rfl ?_ ?_; rotate_left; (· (repeat (first | (with_reducible assumption) | ((with_reducible refine Has.box _ _ ?_ ?_) <;> (first | assumption | decide)) | (with_reducible refine Has.alloc ?_ _) | ((with_reducible refine Has.putOther ?_ _ _ ?_); rotate_left; omega; skip) | ((with_reducible refine Has.below ?_ ?_); rotate_left; assumption)))); (· kernel_rfl)) | (refine store_at rfl 22 _ _ rfl _ _ rfl rfl ?_ 6 ?_ ?_ ?_ ?_; rotate_left; (· (repeat (first | (with_reducible assumption) | ((with_reducible refine Has.box _ _ ?_ ?_) <;> (first | assumption | decide)) | (with_reducible refine Has.alloc ?_ _) | ((with_reducible refine Has.putOther ?_ _ _ ?_); rotate_left; omega; skip) | ((with_reducible refine Has.below ?_ ?_); rotate_left; assumption)))); (· (first | assumption | rfl)); (· kernel_rfl)))
      exact bodyPost_ret (res_has1 rfl _ _ (w.heap.size + 1 + 1) z6x 6 _ (.bool false) rfl rfl S1.out Try.underlying22 rfl (by kernel_rfl)) rfl ⟨by rw [V.out.1, V.out.2], S2.out⟩
  · have V := Lib.hid (behR_no (a := a) (b := b) fun h => hv h.1)
    have hf : namesB a = false := by simpa using hv
    rw [hf]
    clear hv hf
    have S1 := Lib.hid (Z.putAll z6x rfl)
    have S2 := Lib.hid (HB.out.puts (b := w.heap.size + 1 + 1) (by omega) 0 (ints z6x))
    go_wp2_with (first | (refine load_has rfl 22 _ rfl _ rfl ?_ 6 ?_ _ Try.underlying22 rfl ?_ ?_; rotate_left; (· (repeat (first | (with_reducible assumption) | ((with_reducible refine Has.box _ _ ?_ ?_) <;> (first | assumption | decide)) | (with_reducible refine Has.alloc ?_ _) | ((with_reducible refine Has.putOther ?_ _ _ ?_); rotate_left; omega; skip) | ((with_reducible refine Has.below ?_ ?_); rotate_left; assumption)))); (· kernel_rfl)) | (refine store_at rfl 22 _ _ rfl _ _ rfl rfl ?_ 6 ?_ ?_ ?_ ?_; rotate_left; (· (repeat (first | (with_reducible assumption) | ((with_reducible refine Has.box _ _ ?_ ?_) <;> (first | assumption | decide)) | (with_reducible refine Has.alloc ?_ _) | ((with_reducible refine Has.putOther ?_ _ _ ?_); rotate_left; omega; skip) | ((with_reducible refine Has.below ?_ ?_); rotate_left; assumption)))); (· (first | assumption | rfl)); (· kernel_rfl)))
    exact bodyPost_ret (res_has1 rfl _ _ (w.heap.size + 1 + 1) z6x 6 _ (.bool false) rfl rfl S1.out Try.underlying22 rfl (by kernel_rfl)) rfl ⟨by rw [V.out.1, V.out.2], S2.out⟩


end Go.Proofs.Ytjbphpjmpjkclaa.base

