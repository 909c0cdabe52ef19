/-
  Racks renamed and ordered, renamings taken back and one behind another one, on both sides, walked.
-/
import Derived.Test.YtlleenepinijdaaSixW
import Derived.Test.YtlleenepinijdaaRackOps
import Derived.StillTailTactics
namespace Go.Proofs.Ytlleenepinijdaa.base
open Go.ChangeShapes Go.WideShapes Go.ChangeAt Go.RowKit
set_option linter.unusedVariables false
set_option linter.unusedSimpArgs false

/-- A layer of a valid rack is a color's number. -/
theorem layer_nat (ns : List Int) (h24 : ns.length = 24) (hv : vR ns = true) (p q : Nat) (hp : p < 6) (hq : q < 4) : ∃ c : Nat, c < 6 ∧ ns.getD (p * 4 + q) 0 = (c : Int) := by
  have h4 := tub_len ns p h24 hp
  have hk := (known_iff h4).1 (by have := vR_tub hv p hp; unfold vT at this; exact (Bool.and_eq_true_iff.1 this).1) q hq
  rw [tub_getD ns p q hq] at hk
  exact ⟨(ns.getD (p * 4 + q) 0).toNat, by omega, by omega⟩
theorem ren_step (ns os : List Int) (j c : Nat) (e : ns.getD j 0 = (c : Int)) : (renUp ns os j).set j (os.getD c 0) = renUp ns os (j + 1) := by
  rw [← renUp_set]
  unfold renF
  rw [e]; rfl

set_option maxHeartbeats 1600000 in
set_option maxRecDepth 100000 in
theorem l4Rename_any (ns os : List Int) (w : World) (h24 : ns.length = 24) (h6 : os.length = 6) (hv : vR ns = true) :
    Calls Try.prog 35 #[row ns, row os] w fun e w' => e = .returned (.agg (ints (renR ns os)).toArray) ∧ Kept w w' := by
  have HB := Lib.hid ((((kept_refl w).alloc (.cells (ints ns).toArray 28)).alloc (.cells (ints os).toArray 31)).alloc (.cells #[.int .i64 0, .int .i64 0, .int .i64 0, .int .i64 0, .int .i64 0, .int .i64 0, .int .i64 0, .int .i64 0, .int .i64 0, .int .i64 0, .int .i64 0, .int .i64 0, .int .i64 0, .int .i64 0, .int .i64 0, .int .i64 0, .int .i64 0, .int .i64 0, .int .i64 0, .int .i64 0, .int .i64 0, .int .i64 0, .int .i64 0, .int .i64 0] 28))
  have H := (((Has.box w 28 h24 (by omega)).alloc (.cells (ints os).toArray 31)).alloc (.cells #[.int .i64 0, .int .i64 0, .int .i64 0, .int .i64 0, .int .i64 0, .int .i64 0, .int .i64 0, .int .i64 0, .int .i64 0, .int .i64 0, .int .i64 0, .int .i64 0, .int .i64 0, .int .i64 0, .int .i64 0, .int .i64 0, .int .i64 0, .int .i64 0, .int .i64 0, .int .i64 0, .int .i64 0, .int .i64 0, .int .i64 0, .int .i64 0] 28)).asL (renUp_0 os h24).symm
  have O := ((Has.box (w.alloc (.cells (ints ns).toArray 28)) 31 h6 (by omega)).at (size1 _ _)).alloc (.cells #[.int .i64 0, .int .i64 0, .int .i64 0, .int .i64 0, .int .i64 0, .int .i64 0, .int .i64 0, .int .i64 0, .int .i64 0, .int .i64 0, .int .i64 0, .int .i64 0, .int .i64 0, .int .i64 0, .int .i64 0, .int .i64 0, .int .i64 0, .int .i64 0, .int .i64 0, .int .i64 0, .int .i64 0, .int .i64 0, .int .i64 0, .int .i64 0] 28)
  have Z := (Has.zero24 ((w.alloc (.cells (ints ns).toArray 28)).alloc (.cells (ints os).toArray 31)) 28).at (c := w.heap.size + 1 + 1) (by simp)
  rw [row_ints, row_ints]
  go_enter Try.func35, Try.ntmps35
  go_wp2_with fail
  have HV := Lib.hid hv
  have HL := Lib.hid h24
  clear hv h24 h6
  generalize (((w.alloc (.cells (ints ns).toArray 28)).alloc (.cells (ints os).toArray 31)).alloc (.cells #[.int .i64 0, .int .i64 0, .int .i64 0, .int .i64 0, .int .i64 0, .int .i64 0, .int .i64 0, .int .i64 0, .int .i64 0, .int .i64 0, .int .i64 0, .int .i64 0, .int .i64 0, .int .i64 0, .int .i64 0, .int .i64 0, .int .i64 0, .int .i64 0, .int .i64 0, .int .i64 0, .int .i64 0, .int .i64 0, .int .i64 0, .int .i64 0] 28)) = W at *
  go_loopg [5, 6] 6 (fun gk i kk wr => ∃ p : Nat, gk = 6 - p ∧ p ≤ 6 ∧ i = .int .i64 p ∧ Has wr w.heap.size (renUp ns os (p * 4)) 24 ∧ Has wr (w.heap.size + 1) os 6 ∧ Has wr (w.heap.size + 1 + 1) z24 24 ∧ Hid (Kept w wr))
  case atStart => exact ⟨0, rfl, by omega, rfl, H, O, Z, HB⟩
  case round =>
    obtain ⟨p, rfl, hp, rfl, GH, GO, GZ, GB⟩ := hrel
    by_cases hp6 : p < 6
    · have hpi : (p : Int) < 6 := by omega
      go_wp2_with fail
      go_loopg [6] 4 (fun gk kk wr => ∃ q : Nat, gk = 4 - q ∧ q ≤ 4 ∧ kk = .int .i64 q ∧ Has wr w.heap.size (renUp ns os (p * 4 + q)) 24 ∧ Has wr (w.heap.size + 1) os 6 ∧ Has wr (w.heap.size + 1 + 1) z24 24 ∧ Hid (Kept w wr))
      case atStart => exact ⟨0, rfl, by omega, rfl, GH, GO, GZ, GB⟩
      case round =>
        obtain ⟨q, rfl, hq, rfl, KH, KO, KZ, KB⟩ := hrel
        by_cases hq4 : q < 4
        · have hqi : (q : Int) < 4 := by omega
          obtain ⟨c, hc6, hce⟩ := layer_nat ns HL.out HV.out p q hp6 hq4
          have hj : p * 4 + q < 24 := by omega
          have hc6' : (c : Int) < 6 := by omega
          have hqi' : (q : Int) < 4 := by omega
          go_wp2_with fail
          refine wp_region_still_tail 13 (by kernel_rfl) (by kernel_rfl) ?_
          simp only [List.take_succ_cons, List.take_zero, List.drop_succ_cons, List.drop_zero]
          generalize hW : ({ heap := wr.heap, tape := wr.tape, drawn := wr.drawn + 1, os := wr.os, output := wr.output } : World) = wd
          have DH : Has wd w.heap.size (renUp ns os (p * 4 + q)) 24 := by rw [← hW]; exact KH.drew
          have DO : Has wd (w.heap.size + 1) os 6 := by rw [← hW]; exact KO.drew
          have DZ : Has wd (w.heap.size + 1 + 1) z24 24 := by rw [← hW]; exact KZ.drew
          have DB : Kept w wd := by rw [← hW]; exact KB.out.drewN 1
          clear hW KH KO KZ KB
          have c0 := DH.cell (p * 4 + q) hj
          rw [renUp_old ns os _ _ hj (Nat.le_refl _), hce] at c0
          have c1 := DO.cell c hc6
          have f0 := DH.free (p * 4 + q) hj
          have S1 := Lib.hid ((DH.set (p * 4 + q) (os.getD c 0) hj).asL (ren_step ns os _ c hce))
          have S2 := Lib.hid (DO.setOther (b' := w.heap.size) (p * 4 + q) (.int .i64 (os.getD c 0)) (by omega))
          have S3 := Lib.hid (DZ.setOther (b' := w.heap.size) (p * 4 + q) (.int .i64 (os.getD c 0)) (by omega))
          have S4 := Lib.hid (DB.set (b := w.heap.size) (by omega) (p * 4 + q) (.int .i64 (os.getD c 0)))
          clear hce DH DO DZ DB
          generalize os.getD c 0 = v at *
          repeat still_step
          refine wpStill_nil ?_
          go_wp2_with fail
          go_roundg (4 - (q + 1))
          case rel => exact ⟨q + 1, rfl, by omega, by go_num, S1.out, S2.out, S3.out, S4⟩
          case measure => omega
        · obtain rfl : q = 4 := by omega
          have E : p * 4 + 4 = (p + 1) * 4 := by omega
          rw [E] at KH
          clear E
          go_wp2_with fail
          go_roundg (6 - (p + 1))
          case rel => exact ⟨p + 1, rfl, by omega, by go_num, KH, KO, KZ, KB⟩
          case measure => omega
    · obtain rfl : p = 6 := by omega
      have hl := renUp_len ns os 24
      have E : (6 * 4 : Nat) = 24 := rfl
      rw [E] at GH
      clear E
      have S1 := Lib.hid (GZ.putAll (renUp ns os 24) hl)
      have S2 := Lib.hid (GB.out.puts (b := w.heap.size + 1 + 1) (by omega) 0 (ints (renUp ns os 24)))
      go_wp2_with (first | (refine load_has rfl 28 _ rfl _ rfl ?_ 24 ?_ _ Try.underlying28 rfl ?_ ?_; rotate_left; (· (repeat (first | (with_reducible assumption) | ((with_reducible refine Has.box _ _ ?_ ?_) <;> (first | assumption | decide)) | (with_reducible refine Has.alloc ?_ _) | ((with_reducible refine Has.putOther ?_ _ _ ?_); rotate_left; omega; skip) | ((with_reducible refine Has.below ?_ ?_); rotate_left; assumption)))); (· kernel_rfl)) | (refine store_at rfl 28 _ _ rfl _ _ rfl rfl ?_ 24 ?_ ?_ ?_ ?_; rotate_left; (· (repeat (first | (with_reducible assumption) | ((with_reducible refine Has.box _ _ ?_ ?_) <;> (first | assumption | decide)) | (with_reducible refine Has.alloc ?_ _) | ((with_reducible refine Has.putOther ?_ _ _ ?_); rotate_left; omega; skip) | ((with_reducible refine Has.below ?_ ?_); rotate_left; assumption)))); (· (first | assumption | rfl)); (· kernel_rfl)))
      exact bodyPost_ret (res_has rfl _ _ (w.heap.size + 1 + 1) (renUp ns os 24) 24 _ rfl S1.out Try.underlying28 rfl (by kernel_rfl)) rfl ⟨rfl, S2.out⟩

theorem renA_yes {ns os : List Int} (hv : vR ns = true) (hn : namesB os = true) : renOk ns os = true ∧ renA ns os = renR ns os := by
  have h : renOk ns os = true := by unfold renOk; rw [hv, hn]; rfl
  exact ⟨h, by unfold renA; rw [if_pos h]⟩
theorem renA_no {ns os : List Int} (h : ¬ (vR ns = true ∧ namesB os = true)) : renOk ns os = false ∧ renA ns os = z24 := by
  have h2 : renOk ns os = false := by
    cases hb : renOk ns os with
    | false => rfl
    | true => unfold renOk at hb; exact absurd (Bool.and_eq_true_iff.1 hb) h
  exact ⟨h2, by unfold renA; rw [h2]; rfl⟩

set_option maxHeartbeats 1600000 in
set_option maxRecDepth 100000 in
theorem renamed_any (ns os : List Int) (w : World) (h24 : ns.length = 24) (h6 : os.length = 6) (hv : vR ns = true) :
    Calls Try.prog 51 #[row ns, row os] w fun e w' => e = .returned (.agg (ints (renR ns os)).toArray) ∧ Kept w w' := by
  have HB := Lib.hid ((((kept_refl w).alloc (.cells (ints ns).toArray 28)).alloc (.cells (ints os).toArray 31)).alloc (.cells #[.int .i64 0, .int .i64 0, .int .i64 0, .int .i64 0, .int .i64 0, .int .i64 0, .int .i64 0, .int .i64 0, .int .i64 0, .int .i64 0, .int .i64 0, .int .i64 0, .int .i64 0, .int .i64 0, .int .i64 0, .int .i64 0, .int .i64 0, .int .i64 0, .int .i64 0, .int .i64 0, .int .i64 0, .int .i64 0, .int .i64 0, .int .i64 0] 28))
  have H := ((Has.box w 28 h24 (by omega)).alloc (.cells (ints os).toArray 31)).alloc (.cells #[.int .i64 0, .int .i64 0, .int .i64 0, .int .i64 0, .int .i64 0, .int .i64 0, .int .i64 0, .int .i64 0, .int .i64 0, .int .i64 0, .int .i64 0, .int .i64 0, .int .i64 0, .int .i64 0, .int .i64 0, .int .i64 0, .int .i64 0, .int .i64 0, .int .i64 0, .int .i64 0, .int .i64 0, .int .i64 0, .int .i64 0, .int .i64 0] 28)
  have O := ((Has.box (w.alloc (.cells (ints ns).toArray 28)) 31 h6 (by omega)).at (size1 _ _)).alloc (.cells #[.int .i64 0, .int .i64 0, .int .i64 0, .int .i64 0, .int .i64 0, .int .i64 0, .int .i64 0, .int .i64 0, .int .i64 0, .int .i64 0, .int .i64 0, .int .i64 0, .int .i64 0, .int .i64 0, .int .i64 0, .int .i64 0, .int .i64 0, .int .i64 0, .int .i64 0, .int .i64 0, .int .i64 0, .int .i64 0, .int .i64 0, .int .i64 0] 28)
  have Z := (Has.zero24 ((w.alloc (.cells (ints ns).toArray 28)).alloc (.cells (ints os).toArray 31)) 28).at (c := w.heap.size + 1 + 1) (by simp)
  rw [row_ints, row_ints]
  go_enter Try.func51, Try.ntmps51
  go_wp2_with (refine load_has rfl 23 _ rfl _ rfl ?_ 24 ?_ _ Try.underlying23 rfl ?_ ?_; rotate_left; (· (repeat (first | (with_reducible assumption) | ((with_reducible refine Has.box _ _ ?_ ?_) <;> (first | assumption | decide)) | (with_reducible refine Has.alloc ?_ _) | ((with_reducible refine Has.putOther ?_ _ _ ?_); rotate_left; omega; skip) | ((with_reducible refine Has.below ?_ ?_); rotate_left; assumption)))); (· kernel_rfl))
  replace H := H.asL (renUp_0 os h24).symm
  have HV := Lib.hid hv
  have HL := Lib.hid h24
  clear hv h24 h6
  generalize (((w.alloc (.cells (ints ns).toArray 28)).alloc (.cells (ints os).toArray 31)).alloc (.cells #[.int .i64 0, .int .i64 0, .int .i64 0, .int .i64 0, .int .i64 0, .int .i64 0, .int .i64 0, .int .i64 0, .int .i64 0, .int .i64 0, .int .i64 0, .int .i64 0, .int .i64 0, .int .i64 0, .int .i64 0, .int .i64 0, .int .i64 0, .int .i64 0, .int .i64 0, .int .i64 0, .int .i64 0, .int .i64 0, .int .i64 0, .int .i64 0] 28)) = W at *
  go_loopg [11] 6 (fun gk i wr => ∃ p : Nat, gk = 6 - p ∧ p ≤ 6 ∧ i = .int .i64 p ∧ Has wr w.heap.size (renUp ns os (p * 4)) 24 ∧ Has wr (w.heap.size + 1) os 6 ∧ Has wr (w.heap.size + 1 + 1) z24 24 ∧ Hid (Kept w wr))
  case atStart => exact ⟨0, rfl, by omega, rfl, H, O, Z, HB⟩
  case round =>
    obtain ⟨p, rfl, hp, rfl, GH, GO, GZ, GB⟩ := hrel
    by_cases hp6 : p < 6
    · have hpi : (p : Int) < 6 := by omega
      have g0 := indexTub ns p hp6
      have h4 := tub_len ns p HL.out hp6
      have GH2 := GH.alloc (.cells (ints (tub ns p)).toArray 22)
      have GO2 := GO.alloc (.cells (ints (tub ns p)).toArray 22)
      have GZ2 := GZ.alloc (.cells (ints (tub ns p)).toArray 22)
      have GB2 := Lib.hid (GB.out.alloc (.cells (ints (tub ns p)).toArray 22))
      have gi := index4 22 Try.underlying22 (tub ns p) h4
      have HG := Lib.hid gi
      clear gi
      go_wp2_with (first | (refine store_new rfl 22 _ _ rfl _ _ _ rfl _ rfl _ rfl rfl ?_ ?_ ?_; (· (first | assumption | rfl)); (· kernel_rfl)) | (refine load_has rfl 22 _ rfl _ rfl ?_ 4 ?_ _ Try.underlying22 rfl ?_ ?_; rotate_left; (· (repeat (first | (with_reducible assumption) | ((with_reducible refine Has.box _ _ ?_ ?_) <;> (first | assumption | decide)) | (with_reducible refine Has.alloc ?_ _) | ((with_reducible refine Has.putOther ?_ _ _ ?_); rotate_left; omega; skip) | ((with_reducible refine Has.below ?_ ?_); rotate_left; assumption)))); (· kernel_rfl)))
      clear g0 GH GO GZ GB
      go_loopg [16] 4 (fun gk i wr => ∃ q : Nat, gk = 4 - q ∧ q ≤ 4 ∧ i = .int .i64 q ∧ Has wr w.heap.size (renUp ns os (p * 4 + q)) 24 ∧ Has wr (w.heap.size + 1) os 6 ∧ Has wr (w.heap.size + 1 + 1) z24 24 ∧ Hid (Kept w wr))
      case atStart => exact ⟨0, rfl, by omega, rfl, GH2, GO2, GZ2, GB2⟩
      case round =>
        obtain ⟨q, rfl, hq, rfl, KH, KO, KZ, KB⟩ := hrel
        by_cases hq4 : q < 4
        · have g1 := HG.out q hq4
          obtain ⟨c, hc6, hce⟩ := layer_nat ns HL.out HV.out p q hp6 hq4
          have hj : p * 4 + q < 24 := by omega
          have hc6' : (c : Int) < 6 := by omega
          have hqi' : (q : Int) < 4 := by omega
          rw [tub_getD ns p q hq4, hce] at g1
          go_wp2_with fail
          refine wp_region_still_tail 8 (by kernel_rfl) (by kernel_rfl) ?_
          simp only [List.take_succ_cons, List.take_zero, List.drop_succ_cons, List.drop_zero]
          generalize hW : ({ heap := wr.heap, tape := wr.tape, drawn := wr.drawn + 1, os := wr.os, output := wr.output } : World) = wd
          have DH : Has wd w.heap.size (renUp ns os (p * 4 + q)) 24 := by rw [← hW]; exact KH.drew
          have DO : Has wd (w.heap.size + 1) os 6 := by rw [← hW]; exact KO.drew
          have DZ : Has wd (w.heap.size + 1 + 1) z24 24 := by rw [← hW]; exact KZ.drew
          have DB : Kept w wd := by rw [← hW]; exact KB.out.drewN 1
          clear hW KH KO KZ KB
          have c0 := DH.cell (p * 4 + q) hj
          have c1 := DO.cell c hc6
          have f0 := DH.free (p * 4 + q) hj
          have S1 := Lib.hid ((DH.set (p * 4 + q) (os.getD c 0) hj).asL (ren_step ns os _ c hce))
          have S2 := Lib.hid (DO.setOther (b' := w.heap.size) (p * 4 + q) (.int .i64 (os.getD c 0)) (by omega))
          have S3 := Lib.hid (DZ.setOther (b' := w.heap.size) (p * 4 + q) (.int .i64 (os.getD c 0)) (by omega))
          have S4 := Lib.hid (DB.set (b := w.heap.size) (by omega) (p * 4 + q) (.int .i64 (os.getD c 0)))
          clear hce DH DO DZ DB
          generalize os.getD c 0 = v at *
          repeat still_step
          refine wpStill_nil ?_
          go_wp2_with fail
          go_roundg (4 - (q + 1))
          case rel => exact ⟨q + 1, rfl, by omega, by go_num, S1.out, S2.out, S3.out, S4⟩
          case measure => omega
        · obtain rfl : q = 4 := by omega
          have E : p * 4 + 4 = (p + 1) * 4 := by omega
          rw [E] at KH
          clear E
          go_wp2_with fail
          go_roundg (6 - (p + 1))
          case rel => exact ⟨p + 1, rfl, by omega, by go_num, KH, KO, KZ, KB⟩
          case measure => omega
    · obtain rfl : p = 6 := by omega
      have hl := renUp_len ns os 24
      have E : (6 * 4 : Nat) = 24 := rfl
      rw [E] at GH
      clear E
      have S1 := Lib.hid (GZ.putAll (renUp ns os 24) hl)
      have S2 := Lib.hid (GB.out.puts (b := w.heap.size + 1 + 1) (by omega) 0 (ints (renUp ns os 24)))
      go_wp2_with (first | (refine load_has rfl 28 _ rfl _ rfl ?_ 24 ?_ _ Try.underlying28 rfl ?_ ?_; rotate_left; (· (repeat (first | (with_reducible assumption) | ((with_reducible refine Has.box _ _ ?_ ?_) <;> (first | assumption | decide)) | (with_reducible refine Has.alloc ?_ _) | ((with_reducible refine Has.putOther ?_ _ _ ?_); rotate_left; omega; skip) | ((with_reducible refine Has.below ?_ ?_); rotate_left; assumption)))); (· kernel_rfl)) | (refine store_at rfl 28 _ _ rfl _ _ rfl rfl ?_ 24 ?_ ?_ ?_ ?_; rotate_left; (· (repeat (first | (with_reducible assumption) | ((with_reducible refine Has.box _ _ ?_ ?_) <;> (first | assumption | decide)) | (with_reducible refine Has.alloc ?_ _) | ((with_reducible refine Has.putOther ?_ _ _ ?_); rotate_left; omega; skip) | ((with_reducible refine Has.below ?_ ?_); rotate_left; assumption)))); (· (first | assumption | rfl)); (· kernel_rfl)))
      exact bodyPost_ret (res_has rfl _ _ (w.heap.size + 1 + 1) (renUp ns os 24) 24 _ rfl S1.out Try.underlying28 rfl (by kernel_rfl)) rfl ⟨rfl, S2.out⟩

end Go.Proofs.Ytlleenepinijdaa.base
