/-
  How many different racks orders make of one, on the model's side, walked.
-/
import Derived.Test.YtjbphpjmpjkclabCntI
import Derived.Test.YtjbphpjmpjkclabFormS
import Derived.Test.YtjbphpjmpjkclabEqR
import Derived.Test.YtjbphpjmpjkclabSpecW
import Derived.Test.YtjbphpjmpjkclabDoors
namespace Go.Proofs.Ytjbphpjmpjkclab.base
open Go.ChangeShapes Go.WideShapes Go.ChangeAt Go.RowKit
set_option linter.unusedVariables false
set_option linter.unusedSimpArgs false

theorem wrap64_sm (n : Nat) (h : n < 1000) : wrap64 (n : Int) = (n : Int) := by unfold wrap64; omega

set_option maxHeartbeats 1600000 in
set_option maxRecDepth 100000 in
theorem specCountOrders (ns : List Int) (w : World) (h24 : ns.length = 24) :
    Calls Try.prog 13 #[row ns] w fun e w' => e = .returned (.tuple #[.int .i64 (ordersA ns : Nat), .bool (vR ns)]) ∧ Kept w w' := by
  have HB := Lib.hid ((kept_refl w).alloc (.cells (ints ns).toArray 29))
  have H := Has.box w 29 h24 (by omega)
  have HMT : Hid (Try.prog.eqGuardType Try.prog.depth 22 = false) := Lib.hid (by kernel_rfl)
  rw [row_ints]
  go_enter Try.func13, Try.ntmps13
  go_wp2_with (refine load_has rfl 29 _ rfl _ rfl ?_ 24 ?_ _ Try.underlying29 rfl ?_ ?_; rotate_left; (· (repeat (first | (with_reducible assumption) | ((with_reducible refine Has.box _ _ ?_ ?_) <;> (first | assumption | decide)) | (with_reducible refine Has.alloc ?_ _) | ((with_reducible refine Has.putOther ?_ _ _ ?_); rotate_left; omega; skip) | ((with_reducible refine Has.below ?_ ?_); rotate_left; assumption)))); (· kernel_rfl))
  refine (l2Rack_any ns _ h24).mono ?_
  rintro e w1 ⟨rfl, b1⟩
  replace H := H.below b1
  replace HB := Lib.hid (HB.out.call b1)
  clear b1
  by_cases hv : vR ns = true
  · rw [hv]
    have HV := Lib.hid hv
    have E0 := Lib.hid (show ordersA ns = divF (tub (formL ns)) 5 by unfold ordersA; rw [if_pos hv, orders_same h24])
    clear hv
    go_wp2_with (refine load_has rfl 29 _ rfl _ rfl ?_ 24 ?_ _ Try.underlying29 rfl ?_ ?_; rotate_left; (· (repeat (first | (with_reducible assumption) | ((with_reducible refine Has.box _ _ ?_ ?_) <;> (first | assumption | decide)) | (with_reducible refine Has.alloc ?_ _) | ((with_reducible refine Has.putOther ?_ _ _ ?_); rotate_left; omega; skip) | ((with_reducible refine Has.below ?_ ?_); rotate_left; assumption)))); (· kernel_rfl))
    refine (l3Form_any ns _ h24).mono ?_
    rintro e w2 ⟨rfl, b2⟩
    have hfl := formL_len ns h24
    have F := Has.box w2 29 hfl (by omega)
    replace HB := Lib.hid ((HB.out.call b2).alloc (.cells (ints (formL ns)).toArray 29))
    clear b2 H h24
    generalize formL ns = fs at *
    have HL := Lib.hid hfl
    go_wp2_with (refine store_new rfl 29 _ _ rfl _ _ _ rfl _ rfl _ rfl rfl ?_ ?_ ?_; (· (first | assumption | rfl)); (· kernel_rfl))
    generalize w2.alloc (.cells (ints fs).toArray 29) = W at *
    generalize w2.heap.size = g0 at *
    go_loopg [5, 6, 7] 5 (fun gk m s i wr => ∃ k : Nat, gk = 5 - k ∧ k ≤ 5 ∧ i = .int .i64 ((k : Int) + 1) ∧ m = .int .i64 (divF (tub fs) k : Nat) ∧ s = .int .i64 (runF (tub fs) k : Nat) ∧ Has wr g0 fs 24 ∧ Hid (Kept w wr))
    case atStart => exact ⟨0, rfl, by omega, rfl, rfl, rfl, F, HB⟩
    case round =>
      obtain ⟨k, rfl, hk, rfl, rfl, rfl, GF, GB⟩ := hrel
      by_cases hk5 : k < 5
      · have hki : (k : Int) + 1 < 6 := by omega
        have s4 := tub_len fs (k + 1) HL.out (by omega)
        have t4 := tub_len fs k HL.out (by omega)
        have l1 : (ints (tub fs (k + 1))).length = 4 := by rw [ints_len]; exact s4
        have l2 : (ints (tub fs k)).length = 4 := by rw [ints_len]; exact t4
        have hi1 : (Try.prog.info? 22).map (·.size) = some (ints (tub fs (k + 1))).length := by rw [l1]; kernel_rfl
        have hi2 : (Try.prog.info? 22).map (·.size) = some (ints (tub fs k)).length := by rw [l2]; kernel_rfl
        have EQ := Lib.hid (eqArr4 (tub fs (k + 1)) (tub fs k) s4 t4)
        have e1 : ((k : Int) + 1) - 1 = (k : Int) := by omega
        have e2 : ((k : Int) + 1).toNat = k + 1 := by omega
        have W0 := wrap_small k (by omega)
        have hk0 : (0 : Int) ≤ (k : Int) + 1 := by omega
        have hk1 : (0 : Int) ≤ (k : Int) := by omega
        have hk2 : (k : Int) < 6 := by omega
        have b1 := divF_le (tub fs) k
        have b2 := runF_pos (tub fs) k
        have b3 := runF_pos (tub fs) (k + 1)
        have DS : Hid (((divF (tub fs) k : Nat) : Int) / ((runF (tub fs) (k + 1) : Nat) : Int) = ((divF (tub fs) (k + 1) : Nat) : Int)) := Lib.hid (by rw [divF, Int.natCast_ediv])
        go_wp2_with fail
        refine wp_region_held_drew (S := fun w' => Has w' g0 fs 24 ∧ Kept w w') (by kernel_rfl) ⟨GF.drew, GB.out.drewN 1⟩ (fun hHeld => ?_)
        generalize hWD : World.drew wr = WD at *
        clear hWD GF GB
        (refine wpAnyH_take (i := 0) (v := ?_) rfl (by kernel_rfl) (by kernel_rfl) (by kernel_rfl) (fun _ _ _ h => h) (Or.inl ⟨by rfl, ?_⟩) hHeld ?_; rotate_left; (· (intro w' hSw; go_simp; try with_reducible rfl)); (try simp only [List.getElem_toArray, List.getElem_cons_zero, List.getElem_cons_succ, Act.put, List.setIfInBounds_toArray, List.set_cons_zero, List.set_cons_succ])); (refine wpAnyH_take (i := 1) (v := ?_) rfl (by kernel_rfl) (by kernel_rfl) (by kernel_rfl) (fun _ _ _ h => h) (Or.inl ⟨by rfl, ?_⟩) hHeld ?_; rotate_left; (· (intro w' hSw; go_simp; try with_reducible rfl)); (try simp only [List.getElem_toArray, List.getElem_cons_zero, List.getElem_cons_succ, Act.put, List.setIfInBounds_toArray, List.set_cons_zero, List.set_cons_succ])); (refine wpAnyH_take (i := 2) (v := ?_) rfl (by kernel_rfl) (by kernel_rfl) (by kernel_rfl) (fun _ _ _ h => h) (Or.inl ⟨by rfl, ?_⟩) hHeld ?_; rotate_left; (· (intro w' hSw; go_simp; try with_reducible rfl)); (try simp only [List.getElem_toArray, List.getElem_cons_zero, List.getElem_cons_succ, Act.put, List.setIfInBounds_toArray, List.set_cons_zero, List.set_cons_succ])); (refine wpAnyH_take (i := 4) (v := ?_) rfl (by kernel_rfl) (by kernel_rfl) (by kernel_rfl) (fun _ _ _ h => h) (Or.inl ⟨by rfl, ?_⟩) hHeld ?_; rotate_left; (· (intro w' hSw; go_simp; try with_reducible rfl)); (try simp only [List.getElem_toArray, List.getElem_cons_zero, List.getElem_cons_succ, Act.put, List.setIfInBounds_toArray, List.set_cons_zero, List.set_cons_succ])); (refine wpAnyH_take (i := 5) (v := ?_) rfl (by kernel_rfl) (by kernel_rfl) (by kernel_rfl) (fun _ _ _ h => h) (Or.inl ⟨by rfl, ?_⟩) hHeld ?_; rotate_left; (· (intro w' hSw; go_simp; try with_reducible rfl)); (try simp only [List.getElem_toArray, List.getElem_cons_zero, List.getElem_cons_succ, Act.put, List.setIfInBounds_toArray, List.set_cons_zero, List.set_cons_succ])); (refine wpAnyH_take (i := 6) (v := ?_) rfl (by kernel_rfl) (by kernel_rfl) (by kernel_rfl) (fun _ _ _ h => h) (Or.inl ⟨by rfl, ?_⟩) hHeld ?_; rotate_left; (· (intro w' hSw; go_simp; try with_reducible rfl)); (try simp only [List.getElem_toArray, List.getElem_cons_zero, List.getElem_cons_succ, Act.put, List.setIfInBounds_toArray, List.set_cons_zero, List.set_cons_succ])); (refine wpAnyH_take (i := 7) (v := ?_) rfl (by kernel_rfl) (by kernel_rfl) (by kernel_rfl) (fun _ _ _ h => h) (Or.inl ⟨by rfl, ?_⟩) hHeld ?_; rotate_left; (· (intro w' hSw; go_simp; try with_reducible rfl)); (try simp only [List.getElem_toArray, List.getElem_cons_zero, List.getElem_cons_succ, Act.put, List.setIfInBounds_toArray, List.set_cons_zero, List.set_cons_succ]))
        (refine wpAnyH_take (i := 3) (v := _) rfl (by kernel_rfl) (by kernel_rfl) (by kernel_rfl) (fun _ _ _ h => h) (yieldsIf_load_mid (by rfl) 22 _ rfl _ _ rfl (ints (tub fs (k + 1))) _ (fun w' hSw => hSw.1.holds.sub ((k + 1) * 4) 4) Try.underlying22 rfl (hi1)) hHeld ?_; (try simp only [List.getElem_toArray, List.getElem_cons_zero, List.getElem_cons_succ, Act.put, List.setIfInBounds_toArray, List.set_cons_zero, List.set_cons_succ]))
        (refine wpAnyH_take (i := 8) (v := _) rfl (by kernel_rfl) (by kernel_rfl) (by kernel_rfl) (fun _ _ _ h => h) (yieldsIf_load_mid (by rfl) 22 _ rfl _ _ rfl (ints (tub fs k)) _ (fun w' hSw => hSw.1.holds.sub (k * 4) 4) Try.underlying22 rfl (hi2)) hHeld ?_; (try simp only [List.getElem_toArray, List.getElem_cons_zero, List.getElem_cons_succ, Act.put, List.setIfInBounds_toArray, List.set_cons_zero, List.set_cons_succ]))
        refine wpAnyH_take (i := 9) (v := .bool (decide (tub fs (k + 1) = tub fs k))) rfl (by kernel_rfl) (by kernel_rfl) (by kernel_rfl) (fun _ _ _ h => h) (Or.inl ⟨by rfl, fun w' hSw => eql_run _ _ _ _ _ _ rfl _ _ rfl rfl HMT.out EQ.out⟩) hHeld ?_
        (try simp only [List.getElem_toArray, List.getElem_cons_zero, List.getElem_cons_succ, Act.put, List.setIfInBounds_toArray, List.set_cons_zero, List.set_cons_succ])
        refine wpAnyH_done (by kernel_rfl) ?_ _
        obtain ⟨D1, D2⟩ := hHeld
        replace D2 := Lib.hid D2
        by_cases e : tub fs (k + 1) = tub fs k
        · rw [decide_eq_true e]
          have R1 : runF (tub fs) (k + 1) = runF (tub fs) k + 1 := by rw [runF, if_pos e]
          have R2 : ((runF (tub fs) k : Nat) : Int) + 1 = ((runF (tub fs) (k + 1) : Nat) : Int) := by rw [R1]; rfl
          clear e EQ hi1 hi2 l1 l2 R1 e1 e2
          generalize hr : runF (tub fs) (k + 1) = r1 at *
          have nz : (r1 : Int) ≠ 0 := by omega
          go_wp2_with fail
          go_roundg (5 - (k + 1))
          case rel => exact ⟨k + 1, rfl, by omega, by go_num, by rw [DS.out, wrap64_sm _ (by have := divF_le (tub fs) (k + 1); omega)], by rw [hr], D1, D2⟩
          case measure => omega
        · rw [decide_eq_false e]
          have R1 : runF (tub fs) (k + 1) = 1 := by rw [runF, if_neg e]
          rw [R1] at DS
          clear e EQ hi1 hi2 l1 l2 e1 e2
          go_wp2_with fail
          go_roundg (5 - (k + 1))
          case rel => exact ⟨k + 1, rfl, by omega, by go_num, by rw [← DS.out]; simp, by rw [R1]; rfl, D1, D2⟩
          case measure => omega
      · obtain rfl : k = 5 := by omega
        go_wp2_with fail
        go_ret2
        exact ⟨by rw [HV.out, E0.out]; rfl, GB.out⟩
  · have hf : vR ns = false := by simpa using hv
    have E0 := Lib.hid (show ordersA ns = 0 by unfold ordersA; rw [if_neg hv])
    rw [hf]
    have HF := Lib.hid hf
    clear hv hf
    go_wp2_with fail
    go_ret2
    exact ⟨by rw [HF.out, E0.out]; rfl, HB.out⟩
end Go.Proofs.Ytjbphpjmpjkclab.base
