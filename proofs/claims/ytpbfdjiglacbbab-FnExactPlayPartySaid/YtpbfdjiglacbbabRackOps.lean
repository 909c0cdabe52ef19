/-
  Racks of zeros, and comparing racks in a law, walked.
-/
import Derived.Test.YtpbfdjiglacbbabDoors
import Derived.Test.YtpbfdjiglacbbabRackTo
import Derived.Deep.RegionHeld3
namespace Go.Proofs.Ytpbfdjiglacbbab.base
open Go.ChangeShapes Go.WideShapes Go.ChangeAt Go.RowKit
set_option linter.unusedVariables false
set_option linter.unusedSimpArgs false

def z24 : List Int := [0, 0, 0, 0, 0, 0, 0, 0, 0, 0, 0, 0, 0, 0, 0, 0, 0, 0, 0, 0, 0, 0, 0, 0]
theorem buildRack (w : World) : (Instr.build 28 #[]).run Try.prog w = .ok (.agg (ints z24).toArray) w := by kernel_rfl
theorem Has.zero24 (w : World) (T : TypeId) : Has (w.alloc (.cells #[.int .i64 0, .int .i64 0, .int .i64 0, .int .i64 0, .int .i64 0, .int .i64 0, .int .i64 0, .int .i64 0, .int .i64 0, .int .i64 0, .int .i64 0, .int .i64 0, .int .i64 0, .int .i64 0, .int .i64 0, .int .i64 0, .int .i64 0, .int .i64 0, .int .i64 0, .int .i64 0, .int .i64 0, .int .i64 0, .int .i64 0, .int .i64 0] T)) w.heap.size z24 24 := Has.box (ns := z24) w T rfl (by decide)

set_option maxHeartbeats 400000 in
theorem eqIntA4_same (t : List Int) (w : World) (h4 : t.length = 4) :
    Calls Try.prog 62 #[row t, row t] w fun e w' => e = .returned (.bool true) ∧ Kept w w' := by
  have HB := Lib.hid (((kept_refl w).alloc (.cells (ints t).toArray 22)).alloc (.cells (ints t).toArray 22))
  have H1 := (Has.box w 22 h4 (by omega)).alloc (.cells (ints t).toArray 22)
  have H2 := (Has.box (w.alloc (.cells (ints t).toArray 22)) 22 h4 (by omega)).at (size1 _ _)
  rw [row_ints]
  go_enter Try.func62, Try.ntmps62
  go_wp2_with fail
  have HL := Lib.hid h4
  clear h4
  generalize ((w.alloc (.cells (ints t).toArray 22)).alloc (.cells (ints t).toArray 22)) = W at *
  go_loopw [5] (fun z wr => ∃ k : Nat, k ≤ 4 ∧ z = .int .i64 k ∧ Has wr w.heap.size t 4 ∧ Has wr (w.heap.size + 1) t 4 ∧ Hid (Kept w wr)) (fun z _ => 4 - (intOf z).toNat)
  case atStart => exact ⟨0, by omega, rfl, H1, H2, HB⟩
  case round =>
    obtain ⟨k, hk, rfl, G1, G2, GB⟩ := hrel
    by_cases h : k < 4
    · have c1 := G1.cell k h
      have c2 := G2.cell k h
      have hki : (k : Int) < 4 := by omega
      have hk0 : (0 : Int) ≤ (k : Int) := by omega
      generalize t.getD k 0 = x at *
      go_wp2_with fail
      go_quiet (fail)
      have G3 := G1.drewN nq
      have G4 := G2.drewN nq
      have GB2 := Lib.hid (GB.out.drewN nq)
      go_wp2_with fail
      go_roundw
      case rel => exact ⟨k + 1, by omega, by go_num, G3, G4, GB2⟩
      case measure => simp [intOf]; omega
    · go_wp2_with fail
      go_ret
      exact ⟨rfl, GB.out⟩

set_option maxHeartbeats 800000 in
set_option maxRecDepth 100000 in
theorem eqIntA4A6_same (ns : List Int) (w : World) (h24 : ns.length = 24) :
    Calls Try.prog 43 #[row ns, row ns] w fun e w' => e = .returned (.bool true) ∧ Kept w w' := by
  have HB := Lib.hid (((kept_refl w).alloc (.cells (ints ns).toArray 23)).alloc (.cells (ints ns).toArray 23))
  have H1 := (Has.box w 23 h24 (by omega)).alloc (.cells (ints ns).toArray 23)
  have H2 := (Has.box (w.alloc (.cells (ints ns).toArray 23)) 23 h24 (by omega)).at (size1 _ _)
  rw [row_ints]
  go_enter Try.func43, Try.ntmps43
  go_wp2_with fail
  generalize ((w.alloc (.cells (ints ns).toArray 23)).alloc (.cells (ints ns).toArray 23)) = W at *
  go_loopw [5] (fun z wr => ∃ k : Nat, k ≤ 6 ∧ z = .int .i64 k ∧ Has wr w.heap.size ns 24 ∧ Has wr (w.heap.size + 1) ns 24 ∧ Hid (Kept w wr)) (fun z _ => 6 - (intOf z).toNat)
  case atStart => exact ⟨0, by omega, rfl, H1, H2, HB⟩
  case round =>
    obtain ⟨k, hk, rfl, G1, G2, GB⟩ := hrel
    by_cases h : k < 6
    · have hki : (k : Int) < 6 := by omega
      have hk0 : (0 : Int) ≤ (k : Int) := by omega
      have h4 := tub_len ns k h24 h
      have l1 : (ints (tub ns k)).length = 4 := by rw [ints_len]; exact h4
      have hi1 : (Try.prog.info? 22).map (·.size) = some (ints (tub ns k)).length := by rw [l1]; kernel_rfl
      go_wp2_with fail
      refine wp_region_held_drew (S := fun w' => Has w' w.heap.size ns 24 ∧ Has w' (w.heap.size + 1) ns 24 ∧ Kept w w') (by kernel_rfl) ?_ (fun hHeld => ?_)
      · exact ⟨G1.drew, G2.drew, GB.out.drewN 1⟩
      (refine wpAnyH_take (i := 0) (v := ?_) rfl (by kernel_rfl) (by kernel_rfl) (by kernel_rfl) (fun _ _ _ h => h) (Or.inl ⟨by rfl, ?_⟩) hHeld ?_; rotate_left; (· (intro w' hSw; go_simp; try with_reducible rfl)); (try simp only [List.getElem_toArray, List.getElem_cons_zero, List.getElem_cons_succ, Act.put, List.setIfInBounds_toArray, List.set_cons_zero, List.set_cons_succ])); (refine wpAnyH_take (i := 1) (v := ?_) rfl (by kernel_rfl) (by kernel_rfl) (by kernel_rfl) (fun _ _ _ h => h) (Or.inl ⟨by rfl, ?_⟩) hHeld ?_; rotate_left; (· (intro w' hSw; go_simp; try with_reducible rfl)); (try simp only [List.getElem_toArray, List.getElem_cons_zero, List.getElem_cons_succ, Act.put, List.setIfInBounds_toArray, List.set_cons_zero, List.set_cons_succ])); (refine wpAnyH_take (i := 3) (v := ?_) rfl (by kernel_rfl) (by kernel_rfl) (by kernel_rfl) (fun _ _ _ h => h) (Or.inl ⟨by rfl, ?_⟩) hHeld ?_; rotate_left; (· (intro w' hSw; go_simp; try with_reducible rfl)); (try simp only [List.getElem_toArray, List.getElem_cons_zero, List.getElem_cons_succ, Act.put, List.setIfInBounds_toArray, List.set_cons_zero, List.set_cons_succ])); (refine wpAnyH_take (i := 4) (v := ?_) rfl (by kernel_rfl) (by kernel_rfl) (by kernel_rfl) (fun _ _ _ h => h) (Or.inl ⟨by rfl, ?_⟩) hHeld ?_; rotate_left; (· (intro w' hSw; go_simp; try with_reducible rfl)); (try simp only [List.getElem_toArray, List.getElem_cons_zero, List.getElem_cons_succ, Act.put, List.setIfInBounds_toArray, List.set_cons_zero, List.set_cons_succ]))
      (refine wpAnyH_take (i := 2) (v := _) rfl (by kernel_rfl) (by kernel_rfl) (by kernel_rfl) (fun _ _ _ h => h) (yieldsIf_load_mid (by rfl) 22 _ rfl _ _ rfl (ints (tub ns k)) _ (fun w' hSw => hSw.1.holds.sub (k * 4) 4) Try.underlying22 rfl (hi1)) hHeld ?_; (try simp only [List.getElem_toArray, List.getElem_cons_zero, List.getElem_cons_succ, Act.put, List.setIfInBounds_toArray, List.set_cons_zero, List.set_cons_succ]))
      (refine wpAnyH_take (i := 5) (v := _) rfl (by kernel_rfl) (by kernel_rfl) (by kernel_rfl) (fun _ _ _ h => h) (yieldsIf_load_mid (by rfl) 22 _ rfl _ _ rfl (ints (tub ns k)) _ (fun w' hSw => hSw.2.1.holds.sub (k * 4) 4) Try.underlying22 rfl (hi1)) hHeld ?_; (try simp only [List.getElem_toArray, List.getElem_cons_zero, List.getElem_cons_succ, Act.put, List.setIfInBounds_toArray, List.set_cons_zero, List.set_cons_succ]))
      (refine wpAnyH_ready (rs := [6]) (by kernel_rfl) (by simp) ?_; refine AllReadyH.cons (o := _) rfl (fun K hK => ?_) AllReadyH.nil; (simp only [List.getElem_toArray, List.getElem_cons_zero, List.getElem_cons_succ, Region.wanted, if_true]))
      go_simp
      refine (eqIntA4_same (tub ns k) _ h4).mono ?_
      rintro e w1 ⟨rfl, b1⟩
      have G3 := hHeld.1.below b1
      have G4 := hHeld.2.1.below b1
      have GB2 := hHeld.2.2.call b1
      dsimp only
      (try simp only [List.getElem_toArray, List.getElem_cons_zero, List.getElem_cons_succ, Act.put, List.setIfInBounds_toArray, List.set_cons_zero, List.set_cons_succ])
      refine hK.out _ _ ⟨G3, G4, GB2⟩ (fun hHeld => ?_)
      clear hK K
      (refine wpAnyH_take (i := 7) (v := ?_) rfl (by kernel_rfl) (by kernel_rfl) (by kernel_rfl) (fun _ _ _ h => h) (Or.inl ⟨by rfl, ?_⟩) hHeld ?_; rotate_left; (· (intro w' hSw; go_simp; try with_reducible rfl)); (try simp only [List.getElem_toArray, List.getElem_cons_zero, List.getElem_cons_succ, Act.put, List.setIfInBounds_toArray, List.set_cons_zero, List.set_cons_succ]))
      refine wpAnyH_done (by kernel_rfl) ?_ _
      have GB3 := Lib.hid GB2
      clear hHeld GB2 b1 G1 G2 GB hi1 l1
      go_wp2_with fail
      go_roundw
      case rel => exact ⟨k + 1, by omega, by go_num, G3, G4, GB3⟩
      case measure => simp [intOf]; omega
    · go_wp2_with fail
      go_ret
      exact ⟨rfl, GB.out⟩

theorem eqRack_same (ns : List Int) (w : World) (h24 : ns.length = 24) :
    Calls Try.prog 20 #[row ns, row ns] w fun e w' => e = .returned (.bool true) ∧ Kept w w' := by
  have HB := Lib.hid (((kept_refl w).alloc (.cells (ints ns).toArray 28)).alloc (.cells (ints ns).toArray 28))
  have H1 := (Has.box w 28 h24 (by omega)).alloc (.cells (ints ns).toArray 28)
  have H2 := (Has.box (w.alloc (.cells (ints ns).toArray 28)) 28 h24 (by omega)).at (size1 _ _)
  rw [row_ints]
  go_enter Try.func20, Try.ntmps20
  go_wp2_with (refine load_has rfl 23 _ rfl _ rfl ?_ 24 ?_ _ Try.underlying23 rfl ?_ ?_; rotate_left; (· (repeat (first | (with_reducible assumption) | ((with_reducible refine Has.box _ _ ?_ ?_) <;> (first | assumption | decide)) | (with_reducible refine Has.alloc ?_ _) | ((with_reducible refine Has.putOther ?_ _ _ ?_); rotate_left; omega; skip) | ((with_reducible refine Has.below ?_ ?_); rotate_left; assumption)))); (· kernel_rfl))
  refine (eqIntA4A6_same ns _ h24).mono ?_
  rintro e w1 ⟨rfl, b1⟩
  have HB1 := Lib.hid (HB.out.call b1)
  clear b1
  go_wp2_with fail
  go_ret
  exact ⟨rfl, HB1.out⟩
end Go.Proofs.Ytpbfdjiglacbbab.base
