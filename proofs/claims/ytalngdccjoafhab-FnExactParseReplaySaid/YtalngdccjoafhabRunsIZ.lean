/-
  The runs of a tube, on the program's side, walked.
-/
/-
  RunsOf on both sides, walked.
-/
import Derived.Test.YtalngdccjoafhabRuns
import Derived.Test.YtalngdccjoafhabTubeWZ
import Derived.Test.YtalngdccjoafhabSpecWZ

section
namespace Go.Proofs.Ytalngdccjoafhab.base
open Go.ChangeShapes Go.WideShapes Go.ChangeAt Go.RowKit
set_option linter.unusedVariables false
set_option linter.unusedSimpArgs false

set_option maxHeartbeats 1600000 in
set_option maxRecDepth 100000 in
theorem runs_any (t : List Int) (w : World) (h4 : t.length = 4) (hv : vT t = true) :
    Calls Try.prog 114 #[row t] w fun e w' => ∃ v : Value, e = .returned v ∧ Prs w' w.heap.size v (runsN t (lay t)) (runsF t (lay t)) ∧ Kept w w' := by
  obtain ⟨i0, hi, hz0, hz1, hz2⟩ := info_parts infoPair
  have hL := (tubeFacts h4 hv).lay4
  have HB := Lib.hid (((kept_refl w).alloc (.cells (ints t).toArray 112)).alloc (.cells #[] 51))
  have H := (Has.box w 112 h4 (by omega)).alloc (.cells #[] 51)
  have P0 := Prs.none (w.alloc (.cells (ints t).toArray 112)) (w.heap.size + 1) (by simp)
  rw [size1] at P0
  have P1 : Prs ((w.alloc (.cells (ints t).toArray 112)).alloc (.cells #[] 51)) (w.heap.size + 1) (.slice (some ⟨w.heap.size + 1, 0, none⟩) 0 0) (runsN t 0) (runsF t 0) := by rw [runsN0, runsF0]; exact P0
  clear P0
  rw [row_ints]
  go_enter Try.func114, Try.ntmps114
  go_wp2_with (refine load_has rfl 112 _ rfl _ rfl ?_ 4 ?_ _ Try.underlying112 rfl ?_ ?_; rotate_left; (· (repeat (first | (with_reducible assumption) | ((with_reducible refine Has.box _ _ ?_ ?_) <;> (first | assumption | decide)) | (with_reducible refine Has.alloc ?_ _) | ((with_reducible refine Has.putOther ?_ _ _ ?_); rotate_left; omega; skip) | ((with_reducible refine Has.below ?_ ?_); rotate_left; assumption)))); (· kernel_rfl))
  refine (layers_any t _ h4 hv).mono ?_
  rintro e w0 ⟨rfl, b1⟩
  have hL0 : (0 : Int) ≤ (lay t : Int) := by omega
  have hL4 : (lay t : Int) ≤ 4 := by omega
  have H1 := H.below b1
  have P2 := Lib.hid (P1.below b1)
  have HB1 := Lib.hid (HB.out.call b1)
  clear H P1 HB b1
  have H4 := Lib.hid h4
  have HV := Lib.hid hv
  clear h4 hv
  go_wp2_with fail
  go_loopw [3, 11] (fun v i wr => ∃ k : Nat, k ≤ lay t ∧ i = .int .i64 k ∧ Has wr w.heap.size t 4 ∧ Hid (Prs wr (w.heap.size + 1) v (runsN t k) (runsF t k)) ∧ Hid (Kept w wr)) (fun _ z _ => 4 - (intOf z).toNat)
  case atStart => exact ⟨0, by omega, rfl, H1, P2, HB1⟩
  case round =>
    obtain ⟨k, hk, rfl, G2, GP2, GB2⟩ := hrel
    have F := Lib.hid (runFacts H4.out HV.out k (by omega))
    by_cases hkl : k < lay t
    · have c0 := G2.cell k (by omega)
      have g0 : decide ((k : Int) < (lay t : Int)) = true := by simp; omega
      obtain ⟨x, hx⟩ : ∃ x, x = t.getD k 0 := ⟨_, rfl⟩
      rw [← hx] at c0
      have HX := Lib.hid hx
      clear hx
      have hbs := GB2.out.size
      have hnk := F.out.small
      by_cases k0 : k = 0
      · subst k0
        have s0 := runsN0 t
        go_wp2_with (first | (at_builtin; refine wpList_append_own _ rfl _ _ 26 rfl (w.heap.size + 1) 51 i0 (.agg #[.int .i64 0, .int .i64 0]) 2 16 Try.underlying26 hi hz0 hz1 hz2 rfl (by decide) _ (runsN t 0) (ints (runsF t 0)) rfl (World.ownsRow.alloc GP2.out _) ⟨wr.heap.size, 0, none⟩ 1 1 [.int .i64 x, .int .i64 1] rfl rfl (cell_two_new _ _ _ _) (fun x hx => by simp at hx; rcases hx with rfl | rfl <;> rfl) (by unfold maxLen; omega) (by omega) (by simp; omega) ?_; intro v' w3 hown' hgrow3 hnil3))
        rw [HX.out] at hown'
        obtain ⟨A1, A2, A3⟩ := prs_new (q := 0) GP2.out G2 GB2.out (Nat.le_refl _) (fun h => h.1 rfl) hown' hgrow3
        have B2 := Lib.hid A2
        have B3 := Lib.hid A3
        clear hown' hgrow3 hnil3 A2 A3
        go_roundw
        case rel => exact ⟨0 + 1, by omega, by go_num, A1, B2, B3⟩
        case measure => simp [intOf]; try omega
      · have q1 : decide ((0 : Int) < (k : Int)) = true := by simp; omega
        have q2 : decide (0 < k) = true := by simp; omega
        have k2 : ((k : Int) - 1).toNat = k - 1 := by omega
        have k3 : (0 : Int) ≤ (k : Int) - 1 := by omega
        have k4 : (k : Int) - 1 < 4 := by omega
        have k5 : (k : Int) < 4 := by omega
        have w1' : IntKind.i64.wrap ((k : Int) - 1) = (k : Int) - 1 := IntWalk.i64_in _ (by omega)
        have c1 := G2.cell (k - 1) (by omega)
        obtain ⟨y, hy⟩ : ∃ y, y = t.getD (k - 1) 0 := ⟨_, rfl⟩
        rw [← hy] at c1
        by_cases e : x = y
        · have HS := Lib.hid (show k ≠ 0 ∧ t.getD k 0 = t.getD (k - 1) 0 from ⟨k0, by rw [← HX.out, ← hy, e]⟩)
          clear hy
          subst e
          go_wp2_with fail
          skip
          clear w1'
          obtain ⟨m, hm⟩ : ∃ m, runsN t k = m + 1 := ⟨runsN t k - 1, by have := F.out.some; omega⟩
          have GP3 : Prs wr.drew (w.heap.size + 1) u3 (m + 1) (runsF t k) := hm ▸ GP2.out.drewN (1)
          obtain ⟨g, cap, rfl, hg1, hg2⟩ := GP3.form (by omega)
          have hlen : (runsF t k).length = (m + 1) * 2 := by rw [← hm]; exact F.out.len
          have hvl := val_at F.out (j := m * 2 + 1) (by omega)
          have m4 : m + 1 ≤ 4 := by omega
          have m0 : ((m + 1 : Nat) : Int) - 1 = (m : Int) := by omega
          have m1 : (m : Int) < ((m + 1 : Nat) : Int) := by omega
          have m2 : (m : Int) < (m : Int) + 1 := by omega
          have m3 : (0 : Int) ≤ (m : Int) := by omega
          have wm : IntKind.i64.wrap (m : Int) = (m : Int) := IntWalk.i64_in _ (by omega)
          have HLE := Lib.hid hlen
          clear hlen c0 c1
          go_wp2_with fail
          obtain ⟨bc, bf, bh, bp, bk⟩ := prs_bump GP3 (G2.drewN (1)) (GB2.out.drewN (1)) (Nat.le_refl _) hm HLE.out HS.out
          have wz : IntKind.i64.wrap ((runsF t k).getD (m * 2 + 1) 0 + 1) = (runsF t k).getD (m * 2 + 1) 0 + 1 := IntWalk.i64_in _ (by omega)
          have BH := Lib.hid bh
          have BP := Lib.hid bp
          have BK := Lib.hid bk
          clear bh bp bk
          obtain ⟨z, hz⟩ : ∃ z, z = (runsF t k).getD (m * 2 + 1) 0 := ⟨_, rfl⟩
          rw [← hz] at bc wz hvl BH BP BK
          clear hz
          refine wp_region_held_drew (S := fun _ => True) (by kernel_rfl) trivial (fun hHeld => ?_)
          (refine wpAnyH_take (i := 0) (v := ?_) rfl (by kernel_rfl) (by kernel_rfl) (by kernel_rfl) (fun _ _ _ h => h) (Or.inl ⟨by rfl, ?_⟩) hHeld ?_; rotate_left; (· (intro w' hSw; go_simp; try with_reducible rfl)); (try simp only [List.getElem_toArray, List.getElem_cons_zero, List.getElem_cons_succ, Act.put, List.setIfInBounds_toArray, List.set_cons_zero, List.set_cons_succ])); (refine wpAnyH_take (i := 1) (v := ?_) rfl (by kernel_rfl) (by kernel_rfl) (by kernel_rfl) (fun _ _ _ h => h) (Or.inl ⟨by rfl, ?_⟩) hHeld ?_; rotate_left; (· (intro w' hSw; go_simp; try with_reducible rfl)); (try simp only [List.getElem_toArray, List.getElem_cons_zero, List.getElem_cons_succ, Act.put, List.setIfInBounds_toArray, List.set_cons_zero, List.set_cons_succ]))
          (refine wpAnyH_ready (rs := [2]) (by kernel_rfl) (by simp) ?_; refine AllReadyH.cons (o := _) rfl (fun K hK => ?_) AllReadyH.nil; (simp only [List.getElem_toArray, List.getElem_cons_zero, List.getElem_cons_succ, Region.wanted, if_true]))
          go_simp
          (try simp only [List.getElem_toArray, List.getElem_cons_zero, List.getElem_cons_succ, Act.put, List.setIfInBounds_toArray, List.set_cons_zero, List.set_cons_succ])
          refine hK.out _ _ trivial (fun hHeld => ?_)
          clear hK K
          (refine wpAnyH_take (i := 3) (v := ?_) rfl (by kernel_rfl) (by kernel_rfl) (by kernel_rfl) (fun _ _ _ h => h) (Or.inl ⟨by rfl, ?_⟩) hHeld ?_; rotate_left; (· (intro w' hSw; go_simp; try with_reducible rfl)); (try simp only [List.getElem_toArray, List.getElem_cons_zero, List.getElem_cons_succ, Act.put, List.setIfInBounds_toArray, List.set_cons_zero, List.set_cons_succ])); (refine wpAnyH_take (i := 4) (v := ?_) rfl (by kernel_rfl) (by kernel_rfl) (by kernel_rfl) (fun _ _ _ h => h) (Or.inl ⟨by rfl, ?_⟩) hHeld ?_; rotate_left; (· (intro w' hSw; go_simp; try with_reducible rfl)); (try simp only [List.getElem_toArray, List.getElem_cons_zero, List.getElem_cons_succ, Act.put, List.setIfInBounds_toArray, List.set_cons_zero, List.set_cons_succ])); (refine wpAnyH_take (i := 5) (v := ?_) rfl (by kernel_rfl) (by kernel_rfl) (by kernel_rfl) (fun _ _ _ h => h) (Or.inl ⟨by rfl, ?_⟩) hHeld ?_; rotate_left; (· (intro w' hSw; go_simp; try with_reducible rfl)); (try simp only [List.getElem_toArray, List.getElem_cons_zero, List.getElem_cons_succ, Act.put, List.setIfInBounds_toArray, List.set_cons_zero, List.set_cons_succ])); (refine wpAnyH_take (i := 8) (v := ?_) rfl (by kernel_rfl) (by kernel_rfl) (by kernel_rfl) (fun _ _ _ h => h) (Or.inl ⟨by rfl, ?_⟩) hHeld ?_; rotate_left; (· (intro w' hSw; go_simp; try with_reducible rfl)); (try simp only [List.getElem_toArray, List.getElem_cons_zero, List.getElem_cons_succ, Act.put, List.setIfInBounds_toArray, List.set_cons_zero, List.set_cons_succ]))
          (refine wpAnyH_ready (rs := [6]) (by kernel_rfl) (by simp) ?_; refine AllReadyH.cons (o := _) rfl (fun K hK => ?_) AllReadyH.nil; (simp only [List.getElem_toArray, List.getElem_cons_zero, List.getElem_cons_succ, Region.wanted, if_true]))
          go_simp
          (try simp only [List.getElem_toArray, List.getElem_cons_zero, List.getElem_cons_succ, Act.put, List.setIfInBounds_toArray, List.set_cons_zero, List.set_cons_succ])
          refine hK.out _ _ trivial (fun hHeld => ?_)
          clear hK K
          (refine wpAnyH_take (i := 7) (v := ?_) rfl (by kernel_rfl) (by kernel_rfl) (by kernel_rfl) (fun _ _ _ h => h) (Or.inl ⟨by rfl, ?_⟩) hHeld ?_; rotate_left; (· (intro w' hSw; go_simp; try with_reducible rfl)); (try simp only [List.getElem_toArray, List.getElem_cons_zero, List.getElem_cons_succ, Act.put, List.setIfInBounds_toArray, List.set_cons_zero, List.set_cons_succ])); (refine wpAnyH_take (i := 9) (v := ?_) rfl (by kernel_rfl) (by kernel_rfl) (by kernel_rfl) (fun _ _ _ h => h) (Or.inl ⟨by rfl, ?_⟩) hHeld ?_; rotate_left; (· (intro w' hSw; go_simp; try with_reducible rfl)); (try simp only [List.getElem_toArray, List.getElem_cons_zero, List.getElem_cons_succ, Act.put, List.setIfInBounds_toArray, List.set_cons_zero, List.set_cons_succ]))
          (refine wpAnyH_ready (rs := [10]) (by kernel_rfl) (by simp) ?_; refine AllReadyH.cons (o := _) rfl (fun K hK => ?_) AllReadyH.nil; (simp only [List.getElem_toArray, List.getElem_cons_zero, List.getElem_cons_succ, Region.wanted, if_true]))
          go_simp
          (try simp only [List.getElem_toArray, List.getElem_cons_zero, List.getElem_cons_succ, Act.put, List.setIfInBounds_toArray, List.set_cons_zero, List.set_cons_succ])
          refine hK.out _ _ trivial (fun hHeld => ?_)
          clear hK K
          refine wpAnyH_done (by kernel_rfl) ?_ _
          clear wm bc bf
          go_wp2_with fail
          go_roundw
          case rel => exact ⟨k + 1, by omega, by go_num, BH.out, BP, BK⟩
          case measure => simp [intOf]; omega
        · have HN := Lib.hid (show ¬ (k ≠ 0 ∧ t.getD k 0 = t.getD (k - 1) 0) from fun h => e (by rw [HX.out, hy, h.2]))
          have e1 : (x == y) = false := by simpa using e
          clear e hy
          go_wp2_with (first | (at_builtin; refine wpList_append_own _ rfl _ _ 26 rfl (w.heap.size + 1) 51 i0 (.agg #[.int .i64 0, .int .i64 0]) 2 16 Try.underlying26 hi hz0 hz1 hz2 rfl (by decide) _ (runsN t k) (ints (runsF t k)) rfl (World.ownsRow.alloc GP2.out _) ⟨wr.heap.size, 0, none⟩ 1 1 [.int .i64 x, .int .i64 1] rfl rfl (cell_two_new _ _ _ _) (fun x hx => by simp at hx; rcases hx with rfl | rfl <;> rfl) (by unfold maxLen; omega) (by omega) (by simp; omega) ?_; intro v' w3 hown' hgrow3 hnil3))
          rw [HX.out] at hown'
          obtain ⟨A1, A2, A3⟩ := prs_new (q := 0) GP2.out G2 GB2.out (Nat.le_refl _) HN.out hown' hgrow3
          have B2 := Lib.hid A2
          have B3 := Lib.hid A3
          clear hown' hgrow3 hnil3 A2 A3
          go_roundw
          case rel => exact ⟨k + 1, by omega, by go_num, A1, B2, B3⟩
          case measure => simp [intOf]; try omega
    · obtain rfl : k = lay t := by omega
      go_wp2_with fail
      go_ret
      exact ⟨_, rfl, GP2.out.mono (by omega), GB2.out⟩
end Go.Proofs.Ytalngdccjoafhab.base
end

section
namespace Go.Proofs.Ytalngdccjoafhab.base
open Go.ChangeShapes Go.WideShapes Go.ChangeAt Go.RowKit
set_option linter.unusedVariables false
set_option linter.unusedSimpArgs false

def runsFA (ns : List Int) (i : Int) : List Int := if inR ns i = true then runsF (tubA ns i) (lay (tubA ns i)) else []
def runsNA (ns : List Int) (i : Int) : Nat := if inR ns i = true then runsN (tubA ns i) (lay (tubA ns i)) else 0
/-- What RunsOf returns: a new row of pairs, and whether the rack and the place are valid. -/
def RunsPost (ns : List Int) (i : Int) (w : World) (e : Ending) (w' : World) : Prop := ∃ v : Value, e = .returned (.tuple #[v, .bool (inR ns i)]) ∧ Prs w' w.heap.size v (runsNA ns i) (runsFA ns i) ∧ Kept w w'
theorem Prs.none' (w0 w : World) (K : Kept w0 w) {ns : List Int} {i : Int} (h : inR ns i = false) : Prs (w.alloc (.cells #[] 51)) w0.heap.size (.slice (some ⟨w.heap.size, 0, Option.none⟩) 0 0) (runsNA ns i) (runsFA ns i) := by
  have h' : ¬ inR ns i = true := by rw [h]; simp
  unfold runsNA runsFA
  rw [if_neg h', if_neg h']
  exact Prs.none w w0.heap.size K.size

end Go.Proofs.Ytalngdccjoafhab.base
end
