/-
  The runs of a tube, on the program's side, walked.
-/
/-
  RunsOf on both sides, walked.
-/
/-
  Marks: the first numbers of a row, numbered.
-/
/-
  The law's own helpers for rows of pairs, walked: equal rows are told equal, marks are written, held marks are found again.
-/
/-
  Equal rows of pairs are told equal, walked.
-/
import Derived.Test.YtemiljokdedidacRuns
import Derived.Test.YtemiljokdedidacTubeWZ
import Derived.Test.YtemiljokdedidacDoors
import Derived.Test.YtemiljokdedidacTubeZ
import Derived.Test.YtemiljokdedidacRackOps

section
namespace Go.Proofs.Ytemiljokdedidac.base
open Go.ChangeShapes Go.WideShapes Go.ChangeAt Go.RowKit
set_option linter.unusedVariables false
set_option linter.unusedSimpArgs false

set_option maxHeartbeats 1600000 in
set_option maxRecDepth 100000 in
theorem runs_any (t : List Int) (w : World) (h4 : t.length = 4) (hv : vT t = true) :
    Calls Try.prog 92 #[row t] w fun e w' => ∃ v : Value, e = .returned v ∧ Prs w' w.heap.size v (runsN t (lay t)) (runsF t (lay t)) ∧ Kept w w' := by
  obtain ⟨i0, hi, hz0, hz1, hz2⟩ := info_parts infoPair
  have hL := (tubeFacts h4 hv).lay4
  have HB := Lib.hid (((kept_refl w).alloc (.cells (ints t).toArray 108)).alloc (.cells #[] 33))
  have H := (Has.box w 108 h4 (by omega)).alloc (.cells #[] 33)
  have P0 := Prs.none (w.alloc (.cells (ints t).toArray 108)) (w.heap.size + 1) (by simp)
  rw [size1] at P0
  have P1 : Prs ((w.alloc (.cells (ints t).toArray 108)).alloc (.cells #[] 33)) (w.heap.size + 1) (.slice (some ⟨w.heap.size + 1, 0, none⟩) 0 0) (runsN t 0) (runsF t 0) := by rw [runsN0, runsF0]; exact P0
  clear P0
  rw [row_ints]
  go_enter Try.func92, Try.ntmps92
  go_wp2_with (refine load_has rfl 108 _ rfl _ rfl ?_ 4 ?_ _ Try.underlying108 rfl ?_ ?_; rotate_left; (· (repeat (first | (with_reducible assumption) | ((with_reducible refine Has.box _ _ ?_ ?_) <;> (first | assumption | decide)) | (with_reducible refine Has.alloc ?_ _) | ((with_reducible refine Has.putOther ?_ _ _ ?_); rotate_left; omega; skip) | ((with_reducible refine Has.below ?_ ?_); rotate_left; assumption)))); (· kernel_rfl))
  refine (layers_any t _ h4 hv).mono ?_
  rintro e w0 ⟨rfl, b1⟩
  have hL0 : (0 : Int) ≤ (lay t : Int) := by omega
  have hL4 : (lay t : Int) ≤ 4 := by omega
  have H1 := H.below b1
  have P2 := Lib.hid (P1.below b1)
  have HB1 := Lib.hid (HB.out.call b1)
  clear H P1 HB b1
  have H4 := Lib.hid h4
  have HV := Lib.hid hv
  clear h4 hv
  go_wp2_with fail
  go_loopw [3, 11] (fun v i wr => ∃ k : Nat, k ≤ lay t ∧ i = .int .i64 k ∧ Has wr w.heap.size t 4 ∧ Hid (Prs wr (w.heap.size + 1) v (runsN t k) (runsF t k)) ∧ Hid (Kept w wr)) (fun _ z _ => 4 - (intOf z).toNat)
  case atStart => exact ⟨0, by omega, rfl, H1, P2, HB1⟩
  case round =>
    obtain ⟨k, hk, rfl, G2, GP2, GB2⟩ := hrel
    have F := Lib.hid (runFacts H4.out HV.out k (by omega))
    by_cases hkl : k < lay t
    · have c0 := G2.cell k (by omega)
      have g0 : decide ((k : Int) < (lay t : Int)) = true := by simp; omega
      obtain ⟨x, hx⟩ : ∃ x, x = t.getD k 0 := ⟨_, rfl⟩
      rw [← hx] at c0
      have HX := Lib.hid hx
      clear hx
      have hbs := GB2.out.size
      have hnk := F.out.small
      by_cases k0 : k = 0
      · subst k0
        have s0 := runsN0 t
        go_wp2_with (first | (at_builtin; refine wpList_append_own _ rfl _ _ 25 rfl (w.heap.size + 1) 33 i0 (.agg #[.int .i64 0, .int .i64 0]) 2 16 Try.underlying25 hi hz0 hz1 hz2 rfl (by decide) _ (runsN t 0) (ints (runsF t 0)) rfl (World.ownsRow.alloc GP2.out _) ⟨wr.heap.size, 0, none⟩ 1 1 [.int .i64 x, .int .i64 1] rfl rfl (cell_two_new _ _ _ _) (fun x hx => by simp at hx; rcases hx with rfl | rfl <;> rfl) (by unfold maxLen; omega) (by omega) (by simp; omega) ?_; intro v' w3 hown' hgrow3 hnil3))
        rw [HX.out] at hown'
        obtain ⟨A1, A2, A3⟩ := prs_new (q := 0) GP2.out G2 GB2.out (Nat.le_refl _) (fun h => h.1 rfl) hown' hgrow3
        have B2 := Lib.hid A2
        have B3 := Lib.hid A3
        clear hown' hgrow3 hnil3 A2 A3
        go_roundw
        case rel => exact ⟨0 + 1, by omega, by go_num, A1, B2, B3⟩
        case measure => simp [intOf]; try omega
      · have q1 : decide ((0 : Int) < (k : Int)) = true := by simp; omega
        have q2 : decide (0 < k) = true := by simp; omega
        have k2 : ((k : Int) - 1).toNat = k - 1 := by omega
        have k3 : (0 : Int) ≤ (k : Int) - 1 := by omega
        have k4 : (k : Int) - 1 < 4 := by omega
        have k5 : (k : Int) < 4 := by omega
        have w1' : IntKind.i64.wrap ((k : Int) - 1) = (k : Int) - 1 := IntWalk.i64_in _ (by omega)
        have c1 := G2.cell (k - 1) (by omega)
        obtain ⟨y, hy⟩ : ∃ y, y = t.getD (k - 1) 0 := ⟨_, rfl⟩
        rw [← hy] at c1
        by_cases e : x = y
        · have HS := Lib.hid (show k ≠ 0 ∧ t.getD k 0 = t.getD (k - 1) 0 from ⟨k0, by rw [← HX.out, ← hy, e]⟩)
          clear hy
          subst e
          go_wp2_with fail
          skip
          clear w1'
          obtain ⟨m, hm⟩ : ∃ m, runsN t k = m + 1 := ⟨runsN t k - 1, by have := F.out.some; omega⟩
          have GP3 : Prs wr.drew (w.heap.size + 1) u3 (m + 1) (runsF t k) := hm ▸ GP2.out.drewN (1)
          obtain ⟨g, cap, rfl, hg1, hg2⟩ := GP3.form (by omega)
          have hlen : (runsF t k).length = (m + 1) * 2 := by rw [← hm]; exact F.out.len
          have hvl := val_at F.out (j := m * 2 + 1) (by omega)
          have m4 : m + 1 ≤ 4 := by omega
          have m0 : ((m + 1 : Nat) : Int) - 1 = (m : Int) := by omega
          have m1 : (m : Int) < ((m + 1 : Nat) : Int) := by omega
          have m2 : (m : Int) < (m : Int) + 1 := by omega
          have m3 : (0 : Int) ≤ (m : Int) := by omega
          have wm : IntKind.i64.wrap (m : Int) = (m : Int) := IntWalk.i64_in _ (by omega)
          have HLE := Lib.hid hlen
          clear hlen c0 c1
          go_wp2_with fail
          obtain ⟨bc, bf, bh, bp, bk⟩ := prs_bump GP3 (G2.drewN (1)) (GB2.out.drewN (1)) (Nat.le_refl _) hm HLE.out HS.out
          have wz : IntKind.i64.wrap ((runsF t k).getD (m * 2 + 1) 0 + 1) = (runsF t k).getD (m * 2 + 1) 0 + 1 := IntWalk.i64_in _ (by omega)
          have BH := Lib.hid bh
          have BP := Lib.hid bp
          have BK := Lib.hid bk
          clear bh bp bk
          obtain ⟨z, hz⟩ : ∃ z, z = (runsF t k).getD (m * 2 + 1) 0 := ⟨_, rfl⟩
          rw [← hz] at bc wz hvl BH BP BK
          clear hz
          refine wp_region_held_drew (S := fun _ => True) (by kernel_rfl) trivial (fun hHeld => ?_)
          (refine wpAnyH_take (i := 0) (v := ?_) rfl (by kernel_rfl) (by kernel_rfl) (by kernel_rfl) (fun _ _ _ h => h) (Or.inl ⟨by rfl, ?_⟩) hHeld ?_; rotate_left; (· (intro w' hSw; go_simp; try with_reducible rfl)); (try simp only [List.getElem_toArray, List.getElem_cons_zero, List.getElem_cons_succ, Act.put, List.setIfInBounds_toArray, List.set_cons_zero, List.set_cons_succ])); (refine wpAnyH_take (i := 1) (v := ?_) rfl (by kernel_rfl) (by kernel_rfl) (by kernel_rfl) (fun _ _ _ h => h) (Or.inl ⟨by rfl, ?_⟩) hHeld ?_; rotate_left; (· (intro w' hSw; go_simp; try with_reducible rfl)); (try simp only [List.getElem_toArray, List.getElem_cons_zero, List.getElem_cons_succ, Act.put, List.setIfInBounds_toArray, List.set_cons_zero, List.set_cons_succ]))
          (refine wpAnyH_ready (rs := [2]) (by kernel_rfl) (by simp) ?_; refine AllReadyH.cons (o := _) rfl (fun K hK => ?_) AllReadyH.nil; (simp only [List.getElem_toArray, List.getElem_cons_zero, List.getElem_cons_succ, Region.wanted, if_true]))
          go_simp
          (try simp only [List.getElem_toArray, List.getElem_cons_zero, List.getElem_cons_succ, Act.put, List.setIfInBounds_toArray, List.set_cons_zero, List.set_cons_succ])
          refine hK.out _ _ trivial (fun hHeld => ?_)
          clear hK K
          (refine wpAnyH_take (i := 3) (v := ?_) rfl (by kernel_rfl) (by kernel_rfl) (by kernel_rfl) (fun _ _ _ h => h) (Or.inl ⟨by rfl, ?_⟩) hHeld ?_; rotate_left; (· (intro w' hSw; go_simp; try with_reducible rfl)); (try simp only [List.getElem_toArray, List.getElem_cons_zero, List.getElem_cons_succ, Act.put, List.setIfInBounds_toArray, List.set_cons_zero, List.set_cons_succ])); (refine wpAnyH_take (i := 4) (v := ?_) rfl (by kernel_rfl) (by kernel_rfl) (by kernel_rfl) (fun _ _ _ h => h) (Or.inl ⟨by rfl, ?_⟩) hHeld ?_; rotate_left; (· (intro w' hSw; go_simp; try with_reducible rfl)); (try simp only [List.getElem_toArray, List.getElem_cons_zero, List.getElem_cons_succ, Act.put, List.setIfInBounds_toArray, List.set_cons_zero, List.set_cons_succ])); (refine wpAnyH_take (i := 5) (v := ?_) rfl (by kernel_rfl) (by kernel_rfl) (by kernel_rfl) (fun _ _ _ h => h) (Or.inl ⟨by rfl, ?_⟩) hHeld ?_; rotate_left; (· (intro w' hSw; go_simp; try with_reducible rfl)); (try simp only [List.getElem_toArray, List.getElem_cons_zero, List.getElem_cons_succ, Act.put, List.setIfInBounds_toArray, List.set_cons_zero, List.set_cons_succ])); (refine wpAnyH_take (i := 8) (v := ?_) rfl (by kernel_rfl) (by kernel_rfl) (by kernel_rfl) (fun _ _ _ h => h) (Or.inl ⟨by rfl, ?_⟩) hHeld ?_; rotate_left; (· (intro w' hSw; go_simp; try with_reducible rfl)); (try simp only [List.getElem_toArray, List.getElem_cons_zero, List.getElem_cons_succ, Act.put, List.setIfInBounds_toArray, List.set_cons_zero, List.set_cons_succ]))
          (refine wpAnyH_ready (rs := [6]) (by kernel_rfl) (by simp) ?_; refine AllReadyH.cons (o := _) rfl (fun K hK => ?_) AllReadyH.nil; (simp only [List.getElem_toArray, List.getElem_cons_zero, List.getElem_cons_succ, Region.wanted, if_true]))
          go_simp
          (try simp only [List.getElem_toArray, List.getElem_cons_zero, List.getElem_cons_succ, Act.put, List.setIfInBounds_toArray, List.set_cons_zero, List.set_cons_succ])
          refine hK.out _ _ trivial (fun hHeld => ?_)
          clear hK K
          (refine wpAnyH_take (i := 7) (v := ?_) rfl (by kernel_rfl) (by kernel_rfl) (by kernel_rfl) (fun _ _ _ h => h) (Or.inl ⟨by rfl, ?_⟩) hHeld ?_; rotate_left; (· (intro w' hSw; go_simp; try with_reducible rfl)); (try simp only [List.getElem_toArray, List.getElem_cons_zero, List.getElem_cons_succ, Act.put, List.setIfInBounds_toArray, List.set_cons_zero, List.set_cons_succ])); (refine wpAnyH_take (i := 9) (v := ?_) rfl (by kernel_rfl) (by kernel_rfl) (by kernel_rfl) (fun _ _ _ h => h) (Or.inl ⟨by rfl, ?_⟩) hHeld ?_; rotate_left; (· (intro w' hSw; go_simp; try with_reducible rfl)); (try simp only [List.getElem_toArray, List.getElem_cons_zero, List.getElem_cons_succ, Act.put, List.setIfInBounds_toArray, List.set_cons_zero, List.set_cons_succ]))
          (refine wpAnyH_ready (rs := [10]) (by kernel_rfl) (by simp) ?_; refine AllReadyH.cons (o := _) rfl (fun K hK => ?_) AllReadyH.nil; (simp only [List.getElem_toArray, List.getElem_cons_zero, List.getElem_cons_succ, Region.wanted, if_true]))
          go_simp
          (try simp only [List.getElem_toArray, List.getElem_cons_zero, List.getElem_cons_succ, Act.put, List.setIfInBounds_toArray, List.set_cons_zero, List.set_cons_succ])
          refine hK.out _ _ trivial (fun hHeld => ?_)
          clear hK K
          refine wpAnyH_done (by kernel_rfl) ?_ _
          clear wm bc bf
          go_wp2_with fail
          go_roundw
          case rel => exact ⟨k + 1, by omega, by go_num, BH.out, BP, BK⟩
          case measure => simp [intOf]; omega
        · have HN := Lib.hid (show ¬ (k ≠ 0 ∧ t.getD k 0 = t.getD (k - 1) 0) from fun h => e (by rw [HX.out, hy, h.2]))
          have e1 : (x == y) = false := by simpa using e
          clear e hy
          go_wp2_with (first | (at_builtin; refine wpList_append_own _ rfl _ _ 25 rfl (w.heap.size + 1) 33 i0 (.agg #[.int .i64 0, .int .i64 0]) 2 16 Try.underlying25 hi hz0 hz1 hz2 rfl (by decide) _ (runsN t k) (ints (runsF t k)) rfl (World.ownsRow.alloc GP2.out _) ⟨wr.heap.size, 0, none⟩ 1 1 [.int .i64 x, .int .i64 1] rfl rfl (cell_two_new _ _ _ _) (fun x hx => by simp at hx; rcases hx with rfl | rfl <;> rfl) (by unfold maxLen; omega) (by omega) (by simp; omega) ?_; intro v' w3 hown' hgrow3 hnil3))
          rw [HX.out] at hown'
          obtain ⟨A1, A2, A3⟩ := prs_new (q := 0) GP2.out G2 GB2.out (Nat.le_refl _) HN.out hown' hgrow3
          have B2 := Lib.hid A2
          have B3 := Lib.hid A3
          clear hown' hgrow3 hnil3 A2 A3
          go_roundw
          case rel => exact ⟨k + 1, by omega, by go_num, A1, B2, B3⟩
          case measure => simp [intOf]; try omega
    · obtain rfl : k = lay t := by omega
      go_wp2_with fail
      go_ret
      exact ⟨_, rfl, GP2.out.mono (by omega), GB2.out⟩
end Go.Proofs.Ytemiljokdedidac.base
end

section
namespace Go.Proofs.Ytemiljokdedidac.base
open Go.ChangeShapes Go.WideShapes Go.ChangeAt Go.RowKit
set_option linter.unusedVariables false
set_option linter.unusedSimpArgs false

def runsFA (ns : List Int) (i : Int) : List Int := if inR ns i = true then runsF (tubA ns i) (lay (tubA ns i)) else []
def runsNA (ns : List Int) (i : Int) : Nat := if inR ns i = true then runsN (tubA ns i) (lay (tubA ns i)) else 0
/-- What RunsOf returns: a new row of pairs, and whether the rack and the place are valid. -/
def RunsPost (ns : List Int) (i : Int) (w : World) (e : Ending) (w' : World) : Prop := ∃ v : Value, e = .returned (.tuple #[v, .bool (inR ns i)]) ∧ Prs w' w.heap.size v (runsNA ns i) (runsFA ns i) ∧ Kept w w'
theorem Prs.none' (w0 w : World) (K : Kept w0 w) {ns : List Int} {i : Int} (h : inR ns i = false) : Prs (w.alloc (.cells #[] 33)) w0.heap.size (.slice (some ⟨w.heap.size, 0, Option.none⟩) 0 0) (runsNA ns i) (runsFA ns i) := by
  have h' : ¬ inR ns i = true := by rw [h]; simp
  unfold runsNA runsFA
  rw [if_neg h', if_neg h']
  exact Prs.none w w0.heap.size K.size

end Go.Proofs.Ytemiljokdedidac.base
end

section
namespace Go.Proofs.Ytemiljokdedidac.base
set_option linter.unusedVariables false

/-- The first m of some numbers, marked from K on. -/
def markF (K m : Nat) (fs : List Int) : List Int := ((List.range m).map fun j : Nat => ((K + j : Nat) : Int)) ++ fs.drop m
theorem markF_zero (K : Nat) (fs : List Int) : markF K 0 fs = fs := by simp [markF]
theorem markF_set (K m : Nat) (fs : List Int) (h : m < fs.length) : (markF K m fs).set m ((K + m : Nat) : Int) = markF K (m + 1) fs := by
  unfold markF
  rw [List.set_append_right _ _ (by simp), List.range_succ, List.map_append, List.append_assoc]
  congr 1
  simp only [List.length_map, List.length_range, Nat.sub_self]
  rw [List.drop_eq_getElem_cons h]; rfl
theorem markF_get (K m j : Nat) (fs : List Int) (h : j < m) : (markF K m fs).getD j 0 = ((K + j : Nat) : Int) := by
  unfold markF
  rw [List.getD_eq_getElem?_getD, List.getElem?_append_left (by simpa using h), List.getElem?_map, List.getElem?_range h]; rfl

end Go.Proofs.Ytemiljokdedidac.base
end

section
namespace Go.Proofs.Ytemiljokdedidac.base
open Go.ChangeShapes Go.WideShapes Go.ChangeAt Go.RowKit
set_option linter.unusedVariables false
set_option linter.unusedSimpArgs false

theorem prs_zero {w : World} {b : Nat} {v : Value} {fs : List Int} (h : Prs w b v 0 fs) : ∃ a cap, v = .slice a 0 cap := by
  rcases h.2 with ⟨h0, _⟩ | ⟨g, cap, cur, hv, _⟩
  · exact ⟨_, _, h0⟩
  · exact ⟨_, _, hv⟩
theorem Prs.flat {w : World} {b : Nat} {v : Value} {n : Nat} {fs : List Int} (h : Prs w b v n fs) : fs.length = n * 2 := by have := h.1; rwa [ints_len] at this
theorem Prs.cell {w : World} {b g cap n : Nat} {fs : List Int} (h : Prs w b (.slice (some ⟨g, 0, Option.none⟩) n cap) n fs) (j : Nat) (hj : j < n * 2) : w.cell? ⟨g, j, Option.none⟩ = some (.int .i64 (fs.getD j 0)) := by
  rw [World.ownsRow.cellAt h j hj]; exact ints_get _ _ (by rw [h.flat]; exact hj)

set_option maxHeartbeats 1600000 in
theorem markA2S (b : Nat) (v : Value) (n K : Nat) (fs : List Int) (w : World) (hn : n ≤ 1000) (hK : K ≤ 1000) (h : Prs w b v n fs) :
    Calls Try.prog 14 #[v, .int .i64 (K : Int)] w fun e w' => e = .returned (.int .i64 ((K + n * 2 : Nat) : Int)) ∧ Prs w' b v n (markF K (n * 2) fs) ∧ w.grownBy w' v.ownBlock := by
  cases n with
  | zero =>
    obtain ⟨a, c, hv⟩ := prs_zero h
    have HH := Lib.hid h
    clear h
    subst hv
    go_enter Try.func14, Try.ntmps14
    go_wp2_with fail
    go_loop [1, 5, 6] (fun q i j => i = .int .i64 0 ∧ q = .int .i64 (K : Int)) (fun _ _ _ => 0)
    case atStart => exact ⟨rfl, rfl⟩
    case round =>
      obtain ⟨rfl, rfl⟩ := hrel
      go_wp2_with fail
      go_ret
      refine ⟨rfl, ?_, ⟨rfl, rfl, rfl, Nat.le_refl _, fun _ _ _ => rfl⟩⟩
      rw [show markF K 0 fs = fs from markF_zero K fs]; exact HH.out
  | succ n =>
    obtain ⟨g, c, rfl, _, _⟩ := h.form (by omega)
    have HL := Lib.hid h.flat
    have HH := Lib.hid h
    clear h
    go_enter Try.func14, Try.ntmps14
    go_wp2_with fail
    go_loopg [1, 5, 6] (n + 1) (fun gk q i j wr => ∃ p : Nat, gk = n + 1 - p ∧ p ≤ n + 1 ∧ i = .int .i64 p ∧ q = .int .i64 ((K + p * 2 : Nat) : Int) ∧ Hid (Prs wr b (.slice (some ⟨g, 0, none⟩) (n + 1) c) (n + 1) (markF K (p * 2) fs)) ∧ Hid (w.grownBy wr (some g)))
    case atStart => exact ⟨0, rfl, by omega, rfl, by simp, Lib.hid (by rw [Nat.zero_mul, markF_zero]; exact HH.out), Lib.hid ⟨rfl, rfl, rfl, Nat.le_refl _, fun _ _ _ => rfl⟩⟩
    case round =>
      obtain ⟨p, rfl, hp, rfl, rfl, GP, GG⟩ := hrel
      by_cases hlt : p < n + 1
      · have hpi : (p : Int) < (n : Int) + 1 := by omega
        go_wp2_with fail
        go_loopg [1, 6] 2 (fun gk q j wr => ∃ z : Nat, gk = 2 - z ∧ z ≤ 2 ∧ j = .int .i64 z ∧ q = .int .i64 ((K + (p * 2 + z) : Nat) : Int) ∧ Hid (Prs wr b (.slice (some ⟨g, 0, none⟩) (n + 1) c) (n + 1) (markF K (p * 2 + z) fs)) ∧ Hid (w.grownBy wr (some g)))
        case atStart => exact ⟨0, rfl, by omega, rfl, by simp, GP, GG⟩
        case round =>
          obtain ⟨z, rfl, hz, rfl, rfl, KP, KG⟩ := hrel
          by_cases hz2 : z < 2
          · have hzi : (z : Int) < 2 := by omega
            have c0 := KP.out.cell (p * 2 + z) (by omega)
            have f0 := World.ownsRow.frozenAt KP.out (p * 2 + z)
            have st := World.ownsRow.stored KP.out (p * 2 + z) (.int .i64 ((K + (p * 2 + z) : Nat) : Int))
            have e : (ints (markF K (p * 2 + z) fs)).set (p * 2 + z) (.int .i64 ((K + (p * 2 + z) : Nat) : Int)) = ints (markF K (p * 2 + z + 1) fs) := by
              rw [ints_set, markF_set K _ fs (by rw [HL.out]; omega)]
            rw [e] at st
            clear e
            have S1 := Lib.hid st.1
            have S2 := Lib.hid (show w.grownBy _ (some g) from ⟨st.2.os.trans KG.out.os, st.2.tape.trans KG.out.tape, st.2.output.trans KG.out.output, Nat.le_trans KG.out.size st.2.size, fun i hi hn => (st.2.block i (Nat.lt_of_lt_of_le hi KG.out.size) hn).trans (KG.out.block i hi hn)⟩)
            clear st
            generalize (markF K (p * 2 + z) fs).getD (p * 2 + z) 0 = y at *
            go_wp2_with fail
            go_roundg (2 - (z + 1))
            case rel => exact ⟨z + 1, rfl, by omega, by go_num, by go_num, S1, S2⟩
            case measure => omega
          · obtain rfl : z = 2 := by omega
            have E : p * 2 + 2 = (p + 1) * 2 := by omega
            rw [E] at KP
            go_wp2_with fail
            go_roundg (n + 1 - (p + 1))
            case rel => exact ⟨p + 1, rfl, by omega, by go_num, by rw [← E], KP, KG⟩
            case measure => omega
      · obtain rfl : p = n + 1 := by omega
        go_wp2_with fail
        go_ret
        exact ⟨rfl, GP.out, GG.out⟩

set_option maxHeartbeats 1600000 in
theorem heldA2S (b : Nat) (v : Value) (n K : Nat) (fs : List Int) (w : World) (hn : n ≤ 1000) (hK : K ≤ 1000) (h : Prs w b v n (markF K (n * 2) fs)) :
    Calls Try.prog 15 #[v, .int .i64 (K : Int)] w fun e w' => e = .returned (.int .i64 ((K + n * 2 : Nat) : Int)) ∧ w' = w := by
  cases n with
  | zero =>
    obtain ⟨a, c, hv⟩ := prs_zero h
    clear h
    subst hv
    go_enter Try.func15, Try.ntmps15
    go_wp2_with fail
    go_loop [1, 5, 6] (fun q i j => i = .int .i64 0 ∧ q = .int .i64 (K : Int)) (fun _ _ _ => 0)
    case atStart => exact ⟨rfl, rfl⟩
    case round =>
      obtain ⟨rfl, rfl⟩ := hrel
      go_wp2_with fail
      go_ret
      exact ⟨rfl, rfl⟩
  | succ n =>
    obtain ⟨g, c, rfl, _, _⟩ := h.form (by omega)
    have HH := Lib.hid h
    clear h
    go_enter Try.func15, Try.ntmps15
    go_wp2_with fail
    go_loopg [1, 5, 6] (n + 1) (fun gk q i j wr => ∃ p : Nat, gk = n + 1 - p ∧ p ≤ n + 1 ∧ i = .int .i64 p ∧ q = .int .i64 ((K + p * 2 : Nat) : Int) ∧ w = wr)
    case atStart => exact ⟨0, rfl, by omega, rfl, by simp, rfl⟩
    case round =>
      obtain ⟨p, rfl, hp, rfl, rfl, rfl⟩ := hrel
      by_cases hlt : p < n + 1
      · have hpi : (p : Int) < (n : Int) + 1 := by omega
        go_wp2_with fail
        go_loopg [1, 6] 2 (fun gk q j wr => ∃ z : Nat, gk = 2 - z ∧ z ≤ 2 ∧ j = .int .i64 z ∧ q = .int .i64 ((K + (p * 2 + z) : Nat) : Int) ∧ w = wr)
        case atStart => exact ⟨0, rfl, by omega, rfl, by simp, rfl⟩
        case round =>
          obtain ⟨z, rfl, hz, rfl, rfl, rfl⟩ := hrel
          by_cases hz2 : z < 2
          · have hzi : (z : Int) < 2 := by omega
            have c0 := HH.out.cell (p * 2 + z) (by omega)
            rw [markF_get K _ _ fs (by omega)] at c0
            go_wp2_with fail
            go_roundg (2 - (z + 1))
            case rel => exact ⟨z + 1, rfl, by omega, by go_num, by go_num, rfl⟩
            case measure => omega
          · obtain rfl : z = 2 := by omega
            have E : p * 2 + 2 = (p + 1) * 2 := by omega
            go_wp2_with fail
            go_roundg (n + 1 - (p + 1))
            case rel => exact ⟨p + 1, rfl, by omega, by go_num, by rw [← E], rfl⟩
            case measure => omega
      · obtain rfl : p = n + 1 := by omega
        go_wp2_with fail
        go_ret
        exact ⟨rfl, rfl⟩
end Go.Proofs.Ytemiljokdedidac.base
end

section
namespace Go.Proofs.Ytemiljokdedidac.base
open Go.ChangeShapes Go.WideShapes Go.ChangeAt Go.RowKit
set_option linter.unusedVariables false
set_option linter.unusedSimpArgs false

set_option maxHeartbeats 400000 in
theorem eqIntA2_same (t : List Int) (w : World) (h2 : t.length = 2) :
    Calls Try.prog 18 #[.agg (ints t).toArray, .agg (ints t).toArray] w fun e w' => e = .returned (.bool true) ∧ Kept w w' := by
  have HB := Lib.hid (((kept_refl w).alloc (.cells (ints t).toArray 33)).alloc (.cells (ints t).toArray 33))
  have H1 := (Has.box w 33 h2 (by omega)).alloc (.cells (ints t).toArray 33)
  have H2 := (Has.box (w.alloc (.cells (ints t).toArray 33)) 33 h2 (by omega)).at (size1 _ _)
  go_enter Try.func18, Try.ntmps18
  go_wp2_with fail
  have HL := Lib.hid h2
  clear h2
  generalize ((w.alloc (.cells (ints t).toArray 33)).alloc (.cells (ints t).toArray 33)) = W at *
  go_loopw [5] (fun z wr => ∃ k : Nat, k ≤ 2 ∧ z = .int .i64 k ∧ Has wr w.heap.size t 2 ∧ Has wr (w.heap.size + 1) t 2 ∧ Hid (Kept w wr)) (fun z _ => 2 - (intOf z).toNat)
  case atStart => exact ⟨0, by omega, rfl, H1, H2, HB⟩
  case round =>
    obtain ⟨k, hk, rfl, G1, G2, GB⟩ := hrel
    by_cases h : k < 2
    · have c1 := G1.cell k h
      have c2 := G2.cell k h
      have hki : (k : Int) < 2 := by omega
      have hk0 : (0 : Int) ≤ (k : Int) := by omega
      generalize t.getD k 0 = x at *
      go_wp2_with fail
      go_quiet (fail)
      have G3 := G1.drewN nq
      have G4 := G2.drewN nq
      have GB2 := Lib.hid (GB.out.drewN nq)
      go_wp2_with fail
      go_roundw
      case rel => exact ⟨k + 1, by omega, by go_num, G3, G4, GB2⟩
      case measure => simp [intOf]; omega
    · go_wp2_with fail
      go_ret
      exact ⟨rfl, GB.out⟩

def pr (fs : List Int) (k : Nat) : List Int := (fs.drop (k * 2)).take 2
theorem pr_len (fs : List Int) (k n : Nat) (h : fs.length = n * 2) (hk : k < n) : (pr fs k).length = 2 := by
  unfold pr; rw [List.length_take, List.length_drop]; omega
theorem Prs.range {w : World} {b g cap n : Nat} {fs : List Int} (h : Prs w b (.slice (some ⟨g, 0, Option.none⟩) n cap) n fs) (k : Nat) (hk : k < n) : w.rangeAt g (k * 2) (ints (pr fs k)) := by
  intro j v hv
  have hl := pr_len fs k n h.flat hk
  have hj : j < 2 := by
    rcases Nat.lt_or_ge j 2 with h1 | h1
    · exact h1
    · rw [List.getElem?_eq_none (by rw [ints_len, hl]; exact h1)] at hv; cases hv
  rw [h.cell (k * 2 + j) (by omega), ← hv, ints_get _ _ (by rw [hl]; exact hj)]
  unfold pr
  rw [List.getD_eq_getElem?_getD, List.getD_eq_getElem?_getD, List.getElem?_take, if_pos hj, List.getElem?_drop]

set_option maxHeartbeats 1600000 in
set_option maxRecDepth 100000 in
theorem eqIntA2S_same (v1 v2 : Value) (b1 b2 n : Nat) (fs : List Int) (w : World) (hn : n ≤ 1048576) (h1 : Prs w b1 v1 n fs) (h2 : Prs w b2 v2 n fs) :
    Calls Try.prog 13 #[v1, v2] w fun e w' => e = .returned (.bool true) ∧ Kept w w' := by
  cases n with
  | zero =>
    obtain ⟨a1, c1, rfl⟩ := prs_zero h1
    obtain ⟨a2, c2, rfl⟩ := prs_zero h2
    clear h1 h2
    go_enter Try.func13, Try.ntmps13
    go_wp2_with fail
    go_loop [5] (fun i => i = .int .i64 0) (fun _ => 0)
    case atStart => rfl
    case round =>
      obtain rfl := hrel
      go_wp2_with fail
      go_ret
      exact ⟨rfl, kept_refl _⟩
  | succ n =>
    obtain ⟨g1, c1, rfl, _, _⟩ := h1.form (by omega)
    obtain ⟨g2, c2, rfl, _, _⟩ := h2.form (by omega)
    have HF := Lib.hid h1.flat
    go_enter Try.func13, Try.ntmps13
    go_wp2_with fail
    go_loopw [5] (fun z wr => ∃ k : Nat, k ≤ n + 1 ∧ z = .int .i64 k ∧ Hid (Prs wr b1 (.slice (some ⟨g1, 0, none⟩) (n + 1) c1) (n + 1) fs) ∧ Hid (Prs wr b2 (.slice (some ⟨g2, 0, none⟩) (n + 1) c2) (n + 1) fs) ∧ Hid (Kept w wr)) (fun z _ => n + 1 - (intOf z).toNat)
    case atStart => exact ⟨0, by omega, rfl, Lib.hid h1, Lib.hid h2, Lib.hid (kept_refl _)⟩
    case round =>
      obtain ⟨k, hk, rfl, G1, G2, GB⟩ := hrel
      by_cases h : k < n + 1
      · have hki : (k : Int) < (n : Int) + 1 := by omega
        have hk0 : (0 : Int) ≤ (k : Int) := by omega
        have hl := pr_len fs k (n + 1) HF.out h
        have l1 : (ints (pr fs k)).length = 2 := by rw [ints_len]; exact hl
        have hi1 : (Try.prog.info? 33).map (·.size) = some (ints (pr fs k)).length := by rw [l1]; kernel_rfl
        go_wp2_with fail
        refine wp_region_held_drew (S := fun w' => Prs w' b1 (.slice (some ⟨g1, 0, none⟩) (n + 1) c1) (n + 1) fs ∧ Prs w' b2 (.slice (some ⟨g2, 0, none⟩) (n + 1) c2) (n + 1) fs ∧ Kept w w') (by kernel_rfl) ?_ (fun hHeld => ?_)
        · exact ⟨G1.out.drewN 1, G2.out.drewN 1, GB.out.drewN 1⟩
        (refine wpAnyH_take (i := 0) (v := ?_) rfl (by kernel_rfl) (by kernel_rfl) (by kernel_rfl) (fun _ _ _ h => h) (Or.inl ⟨by rfl, ?_⟩) hHeld ?_; rotate_left; (· (intro w' hSw; go_simp; try with_reducible rfl)); (try simp only [List.getElem_toArray, List.getElem_cons_zero, List.getElem_cons_succ, Act.put, List.setIfInBounds_toArray, List.set_cons_zero, List.set_cons_succ])); (refine wpAnyH_take (i := 1) (v := ?_) rfl (by kernel_rfl) (by kernel_rfl) (by kernel_rfl) (fun _ _ _ h => h) (Or.inl ⟨by rfl, ?_⟩) hHeld ?_; rotate_left; (· (intro w' hSw; go_simp; try with_reducible rfl)); (try simp only [List.getElem_toArray, List.getElem_cons_zero, List.getElem_cons_succ, Act.put, List.setIfInBounds_toArray, List.set_cons_zero, List.set_cons_succ])); (refine wpAnyH_take (i := 2) (v := ?_) rfl (by kernel_rfl) (by kernel_rfl) (by kernel_rfl) (fun _ _ _ h => h) (Or.inl ⟨by rfl, ?_⟩) hHeld ?_; rotate_left; (· (intro w' hSw; go_simp; try with_reducible rfl)); (try simp only [List.getElem_toArray, List.getElem_cons_zero, List.getElem_cons_succ, Act.put, List.setIfInBounds_toArray, List.set_cons_zero, List.set_cons_succ])); (refine wpAnyH_take (i := 4) (v := ?_) rfl (by kernel_rfl) (by kernel_rfl) (by kernel_rfl) (fun _ _ _ h => h) (Or.inl ⟨by rfl, ?_⟩) hHeld ?_; rotate_left; (· (intro w' hSw; go_simp; try with_reducible rfl)); (try simp only [List.getElem_toArray, List.getElem_cons_zero, List.getElem_cons_succ, Act.put, List.setIfInBounds_toArray, List.set_cons_zero, List.set_cons_succ])); (refine wpAnyH_take (i := 5) (v := ?_) rfl (by kernel_rfl) (by kernel_rfl) (by kernel_rfl) (fun _ _ _ h => h) (Or.inl ⟨by rfl, ?_⟩) hHeld ?_; rotate_left; (· (intro w' hSw; go_simp; try with_reducible rfl)); (try simp only [List.getElem_toArray, List.getElem_cons_zero, List.getElem_cons_succ, Act.put, List.setIfInBounds_toArray, List.set_cons_zero, List.set_cons_succ])); (refine wpAnyH_take (i := 6) (v := ?_) rfl (by kernel_rfl) (by kernel_rfl) (by kernel_rfl) (fun _ _ _ h => h) (Or.inl ⟨by rfl, ?_⟩) hHeld ?_; rotate_left; (· (intro w' hSw; go_simp; try with_reducible rfl)); (try simp only [List.getElem_toArray, List.getElem_cons_zero, List.getElem_cons_succ, Act.put, List.setIfInBounds_toArray, List.set_cons_zero, List.set_cons_succ]))
        (refine wpAnyH_take (i := 3) (v := _) rfl (by kernel_rfl) (by kernel_rfl) (by kernel_rfl) (fun _ _ _ h => h) (yieldsIf_load_mid (by rfl) 33 _ rfl _ _ rfl (ints (pr fs k)) _ (fun w' hSw => hSw.1.range k h) Try.underlying33 rfl (hi1)) hHeld ?_; (try simp only [List.getElem_toArray, List.getElem_cons_zero, List.getElem_cons_succ, Act.put, List.setIfInBounds_toArray, List.set_cons_zero, List.set_cons_succ]))
        (refine wpAnyH_take (i := 7) (v := _) rfl (by kernel_rfl) (by kernel_rfl) (by kernel_rfl) (fun _ _ _ h => h) (yieldsIf_load_mid (by rfl) 33 _ rfl _ _ rfl (ints (pr fs k)) _ (fun w' hSw => hSw.2.1.range k h) Try.underlying33 rfl (hi1)) hHeld ?_; (try simp only [List.getElem_toArray, List.getElem_cons_zero, List.getElem_cons_succ, Act.put, List.setIfInBounds_toArray, List.set_cons_zero, List.set_cons_succ]))
        (refine wpAnyH_ready (rs := [8]) (by kernel_rfl) (by simp) ?_; refine AllReadyH.cons (o := _) rfl (fun K hK => ?_) AllReadyH.nil; (simp only [List.getElem_toArray, List.getElem_cons_zero, List.getElem_cons_succ, Region.wanted, if_true]))
        go_simp
        refine (eqIntA2_same (pr fs k) _ hl).mono ?_
        rintro e w1 ⟨rfl, b1'⟩
        have G3 := hHeld.1.below b1'
        have G4 := hHeld.2.1.below b1'
        have GB2 := hHeld.2.2.call b1'
        dsimp only
        (try simp only [List.getElem_toArray, List.getElem_cons_zero, List.getElem_cons_succ, Act.put, List.setIfInBounds_toArray, List.set_cons_zero, List.set_cons_succ])
        refine hK.out _ _ ⟨G3, G4, GB2⟩ (fun hHeld => ?_)
        clear hK K
        (refine wpAnyH_take (i := 9) (v := ?_) rfl (by kernel_rfl) (by kernel_rfl) (by kernel_rfl) (fun _ _ _ h => h) (Or.inl ⟨by rfl, ?_⟩) hHeld ?_; rotate_left; (· (intro w' hSw; go_simp; try with_reducible rfl)); (try simp only [List.getElem_toArray, List.getElem_cons_zero, List.getElem_cons_succ, Act.put, List.setIfInBounds_toArray, List.set_cons_zero, List.set_cons_succ]))
        refine wpAnyH_done (by kernel_rfl) ?_ _
        have GB3 := Lib.hid GB2
        have G5 := Lib.hid G3
        have G6 := Lib.hid G4
        clear hHeld GB2 b1' G1 G2 GB hi1 l1 G3 G4
        go_wp2_with fail
        go_roundw
        case rel => exact ⟨k + 1, by omega, by go_num, G5, G6, GB3⟩
        case measure => simp [intOf]; omega
      · obtain rfl : k = n + 1 := by omega
        go_wp2_with fail
        go_ret
        exact ⟨rfl, GB.out⟩
end Go.Proofs.Ytemiljokdedidac.base
end
