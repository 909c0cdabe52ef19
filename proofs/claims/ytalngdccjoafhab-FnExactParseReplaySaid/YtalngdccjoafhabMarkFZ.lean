/-
  Marks: the first numbers of a row, numbered.
-/
/-
  The law's own helpers for rows of pairs, walked: equal rows are told equal, marks are written, held marks are found again.
-/
/-
  Equal rows of pairs are told equal, walked.
-/
import Derived.Test.YtalngdccjoafhabRackCopyZ
import Derived.Test.YtalngdccjoafhabRunsIZ
import Derived.Test.YtalngdccjoafhabCanZ

section
namespace Go.Proofs.Ytalngdccjoafhab.base
set_option linter.unusedVariables false

/-- The first m of some numbers, marked from K on. -/
def markF (K m : Nat) (fs : List Int) : List Int := ((List.range m).map fun j : Nat => ((K + j : Nat) : Int)) ++ fs.drop m
theorem markF_zero (K : Nat) (fs : List Int) : markF K 0 fs = fs := by simp [markF]
theorem markF_set (K m : Nat) (fs : List Int) (h : m < fs.length) : (markF K m fs).set m ((K + m : Nat) : Int) = markF K (m + 1) fs := by
  unfold markF
  rw [List.set_append_right _ _ (by simp), List.range_succ, List.map_append, List.append_assoc]
  congr 1
  simp only [List.length_map, List.length_range, Nat.sub_self]
  rw [List.drop_eq_getElem_cons h]; rfl
theorem markF_get (K m j : Nat) (fs : List Int) (h : j < m) : (markF K m fs).getD j 0 = ((K + j : Nat) : Int) := by
  unfold markF
  rw [List.getD_eq_getElem?_getD, List.getElem?_append_left (by simpa using h), List.getElem?_map, List.getElem?_range h]; rfl

end Go.Proofs.Ytalngdccjoafhab.base
end

section
namespace Go.Proofs.Ytalngdccjoafhab.base
open Go.ChangeShapes Go.WideShapes Go.ChangeAt Go.RowKit
set_option linter.unusedVariables false
set_option linter.unusedSimpArgs false

theorem prs_zero {w : World} {b : Nat} {v : Value} {fs : List Int} (h : Prs w b v 0 fs) : ∃ a cap, v = .slice a 0 cap := by
  rcases h.2 with ⟨h0, _⟩ | ⟨g, cap, cur, hv, _⟩
  · exact ⟨_, _, h0⟩
  · exact ⟨_, _, hv⟩
theorem Prs.flat {w : World} {b : Nat} {v : Value} {n : Nat} {fs : List Int} (h : Prs w b v n fs) : fs.length = n * 2 := by have := h.1; rwa [ints_len] at this
theorem Prs.cell {w : World} {b g cap n : Nat} {fs : List Int} (h : Prs w b (.slice (some ⟨g, 0, Option.none⟩) n cap) n fs) (j : Nat) (hj : j < n * 2) : w.cell? ⟨g, j, Option.none⟩ = some (.int .i64 (fs.getD j 0)) := by
  rw [World.ownsRow.cellAt h j hj]; exact ints_get _ _ (by rw [h.flat]; exact hj)

set_option maxHeartbeats 1600000 in
theorem markA2S (b : Nat) (v : Value) (n K : Nat) (fs : List Int) (w : World) (hn : n ≤ 1000) (hK : K ≤ 1000) (h : Prs w b v n fs) :
    Calls Try.prog 38 #[v, .int .i64 (K : Int)] w fun e w' => e = .returned (.int .i64 ((K + n * 2 : Nat) : Int)) ∧ Prs w' b v n (markF K (n * 2) fs) ∧ w.grownBy w' v.ownBlock := by
  cases n with
  | zero =>
    obtain ⟨a, c, hv⟩ := prs_zero h
    have HH := Lib.hid h
    clear h
    subst hv
    go_enter Try.func38, Try.ntmps38
    go_wp2_with fail
    go_loop [1, 5, 6] (fun q i j => i = .int .i64 0 ∧ q = .int .i64 (K : Int)) (fun _ _ _ => 0)
    case atStart => exact ⟨rfl, rfl⟩
    case round =>
      obtain ⟨rfl, rfl⟩ := hrel
      go_wp2_with fail
      go_ret
      refine ⟨rfl, ?_, ⟨rfl, rfl, rfl, Nat.le_refl _, fun _ _ _ => rfl⟩⟩
      rw [show markF K 0 fs = fs from markF_zero K fs]; exact HH.out
  | succ n =>
    obtain ⟨g, c, rfl, _, _⟩ := h.form (by omega)
    have HL := Lib.hid h.flat
    have HH := Lib.hid h
    clear h
    go_enter Try.func38, Try.ntmps38
    go_wp2_with fail
    go_loopg [1, 5, 6] (n + 1) (fun gk q i j wr => ∃ p : Nat, gk = n + 1 - p ∧ p ≤ n + 1 ∧ i = .int .i64 p ∧ q = .int .i64 ((K + p * 2 : Nat) : Int) ∧ Hid (Prs wr b (.slice (some ⟨g, 0, none⟩) (n + 1) c) (n + 1) (markF K (p * 2) fs)) ∧ Hid (w.grownBy wr (some g)))
    case atStart => exact ⟨0, rfl, by omega, rfl, by simp, Lib.hid (by rw [Nat.zero_mul, markF_zero]; exact HH.out), Lib.hid ⟨rfl, rfl, rfl, Nat.le_refl _, fun _ _ _ => rfl⟩⟩
    case round =>
      obtain ⟨p, rfl, hp, rfl, rfl, GP, GG⟩ := hrel
      by_cases hlt : p < n + 1
      · have hpi : (p : Int) < (n : Int) + 1 := by omega
        go_wp2_with fail
        go_loopg [1, 6] 2 (fun gk q j wr => ∃ z : Nat, gk = 2 - z ∧ z ≤ 2 ∧ j = .int .i64 z ∧ q = .int .i64 ((K + (p * 2 + z) : Nat) : Int) ∧ Hid (Prs wr b (.slice (some ⟨g, 0, none⟩) (n + 1) c) (n + 1) (markF K (p * 2 + z) fs)) ∧ Hid (w.grownBy wr (some g)))
        case atStart => exact ⟨0, rfl, by omega, rfl, by simp, GP, GG⟩
        case round =>
          obtain ⟨z, rfl, hz, rfl, rfl, KP, KG⟩ := hrel
          by_cases hz2 : z < 2
          · have hzi : (z : Int) < 2 := by omega
            have c0 := KP.out.cell (p * 2 + z) (by omega)
            have f0 := World.ownsRow.frozenAt KP.out (p * 2 + z)
            have st := World.ownsRow.stored KP.out (p * 2 + z) (.int .i64 ((K + (p * 2 + z) : Nat) : Int))
            have e : (ints (markF K (p * 2 + z) fs)).set (p * 2 + z) (.int .i64 ((K + (p * 2 + z) : Nat) : Int)) = ints (markF K (p * 2 + z + 1) fs) := by
              rw [ints_set, markF_set K _ fs (by rw [HL.out]; omega)]
            rw [e] at st
            clear e
            have S1 := Lib.hid st.1
            have S2 := Lib.hid (show w.grownBy _ (some g) from ⟨st.2.os.trans KG.out.os, st.2.tape.trans KG.out.tape, st.2.output.trans KG.out.output, Nat.le_trans KG.out.size st.2.size, fun i hi hn => (st.2.block i (Nat.lt_of_lt_of_le hi KG.out.size) hn).trans (KG.out.block i hi hn)⟩)
            clear st
            generalize (markF K (p * 2 + z) fs).getD (p * 2 + z) 0 = y at *
            go_wp2_with fail
            go_roundg (2 - (z + 1))
            case rel => exact ⟨z + 1, rfl, by omega, by go_num, by go_num, S1, S2⟩
            case measure => omega
          · obtain rfl : z = 2 := by omega
            have E : p * 2 + 2 = (p + 1) * 2 := by omega
            rw [E] at KP
            go_wp2_with fail
            go_roundg (n + 1 - (p + 1))
            case rel => exact ⟨p + 1, rfl, by omega, by go_num, by rw [← E], KP, KG⟩
            case measure => omega
      · obtain rfl : p = n + 1 := by omega
        go_wp2_with fail
        go_ret
        exact ⟨rfl, GP.out, GG.out⟩

set_option maxHeartbeats 1600000 in
theorem heldA2S (b : Nat) (v : Value) (n K : Nat) (fs : List Int) (w : World) (hn : n ≤ 1000) (hK : K ≤ 1000) (h : Prs w b v n (markF K (n * 2) fs)) :
    Calls Try.prog 39 #[v, .int .i64 (K : Int)] w fun e w' => e = .returned (.int .i64 ((K + n * 2 : Nat) : Int)) ∧ w' = w := by
  cases n with
  | zero =>
    obtain ⟨a, c, hv⟩ := prs_zero h
    clear h
    subst hv
    go_enter Try.func39, Try.ntmps39
    go_wp2_with fail
    go_loop [1, 5, 6] (fun q i j => i = .int .i64 0 ∧ q = .int .i64 (K : Int)) (fun _ _ _ => 0)
    case atStart => exact ⟨rfl, rfl⟩
    case round =>
      obtain ⟨rfl, rfl⟩ := hrel
      go_wp2_with fail
      go_ret
      exact ⟨rfl, rfl⟩
  | succ n =>
    obtain ⟨g, c, rfl, _, _⟩ := h.form (by omega)
    have HH := Lib.hid h
    clear h
    go_enter Try.func39, Try.ntmps39
    go_wp2_with fail
    go_loopg [1, 5, 6] (n + 1) (fun gk q i j wr => ∃ p : Nat, gk = n + 1 - p ∧ p ≤ n + 1 ∧ i = .int .i64 p ∧ q = .int .i64 ((K + p * 2 : Nat) : Int) ∧ w = wr)
    case atStart => exact ⟨0, rfl, by omega, rfl, by simp, rfl⟩
    case round =>
      obtain ⟨p, rfl, hp, rfl, rfl, rfl⟩ := hrel
      by_cases hlt : p < n + 1
      · have hpi : (p : Int) < (n : Int) + 1 := by omega
        go_wp2_with fail
        go_loopg [1, 6] 2 (fun gk q j wr => ∃ z : Nat, gk = 2 - z ∧ z ≤ 2 ∧ j = .int .i64 z ∧ q = .int .i64 ((K + (p * 2 + z) : Nat) : Int) ∧ w = wr)
        case atStart => exact ⟨0, rfl, by omega, rfl, by simp, rfl⟩
        case round =>
          obtain ⟨z, rfl, hz, rfl, rfl, rfl⟩ := hrel
          by_cases hz2 : z < 2
          · have hzi : (z : Int) < 2 := by omega
            have c0 := HH.out.cell (p * 2 + z) (by omega)
            rw [markF_get K _ _ fs (by omega)] at c0
            go_wp2_with fail
            go_roundg (2 - (z + 1))
            case rel => exact ⟨z + 1, rfl, by omega, by go_num, by go_num, rfl⟩
            case measure => omega
          · obtain rfl : z = 2 := by omega
            have E : p * 2 + 2 = (p + 1) * 2 := by omega
            go_wp2_with fail
            go_roundg (n + 1 - (p + 1))
            case rel => exact ⟨p + 1, rfl, by omega, by go_num, by rw [← E], rfl⟩
            case measure => omega
      · obtain rfl : p = n + 1 := by omega
        go_wp2_with fail
        go_ret
        exact ⟨rfl, rfl⟩
end Go.Proofs.Ytalngdccjoafhab.base
end

section
namespace Go.Proofs.Ytalngdccjoafhab.base
open Go.ChangeShapes Go.WideShapes Go.ChangeAt Go.RowKit
set_option linter.unusedVariables false
set_option linter.unusedSimpArgs false

set_option maxHeartbeats 400000 in
theorem eqIntA2_same (t : List Int) (w : World) (h2 : t.length = 2) :
    Calls Try.prog 70 #[.agg (ints t).toArray, .agg (ints t).toArray] w fun e w' => e = .returned (.bool true) ∧ Kept w w' := by
  have HB := Lib.hid (((kept_refl w).alloc (.cells (ints t).toArray 51)).alloc (.cells (ints t).toArray 51))
  have H1 := (Has.box w 51 h2 (by omega)).alloc (.cells (ints t).toArray 51)
  have H2 := (Has.box (w.alloc (.cells (ints t).toArray 51)) 51 h2 (by omega)).at (size1 _ _)
  go_enter Try.func70, Try.ntmps70
  go_wp2_with fail
  have HL := Lib.hid h2
  clear h2
  generalize ((w.alloc (.cells (ints t).toArray 51)).alloc (.cells (ints t).toArray 51)) = W at *
  go_loopw [5] (fun z wr => ∃ k : Nat, k ≤ 2 ∧ z = .int .i64 k ∧ Has wr w.heap.size t 2 ∧ Has wr (w.heap.size + 1) t 2 ∧ Hid (Kept w wr)) (fun z _ => 2 - (intOf z).toNat)
  case atStart => exact ⟨0, by omega, rfl, H1, H2, HB⟩
  case round =>
    obtain ⟨k, hk, rfl, G1, G2, GB⟩ := hrel
    by_cases h : k < 2
    · have c1 := G1.cell k h
      have c2 := G2.cell k h
      have hki : (k : Int) < 2 := by omega
      have hk0 : (0 : Int) ≤ (k : Int) := by omega
      generalize t.getD k 0 = x at *
      go_wp2_with fail
      go_quiet (fail)
      have G3 := G1.drewN nq
      have G4 := G2.drewN nq
      have GB2 := Lib.hid (GB.out.drewN nq)
      go_wp2_with fail
      go_roundw
      case rel => exact ⟨k + 1, by omega, by go_num, G3, G4, GB2⟩
      case measure => simp [intOf]; omega
    · go_wp2_with fail
      go_ret
      exact ⟨rfl, GB.out⟩

def pr (fs : List Int) (k : Nat) : List Int := (fs.drop (k * 2)).take 2
theorem pr_len (fs : List Int) (k n : Nat) (h : fs.length = n * 2) (hk : k < n) : (pr fs k).length = 2 := by
  unfold pr; rw [List.length_take, List.length_drop]; omega
theorem Prs.range {w : World} {b g cap n : Nat} {fs : List Int} (h : Prs w b (.slice (some ⟨g, 0, Option.none⟩) n cap) n fs) (k : Nat) (hk : k < n) : w.rangeAt g (k * 2) (ints (pr fs k)) := by
  intro j v hv
  have hl := pr_len fs k n h.flat hk
  have hj : j < 2 := by
    rcases Nat.lt_or_ge j 2 with h1 | h1
    · exact h1
    · rw [List.getElem?_eq_none (by rw [ints_len, hl]; exact h1)] at hv; cases hv
  rw [h.cell (k * 2 + j) (by omega), ← hv, ints_get _ _ (by rw [hl]; exact hj)]
  unfold pr
  rw [List.getD_eq_getElem?_getD, List.getD_eq_getElem?_getD, List.getElem?_take, if_pos hj, List.getElem?_drop]

set_option maxHeartbeats 1600000 in
set_option maxRecDepth 100000 in
theorem eqIntA2S_same (v1 v2 : Value) (b1 b2 n : Nat) (fs : List Int) (w : World) (hn : n ≤ 1048576) (h1 : Prs w b1 v1 n fs) (h2 : Prs w b2 v2 n fs) :
    Calls Try.prog 37 #[v1, v2] w fun e w' => e = .returned (.bool true) ∧ Kept w w' := by
  cases n with
  | zero =>
    obtain ⟨a1, c1, rfl⟩ := prs_zero h1
    obtain ⟨a2, c2, rfl⟩ := prs_zero h2
    clear h1 h2
    go_enter Try.func37, Try.ntmps37
    go_wp2_with fail
    go_loop [5] (fun i => i = .int .i64 0) (fun _ => 0)
    case atStart => rfl
    case round =>
      obtain rfl := hrel
      go_wp2_with fail
      go_ret
      exact ⟨rfl, kept_refl _⟩
  | succ n =>
    obtain ⟨g1, c1, rfl, _, _⟩ := h1.form (by omega)
    obtain ⟨g2, c2, rfl, _, _⟩ := h2.form (by omega)
    have HF := Lib.hid h1.flat
    go_enter Try.func37, Try.ntmps37
    go_wp2_with fail
    go_loopw [5] (fun z wr => ∃ k : Nat, k ≤ n + 1 ∧ z = .int .i64 k ∧ Hid (Prs wr b1 (.slice (some ⟨g1, 0, none⟩) (n + 1) c1) (n + 1) fs) ∧ Hid (Prs wr b2 (.slice (some ⟨g2, 0, none⟩) (n + 1) c2) (n + 1) fs) ∧ Hid (Kept w wr)) (fun z _ => n + 1 - (intOf z).toNat)
    case atStart => exact ⟨0, by omega, rfl, Lib.hid h1, Lib.hid h2, Lib.hid (kept_refl _)⟩
    case round =>
      obtain ⟨k, hk, rfl, G1, G2, GB⟩ := hrel
      by_cases h : k < n + 1
      · have hki : (k : Int) < (n : Int) + 1 := by omega
        have hk0 : (0 : Int) ≤ (k : Int) := by omega
        have hl := pr_len fs k (n + 1) HF.out h
        have l1 : (ints (pr fs k)).length = 2 := by rw [ints_len]; exact hl
        have hi1 : (Try.prog.info? 51).map (·.size) = some (ints (pr fs k)).length := by rw [l1]; kernel_rfl
        go_wp2_with fail
        refine wp_region_held_drew (S := fun w' => Prs w' b1 (.slice (some ⟨g1, 0, none⟩) (n + 1) c1) (n + 1) fs ∧ Prs w' b2 (.slice (some ⟨g2, 0, none⟩) (n + 1) c2) (n + 1) fs ∧ Kept w w') (by kernel_rfl) ?_ (fun hHeld => ?_)
        · exact ⟨G1.out.drewN 1, G2.out.drewN 1, GB.out.drewN 1⟩
        (refine wpAnyH_take (i := 0) (v := ?_) rfl (by kernel_rfl) (by kernel_rfl) (by kernel_rfl) (fun _ _ _ h => h) (Or.inl ⟨by rfl, ?_⟩) hHeld ?_; rotate_left; (· (intro w' hSw; go_simp; try with_reducible rfl)); (try simp only [List.getElem_toArray, List.getElem_cons_zero, List.getElem_cons_succ, Act.put, List.setIfInBounds_toArray, List.set_cons_zero, List.set_cons_succ])); (refine wpAnyH_take (i := 1) (v := ?_) rfl (by kernel_rfl) (by kernel_rfl) (by kernel_rfl) (fun _ _ _ h => h) (Or.inl ⟨by rfl, ?_⟩) hHeld ?_; rotate_left; (· (intro w' hSw; go_simp; try with_reducible rfl)); (try simp only [List.getElem_toArray, List.getElem_cons_zero, List.getElem_cons_succ, Act.put, List.setIfInBounds_toArray, List.set_cons_zero, List.set_cons_succ])); (refine wpAnyH_take (i := 2) (v := ?_) rfl (by kernel_rfl) (by kernel_rfl) (by kernel_rfl) (fun _ _ _ h => h) (Or.inl ⟨by rfl, ?_⟩) hHeld ?_; rotate_left; (· (intro w' hSw; go_simp; try with_reducible rfl)); (try simp only [List.getElem_toArray, List.getElem_cons_zero, List.getElem_cons_succ, Act.put, List.setIfInBounds_toArray, List.set_cons_zero, List.set_cons_succ])); (refine wpAnyH_take (i := 4) (v := ?_) rfl (by kernel_rfl) (by kernel_rfl) (by kernel_rfl) (fun _ _ _ h => h) (Or.inl ⟨by rfl, ?_⟩) hHeld ?_; rotate_left; (· (intro w' hSw; go_simp; try with_reducible rfl)); (try simp only [List.getElem_toArray, List.getElem_cons_zero, List.getElem_cons_succ, Act.put, List.setIfInBounds_toArray, List.set_cons_zero, List.set_cons_succ])); (refine wpAnyH_take (i := 5) (v := ?_) rfl (by kernel_rfl) (by kernel_rfl) (by kernel_rfl) (fun _ _ _ h => h) (Or.inl ⟨by rfl, ?_⟩) hHeld ?_; rotate_left; (· (intro w' hSw; go_simp; try with_reducible rfl)); (try simp only [List.getElem_toArray, List.getElem_cons_zero, List.getElem_cons_succ, Act.put, List.setIfInBounds_toArray, List.set_cons_zero, List.set_cons_succ])); (refine wpAnyH_take (i := 6) (v := ?_) rfl (by kernel_rfl) (by kernel_rfl) (by kernel_rfl) (fun _ _ _ h => h) (Or.inl ⟨by rfl, ?_⟩) hHeld ?_; rotate_left; (· (intro w' hSw; go_simp; try with_reducible rfl)); (try simp only [List.getElem_toArray, List.getElem_cons_zero, List.getElem_cons_succ, Act.put, List.setIfInBounds_toArray, List.set_cons_zero, List.set_cons_succ]))
        (refine wpAnyH_take (i := 3) (v := _) rfl (by kernel_rfl) (by kernel_rfl) (by kernel_rfl) (fun _ _ _ h => h) (yieldsIf_load_mid (by rfl) 51 _ rfl _ _ rfl (ints (pr fs k)) _ (fun w' hSw => hSw.1.range k h) Try.underlying51 rfl (hi1)) hHeld ?_; (try simp only [List.getElem_toArray, List.getElem_cons_zero, List.getElem_cons_succ, Act.put, List.setIfInBounds_toArray, List.set_cons_zero, List.set_cons_succ]))
        (refine wpAnyH_take (i := 7) (v := _) rfl (by kernel_rfl) (by kernel_rfl) (by kernel_rfl) (fun _ _ _ h => h) (yieldsIf_load_mid (by rfl) 51 _ rfl _ _ rfl (ints (pr fs k)) _ (fun w' hSw => hSw.2.1.range k h) Try.underlying51 rfl (hi1)) hHeld ?_; (try simp only [List.getElem_toArray, List.getElem_cons_zero, List.getElem_cons_succ, Act.put, List.setIfInBounds_toArray, List.set_cons_zero, List.set_cons_succ]))
        (refine wpAnyH_ready (rs := [8]) (by kernel_rfl) (by simp) ?_; refine AllReadyH.cons (o := _) rfl (fun K hK => ?_) AllReadyH.nil; (simp only [List.getElem_toArray, List.getElem_cons_zero, List.getElem_cons_succ, Region.wanted, if_true]))
        go_simp
        refine (eqIntA2_same (pr fs k) _ hl).mono ?_
        rintro e w1 ⟨rfl, b1'⟩
        have G3 := hHeld.1.below b1'
        have G4 := hHeld.2.1.below b1'
        have GB2 := hHeld.2.2.call b1'
        dsimp only
        (try simp only [List.getElem_toArray, List.getElem_cons_zero, List.getElem_cons_succ, Act.put, List.setIfInBounds_toArray, List.set_cons_zero, List.set_cons_succ])
        refine hK.out _ _ ⟨G3, G4, GB2⟩ (fun hHeld => ?_)
        clear hK K
        (refine wpAnyH_take (i := 9) (v := ?_) rfl (by kernel_rfl) (by kernel_rfl) (by kernel_rfl) (fun _ _ _ h => h) (Or.inl ⟨by rfl, ?_⟩) hHeld ?_; rotate_left; (· (intro w' hSw; go_simp; try with_reducible rfl)); (try simp only [List.getElem_toArray, List.getElem_cons_zero, List.getElem_cons_succ, Act.put, List.setIfInBounds_toArray, List.set_cons_zero, List.set_cons_succ]))
        refine wpAnyH_done (by kernel_rfl) ?_ _
        have GB3 := Lib.hid GB2
        have G5 := Lib.hid G3
        have G6 := Lib.hid G4
        clear hHeld GB2 b1' G1 G2 GB hi1 l1 G3 G4
        go_wp2_with fail
        go_roundw
        case rel => exact ⟨k + 1, by omega, by go_num, G5, G6, GB3⟩
        case measure => simp [intOf]; omega
      · obtain rfl : k = n + 1 := by omega
        go_wp2_with fail
        go_ret
        exact ⟨rfl, GB.out⟩
end Go.Proofs.Ytalngdccjoafhab.base
end
