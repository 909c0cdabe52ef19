/-
  The law's helpers on rows of pairs, walked: equal rows are told equal, which pairs stand in a row.
-/
import Derived.Test.YtlbofgjgmignhaaEqR
import Derived.Test.YtlbofgjgmignhaaPMath
import Derived.Test.YtlbofgjgmignhaaUseS
namespace Go.Proofs.Ytlbofgjgmignhaa.base
open Go.ChangeShapes Go.WideShapes Go.ChangeAt Go.RowKit
set_option linter.unusedVariables false
set_option linter.unusedSimpArgs false

theorem Prs.loadable {w : World} {b g cap n : Nat} {fs : List Int} (h : Prs w b (.slice (some ⟨g, 0, Option.none⟩) n cap) n fs) (k : Nat) (hk : k < n) : w.rangeAt g (k * 2) (ints [fs.getD (k * 2) 0, fs.getD (k * 2 + 1) 0]) := by
  intro j v hv
  match j, hv with
  | 0, hv => injection hv with hv; subst hv; exact h.cell (k * 2) (by omega)
  | 1, hv => injection hv with hv; subst hv; exact h.cell (k * 2 + 1) (by omega)

set_option maxHeartbeats 1600000 in
set_option maxRecDepth 100000 in
theorem rPairs_same (v1 v2 : Value) (b1 b2 n : Nat) (fs : List Int) (w : World) (hn : n ≤ 1000) (h1 : Prs w b1 v1 n fs) (h2 : Prs w b2 v2 n fs) :
    Calls Try.prog 13 #[v1, v2] w fun e w' => e = .returned (.bool true) ∧ Kept w w' := by
  cases n with
  | zero =>
    obtain ⟨a1, c1, rfl⟩ := prs_zero h1
    obtain ⟨a2, c2, rfl⟩ := prs_zero h2
    clear h1 h2
    go_enter Try.func13, Try.ntmps13
    go_wp2_with fail
    go_loop [5] (fun i => i = .int .i64 0) (fun _ => 0)
    case atStart => rfl
    case round =>
      obtain rfl := hrel
      go_wp2_with fail
      go_ret
      exact ⟨rfl, kept_refl _⟩
  | succ n =>
    obtain ⟨g1, c1, rfl, _, _⟩ := h1.form (by omega)
    obtain ⟨g2, c2, rfl, _, _⟩ := h2.form (by omega)
    have HM : Hid (Try.prog.eqGuardType Try.prog.depth 44 = false) := Lib.hid (by kernel_rfl)
    go_enter Try.func13, Try.ntmps13
    go_wp2_with fail
    go_loopw [5] (fun z wr => ∃ k : Nat, k ≤ n + 1 ∧ z = .int .i64 k ∧ Hid (Prs wr b1 (.slice (some ⟨g1, 0, none⟩) (n + 1) c1) (n + 1) fs) ∧ Hid (Prs wr b2 (.slice (some ⟨g2, 0, none⟩) (n + 1) c2) (n + 1) fs) ∧ Hid (Kept w wr)) (fun z _ => n + 1 - (intOf z).toNat)
    case atStart => exact ⟨0, by omega, rfl, Lib.hid h1, Lib.hid h2, Lib.hid (kept_refl _)⟩
    case round =>
      obtain ⟨k, hk, rfl, G1, G2, GB⟩ := hrel
      by_cases h : k < n + 1
      · have hki : (k : Int) < (n : Int) + 1 := by omega
        have hk0 : (0 : Int) ≤ (k : Int) := by omega
        have hi1 : (Try.prog.info? 44).map (·.size) = some (ints [fs.getD (k * 2) 0, fs.getD (k * 2 + 1) 0]).length := by kernel_rfl
        go_wp2_with fail
        refine wp_region_held_drew (S := fun w' => Prs w' b1 (.slice (some ⟨g1, 0, none⟩) (n + 1) c1) (n + 1) fs ∧ Prs w' b2 (.slice (some ⟨g2, 0, none⟩) (n + 1) c2) (n + 1) fs ∧ Kept w w') (by kernel_rfl) ?_ (fun hHeld => ?_)
        · exact ⟨G1.out.drewN 1, G2.out.drewN 1, GB.out.drewN 1⟩
        (refine wpAnyH_take (i := 0) (v := ?_) rfl (by kernel_rfl) (by kernel_rfl) (by kernel_rfl) (fun _ _ _ h => h) (Or.inl ⟨by rfl, ?_⟩) hHeld ?_; rotate_left; (· (intro w' hSw; go_simp; try with_reducible rfl)); (try simp only [List.getElem_toArray, List.getElem_cons_zero, List.getElem_cons_succ, Act.put, List.setIfInBounds_toArray, List.set_cons_zero, List.set_cons_succ])); (refine wpAnyH_take (i := 1) (v := ?_) rfl (by kernel_rfl) (by kernel_rfl) (by kernel_rfl) (fun _ _ _ h => h) (Or.inl ⟨by rfl, ?_⟩) hHeld ?_; rotate_left; (· (intro w' hSw; go_simp; try with_reducible rfl)); (try simp only [List.getElem_toArray, List.getElem_cons_zero, List.getElem_cons_succ, Act.put, List.setIfInBounds_toArray, List.set_cons_zero, List.set_cons_succ])); (refine wpAnyH_take (i := 2) (v := ?_) rfl (by kernel_rfl) (by kernel_rfl) (by kernel_rfl) (fun _ _ _ h => h) (Or.inl ⟨by rfl, ?_⟩) hHeld ?_; rotate_left; (· (intro w' hSw; go_simp; try with_reducible rfl)); (try simp only [List.getElem_toArray, List.getElem_cons_zero, List.getElem_cons_succ, Act.put, List.setIfInBounds_toArray, List.set_cons_zero, List.set_cons_succ])); (refine wpAnyH_take (i := 4) (v := ?_) rfl (by kernel_rfl) (by kernel_rfl) (by kernel_rfl) (fun _ _ _ h => h) (Or.inl ⟨by rfl, ?_⟩) hHeld ?_; rotate_left; (· (intro w' hSw; go_simp; try with_reducible rfl)); (try simp only [List.getElem_toArray, List.getElem_cons_zero, List.getElem_cons_succ, Act.put, List.setIfInBounds_toArray, List.set_cons_zero, List.set_cons_succ])); (refine wpAnyH_take (i := 5) (v := ?_) rfl (by kernel_rfl) (by kernel_rfl) (by kernel_rfl) (fun _ _ _ h => h) (Or.inl ⟨by rfl, ?_⟩) hHeld ?_; rotate_left; (· (intro w' hSw; go_simp; try with_reducible rfl)); (try simp only [List.getElem_toArray, List.getElem_cons_zero, List.getElem_cons_succ, Act.put, List.setIfInBounds_toArray, List.set_cons_zero, List.set_cons_succ])); (refine wpAnyH_take (i := 6) (v := ?_) rfl (by kernel_rfl) (by kernel_rfl) (by kernel_rfl) (fun _ _ _ h => h) (Or.inl ⟨by rfl, ?_⟩) hHeld ?_; rotate_left; (· (intro w' hSw; go_simp; try with_reducible rfl)); (try simp only [List.getElem_toArray, List.getElem_cons_zero, List.getElem_cons_succ, Act.put, List.setIfInBounds_toArray, List.set_cons_zero, List.set_cons_succ]))
        (refine wpAnyH_take (i := 3) (v := _) rfl (by kernel_rfl) (by kernel_rfl) (by kernel_rfl) (fun _ _ _ h => h) (yieldsIf_load_mid (by rfl) 44 _ rfl _ _ rfl (ints [fs.getD (k * 2) 0, fs.getD (k * 2 + 1) 0]) _ (fun w' hSw => hSw.1.loadable k h) Try.underlying44 rfl (hi1)) hHeld ?_; (try simp only [List.getElem_toArray, List.getElem_cons_zero, List.getElem_cons_succ, Act.put, List.setIfInBounds_toArray, List.set_cons_zero, List.set_cons_succ]))
        (refine wpAnyH_take (i := 7) (v := _) rfl (by kernel_rfl) (by kernel_rfl) (by kernel_rfl) (fun _ _ _ h => h) (yieldsIf_load_mid (by rfl) 44 _ rfl _ _ rfl (ints [fs.getD (k * 2) 0, fs.getD (k * 2 + 1) 0]) _ (fun w' hSw => hSw.2.1.loadable k h) Try.underlying44 rfl (hi1)) hHeld ?_; (try simp only [List.getElem_toArray, List.getElem_cons_zero, List.getElem_cons_succ, Act.put, List.setIfInBounds_toArray, List.set_cons_zero, List.set_cons_succ]))
        refine wpAnyH_take (i := 8) (v := .bool false) rfl (by kernel_rfl) (by kernel_rfl) (by kernel_rfl) (fun _ _ _ h => h) (Or.inl ⟨by rfl, ?_⟩) hHeld ?_
        · intro w' hSw
          exact neq_same_run _ _ _ _ _ _ rfl [fs.getD (k * 2) 0, fs.getD (k * 2 + 1) 0] rfl rfl HM.out (eqPair _ _ rfl rfl)
        (try simp only [List.getElem_toArray, List.getElem_cons_zero, List.getElem_cons_succ, Act.put, List.setIfInBounds_toArray, List.set_cons_zero, List.set_cons_succ])
        refine wpAnyH_done (by kernel_rfl) ?_ _
        have G5 := Lib.hid hHeld.1
        have G6 := Lib.hid hHeld.2.1
        have GB3 := Lib.hid hHeld.2.2
        clear hHeld G1 G2 GB hi1
        go_wp2_with fail
        go_roundw
        case rel => exact ⟨k + 1, by omega, by go_num, G5, G6, GB3⟩
        case measure => simp [intOf]; omega
      · obtain rfl : k = n + 1 := by omega
        go_wp2_with fail
        go_ret
        exact ⟨rfl, GB.out⟩

set_option maxHeartbeats 1600000 in
set_option maxRecDepth 100000 in
theorem rIn_any (v : Value) (b n : Nat) (fs : List Int) (x y : Int) (w : World) (hn : n ≤ 1000) (h1 : Prs w b v n fs) :
    Calls Try.prog 21 #[v, .agg (ints [x, y]).toArray] w fun e w' => (∃ t : Bool, e = .returned (.bool t) ∧ (t = true ↔ inL fs x y)) ∧ Kept w w' := by
  have HF := Lib.hid h1.flat
  cases n with
  | zero =>
    obtain ⟨a1, c1, rfl⟩ := prs_zero h1
    clear h1
    go_enter Try.func21, Try.ntmps21
    go_wp2_with fail
    go_loopw [5] (fun i wr => i = .int .i64 0 ∧ Hid (Kept w wr)) (fun _ _ => 0)
    case atStart => exact ⟨rfl, Lib.hid ((kept_refl w).alloc _)⟩
    case round =>
      obtain ⟨rfl, GB⟩ := hrel
      go_wp2_with fail
      go_ret
      exact ⟨⟨false, rfl, ⟨fun h => (by cases h), fun ⟨k, hk, _⟩ => by have := HF.out; omega⟩⟩, GB.out⟩
  | succ n =>
    obtain ⟨g1, c1, rfl, _, _⟩ := h1.form (by omega)
    have HM : Hid (Try.prog.eqGuardType Try.prog.depth 44 = false) := Lib.hid (by kernel_rfl)
    have B0 := Has.box (ns := [x, y]) (n := 2) w 44 rfl (by omega)
    have HP := Lib.hid (h1.alloc (.cells (ints [x, y]).toArray 44))
    have HB := Lib.hid ((kept_refl w).alloc (.cells (ints [x, y]).toArray 44))
    clear h1
    go_enter Try.func21, Try.ntmps21
    go_wp2_with fail
    go_loopw [5] (fun z wr => ∃ k : Nat, k ≤ n + 1 ∧ z = .int .i64 k ∧ Has wr w.heap.size [x, y] 2 ∧ Hid (Prs wr b (.slice (some ⟨g1, 0, none⟩) (n + 1) c1) (n + 1) fs) ∧ Hid (Kept w wr) ∧ Hid (∀ j, j < k → ¬ (fs.getD (j * 2) 0 = x ∧ fs.getD (j * 2 + 1) 0 = y))) (fun z _ => n + 1 - (intOf z).toNat)
    case atStart => exact ⟨0, by omega, rfl, B0, HP, HB, Lib.hid (fun j hj => by omega)⟩
    case round =>
      obtain ⟨k, hk, rfl, GX, G1, GB, GN⟩ := hrel
      by_cases h : k < n + 1
      · have hki : (k : Int) < (n : Int) + 1 := by omega
        have hk0 : (0 : Int) ≤ (k : Int) := by omega
        have hi1 : (Try.prog.info? 44).map (·.size) = some (ints [fs.getD (k * 2) 0, fs.getD (k * 2 + 1) 0]).length := by kernel_rfl
        have hi2 : (Try.prog.info? 44).map (·.size) = some (ints [x, y]).length := by kernel_rfl
        have EQ := Lib.hid (eqPair [fs.getD (k * 2) 0, fs.getD (k * 2 + 1) 0] [x, y] rfl rfl)
        go_wp2_with fail
        refine wp_region_held_drew (S := fun w' => Prs w' b (.slice (some ⟨g1, 0, none⟩) (n + 1) c1) (n + 1) fs ∧ Has w' w.heap.size [x, y] 2 ∧ Kept w w') (by kernel_rfl) ?_ (fun hHeld => ?_)
        · exact ⟨G1.out.drewN 1, GX.drew, GB.out.drewN 1⟩
        (refine wpAnyH_take (i := 0) (v := ?_) rfl (by kernel_rfl) (by kernel_rfl) (by kernel_rfl) (fun _ _ _ h => h) (Or.inl ⟨by rfl, ?_⟩) hHeld ?_; rotate_left; (· (intro w' hSw; go_simp; try with_reducible rfl)); (try simp only [List.getElem_toArray, List.getElem_cons_zero, List.getElem_cons_succ, Act.put, List.setIfInBounds_toArray, List.set_cons_zero, List.set_cons_succ])); (refine wpAnyH_take (i := 1) (v := ?_) rfl (by kernel_rfl) (by kernel_rfl) (by kernel_rfl) (fun _ _ _ h => h) (Or.inl ⟨by rfl, ?_⟩) hHeld ?_; rotate_left; (· (intro w' hSw; go_simp; try with_reducible rfl)); (try simp only [List.getElem_toArray, List.getElem_cons_zero, List.getElem_cons_succ, Act.put, List.setIfInBounds_toArray, List.set_cons_zero, List.set_cons_succ])); (refine wpAnyH_take (i := 2) (v := ?_) rfl (by kernel_rfl) (by kernel_rfl) (by kernel_rfl) (fun _ _ _ h => h) (Or.inl ⟨by rfl, ?_⟩) hHeld ?_; rotate_left; (· (intro w' hSw; go_simp; try with_reducible rfl)); (try simp only [List.getElem_toArray, List.getElem_cons_zero, List.getElem_cons_succ, Act.put, List.setIfInBounds_toArray, List.set_cons_zero, List.set_cons_succ]))
        (refine wpAnyH_take (i := 3) (v := _) rfl (by kernel_rfl) (by kernel_rfl) (by kernel_rfl) (fun _ _ _ h => h) (yieldsIf_load_mid (by rfl) 44 _ rfl _ _ rfl (ints [fs.getD (k * 2) 0, fs.getD (k * 2 + 1) 0]) _ (fun w' hSw => hSw.1.loadable k h) Try.underlying44 rfl (hi1)) hHeld ?_; (try simp only [List.getElem_toArray, List.getElem_cons_zero, List.getElem_cons_succ, Act.put, List.setIfInBounds_toArray, List.set_cons_zero, List.set_cons_succ]))
        (refine wpAnyH_take (i := 4) (v := _) rfl (by kernel_rfl) (by kernel_rfl) (by kernel_rfl) (fun _ _ _ h => h) (yieldsIf_load_mid (by rfl) 44 _ rfl _ _ rfl (ints [x, y]) _ (fun w' hSw => hSw.2.1.holds.range) Try.underlying44 rfl (hi2)) hHeld ?_; (try simp only [List.getElem_toArray, List.getElem_cons_zero, List.getElem_cons_succ, Act.put, List.setIfInBounds_toArray, List.set_cons_zero, List.set_cons_succ]))
        refine wpAnyH_take (i := 5) (v := .bool (decide ([fs.getD (k * 2) 0, fs.getD (k * 2 + 1) 0] = [x, y]))) rfl (by kernel_rfl) (by kernel_rfl) (by kernel_rfl) (fun _ _ _ h => h) (Or.inl ⟨by rfl, ?_⟩) hHeld ?_
        · intro w' hSw
          exact eql_run _ _ _ _ _ _ rfl _ _ rfl rfl HM.out EQ.out
        (try simp only [List.getElem_toArray, List.getElem_cons_zero, List.getElem_cons_succ, Act.put, List.setIfInBounds_toArray, List.set_cons_zero, List.set_cons_succ])
        refine wpAnyH_done (by kernel_rfl) ?_ _
        have G5 := Lib.hid hHeld.1
        have G6 := hHeld.2.1
        have GB3 := Lib.hid hHeld.2.2
        by_cases e : fs.getD (k * 2) 0 = x ∧ fs.getD (k * 2 + 1) 0 = y
        · have YES : Hid (inL fs x y) := Lib.hid ⟨k, by rw [HF.out]; omega, e.1, e.2⟩
          rw [decide_eq_true (by rw [e.1, e.2])]
          clear hHeld G1 GX GB hi1 hi2 EQ e
          go_wp2_with fail
          go_ret
          exact ⟨⟨true, rfl, ⟨fun _ => YES.out, fun _ => rfl⟩⟩, GB3.out⟩
        · have GN2 : Hid (∀ j, j < k + 1 → ¬ (fs.getD (j * 2) 0 = x ∧ fs.getD (j * 2 + 1) 0 = y)) := Lib.hid (fun j hj => by
            by_cases hjk : j = k
            · subst hjk; exact e
            · exact GN.out j (by omega))
          rw [decide_eq_false (fun h => e (by injection h with h1 h2; injection h2 with h2; exact ⟨h1, h2⟩))]
          clear hHeld G1 GX GB hi1 hi2 EQ e
          go_wp2_with fail
          go_roundw
          case rel => exact ⟨k + 1, by omega, by go_num, G6, G5, GB3, GN2⟩
          case measure => simp [intOf]; omega
      · obtain rfl : k = n + 1 := by omega
        go_wp2_with fail
        go_ret
        exact ⟨⟨false, rfl, ⟨fun h => (by cases h), fun ⟨j, hj, h1, h2⟩ => absurd ⟨h1, h2⟩ (GN.out j (by have := HF.out; omega))⟩⟩, GB.out⟩

set_option maxHeartbeats 1600000 in
set_option maxRecDepth 100000 in
theorem rPart_any (v1 v2 : Value) (b1 b2 n m : Nat) (fs gs : List Int) (w : World) (hn : n ≤ 1000) (hm : m ≤ 1000) (h1 : Prs w b1 v1 n fs) (h2 : Prs w b2 v2 m gs) (hall : ∀ x y, inL fs x y → inL gs x y) :
    Calls Try.prog 16 #[v1, v2] w fun e w' => e = .returned (.bool true) ∧ Kept w w' := by
  have HF := Lib.hid h1.flat
  cases n with
  | zero =>
    obtain ⟨a1, c1, rfl⟩ := prs_zero h1
    clear h1 h2
    go_enter Try.func16, Try.ntmps16
    go_wp2_with fail
    go_loop [5] (fun i => i = .int .i64 0) (fun _ => 0)
    case atStart => rfl
    case round =>
      obtain rfl := hrel
      go_wp2_with fail
      go_ret
      exact ⟨rfl, kept_refl _⟩
  | succ n =>
    obtain ⟨g1, c1, rfl, _, _⟩ := h1.form (by omega)
    have IN : Hid (∀ k, k < n + 1 → inL gs (fs.getD (k * 2) 0) (fs.getD (k * 2 + 1) 0)) := Lib.hid (fun k hk => hall _ _ ⟨k, by rw [HF.out]; omega, rfl, rfl⟩)
    clear hall
    go_enter Try.func16, Try.ntmps16
    go_wp2_with fail
    go_loopw [5] (fun z wr => ∃ k : Nat, k ≤ n + 1 ∧ z = .int .i64 k ∧ Hid (Prs wr b1 (.slice (some ⟨g1, 0, none⟩) (n + 1) c1) (n + 1) fs) ∧ Hid (Prs wr b2 v2 m gs) ∧ Hid (Kept w wr)) (fun z _ => n + 1 - (intOf z).toNat)
    case atStart => exact ⟨0, by omega, rfl, Lib.hid h1, Lib.hid h2, Lib.hid (kept_refl _)⟩
    case round =>
      obtain ⟨k, hk, rfl, G1, G2, GB⟩ := hrel
      by_cases h : k < n + 1
      · have hki : (k : Int) < (n : Int) + 1 := by omega
        have hk0 : (0 : Int) ≤ (k : Int) := by omega
        have RG := Lib.hid (G1.out.loadable k h)
        have YES := Lib.hid (IN.out k h)
        generalize fs.getD (k * 2) 0 = x at *
        generalize fs.getD (k * 2 + 1) 0 = y at *
        have RI := Lib.hid (rIn_any v2 b2 m gs x y wr hm G2.out)
        go_wp2_with (refine wpList_load_mid rfl 44 _ rfl g1 (k * 2) rfl (ints [x, y]) _ RG.out Try.underlying44 rfl (by kernel_rfl) ?_)
        refine RI.out.mono ?_
        rintro e w2 ⟨⟨t, rfl, ht⟩, b2'⟩
        obtain rfl : t = true := ht.2 YES.out
        have G3 := Lib.hid (G1.out.below b2')
        have G4 := Lib.hid (G2.out.below b2')
        have GB2 := Lib.hid (GB.out.call b2')
        clear b2' G1 G2 GB ht RG
        go_wp2_with fail
        go_roundw
        case rel => exact ⟨k + 1, by omega, by go_num, G3, G4, GB2⟩
        case measure => simp [intOf]; omega
      · obtain rfl : k = n + 1 := by omega
        go_wp2_with fail
        go_ret
        exact ⟨rfl, GB.out⟩
end Go.Proofs.Ytlbofgjgmignhaa.base
