/-
  The law's own helpers for rows of pairs, walked over rows that hold their cells alone.
-/
import Derived.Test.YtpbfdjiglacbbabRw
namespace Go.Proofs.Ytpbfdjiglacbbab.base
open Go.ChangeShapes Go.WideShapes Go.ChangeAt Go.RowKit
set_option linter.unusedVariables false
set_option linter.unusedSimpArgs false

/-- What is written lies in the row alone. -/
def GrR (w w' : World) (b : Nat) (v : Value) (n : Nat) : Prop := ∃ r, w.grownBy w' r ∧ ∀ k, r = some k → b ≤ k ∧ v.ownBlock = some k ∧ 0 < n
theorem Rw.ownlt {w : World} {b n : Nat} {v : Value} {fs : List Int} (h : Rw w b v n fs) (hn : 0 < n) : ∀ k, v.ownBlock = some k → b ≤ k ∧ k < w.heap.size := by
  obtain ⟨g, cap, rfl, h1, h2⟩ := h.form hn
  intro k hk
  simp only [Value.ownBlock, Option.some.injEq] at hk
  subst hk; exact ⟨h1, h2⟩
theorem rw_zero {w : World} {b : Nat} {v : Value} {fs : List Int} (h : Rw w b v 0 fs) : ∃ a cap, v = .slice a 0 cap := h.shape
set_option maxHeartbeats 1600000 in
theorem markRw (b : Nat) (v : Value) (n K : Nat) (fs : List Int) (w : World) (hn : n ≤ 1000) (hK : K ≤ 1000) (h : Rw w b v n fs) :
    Calls Try.prog 25 #[v, .int .i64 (K : Int)] w fun e w' => e = .returned (.int .i64 ((K + n * 2 : Nat) : Int)) ∧ Rw w' b v n (markF K (n * 2) fs) ∧ GrR w w' b v n := by
  cases n with
  | zero =>
    obtain ⟨a, c, hv⟩ := rw_zero h
    have HH := Lib.hid h
    clear h
    subst hv
    go_enter Try.func25, Try.ntmps25
    go_wp2_with fail
    go_loop [1, 5, 6] (fun q i j => i = .int .i64 0 ∧ q = .int .i64 (K : Int)) (fun _ _ _ => 0)
    case atStart => exact ⟨rfl, rfl⟩
    case round =>
      obtain ⟨rfl, rfl⟩ := hrel
      go_wp2_with fail
      go_ret
      refine ⟨rfl, ?_, ⟨none, ⟨rfl, rfl, rfl, Nat.le_refl _, fun _ _ _ => rfl⟩, fun k hk => by cases hk⟩⟩
      rw [show markF K 0 fs = fs from markF_zero K fs]; exact HH.out
  | succ n =>
    obtain ⟨g, c, rfl, hbg, _⟩ := h.form (by omega)
    have HBG := Lib.hid hbg
    clear hbg
    have HL := Lib.hid h.flat
    have HH := Lib.hid h
    clear h
    go_enter Try.func25, Try.ntmps25
    go_wp2_with fail
    go_loopg [1, 5, 6] (n + 1) (fun gk q i j wr => ∃ p : Nat, gk = n + 1 - p ∧ p ≤ n + 1 ∧ i = .int .i64 p ∧ q = .int .i64 ((K + p * 2 : Nat) : Int) ∧ Hid (Rw wr b (.slice (some ⟨g, 0, none⟩) (n + 1) c) (n + 1) (markF K (p * 2) fs)) ∧ Hid (w.grownBy wr (some g)))
    case atStart => exact ⟨0, rfl, by omega, rfl, by simp, Lib.hid (by rw [Nat.zero_mul, markF_zero]; exact HH.out), Lib.hid ⟨rfl, rfl, rfl, Nat.le_refl _, fun _ _ _ => rfl⟩⟩
    case round =>
      obtain ⟨p, rfl, hp, rfl, rfl, GP, GG⟩ := hrel
      by_cases hlt : p < n + 1
      · have hpi : (p : Int) < (n : Int) + 1 := by omega
        go_wp2_with fail
        go_loopg [1, 6] 2 (fun gk q j wr => ∃ z : Nat, gk = 2 - z ∧ z ≤ 2 ∧ j = .int .i64 z ∧ q = .int .i64 ((K + (p * 2 + z) : Nat) : Int) ∧ Hid (Rw wr b (.slice (some ⟨g, 0, none⟩) (n + 1) c) (n + 1) (markF K (p * 2 + z) fs)) ∧ Hid (w.grownBy wr (some g)))
        case atStart => exact ⟨0, rfl, by omega, rfl, by simp, GP, GG⟩
        case round =>
          obtain ⟨z, rfl, hz, rfl, rfl, KP, KG⟩ := hrel
          by_cases hz2 : z < 2
          · have hzi : (z : Int) < 2 := by omega
            have c0 := KP.out.cell (p * 2 + z) (by omega)
            have f0 := KP.out.freeAt (by omega) (p * 2 + z) (by omega)
            have st := KP.out.stored (p * 2 + z) (by omega) ((K + (p * 2 + z) : Nat) : Int)
            have e : (markF K (p * 2 + z) fs).set (p * 2 + z) ((K + (p * 2 + z) : Nat) : Int) = markF K (p * 2 + z + 1) fs := markF_set K _ fs (by rw [HL.out]; omega)
            rw [e] at st
            clear e
            have S1 := Lib.hid st.1
            have S2 := Lib.hid (show w.grownBy _ (some g) from ⟨st.2.os.trans KG.out.os, st.2.tape.trans KG.out.tape, st.2.output.trans KG.out.output, Nat.le_trans KG.out.size st.2.size, fun i hi hn => (st.2.block i (Nat.lt_of_lt_of_le hi KG.out.size) hn).trans (KG.out.block i hi hn)⟩)
            clear st
            generalize (markF K (p * 2 + z) fs).getD (p * 2 + z) 0 = y at *
            go_wp2_with fail
            go_roundg (2 - (z + 1))
            case rel => exact ⟨z + 1, rfl, by omega, by go_num, by go_num, S1, S2⟩
            case measure => omega
          · obtain rfl : z = 2 := by omega
            have E : p * 2 + 2 = (p + 1) * 2 := by omega
            rw [E] at KP
            go_wp2_with fail
            go_roundg (n + 1 - (p + 1))
            case rel => exact ⟨p + 1, rfl, by omega, by go_num, by rw [← E], KP, KG⟩
            case measure => omega
      · obtain rfl : p = n + 1 := by omega
        go_wp2_with fail
        go_ret
        exact ⟨rfl, GP.out, ⟨some g, GG.out, fun k hk => by injection hk with hk; subst hk; exact ⟨HBG.out, rfl, by omega⟩⟩⟩

set_option maxHeartbeats 1600000 in
theorem heldRw (b : Nat) (v : Value) (n K : Nat) (fs : List Int) (w : World) (hn : n ≤ 1000) (hK : K ≤ 1000) (h : Rw w b v n (markF K (n * 2) fs)) :
    Calls Try.prog 26 #[v, .int .i64 (K : Int)] w fun e w' => e = .returned (.int .i64 ((K + n * 2 : Nat) : Int)) ∧ w' = w := by
  cases n with
  | zero =>
    obtain ⟨a, c, hv⟩ := rw_zero h
    clear h
    subst hv
    go_enter Try.func26, Try.ntmps26
    go_wp2_with fail
    go_loop [1, 5, 6] (fun q i j => i = .int .i64 0 ∧ q = .int .i64 (K : Int)) (fun _ _ _ => 0)
    case atStart => exact ⟨rfl, rfl⟩
    case round =>
      obtain ⟨rfl, rfl⟩ := hrel
      go_wp2_with fail
      go_ret
      exact ⟨rfl, rfl⟩
  | succ n =>
    obtain ⟨g, c, rfl, _, _⟩ := h.form (by omega)
    have HH := Lib.hid h
    clear h
    go_enter Try.func26, Try.ntmps26
    go_wp2_with fail
    go_loopg [1, 5, 6] (n + 1) (fun gk q i j wr => ∃ p : Nat, gk = n + 1 - p ∧ p ≤ n + 1 ∧ i = .int .i64 p ∧ q = .int .i64 ((K + p * 2 : Nat) : Int) ∧ w = wr)
    case atStart => exact ⟨0, rfl, by omega, rfl, by simp, rfl⟩
    case round =>
      obtain ⟨p, rfl, hp, rfl, rfl, rfl⟩ := hrel
      by_cases hlt : p < n + 1
      · have hpi : (p : Int) < (n : Int) + 1 := by omega
        go_wp2_with fail
        go_loopg [1, 6] 2 (fun gk q j wr => ∃ z : Nat, gk = 2 - z ∧ z ≤ 2 ∧ j = .int .i64 z ∧ q = .int .i64 ((K + (p * 2 + z) : Nat) : Int) ∧ w = wr)
        case atStart => exact ⟨0, rfl, by omega, rfl, by simp, rfl⟩
        case round =>
          obtain ⟨z, rfl, hz, rfl, rfl, rfl⟩ := hrel
          by_cases hz2 : z < 2
          · have hzi : (z : Int) < 2 := by omega
            have c0 := HH.out.cell (p * 2 + z) (by omega)
            rw [markF_get K _ _ fs (by omega)] at c0
            go_wp2_with fail
            go_roundg (2 - (z + 1))
            case rel => exact ⟨z + 1, rfl, by omega, by go_num, by go_num, rfl⟩
            case measure => omega
          · obtain rfl : z = 2 := by omega
            have E : p * 2 + 2 = (p + 1) * 2 := by omega
            go_wp2_with fail
            go_roundg (n + 1 - (p + 1))
            case rel => exact ⟨p + 1, rfl, by omega, by go_num, by rw [← E], rfl⟩
            case measure => omega
      · obtain rfl : p = n + 1 := by omega
        go_wp2_with fail
        go_ret
        exact ⟨rfl, rfl⟩
set_option maxHeartbeats 1600000 in
set_option maxRecDepth 100000 in
theorem eqRw_same (v1 v2 : Value) (b1 b2 n : Nat) (fs : List Int) (w : World) (hn : n ≤ 1048576) (h1 : Rw w b1 v1 n fs) (h2 : Rw w b2 v2 n fs) :
    Calls Try.prog 22 #[v1, v2] w fun e w' => e = .returned (.bool true) ∧ Kept w w' := by
  cases n with
  | zero =>
    obtain ⟨a1, c1, rfl⟩ := rw_zero h1
    obtain ⟨a2, c2, rfl⟩ := rw_zero h2
    clear h1 h2
    go_enter Try.func22, Try.ntmps22
    go_wp2_with fail
    go_loop [5] (fun i => i = .int .i64 0) (fun _ => 0)
    case atStart => rfl
    case round =>
      obtain rfl := hrel
      go_wp2_with fail
      go_ret
      exact ⟨rfl, kept_refl _⟩
  | succ n =>
    obtain ⟨g1, c1, rfl, _, _⟩ := h1.form (by omega)
    obtain ⟨g2, c2, rfl, _, _⟩ := h2.form (by omega)
    have HF := Lib.hid h1.flat
    go_enter Try.func22, Try.ntmps22
    go_wp2_with fail
    go_loopw [5] (fun z wr => ∃ k : Nat, k ≤ n + 1 ∧ z = .int .i64 k ∧ Hid (Rw wr b1 (.slice (some ⟨g1, 0, none⟩) (n + 1) c1) (n + 1) fs) ∧ Hid (Rw wr b2 (.slice (some ⟨g2, 0, none⟩) (n + 1) c2) (n + 1) fs) ∧ Hid (Kept w wr)) (fun z _ => n + 1 - (intOf z).toNat)
    case atStart => exact ⟨0, by omega, rfl, Lib.hid h1, Lib.hid h2, Lib.hid (kept_refl _)⟩
    case round =>
      obtain ⟨k, hk, rfl, G1, G2, GB⟩ := hrel
      by_cases h : k < n + 1
      · have hki : (k : Int) < (n : Int) + 1 := by omega
        have hk0 : (0 : Int) ≤ (k : Int) := by omega
        have hl := pr_len fs k (n + 1) HF.out h
        have l1 : (ints (pr fs k)).length = 2 := by rw [ints_len]; exact hl
        have hi1 : (Try.prog.info? 38).map (·.size) = some (ints (pr fs k)).length := by rw [l1]; kernel_rfl
        go_wp2_with fail
        refine wp_region_held_drew (S := fun w' => Rw w' b1 (.slice (some ⟨g1, 0, none⟩) (n + 1) c1) (n + 1) fs ∧ Rw w' b2 (.slice (some ⟨g2, 0, none⟩) (n + 1) c2) (n + 1) fs ∧ Kept w w') (by kernel_rfl) ?_ (fun hHeld => ?_)
        · exact ⟨G1.out.drewN 1, G2.out.drewN 1, GB.out.drewN 1⟩
        (refine wpAnyH_take (i := 0) (v := ?_) rfl (by kernel_rfl) (by kernel_rfl) (by kernel_rfl) (fun _ _ _ h => h) (Or.inl ⟨by rfl, ?_⟩) hHeld ?_; rotate_left; (· (intro w' hSw; go_simp; try with_reducible rfl)); (try simp only [List.getElem_toArray, List.getElem_cons_zero, List.getElem_cons_succ, Act.put, List.setIfInBounds_toArray, List.set_cons_zero, List.set_cons_succ])); (refine wpAnyH_take (i := 1) (v := ?_) rfl (by kernel_rfl) (by kernel_rfl) (by kernel_rfl) (fun _ _ _ h => h) (Or.inl ⟨by rfl, ?_⟩) hHeld ?_; rotate_left; (· (intro w' hSw; go_simp; try with_reducible rfl)); (try simp only [List.getElem_toArray, List.getElem_cons_zero, List.getElem_cons_succ, Act.put, List.setIfInBounds_toArray, List.set_cons_zero, List.set_cons_succ])); (refine wpAnyH_take (i := 2) (v := ?_) rfl (by kernel_rfl) (by kernel_rfl) (by kernel_rfl) (fun _ _ _ h => h) (Or.inl ⟨by rfl, ?_⟩) hHeld ?_; rotate_left; (· (intro w' hSw; go_simp; try with_reducible rfl)); (try simp only [List.getElem_toArray, List.getElem_cons_zero, List.getElem_cons_succ, Act.put, List.setIfInBounds_toArray, List.set_cons_zero, List.set_cons_succ])); (refine wpAnyH_take (i := 4) (v := ?_) rfl (by kernel_rfl) (by kernel_rfl) (by kernel_rfl) (fun _ _ _ h => h) (Or.inl ⟨by rfl, ?_⟩) hHeld ?_; rotate_left; (· (intro w' hSw; go_simp; try with_reducible rfl)); (try simp only [List.getElem_toArray, List.getElem_cons_zero, List.getElem_cons_succ, Act.put, List.setIfInBounds_toArray, List.set_cons_zero, List.set_cons_succ])); (refine wpAnyH_take (i := 5) (v := ?_) rfl (by kernel_rfl) (by kernel_rfl) (by kernel_rfl) (fun _ _ _ h => h) (Or.inl ⟨by rfl, ?_⟩) hHeld ?_; rotate_left; (· (intro w' hSw; go_simp; try with_reducible rfl)); (try simp only [List.getElem_toArray, List.getElem_cons_zero, List.getElem_cons_succ, Act.put, List.setIfInBounds_toArray, List.set_cons_zero, List.set_cons_succ])); (refine wpAnyH_take (i := 6) (v := ?_) rfl (by kernel_rfl) (by kernel_rfl) (by kernel_rfl) (fun _ _ _ h => h) (Or.inl ⟨by rfl, ?_⟩) hHeld ?_; rotate_left; (· (intro w' hSw; go_simp; try with_reducible rfl)); (try simp only [List.getElem_toArray, List.getElem_cons_zero, List.getElem_cons_succ, Act.put, List.setIfInBounds_toArray, List.set_cons_zero, List.set_cons_succ]))
        (refine wpAnyH_take (i := 3) (v := _) rfl (by kernel_rfl) (by kernel_rfl) (by kernel_rfl) (fun _ _ _ h => h) (yieldsIf_load_mid (by rfl) 38 _ rfl _ _ rfl (ints (pr fs k)) _ (fun w' hSw => hSw.1.range k h) Try.underlying38 rfl (hi1)) hHeld ?_; (try simp only [List.getElem_toArray, List.getElem_cons_zero, List.getElem_cons_succ, Act.put, List.setIfInBounds_toArray, List.set_cons_zero, List.set_cons_succ]))
        (refine wpAnyH_take (i := 7) (v := _) rfl (by kernel_rfl) (by kernel_rfl) (by kernel_rfl) (fun _ _ _ h => h) (yieldsIf_load_mid (by rfl) 38 _ rfl _ _ rfl (ints (pr fs k)) _ (fun w' hSw => hSw.2.1.range k h) Try.underlying38 rfl (hi1)) hHeld ?_; (try simp only [List.getElem_toArray, List.getElem_cons_zero, List.getElem_cons_succ, Act.put, List.setIfInBounds_toArray, List.set_cons_zero, List.set_cons_succ]))
        (refine wpAnyH_ready (rs := [8]) (by kernel_rfl) (by simp) ?_; refine AllReadyH.cons (o := _) rfl (fun K hK => ?_) AllReadyH.nil; (simp only [List.getElem_toArray, List.getElem_cons_zero, List.getElem_cons_succ, Region.wanted, if_true]))
        go_simp
        refine (eqIntA2_same (pr fs k) _ hl).mono ?_
        rintro e w1 ⟨rfl, b1'⟩
        have G3 := hHeld.1.below b1'
        have G4 := hHeld.2.1.below b1'
        have GB2 := hHeld.2.2.call b1'
        dsimp only
        (try simp only [List.getElem_toArray, List.getElem_cons_zero, List.getElem_cons_succ, Act.put, List.setIfInBounds_toArray, List.set_cons_zero, List.set_cons_succ])
        refine hK.out _ _ ⟨G3, G4, GB2⟩ (fun hHeld => ?_)
        clear hK K
        (refine wpAnyH_take (i := 9) (v := ?_) rfl (by kernel_rfl) (by kernel_rfl) (by kernel_rfl) (fun _ _ _ h => h) (Or.inl ⟨by rfl, ?_⟩) hHeld ?_; rotate_left; (· (intro w' hSw; go_simp; try with_reducible rfl)); (try simp only [List.getElem_toArray, List.getElem_cons_zero, List.getElem_cons_succ, Act.put, List.setIfInBounds_toArray, List.set_cons_zero, List.set_cons_succ]))
        refine wpAnyH_done (by kernel_rfl) ?_ _
        have GB3 := Lib.hid GB2
        have G5 := Lib.hid G3
        have G6 := Lib.hid G4
        clear hHeld GB2 b1' G1 G2 GB hi1 l1 G3 G4
        go_wp2_with fail
        go_roundw
        case rel => exact ⟨k + 1, by omega, by go_num, G5, G6, GB3⟩
        case measure => simp [intOf]; omega
      · obtain rfl : k = n + 1 := by omega
        go_wp2_with fail
        go_ret
        exact ⟨rfl, GB.out⟩
end Go.Proofs.Ytpbfdjiglacbbab.base
