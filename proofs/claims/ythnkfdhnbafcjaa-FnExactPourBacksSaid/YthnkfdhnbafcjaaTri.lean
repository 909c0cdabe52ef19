/-
  Rows of sources that are the call's own, and the law's own helpers for them, walked.
-/
import Derived.Test.YthnkfdhnbafcjaaMarkF
import Derived.Test.YthnkfdhnbafcjaaGrid
import Derived.Test.YthnkfdhnbafcjaaRackOps
namespace Go.Proofs.Ythnkfdhnbafcjaa.base
open Go.ChangeShapes Go.WideShapes Go.ChangeAt Go.RowKit
set_option linter.unusedVariables false
set_option linter.unusedSimpArgs false

/-- v is an own row of n sources, flat fs. -/
def Tri (w : World) (b : Nat) (v : Value) (n : Nat) (fs : List Int) : Prop := w.ownsRow b 32 3 v n (ints fs)
section
variable {w w' : World} {b n : Nat} {v : Value} {fs : List Int}
theorem Tri.below (h : Tri w b v n fs) (m : Below w.heap.size w w') : Tri w' b v n fs :=
  World.ownsRow.kept (row := none) h ⟨m.os, m.tape, m.output, m.size, fun j hj _ => m.block j hj⟩ (by cases v.ownBlock <;> simp)
theorem Tri.drewN (h : Tri w b v n fs) (k : Nat) : Tri (w.drewN k) b v n fs := h
theorem Tri.alloc (h : Tri w b v n fs) (o : Obj) : Tri (w.alloc o) b v n fs := World.ownsRow.alloc h o
theorem Tri.form (h : Tri w b v n fs) (hn : 0 < n) : ∃ g cap, v = .slice (some ⟨g, 0, Option.none⟩) n cap ∧ b ≤ g ∧ g < w.heap.size := by
  rcases h.2 with ⟨_, h0⟩ | ⟨g, cap, cur, hv, hb, hg, _⟩
  · omega
  · exact ⟨g, cap, hv, hb, lt_of_block hg⟩
theorem Tri.zero (h : Tri w b v 0 fs) : ∃ a cap, v = .slice a 0 cap := by
  rcases h.2 with ⟨h0, _⟩ | ⟨g, cap, cur, hv, _⟩
  · exact ⟨_, _, h0⟩
  · exact ⟨_, _, hv⟩
theorem Tri.flat (h : Tri w b v n fs) : fs.length = n * 3 := by have := h.1; rwa [ints_len] at this
theorem Tri.cell {g cap : Nat} (h : Tri w b (.slice (some ⟨g, 0, Option.none⟩) n cap) n fs) (j : Nat) (hj : j < n * 3) : w.cell? ⟨g, j, Option.none⟩ = some (.int .i64 (fs.getD j 0)) := by
  rw [World.ownsRow.cellAt h j hj]; exact ints_get _ _ (by rw [h.flat]; exact hj)
def tr3 (fs : List Int) (k : Nat) : List Int := (fs.drop (k * 3)).take 3
theorem tr3_len (fs : List Int) (k n : Nat) (h : fs.length = n * 3) (hk : k < n) : (tr3 fs k).length = 3 := by
  unfold tr3; rw [List.length_take, List.length_drop]; omega
theorem Tri.range {g cap : Nat} (h : Tri w b (.slice (some ⟨g, 0, Option.none⟩) n cap) n fs) (k : Nat) (hk : k < n) : w.rangeAt g (k * 3) (ints (tr3 fs k)) := by
  intro j v hv
  have hl := tr3_len fs k n h.flat hk
  have hj : j < 3 := by
    rcases Nat.lt_or_ge j 3 with h1 | h1
    · exact h1
    · rw [List.getElem?_eq_none (by rw [ints_len, hl]; exact h1)] at hv; cases hv
  rw [h.cell (k * 3 + j) (by omega), ← hv, ints_get _ _ (by rw [hl]; exact hj)]
  unfold tr3
  rw [List.getD_eq_getElem?_getD, List.getD_eq_getElem?_getD, List.getElem?_take, if_pos hj, List.getElem?_drop]
theorem Tri.grownP (h : Tri w b v n fs) {r : Option Nat} (hg : w.grownBy w' r) (hr : ∀ k, r = some k → w.heap.size ≤ k ∨ v.ownBlock ≠ some k) : Tri w' b v n fs := by
  refine World.ownsRow.kept (row := r) h hg ?_
  cases hv : v.ownBlock with
  | none => exact .inl rfl
  | some k =>
    right
    intro e
    rcases hr k e.symm with h1 | h1
    · exact absurd (World.ownsRow.lt h k hv).2 (by omega)
    · exact h1 hv
theorem Tri.stored {g cap : Nat} (h : Tri w b (.slice (some ⟨g, 0, Option.none⟩) n cap) n fs) (j : Nat) (z : Int) : Tri (w.setCell ⟨g, j, Option.none⟩ (.int .i64 z)) b (.slice (some ⟨g, 0, Option.none⟩) n cap) n (fs.set j z) ∧ w.grownBy (w.setCell ⟨g, j, Option.none⟩ (.int .i64 z)) (some g) := by
  obtain ⟨a1, a2⟩ := World.ownsRow.stored h j (.int .i64 z)
  rw [ints_set] at a1
  exact ⟨a1, a2⟩
theorem Tri.storedAs {g cap : Nat} (h : Tri w b (.slice (some ⟨g, 0, Option.none⟩) n cap) n fs) (j : Nat) (z : Int) {fs' : List Int} (e : fs.set j z = fs') : Tri (w.setCell ⟨g, j, Option.none⟩ (.int .i64 z)) b (.slice (some ⟨g, 0, Option.none⟩) n cap) n fs' ∧ w.grownBy (w.setCell ⟨g, j, Option.none⟩ (.int .i64 z)) (some g) := e ▸ h.stored j z
theorem Tri.freeAt {g cap : Nat} (h : Tri w b (.slice (some ⟨g, 0, Option.none⟩) n cap) n fs) (j : Nat) : w.frozen? ⟨g, j, Option.none⟩ = false := World.ownsRow.frozenAt h j
theorem grown_trans {a b c : World} {g : Nat} (h : a.grownBy b (some g)) (k : b.grownBy c (some g)) : a.grownBy c (some g) :=
  ⟨k.os.trans h.os, k.tape.trans h.tape, k.output.trans h.output, Nat.le_trans h.size k.size, fun i hi hn => (k.block i (Nat.lt_of_lt_of_le hi h.size) hn).trans (h.block i hi hn)⟩
theorem grown_self (w : World) (r : Option Nat) : w.grownBy w r := ⟨rfl, rfl, rfl, Nat.le_refl _, fun _ _ _ => rfl⟩
theorem Gr.toTri {ls : List (List Int)} (h : Gr w b 32 3 v ls) : Tri w b v ls.length ls.flatten := h.row
end

theorem len3 {t : List Int} (h : t.length = 3) : ∃ a b c, t = [a, b, c] := by
  match t, h with
  | [a, b, c], _ => exact ⟨a, b, c, rfl⟩

set_option maxHeartbeats 400000 in
theorem eqSource_same (t : List Int) (w : World) (h : t.length = 3) :
    Calls Try.prog 42 #[.agg (ints t).toArray, .agg (ints t).toArray] w fun e w' => e = .returned (.bool true) ∧ Below w.heap.size w w' := by
  obtain ⟨a, b, c, rfl⟩ := len3 h
  show Calls Try.prog 42 #[.agg #[.int .i64 a, .int .i64 b, .int .i64 c], .agg #[.int .i64 a, .int .i64 b, .int .i64 c]] w _
  go_enter Try.func42, Try.ntmps42
  go_wp2_with fail
  go_ret
  exact ⟨rfl, ((kept_refl w).alloc _).alloc _⟩

set_option maxHeartbeats 1600000 in
set_option maxRecDepth 100000 in
theorem eqSourceS_same (v1 v2 : Value) (b1 b2 n : Nat) (fs : List Int) (w : World) (hn : n ≤ 1048576) (h1 : Tri w b1 v1 n fs) (h2 : Tri w b2 v2 n fs) :
    Calls Try.prog 17 #[v1, v2] w fun e w' => e = .returned (.bool true) ∧ Kept w w' := by
  cases n with
  | zero =>
    obtain ⟨a1, c1, rfl⟩ := h1.zero
    obtain ⟨a2, c2, rfl⟩ := h2.zero
    clear h1 h2
    go_enter Try.func17, Try.ntmps17
    go_wp2_with fail
    go_loop [5] (fun i => i = .int .i64 0) (fun _ => 0)
    case atStart => rfl
    case round =>
      obtain rfl := hrel
      go_wp2_with fail
      go_ret
      exact ⟨rfl, kept_refl _⟩
  | succ n =>
    obtain ⟨g1, c1, rfl, _, _⟩ := h1.form (by omega)
    obtain ⟨g2, c2, rfl, _, _⟩ := h2.form (by omega)
    have HF := Lib.hid h1.flat
    go_enter Try.func17, Try.ntmps17
    go_wp2_with fail
    go_loopw [5] (fun z wr => ∃ k : Nat, k ≤ n + 1 ∧ z = .int .i64 k ∧ Hid (Tri wr b1 (.slice (some ⟨g1, 0, none⟩) (n + 1) c1) (n + 1) fs) ∧ Hid (Tri wr b2 (.slice (some ⟨g2, 0, none⟩) (n + 1) c2) (n + 1) fs) ∧ Hid (Kept w wr)) (fun z _ => n + 1 - (intOf z).toNat)
    case atStart => exact ⟨0, by omega, rfl, Lib.hid h1, Lib.hid h2, Lib.hid (kept_refl _)⟩
    case round =>
      obtain ⟨k, hk, rfl, G1, G2, GB⟩ := hrel
      by_cases h : k < n + 1
      · have hki : (k : Int) < (n : Int) + 1 := by omega
        have hk0 : (0 : Int) ≤ (k : Int) := by omega
        have hl := tr3_len fs k (n + 1) HF.out h
        have l1 : (ints (tr3 fs k)).length = 3 := by rw [ints_len]; exact hl
        have hi1 : (Try.prog.info? 32).map (·.size) = some (ints (tr3 fs k)).length := by rw [l1]; kernel_rfl
        go_wp2_with fail
        refine wp_region_held_drew (S := fun w' => Tri w' b1 (.slice (some ⟨g1, 0, none⟩) (n + 1) c1) (n + 1) fs ∧ Tri w' b2 (.slice (some ⟨g2, 0, none⟩) (n + 1) c2) (n + 1) fs ∧ Kept w w') (by kernel_rfl) ?_ (fun hHeld => ?_)
        · exact ⟨G1.out.drewN 1, G2.out.drewN 1, GB.out.drewN 1⟩
        (refine wpAnyH_take (i := 0) (v := ?_) rfl (by kernel_rfl) (by kernel_rfl) (by kernel_rfl) (fun _ _ _ h => h) (Or.inl ⟨by rfl, ?_⟩) hHeld ?_; rotate_left; (· (intro w' hSw; go_simp; try with_reducible rfl)); (try simp only [List.getElem_toArray, List.getElem_cons_zero, List.getElem_cons_succ, Act.put, List.setIfInBounds_toArray, List.set_cons_zero, List.set_cons_succ])); (refine wpAnyH_take (i := 1) (v := ?_) rfl (by kernel_rfl) (by kernel_rfl) (by kernel_rfl) (fun _ _ _ h => h) (Or.inl ⟨by rfl, ?_⟩) hHeld ?_; rotate_left; (· (intro w' hSw; go_simp; try with_reducible rfl)); (try simp only [List.getElem_toArray, List.getElem_cons_zero, List.getElem_cons_succ, Act.put, List.setIfInBounds_toArray, List.set_cons_zero, List.set_cons_succ])); (refine wpAnyH_take (i := 2) (v := ?_) rfl (by kernel_rfl) (by kernel_rfl) (by kernel_rfl) (fun _ _ _ h => h) (Or.inl ⟨by rfl, ?_⟩) hHeld ?_; rotate_left; (· (intro w' hSw; go_simp; try with_reducible rfl)); (try simp only [List.getElem_toArray, List.getElem_cons_zero, List.getElem_cons_succ, Act.put, List.setIfInBounds_toArray, List.set_cons_zero, List.set_cons_succ])); (refine wpAnyH_take (i := 4) (v := ?_) rfl (by kernel_rfl) (by kernel_rfl) (by kernel_rfl) (fun _ _ _ h => h) (Or.inl ⟨by rfl, ?_⟩) hHeld ?_; rotate_left; (· (intro w' hSw; go_simp; try with_reducible rfl)); (try simp only [List.getElem_toArray, List.getElem_cons_zero, List.getElem_cons_succ, Act.put, List.setIfInBounds_toArray, List.set_cons_zero, List.set_cons_succ])); (refine wpAnyH_take (i := 5) (v := ?_) rfl (by kernel_rfl) (by kernel_rfl) (by kernel_rfl) (fun _ _ _ h => h) (Or.inl ⟨by rfl, ?_⟩) hHeld ?_; rotate_left; (· (intro w' hSw; go_simp; try with_reducible rfl)); (try simp only [List.getElem_toArray, List.getElem_cons_zero, List.getElem_cons_succ, Act.put, List.setIfInBounds_toArray, List.set_cons_zero, List.set_cons_succ])); (refine wpAnyH_take (i := 6) (v := ?_) rfl (by kernel_rfl) (by kernel_rfl) (by kernel_rfl) (fun _ _ _ h => h) (Or.inl ⟨by rfl, ?_⟩) hHeld ?_; rotate_left; (· (intro w' hSw; go_simp; try with_reducible rfl)); (try simp only [List.getElem_toArray, List.getElem_cons_zero, List.getElem_cons_succ, Act.put, List.setIfInBounds_toArray, List.set_cons_zero, List.set_cons_succ]))
        (refine wpAnyH_take (i := 3) (v := _) rfl (by kernel_rfl) (by kernel_rfl) (by kernel_rfl) (fun _ _ _ h => h) (yieldsIf_load_mid (by rfl) 32 _ rfl _ _ rfl (ints (tr3 fs k)) _ (fun w' hSw => hSw.1.range k h) Try.underlying32 rfl (hi1)) hHeld ?_; (try simp only [List.getElem_toArray, List.getElem_cons_zero, List.getElem_cons_succ, Act.put, List.setIfInBounds_toArray, List.set_cons_zero, List.set_cons_succ]))
        (refine wpAnyH_take (i := 7) (v := _) rfl (by kernel_rfl) (by kernel_rfl) (by kernel_rfl) (fun _ _ _ h => h) (yieldsIf_load_mid (by rfl) 32 _ rfl _ _ rfl (ints (tr3 fs k)) _ (fun w' hSw => hSw.2.1.range k h) Try.underlying32 rfl (hi1)) hHeld ?_; (try simp only [List.getElem_toArray, List.getElem_cons_zero, List.getElem_cons_succ, Act.put, List.setIfInBounds_toArray, List.set_cons_zero, List.set_cons_succ]))
        (refine wpAnyH_ready (rs := [8]) (by kernel_rfl) (by simp) ?_; refine AllReadyH.cons (o := _) rfl (fun K hK => ?_) AllReadyH.nil; (simp only [List.getElem_toArray, List.getElem_cons_zero, List.getElem_cons_succ, Region.wanted, if_true]))
        go_simp
        refine (eqSource_same (tr3 fs k) _ hl).mono ?_
        rintro e w1 ⟨rfl, b1'⟩
        have G3 := hHeld.1.below b1'
        have G4 := hHeld.2.1.below b1'
        have GB2 := hHeld.2.2.call b1'
        dsimp only
        (try simp only [List.getElem_toArray, List.getElem_cons_zero, List.getElem_cons_succ, Act.put, List.setIfInBounds_toArray, List.set_cons_zero, List.set_cons_succ])
        refine hK.out _ _ ⟨G3, G4, GB2⟩ (fun hHeld => ?_)
        clear hK K
        (refine wpAnyH_take (i := 9) (v := ?_) rfl (by kernel_rfl) (by kernel_rfl) (by kernel_rfl) (fun _ _ _ h => h) (Or.inl ⟨by rfl, ?_⟩) hHeld ?_; rotate_left; (· (intro w' hSw; go_simp; try with_reducible rfl)); (try simp only [List.getElem_toArray, List.getElem_cons_zero, List.getElem_cons_succ, Act.put, List.setIfInBounds_toArray, List.set_cons_zero, List.set_cons_succ]))
        refine wpAnyH_done (by kernel_rfl) ?_ _
        have GB3 := Lib.hid GB2
        have G5 := Lib.hid G3
        have G6 := Lib.hid G4
        clear hHeld GB2 b1' G1 G2 GB hi1 l1 G3 G4
        go_wp2_with fail
        go_roundw
        case rel => exact ⟨k + 1, by omega, by go_num, G5, G6, GB3⟩
        case measure => simp [intOf]; omega
      · obtain rfl : k = n + 1 := by omega
        go_wp2_with fail
        go_ret
        exact ⟨rfl, GB.out⟩

set_option maxHeartbeats 1600000 in
theorem markSourceS_any (b : Nat) (v : Value) (n K : Nat) (fs : List Int) (w : World) (hn : n ≤ 1000) (hK : K ≤ 1000) (h : Tri w b v n fs) :
    Calls Try.prog 18 #[v, .int .i64 (K : Int)] w fun e w' => e = .returned (.int .i64 ((K + n * 3 : Nat) : Int)) ∧ Tri w' b v n (markF K (n * 3) fs) ∧ w.grownBy w' v.ownBlock := by
  cases n with
  | zero =>
    obtain ⟨a, c, hv⟩ := h.zero
    have HH := Lib.hid h
    clear h
    subst hv
    go_enter Try.func18, Try.ntmps18
    go_wp2_with fail
    go_loop [1, 5] (fun q i => i = .int .i64 0 ∧ q = .int .i64 (K : Int)) (fun _ _ => 0)
    case atStart => exact ⟨rfl, rfl⟩
    case round =>
      obtain ⟨rfl, rfl⟩ := hrel
      go_wp2_with fail
      go_ret
      refine ⟨rfl, ?_, grown_self _ _⟩
      rw [show markF K 0 fs = fs from markF_zero K fs]; exact HH.out
  | succ n =>
    obtain ⟨g, c, rfl, _, _⟩ := h.form (by omega)
    have HL := Lib.hid h.flat
    have HH := Lib.hid h
    clear h
    go_enter Try.func18, Try.ntmps18
    go_wp2_with fail
    go_loopg [1, 5] (n + 1) (fun gk q i wr => ∃ p : Nat, gk = n + 1 - p ∧ p ≤ n + 1 ∧ i = .int .i64 p ∧ q = .int .i64 ((K + p * 3 : Nat) : Int) ∧ Hid (Tri wr b (.slice (some ⟨g, 0, none⟩) (n + 1) c) (n + 1) (markF K (p * 3) fs)) ∧ Hid (w.grownBy wr (some g)))
    case atStart => exact ⟨0, rfl, by omega, rfl, by simp, Lib.hid (by rw [Nat.zero_mul, markF_zero]; exact HH.out), Lib.hid (grown_self _ _)⟩
    case round =>
      obtain ⟨p, rfl, hp, rfl, rfl, GP, GG⟩ := hrel
      by_cases hlt : p < n + 1
      · have hpi : (p : Int) < (n : Int) + 1 := by omega
        obtain ⟨z0, hz0⟩ : ∃ z : Int, ((K + p * 3 : Nat) : Int) = z := ⟨_, rfl⟩
        have c0 := GP.out.cell (p * 3) (by omega)
        have f0 := GP.out.freeAt (p * 3)
        obtain ⟨T1, g1⟩ := GP.out.storedAs (p * 3) z0 (fs' := markF K (p * 3 + 1) fs) (by rw [← hz0]; exact markF_set K _ fs (by rw [HL.out]; omega))
        have c1 := T1.cell (p * 3 + 1) (by omega)
        have f1 := T1.freeAt (p * 3 + 1)
        obtain ⟨T2, g2⟩ := T1.storedAs (p * 3 + 1) (z0 + 1) (fs' := markF K (p * 3 + 1 + 1) fs) (by rw [show z0 + 1 = ((K + (p * 3 + 1) : Nat) : Int) by omega]; exact markF_set K _ fs (by rw [HL.out]; omega))
        have c2 := T2.cell (p * 3 + 2) (by omega)
        have f2 := T2.freeAt (p * 3 + 2)
        obtain ⟨T3, g3⟩ := T2.storedAs (p * 3 + 2) (z0 + 2) (fs' := markF K (p * 3 + 1 + 1 + 1) fs) (by rw [show z0 + 2 = ((K + (p * 3 + 2) : Nat) : Int) by omega]; exact markF_set K _ fs (by rw [HL.out]; omega))
        have hz1 : 0 ≤ z0 := by omega
        have hz2 : z0 ≤ 4003 := by omega
        have hz3 : z0 + 1 + 1 = z0 + 2 := by omega
        have HZ0 := Lib.hid hz0
        rw [hz0]
        have S1 := Lib.hid (show Tri _ b (.slice (some ⟨g, 0, none⟩) (n + 1) c) (n + 1) (markF K ((p + 1) * 3) fs) from (show p * 3 + 1 + 1 + 1 = (p + 1) * 3 by omega) ▸ T3)
        have S2 := Lib.hid (grown_trans (grown_trans (grown_trans GG.out g1) g2) g3)
        have hb : p * 3 ≤ 3000 := by omega
        clear T1 T2 T3 g1 g2 g3 GP GG
        generalize (markF K (p * 3) fs).getD (p * 3) 0 = y0 at *
        generalize (markF K (p * 3 + 1) fs).getD (p * 3 + 1) 0 = y1 at *
        generalize (markF K (p * 3 + 1 + 1) fs).getD (p * 3 + 2) 0 = y2 at *
        clear hz0
        go_wp2_with fail
        go_roundg (n + 1 - (p + 1))
        case rel => exact ⟨p + 1, rfl, by omega, by go_num, by have := HZ0.out; go_num, S1, S2⟩
        case measure => omega
      · obtain rfl : p = n + 1 := by omega
        go_wp2_with fail
        go_ret
        exact ⟨rfl, GP.out, GG.out⟩

set_option maxHeartbeats 1600000 in
theorem heldSourceS_any (b : Nat) (v : Value) (n K : Nat) (fs : List Int) (w : World) (hn : n ≤ 1000) (hK : K ≤ 1000) (h : Tri w b v n (markF K (n * 3) fs)) :
    Calls Try.prog 19 #[v, .int .i64 (K : Int)] w fun e w' => e = .returned (.int .i64 ((K + n * 3 : Nat) : Int)) ∧ w' = w := by
  cases n with
  | zero =>
    obtain ⟨a, c, hv⟩ := h.zero
    clear h
    subst hv
    go_enter Try.func19, Try.ntmps19
    go_wp2_with fail
    go_loop [1, 5] (fun q i => i = .int .i64 0 ∧ q = .int .i64 (K : Int)) (fun _ _ => 0)
    case atStart => exact ⟨rfl, rfl⟩
    case round =>
      obtain ⟨rfl, rfl⟩ := hrel
      go_wp2_with fail
      go_ret
      exact ⟨rfl, rfl⟩
  | succ n =>
    obtain ⟨g, c, rfl, _, _⟩ := h.form (by omega)
    have HH := Lib.hid h
    clear h
    go_enter Try.func19, Try.ntmps19
    go_wp2_with fail
    go_loopg [1, 5] (n + 1) (fun gk q i wr => ∃ p : Nat, gk = n + 1 - p ∧ p ≤ n + 1 ∧ i = .int .i64 p ∧ q = .int .i64 ((K + p * 3 : Nat) : Int) ∧ w = wr)
    case atStart => exact ⟨0, rfl, by omega, rfl, by simp, rfl⟩
    case round =>
      obtain ⟨p, rfl, hp, rfl, rfl, rfl⟩ := hrel
      by_cases hlt : p < n + 1
      · have hpi : (p : Int) < (n : Int) + 1 := by omega
        have c0 := HH.out.cell (p * 3) (by omega)
        rw [markF_get K _ _ fs (by omega)] at c0
        have c1 := HH.out.cell (p * 3 + 1) (by omega)
        rw [markF_get K _ _ fs (by omega)] at c1
        have c2 := HH.out.cell (p * 3 + 2) (by omega)
        rw [markF_get K _ _ fs (by omega)] at c2
        go_wp2_with fail
        go_roundg (n + 1 - (p + 1))
        case rel => exact ⟨p + 1, rfl, by omega, by go_num, by go_num, rfl⟩
        case measure => omega
      · obtain rfl : p = n + 1 := by omega
        go_wp2_with fail
        go_ret
        exact ⟨rfl, rfl⟩
end Go.Proofs.Ythnkfdhnbafcjaa.base
