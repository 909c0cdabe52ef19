/-
  Runs, bottoms, boundaries, bounds and spare runs, on the model's side, walked.
-/
/-
  Runs, bottoms, boundaries and bounds, on the program's side, walked.
-/
import Derived.Test.YtalngdccjoafhabBndM
import Derived.Test.YtalngdccjoafhabRunsIZ

section
namespace Go.Proofs.Ytalngdccjoafhab.base
open Go.ChangeShapes Go.WideShapes Go.ChangeAt Go.RowKit
set_option linter.unusedVariables false
set_option linter.unusedSimpArgs false

theorem prs_shape {w : World} {b : Nat} {v : Value} {n : Nat} {fs : List Int} (h : Prs w b v n fs) : ∃ a cap, v = .slice a n cap := by
  rcases h.2 with ⟨h0, h1⟩ | ⟨g, cap, cur, h0, _⟩
  · exact ⟨_, _, by rw [h1]; exact h0⟩
  · exact ⟨_, _, h0⟩
theorem idx6 (T : TypeId) (hT : Try.prog.underlying T = some (.array 6 3)) (ns : List Int) (hn : ns.length = 6) (k : Nat) (hk : k < 6) (w : World) : (Instr.index T (.agg (ints ns).toArray) (.int .i64 (k : Nat))).run Try.prog w = .ok (.int .i64 (ns.getD k 0)) w :=
  run_index_int T 3 6 hT Try.underlying3 (fun w => by rw [Try.sizeOf3]) ns hn k hk w
theorem build6 (w : World) : (Instr.build 116 #[]).run Try.prog w = .ok (.agg (ints z6).toArray) w := by kernel_rfl

theorem l1Most_any (a b : Int) (w : World) :
    Calls Try.prog 86 #[.int .i64 a, .int .i64 b] w fun e w' => e = .returned (.int .i64 (max a b)) ∧ w = w' := by
  by_cases h : b < a
  · have e : max a b = a := by omega
    rw [e]
    clear e
    go_enter Try.func86, Try.ntmps86
    go_wp2_with fail
    go_ret
    exact ⟨rfl, rfl⟩
  · have e : max a b = b := by omega
    have q : decide (b < a) = false := by simpa using h
    rw [e]
    clear e h
    go_enter Try.func86, Try.ntmps86
    go_wp2_with fail
    go_ret
    exact ⟨rfl, rfl⟩

set_option maxHeartbeats 400000 in
theorem l6Runs_any (ns : List Int) (w : World) (h24 : ns.length = 24) (hv : vR ns = true) :
    Calls Try.prog 102 #[row ns] w fun e w' => e = .returned (.int .i64 (runUp ns 6 : Nat)) ∧ Kept w w' := by
  have HB := Lib.hid ((kept_refl w).alloc (.cells (ints ns).toArray 30))
  have H := Has.box w 30 h24 (by omega)
  have HU := Lib.hid (runUp_le h24 hv)
  have HN := Lib.hid (fun p hp => nR_le h24 hv p hp)
  rw [row_ints]
  go_enter Try.func102, Try.ntmps102
  go_wp2_with fail
  have H24 := Lib.hid h24
  have HV := Lib.hid hv
  clear h24 hv
  generalize w.alloc (.cells (ints ns).toArray 30) = W at *
  go_loopw [3, 4] (fun m i wr => ∃ p : Nat, p ≤ 6 ∧ i = .int .i64 p ∧ m = .int .i64 (runUp ns p : Nat) ∧ Has wr w.heap.size ns 24 ∧ Hid (Kept w wr)) (fun _ z _ => 6 - (intOf z).toNat)
  case atStart => exact ⟨0, by omega, rfl, rfl, H, HB⟩
  case round =>
    obtain ⟨p, hp, rfl, rfl, G1, GB⟩ := hrel
    by_cases hp6 : p < 6
    · have hpi : (p : Int) < 6 := by omega
      have h4 := tub_len ns p H24.out hp6
      have hvt := vR_tub HV.out p hp6
      have hu := HU.out p (by omega)
      have hn := HN.out p hp6
      have E : Hid (runUp ns (p + 1) = runUp ns p + nR ns p) := Lib.hid rfl
      have EN : Hid (nR ns p = runsN (tub ns p) (lay (tub ns p))) := Lib.hid rfl
      go_wp2_with (refine load_tub rfl 22 _ rfl _ (p) _ rfl ?_ ?_ ?_ ?_ _ Try.underlying22 rfl ?_ ?_; (· (first | rfl | omega)); rotate_left; (· (repeat (first | (with_reducible assumption) | ((with_reducible refine Has.box _ _ ?_ ?_) <;> (first | assumption | decide)) | (with_reducible refine Has.alloc ?_ _) | ((with_reducible refine Has.putOther ?_ _ _ ?_); rotate_left; omega; skip) | ((with_reducible refine Has.below ?_ ?_); rotate_left; assumption)))); (· omega); (· kernel_rfl))
      refine (l2Runs_any (tub ns p) _ h4 hvt).mono ?_
      rintro e w1 ⟨vr, rfl, q1, b1⟩
      rw [← EN.out] at q1
      obtain ⟨a, cap, rfl⟩ := prs_shape q1
      have G2 := G1.below b1
      have GB2 := Lib.hid (GB.out.call b1)
      clear G1 GB b1 q1
      generalize nR ns p = x at *
      generalize runUp ns p = y at *
      go_wp2_with fail
      go_roundw
      case rel => exact ⟨p + 1, by omega, by go_num, by rw [E.out]; go_num, G2, GB2⟩
      case measure => simp [intOf]; omega
    · obtain rfl : p = 6 := by omega
      go_wp2_with fail
      go_ret
      exact ⟨rfl, GB.out⟩

set_option maxHeartbeats 1600000 in
theorem l6Bottoms_any (ns : List Int) (w : World) (h24 : ns.length = 24) (hv : vR ns = true) :
    Calls Try.prog 85 #[row ns] w fun e w' => e = .returned (.agg (ints (botUp ns 6)).toArray) ∧ Kept w w' := by
  have HB := Lib.hid ((((kept_refl w).alloc (.cells (ints ns).toArray 30)).alloc (.cells #[.int .i64 0, .int .i64 0, .int .i64 0, .int .i64 0, .int .i64 0, .int .i64 0] 116)).alloc (.cells #[.int .i64 0, .int .i64 0, .int .i64 0, .int .i64 0, .int .i64 0, .int .i64 0] 116))
  have H := ((Has.box w 30 h24 (by omega)).alloc (.cells #[.int .i64 0, .int .i64 0, .int .i64 0, .int .i64 0, .int .i64 0, .int .i64 0] 116)).alloc (.cells #[.int .i64 0, .int .i64 0, .int .i64 0, .int .i64 0, .int .i64 0, .int .i64 0] 116)
  have Z := ((Has.zero6 (w.alloc (.cells (ints ns).toArray 30)) 116).at (size1 _ _)).alloc (.cells #[.int .i64 0, .int .i64 0, .int .i64 0, .int .i64 0, .int .i64 0, .int .i64 0] 116)
  have Y := (Has.zero6 ((w.alloc (.cells (ints ns).toArray 30)).alloc (.cells #[.int .i64 0, .int .i64 0, .int .i64 0, .int .i64 0, .int .i64 0, .int .i64 0] 116)) 116).at (c := w.heap.size + 1 + 1) (by simp)
  rw [row_ints]
  go_enter Try.func85, Try.ntmps85
  go_wp2_with fail
  have HV := Lib.hid hv
  have HL := Lib.hid h24
  have B0 := Lib.hid (bot0 ns)
  clear hv h24
  generalize (((w.alloc (.cells (ints ns).toArray 30)).alloc (.cells #[.int .i64 0, .int .i64 0, .int .i64 0, .int .i64 0, .int .i64 0, .int .i64 0] 116)).alloc (.cells #[.int .i64 0, .int .i64 0, .int .i64 0, .int .i64 0, .int .i64 0, .int .i64 0] 116)) = W at *
  go_loopg [4] 6 (fun gk i wr => ∃ p : Nat, gk = 6 - p ∧ p ≤ 6 ∧ i = .int .i64 p ∧ Has wr w.heap.size ns 24 ∧ Has wr (w.heap.size + 1 + 1) (botUp ns p) 6 ∧ Has wr (w.heap.size + 1) z6 6 ∧ Hid (Kept w wr))
  case atStart => exact ⟨0, rfl, by omega, rfl, H, by rw [B0.out]; exact Y, Z, HB⟩
  case round =>
    obtain ⟨p, rfl, hp, rfl, GH, GY, GZ, GB⟩ := hrel
    by_cases hp6 : p < 6
    · have hpi : (p : Int) < 6 := by omega
      have c0 := GH.rackCell p 0 hp6 (by omega)
      rw [Nat.add_zero] at c0
      obtain ⟨c, hc6, hce, hcs⟩ := bot_step ns HL.out HV.out p hp6
      rw [hce] at c0
      have cb := (bot_all ns p).2 c
      have c1 := GY.cell c hc6
      have f1 := GY.free c hc6
      have hc6' : (c : Int) < 6 := by omega
      have S1 := GY.set c ((botUp ns p).getD c 0 + 1) hc6
      rw [← hcs] at S1
      have S2 := Lib.hid S1
      have S3 := Lib.hid (GZ.setOther (b' := w.heap.size + 1 + 1) c (.int .i64 ((botUp ns p).getD c 0 + 1)) (by omega))
      have S5 := Lib.hid (GH.setOther (b' := w.heap.size + 1 + 1) c (.int .i64 ((botUp ns p).getD c 0 + 1)) (by omega))
      have S4 := Lib.hid (GB.out.set (b := w.heap.size + 1 + 1) (by omega) c (.int .i64 ((botUp ns p).getD c 0 + 1)))
      have cb0 := cb.1
      have cb1 : (botUp ns p).getD c 0 ≤ 6 := by omega
      clear cb hce hcs S1 GH GY GZ GB
      generalize (botUp ns p).getD c 0 = v at *
      go_wp2_with fail
      go_roundg (6 - (p + 1))
      case rel => exact ⟨p + 1, rfl, by omega, by go_num, S5.out, S2.out, S3.out, S4⟩
      case measure => omega
    · obtain rfl : p = 6 := by omega
      have hl := (bot_all ns 6).1
      have S1 := Lib.hid (GZ.putAll (botUp ns 6) hl)
      have S2 := Lib.hid (GB.out.puts (b := w.heap.size + 1) (by omega) 0 (ints (botUp ns 6)))
      go_wp2_with (first | (refine load_has rfl 116 _ rfl _ rfl ?_ 6 ?_ _ Try.underlying116 rfl ?_ ?_; rotate_left; (· (repeat (first | (with_reducible assumption) | ((with_reducible refine Has.box _ _ ?_ ?_) <;> (first | assumption | decide)) | (with_reducible refine Has.alloc ?_ _) | ((with_reducible refine Has.putOther ?_ _ _ ?_); rotate_left; omega; skip) | ((with_reducible refine Has.below ?_ ?_); rotate_left; assumption)))); (· kernel_rfl)) | (refine store_at rfl 116 _ _ rfl _ _ rfl rfl ?_ 6 ?_ ?_ ?_ ?_; rotate_left; (· (repeat (first | (with_reducible assumption) | ((with_reducible refine Has.box _ _ ?_ ?_) <;> (first | assumption | decide)) | (with_reducible refine Has.alloc ?_ _) | ((with_reducible refine Has.putOther ?_ _ _ ?_); rotate_left; omega; skip) | ((with_reducible refine Has.below ?_ ?_); rotate_left; assumption)))); (· (first | assumption | rfl)); (· kernel_rfl)))
      exact bodyPost_ret (res_has rfl _ _ (w.heap.size + 1) (botUp ns 6) 6 _ rfl S1.out Try.underlying116 rfl (by kernel_rfl)) rfl ⟨rfl, S2.out⟩

set_option maxHeartbeats 1600000 in
set_option maxRecDepth 100000 in
theorem l6Boundaries_any (ns : List Int) (w : World) (h24 : ns.length = 24) (hv : vR ns = true) :
    Calls Try.prog 84 #[row ns] w fun e w' => e = .returned (.int .i64 (edgeN ns)) ∧ Kept w w' := by
  have HB := Lib.hid ((kept_refl w).alloc (.cells (ints ns).toArray 30))
  have H := Has.box w 30 h24 (by omega)
  have hu := runUp_le h24 hv 6 (Nat.le_refl _)
  have hb := (bot_all ns 6).2 0
  have hl := (bot_all ns 6).1
  obtain ⟨x, hx⟩ : ∃ x, x = (botUp ns 6).getD 0 0 := ⟨_, rfl⟩
  have IX : Hid (∀ w, (Instr.index 116 (.agg (ints (botUp ns 6)).toArray) (.int .i64 0)).run Try.prog w = .ok (.int .i64 ((botUp ns 6).getD 0 0)) w) := Lib.hid (fun w => idx6 116 Try.underlying116 (botUp ns 6) hl 0 (by omega) w)
  have E : Hid (edgeN ns = (runUp ns 6 : Nat) - 6 + (botUp ns 6).getD 0 0) := Lib.hid rfl
  rw [← hx] at IX E hb
  clear hx
  have hi1 : (Try.prog.info? 30).map (·.size) = some (ints ns).length := by rw [ints_len, h24]; kernel_rfl
  rw [row_ints]
  go_enter Try.func84, Try.ntmps84
  go_wp2_with fail
  have HV := Lib.hid hv
  have H24 := Lib.hid h24
  clear hv h24
  refine wp_region_held_drew (S := fun w' => Has w' w.heap.size ns 24 ∧ Kept w w') (by kernel_rfl) ?_ (fun hHeld => ?_)
  · exact ⟨H.drew, HB.out.drewN 1⟩
  generalize World.drew _ = WD at *
  (refine wpAnyH_take (i := 0) (v := _) rfl (by kernel_rfl) (by kernel_rfl) (by kernel_rfl) (fun _ _ _ h => h) (yieldsIf_load_mid (by rfl) 30 _ rfl _ _ rfl (ints ns) _ (fun w' hSw => hSw.1.holds.range) Try.underlying30 rfl (hi1)) hHeld ?_; (try simp only [List.getElem_toArray, List.getElem_cons_zero, List.getElem_cons_succ, Act.put, List.setIfInBounds_toArray, List.set_cons_zero, List.set_cons_succ]))
  (refine wpAnyH_take (i := 3) (v := _) rfl (by kernel_rfl) (by kernel_rfl) (by kernel_rfl) (fun _ _ _ h => h) (yieldsIf_load_mid (by rfl) 30 _ rfl _ _ rfl (ints ns) _ (fun w' hSw => hSw.1.holds.range) Try.underlying30 rfl (hi1)) hHeld ?_; (try simp only [List.getElem_toArray, List.getElem_cons_zero, List.getElem_cons_succ, Act.put, List.setIfInBounds_toArray, List.set_cons_zero, List.set_cons_succ]))
  (refine wpAnyH_ready (rs := [1]) (by kernel_rfl) (by simp) ?_; refine AllReadyH.cons (o := _) rfl (fun K hK => ?_) AllReadyH.nil; (simp only [List.getElem_toArray, List.getElem_cons_zero, List.getElem_cons_succ, Region.wanted, if_true]))
  go_simp
  refine (l6Runs_any ns _ H24.out HV.out).mono ?_
  rintro e wA ⟨rfl, bq⟩
  dsimp only
  (try simp only [List.getElem_toArray, List.getElem_cons_zero, List.getElem_cons_succ, Act.put, List.setIfInBounds_toArray, List.set_cons_zero, List.set_cons_succ])
  refine hK.out _ _ ⟨hHeld.1.below bq, hHeld.2.call bq⟩ (fun hHeld => ?_)
  clear hK K bq
  generalize runUp ns 6 = y at *
  have W1 : IntKind.i64.wrap ((y : Int) - 6) = (y : Int) - 6 := IntWalk.i64_in _ (by omega)
  have W2 : IntKind.i64.wrap ((y : Int) - 6 + x) = (y : Int) - 6 + x := IntWalk.i64_in _ (by omega)
  (refine wpAnyH_take (i := 2) (v := ?_) rfl (by kernel_rfl) (by kernel_rfl) (by kernel_rfl) (fun _ _ _ h => h) (Or.inl ⟨by rfl, ?_⟩) hHeld ?_; rotate_left; (· (intro w' hSw; go_simp; try with_reducible rfl)); (try simp only [List.getElem_toArray, List.getElem_cons_zero, List.getElem_cons_succ, Act.put, List.setIfInBounds_toArray, List.set_cons_zero, List.set_cons_succ]))
  (refine wpAnyH_ready (rs := [4]) (by kernel_rfl) (by simp) ?_; refine AllReadyH.cons (o := _) rfl (fun K hK => ?_) AllReadyH.nil; (simp only [List.getElem_toArray, List.getElem_cons_zero, List.getElem_cons_succ, Region.wanted, if_true]))
  go_simp
  refine (l6Bottoms_any ns _ H24.out HV.out).mono ?_
  rintro e wB ⟨rfl, bq⟩
  dsimp only
  (try simp only [List.getElem_toArray, List.getElem_cons_zero, List.getElem_cons_succ, Act.put, List.setIfInBounds_toArray, List.set_cons_zero, List.set_cons_succ])
  refine hK.out _ _ ⟨hHeld.1.below bq, hHeld.2.call bq⟩ (fun hHeld => ?_)
  clear hK K bq
  (refine wpAnyH_take (i := 5) (v := .int .i64 x) rfl (by kernel_rfl) (by kernel_rfl) (by kernel_rfl) (fun _ _ _ h => h) (Or.inl ⟨by rfl, ?_⟩) hHeld ?_; (· (intro w' hSw; have q := IX.out w'; clear hSw; go_simp; try with_reducible rfl)); (try simp only [List.getElem_toArray, List.getElem_cons_zero, List.getElem_cons_succ, Act.put, List.setIfInBounds_toArray, List.set_cons_zero, List.set_cons_succ]))
  (refine wpAnyH_take (i := 6) (v := ?_) rfl (by kernel_rfl) (by kernel_rfl) (by kernel_rfl) (fun _ _ _ h => h) (Or.inl ⟨by rfl, ?_⟩) hHeld ?_; rotate_left; (· (intro w' hSw; go_simp; try with_reducible rfl)); (try simp only [List.getElem_toArray, List.getElem_cons_zero, List.getElem_cons_succ, Act.put, List.setIfInBounds_toArray, List.set_cons_zero, List.set_cons_succ])); (refine wpAnyH_take (i := 7) (v := ?_) rfl (by kernel_rfl) (by kernel_rfl) (by kernel_rfl) (fun _ _ _ h => h) (Or.inl ⟨by rfl, ?_⟩) hHeld ?_; rotate_left; (· (intro w' hSw; go_simp; try with_reducible rfl)); (try simp only [List.getElem_toArray, List.getElem_cons_zero, List.getElem_cons_succ, Act.put, List.setIfInBounds_toArray, List.set_cons_zero, List.set_cons_succ]))
  refine wpAnyH_done (by kernel_rfl) ?_ _
  have GB2 := Lib.hid hHeld.2
  clear hHeld
  go_wp2_with fail
  go_ret
  exact ⟨ret_int (by rw [E.out]), GB2.out⟩

set_option maxHeartbeats 1600000 in
set_option maxRecDepth 100000 in
theorem l6Bound_any (ns : List Int) (w : World) (h24 : ns.length = 24) (hv : vR ns = true) :
    Calls Try.prog 55 #[row ns] w fun e w' => e = .returned (.int .i64 (bndN ns)) ∧ Kept w w' := by
  have HB := Lib.hid ((kept_refl w).alloc (.cells (ints ns).toArray 30))
  have H := Has.box w 30 h24 (by omega)
  have hl := (bot_all ns 6).1
  have HC := Lib.hid (bot_all ns 6).2
  have HI := Lib.hid (bnd_in h24 hv)
  have hi1 : (Try.prog.info? 30).map (·.size) = some (ints ns).length := by rw [ints_len, h24]; kernel_rfl
  have hi6 : (Try.prog.info? 116).map (·.size) = some 6 := by kernel_rfl
  have l2 : (ints (botUp ns 6)).length = 6 := by rw [ints_len]; exact hl
  rw [row_ints]
  go_enter Try.func55, Try.ntmps55
  go_wp2_with fail
  have HV := Lib.hid hv
  have H24 := Lib.hid h24
  clear hv h24
  refine wp_region_held_drew (S := fun w' => Has w' w.heap.size ns 24 ∧ Kept w w') (by kernel_rfl) ?_ (fun hHeld => ?_)
  · exact ⟨H.drew, HB.out.drewN 1⟩
  generalize World.drew _ = WD at *
  (refine wpAnyH_take (i := 0) (v := _) rfl (by kernel_rfl) (by kernel_rfl) (by kernel_rfl) (fun _ _ _ h => h) (yieldsIf_load_mid (by rfl) 30 _ rfl _ _ rfl (ints ns) _ (fun w' hSw => hSw.1.holds.range) Try.underlying30 rfl (hi1)) hHeld ?_; (try simp only [List.getElem_toArray, List.getElem_cons_zero, List.getElem_cons_succ, Act.put, List.setIfInBounds_toArray, List.set_cons_zero, List.set_cons_succ]))
  (refine wpAnyH_take (i := 2) (v := _) rfl (by kernel_rfl) (by kernel_rfl) (by kernel_rfl) (fun _ _ _ h => h) (yieldsIf_load_mid (by rfl) 30 _ rfl _ _ rfl (ints ns) _ (fun w' hSw => hSw.1.holds.range) Try.underlying30 rfl (hi1)) hHeld ?_; (try simp only [List.getElem_toArray, List.getElem_cons_zero, List.getElem_cons_succ, Act.put, List.setIfInBounds_toArray, List.set_cons_zero, List.set_cons_succ]))
  refine wpAnyH_ready (rs := [1, 4]) (by kernel_rfl) (by simp) ?_
  refine AllReadyH.cons (o := _) rfl (fun K hK => ?_) (AllReadyH.cons (o := _) rfl (fun K hK => ?_) AllReadyH.nil)
  (simp only [List.getElem_toArray, List.getElem_cons_zero, List.getElem_cons_succ, Region.wanted, if_true])
  go_simp
  refine (l6Boundaries_any ns _ H24.out HV.out).mono ?_
  rintro e wA ⟨rfl, bq⟩
  dsimp only
  (try simp only [List.getElem_toArray, List.getElem_cons_zero, List.getElem_cons_succ, Act.put, List.setIfInBounds_toArray, List.set_cons_zero, List.set_cons_succ])
  refine hK.out _ _ ⟨hHeld.1.below bq, hHeld.2.call bq⟩ (fun hHeld => ?_)
  clear hK K
  clear bq
  refine wpAnyH_ready (rs := [3, 4]) (by kernel_rfl) (by simp) ?_
  refine AllReadyH.cons (o := _) rfl (fun K hK => ?_) (AllReadyH.cons (o := _) rfl (fun K hK => ?_) AllReadyH.nil)
  (simp only [List.getElem_toArray, List.getElem_cons_zero, List.getElem_cons_succ, Region.wanted, if_true])
  go_simp
  refine (l6Bottoms_any ns _ H24.out HV.out).mono ?_
  rintro e wB ⟨rfl, bq⟩
  dsimp only
  (try simp only [List.getElem_toArray, List.getElem_cons_zero, List.getElem_cons_succ, Act.put, List.setIfInBounds_toArray, List.set_cons_zero, List.set_cons_succ])
  refine hK.out _ _ ⟨hHeld.1.below bq, hHeld.2.call bq⟩ (fun hHeld => ?_)
  clear hK K
  clear bq
  (refine wpAnyH_ready (rs := [4]) (by kernel_rfl) (by simp) ?_; refine AllReadyH.cons (o := _) rfl (fun K hK => ?_) AllReadyH.nil; (simp only [List.getElem_toArray, List.getElem_cons_zero, List.getElem_cons_succ, Region.wanted, if_true]))
  go_simp
  have lZ := hHeld.1.lt
  have lB := hHeld.2.size
  have ZZ := Has.zero6 wB 116
  refine hK.out _ _ ⟨hHeld.1.alloc _, hHeld.2.alloc _⟩ (fun hHeld => ?_)
  clear hK K
  generalize wB.alloc (.cells #[.int .i64 0, .int .i64 0, .int .i64 0, .int .i64 0, .int .i64 0, .int .i64 0] 116) = WZ at *
  generalize wB.heap.size = bz at *
  rotate_left
  (simp only [List.getElem_toArray, List.getElem_cons_zero, List.getElem_cons_succ, Region.wanted, if_true])
  go_simp
  have lZ := hHeld.1.lt
  have lB := hHeld.2.size
  have ZZ := Has.zero6 wA 116
  refine hK.out _ _ ⟨hHeld.1.alloc _, hHeld.2.alloc _⟩ (fun hHeld => ?_)
  clear hK K
  generalize wA.alloc (.cells #[.int .i64 0, .int .i64 0, .int .i64 0, .int .i64 0, .int .i64 0, .int .i64 0] 116) = WZ at *
  generalize wA.heap.size = bz at *
  (refine wpAnyH_ready (rs := [3]) (by kernel_rfl) (by simp) ?_; refine AllReadyH.cons (o := _) rfl (fun K hK => ?_) AllReadyH.nil; (simp only [List.getElem_toArray, List.getElem_cons_zero, List.getElem_cons_succ, Region.wanted, if_true]))
  go_simp
  refine (l6Bottoms_any ns _ H24.out HV.out).mono ?_
  rintro e wB ⟨rfl, bq⟩
  dsimp only
  (try simp only [List.getElem_toArray, List.getElem_cons_zero, List.getElem_cons_succ, Act.put, List.setIfInBounds_toArray, List.set_cons_zero, List.set_cons_succ])
  refine hK.out _ _ ⟨hHeld.1.below bq, hHeld.2.call bq⟩ (fun hHeld => ?_)
  clear hK K
  replace ZZ := ZZ.below bq
  clear bq
  rotate_left
  (simp only [List.getElem_toArray, List.getElem_cons_zero, List.getElem_cons_succ, Region.wanted, if_true])
  go_simp
  have lZ := hHeld.1.lt
  have lB := hHeld.2.size
  have ZZ := Has.zero6 WD 116
  refine hK.out _ _ ⟨hHeld.1.alloc _, hHeld.2.alloc _⟩ (fun hHeld => ?_)
  clear hK K
  generalize WD.alloc (.cells #[.int .i64 0, .int .i64 0, .int .i64 0, .int .i64 0, .int .i64 0, .int .i64 0] 116) = WZ at *
  generalize WD.heap.size = bz at *
  (refine wpAnyH_ready (rs := [1]) (by kernel_rfl) (by simp) ?_; refine AllReadyH.cons (o := _) rfl (fun K hK => ?_) AllReadyH.nil; (simp only [List.getElem_toArray, List.getElem_cons_zero, List.getElem_cons_succ, Region.wanted, if_true]))
  go_simp
  refine (l6Boundaries_any ns _ H24.out HV.out).mono ?_
  rintro e wA ⟨rfl, bq⟩
  dsimp only
  (try simp only [List.getElem_toArray, List.getElem_cons_zero, List.getElem_cons_succ, Act.put, List.setIfInBounds_toArray, List.set_cons_zero, List.set_cons_succ])
  refine hK.out _ _ ⟨hHeld.1.below bq, hHeld.2.call bq⟩ (fun hHeld => ?_)
  clear hK K
  replace ZZ := ZZ.below bq
  clear bq
  (refine wpAnyH_ready (rs := [3]) (by kernel_rfl) (by simp) ?_; refine AllReadyH.cons (o := _) rfl (fun K hK => ?_) AllReadyH.nil; (simp only [List.getElem_toArray, List.getElem_cons_zero, List.getElem_cons_succ, Region.wanted, if_true]))
  go_simp
  refine (l6Bottoms_any ns _ H24.out HV.out).mono ?_
  rintro e wB ⟨rfl, bq⟩
  dsimp only
  (try simp only [List.getElem_toArray, List.getElem_cons_zero, List.getElem_cons_succ, Act.put, List.setIfInBounds_toArray, List.set_cons_zero, List.set_cons_succ])
  refine hK.out _ _ ⟨hHeld.1.below bq, hHeld.2.call bq⟩ (fun hHeld => ?_)
  clear hK K
  replace ZZ := ZZ.below bq
  clear bq
  rotate_left
  all_goals
    clear H HB
    (refine wpAnyH_take (i := 5) (v := ?_) rfl (by kernel_rfl) (by kernel_rfl) (by kernel_rfl) (fun _ _ _ h => h) (Or.inl ⟨by rfl, ?_⟩) hHeld ?_; rotate_left; (· (intro w' hSw; go_simp; try with_reducible rfl)); (try simp only [List.getElem_toArray, List.getElem_cons_zero, List.getElem_cons_succ, Act.put, List.setIfInBounds_toArray, List.set_cons_zero, List.set_cons_succ]))
    (refine wpAnyH_ready (rs := [6]) (by kernel_rfl) (by simp) ?_; refine AllReadyH.cons (o := _) rfl (fun K hK => ?_) AllReadyH.nil; (simp only [List.getElem_toArray, List.getElem_cons_zero, List.getElem_cons_succ, Region.wanted, if_true]))
    refine wp_store_mid _ _ _ rfl _ _ (ints (botUp ns 6)).toArray rfl rfl (by simpa [l2] using ZZ.there) (by simpa [l2] using hi6) (all_oneCell_toArray (ints_one _)) ?_
    (try simp only [List.getElem_toArray, List.getElem_cons_zero, List.getElem_cons_succ, Act.put, List.setIfInBounds_toArray, List.set_cons_zero, List.set_cons_succ, List.toList_toArray])
    have G1 := hHeld.1.putOther (b' := bz) 0 (ints (botUp ns 6)) (by omega)
    have GB := hHeld.2.puts (b := bz) (by omega) 0 (ints (botUp ns 6))
    have GZ := ZZ.putAll (botUp ns 6) hl
    refine hK.out _ _ ⟨G1, GB⟩ (fun hHeld => ?_)
    clear hK K
    refine wpAnyH_done (by kernel_rfl) ?_ _
    have GB2 := Lib.hid GB
    clear hHeld GB G1 ZZ
    generalize World.setCells _ bz 0 (ints (botUp ns 6)) = WS at *
    go_wp2_with fail
    go_loop [3, 5] (fun m i => ∃ c : Nat, c ≤ 5 ∧ i = .int .i64 ((c + 1 : Nat) : Int) ∧ m = .int .i64 (bndUp ns c)) (fun _ z => 6 - (intOf z).toNat)
    case atStart => exact ⟨0, by omega, rfl, rfl⟩
    case round =>
      obtain ⟨c, hc, rfl, rfl⟩ := hrel
      by_cases hc5 : c < 5
      · have hci : ((c + 1 : Nat) : Int) ≤ 5 := by omega
        have hc0 := GZ.cell (c + 1) (by omega)
        have hcc := HC.out (c + 1)
        have hbb := HI.out c
        have EB : Hid (bndUp ns (c + 1) = bndUp ns c + max ((botUp ns 6).getD (c + 1) 0 - 1) 0) := Lib.hid rfl
        generalize (botUp ns 6).getD (c + 1) 0 = x at *
        generalize bndUp ns c = y at *
        go_wp2_with fail
        refine (l1Most_any _ _ _).mono ?_
        rintro e w' ⟨rfl, rfl⟩
        have em : max (0 : Int) (x - 1) = max (x - 1) 0 := by omega
        rw [em]
        have hm : 0 ≤ max (x - 1) 0 ∧ max (x - 1) 0 ≤ 5 := by omega
        generalize max (x - 1) 0 = z at *
        clear em
        go_wp2_with fail
        go_round
        case rel => exact ⟨c + 1, by omega, by go_num, by rw [EB.out]⟩
        case measure => simp [intOf]; omega
      · obtain rfl : c = 5 := by omega
        go_wp2_with fail
        go_ret
        exact ⟨rfl, GB2.out⟩

end Go.Proofs.Ytalngdccjoafhab.base
end

section
namespace Go.Proofs.Ytalngdccjoafhab.base
open Go.ChangeShapes Go.WideShapes Go.ChangeAt Go.RowKit
set_option linter.unusedVariables false
set_option linter.unusedSimpArgs false

set_option maxHeartbeats 1600000 in
theorem implCountRuns (ns : List Int) (w : World) (h24 : ns.length = 24) :
    Calls Try.prog 104 #[row ns] w fun e w' => e = .returned (.tuple #[.int .i64 (runsA ns), .bool (vR ns)]) ∧ Kept w w' := by
  have HB := Lib.hid ((kept_refl w).alloc (.cells (ints ns).toArray 30))
  have H := Has.box w 30 h24 (by omega)
  rw [row_ints]
  go_enter Try.func104, Try.ntmps104
  go_wp2_with (refine load_has rfl 30 _ rfl _ rfl ?_ 24 ?_ _ Try.underlying30 rfl ?_ ?_; rotate_left; (· (repeat (first | (with_reducible assumption) | ((with_reducible refine Has.box _ _ ?_ ?_) <;> (first | assumption | decide)) | (with_reducible refine Has.alloc ?_ _) | ((with_reducible refine Has.putOther ?_ _ _ ?_); rotate_left; omega; skip) | ((with_reducible refine Has.below ?_ ?_); rotate_left; assumption)))); (· kernel_rfl))
  refine (isRack_any ns _ h24).mono ?_
  rintro e w1 ⟨rfl, b1⟩
  have H1 := H.below b1
  have HB1 := Lib.hid (HB.out.call b1)
  clear H HB b1
  by_cases hv : vR ns = true
  · rw [hv]
    have HU := Lib.hid (runUp_le h24 hv)
    have HN := Lib.hid (fun p hp => nR_le h24 hv p hp)
    have HV := Lib.hid hv
    have H24 := Lib.hid h24
    have E := Lib.hid (show runsA ns = (runUp ns 6 : Nat) by unfold runsA; rw [if_pos hv])
    clear hv
    go_wp2_with (refine load_has rfl 23 _ rfl _ rfl ?_ 24 ?_ _ Try.underlying23 rfl ?_ ?_; rotate_left; (· (repeat (first | (with_reducible assumption) | ((with_reducible refine Has.box _ _ ?_ ?_) <;> (first | assumption | decide)) | (with_reducible refine Has.alloc ?_ _) | ((with_reducible refine Has.putOther ?_ _ _ ?_); rotate_left; omega; skip) | ((with_reducible refine Has.below ?_ ?_); rotate_left; assumption)))); (· kernel_rfl))
    clear h24 H1
    go_loopw [4, 12] (fun m i wr => ∃ p : Nat, p ≤ 6 ∧ i = .int .i64 p ∧ m = .int .i64 (runUp ns p : Nat) ∧ Hid (Kept w wr)) (fun _ z _ => 6 - (intOf z).toNat)
    case atStart => exact ⟨0, by omega, rfl, rfl, HB1⟩
    case round =>
      obtain ⟨p, hp, rfl, rfl, GB⟩ := hrel
      by_cases hp6 : p < 6
      · have hpi : (p : Int) < 6 := by omega
        have h4 := tub_len ns p H24.out hp6
        have hvt := vR_tub HV.out p hp6
        have hu := HU.out p (by omega)
        have hn := HN.out p hp6
        have ER : Hid (runUp ns (p + 1) = runUp ns p + nR ns p) := Lib.hid rfl
        have EN : Hid (nR ns p = runsN (tub ns p) (lay (tub ns p))) := Lib.hid rfl
        have g0 := indexTub ns p hp6
        have HT := Has.box wr 22 h4 (by omega)
        have GB2 := Lib.hid (GB.out.alloc (.cells (ints (tub ns p)).toArray 22))
        clear GB
        go_wp2_with (first | (refine store_new rfl 22 _ _ rfl _ _ _ rfl _ rfl _ rfl rfl ?_ ?_ ?_; (· (first | assumption | rfl)); (· kernel_rfl)) | (refine load_has rfl 22 _ rfl _ rfl ?_ 4 ?_ _ Try.underlying22 rfl ?_ ?_; rotate_left; (· (repeat (first | (with_reducible assumption) | ((with_reducible refine Has.box _ _ ?_ ?_) <;> (first | assumption | decide)) | (with_reducible refine Has.alloc ?_ _) | ((with_reducible refine Has.putOther ?_ _ _ ?_); rotate_left; omega; skip) | ((with_reducible refine Has.below ?_ ?_); rotate_left; assumption)))); (· kernel_rfl)))
        refine (runs_any (tub ns p) _ h4 hvt).mono ?_
        rintro e w2 ⟨vr, rfl, q1, b2⟩
        rw [← EN.out] at q1
        obtain ⟨a, cap, rfl⟩ := prs_shape q1
        have GB3 := Lib.hid (GB2.out.call b2)
        clear g0 HT GB2 b2 q1
        generalize nR ns p = x at *
        generalize runUp ns p = y at *
        go_wp2_with fail
        go_roundw
        case rel => exact ⟨p + 1, by omega, by go_num, by rw [ER.out]; go_num, GB3⟩
        case measure => simp [intOf]; omega
      · obtain rfl : p = 6 := by omega
        go_wp2_with fail
        go_ret2
        exact ⟨by rw [E.out, HV.out]; rfl, GB.out⟩
  · have hf : vR ns = false := by simpa using hv
    have E := Lib.hid (show runsA ns = 0 by unfold runsA; rw [if_neg hv])
    rw [hf]
    have HV := Lib.hid hf
    clear hf hv
    go_wp2_with fail
    go_ret2
    exact ⟨by rw [E.out, HV.out]; rfl, HB1.out⟩

set_option maxHeartbeats 1600000 in
theorem implBottoms (ns : List Int) (w : World) (h24 : ns.length = 24) :
    Calls Try.prog 89 #[row ns] w fun e w' => e = .returned (.tuple #[.agg (ints (botA ns)).toArray, .bool (vR ns)]) ∧ Kept w w' := by
  have HB := Lib.hid ((((kept_refl w).alloc (.cells (ints ns).toArray 30)).alloc (.cells #[.int .i64 0, .int .i64 0, .int .i64 0, .int .i64 0, .int .i64 0, .int .i64 0] 116)).alloc (.cells #[.int .i64 0, .int .i64 0, .int .i64 0, .int .i64 0, .int .i64 0, .int .i64 0] 116))
  have H := ((Has.box w 30 h24 (by omega)).alloc (.cells #[.int .i64 0, .int .i64 0, .int .i64 0, .int .i64 0, .int .i64 0, .int .i64 0] 116)).alloc (.cells #[.int .i64 0, .int .i64 0, .int .i64 0, .int .i64 0, .int .i64 0, .int .i64 0] 116)
  have Z := ((Has.zero6 (w.alloc (.cells (ints ns).toArray 30)) 116).at (size1 _ _)).alloc (.cells #[.int .i64 0, .int .i64 0, .int .i64 0, .int .i64 0, .int .i64 0, .int .i64 0] 116)
  have Y := (Has.zero6 ((w.alloc (.cells (ints ns).toArray 30)).alloc (.cells #[.int .i64 0, .int .i64 0, .int .i64 0, .int .i64 0, .int .i64 0, .int .i64 0] 116)) 116).at (c := w.heap.size + 1 + 1) (by simp)
  rw [row_ints]
  go_enter Try.func89, Try.ntmps89
  go_wp2_with (refine load_has rfl 30 _ rfl _ rfl ?_ 24 ?_ _ Try.underlying30 rfl ?_ ?_; rotate_left; (· (repeat (first | (with_reducible assumption) | ((with_reducible refine Has.box _ _ ?_ ?_) <;> (first | assumption | decide)) | (with_reducible refine Has.alloc ?_ _) | ((with_reducible refine Has.putOther ?_ _ _ ?_); rotate_left; omega; skip) | ((with_reducible refine Has.below ?_ ?_); rotate_left; assumption)))); (· kernel_rfl))
  refine (isRack_any ns _ h24).mono ?_
  rintro e w1 ⟨rfl, b1⟩
  have H1 := H.below b1
  have Z1 := Z.below b1
  have Y1 := Y.below b1
  have HB1 := Lib.hid (HB.out.call b1)
  have B0 := Lib.hid (bot0 ns)
  clear H HB Z Y b1
  by_cases hv : vR ns = true
  · rw [hv]
    have HV := Lib.hid hv
    have HL := Lib.hid h24
    have E := Lib.hid (show botA ns = botUp ns 6 by unfold botA; rw [if_pos hv])
    clear hv h24
    go_wp2_with fail
    go_loopg [11] 6 (fun gk i wr => ∃ p : Nat, gk = 6 - p ∧ p ≤ 6 ∧ i = .int .i64 p ∧ Has wr w.heap.size ns 24 ∧ Has wr (w.heap.size + 1 + 1) (botUp ns p) 6 ∧ Has wr (w.heap.size + 1) z6 6 ∧ Hid (Kept w wr))
    case atStart => exact ⟨0, rfl, by omega, rfl, H1, by rw [B0.out]; exact Y1, Z1, HB1⟩
    case round =>
      obtain ⟨p, rfl, hp, rfl, GH, GY, GZ, GB⟩ := hrel
      by_cases hp6 : p < 6
      · have hpi : (p : Int) < 6 := by omega
        have c0 := GH.rackCell p 0 hp6 (by omega)
        rw [Nat.add_zero] at c0
        obtain ⟨c, hc6, hce, hcs⟩ := bot_step ns HL.out HV.out p hp6
        rw [hce] at c0
        have cb := (bot_all ns p).2 c
        have c1 := GY.cell c hc6
        have f1 := GY.free c hc6
        have hc6' : (c : Int) < 6 := by omega
        have S1 := GY.set c ((botUp ns p).getD c 0 + 1) hc6
        rw [← hcs] at S1
        have S2 := Lib.hid S1
        have S3 := Lib.hid (GZ.setOther (b' := w.heap.size + 1 + 1) c (.int .i64 ((botUp ns p).getD c 0 + 1)) (by omega))
        have S5 := Lib.hid (GH.setOther (b' := w.heap.size + 1 + 1) c (.int .i64 ((botUp ns p).getD c 0 + 1)) (by omega))
        have S4 := Lib.hid (GB.out.set (b := w.heap.size + 1 + 1) (by omega) c (.int .i64 ((botUp ns p).getD c 0 + 1)))
        have cb0 := cb.1
        have cb1 : (botUp ns p).getD c 0 ≤ 6 := by omega
        clear cb hce hcs S1 GH GY GZ GB
        generalize (botUp ns p).getD c 0 = v at *
        go_wp2_with fail
        go_roundg (6 - (p + 1))
        case rel => exact ⟨p + 1, rfl, by omega, by go_num, S5.out, S2.out, S3.out, S4⟩
        case measure => omega
      · obtain rfl : p = 6 := by omega
        have hl := (bot_all ns 6).1
        have S1 := Lib.hid (GZ.putAll (botUp ns 6) hl)
        have S2 := Lib.hid (GB.out.puts (b := w.heap.size + 1) (by omega) 0 (ints (botUp ns 6)))
        go_wp2_with (first | (refine load_has rfl 116 _ rfl _ rfl ?_ 6 ?_ _ Try.underlying116 rfl ?_ ?_; rotate_left; (· (repeat (first | (with_reducible assumption) | ((with_reducible refine Has.box _ _ ?_ ?_) <;> (first | assumption | decide)) | (with_reducible refine Has.alloc ?_ _) | ((with_reducible refine Has.putOther ?_ _ _ ?_); rotate_left; omega; skip) | ((with_reducible refine Has.below ?_ ?_); rotate_left; assumption)))); (· kernel_rfl)) | (refine store_at rfl 116 _ _ rfl _ _ rfl rfl ?_ 6 ?_ ?_ ?_ ?_; rotate_left; (· (repeat (first | (with_reducible assumption) | ((with_reducible refine Has.box _ _ ?_ ?_) <;> (first | assumption | decide)) | (with_reducible refine Has.alloc ?_ _) | ((with_reducible refine Has.putOther ?_ _ _ ?_); rotate_left; omega; skip) | ((with_reducible refine Has.below ?_ ?_); rotate_left; assumption)))); (· (first | assumption | rfl)); (· kernel_rfl)))
        exact bodyPost_ret (res_has1 rfl _ _ (w.heap.size + 1) (botUp ns 6) 6 _ (.bool true) rfl rfl S1.out Try.underlying116 rfl (by kernel_rfl)) rfl ⟨by rw [E.out, HV.out], S2.out⟩
  · have hf : vR ns = false := by simpa using hv
    have E := Lib.hid (show botA ns = z6 by unfold botA; rw [if_neg hv])
    rw [hf]
    have HF := Lib.hid hf
    clear hf hv
    have S1 := Lib.hid (Z1.putAll z6 rfl)
    have S2 := Lib.hid (HB1.out.puts (b := w.heap.size + 1) (by omega) 0 (ints z6))
    have hz : z6.length = 6 := rfl
    go_wp2_with (first | (refine load_has rfl 116 _ rfl _ rfl ?_ 6 ?_ _ Try.underlying116 rfl ?_ ?_; rotate_left; (· (repeat (first | (with_reducible assumption) | ((with_reducible refine Has.box _ _ ?_ ?_) <;> (first | assumption | decide)) | (with_reducible refine Has.alloc ?_ _) | ((with_reducible refine Has.putOther ?_ _ _ ?_); rotate_left; omega; skip) | ((with_reducible refine Has.below ?_ ?_); rotate_left; assumption)))); (· kernel_rfl)) | (refine store_at rfl 116 _ _ rfl _ _ rfl rfl ?_ 6 ?_ ?_ ?_ ?_; rotate_left; (· (repeat (first | (with_reducible assumption) | ((with_reducible refine Has.box _ _ ?_ ?_) <;> (first | assumption | decide)) | (with_reducible refine Has.alloc ?_ _) | ((with_reducible refine Has.putOther ?_ _ _ ?_); rotate_left; omega; skip) | ((with_reducible refine Has.below ?_ ?_); rotate_left; assumption)))); (· (first | assumption | rfl)); (· kernel_rfl)))
    exact bodyPost_ret (res_has1 rfl _ _ (w.heap.size + 1) z6 6 _ (.bool false) rfl rfl S1.out Try.underlying116 rfl (by kernel_rfl)) rfl ⟨by rw [E.out, HF.out], S2.out⟩

set_option maxHeartbeats 1600000 in
theorem implEdges (ns : List Int) (w : World) (h24 : ns.length = 24) :
    Calls Try.prog 88 #[row ns] w fun e w' => e = .returned (.tuple #[.int .i64 (edgeA ns), .bool (vR ns)]) ∧ Kept w w' := by
  have HB := Lib.hid ((kept_refl w).alloc (.cells (ints ns).toArray 30))
  have H := Has.box w 30 h24 (by omega)
  rw [row_ints]
  go_enter Try.func88, Try.ntmps88
  go_wp2_with (refine load_has rfl 30 _ rfl _ rfl ?_ 24 ?_ _ Try.underlying30 rfl ?_ ?_; rotate_left; (· (repeat (first | (with_reducible assumption) | ((with_reducible refine Has.box _ _ ?_ ?_) <;> (first | assumption | decide)) | (with_reducible refine Has.alloc ?_ _) | ((with_reducible refine Has.putOther ?_ _ _ ?_); rotate_left; omega; skip) | ((with_reducible refine Has.below ?_ ?_); rotate_left; assumption)))); (· kernel_rfl))
  refine (implCountRuns ns _ h24).mono ?_
  rintro e w1 ⟨rfl, b1⟩
  have H1 := H.below b1
  have HB1 := Lib.hid (HB.out.call b1)
  clear H HB b1
  by_cases hv : vR ns = true
  · rw [hv]
    have hu := runUp_le h24 hv 6 (Nat.le_refl _)
    have HV := Lib.hid hv
    rw [show runsA ns = (runUp ns 6 : Nat) by unfold runsA; rw [if_pos hv]]
    have E := Lib.hid (show edgeA ns = (runUp ns 6 : Nat) - 6 + (botUp ns 6).getD 0 0 by unfold edgeA; rw [if_pos hv]; rfl)
    have EB := Lib.hid (show botA ns = botUp ns 6 by unfold botA; rw [if_pos hv])
    have hl := (bot_all ns 6).1
    have hb := (bot_all ns 6).2 0
    generalize runUp ns 6 = y at *
    clear hv
    go_wp2_with (refine load_has rfl 30 _ rfl _ rfl ?_ 24 ?_ _ Try.underlying30 rfl ?_ ?_; rotate_left; (· (repeat (first | (with_reducible assumption) | ((with_reducible refine Has.box _ _ ?_ ?_) <;> (first | assumption | decide)) | (with_reducible refine Has.alloc ?_ _) | ((with_reducible refine Has.putOther ?_ _ _ ?_); rotate_left; omega; skip) | ((with_reducible refine Has.below ?_ ?_); rotate_left; assumption)))); (· kernel_rfl))
    refine (implBottoms ns _ h24).mono ?_
    rintro e w2 ⟨rfl, b2⟩
    rw [EB.out, HV.out]
    have HB2 := Lib.hid ((HB1.out.call b2).alloc (.cells (ints (botUp ns 6)).toArray 116))
    have Z := Has.box w2 116 hl (by omega)
    have c0 := Z.cell 0 (by omega)
    clear b2 H1 HB1
    generalize hx : (botUp ns 6).getD 0 0 = x at *
    clear hx
    go_wp2_with (first | (refine store_new rfl 116 _ _ rfl _ _ _ rfl _ rfl _ rfl rfl ?_ ?_ ?_; (· (first | assumption | rfl)); (· kernel_rfl)))
    go_ret2
    exact ⟨by rw [E.out, HV.out, show (y : Int) - 6 + x = (y : Int) - (6 - x) by omega]; rfl, HB2.out⟩
  · have hf : vR ns = false := by simpa using hv
    have E := Lib.hid (show edgeA ns = 0 by unfold edgeA; rw [if_neg hv])
    rw [hf]
    have HV := Lib.hid hf
    clear hf hv
    go_wp2_with fail
    go_ret2
    exact ⟨by rw [E.out, HV.out]; rfl, HB1.out⟩

set_option maxHeartbeats 1600000 in
theorem implBound (ns : List Int) (w : World) (h24 : ns.length = 24) :
    Calls Try.prog 57 #[row ns] w fun e w' => e = .returned (.tuple #[.int .i64 (bndA ns), .bool (vR ns)]) ∧ Kept w w' := by
  have HB := Lib.hid ((kept_refl w).alloc (.cells (ints ns).toArray 30))
  have H := Has.box w 30 h24 (by omega)
  rw [row_ints]
  go_enter Try.func57, Try.ntmps57
  go_wp2_with (refine load_has rfl 30 _ rfl _ rfl ?_ 24 ?_ _ Try.underlying30 rfl ?_ ?_; rotate_left; (· (repeat (first | (with_reducible assumption) | ((with_reducible refine Has.box _ _ ?_ ?_) <;> (first | assumption | decide)) | (with_reducible refine Has.alloc ?_ _) | ((with_reducible refine Has.putOther ?_ _ _ ?_); rotate_left; omega; skip) | ((with_reducible refine Has.below ?_ ?_); rotate_left; assumption)))); (· kernel_rfl))
  refine (implEdges ns _ h24).mono ?_
  rintro e w1 ⟨rfl, b1⟩
  have H1 := H.below b1
  have HB1 := Lib.hid (HB.out.call b1)
  clear H HB b1
  by_cases hv : vR ns = true
  · rw [hv]
    have HI := Lib.hid (bnd_in h24 hv)
    have HV := Lib.hid hv
    rw [show edgeA ns = bndUp ns 0 by unfold edgeA; rw [if_pos hv]; rfl]
    have E := Lib.hid (show bndA ns = bndUp ns 5 by unfold bndA; rw [if_pos hv]; rfl)
    have EB := Lib.hid (show botA ns = botUp ns 6 by unfold botA; rw [if_pos hv])
    have hl := (bot_all ns 6).1
    have HC := Lib.hid (bot_all ns 6).2
    clear hv
    go_wp2_with (refine load_has rfl 30 _ rfl _ rfl ?_ 24 ?_ _ Try.underlying30 rfl ?_ ?_; rotate_left; (· (repeat (first | (with_reducible assumption) | ((with_reducible refine Has.box _ _ ?_ ?_) <;> (first | assumption | decide)) | (with_reducible refine Has.alloc ?_ _) | ((with_reducible refine Has.putOther ?_ _ _ ?_); rotate_left; omega; skip) | ((with_reducible refine Has.below ?_ ?_); rotate_left; assumption)))); (· kernel_rfl))
    refine (implBottoms ns _ h24).mono ?_
    rintro e w2 ⟨rfl, b2⟩
    rw [EB.out, HV.out]
    have HB2 := Lib.hid ((HB1.out.call b2).alloc (.cells (ints (botUp ns 6)).toArray 116))
    have Z := Has.box w2 116 hl (by omega)
    clear b2 H1 HB1
    go_wp2_with (first | (refine store_new rfl 116 _ _ rfl _ _ _ rfl _ rfl _ rfl rfl ?_ ?_ ?_; (· (first | assumption | rfl)); (· kernel_rfl)))
    generalize w2.alloc (.cells (ints (botUp ns 6)).toArray 116) = W3 at *
    go_loop [4, 21] (fun m i => ∃ c : Nat, c ≤ 5 ∧ i = .int .i64 (c : Int) ∧ m = .int .i64 (bndUp ns c)) (fun _ z => 5 - (intOf z).toNat)
    case atStart => exact ⟨0, by omega, rfl, rfl⟩
    case round =>
      obtain ⟨c, hc, rfl, rfl⟩ := hrel
      by_cases hc5 : c < 5
      · have hci : (c : Int) < 5 := by omega
        have hc0 := Z.cell (c + 1) (by omega)
        have hcc := HC.out (c + 1)
        have hbb := HI.out c
        have EN : Hid (bndUp ns (c + 1) = bndUp ns c + max ((botUp ns 6).getD (c + 1) 0 - 1) 0) := Lib.hid rfl
        generalize (botUp ns 6).getD (c + 1) 0 = x at *
        generalize bndUp ns c = y at *
        go_wp2_with fail
        all_goals
          go_round
          case rel => exact ⟨c + 1, by omega, by go_num, by rw [EN.out]; congr 1; omega⟩
          case measure => simp [intOf]; omega
      · obtain rfl : c = 5 := by omega
        go_wp2_with fail
        go_ret2
        exact ⟨by rw [E.out, HV.out]; rfl, HB2.out⟩
  · have hf : vR ns = false := by simpa using hv
    have E := Lib.hid (show bndA ns = 0 by unfold bndA; rw [if_neg hv])
    rw [hf]
    have HV := Lib.hid hf
    clear hf hv
    go_wp2_with fail
    go_ret2
    exact ⟨by rw [E.out, HV.out]; rfl, HB1.out⟩
end Go.Proofs.Ytalngdccjoafhab.base
end
