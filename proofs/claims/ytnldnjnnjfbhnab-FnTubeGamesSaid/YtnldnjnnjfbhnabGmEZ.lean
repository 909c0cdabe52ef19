/-
  The exported functions of both games on the program's side, walked.
-/
/-
  The first best pour of the game for tubes on both sides, walked.
-/
import Derived.Test.YtnldnjnnjfbhnabGmZZ
import Derived.Test.YtnldnjnnjfbhnabGmJZ

section
namespace Go.Proofs.Ytnldnjnnjfbhnab.base
open Go.ChangeShapes Go.WideShapes Go.ChangeAt Go.RowKit Go.Maps
set_option linter.unusedVariables false
set_option linter.unusedSimpArgs false

def gmZ : List Value := [Value.nilFunc, .int .i64 0]
theorem gm_one (F : Nat) (no : Int) : ∀ v ∈ gmC F no, v.oneCell' = true := by
  intro v hv
  unfold gmC at hv
  simp only [List.mem_cons, List.not_mem_nil, or_false] at hv
  rcases hv with rfl | rfl <;> rfl
theorem res_bkG {P : Program} {fn : Func} {p : Tmp} {T : TypeId} (h : fn.results = #[.cell p T]) (tmps : Array Value) (w : World) (b : Nat) (cs : List Value) (T' : TypeId) (d : TypeDesc)
    (hp : tmps.getD p undef = .pointer (some ⟨b, 0, none⟩)) (H : Bk w b cs T') (hu : P.underlying T = some d) (hd : d.isRow = true) (hi : (P.info? T).map (·.size) = some cs.length) :
    (results fn tmps).run P w = .ok (.agg cs.toArray) w := by
  have hp' : tmps[p]?.getD undef = .pointer (some ⟨b, 0, none⟩) := by simpa using hp
  have hl := run_loadVar_mid (P := P) w b 0 T cs d H.range hu hd hi
  simp [results, h, hp', asAddr, hl]

theorem buildgameForTubes (w : World) : (Instr.build 54 #[(0, .func (Fn.func 41) #[] #[]), (1, .int .i64 (0))]).run Try.prog w = .ok (.agg (gmC 41 (0)).toArray) w := run_build w _ _ _ (by kernel_rfl)
set_option maxHeartbeats 400000 in
theorem gameForTubes_any (w : World) :
    Calls Try.prog 28 #[] w fun e w' => e = .returned (.agg (gmC 41 (0)).toArray) ∧ Kept w w' := by
  have BZ := Bk.box w gmZ 54
  have S1 := Lib.hid (Bk.putAll BZ (gmC 41 (0)) rfl)
  have S2 := Lib.hid (((kept_refl w).alloc (.cells gmZ.toArray 54)).puts (b := w.heap.size) (Nat.le_refl _) 0 (gmC 41 (0)))
  go_enter Try.func28, Try.ntmps28
  go_wp2_with (first | (refine build_two rfl 54 _ _ rfl (.func (Fn.func 41) #[] #[]) (.int .i64 (0)) _ rfl rfl buildgameForTubes ?_) | (refine store_bk rfl 54 _ _ rfl w.heap.size rfl (gmC 41 (0)) rfl gmZ 54 BZ rfl (gm_one _ _) (by kernel_rfl) ?_))
  exact bodyPost_ret (res_bkG rfl _ _ w.heap.size (gmC 41 (0)) _ _ rfl S1.out Try.underlying54 rfl (by kernel_rfl)) rfl ⟨rfl, S2.out⟩



set_option maxHeartbeats 1600000 in
set_option maxRecDepth 100000 in
theorem implTubeValue (r : List Int) (n : Int) (w : World) (h24 : r.length = 24) :
    Calls Try.prog 6 #[row r, .int .i64 n] w fun e w' => e = .returned (.tuple #[.int .i64 (gvA ptT (0) r n), .bool (gmOk r n)]) ∧ Kept w w' := by
  have HB := Lib.hid ((kept_refl w).alloc (.cells (ints r).toArray 27))
  have H := Has.box w 27 h24 (by omega)
  have hi2 : (Try.prog.info? 27).map (·.size) = some (ints r).length := by rw [ints_len, h24]; kernel_rfl
  have KG := Lib.hid (fun W => gameForTubes_any W)
  have KV := Lib.hid (fun W => value_any 41 (0) ptT ptsT gamT r n W h24)
  rw [row_ints]
  go_enter Try.func6, Try.ntmps6
  go_wp2_with fail
  generalize w.alloc (.cells (ints r).toArray 27) = W0 at *
  refine wp_region_held_drew (S := fun w' => Has w' w.heap.size r 24) (by kernel_rfl) H.drew (fun hHeld => ?_)
  replace HB := Lib.hid (keptDrew8G HB.out)
  clear H
  generalize W0.drew = W1 at *
  (refine wpAnyH_take (i := 1) (v := _) rfl (by kernel_rfl) (by kernel_rfl) (by kernel_rfl) (fun _ _ _ h => h) (yieldsIf_load_mid (by rfl) 27 _ rfl _ _ rfl (ints r) _ (fun w' hSw => hSw.holds.range) Try.underlying27 rfl (hi2)) hHeld ?_; (try simp only [List.getElem_toArray, List.getElem_cons_zero, List.getElem_cons_succ, Act.put, List.setIfInBounds_toArray, List.set_cons_zero, List.set_cons_succ]))
  (refine wpAnyH_take (i := 2) (v := ?_) rfl (by kernel_rfl) (by kernel_rfl) (by kernel_rfl) (fun _ _ _ h => h) (Or.inl ⟨by rfl, ?_⟩) hHeld ?_; rotate_left; (· (intro w' hSw; go_simp; try with_reducible rfl)); (try simp only [List.getElem_toArray, List.getElem_cons_zero, List.getElem_cons_succ, Act.put, List.setIfInBounds_toArray, List.set_cons_zero, List.set_cons_succ]))
  (refine wpAnyH_ready (rs := [0]) (by kernel_rfl) (by simp) ?_; refine AllReadyH.cons (o := _) rfl (fun K hK => ?_) AllReadyH.nil; (simp only [List.getElem_toArray, List.getElem_cons_zero, List.getElem_cons_succ, Region.wanted, if_true]))
  go_simp
  refine (KG.out _).mono ?_
  rintro e w2 ⟨rfl, b2⟩
  dsimp only
  (try simp only [List.getElem_toArray, List.getElem_cons_zero, List.getElem_cons_succ, Act.put, List.setIfInBounds_toArray, List.set_cons_zero, List.set_cons_succ])
  have hH2 := hHeld.below b2
  refine hK.out _ _ hH2 (fun hHeld => ?_)
  clear hK K
  replace HB := Lib.hid (HB.out.call b2)
  (refine wpAnyH_ready (rs := [3]) (by kernel_rfl) (by simp) ?_; refine AllReadyH.cons (o := _) rfl (fun K hK => ?_) AllReadyH.nil; (simp only [List.getElem_toArray, List.getElem_cons_zero, List.getElem_cons_succ, Region.wanted, if_true]))
  go_simp
  refine (KV.out _).mono ?_
  rintro e w3 ⟨rfl, b3⟩
  dsimp only
  (try simp only [List.getElem_toArray, List.getElem_cons_zero, List.getElem_cons_succ, Act.put, List.setIfInBounds_toArray, List.set_cons_zero, List.set_cons_succ])
  refine hK.out _ _ (hH2.below b3) (fun hHeld => ?_)
  clear hK K
  replace HB := Lib.hid (HB.out.call b3)
  (refine wpAnyH_take (i := 4) (v := ?_) rfl (by kernel_rfl) (by kernel_rfl) (by kernel_rfl) (fun _ _ _ h => h) (Or.inl ⟨by rfl, ?_⟩) hHeld ?_; rotate_left; (· (intro w' hSw; go_simp; try with_reducible rfl)); (try simp only [List.getElem_toArray, List.getElem_cons_zero, List.getElem_cons_succ, Act.put, List.setIfInBounds_toArray, List.set_cons_zero, List.set_cons_succ])); (refine wpAnyH_take (i := 5) (v := ?_) rfl (by kernel_rfl) (by kernel_rfl) (by kernel_rfl) (fun _ _ _ h => h) (Or.inl ⟨by rfl, ?_⟩) hHeld ?_; rotate_left; (· (intro w' hSw; go_simp; try with_reducible rfl)); (try simp only [List.getElem_toArray, List.getElem_cons_zero, List.getElem_cons_succ, Act.put, List.setIfInBounds_toArray, List.set_cons_zero, List.set_cons_succ])); (refine wpAnyH_take (i := 6) (v := ?_) rfl (by kernel_rfl) (by kernel_rfl) (by kernel_rfl) (fun _ _ _ h => h) (Or.inl ⟨by rfl, ?_⟩) hHeld ?_; rotate_left; (· (intro w' hSw; go_simp; try with_reducible rfl)); (try simp only [List.getElem_toArray, List.getElem_cons_zero, List.getElem_cons_succ, Act.put, List.setIfInBounds_toArray, List.set_cons_zero, List.set_cons_succ])); (refine wpAnyH_take (i := 7) (v := ?_) rfl (by kernel_rfl) (by kernel_rfl) (by kernel_rfl) (fun _ _ _ h => h) (Or.inl ⟨by rfl, ?_⟩) hHeld ?_; rotate_left; (· (intro w' hSw; go_simp; try with_reducible rfl)); (try simp only [List.getElem_toArray, List.getElem_cons_zero, List.getElem_cons_succ, Act.put, List.setIfInBounds_toArray, List.set_cons_zero, List.set_cons_succ]))
  refine wpAnyH_done (by kernel_rfl) ?_ _
  go_wp2_with fail
  go_ret2
  exact ⟨rfl, HB.out⟩



set_option maxHeartbeats 1600000 in
set_option maxRecDepth 100000 in
theorem implTubePours (r : List Int) (n : Int) (w : World) (h24 : r.length = 24) :
    Calls Try.prog 11 #[row r, .int .i64 n] w (BpPost ptT (0) r n w) := by
  have HB := Lib.hid ((kept_refl w).alloc (.cells (ints r).toArray 27))
  have H := Has.box w 27 h24 (by omega)
  have hi2 : (Try.prog.info? 27).map (·.size) = some (ints r).length := by rw [ints_len, h24]; kernel_rfl
  have KG := Lib.hid (fun W => gameForTubes_any W)
  have KV := Lib.hid (fun W => bestPours_any 41 (0) ptT ptsT gamT r n W h24)
  rw [row_ints]
  go_enter Try.func11, Try.ntmps11
  go_wp2_with fail
  generalize w.alloc (.cells (ints r).toArray 27) = W0 at *
  refine wp_region_held_drew (S := fun w' => Has w' w.heap.size r 24) (by kernel_rfl) H.drew (fun hHeld => ?_)
  replace HB := Lib.hid (keptDrew8G HB.out)
  clear H
  generalize W0.drew = W1 at *
  (refine wpAnyH_take (i := 1) (v := _) rfl (by kernel_rfl) (by kernel_rfl) (by kernel_rfl) (fun _ _ _ h => h) (yieldsIf_load_mid (by rfl) 27 _ rfl _ _ rfl (ints r) _ (fun w' hSw => hSw.holds.range) Try.underlying27 rfl (hi2)) hHeld ?_; (try simp only [List.getElem_toArray, List.getElem_cons_zero, List.getElem_cons_succ, Act.put, List.setIfInBounds_toArray, List.set_cons_zero, List.set_cons_succ]))
  (refine wpAnyH_take (i := 2) (v := ?_) rfl (by kernel_rfl) (by kernel_rfl) (by kernel_rfl) (fun _ _ _ h => h) (Or.inl ⟨by rfl, ?_⟩) hHeld ?_; rotate_left; (· (intro w' hSw; go_simp; try with_reducible rfl)); (try simp only [List.getElem_toArray, List.getElem_cons_zero, List.getElem_cons_succ, Act.put, List.setIfInBounds_toArray, List.set_cons_zero, List.set_cons_succ]))
  (refine wpAnyH_ready (rs := [0]) (by kernel_rfl) (by simp) ?_; refine AllReadyH.cons (o := _) rfl (fun K hK => ?_) AllReadyH.nil; (simp only [List.getElem_toArray, List.getElem_cons_zero, List.getElem_cons_succ, Region.wanted, if_true]))
  go_simp
  refine (KG.out _).mono ?_
  rintro e w2 ⟨rfl, b2⟩
  dsimp only
  (try simp only [List.getElem_toArray, List.getElem_cons_zero, List.getElem_cons_succ, Act.put, List.setIfInBounds_toArray, List.set_cons_zero, List.set_cons_succ])
  have hH2 := hHeld.below b2
  refine hK.out _ _ hH2 (fun hHeld => ?_)
  clear hK K
  replace HB := Lib.hid (HB.out.call b2)
  (refine wpAnyH_ready (rs := [3]) (by kernel_rfl) (by simp) ?_; refine AllReadyH.cons (o := _) rfl (fun K hK => ?_) AllReadyH.nil; (simp only [List.getElem_toArray, List.getElem_cons_zero, List.getElem_cons_succ, Region.wanted, if_true]))
  go_simp
  refine (KV.out _).mono ?_
  rintro e w3 ⟨v, rfl, q3, b3⟩
  dsimp only
  (try simp only [List.getElem_toArray, List.getElem_cons_zero, List.getElem_cons_succ, Act.put, List.setIfInBounds_toArray, List.set_cons_zero, List.set_cons_succ])
  refine hK.out _ _ (hH2.below b3) (fun hHeld => ?_)
  clear hK K
  have hs3 := HB.out.size
  replace HB := Lib.hid (HB.out.call b3)
  (refine wpAnyH_take (i := 4) (v := ?_) rfl (by kernel_rfl) (by kernel_rfl) (by kernel_rfl) (fun _ _ _ h => h) (Or.inl ⟨by rfl, ?_⟩) hHeld ?_; rotate_left; (· (intro w' hSw; go_simp; try with_reducible rfl)); (try simp only [List.getElem_toArray, List.getElem_cons_zero, List.getElem_cons_succ, Act.put, List.setIfInBounds_toArray, List.set_cons_zero, List.set_cons_succ])); (refine wpAnyH_take (i := 5) (v := ?_) rfl (by kernel_rfl) (by kernel_rfl) (by kernel_rfl) (fun _ _ _ h => h) (Or.inl ⟨by rfl, ?_⟩) hHeld ?_; rotate_left; (· (intro w' hSw; go_simp; try with_reducible rfl)); (try simp only [List.getElem_toArray, List.getElem_cons_zero, List.getElem_cons_succ, Act.put, List.setIfInBounds_toArray, List.set_cons_zero, List.set_cons_succ])); (refine wpAnyH_take (i := 6) (v := ?_) rfl (by kernel_rfl) (by kernel_rfl) (by kernel_rfl) (fun _ _ _ h => h) (Or.inl ⟨by rfl, ?_⟩) hHeld ?_; rotate_left; (· (intro w' hSw; go_simp; try with_reducible rfl)); (try simp only [List.getElem_toArray, List.getElem_cons_zero, List.getElem_cons_succ, Act.put, List.setIfInBounds_toArray, List.set_cons_zero, List.set_cons_succ])); (refine wpAnyH_take (i := 7) (v := ?_) rfl (by kernel_rfl) (by kernel_rfl) (by kernel_rfl) (fun _ _ _ h => h) (Or.inl ⟨by rfl, ?_⟩) hHeld ?_; rotate_left; (· (intro w' hSw; go_simp; try with_reducible rfl)); (try simp only [List.getElem_toArray, List.getElem_cons_zero, List.getElem_cons_succ, Act.put, List.setIfInBounds_toArray, List.set_cons_zero, List.set_cons_succ]))
  refine wpAnyH_done (by kernel_rfl) ?_ _
  go_wp2_with fail
  go_ret2
  exact ⟨v, rfl, q3.mono (by omega), HB.out⟩

end Go.Proofs.Ytnldnjnnjfbhnab.base
end

section
namespace Go.Proofs.Ytnldnjnnjfbhnab.base
open Go.ChangeShapes Go.WideShapes Go.ChangeAt Go.RowKit
set_option linter.unusedVariables false
set_option linter.unusedSimpArgs false

theorem build2G (w : World) : (Instr.build 36 #[]).run Try.prog w = .ok (.agg (ints [0, 0]).toArray) w := by kernel_rfl

set_option maxHeartbeats 1600000 in
theorem specFirstBest (r : List Int) (n : Int) (w : World) (h24 : r.length = 24) :
    Calls Try.prog 14 #[row r, .int .i64 n] w fun e w' => e = .returned (.tuple #[row (fbA r n), .bool (fbOk r n)]) ∧ Kept w w' := by
  have HB := Lib.hid (((kept_refl w).alloc (.cells (ints r).toArray 27)).alloc (.cells #[.int .i64 0, .int .i64 0] 36))
  have H := (Has.box w 27 h24 (by omega)).alloc (.cells #[.int .i64 0, .int .i64 0] 36)
  have Z := (Has.box (ns := [0, 0]) (n := 2) (w.alloc (.cells (ints r).toArray 27)) 36 rfl (by omega)).at (size1 _ _)
  have KT := Lib.hid (fun W => specTubePours r n W h24)
  have EO : Hid (fbOk r n = (bpOk r n && decide (bpNA ptT 0 r n ≠ 0))) := Lib.hid rfl
  have EA : Hid (fbA r n = if fbOk r n = true then [(bpFA ptT 0 r n).getD 0 0, (bpFA ptT 0 r n).getD 1 0] else [0, 0]) := Lib.hid rfl
  rw [row_ints, row_ints]
  go_enter Try.func14, Try.ntmps14
  go_wp2_with (refine load_has rfl 27 _ rfl _ rfl ?_ 24 ?_ _ Try.underlying27 rfl ?_ ?_; rotate_left; (· (repeat (first | (with_reducible assumption) | ((with_reducible refine Has.box _ _ ?_ ?_) <;> (first | assumption | decide)) | (with_reducible refine Has.alloc ?_ _) | ((with_reducible refine Has.putOther ?_ _ _ ?_); rotate_left; omega; skip) | ((with_reducible refine Has.below ?_ ?_); rotate_left; assumption)))); (· kernel_rfl))
  refine (KT.out _).mono ?_
  rintro e w1 ⟨v, rfl, q1, b1⟩
  obtain ⟨va, vc, rfl⟩ := q1.rw.shape
  have R0 := Lib.hid ((q1.mono (b' := 0) (Nat.zero_le _)).rw)
  replace Z := Z.below b1
  replace HB := Lib.hid (HB.out.call b1)
  have S0 := Lib.hid (Z.putAll [0, 0] rfl)
  have S1 := Lib.hid (HB.out.puts (b := w.heap.size + 1) (by omega) 0 (ints [0, 0]))
  clear q1 b1 H KT
  cases hok : bpOk r n with
  | false =>
    have E := Lib.hid (show fbOk r n = false by rw [EO.out, hok]; rfl)
    have E2 := Lib.hid (show fbA r n = [0, 0] by rw [EA.out, if_neg (by rw [E.out]; simp)])
    clear hok
    generalize bpNA ptT 0 r n = N at *
    go_wp2_with (first | (refine build_law rfl 36 rfl _ build2G ?_) | (refine store_at rfl 36 _ _ rfl _ _ rfl rfl ?_ 2 ?_ ?_ ?_ ?_; rotate_left; (· (repeat (first | (with_reducible assumption) | ((with_reducible refine Has.box _ _ ?_ ?_) <;> (first | assumption | decide)) | (with_reducible refine Has.alloc ?_ _) | ((with_reducible refine Has.putOther ?_ _ _ ?_); rotate_left; omega; skip) | ((with_reducible refine Has.below ?_ ?_); rotate_left; assumption)))); (· (first | assumption | rfl)); (· kernel_rfl)))
    exact bodyPost_ret (res_has1 rfl _ _ (w.heap.size + 1) [0, 0] 2 _ (.bool false) rfl rfl S0.out Try.underlying36 rfl (by kernel_rfl)) rfl ⟨by rw [E2.out, E.out], S1.out⟩
  | true =>
    have HOK := Lib.hid hok
    clear hok
    by_cases h0 : bpNA ptT 0 r n = 0
    · have E := Lib.hid (show fbOk r n = false by rw [EO.out, h0]; simp)
      have E2 := Lib.hid (show fbA r n = [0, 0] by rw [EA.out, if_neg (by rw [E.out]; simp)])
      rw [h0]
      clear h0 R0
      go_wp2_with (first | (refine build_law rfl 36 rfl _ build2G ?_) | (refine store_at rfl 36 _ _ rfl _ _ rfl rfl ?_ 2 ?_ ?_ ?_ ?_; rotate_left; (· (repeat (first | (with_reducible assumption) | ((with_reducible refine Has.box _ _ ?_ ?_) <;> (first | assumption | decide)) | (with_reducible refine Has.alloc ?_ _) | ((with_reducible refine Has.putOther ?_ _ _ ?_); rotate_left; omega; skip) | ((with_reducible refine Has.below ?_ ?_); rotate_left; assumption)))); (· (first | assumption | rfl)); (· kernel_rfl)))
      exact bodyPost_ret (res_has1 rfl _ _ (w.heap.size + 1) [0, 0] 2 _ (.bool false) rfl rfl S0.out Try.underlying36 rfl (by kernel_rfl)) rfl ⟨by rw [E2.out, E.out], S1.out⟩
    · have E := Lib.hid (show fbOk r n = true by rw [EO.out, HOK.out, decide_eq_true h0]; rfl)
      have E2 := Lib.hid (show fbA r n = [(bpFA ptT 0 r n).getD 0 0, (bpFA ptT 0 r n).getD 1 0] by rw [EA.out, if_pos E.out])
      have n0 : ((bpNA ptT 0 r n : Int) == 0) = false := by simp; omega
      obtain ⟨N, hN⟩ : ∃ N, bpNA ptT 0 r n = N := ⟨_, rfl⟩
      rw [hN] at R0 n0 h0 ⊢
      obtain ⟨F, hF⟩ : ∃ F, bpFA ptT 0 r n = F := ⟨_, rfl⟩
      rw [hF] at R0 E2
      clear hN hF EA EO
      obtain ⟨g, cap, he, _, hgl⟩ := R0.out.form (by omega)
      injection he with e1 _ e3
      subst e1
      subst e3
      have Np : (0 : Int) < (N : Int) := by omega
      have RG := Lib.hid (range_two (R0.out.cell 0 (by omega)) (R0.out.cell 1 (by omega)))
      obtain ⟨x, hx⟩ : ∃ x, F.getD 0 0 = x := ⟨_, rfl⟩
      obtain ⟨y, hy⟩ : ∃ y, F.getD 1 0 = y := ⟨_, rfl⟩
      rw [hx, hy] at E2
      rw [show F.getD (0 + 1) 0 = y from hy, hx] at RG
      have S3 := Lib.hid (Z.putAll [x, y] rfl)
      have S4 := Lib.hid (HB.out.puts (b := w.heap.size + 1) (by omega) 0 (ints [x, y]))
      clear hx hy R0 h0 S0 S1 hgl
      go_wp2_with (first | (refine wpList_load_mid rfl 36 _ rfl g 0 rfl (ints [x, y]) _ RG.out Try.underlying36 rfl (by kernel_rfl) ?_) | (refine store_at rfl 36 _ _ rfl _ [x, y] rfl rfl ?_ 2 ?_ ?_ ?_ ?_; rotate_left; (· (repeat (first | (with_reducible assumption) | ((with_reducible refine Has.box _ _ ?_ ?_) <;> (first | assumption | decide)) | (with_reducible refine Has.alloc ?_ _) | ((with_reducible refine Has.putOther ?_ _ _ ?_); rotate_left; omega; skip) | ((with_reducible refine Has.below ?_ ?_); rotate_left; assumption)))); (· (first | assumption | rfl)); (· kernel_rfl)))
      exact bodyPost_ret (res_has1 rfl _ _ (w.heap.size + 1) [x, y] 2 _ (.bool true) rfl rfl S3.out Try.underlying36 rfl (by kernel_rfl)) rfl ⟨by rw [E2.out, E.out], S4.out⟩

set_option maxHeartbeats 1600000 in
theorem implFirstBest (r : List Int) (n : Int) (w : World) (h24 : r.length = 24) :
    Calls Try.prog 13 #[row r, .int .i64 n] w fun e w' => e = .returned (.tuple #[row (fbA r n), .bool (fbOk r n)]) ∧ Kept w w' := by
  have HB := Lib.hid (((kept_refl w).alloc (.cells (ints r).toArray 27)).alloc (.cells #[.int .i64 0, .int .i64 0] 36))
  have H := (Has.box w 27 h24 (by omega)).alloc (.cells #[.int .i64 0, .int .i64 0] 36)
  have Z := (Has.box (ns := [0, 0]) (n := 2) (w.alloc (.cells (ints r).toArray 27)) 36 rfl (by omega)).at (size1 _ _)
  have KT := Lib.hid (fun W => implTubePours r n W h24)
  have EO : Hid (fbOk r n = (bpOk r n && decide (bpNA ptT 0 r n ≠ 0))) := Lib.hid rfl
  have EA : Hid (fbA r n = if fbOk r n = true then [(bpFA ptT 0 r n).getD 0 0, (bpFA ptT 0 r n).getD 1 0] else [0, 0]) := Lib.hid rfl
  rw [row_ints, row_ints]
  go_enter Try.func13, Try.ntmps13
  go_wp2_with (refine load_has rfl 27 _ rfl _ rfl ?_ 24 ?_ _ Try.underlying27 rfl ?_ ?_; rotate_left; (· (repeat (first | (with_reducible assumption) | ((with_reducible refine Has.box _ _ ?_ ?_) <;> (first | assumption | decide)) | (with_reducible refine Has.alloc ?_ _) | ((with_reducible refine Has.putOther ?_ _ _ ?_); rotate_left; omega; skip) | ((with_reducible refine Has.below ?_ ?_); rotate_left; assumption)))); (· kernel_rfl))
  refine (KT.out _).mono ?_
  rintro e w1 ⟨v, rfl, q1, b1⟩
  obtain ⟨va, vc, rfl⟩ := q1.rw.shape
  have R0 := Lib.hid ((q1.mono (b' := 0) (Nat.zero_le _)).rw)
  replace Z := Z.below b1
  replace HB := Lib.hid (HB.out.call b1)
  have S0 := Lib.hid (Z.putAll [0, 0] rfl)
  have S1 := Lib.hid (HB.out.puts (b := w.heap.size + 1) (by omega) 0 (ints [0, 0]))
  clear q1 b1 H KT
  cases hok : bpOk r n with
  | false =>
    have E := Lib.hid (show fbOk r n = false by rw [EO.out, hok]; rfl)
    have E2 := Lib.hid (show fbA r n = [0, 0] by rw [EA.out, if_neg (by rw [E.out]; simp)])
    clear hok
    generalize bpNA ptT 0 r n = N at *
    go_wp2_with (first | (refine build_law rfl 36 rfl _ build2G ?_) | (refine store_at rfl 36 _ _ rfl _ _ rfl rfl ?_ 2 ?_ ?_ ?_ ?_; rotate_left; (· (repeat (first | (with_reducible assumption) | ((with_reducible refine Has.box _ _ ?_ ?_) <;> (first | assumption | decide)) | (with_reducible refine Has.alloc ?_ _) | ((with_reducible refine Has.putOther ?_ _ _ ?_); rotate_left; omega; skip) | ((with_reducible refine Has.below ?_ ?_); rotate_left; assumption)))); (· (first | assumption | rfl)); (· kernel_rfl)))
    exact bodyPost_ret (res_has1 rfl _ _ (w.heap.size + 1) [0, 0] 2 _ (.bool false) rfl rfl S0.out Try.underlying36 rfl (by kernel_rfl)) rfl ⟨by rw [E2.out, E.out], S1.out⟩
  | true =>
    have HOK := Lib.hid hok
    clear hok
    by_cases h0 : bpNA ptT 0 r n = 0
    · have E := Lib.hid (show fbOk r n = false by rw [EO.out, h0]; simp)
      have E2 := Lib.hid (show fbA r n = [0, 0] by rw [EA.out, if_neg (by rw [E.out]; simp)])
      rw [h0]
      clear h0 R0
      go_wp2_with (first | (refine build_law rfl 36 rfl _ build2G ?_) | (refine store_at rfl 36 _ _ rfl _ _ rfl rfl ?_ 2 ?_ ?_ ?_ ?_; rotate_left; (· (repeat (first | (with_reducible assumption) | ((with_reducible refine Has.box _ _ ?_ ?_) <;> (first | assumption | decide)) | (with_reducible refine Has.alloc ?_ _) | ((with_reducible refine Has.putOther ?_ _ _ ?_); rotate_left; omega; skip) | ((with_reducible refine Has.below ?_ ?_); rotate_left; assumption)))); (· (first | assumption | rfl)); (· kernel_rfl)))
      exact bodyPost_ret (res_has1 rfl _ _ (w.heap.size + 1) [0, 0] 2 _ (.bool false) rfl rfl S0.out Try.underlying36 rfl (by kernel_rfl)) rfl ⟨by rw [E2.out, E.out], S1.out⟩
    · have E := Lib.hid (show fbOk r n = true by rw [EO.out, HOK.out, decide_eq_true h0]; rfl)
      have E2 := Lib.hid (show fbA r n = [(bpFA ptT 0 r n).getD 0 0, (bpFA ptT 0 r n).getD 1 0] by rw [EA.out, if_pos E.out])
      have n0 : ((bpNA ptT 0 r n : Int) == 0) = false := by simp; omega
      obtain ⟨N, hN⟩ : ∃ N, bpNA ptT 0 r n = N := ⟨_, rfl⟩
      rw [hN] at R0 n0 h0 ⊢
      obtain ⟨F, hF⟩ : ∃ F, bpFA ptT 0 r n = F := ⟨_, rfl⟩
      rw [hF] at R0 E2
      clear hN hF EA EO
      obtain ⟨g, cap, he, _, hgl⟩ := R0.out.form (by omega)
      injection he with e1 _ e3
      subst e1
      subst e3
      have Np : (0 : Int) < (N : Int) := by omega
      have RG := Lib.hid (range_two (R0.out.cell 0 (by omega)) (R0.out.cell 1 (by omega)))
      obtain ⟨x, hx⟩ : ∃ x, F.getD 0 0 = x := ⟨_, rfl⟩
      obtain ⟨y, hy⟩ : ∃ y, F.getD 1 0 = y := ⟨_, rfl⟩
      rw [hx, hy] at E2
      rw [show F.getD (0 + 1) 0 = y from hy, hx] at RG
      have S3 := Lib.hid (Z.putAll [x, y] rfl)
      have S4 := Lib.hid (HB.out.puts (b := w.heap.size + 1) (by omega) 0 (ints [x, y]))
      clear hx hy R0 h0 S0 S1 hgl
      go_wp2_with (first | (refine wpList_load_mid rfl 36 _ rfl g 0 rfl (ints [x, y]) _ RG.out Try.underlying36 rfl (by kernel_rfl) ?_) | (refine store_at rfl 36 _ _ rfl _ [x, y] rfl rfl ?_ 2 ?_ ?_ ?_ ?_; rotate_left; (· (repeat (first | (with_reducible assumption) | ((with_reducible refine Has.box _ _ ?_ ?_) <;> (first | assumption | decide)) | (with_reducible refine Has.alloc ?_ _) | ((with_reducible refine Has.putOther ?_ _ _ ?_); rotate_left; omega; skip) | ((with_reducible refine Has.below ?_ ?_); rotate_left; assumption)))); (· (first | assumption | rfl)); (· kernel_rfl)))
      exact bodyPost_ret (res_has1 rfl _ _ (w.heap.size + 1) [x, y] 2 _ (.bool true) rfl rfl S3.out Try.underlying36 rfl (by kernel_rfl)) rfl ⟨by rw [E2.out, E.out], S4.out⟩
end Go.Proofs.Ytnldnjnnjfbhnab.base
end
