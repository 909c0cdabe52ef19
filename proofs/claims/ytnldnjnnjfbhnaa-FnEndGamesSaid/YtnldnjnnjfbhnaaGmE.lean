/-
  The exported functions of both games on the program's side, walked.
-/
import Derived.Test.YtnldnjnnjfbhnaaGmZZ
namespace Go.Proofs.Ytnldnjnnjfbhnaa.base
open Go.ChangeShapes Go.WideShapes Go.ChangeAt Go.RowKit Go.Maps
set_option linter.unusedVariables false
set_option linter.unusedSimpArgs false

def gmZ : List Value := [Value.nilFunc, .int .i64 0]
theorem gm_one (F : Nat) (no : Int) : ∀ v ∈ gmC F no, v.oneCell' = true := by
  intro v hv
  unfold gmC at hv
  simp only [List.mem_cons, List.not_mem_nil, or_false] at hv
  rcases hv with rfl | rfl <;> rfl
theorem res_bkG {P : Program} {fn : Func} {p : Tmp} {T : TypeId} (h : fn.results = #[.cell p T]) (tmps : Array Value) (w : World) (b : Nat) (cs : List Value) (T' : TypeId) (d : TypeDesc)
    (hp : tmps.getD p undef = .pointer (some ⟨b, 0, none⟩)) (H : Bk w b cs T') (hu : P.underlying T = some d) (hd : d.isRow = true) (hi : (P.info? T).map (·.size) = some cs.length) :
    (results fn tmps).run P w = .ok (.agg cs.toArray) w := by
  have hp' : tmps[p]?.getD undef = .pointer (some ⟨b, 0, none⟩) := by simpa using hp
  have hl := run_loadVar_mid (P := P) w b 0 T cs d H.range hu hd hi
  simp [results, h, hp', asAddr, hl]

theorem buildgameToTheEnd (w : World) : (Instr.build 55 #[(0, .func (Fn.func 39) #[] #[]), (1, .int .i64 (-1))]).run Try.prog w = .ok (.agg (gmC 39 (-1)).toArray) w := run_build w _ _ _ (by kernel_rfl)
set_option maxHeartbeats 400000 in
theorem gameToTheEnd_any (w : World) :
    Calls Try.prog 21 #[] w fun e w' => e = .returned (.agg (gmC 39 (-1)).toArray) ∧ Kept w w' := by
  have BZ := Bk.box w gmZ 55
  have S1 := Lib.hid (Bk.putAll BZ (gmC 39 (-1)) rfl)
  have S2 := Lib.hid (((kept_refl w).alloc (.cells gmZ.toArray 55)).puts (b := w.heap.size) (Nat.le_refl _) 0 (gmC 39 (-1)))
  go_enter Try.func21, Try.ntmps21
  go_wp2_with (first | (refine build_two rfl 55 _ _ rfl (.func (Fn.func 39) #[] #[]) (.int .i64 (-1)) _ rfl rfl buildgameToTheEnd ?_) | (refine store_bk rfl 55 _ _ rfl w.heap.size rfl (gmC 39 (-1)) rfl gmZ 55 BZ rfl (gm_one _ _) (by kernel_rfl) ?_))
  exact bodyPost_ret (res_bkG rfl _ _ w.heap.size (gmC 39 (-1)) _ _ rfl S1.out Try.underlying55 rfl (by kernel_rfl)) rfl ⟨rfl, S2.out⟩

set_option maxHeartbeats 1600000 in
set_option maxRecDepth 100000 in
theorem implEndValue (r : List Int) (n : Int) (w : World) (h24 : r.length = 24) :
    Calls Try.prog 6 #[row r, .int .i64 n] w fun e w' => e = .returned (.tuple #[.int .i64 (gvA ptE (-1) r n), .bool (gmOk r n)]) ∧ Kept w w' := by
  have HB := Lib.hid ((kept_refl w).alloc (.cells (ints r).toArray 27))
  have H := Has.box w 27 h24 (by omega)
  have hi2 : (Try.prog.info? 27).map (·.size) = some (ints r).length := by rw [ints_len, h24]; kernel_rfl
  have KG := Lib.hid (fun W => gameToTheEnd_any W)
  have KV := Lib.hid (fun W => value_any 39 (-1) ptE ptsE gamE r n W h24)
  rw [row_ints]
  go_enter Try.func6, Try.ntmps6
  go_wp2_with fail
  generalize w.alloc (.cells (ints r).toArray 27) = W0 at *
  refine wp_region_held_drew (S := fun w' => Has w' w.heap.size r 24) (by kernel_rfl) H.drew (fun hHeld => ?_)
  replace HB := Lib.hid (keptDrew8G HB.out)
  clear H
  generalize W0.drew = W1 at *
  (refine wpAnyH_take (i := 1) (v := _) rfl (by kernel_rfl) (by kernel_rfl) (by kernel_rfl) (fun _ _ _ h => h) (yieldsIf_load_mid (by rfl) 27 _ rfl _ _ rfl (ints r) _ (fun w' hSw => hSw.holds.range) Try.underlying27 rfl (hi2)) hHeld ?_; (try simp only [List.getElem_toArray, List.getElem_cons_zero, List.getElem_cons_succ, Act.put, List.setIfInBounds_toArray, List.set_cons_zero, List.set_cons_succ]))
  (refine wpAnyH_take (i := 2) (v := ?_) rfl (by kernel_rfl) (by kernel_rfl) (by kernel_rfl) (fun _ _ _ h => h) (Or.inl ⟨by rfl, ?_⟩) hHeld ?_; rotate_left; (· (intro w' hSw; go_simp; try with_reducible rfl)); (try simp only [List.getElem_toArray, List.getElem_cons_zero, List.getElem_cons_succ, Act.put, List.setIfInBounds_toArray, List.set_cons_zero, List.set_cons_succ]))
  (refine wpAnyH_ready (rs := [0]) (by kernel_rfl) (by simp) ?_; refine AllReadyH.cons (o := _) rfl (fun K hK => ?_) AllReadyH.nil; (simp only [List.getElem_toArray, List.getElem_cons_zero, List.getElem_cons_succ, Region.wanted, if_true]))
  go_simp
  refine (KG.out _).mono ?_
  rintro e w2 ⟨rfl, b2⟩
  dsimp only
  (try simp only [List.getElem_toArray, List.getElem_cons_zero, List.getElem_cons_succ, Act.put, List.setIfInBounds_toArray, List.set_cons_zero, List.set_cons_succ])
  have hH2 := hHeld.below b2
  refine hK.out _ _ hH2 (fun hHeld => ?_)
  clear hK K
  replace HB := Lib.hid (HB.out.call b2)
  (refine wpAnyH_ready (rs := [3]) (by kernel_rfl) (by simp) ?_; refine AllReadyH.cons (o := _) rfl (fun K hK => ?_) AllReadyH.nil; (simp only [List.getElem_toArray, List.getElem_cons_zero, List.getElem_cons_succ, Region.wanted, if_true]))
  go_simp
  refine (KV.out _).mono ?_
  rintro e w3 ⟨rfl, b3⟩
  dsimp only
  (try simp only [List.getElem_toArray, List.getElem_cons_zero, List.getElem_cons_succ, Act.put, List.setIfInBounds_toArray, List.set_cons_zero, List.set_cons_succ])
  refine hK.out _ _ (hH2.below b3) (fun hHeld => ?_)
  clear hK K
  replace HB := Lib.hid (HB.out.call b3)
  (refine wpAnyH_take (i := 4) (v := ?_) rfl (by kernel_rfl) (by kernel_rfl) (by kernel_rfl) (fun _ _ _ h => h) (Or.inl ⟨by rfl, ?_⟩) hHeld ?_; rotate_left; (· (intro w' hSw; go_simp; try with_reducible rfl)); (try simp only [List.getElem_toArray, List.getElem_cons_zero, List.getElem_cons_succ, Act.put, List.setIfInBounds_toArray, List.set_cons_zero, List.set_cons_succ])); (refine wpAnyH_take (i := 5) (v := ?_) rfl (by kernel_rfl) (by kernel_rfl) (by kernel_rfl) (fun _ _ _ h => h) (Or.inl ⟨by rfl, ?_⟩) hHeld ?_; rotate_left; (· (intro w' hSw; go_simp; try with_reducible rfl)); (try simp only [List.getElem_toArray, List.getElem_cons_zero, List.getElem_cons_succ, Act.put, List.setIfInBounds_toArray, List.set_cons_zero, List.set_cons_succ])); (refine wpAnyH_take (i := 6) (v := ?_) rfl (by kernel_rfl) (by kernel_rfl) (by kernel_rfl) (fun _ _ _ h => h) (Or.inl ⟨by rfl, ?_⟩) hHeld ?_; rotate_left; (· (intro w' hSw; go_simp; try with_reducible rfl)); (try simp only [List.getElem_toArray, List.getElem_cons_zero, List.getElem_cons_succ, Act.put, List.setIfInBounds_toArray, List.set_cons_zero, List.set_cons_succ])); (refine wpAnyH_take (i := 7) (v := ?_) rfl (by kernel_rfl) (by kernel_rfl) (by kernel_rfl) (fun _ _ _ h => h) (Or.inl ⟨by rfl, ?_⟩) hHeld ?_; rotate_left; (· (intro w' hSw; go_simp; try with_reducible rfl)); (try simp only [List.getElem_toArray, List.getElem_cons_zero, List.getElem_cons_succ, Act.put, List.setIfInBounds_toArray, List.set_cons_zero, List.set_cons_succ]))
  refine wpAnyH_done (by kernel_rfl) ?_ _
  go_wp2_with fail
  go_ret2
  exact ⟨rfl, HB.out⟩

set_option maxHeartbeats 1600000 in
set_option maxRecDepth 100000 in
theorem implEndPours (r : List Int) (n : Int) (w : World) (h24 : r.length = 24) :
    Calls Try.prog 8 #[row r, .int .i64 n] w (BpPost ptE (-1) r n w) := by
  have HB := Lib.hid ((kept_refl w).alloc (.cells (ints r).toArray 27))
  have H := Has.box w 27 h24 (by omega)
  have hi2 : (Try.prog.info? 27).map (·.size) = some (ints r).length := by rw [ints_len, h24]; kernel_rfl
  have KG := Lib.hid (fun W => gameToTheEnd_any W)
  have KV := Lib.hid (fun W => bestPours_any 39 (-1) ptE ptsE gamE r n W h24)
  rw [row_ints]
  go_enter Try.func8, Try.ntmps8
  go_wp2_with fail
  generalize w.alloc (.cells (ints r).toArray 27) = W0 at *
  refine wp_region_held_drew (S := fun w' => Has w' w.heap.size r 24) (by kernel_rfl) H.drew (fun hHeld => ?_)
  replace HB := Lib.hid (keptDrew8G HB.out)
  clear H
  generalize W0.drew = W1 at *
  (refine wpAnyH_take (i := 1) (v := _) rfl (by kernel_rfl) (by kernel_rfl) (by kernel_rfl) (fun _ _ _ h => h) (yieldsIf_load_mid (by rfl) 27 _ rfl _ _ rfl (ints r) _ (fun w' hSw => hSw.holds.range) Try.underlying27 rfl (hi2)) hHeld ?_; (try simp only [List.getElem_toArray, List.getElem_cons_zero, List.getElem_cons_succ, Act.put, List.setIfInBounds_toArray, List.set_cons_zero, List.set_cons_succ]))
  (refine wpAnyH_take (i := 2) (v := ?_) rfl (by kernel_rfl) (by kernel_rfl) (by kernel_rfl) (fun _ _ _ h => h) (Or.inl ⟨by rfl, ?_⟩) hHeld ?_; rotate_left; (· (intro w' hSw; go_simp; try with_reducible rfl)); (try simp only [List.getElem_toArray, List.getElem_cons_zero, List.getElem_cons_succ, Act.put, List.setIfInBounds_toArray, List.set_cons_zero, List.set_cons_succ]))
  (refine wpAnyH_ready (rs := [0]) (by kernel_rfl) (by simp) ?_; refine AllReadyH.cons (o := _) rfl (fun K hK => ?_) AllReadyH.nil; (simp only [List.getElem_toArray, List.getElem_cons_zero, List.getElem_cons_succ, Region.wanted, if_true]))
  go_simp
  refine (KG.out _).mono ?_
  rintro e w2 ⟨rfl, b2⟩
  dsimp only
  (try simp only [List.getElem_toArray, List.getElem_cons_zero, List.getElem_cons_succ, Act.put, List.setIfInBounds_toArray, List.set_cons_zero, List.set_cons_succ])
  have hH2 := hHeld.below b2
  refine hK.out _ _ hH2 (fun hHeld => ?_)
  clear hK K
  replace HB := Lib.hid (HB.out.call b2)
  (refine wpAnyH_ready (rs := [3]) (by kernel_rfl) (by simp) ?_; refine AllReadyH.cons (o := _) rfl (fun K hK => ?_) AllReadyH.nil; (simp only [List.getElem_toArray, List.getElem_cons_zero, List.getElem_cons_succ, Region.wanted, if_true]))
  go_simp
  refine (KV.out _).mono ?_
  rintro e w3 ⟨v, rfl, q3, b3⟩
  dsimp only
  (try simp only [List.getElem_toArray, List.getElem_cons_zero, List.getElem_cons_succ, Act.put, List.setIfInBounds_toArray, List.set_cons_zero, List.set_cons_succ])
  refine hK.out _ _ (hH2.below b3) (fun hHeld => ?_)
  clear hK K
  have hs3 := HB.out.size
  replace HB := Lib.hid (HB.out.call b3)
  (refine wpAnyH_take (i := 4) (v := ?_) rfl (by kernel_rfl) (by kernel_rfl) (by kernel_rfl) (fun _ _ _ h => h) (Or.inl ⟨by rfl, ?_⟩) hHeld ?_; rotate_left; (· (intro w' hSw; go_simp; try with_reducible rfl)); (try simp only [List.getElem_toArray, List.getElem_cons_zero, List.getElem_cons_succ, Act.put, List.setIfInBounds_toArray, List.set_cons_zero, List.set_cons_succ])); (refine wpAnyH_take (i := 5) (v := ?_) rfl (by kernel_rfl) (by kernel_rfl) (by kernel_rfl) (fun _ _ _ h => h) (Or.inl ⟨by rfl, ?_⟩) hHeld ?_; rotate_left; (· (intro w' hSw; go_simp; try with_reducible rfl)); (try simp only [List.getElem_toArray, List.getElem_cons_zero, List.getElem_cons_succ, Act.put, List.setIfInBounds_toArray, List.set_cons_zero, List.set_cons_succ])); (refine wpAnyH_take (i := 6) (v := ?_) rfl (by kernel_rfl) (by kernel_rfl) (by kernel_rfl) (fun _ _ _ h => h) (Or.inl ⟨by rfl, ?_⟩) hHeld ?_; rotate_left; (· (intro w' hSw; go_simp; try with_reducible rfl)); (try simp only [List.getElem_toArray, List.getElem_cons_zero, List.getElem_cons_succ, Act.put, List.setIfInBounds_toArray, List.set_cons_zero, List.set_cons_succ])); (refine wpAnyH_take (i := 7) (v := ?_) rfl (by kernel_rfl) (by kernel_rfl) (by kernel_rfl) (fun _ _ _ h => h) (Or.inl ⟨by rfl, ?_⟩) hHeld ?_; rotate_left; (· (intro w' hSw; go_simp; try with_reducible rfl)); (try simp only [List.getElem_toArray, List.getElem_cons_zero, List.getElem_cons_succ, Act.put, List.setIfInBounds_toArray, List.set_cons_zero, List.set_cons_succ]))
  refine wpAnyH_done (by kernel_rfl) ?_ _
  go_wp2_with fail
  go_ret2
  exact ⟨v, rfl, q3.mono (by omega), HB.out⟩

end Go.Proofs.Ytnldnjnnjfbhnaa.base
