/-
  The bounds along a path, on the model's side, walked.
-/
import Derived.Test.YtmhkjakgdfadbabPathI
import Derived.Test.YtmhkjakgdfadbabGridZ
namespace Go.Proofs.Ytmhkjakgdfadbab.base
open Go.ChangeShapes Go.WideShapes Go.ChangeAt Go.RowKit
set_option linter.unusedVariables false
set_option linter.unusedSimpArgs false

def AlongPost (ns fs : List Int) (n : Nat) (w : World) (e : Ending) (w' : World) : Prop := ∃ v : Value, e = .returned (.tuple #[v, .bool (pathOk ns n)]) ∧ Nu w' (w.heap.size + 1) v (alongN ns fs n) (alongF ns fs n) ∧ Kept w w'
theorem Nu.empty (w : World) (b : Nat) (hb : b ≤ w.heap.size) : Nu (w.alloc (.cells #[] 3)) b (.slice (some ⟨w.heap.size, 0, Option.none⟩) 0 0) 0 [] := by
  have := World.ownsRow_made (base := b) (e := 3) (size := 1) w #[] 0 hb (by unfold maxLen; omega) (by simp)
  simpa [Nu, ints] using this
theorem Nu.one (w : World) (b : Nat) (hb : b ≤ w.heap.size) (x : Int) : Nu (w.alloc (.cells #[.int .i64 x] 3)) b (.slice (some ⟨w.heap.size, 0, Option.none⟩) 1 1) 1 [x] :=
  World.ownsRow_lit w #[.int .i64 x] 1 hb (by unfold maxLen; omega) rfl
theorem Nu.aside {w : World} {b n : Nat} {v : Value} {fs : List Int} (h : Nu w b v n fs) (c o : Nat) (vs : List Value) (hne : ∀ k, v.ownBlock = some k → k ≠ c) : Nu (w.setCells c o vs) b v n fs := by
  have hb := below_setCells (B := 0) c (Nat.zero_le _) vs o w w (Below.refl _ _)
  exact h.grownP (r := some c) ⟨hb.os, hb.tape, hb.output, Nat.le_of_eq (size_setCells c vs o w).symm, fun i hi hn => World.heap_setCells_other w c o vs hi (fun e => hn (by rw [e]))⟩ (fun k hk => .inr (fun e => by injection hk with hk; subst hk; exact hne _ e rfl))
theorem along_not {ns fs : List Int} {n : Nat} (h : pathOk ns n = false) : alongN ns fs n = 0 ∧ alongF ns fs n = [] := by
  unfold alongN alongF; rw [h]; exact ⟨if_neg (by decide), if_neg (by decide)⟩
theorem along_yes {ns fs : List Int} {n k : Nat} (h : pathOk ns n = true) (hs : stopW (canAt ns fs) n = k) : alongN ns fs n = k + 1 ∧ alongF ns fs n = alUp ns fs k := by
  unfold alongN alongF; rw [h, hs]; exact ⟨if_pos rfl, if_pos rfl⟩
theorem alUp_next (ns fs : List Int) (k : Nat) : alUp ns fs (k + 1) = alUp ns fs k ++ [bndA (doR ns fs (k + 1))] := rfl

set_option maxHeartbeats 3200000 in
set_option maxRecDepth 100000 in
theorem specAlong (ns fs : List Int) (v : Value) (n b : Nat) (w : World) (h24 : ns.length = 24) (hn : n ≤ 1048576) (h : Rw w b v n fs) :
    Calls Try.prog 16 #[row ns, v] w (AlongPost ns fs n w) := by
  obtain ⟨i0, hi, hz0, hz1, hz2⟩ := infoN_parts infoN
  have HB := Lib.hid ((kept_refl w).alloc (.cells (ints ns).toArray 27))
  have H := Has.box w 27 h24 (by omega)
  have HR0 := Lib.hid (h.alloc (.cells (ints ns).toArray 27))
  have AP := Lib.hid (fun hn0 k hk => (h.ownlt hn0 k hk).2)
  obtain ⟨a, cap, rfl⟩ := h.shape
  have hi00 : (Try.prog.info? 27).map (·.size) = some 24 := by kernel_rfl
  have hip : ∀ x y : Int, (Try.prog.info? 44).map (·.size) = some (ints [x, y]).length := fun x y => by kernel_rfl
  clear h
  rw [row_ints]
  go_enter Try.func16, Try.ntmps16
  go_wp2_with (refine load_has rfl 27 _ rfl _ rfl ?_ 24 ?_ _ Try.underlying27 rfl ?_ ?_; rotate_left; (· (repeat (first | (with_reducible assumption) | ((with_reducible refine Has.box _ _ ?_ ?_) <;> (first | assumption | decide)) | (with_reducible refine Has.alloc ?_ _) | ((with_reducible refine Has.putOther ?_ _ _ ?_); rotate_left; omega; skip) | ((with_reducible refine Has.below ?_ ?_); rotate_left; assumption)))); (· kernel_rfl))
  refine (l2Rack_any ns _ h24).mono ?_
  rintro e w1 ⟨rfl, b1⟩
  replace H := H.below b1
  replace HB := Lib.hid (HB.out.call b1)
  replace HR0 := Lib.hid (HR0.out.below b1)
  have hs1 := b1.size
  rw [size1] at hs1
  clear b1
  by_cases hv : vR ns = true
  rotate_left
  · have hf : vR ns = false := by simpa using hv
    have E : Hid (pathOk ns n = false) := Lib.hid (by unfold pathOk; rw [hf]; rfl)
    have E2 := Lib.hid (along_not (fs := fs) E.out)
    have P0 := Lib.hid (Nu.empty w1 (w.heap.size + 1) hs1)
    have HB2 := Lib.hid (HB.out.alloc (.cells #[] 3))
    rw [hf]
    clear hf hv
    go_wp2_with fail
    go_ret2
    exact ⟨_, by rw [E.out]; rfl, by rw [E2.out.1, E2.out.2]; exact P0.out, HB2.out⟩
  rw [hv]
  have HV := Lib.hid hv
  clear hv
  by_cases hn60 : n ≤ 60
  rotate_left
  · have E : Hid (pathOk ns n = false) := Lib.hid (by unfold pathOk; rw [decide_eq_false hn60, Bool.and_false])
    have E2 := Lib.hid (along_not (fs := fs) E.out)
    have P0 := Lib.hid (Nu.empty w1 (w.heap.size + 1) hs1)
    have HB2 := Lib.hid (HB.out.alloc (.cells #[] 3))
    have hni : (60 : Int) < (n : Int) := by omega
    clear hn60
    go_wp2_with fail
    go_ret2
    exact ⟨_, by rw [E.out]; rfl, by rw [E2.out.1, E2.out.2]; exact P0.out, HB2.out⟩
  have E : Hid (pathOk ns n = true) := Lib.hid (by unfold pathOk; rw [HV.out, decide_eq_true hn60]; rfl)
  have hni : (n : Int) ≤ 60 := by omega
  have hnf : decide ((60 : Int) < (n : Int)) = false := by simp; omega
  have H24 := Lib.hid h24
  have V0 : Hid (vR (doR ns fs 0) = true) := HV
  have T0 : Hid (stopW (canAt ns fs) 0 = 0) := Lib.hid rfl
  clear hn hn60
  go_wp2_with (refine load_has rfl 27 _ rfl _ rfl ?_ 24 ?_ _ Try.underlying27 rfl ?_ ?_; rotate_left; (· (repeat (first | (with_reducible assumption) | ((with_reducible refine Has.box _ _ ?_ ?_) <;> (first | assumption | decide)) | (with_reducible refine Has.alloc ?_ _) | ((with_reducible refine Has.putOther ?_ _ _ ?_); rotate_left; omega; skip) | ((with_reducible refine Has.below ?_ ?_); rotate_left; assumption)))); (· kernel_rfl))
  refine (l6Bound_A ns _ h24 HV.out).mono ?_
  rintro e w2 ⟨rfl, b2⟩
  have hs2 := b2.size
  have P1 := Lib.hid (Nu.one w2 (w.heap.size + 1) (by omega) (bndA ns))
  replace H := (H.below b2).alloc (.cells #[.int .i64 (bndA ns)] 3)
  replace HR0 := Lib.hid ((HR0.out.below b2).alloc (.cells #[.int .i64 (bndA ns)] 3))
  replace HB := Lib.hid ((HB.out.call b2).alloc (.cells #[.int .i64 (bndA ns)] 3))
  clear b2 h24 hs1 hs2
  go_wp2_with fail
  clear hnf
  go_loopw [6, 7] (fun u i wr => ∃ k : Nat, k ≤ n ∧ i = .int .i64 k ∧ Has wr w.heap.size (doR ns fs k) 24 ∧ Hid (Rw wr b (.slice a n cap) n fs) ∧ Hid (Nu wr (w.heap.size + 1) u (k + 1) (alUp ns fs k)) ∧ Hid (Kept w wr) ∧ Hid (vR (doR ns fs k) = true) ∧ Hid (stopW (canAt ns fs) k = k)) (fun _ i _ => n - (intOf i).toNat)
  case atStart => exact ⟨0, by omega, rfl, H, HR0, P1, HB, V0, T0⟩
  case round =>
    clear H HR0 P1 HB V0 T0
    obtain ⟨k, hk, rfl, G1, GR, GU, GB, CV, ST⟩ := hrel
    by_cases hlt : k < n
    · have hgw := AP.out (by omega)
      have ki : (k : Int) < ((n : Nat) : Int) := by omega
      have k0 : (0 : Int) ≤ (k : Int) := by omega
      obtain ⟨g, cap2, hv', _, _⟩ := GR.out.form (by omega)
      injection hv' with ha _ hcap
      subst ha
      subst hcap
      have hlt := GR.out.lt (by omega)
      have C0 : Hid (∀ w', Kept wr w' → w'.cell? ⟨g, k * 2, none⟩ = some (.int .i64 (fs.getD (k * 2) 0))) := Lib.hid (fun w' hw => (GR.out.below hw).cell (k * 2) (by omega))
      have C1 : Hid (∀ w', Kept wr w' → w'.cell? ⟨g, k * 2 + 1, none⟩ = some (.int .i64 (fs.getD (k * 2 + 1) 0))) := Lib.hid (fun w' hw => (GR.out.below hw).cell (k * 2 + 1) (by omega))
      have C24 := Lib.hid (doR_len H24.out fs k)
      have ER := Lib.hid (doR_next (ns := ns) (fs := fs) k)
      have EA := Lib.hid (alUp_next ns fs k)
      have YES := Lib.hid (fun (h : canAt ns fs k = true) => stop_go ST.out h)
      have NO := Lib.hid (fun (h : canAt ns fs k = false) => along_yes (ns := ns) (fs := fs) E.out (stop_end ST.out h n (by omega)))
      have EC : canAt ns fs k = pourOk (doR ns fs k) (fs.getD (k * 2) 0) (fs.getD (k * 2 + 1) 0) := rfl
      rw [EC] at YES NO
      clear EC
      generalize fs.getD (k * 2) 0 = x at *
      generalize fs.getD (k * 2 + 1) 0 = y at *
      generalize doR ns fs k = C at *
      have RG : Hid (∀ w', Kept wr w' → w'.rangeAt g (k * 2) (ints [x, y])) := Lib.hid (fun w' hw => range_two (C0.out w' hw) (C1.out w' hw))
      have hi2 := hip x y
      have hi1 : (Try.prog.info? 27).map (·.size) = some (ints C).length := by rw [ints_len, C24.out]; exact hi00
      have hgb := hgw g rfl
      go_wp2_with fail
      refine wp_region_held_drew (S := fun w' => Kept wr w') (by kernel_rfl) ?_ (fun hHeld => ?_)
      · exact (kept_refl wr).drewN 1
      (refine wpAnyH_take (i := 0) (v := ?_) rfl (by kernel_rfl) (by kernel_rfl) (by kernel_rfl) (fun _ _ _ h => h) (Or.inl ⟨by rfl, ?_⟩) hHeld ?_; rotate_left; (· (intro w' hSw; go_simp; try with_reducible rfl)); (try simp only [List.getElem_toArray, List.getElem_cons_zero, List.getElem_cons_succ, Act.put, List.setIfInBounds_toArray, List.set_cons_zero, List.set_cons_succ])); (refine wpAnyH_take (i := 1) (v := ?_) rfl (by kernel_rfl) (by kernel_rfl) (by kernel_rfl) (fun _ _ _ h => h) (Or.inl ⟨by rfl, ?_⟩) hHeld ?_; rotate_left; (· (intro w' hSw; go_simp; try with_reducible rfl)); (try simp only [List.getElem_toArray, List.getElem_cons_zero, List.getElem_cons_succ, Act.put, List.setIfInBounds_toArray, List.set_cons_zero, List.set_cons_succ])); (refine wpAnyH_take (i := 2) (v := ?_) rfl (by kernel_rfl) (by kernel_rfl) (by kernel_rfl) (fun _ _ _ h => h) (Or.inl ⟨by rfl, ?_⟩) hHeld ?_; rotate_left; (· (intro w' hSw; go_simp; try with_reducible rfl)); (try simp only [List.getElem_toArray, List.getElem_cons_zero, List.getElem_cons_succ, Act.put, List.setIfInBounds_toArray, List.set_cons_zero, List.set_cons_succ])); (refine wpAnyH_take (i := 3) (v := ?_) rfl (by kernel_rfl) (by kernel_rfl) (by kernel_rfl) (fun _ _ _ h => h) (Or.inl ⟨by rfl, ?_⟩) hHeld ?_; rotate_left; (· (intro w' hSw; go_simp; try with_reducible rfl)); (try simp only [List.getElem_toArray, List.getElem_cons_zero, List.getElem_cons_succ, Act.put, List.setIfInBounds_toArray, List.set_cons_zero, List.set_cons_succ])); (refine wpAnyH_take (i := 4) (v := ?_) rfl (by kernel_rfl) (by kernel_rfl) (by kernel_rfl) (fun _ _ _ h => h) (Or.inl ⟨by rfl, ?_⟩) hHeld ?_; rotate_left; (· (intro w' hSw; go_simp; try with_reducible rfl)); (try simp only [List.getElem_toArray, List.getElem_cons_zero, List.getElem_cons_succ, Act.put, List.setIfInBounds_toArray, List.set_cons_zero, List.set_cons_succ])); (refine wpAnyH_take (i := 6) (v := ?_) rfl (by kernel_rfl) (by kernel_rfl) (by kernel_rfl) (fun _ _ _ h => h) (Or.inl ⟨by rfl, ?_⟩) hHeld ?_; rotate_left; (· (intro w' hSw; go_simp; try with_reducible rfl)); (try simp only [List.getElem_toArray, List.getElem_cons_zero, List.getElem_cons_succ, Act.put, List.setIfInBounds_toArray, List.set_cons_zero, List.set_cons_succ])); (refine wpAnyH_take (i := 7) (v := ?_) rfl (by kernel_rfl) (by kernel_rfl) (by kernel_rfl) (fun _ _ _ h => h) (Or.inl ⟨by rfl, ?_⟩) hHeld ?_; rotate_left; (· (intro w' hSw; go_simp; try with_reducible rfl)); (try simp only [List.getElem_toArray, List.getElem_cons_zero, List.getElem_cons_succ, Act.put, List.setIfInBounds_toArray, List.set_cons_zero, List.set_cons_succ])); (refine wpAnyH_take (i := 8) (v := ?_) rfl (by kernel_rfl) (by kernel_rfl) (by kernel_rfl) (fun _ _ _ h => h) (Or.inl ⟨by rfl, ?_⟩) hHeld ?_; rotate_left; (· (intro w' hSw; go_simp; try with_reducible rfl)); (try simp only [List.getElem_toArray, List.getElem_cons_zero, List.getElem_cons_succ, Act.put, List.setIfInBounds_toArray, List.set_cons_zero, List.set_cons_succ]))
      (refine wpAnyH_take (i := 5) (v := _) rfl (by kernel_rfl) (by kernel_rfl) (by kernel_rfl) (fun _ _ _ h => h) (yieldsIf_load_mid (by rfl) 27 _ rfl _ _ rfl (ints C) _ (fun w' hSw => (G1.below hSw).holds.range) Try.underlying27 rfl (hi1)) hHeld ?_; (try simp only [List.getElem_toArray, List.getElem_cons_zero, List.getElem_cons_succ, Act.put, List.setIfInBounds_toArray, List.set_cons_zero, List.set_cons_succ]))
      (refine wpAnyH_take (i := 9) (v := _) rfl (by kernel_rfl) (by kernel_rfl) (by kernel_rfl) (fun _ _ _ h => h) (yieldsIf_load_mid (by rfl) 44 _ rfl _ _ rfl (ints [x, y]) _ (fun w' hSw => RG.out w' hSw) Try.underlying44 rfl (hi2)) hHeld ?_; (try simp only [List.getElem_toArray, List.getElem_cons_zero, List.getElem_cons_succ, Act.put, List.setIfInBounds_toArray, List.set_cons_zero, List.set_cons_succ]))
      (refine wpAnyH_ready (rs := [10]) (by kernel_rfl) (by simp) ?_; refine AllReadyH.cons (o := _) rfl (fun K hK => ?_) AllReadyH.nil; (simp only [List.getElem_toArray, List.getElem_cons_zero, List.getElem_cons_succ, Region.wanted, if_true]))
      go_simp
      refine (l6Can_any C x y _ C24.out CV.out).mono ?_
      rintro e wc ⟨rfl, bc⟩
      dsimp only
      (try simp only [List.getElem_toArray, List.getElem_cons_zero, List.getElem_cons_succ, Act.put, List.setIfInBounds_toArray, List.set_cons_zero, List.set_cons_succ])
      have KC := Kept.call hHeld bc
      refine hK.out _ _ KC (fun hHeld => ?_)
      clear hK K bc
      (refine wpAnyH_take (i := 11) (v := ?_) rfl (by kernel_rfl) (by kernel_rfl) (by kernel_rfl) (fun _ _ _ h => h) (Or.inl ⟨by rfl, ?_⟩) hHeld ?_; rotate_left; (· (intro w' hSw; go_simp; try with_reducible rfl)); (try simp only [List.getElem_toArray, List.getElem_cons_zero, List.getElem_cons_succ, Act.put, List.setIfInBounds_toArray, List.set_cons_zero, List.set_cons_succ]))
      refine wpAnyH_done (by kernel_rfl) ?_ _
      clear hHeld
      by_cases hp : pourOk C x y = true
      · have PV := (pour_facts C24.out hp).valid
        have SN := Lib.hid (YES.out hp)
        obtain ⟨p, q, rfl, rfl, p6, q6, hne, hc⟩ := pourOk_parts hp
        rw [hp]
        rw [pourR_T hp] at PV ER
        have R24 := pourR_len C24.out (p : Int) (q : Int)
        rw [pourR_T hp] at R24
        have RV := Lib.hid PV
        have HNE := Lib.hid hne
        have HC := Lib.hid hc
        clear hp PV hne hc
        generalize hR : pourT C p q = R at *
        have HR := Lib.hid hR
        clear hR
        have HR24 := Lib.hid R24
        have l2 : (ints R).length = 24 := by rw [ints_len]; exact R24
        have D0 : Hid (∀ w', Kept wc w' → w'.cell? ⟨g, k * 2, none⟩ = some (.int .i64 (p : Int))) := Lib.hid (fun w' hw => C0.out w' (KC.call hw))
        have D1 : Hid (∀ w', Kept wc w' → w'.cell? ⟨g, k * 2 + 1, none⟩ = some (.int .i64 (q : Int))) := Lib.hid (fun w' hw => C1.out w' (KC.call hw))
        replace G1 := G1.below KC
        replace GR := Lib.hid (GR.out.below KC)
        replace GU := Lib.hid (GU.out.below KC)
        replace GB := Lib.hid (GB.out.call KC)
        clear KC C0 C1 RG YES NO
        have hi0 := hi00
        go_wp2_with fail
        refine wp_region_held_drew (S := fun w' => Kept wc w') (by kernel_rfl) ?_ (fun hHeld => ?_)
        · exact (kept_refl wc).drewN 1
        (refine wpAnyH_take (i := 1) (v := ?_) rfl (by kernel_rfl) (by kernel_rfl) (by kernel_rfl) (fun _ _ _ h => h) (Or.inl ⟨by rfl, ?_⟩) hHeld ?_; rotate_left; (· (intro w' hSw; go_simp; try with_reducible rfl)); (try simp only [List.getElem_toArray, List.getElem_cons_zero, List.getElem_cons_succ, Act.put, List.setIfInBounds_toArray, List.set_cons_zero, List.set_cons_succ])); (refine wpAnyH_take (i := 2) (v := ?_) rfl (by kernel_rfl) (by kernel_rfl) (by kernel_rfl) (fun _ _ _ h => h) (Or.inl ⟨by rfl, ?_⟩) hHeld ?_; rotate_left; (· (intro w' hSw; go_simp; try with_reducible rfl)); (try simp only [List.getElem_toArray, List.getElem_cons_zero, List.getElem_cons_succ, Act.put, List.setIfInBounds_toArray, List.set_cons_zero, List.set_cons_succ])); (refine wpAnyH_take (i := 3) (v := ?_) rfl (by kernel_rfl) (by kernel_rfl) (by kernel_rfl) (fun _ _ _ h => h) (Or.inl ⟨by rfl, ?_⟩) hHeld ?_; rotate_left; (· (intro w' hSw; go_simp; try with_reducible rfl)); (try simp only [List.getElem_toArray, List.getElem_cons_zero, List.getElem_cons_succ, Act.put, List.setIfInBounds_toArray, List.set_cons_zero, List.set_cons_succ])); (refine wpAnyH_take (i := 4) (v := ?_) rfl (by kernel_rfl) (by kernel_rfl) (by kernel_rfl) (fun _ _ _ h => h) (Or.inl ⟨by rfl, ?_⟩) hHeld ?_; rotate_left; (· (intro w' hSw; go_simp; try with_reducible rfl)); (try simp only [List.getElem_toArray, List.getElem_cons_zero, List.getElem_cons_succ, Act.put, List.setIfInBounds_toArray, List.set_cons_zero, List.set_cons_succ])); (refine wpAnyH_take (i := 6) (v := ?_) rfl (by kernel_rfl) (by kernel_rfl) (by kernel_rfl) (fun _ _ _ h => h) (Or.inl ⟨by rfl, ?_⟩) hHeld ?_; rotate_left; (· (intro w' hSw; go_simp; try with_reducible rfl)); (try simp only [List.getElem_toArray, List.getElem_cons_zero, List.getElem_cons_succ, Act.put, List.setIfInBounds_toArray, List.set_cons_zero, List.set_cons_succ])); (refine wpAnyH_take (i := 7) (v := ?_) rfl (by kernel_rfl) (by kernel_rfl) (by kernel_rfl) (fun _ _ _ h => h) (Or.inl ⟨by rfl, ?_⟩) hHeld ?_; rotate_left; (· (intro w' hSw; go_simp; try with_reducible rfl)); (try simp only [List.getElem_toArray, List.getElem_cons_zero, List.getElem_cons_succ, Act.put, List.setIfInBounds_toArray, List.set_cons_zero, List.set_cons_succ])); (refine wpAnyH_take (i := 8) (v := ?_) rfl (by kernel_rfl) (by kernel_rfl) (by kernel_rfl) (fun _ _ _ h => h) (Or.inl ⟨by rfl, ?_⟩) hHeld ?_; rotate_left; (· (intro w' hSw; go_simp; try with_reducible rfl)); (try simp only [List.getElem_toArray, List.getElem_cons_zero, List.getElem_cons_succ, Act.put, List.setIfInBounds_toArray, List.set_cons_zero, List.set_cons_succ])); (refine wpAnyH_take (i := 9) (v := ?_) rfl (by kernel_rfl) (by kernel_rfl) (by kernel_rfl) (fun _ _ _ h => h) (Or.inl ⟨by rfl, ?_⟩) hHeld ?_; rotate_left; (· (intro w' hSw; go_simp; try with_reducible rfl)); (try simp only [List.getElem_toArray, List.getElem_cons_zero, List.getElem_cons_succ, Act.put, List.setIfInBounds_toArray, List.set_cons_zero, List.set_cons_succ]))
        (refine wpAnyH_take (i := 0) (v := _) rfl (by kernel_rfl) (by kernel_rfl) (by kernel_rfl) (fun _ _ _ h => h) (yieldsIf_load_mid (by rfl) 27 _ rfl _ _ rfl (ints C) _ (fun w' hSw => (G1.below hSw).holds.range) Try.underlying27 rfl (hi1)) hHeld ?_; (try simp only [List.getElem_toArray, List.getElem_cons_zero, List.getElem_cons_succ, Act.put, List.setIfInBounds_toArray, List.set_cons_zero, List.set_cons_succ]))
        refine wpAnyH_take (i := 5) (v := .int .i64 (p : Int)) rfl (by kernel_rfl) (by kernel_rfl) (by kernel_rfl) (fun _ _ _ h => h) (Or.inl ⟨by rfl, ?_⟩) hHeld ?_
        · intro w' hSw
          have cc := D0.out w' hSw
          go_simp
        (try simp only [List.getElem_toArray, List.getElem_cons_zero, List.getElem_cons_succ, Act.put, List.setIfInBounds_toArray, List.set_cons_zero, List.set_cons_succ])
        refine wpAnyH_take (i := 10) (v := .int .i64 (q : Int)) rfl (by kernel_rfl) (by kernel_rfl) (by kernel_rfl) (fun _ _ _ h => h) (Or.inl ⟨by rfl, ?_⟩) hHeld ?_
        · intro w' hSw
          have cc := D1.out w' hSw
          go_simp
        (try simp only [List.getElem_toArray, List.getElem_cons_zero, List.getElem_cons_succ, Act.put, List.setIfInBounds_toArray, List.set_cons_zero, List.set_cons_succ])
        refine wpAnyH_ready (rs := [11, 15]) (by kernel_rfl) (by simp) ?_
        refine AllReadyH.cons (o := _) rfl (fun K hK => ?callFirst) (AllReadyH.cons (o := _) rfl (fun K hK => ?makeFirst) AllReadyH.nil)
        case' callFirst =>
          (simp only [List.getElem_toArray, List.getElem_cons_zero, List.getElem_cons_succ, Region.wanted, if_true])
          go_simp
          refine (l2Pour_any C p q _ C24.out CV.out p6 q6 HNE.out HC.out).mono ?_
          rintro e wp2 ⟨rfl, bp2⟩
          rw [HR.out]
          dsimp only
          (try simp only [List.getElem_toArray, List.getElem_cons_zero, List.getElem_cons_succ, Act.put, List.setIfInBounds_toArray, List.set_cons_zero, List.set_cons_succ])
          have KW := Kept.call hHeld bp2
          refine hK.out _ _ KW (fun hHeld => ?_)
          clear hK K bp2
          (refine wpAnyH_take (i := 12) (v := ?_) rfl (by kernel_rfl) (by kernel_rfl) (by kernel_rfl) (fun _ _ _ h => h) (Or.inl ⟨by rfl, ?_⟩) hHeld ?_; rotate_left; (· (intro w' hSw; go_simp; try with_reducible rfl)); (try simp only [List.getElem_toArray, List.getElem_cons_zero, List.getElem_cons_succ, Act.put, List.setIfInBounds_toArray, List.set_cons_zero, List.set_cons_succ])); (refine wpAnyH_take (i := 13) (v := ?_) rfl (by kernel_rfl) (by kernel_rfl) (by kernel_rfl) (fun _ _ _ h => h) (Or.inl ⟨by rfl, ?_⟩) hHeld ?_; rotate_left; (· (intro w' hSw; go_simp; try with_reducible rfl)); (try simp only [List.getElem_toArray, List.getElem_cons_zero, List.getElem_cons_succ, Act.put, List.setIfInBounds_toArray, List.set_cons_zero, List.set_cons_succ])); (refine wpAnyH_take (i := 14) (v := ?_) rfl (by kernel_rfl) (by kernel_rfl) (by kernel_rfl) (fun _ _ _ h => h) (Or.inl ⟨by rfl, ?_⟩) hHeld ?_; rotate_left; (· (intro w' hSw; go_simp; try with_reducible rfl)); (try simp only [List.getElem_toArray, List.getElem_cons_zero, List.getElem_cons_succ, Act.put, List.setIfInBounds_toArray, List.set_cons_zero, List.set_cons_succ]))
          (refine wpAnyH_ready (rs := [15]) (by kernel_rfl) (by simp) ?_; refine AllReadyH.cons (o := _) rfl (fun K hK => ?_) AllReadyH.nil; (simp only [List.getElem_toArray, List.getElem_cons_zero, List.getElem_cons_succ, Region.wanted, if_true]))
          go_simp
          have F9 := Has.zero24 wp2 27
          have h9 := KW.size
          replace KW := KW.alloc (.cells #[.int .i64 0, .int .i64 0, .int .i64 0, .int .i64 0, .int .i64 0, .int .i64 0, .int .i64 0, .int .i64 0, .int .i64 0, .int .i64 0, .int .i64 0, .int .i64 0, .int .i64 0, .int .i64 0, .int .i64 0, .int .i64 0, .int .i64 0, .int .i64 0, .int .i64 0, .int .i64 0, .int .i64 0, .int .i64 0, .int .i64 0, .int .i64 0] 27)
          refine hK.out _ _ KW (fun hHeld => ?_)
          clear hK K
          generalize wp2.alloc (.cells #[.int .i64 0, .int .i64 0, .int .i64 0, .int .i64 0, .int .i64 0, .int .i64 0, .int .i64 0, .int .i64 0, .int .i64 0, .int .i64 0, .int .i64 0, .int .i64 0, .int .i64 0, .int .i64 0, .int .i64 0, .int .i64 0, .int .i64 0, .int .i64 0, .int .i64 0, .int .i64 0, .int .i64 0, .int .i64 0, .int .i64 0, .int .i64 0] 27) = wp3 at *
          generalize wp2.heap.size = b9 at *
        case' makeFirst =>
          (simp only [List.getElem_toArray, List.getElem_cons_zero, List.getElem_cons_succ, Region.wanted, if_true])
          go_simp
          have F9 : Has _ wc.heap.size z24 24 := Has.zero24 wc.drew 27
          have KW := Kept.alloc hHeld (.cells #[.int .i64 0, .int .i64 0, .int .i64 0, .int .i64 0, .int .i64 0, .int .i64 0, .int .i64 0, .int .i64 0, .int .i64 0, .int .i64 0, .int .i64 0, .int .i64 0, .int .i64 0, .int .i64 0, .int .i64 0, .int .i64 0, .int .i64 0, .int .i64 0, .int .i64 0, .int .i64 0, .int .i64 0, .int .i64 0, .int .i64 0, .int .i64 0] 27)
          obtain ⟨b9, hb9⟩ : ∃ b : Nat, b = wc.heap.size := ⟨_, rfl⟩
          have h9 : wc.heap.size ≤ b9 := by omega
          rw [← hb9] at F9
          refine hK.out _ _ KW (fun hHeld => ?_)
          clear hK K
          (refine wpAnyH_ready (rs := [11]) (by kernel_rfl) (by simp) ?_; refine AllReadyH.cons (o := _) rfl (fun K hK => ?_) AllReadyH.nil; (simp only [List.getElem_toArray, List.getElem_cons_zero, List.getElem_cons_succ, Region.wanted, if_true]))
          go_simp
          refine (l2Pour_any C p q _ C24.out CV.out p6 q6 HNE.out HC.out).mono ?_
          rintro e wp3 ⟨rfl, bp2⟩
          rw [HR.out]
          dsimp only
          (try simp only [List.getElem_toArray, List.getElem_cons_zero, List.getElem_cons_succ, Act.put, List.setIfInBounds_toArray, List.set_cons_zero, List.set_cons_succ])
          replace F9 := F9.below bp2
          replace KW := KW.call bp2
          refine hK.out _ _ KW (fun hHeld => ?_)
          clear hK K bp2
          (refine wpAnyH_take (i := 12) (v := ?_) rfl (by kernel_rfl) (by kernel_rfl) (by kernel_rfl) (fun _ _ _ h => h) (Or.inl ⟨by rfl, ?_⟩) hHeld ?_; rotate_left; (· (intro w' hSw; go_simp; try with_reducible rfl)); (try simp only [List.getElem_toArray, List.getElem_cons_zero, List.getElem_cons_succ, Act.put, List.setIfInBounds_toArray, List.set_cons_zero, List.set_cons_succ])); (refine wpAnyH_take (i := 13) (v := ?_) rfl (by kernel_rfl) (by kernel_rfl) (by kernel_rfl) (fun _ _ _ h => h) (Or.inl ⟨by rfl, ?_⟩) hHeld ?_; rotate_left; (· (intro w' hSw; go_simp; try with_reducible rfl)); (try simp only [List.getElem_toArray, List.getElem_cons_zero, List.getElem_cons_succ, Act.put, List.setIfInBounds_toArray, List.set_cons_zero, List.set_cons_succ])); (refine wpAnyH_take (i := 14) (v := ?_) rfl (by kernel_rfl) (by kernel_rfl) (by kernel_rfl) (fun _ _ _ h => h) (Or.inl ⟨by rfl, ?_⟩) hHeld ?_; rotate_left; (· (intro w' hSw; go_simp; try with_reducible rfl)); (try simp only [List.getElem_toArray, List.getElem_cons_zero, List.getElem_cons_succ, Act.put, List.setIfInBounds_toArray, List.set_cons_zero, List.set_cons_succ]))
          rw [← hb9]
          clear hb9
        all_goals
          (refine wpAnyH_ready (rs := [16]) (by kernel_rfl) (by simp) ?_; refine AllReadyH.cons (o := _) rfl (fun K hK => ?_) AllReadyH.nil; (simp only [List.getElem_toArray, List.getElem_cons_zero, List.getElem_cons_succ, Region.wanted, if_true]))
          refine wp_store_mid _ _ _ rfl _ _ (ints R).toArray rfl rfl (by simpa [l2] using F9.there) (by simpa [l2] using hi0) (all_oneCell_toArray (ints_one _)) ?_
          (try simp only [List.getElem_toArray, List.getElem_cons_zero, List.getElem_cons_succ, Act.put, List.setIfInBounds_toArray, List.set_cons_zero, List.set_cons_succ, List.toList_toArray])
          replace F9 := F9.putAll R R24
          replace KW := KW.puts (b := b9) h9 0 (ints R)
          refine hK.out _ _ KW (fun hHeld => ?_)
          clear hK K
          (refine wpAnyH_take (i := 17) (v := ?_) rfl (by kernel_rfl) (by kernel_rfl) (by kernel_rfl) (fun _ _ _ h => h) (Or.inl ⟨by rfl, ?_⟩) hHeld ?_; rotate_left; (· (intro w' hSw; go_simp; try with_reducible rfl)); (try simp only [List.getElem_toArray, List.getElem_cons_zero, List.getElem_cons_succ, Act.put, List.setIfInBounds_toArray, List.set_cons_zero, List.set_cons_succ]))
          refine wpAnyH_done (by kernel_rfl) ?_ _
          clear hHeld
          generalize wp3.setCells b9 0 (ints R) = wp4 at *
          have lGb := G1.lt
          have hb9 : w.heap.size < b9 := by omega
          have ownu := Lib.hid (fun z hz => (GU.out.own z hz))
          replace G1 := G1.below KW
          replace GR := Lib.hid (GR.out.below KW)
          replace GU := Lib.hid (GU.out.below KW)
          replace GB := Lib.hid (GB.out.call KW)
          clear KW D0 D1
          have M1 : Has (wp4.setCells w.heap.size 0 (ints R)) w.heap.size R 24 := G1.putAll R R24
          have M2 := Lib.hid (GR.out.puts w.heap.size 0 (ints R) (fun _ e => by simp only [Value.ownBlock, Option.some.injEq] at e; omega))
          have M4 := Lib.hid (GU.out.aside w.heap.size 0 (ints R) (fun z hz e => by have := (ownu.out z hz).1; omega))
          have M3 := Lib.hid (GB.out.puts (b := w.heap.size) (Nat.le_refl _) 0 (ints R))
          clear GR GU GB
          go_wp2_with (first | (refine load_has rfl 27 _ rfl _ rfl ?_ 24 ?_ _ Try.underlying27 rfl ?_ ?_; rotate_left; (· (repeat (first | (with_reducible assumption) | ((with_reducible refine Has.box _ _ ?_ ?_) <;> (first | assumption | decide)) | (with_reducible refine Has.alloc ?_ _) | ((with_reducible refine Has.putOther ?_ _ _ ?_); rotate_left; omega; skip) | ((with_reducible refine Has.below ?_ ?_); rotate_left; assumption)))); (· kernel_rfl)) | (refine store_at rfl 27 _ _ rfl _ _ rfl rfl ?_ 24 ?_ ?_ ?_ ?_; rotate_left; (· (repeat (first | (with_reducible assumption) | ((with_reducible refine Has.box _ _ ?_ ?_) <;> (first | assumption | decide)) | (with_reducible refine Has.alloc ?_ _) | ((with_reducible refine Has.putOther ?_ _ _ ?_); rotate_left; omega; skip) | ((with_reducible refine Has.below ?_ ?_); rotate_left; assumption)))); (· (first | assumption | rfl)); (· kernel_rfl)))
          refine (l6Bound_A R _ R24 RV.out).mono ?_
          rintro e w5 ⟨rfl, b5⟩
          have N1 := M1.below b5
          replace M2 := Lib.hid (M2.out.below b5)
          replace M4 := Lib.hid (M4.out.below b5)
          replace M3 := Lib.hid (M3.out.call b5)
          have hbs := M3.out.size
          have owu := Lib.hid (fun z hz => (M4.out.own z hz))
          clear b5 G1 M1 F9
          generalize hB : bndA R = bR at *
          have HBR := Lib.hid hB
          clear hB
          go_wp2_with (first | (at_builtin; refine wpList_append_own _ rfl _ _ 40 rfl (w.heap.size + 1) 3 i0 (.int .i64 0) 1 8 Try.underlying40 hi hz0 hz1 hz2 rfl (by decide) _ (k + 1) (ints (alUp ns fs k)) rfl (World.ownsRow.alloc M4.out _) ⟨w5.heap.size, 0, none⟩ 1 1 [.int .i64 bR] rfl rfl (cell_one_new _ _ _) (fun x hx => by simp at hx; subst hx; rfl) (by unfold maxLen; omega) (by omega) (by simp; omega) ?_; intro v' w3 hown' hgrow3 hnil3))
          have V2 : Hid (vR (doR ns fs (k + 1)) = true) := Lib.hid (by rw [ER.out]; exact RV.out)
          have F1 : Has w3 w.heap.size (doR ns fs (k + 1)) 24 := by rw [ER.out]; exact (N1.alloc (.cells #[.int .i64 bR] 3)).grown hgrow3 (fun j hj => (owu.out j hj).1)
          have F2 := Lib.hid ((M2.out.alloc (.cells #[.int .i64 bR] 3)).grownP hgrow3 (fun _ j hj => .inr (fun e => by have h1 := (owu.out j hj).1; have h2 := hgb; simp only [Value.ownBlock, Option.some.injEq] at e; omega)))
          have F3 := Lib.hid ((M3.out.alloc (.cells #[.int .i64 bR] 3)).grown hgrow3 (by rw [size1]; omega) (fun j hj => by have := (owu.out j hj).1; omega))
          have F4 : Hid (Nu w3 (w.heap.size + 1) v' (k + 1 + 1) (alUp ns fs (k + 1))) := Lib.hid (by rw [EA.out, ER.out, HBR.out]; unfold Nu; rw [ints_app]; exact hown')
          clear hown' hgrow3 hnil3 N1 M2 M3 M4 owu
          go_wp2_with fail
          go_roundw
          case rel => exact ⟨k + 1, by omega, by go_num, F1, F2, F4, Lib.hid F3.out, V2, SN⟩
          case measure => simp [intOf]; omega
      · have hf : pourOk C x y = false := by simpa using hp
        have Z := Lib.hid (NO.out hf)
        have GB2 := Lib.hid (GB.out.call KC)
        have GU2 := Lib.hid (GU.out.below KC)
        rw [hf]
        clear hf hp
        go_wp2_with fail
        go_ret2
        exact ⟨_, by rw [E.out]; rfl, by rw [Z.out.1, Z.out.2]; exact GU2.out, GB2.out⟩
    · obtain rfl : k = n := by omega
      have Z := Lib.hid (along_yes E.out ST.out)
      have hnn : decide ((k : Int) < (k : Int)) = false := by simp
      go_wp2_with fail
      refine wp_region_held_drew (S := fun w' => Kept wr w') (by kernel_rfl) ?_ (fun hHeld => ?_)
      · exact (kept_refl wr).drewN 1
      (refine wpAnyH_take (i := 0) (v := ?_) rfl (by kernel_rfl) (by kernel_rfl) (by kernel_rfl) (fun _ _ _ h => h) (Or.inl ⟨by rfl, ?_⟩) hHeld ?_; rotate_left; (· (intro w' hSw; go_simp; try with_reducible rfl)); (try simp only [List.getElem_toArray, List.getElem_cons_zero, List.getElem_cons_succ, Act.put, List.setIfInBounds_toArray, List.set_cons_zero, List.set_cons_succ])); (refine wpAnyH_take (i := 1) (v := ?_) rfl (by kernel_rfl) (by kernel_rfl) (by kernel_rfl) (fun _ _ _ h => h) (Or.inl ⟨by rfl, ?_⟩) hHeld ?_; rotate_left; (· (intro w' hSw; go_simp; try with_reducible rfl)); (try simp only [List.getElem_toArray, List.getElem_cons_zero, List.getElem_cons_succ, Act.put, List.setIfInBounds_toArray, List.set_cons_zero, List.set_cons_succ])); (refine wpAnyH_take (i := 2) (v := ?_) rfl (by kernel_rfl) (by kernel_rfl) (by kernel_rfl) (fun _ _ _ h => h) (Or.inl ⟨by rfl, ?_⟩) hHeld ?_; rotate_left; (· (intro w' hSw; go_simp; try with_reducible rfl)); (try simp only [List.getElem_toArray, List.getElem_cons_zero, List.getElem_cons_succ, Act.put, List.setIfInBounds_toArray, List.set_cons_zero, List.set_cons_succ])); (refine wpAnyH_take (i := 3) (v := ?_) rfl (by kernel_rfl) (by kernel_rfl) (by kernel_rfl) (fun _ _ _ h => h) (Or.inl ⟨by rfl, ?_⟩) hHeld ?_; rotate_left; (· (intro w' hSw; go_simp; try with_reducible rfl)); (try simp only [List.getElem_toArray, List.getElem_cons_zero, List.getElem_cons_succ, Act.put, List.setIfInBounds_toArray, List.set_cons_zero, List.set_cons_succ])); (refine wpAnyH_take (i := 4) (v := ?_) rfl (by kernel_rfl) (by kernel_rfl) (by kernel_rfl) (fun _ _ _ h => h) (Or.inl ⟨by rfl, ?_⟩) hHeld ?_; rotate_left; (· (intro w' hSw; go_simp; try with_reducible rfl)); (try simp only [List.getElem_toArray, List.getElem_cons_zero, List.getElem_cons_succ, Act.put, List.setIfInBounds_toArray, List.set_cons_zero, List.set_cons_succ]))
      (refine wpAnyH_take (i := 5) (v := undef) rfl (by kernel_rfl) (by kernel_rfl) (by kernel_rfl) (fun _ _ _ h => h) (Or.inr ⟨by rfl, rfl⟩) hHeld ?_; (try simp only [List.getElem_toArray, List.getElem_cons_zero, List.getElem_cons_succ, Act.put, List.setIfInBounds_toArray, List.set_cons_zero, List.set_cons_succ])); (refine wpAnyH_take (i := 6) (v := undef) rfl (by kernel_rfl) (by kernel_rfl) (by kernel_rfl) (fun _ _ _ h => h) (Or.inr ⟨by rfl, rfl⟩) hHeld ?_; (try simp only [List.getElem_toArray, List.getElem_cons_zero, List.getElem_cons_succ, Act.put, List.setIfInBounds_toArray, List.set_cons_zero, List.set_cons_succ])); (refine wpAnyH_take (i := 7) (v := undef) rfl (by kernel_rfl) (by kernel_rfl) (by kernel_rfl) (fun _ _ _ h => h) (Or.inr ⟨by rfl, rfl⟩) hHeld ?_; (try simp only [List.getElem_toArray, List.getElem_cons_zero, List.getElem_cons_succ, Act.put, List.setIfInBounds_toArray, List.set_cons_zero, List.set_cons_succ])); (refine wpAnyH_take (i := 8) (v := undef) rfl (by kernel_rfl) (by kernel_rfl) (by kernel_rfl) (fun _ _ _ h => h) (Or.inr ⟨by rfl, rfl⟩) hHeld ?_; (try simp only [List.getElem_toArray, List.getElem_cons_zero, List.getElem_cons_succ, Act.put, List.setIfInBounds_toArray, List.set_cons_zero, List.set_cons_succ])); (refine wpAnyH_take (i := 9) (v := undef) rfl (by kernel_rfl) (by kernel_rfl) (by kernel_rfl) (fun _ _ _ h => h) (Or.inr ⟨by rfl, rfl⟩) hHeld ?_; (try simp only [List.getElem_toArray, List.getElem_cons_zero, List.getElem_cons_succ, Act.put, List.setIfInBounds_toArray, List.set_cons_zero, List.set_cons_succ])); (refine wpAnyH_take (i := 10) (v := undef) rfl (by kernel_rfl) (by kernel_rfl) (by kernel_rfl) (fun _ _ _ h => h) (Or.inr ⟨by rfl, rfl⟩) hHeld ?_; (try simp only [List.getElem_toArray, List.getElem_cons_zero, List.getElem_cons_succ, Act.put, List.setIfInBounds_toArray, List.set_cons_zero, List.set_cons_succ]))
      (refine wpAnyH_take (i := 11) (v := ?_) rfl (by kernel_rfl) (by kernel_rfl) (by kernel_rfl) (fun _ _ _ h => h) (Or.inl ⟨by rfl, ?_⟩) hHeld ?_; rotate_left; (· (intro w' hSw; go_simp; try with_reducible rfl)); (try simp only [List.getElem_toArray, List.getElem_cons_zero, List.getElem_cons_succ, Act.put, List.setIfInBounds_toArray, List.set_cons_zero, List.set_cons_succ]))
      refine wpAnyH_done (by kernel_rfl) ?_ _
      have GB2 := Lib.hid (GB.out.call hHeld)
      have GU2 := Lib.hid (GU.out.below hHeld)
      clear hHeld
      go_wp2_with fail
      go_ret2
      exact ⟨_, by rw [E.out]; rfl, by rw [Z.out.1, Z.out.2]; exact GU2.out, GB2.out⟩
end Go.Proofs.Ytmhkjakgdfadbab.base
