/-
  By how much a replay has more pours than the bound, walked on both sides.
-/
import Derived.Test.YtalngdccjoafhabRyEZ
import Derived.Test.YtalngdccjoafhabBndSZ
namespace Go.Proofs.Ytalngdccjoafhab.base
open Go.ChangeShapes Go.WideShapes Go.ChangeAt Go.RowKit
set_option linter.unusedVariables false
set_option linter.unusedSimpArgs false

theorem cf_yes {ns fs : List Int} {n : Nat} (h : dsA ns fs n = true) : cfA ns fs n = (n : Int) - bndA ns := by unfold cfA; rw [if_pos h]
theorem cf_no {ns fs : List Int} {n : Nat} (h : dsA ns fs n = false) : cfA ns fs n = 0 := by unfold cfA; rw [if_neg (by rw [h]; simp)]
theorem ds_rp {ns fs : List Int} {n : Nat} (h : dsA ns fs n = true) : rpOk ns fs n = true := by unfold dsA at h; exact (Bool.and_eq_true_iff.1 h).1
theorem bnd_range {ns : List Int} (h24 : ns.length = 24) (hv : vR ns = true) : bndA ns = bndN ns ∧ -6 ≤ bndA ns ∧ bndA ns ≤ 49 := by
  have h := bnd_in h24 hv 5
  unfold bndA bndN
  rw [if_pos hv]
  exact ⟨rfl, by omega, by omega⟩

theorem loadRange {P : Program} {ops : Array Oper} {rest : List Oper} {op : Oper} {a : Act} {w : World} {Q : Exit → Act → World → Prop} (hw : Region.wanted op (yielded ops a.tmps) = true) (ty : TypeId) (x : Operand) (ho : op.op = .load ty x)
    (b o : Nat) (hx : a.eval x = .pointer (some ⟨b, o, none⟩)) (cs : List Value) (d : TypeDesc) (hc : w.rangeAt b o cs)
    (hu : P.underlying ty = some d) (hd : d.isRow = true) (hi : (P.info? ty).map (·.size) = some cs.length)
    (h : wpList P ops Q rest (a.put op.dst (.agg cs.toArray)) w) : wpList P ops Q (op :: rest) a w :=
  wpList_wanted hw fun _ hK => wp_load_mid ty x ho b o hx cs d hc hu hd hi (hK _ _ h)

set_option maxHeartbeats 1600000 in
set_option maxRecDepth 100000 in
theorem implCertify (ns fs : List Int) (v : Value) (n b : Nat) (w : World) (h24 : ns.length = 24) (hn : n ≤ 1048576) (h : Rw w b v n fs) :
    Calls Try.prog 25 #[rpV ns v] w fun e w' => e = .returned (.tuple #[.int .i64 (cfA ns fs n), .bool (dsA ns fs n)]) ∧ Kept w w' := by
  obtain ⟨a, cap, rfl⟩ := h.shape
  have RY := Ry.box (v := .slice a n cap) w 32 h24
  have HB := Lib.hid ((kept_refl w).alloc (.cells (rpC ns (.slice a n cap)).toArray 32))
  have HR := Lib.hid (h.alloc (.cells (rpC ns (.slice a n cap)).toArray 32))
  clear h
  unfold rpV
  go_enter Try.func25, Try.ntmps25
  go_wp2_with (refine guardY (isLdY 32) ?_ ?_; (· rfl); refine load_ry rfl 32 _ rfl w.heap.size rfl _ _ _ RY _ Try.underlying32 rfl ?_ ?_; (· kernel_rfl))
  refine (implDoesSolve ns fs (.slice a n cap) n b _ h24 hn HR.out).mono ?_
  rintro e w1 ⟨rfl, b1⟩
  replace RY := RY.below b1
  replace HB := Lib.hid (HB.out.call b1)
  clear b1 HR
  cases hds : dsA ns fs n with
  | false =>
    have E := Lib.hid (cf_no hds)
    have ED := Lib.hid hds
    clear hds
    cases hok : rpOk ns fs n with
    | false =>
      clear hok
      go_wp2_with fail
      go_ret2
      exact ⟨by rw [E.out, ED.out]; rfl, HB.out⟩
    | true =>
      clear hok
      go_wp2_with fail
      go_ret2
      exact ⟨by rw [E.out, ED.out]; rfl, HB.out⟩
  | true =>
    have E := Lib.hid (cf_yes hds)
    have ED := Lib.hid hds
    have hok := ds_rp hds
    have n60 := rp_le hok
    have BB := (bnd_range h24 (do_first (rp_do hok))).2
    rw [hok]
    clear hds hok
    go_wp2_with (refine guardY (isLdY 30) ?_ ?_; (· rfl); refine load_start rfl 30 _ rfl w.heap.size rfl _ _ _ RY _ Try.underlying30 rfl ?_ ?_; (· kernel_rfl))
    refine (implBound ns _ h24).mono ?_
    rintro e w2 ⟨rfl, b2⟩
    replace RY := RY.below b2
    replace HB := Lib.hid (HB.out.call b2)
    have c24 := RY.pours
    clear b2
    obtain ⟨B1, B2⟩ := BB
    generalize bndA ns = B at *
    have wr1 : IntKind.i64.wrap ((n : Int) - B) = (n : Int) - B := IntWalk.i64_in _ (by omega)
    go_wp2_with fail
    go_ret2
    exact ⟨by rw [E.out, ED.out]; rfl, HB.out⟩

set_option maxHeartbeats 1600000 in
set_option maxRecDepth 100000 in
theorem specCertify (ns fs : List Int) (v : Value) (n b : Nat) (w : World) (h24 : ns.length = 24) (hn : n ≤ 1048576) (h : Rw w b v n fs) :
    Calls Try.prog 24 #[rpV ns v] w fun e w' => e = .returned (.tuple #[.int .i64 (cfA ns fs n), .bool (dsA ns fs n)]) ∧ Kept w w' := by
  obtain ⟨a, cap, rfl⟩ := h.shape
  have RY := Ry.box (v := .slice a n cap) w 32 h24
  have HB := Lib.hid ((kept_refl w).alloc (.cells (rpC ns (.slice a n cap)).toArray 32))
  have HR := Lib.hid (h.alloc (.cells (rpC ns (.slice a n cap)).toArray 32))
  have H24 := Lib.hid h24
  clear h
  unfold rpV
  go_enter Try.func24, Try.ntmps24
  go_wp2_with (refine guardY (isLdY 32) ?_ ?_; (· rfl); refine load_ry rfl 32 _ rfl w.heap.size rfl _ _ _ RY _ Try.underlying32 rfl ?_ ?_; (· kernel_rfl))
  refine (l11Racks_any ns fs (.slice a n cap) n b _ h24 hn HR.out).mono ?_
  rintro e w1 ⟨u, rfl, q1, b1⟩
  replace RY := RY.below b1
  replace HB := Lib.hid (HB.out.call b1)
  have HL := Lib.hid (doR_len h24 fs)
  clear b1 HR
  cases hok : rpOk ns fs n with
  | false =>
    have ED := Lib.hid (ds_no hok)
    have E := Lib.hid (cf_no (ds_no hok))
    clear hok q1
    go_wp2_with fail
    go_ret2
    exact ⟨by rw [E.out, ED.out]; rfl, HB.out⟩
  | true =>
    have E1 := Lib.hid (cf_yes (ns := ns) (fs := fs) (n := n))
    have E0 := Lib.hid (cf_no (ns := ns) (fs := fs) (n := n))
    have ED := Lib.hid (ds_yes hok)
    have VV := Lib.hid (do_valid h24 (rp_do hok))
    have HV := Lib.hid (do_first (rp_do hok))
    have BB := bnd_range h24 (do_first (rp_do hok))
    rw [rk_yes hok] at q1
    obtain ⟨ga, gc, rfl⟩ := q1.shape
    have hl := rks_len ns fs n
    rw [hl]
    have n60 := rp_le hok
    have wr1 : IntKind.i64.wrap ((n : Int) + 1 - 1) = (n : Int) := by rw [IntWalk.i64_in _ (by omega)]; omega
    have wr2 : (n : Int) + 1 - 1 = (n : Int) := by omega
    obtain ⟨gg, cc, he, hg0, hg1⟩ := q1.form (by rw [hl]; omega)
    injection he with e1 _ e3
    subst e1
    subst e3
    rw [hl] at q1
    have RG := Lib.hid (q1.range hl.symm n (by omega))
    rw [rks_get ns fs n n (Nat.le_refl _)] at RG
    have hR := HL.out n
    obtain ⟨R, hRR⟩ : ∃ R, doR ns fs n = R := ⟨_, rfl⟩
    rw [hRR] at RG hR ED VV
    have hi1 : (Try.prog.info? 30).map (·.size) = some (ints R).length := by rw [ints_len, hR]; kernel_rfl
    have k1 : (n : Int) < (n : Int) + 1 := by omega
    have k4 : (0 : Int) ≤ (n : Int) := by omega
    have HI := Lib.hid hi1
    clear hok q1 hRR hl hi1
    obtain ⟨EB, B1, B2⟩ := BB
    go_wp2_with (refine guardY (isLdY 30) ?_ ?_; (· rfl); refine loadRange rfl 30 _ rfl gg (n * 24) rfl (ints R) _ RG.out Try.underlying30 rfl HI.out ?_)
    refine (l2Sorted_any R _ hR VV.out).mono ?_
    rintro e w2 ⟨rfl, b2⟩
    replace RY := RY.below b2
    replace HB := Lib.hid (HB.out.call b2)
    clear b2 RG
    cases hs : sortedA R with
    | false =>
      have ed := Lib.hid (ED.out.trans hs)
      have E := Lib.hid (E0.out ed.out)
      clear ED hs E1 E0
      go_wp2_with fail
      go_ret2
      exact ⟨by rw [E.out, ed.out]; rfl, HB.out⟩
    | true =>
      have ed := Lib.hid (ED.out.trans hs)
      have E := Lib.hid (E1.out ed.out)
      clear ED hs E1 E0 hR VV wr1 wr2 HI
      rw [EB] at B1 B2 E
      obtain ⟨B, hB⟩ : ∃ B, bndN ns = B := ⟨_, rfl⟩
      have HBN := Lib.hid hB
      rw [hB] at B1 B2 E
      clear hB EB
      have wr1 : IntKind.i64.wrap ((n : Int) - B) = (n : Int) - B := IntWalk.i64_in _ (by omega)
      have hi0 : (Try.prog.info? 30).map (·.size) = some (ints ns).length := by rw [ints_len, H24.out]; kernel_rfl
      go_wp2_with fail
      refine wp_region_held_drew (S := fun w' => Kept w2 w') (by kernel_rfl) ((kept_refl w2).drewN 1) (fun hHeld => ?_)
      (refine wpAnyH_take (i := 0) (v := ?_) rfl (by kernel_rfl) (by kernel_rfl) (by kernel_rfl) (fun _ _ _ h => h) (Or.inl ⟨by rfl, ?_⟩) hHeld ?_; rotate_left; (· (intro w' hSw; go_simp; try with_reducible rfl)); (try simp only [List.getElem_toArray, List.getElem_cons_zero, List.getElem_cons_succ, Act.put, List.setIfInBounds_toArray, List.set_cons_zero, List.set_cons_succ])); (refine wpAnyH_take (i := 3) (v := ?_) rfl (by kernel_rfl) (by kernel_rfl) (by kernel_rfl) (fun _ _ _ h => h) (Or.inl ⟨by rfl, ?_⟩) hHeld ?_; rotate_left; (· (intro w' hSw; go_simp; try with_reducible rfl)); (try simp only [List.getElem_toArray, List.getElem_cons_zero, List.getElem_cons_succ, Act.put, List.setIfInBounds_toArray, List.set_cons_zero, List.set_cons_succ]))
      (refine wpAnyH_take (i := 1) (v := .slice a n cap) rfl (by kernel_rfl) (by kernel_rfl) (by kernel_rfl) (fun _ _ _ h => h) (Or.inl ⟨by rfl, ?_⟩) hHeld ?_; (· (intro w' hSw; have q := (RY.below hSw).pours; clear hSw; go_simp; try with_reducible rfl)); (try simp only [List.getElem_toArray, List.getElem_cons_zero, List.getElem_cons_succ, Act.put, List.setIfInBounds_toArray, List.set_cons_zero, List.set_cons_succ]))
      (refine wpAnyH_take (i := 4) (v := _) rfl (by kernel_rfl) (by kernel_rfl) (by kernel_rfl) (fun _ _ _ h => h) (yieldsIf_load_mid (by rfl) 30 _ rfl _ _ rfl (ints ns) _ (fun w' hSw => (RY.below hSw).start) Try.underlying30 rfl (hi0)) hHeld ?_; (try simp only [List.getElem_toArray, List.getElem_cons_zero, List.getElem_cons_succ, Act.put, List.setIfInBounds_toArray, List.set_cons_zero, List.set_cons_succ]))
      (refine wpAnyH_take (i := 2) (v := ?_) rfl (by kernel_rfl) (by kernel_rfl) (by kernel_rfl) (fun _ _ _ h => h) (Or.inl ⟨by rfl, ?_⟩) hHeld ?_; rotate_left; (· (intro w' hSw; go_simp; try with_reducible rfl)); (try simp only [List.getElem_toArray, List.getElem_cons_zero, List.getElem_cons_succ, Act.put, List.setIfInBounds_toArray, List.set_cons_zero, List.set_cons_succ]))
      (refine wpAnyH_ready (rs := [5]) (by kernel_rfl) (by simp) ?_; refine AllReadyH.cons (o := _) rfl (fun K hK => ?_) AllReadyH.nil; (simp only [List.getElem_toArray, List.getElem_cons_zero, List.getElem_cons_succ, Region.wanted, if_true]))
      go_simp
      refine (l6Bound_any ns _ H24.out HV.out).mono ?_
      rintro e w3 ⟨rfl, b3⟩
      rw [HBN.out]
      dsimp only
      (try simp only [List.getElem_toArray, List.getElem_cons_zero, List.getElem_cons_succ, Act.put, List.setIfInBounds_toArray, List.set_cons_zero, List.set_cons_succ])
      have K3 := Kept.call hHeld b3
      refine hK.out _ _ K3 (fun hHeld => ?_)
      clear hK K b3
      (refine wpAnyH_take (i := 6) (v := ?_) rfl (by kernel_rfl) (by kernel_rfl) (by kernel_rfl) (fun _ _ _ h => h) (Or.inl ⟨by rfl, ?_⟩) hHeld ?_; rotate_left; (· (intro w' hSw; go_simp; try with_reducible rfl)); (try simp only [List.getElem_toArray, List.getElem_cons_zero, List.getElem_cons_succ, Act.put, List.setIfInBounds_toArray, List.set_cons_zero, List.set_cons_succ])); (refine wpAnyH_take (i := 7) (v := ?_) rfl (by kernel_rfl) (by kernel_rfl) (by kernel_rfl) (fun _ _ _ h => h) (Or.inl ⟨by rfl, ?_⟩) hHeld ?_; rotate_left; (· (intro w' hSw; go_simp; try with_reducible rfl)); (try simp only [List.getElem_toArray, List.getElem_cons_zero, List.getElem_cons_succ, Act.put, List.setIfInBounds_toArray, List.set_cons_zero, List.set_cons_succ])); (refine wpAnyH_take (i := 8) (v := ?_) rfl (by kernel_rfl) (by kernel_rfl) (by kernel_rfl) (fun _ _ _ h => h) (Or.inl ⟨by rfl, ?_⟩) hHeld ?_; rotate_left; (· (intro w' hSw; go_simp; try with_reducible rfl)); (try simp only [List.getElem_toArray, List.getElem_cons_zero, List.getElem_cons_succ, Act.put, List.setIfInBounds_toArray, List.set_cons_zero, List.set_cons_succ]))
      refine wpAnyH_done (by kernel_rfl) ?_ _
      clear hHeld
      have S1 := Lib.hid (HB.out.call K3)
      go_wp2_with fail
      go_ret2
      exact ⟨by rw [E.out, ed.out]; rfl, S1.out⟩
end Go.Proofs.Ytalngdccjoafhab.base
