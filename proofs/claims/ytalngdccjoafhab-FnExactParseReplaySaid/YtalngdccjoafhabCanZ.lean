/-
  Which pours are possible, on both sides, walked.
-/
/-
  Racks of zeros, and comparing racks in a law, walked.
-/
import Derived.Test.YtalngdccjoafhabSpecWZ
import Derived.Deep.RegionHeld3
import Derived.Test.YtalngdccjoafhabRackToZ

section
namespace Go.Proofs.Ytalngdccjoafhab.base
open Go.ChangeShapes Go.WideShapes Go.ChangeAt Go.RowKit
set_option linter.unusedVariables false
set_option linter.unusedSimpArgs false

theorem canN_pos {s t : List Int} (hs : s.length = 4) (ht : t.length = 4) (vs : vT s = true) (vt : vT t = true) :
    0 < canN s t ↔ 0 < topN s ∧ lay t < 4 ∧ (topC t = 0 ∨ topC t = topC s) := by
  have FT := tubeFacts ht vt
  have h1 := FT.none
  have h2 := FT.noneC
  have h4 := FT.lay4
  unfold canN
  by_cases h0 : lay t = 0
  · rw [if_neg (by omega)]
    have : topC t = 0 := h2.2 (h1.1 h0)
    simp only [this, true_or, and_true]; omega
  · by_cases hc : topC t = topC s
    · rw [if_neg (by omega)]
      simp only [hc, or_true, and_true]; omega
    · rw [if_pos ⟨h0, hc⟩]
      have : topC t ≠ 0 := fun h => h0 (h1.2 (h2.1 h))
      simp [hc, this]

set_option maxHeartbeats 800000 in
theorem l2Can_any (ns : List Int) (p q : Nat) (w : World) (h24 : ns.length = 24) (hv : vR ns = true) (hp : p < 6) (hq : q < 6) :
    Calls Try.prog 59 #[row ns, .int .i64 (p : Nat), .int .i64 (q : Nat)] w fun e w' => e = .returned (.bool (decide (p ≠ q ∧ 0 < canN (tub ns p) (tub ns q)))) ∧ Kept w w' := by
  have HB := Lib.hid ((kept_refl w).alloc (.cells (ints ns).toArray 30))
  have H := Has.box w 30 h24 (by omega)
  have sp := tub_len ns p h24 hp
  have sq := tub_len ns q h24 hq
  have vp := vR_tub hv p hp
  have vq := vR_tub hv q hq
  have HC := Lib.hid (canN_pos sp sq vp vq)
  have hpi : (p : Int) < 6 := by omega
  have hqi : (q : Int) < 6 := by omega
  rw [row_ints]
  go_enter Try.func59, Try.ntmps59
  go_wp2_with (refine load_tub rfl 22 _ rfl _ (p) _ rfl ?_ ?_ ?_ ?_ _ Try.underlying22 rfl ?_ ?_; (· (first | rfl | omega)); rotate_left; (· (repeat (first | (with_reducible assumption) | ((with_reducible refine Has.box _ _ ?_ ?_) <;> (first | assumption | decide)) | (with_reducible refine Has.alloc ?_ _) | ((with_reducible refine Has.putOther ?_ _ _ ?_); rotate_left; omega; skip) | ((with_reducible refine Has.below ?_ ?_); rotate_left; assumption)))); (· omega); (· kernel_rfl))
  refine (l2Top_any (tub ns p) _ sp vp).mono ?_
  rintro e w1 ⟨rfl, b1⟩
  have H1 := H.below b1
  have HB1 := Lib.hid (HB.out.call b1)
  clear H HB b1
  go_wp2_with (refine load_tub rfl 22 _ rfl _ (q) _ rfl ?_ ?_ ?_ ?_ _ Try.underlying22 rfl ?_ ?_; (· (first | rfl | omega)); rotate_left; (· (repeat (first | (with_reducible assumption) | ((with_reducible refine Has.box _ _ ?_ ?_) <;> (first | assumption | decide)) | (with_reducible refine Has.alloc ?_ _) | ((with_reducible refine Has.putOther ?_ _ _ ?_); rotate_left; omega; skip) | ((with_reducible refine Has.below ?_ ?_); rotate_left; assumption)))); (· omega); (· kernel_rfl))
  refine (l2Top_any (tub ns q) _ sq vq).mono ?_
  rintro e w2 ⟨rfl, b2⟩
  have H2 := H1.below b2
  have HB2 := Lib.hid (HB1.out.call b2)
  clear H1 HB1 b2
  by_cases hpq : p = q
  · have R := Lib.hid (show decide (p ≠ q ∧ 0 < canN (tub ns p) (tub ns q)) = false by simp [hpq])
    have e1 : ((p : Int) == (q : Int)) = true := by simp [hpq]
    have e2 : ((p : Int) != (q : Int)) = false := by simp [hpq]
    clear hpq
    go_wp2_with fail
    go_ret
    exact ⟨ret_bool R.out.symm, HB2.out⟩
  · have e1 : ((p : Int) == (q : Int)) = false := by simp; omega
    have e2 : ((p : Int) != (q : Int)) = true := by simp; omega
    have HP := Lib.hid hpq
    clear hpq
    by_cases hn : 0 < topN (tub ns p)
    · have hni : (0 : Int) < (topN (tub ns p) : Int) := by omega
      go_wp2_with (refine load_tub rfl 22 _ rfl _ (q) _ rfl ?_ ?_ ?_ ?_ _ Try.underlying22 rfl ?_ ?_; (· (first | rfl | omega)); rotate_left; (· (repeat (first | (with_reducible assumption) | ((with_reducible refine Has.box _ _ ?_ ?_) <;> (first | assumption | decide)) | (with_reducible refine Has.alloc ?_ _) | ((with_reducible refine Has.putOther ?_ _ _ ?_); rotate_left; omega; skip) | ((with_reducible refine Has.below ?_ ?_); rotate_left; assumption)))); (· omega); (· kernel_rfl))
      refine (l2Many_any (tub ns q) _ sq vq).mono ?_
      rintro e w3 ⟨rfl, b3⟩
      have HB3 := Lib.hid (HB2.out.call b3)
      clear H2 HB2 b3
      by_cases hl : lay (tub ns q) < 4
      · have hli : (lay (tub ns q) : Int) < 4 := by omega
        by_cases h0 : topC (tub ns q) = 0
        · have R := Lib.hid (show decide (p ≠ q ∧ 0 < canN (tub ns p) (tub ns q)) = true from decide_eq_true ⟨HP.out, HC.out.2 ⟨hn, hl, .inl h0⟩⟩)
          have q0 : (topC (tub ns q) == 0) = true := by simp [h0]
          clear h0
          go_wp2_with fail
          go_ret
          exact ⟨ret_bool R.out.symm, HB3.out⟩
        · have q0 : (topC (tub ns q) == 0) = false := by simp [h0]
          by_cases h1 : topC (tub ns q) = topC (tub ns p)
          · have R := Lib.hid (show decide (p ≠ q ∧ 0 < canN (tub ns p) (tub ns q)) = true from decide_eq_true ⟨HP.out, HC.out.2 ⟨hn, hl, .inr h1⟩⟩)
            have q1 : (topC (tub ns q) == topC (tub ns p)) = true := by simp [h1]
            clear h0 h1
            go_wp2_with fail
            go_ret
            exact ⟨ret_bool R.out.symm, HB3.out⟩
          · have R := Lib.hid (show decide (p ≠ q ∧ 0 < canN (tub ns p) (tub ns q)) = false from decide_eq_false fun h => by
              rcases (HC.out.1 h.2).2.2 with h | h; exact h0 h; exact h1 h)
            have q1 : (topC (tub ns q) == topC (tub ns p)) = false := by simp [h1]
            clear h0 h1
            go_wp2_with fail
            go_ret
            exact ⟨ret_bool R.out.symm, HB3.out⟩
      · have R := Lib.hid (show decide (p ≠ q ∧ 0 < canN (tub ns p) (tub ns q)) = false from decide_eq_false fun h => hl (HC.out.1 h.2).2.1)
        have q1 : decide ((lay (tub ns q) : Int) < 4) = false := by simp; omega
        have q2 : decide (lay (tub ns q) < 4) = false := by simp; omega
        clear hl
        go_wp2_with fail
        go_ret
        exact ⟨ret_bool R.out.symm, HB3.out⟩
    · have R := Lib.hid (show decide (p ≠ q ∧ 0 < canN (tub ns p) (tub ns q)) = false from decide_eq_false fun h => hn (HC.out.1 h.2).1)
      have q1 : decide ((0 : Int) < (topN (tub ns p) : Int)) = false := by simp; omega
      have q2 : decide (0 < topN (tub ns p)) = false := by simp; omega
      clear hn
      go_wp2_with fail
      go_ret
      exact ⟨ret_bool R.out.symm, HB2.out⟩

theorem twoOk_yes {ns : List Int} {p q : Nat} (hv : vR ns = true) (hp : p < 6) (hq : q < 6) (hne : p ≠ q) : twoOk ns (p : Int) (q : Int) = true := by
  unfold twoOk; rw [hv]; simp; omega
theorem twoOk_not {ns : List Int} {i j : Int} (h : ¬ (vR ns = true ∧ (0 ≤ i ∧ i < 6) ∧ (0 ≤ j ∧ j < 6) ∧ i ≠ j)) : twoOk ns i j = false := by
  cases hb : twoOk ns i j with
  | false => rfl
  | true => unfold twoOk at hb; simp at hb; exact absurd ⟨hb.1.1.1, hb.1.1.2, hb.1.2, hb.2⟩ h
theorem twoOk_of {ns : List Int} {i j : Int} (h : twoOk ns i j = true) : vR ns = true ∧ ∃ p q : Nat, i = (p : Int) ∧ j = (q : Int) ∧ p < 6 ∧ q < 6 ∧ p ≠ q := by
  unfold twoOk at h
  simp at h
  exact ⟨h.1.1.1, i.toNat, j.toNat, by omega, by omega, by omega, by omega, by omega⟩
theorem canA_not {ns : List Int} {i j : Int} (h : twoOk ns i j = false) : canA ns i j = false := by unfold canA; rw [h]; rfl

theorem Has.zero2 (w : World) (o : Obj) (T : TypeId) : Has ((w.alloc o).alloc (.cells #[.int .i64 0, .int .i64 0, .int .i64 0, .int .i64 0] T)) (w.heap.size + 1) [0, 0, 0, 0] 4 := (Has.zero (w.alloc o) T).at (size1 _ _)
theorem Has.zero3 (w : World) (o o' : Obj) (T : TypeId) : Has (((w.alloc o).alloc o').alloc (.cells #[.int .i64 0, .int .i64 0, .int .i64 0, .int .i64 0] T)) (w.heap.size + 1 + 1) [0, 0, 0, 0] 4 := (Has.zero ((w.alloc o).alloc o') T).at (by simp)

def toA (ns : List Int) (i j k : Int) : List Int := if twoOk ns i j = true then tub ns k.toNat else [0, 0, 0, 0]

set_option maxHeartbeats 1600000 in
set_option maxRecDepth 100000 in
theorem twoTubes_any (ns : List Int) (i j : Int) (w : World) (h24 : ns.length = 24) :
    Calls Try.prog 91 #[row ns, .int .i64 i, .int .i64 j] w fun e w' => e = .returned (.tuple #[.agg (ints (toA ns i j i)).toArray, .agg (ints (toA ns i j j)).toArray, .bool (twoOk ns i j)]) ∧ Kept w w' := by
  have HB := Lib.hid ((((kept_refl w).alloc (.cells (ints ns).toArray 30)).alloc (.cells #[.int .i64 0, .int .i64 0, .int .i64 0, .int .i64 0] 112)).alloc (.cells #[.int .i64 0, .int .i64 0, .int .i64 0, .int .i64 0] 112))
  have H := ((Has.box w 30 h24 (by omega)).alloc (.cells #[.int .i64 0, .int .i64 0, .int .i64 0, .int .i64 0] 112)).alloc (.cells #[.int .i64 0, .int .i64 0, .int .i64 0, .int .i64 0] 112)
  have Z := (Has.zero2 w (.cells (ints ns).toArray 30) 112).alloc (.cells #[.int .i64 0, .int .i64 0, .int .i64 0, .int .i64 0] 112)
  have Y := Has.zero3 w (.cells (ints ns).toArray 30) (.cells #[.int .i64 0, .int .i64 0, .int .i64 0, .int .i64 0] 112) 112
  have hb := buildTube
  rw [row_ints]
  go_enter Try.func91, Try.ntmps91
  by_cases hne : i = j
  · subst hne
    have R := Lib.hid (twoOk_not (ns := ns) (i := i) (j := i) fun h => h.2.2.2 rfl)
    go_wp2_with fail
    exact bodyPost_ret (res_hasc rfl _ _ (w.heap.size + 1) (w.heap.size + 1 + 1) [0, 0, 0, 0] [0, 0, 0, 0] 4 4 _ _ (.bool false) rfl rfl rfl Z Y Try.underlying112 rfl (by kernel_rfl) Try.underlying112 rfl (by kernel_rfl)) rfl ⟨by unfold toA; rw [R.out]; rfl, HB.out⟩
  · have e1 : (i == j) = false := by simp [hne]
    go_wp2_with fail
    refine (isPlace_any i _).mono ?_
    rintro e w' ⟨rfl, rfl⟩
    by_cases hp : 0 ≤ i ∧ i < 6
    · rw [decide_eq_true hp]
      obtain ⟨p, rfl⟩ : ∃ p : Nat, i = (p : Int) := ⟨i.toNat, by omega⟩
      have hp6 : p < 6 := by omega
      have hpi : (p : Int) < 6 := by omega
      clear hp
      go_wp2_with fail
      refine (isPlace_any j _).mono ?_
      rintro e w' ⟨rfl, rfl⟩
      by_cases hq : 0 ≤ j ∧ j < 6
      · rw [decide_eq_true hq]
        obtain ⟨q, rfl⟩ : ∃ q : Nat, j = (q : Int) := ⟨j.toNat, by omega⟩
        have hq6 : q < 6 := by omega
        have hqi : (q : Int) < 6 := by omega
        clear hq
        go_wp2_with (refine load_has rfl 30 _ rfl _ rfl ?_ 24 ?_ _ Try.underlying30 rfl ?_ ?_; rotate_left; (· (repeat (first | (with_reducible assumption) | ((with_reducible refine Has.box _ _ ?_ ?_) <;> (first | assumption | decide)) | (with_reducible refine Has.alloc ?_ _) | ((with_reducible refine Has.putOther ?_ _ _ ?_); rotate_left; omega; skip) | ((with_reducible refine Has.below ?_ ?_); rotate_left; assumption)))); (· kernel_rfl))
        refine (isRack_any ns _ h24).mono ?_
        rintro e w1 ⟨rfl, b1⟩
        have H1 := H.below b1
        have Z1 := Z.below b1
        have Y1 := Y.below b1
        have HB1 := Lib.hid (HB.out.call b1)
        clear H Z Y HB b1
        by_cases hv : vR ns = true
        · rw [hv]
          have R := Lib.hid (twoOk_yes hv hp6 hq6 (by omega))
          have sp := tub_len ns p h24 hp6
          have sq := tub_len ns q h24 hq6
          clear hv
          go_wp2_with fail
          have r1 := H1.holds.sub (p * 4) 4
          have r2 := H1.holds.sub (q * 4) 4
          rw [show (ns.drop (p * 4)).take 4 = tub ns p from rfl] at r1
          rw [show (ns.drop (q * 4)).take 4 = tub ns q from rfl] at r2
          have t1 := Z1.there
          have t2 := Y1.there
          have o1 := ints_one (tub ns p)
          have o2 := ints_one (tub ns q)
          have l1 : (ints (tub ns p)).length = 4 := by rw [ints_len]; exact sp
          have l2 : (ints (tub ns q)).length = 4 := by rw [ints_len]; exact sq
          have hu1 := Try.underlying22
          have hu2 := Try.underlying112
          have hi1 : (Try.prog.info? 22).map (·.size) = some (ints (tub ns p)).length := by rw [l1]; kernel_rfl
          have hi2 : (Try.prog.info? 22).map (·.size) = some (ints (tub ns q)).length := by rw [l2]; kernel_rfl
          have hi3 : (Try.prog.info? 112).map (·.size) = some (ints (tub ns p)).length := by rw [l1]; kernel_rfl
          have hi4 : (Try.prog.info? 112).map (·.size) = some (ints (tub ns q)).length := by rw [l2]; kernel_rfl
          have Y2 := (Y1.drew.putOther (b' := w.heap.size + 1) 0 (ints (tub ns p)) (by omega))
          have Z3 := Lib.hid (((Z1.drew.putAll (tub ns p) sp)).putOther (b' := w.heap.size + 1 + 1) 0 (ints (tub ns q)) (by omega))
          have Y3 := Lib.hid (Y2.putAll (tub ns q) sq)
          have HB3 := Lib.hid (((HB1.out.drewN 1).puts (b := w.heap.size + 1) (by omega) 0 (ints (tub ns p))).puts (b := w.heap.size + 1 + 1) (by omega) 0 (ints (tub ns q)))
          clear H1 Z1 Y1 Y2
          refine wp_region_held_drew (S := fun w' => w'.rangeAt w.heap.size (p * 4) (ints (tub ns p)) ∧ w'.rangeAt w.heap.size (q * 4) (ints (tub ns q)) ∧ w'.there (w.heap.size + 1) 0 4 ∧ w'.there (w.heap.size + 1 + 1) 0 4) (by kernel_rfl) ?_ (fun hHeld => ?_)
          · exact ⟨(World.rangeAt_drew _ _ _ _).2 r1, (World.rangeAt_drew _ _ _ _).2 r2, (World.there_drew _ _ _ _).2 t1, (World.there_drew _ _ _ _).2 t2⟩
          (refine wpAnyH_take (i := 0) (v := ?_) rfl (by kernel_rfl) (by kernel_rfl) (by kernel_rfl) (fun _ _ _ h => h) (Or.inl ⟨by rfl, ?_⟩) hHeld ?_; rotate_left; (· (intro w' hSw; go_simp; try with_reducible rfl)); (try simp only [List.getElem_toArray, List.getElem_cons_zero, List.getElem_cons_succ, Act.put, List.setIfInBounds_toArray, List.set_cons_zero, List.set_cons_succ])); (refine wpAnyH_take (i := 1) (v := ?_) rfl (by kernel_rfl) (by kernel_rfl) (by kernel_rfl) (fun _ _ _ h => h) (Or.inl ⟨by rfl, ?_⟩) hHeld ?_; rotate_left; (· (intro w' hSw; go_simp; try with_reducible rfl)); (try simp only [List.getElem_toArray, List.getElem_cons_zero, List.getElem_cons_succ, Act.put, List.setIfInBounds_toArray, List.set_cons_zero, List.set_cons_succ])); (refine wpAnyH_take (i := 2) (v := ?_) rfl (by kernel_rfl) (by kernel_rfl) (by kernel_rfl) (fun _ _ _ h => h) (Or.inl ⟨by rfl, ?_⟩) hHeld ?_; rotate_left; (· (intro w' hSw; go_simp; try with_reducible rfl)); (try simp only [List.getElem_toArray, List.getElem_cons_zero, List.getElem_cons_succ, Act.put, List.setIfInBounds_toArray, List.set_cons_zero, List.set_cons_succ])); (refine wpAnyH_take (i := 4) (v := ?_) rfl (by kernel_rfl) (by kernel_rfl) (by kernel_rfl) (fun _ _ _ h => h) (Or.inl ⟨by rfl, ?_⟩) hHeld ?_; rotate_left; (· (intro w' hSw; go_simp; try with_reducible rfl)); (try simp only [List.getElem_toArray, List.getElem_cons_zero, List.getElem_cons_succ, Act.put, List.setIfInBounds_toArray, List.set_cons_zero, List.set_cons_succ])); (refine wpAnyH_take (i := 5) (v := ?_) rfl (by kernel_rfl) (by kernel_rfl) (by kernel_rfl) (fun _ _ _ h => h) (Or.inl ⟨by rfl, ?_⟩) hHeld ?_; rotate_left; (· (intro w' hSw; go_simp; try with_reducible rfl)); (try simp only [List.getElem_toArray, List.getElem_cons_zero, List.getElem_cons_succ, Act.put, List.setIfInBounds_toArray, List.set_cons_zero, List.set_cons_succ])); (refine wpAnyH_take (i := 6) (v := ?_) rfl (by kernel_rfl) (by kernel_rfl) (by kernel_rfl) (fun _ _ _ h => h) (Or.inl ⟨by rfl, ?_⟩) hHeld ?_; rotate_left; (· (intro w' hSw; go_simp; try with_reducible rfl)); (try simp only [List.getElem_toArray, List.getElem_cons_zero, List.getElem_cons_succ, Act.put, List.setIfInBounds_toArray, List.set_cons_zero, List.set_cons_succ]))
          (refine wpAnyH_take (i := 3) (v := _) rfl (by kernel_rfl) (by kernel_rfl) (by kernel_rfl) (fun _ _ _ h => h) (yieldsIf_load_mid (by rfl) 22 _ rfl _ _ rfl (ints (tub ns p)) _ (fun w' hSw => hSw.1) Try.underlying22 rfl (hi1)) hHeld ?_; (try simp only [List.getElem_toArray, List.getElem_cons_zero, List.getElem_cons_succ, Act.put, List.setIfInBounds_toArray, List.set_cons_zero, List.set_cons_succ]))
          (refine wpAnyH_take (i := 7) (v := _) rfl (by kernel_rfl) (by kernel_rfl) (by kernel_rfl) (fun _ _ _ h => h) (yieldsIf_load_mid (by rfl) 22 _ rfl _ _ rfl (ints (tub ns q)) _ (fun w' hSw => hSw.2.1) Try.underlying22 rfl (hi2)) hHeld ?_; (try simp only [List.getElem_toArray, List.getElem_cons_zero, List.getElem_cons_succ, Act.put, List.setIfInBounds_toArray, List.set_cons_zero, List.set_cons_succ]))
          (refine wpAnyH_ready (rs := [8]) (by kernel_rfl) (by simp) ?_; refine AllReadyH.cons (o := _) rfl (fun K hK => ?_) AllReadyH.nil; (simp only [List.getElem_toArray, List.getElem_cons_zero, List.getElem_cons_succ, Region.wanted, if_true]); refine wp_store_mid _ _ _ rfl _ _ (ints (tub ns p)).toArray rfl rfl (by simpa [l1] using hHeld.2.2.1) (by simpa [l1] using hi3) (all_oneCell_toArray (o1)) ?_; (try simp only [List.getElem_toArray, List.getElem_cons_zero, List.getElem_cons_succ, Act.put, List.setIfInBounds_toArray, List.set_cons_zero, List.set_cons_succ, List.toList_toArray]); refine hK.out _ _ (⟨range_other hHeld.1 _ _ _ (by omega), range_other hHeld.2.1 _ _ _ (by omega), there_put hHeld.2.2.1 _ _, there_put hHeld.2.2.2 _ _⟩) (fun hHeld => ?_); clear hK K)
          (refine wpAnyH_ready (rs := [9]) (by kernel_rfl) (by simp) ?_; refine AllReadyH.cons (o := _) rfl (fun K hK => ?_) AllReadyH.nil; (simp only [List.getElem_toArray, List.getElem_cons_zero, List.getElem_cons_succ, Region.wanted, if_true]); refine wp_store_mid _ _ _ rfl _ _ (ints (tub ns q)).toArray rfl rfl (by simpa [l2] using hHeld.2.2.2) (by simpa [l2] using hi4) (all_oneCell_toArray (o2)) ?_; (try simp only [List.getElem_toArray, List.getElem_cons_zero, List.getElem_cons_succ, Act.put, List.setIfInBounds_toArray, List.set_cons_zero, List.set_cons_succ, List.toList_toArray]); refine hK.out _ _ (⟨range_other hHeld.1 _ _ _ (by omega), range_other hHeld.2.1 _ _ _ (by omega), there_put hHeld.2.2.1 _ _, there_put hHeld.2.2.2 _ _⟩) (fun hHeld => ?_); clear hK K)
          (refine wpAnyH_take (i := 10) (v := ?_) rfl (by kernel_rfl) (by kernel_rfl) (by kernel_rfl) (fun _ _ _ h => h) (Or.inl ⟨by rfl, ?_⟩) hHeld ?_; rotate_left; (· (intro w' hSw; go_simp; try with_reducible rfl)); (try simp only [List.getElem_toArray, List.getElem_cons_zero, List.getElem_cons_succ, Act.put, List.setIfInBounds_toArray, List.set_cons_zero, List.set_cons_succ]))
          refine wpAnyH_done (by kernel_rfl) ?_ _
          clear hHeld r1 r2 t1 t2
          go_wp2_with fail

          exact bodyPost_ret (res_hasc rfl _ _ (w.heap.size + 1) (w.heap.size + 1 + 1) (tub ns p) (tub ns q) 4 4 _ _ (.bool true) rfl rfl rfl Z3.out Y3.out Try.underlying112 rfl (by kernel_rfl) Try.underlying112 rfl (by kernel_rfl)) rfl ⟨by unfold toA; rw [R.out]; rfl, HB3.out⟩
        · have hf : vR ns = false := by simpa using hv
          have R := Lib.hid (twoOk_not (ns := ns) (i := p) (j := q) fun h => hv h.1)
          rw [hf]
          clear hf hv H1
          have Y2 := Lib.hid (Y1.putOther (b' := w.heap.size + 1) 0 (ints [0, 0, 0, 0]) (by omega))
          have Z2 := Lib.hid ((Z1.putAll [0, 0, 0, 0] rfl).putOther (b' := w.heap.size + 1 + 1) 0 (ints [0, 0, 0, 0]) (by omega))
          have Y3 := Lib.hid (Y2.out.putAll [0, 0, 0, 0] rfl)
          have HB2 := Lib.hid ((HB1.out.puts (b := w.heap.size + 1) (by omega) 0 (ints [0, 0, 0, 0])).puts (b := w.heap.size + 1 + 1) (by omega) 0 (ints [0, 0, 0, 0]))
          go_wp2_with (refine store_at rfl 112 _ _ rfl _ [0, 0, 0, 0] rfl rfl ?_ 4 ?_ rfl ?_ ?_; rotate_left; (· (repeat (first | (with_reducible assumption) | ((with_reducible refine Has.box _ _ ?_ ?_) <;> (first | assumption | decide)) | (with_reducible refine Has.alloc ?_ _) | ((with_reducible refine Has.putOther ?_ _ _ ?_); rotate_left; omega; skip) | ((with_reducible refine Has.below ?_ ?_); rotate_left; assumption)))); (· kernel_rfl))
          exact bodyPost_ret (res_hasc rfl _ _ (w.heap.size + 1) (w.heap.size + 1 + 1) [0, 0, 0, 0] [0, 0, 0, 0] 4 4 _ _ (.bool false) rfl rfl rfl Z2.out Y3.out Try.underlying112 rfl (by kernel_rfl) Try.underlying112 rfl (by kernel_rfl)) rfl ⟨by unfold toA; rw [R.out]; rfl, HB2.out⟩
      · rw [decide_eq_false hq]
        have R := Lib.hid (twoOk_not (ns := ns) (i := p) (j := j) fun h => hq h.2.2.1)
        clear hq
        go_wp2_with fail
        exact bodyPost_ret (res_hasc rfl _ _ (w.heap.size + 1) (w.heap.size + 1 + 1) [0, 0, 0, 0] [0, 0, 0, 0] 4 4 _ _ (.bool false) rfl rfl rfl Z Y Try.underlying112 rfl (by kernel_rfl) Try.underlying112 rfl (by kernel_rfl)) rfl ⟨by unfold toA; rw [R.out]; rfl, HB.out⟩
    · rw [decide_eq_false hp]
      have R := Lib.hid (twoOk_not (ns := ns) (i := i) (j := j) fun h => hp h.2.1)
      clear hp
      go_wp2_with fail
      exact bodyPost_ret (res_hasc rfl _ _ (w.heap.size + 1) (w.heap.size + 1 + 1) [0, 0, 0, 0] [0, 0, 0, 0] 4 4 _ _ (.bool false) rfl rfl rfl Z Y Try.underlying112 rfl (by kernel_rfl) Try.underlying112 rfl (by kernel_rfl)) rfl ⟨by unfold toA; rw [R.out]; rfl, HB.out⟩
end Go.Proofs.Ytalngdccjoafhab.base
end

section
namespace Go.Proofs.Ytalngdccjoafhab.base
open Go.ChangeShapes Go.WideShapes Go.ChangeAt Go.RowKit
set_option linter.unusedVariables false
set_option linter.unusedSimpArgs false

def z24 : List Int := [0, 0, 0, 0, 0, 0, 0, 0, 0, 0, 0, 0, 0, 0, 0, 0, 0, 0, 0, 0, 0, 0, 0, 0]
theorem buildRack (w : World) : (Instr.build 30 #[]).run Try.prog w = .ok (.agg (ints z24).toArray) w := by kernel_rfl
theorem Has.zero24 (w : World) (T : TypeId) : Has (w.alloc (.cells #[.int .i64 0, .int .i64 0, .int .i64 0, .int .i64 0, .int .i64 0, .int .i64 0, .int .i64 0, .int .i64 0, .int .i64 0, .int .i64 0, .int .i64 0, .int .i64 0, .int .i64 0, .int .i64 0, .int .i64 0, .int .i64 0, .int .i64 0, .int .i64 0, .int .i64 0, .int .i64 0, .int .i64 0, .int .i64 0, .int .i64 0, .int .i64 0] T)) w.heap.size z24 24 := Has.box (ns := z24) w T rfl (by decide)

set_option maxHeartbeats 400000 in
theorem eqIntA4_same (t : List Int) (w : World) (h4 : t.length = 4) :
    Calls Try.prog 96 #[row t, row t] w fun e w' => e = .returned (.bool true) ∧ Kept w w' := by
  have HB := Lib.hid (((kept_refl w).alloc (.cells (ints t).toArray 22)).alloc (.cells (ints t).toArray 22))
  have H1 := (Has.box w 22 h4 (by omega)).alloc (.cells (ints t).toArray 22)
  have H2 := (Has.box (w.alloc (.cells (ints t).toArray 22)) 22 h4 (by omega)).at (size1 _ _)
  rw [row_ints]
  go_enter Try.func96, Try.ntmps96
  go_wp2_with fail
  have HL := Lib.hid h4
  clear h4
  generalize ((w.alloc (.cells (ints t).toArray 22)).alloc (.cells (ints t).toArray 22)) = W at *
  go_loopw [5] (fun z wr => ∃ k : Nat, k ≤ 4 ∧ z = .int .i64 k ∧ Has wr w.heap.size t 4 ∧ Has wr (w.heap.size + 1) t 4 ∧ Hid (Kept w wr)) (fun z _ => 4 - (intOf z).toNat)
  case atStart => exact ⟨0, by omega, rfl, H1, H2, HB⟩
  case round =>
    obtain ⟨k, hk, rfl, G1, G2, GB⟩ := hrel
    by_cases h : k < 4
    · have c1 := G1.cell k h
      have c2 := G2.cell k h
      have hki : (k : Int) < 4 := by omega
      have hk0 : (0 : Int) ≤ (k : Int) := by omega
      generalize t.getD k 0 = x at *
      go_wp2_with fail
      go_quiet (fail)
      have G3 := G1.drewN nq
      have G4 := G2.drewN nq
      have GB2 := Lib.hid (GB.out.drewN nq)
      go_wp2_with fail
      go_roundw
      case rel => exact ⟨k + 1, by omega, by go_num, G3, G4, GB2⟩
      case measure => simp [intOf]; omega
    · go_wp2_with fail
      go_ret
      exact ⟨rfl, GB.out⟩

set_option maxHeartbeats 800000 in
set_option maxRecDepth 100000 in
theorem eqIntA4A6_same (ns : List Int) (w : World) (h24 : ns.length = 24) :
    Calls Try.prog 69 #[row ns, row ns] w fun e w' => e = .returned (.bool true) ∧ Kept w w' := by
  have HB := Lib.hid (((kept_refl w).alloc (.cells (ints ns).toArray 23)).alloc (.cells (ints ns).toArray 23))
  have H1 := (Has.box w 23 h24 (by omega)).alloc (.cells (ints ns).toArray 23)
  have H2 := (Has.box (w.alloc (.cells (ints ns).toArray 23)) 23 h24 (by omega)).at (size1 _ _)
  rw [row_ints]
  go_enter Try.func69, Try.ntmps69
  go_wp2_with fail
  generalize ((w.alloc (.cells (ints ns).toArray 23)).alloc (.cells (ints ns).toArray 23)) = W at *
  go_loopw [5] (fun z wr => ∃ k : Nat, k ≤ 6 ∧ z = .int .i64 k ∧ Has wr w.heap.size ns 24 ∧ Has wr (w.heap.size + 1) ns 24 ∧ Hid (Kept w wr)) (fun z _ => 6 - (intOf z).toNat)
  case atStart => exact ⟨0, by omega, rfl, H1, H2, HB⟩
  case round =>
    obtain ⟨k, hk, rfl, G1, G2, GB⟩ := hrel
    by_cases h : k < 6
    · have hki : (k : Int) < 6 := by omega
      have hk0 : (0 : Int) ≤ (k : Int) := by omega
      have h4 := tub_len ns k h24 h
      have l1 : (ints (tub ns k)).length = 4 := by rw [ints_len]; exact h4
      have hi1 : (Try.prog.info? 22).map (·.size) = some (ints (tub ns k)).length := by rw [l1]; kernel_rfl
      go_wp2_with fail
      refine wp_region_held_drew (S := fun w' => Has w' w.heap.size ns 24 ∧ Has w' (w.heap.size + 1) ns 24 ∧ Kept w w') (by kernel_rfl) ?_ (fun hHeld => ?_)
      · exact ⟨G1.drew, G2.drew, GB.out.drewN 1⟩
      (refine wpAnyH_take (i := 0) (v := ?_) rfl (by kernel_rfl) (by kernel_rfl) (by kernel_rfl) (fun _ _ _ h => h) (Or.inl ⟨by rfl, ?_⟩) hHeld ?_; rotate_left; (· (intro w' hSw; go_simp; try with_reducible rfl)); (try simp only [List.getElem_toArray, List.getElem_cons_zero, List.getElem_cons_succ, Act.put, List.setIfInBounds_toArray, List.set_cons_zero, List.set_cons_succ])); (refine wpAnyH_take (i := 1) (v := ?_) rfl (by kernel_rfl) (by kernel_rfl) (by kernel_rfl) (fun _ _ _ h => h) (Or.inl ⟨by rfl, ?_⟩) hHeld ?_; rotate_left; (· (intro w' hSw; go_simp; try with_reducible rfl)); (try simp only [List.getElem_toArray, List.getElem_cons_zero, List.getElem_cons_succ, Act.put, List.setIfInBounds_toArray, List.set_cons_zero, List.set_cons_succ])); (refine wpAnyH_take (i := 3) (v := ?_) rfl (by kernel_rfl) (by kernel_rfl) (by kernel_rfl) (fun _ _ _ h => h) (Or.inl ⟨by rfl, ?_⟩) hHeld ?_; rotate_left; (· (intro w' hSw; go_simp; try with_reducible rfl)); (try simp only [List.getElem_toArray, List.getElem_cons_zero, List.getElem_cons_succ, Act.put, List.setIfInBounds_toArray, List.set_cons_zero, List.set_cons_succ])); (refine wpAnyH_take (i := 4) (v := ?_) rfl (by kernel_rfl) (by kernel_rfl) (by kernel_rfl) (fun _ _ _ h => h) (Or.inl ⟨by rfl, ?_⟩) hHeld ?_; rotate_left; (· (intro w' hSw; go_simp; try with_reducible rfl)); (try simp only [List.getElem_toArray, List.getElem_cons_zero, List.getElem_cons_succ, Act.put, List.setIfInBounds_toArray, List.set_cons_zero, List.set_cons_succ]))
      (refine wpAnyH_take (i := 2) (v := _) rfl (by kernel_rfl) (by kernel_rfl) (by kernel_rfl) (fun _ _ _ h => h) (yieldsIf_load_mid (by rfl) 22 _ rfl _ _ rfl (ints (tub ns k)) _ (fun w' hSw => hSw.1.holds.sub (k * 4) 4) Try.underlying22 rfl (hi1)) hHeld ?_; (try simp only [List.getElem_toArray, List.getElem_cons_zero, List.getElem_cons_succ, Act.put, List.setIfInBounds_toArray, List.set_cons_zero, List.set_cons_succ]))
      (refine wpAnyH_take (i := 5) (v := _) rfl (by kernel_rfl) (by kernel_rfl) (by kernel_rfl) (fun _ _ _ h => h) (yieldsIf_load_mid (by rfl) 22 _ rfl _ _ rfl (ints (tub ns k)) _ (fun w' hSw => hSw.2.1.holds.sub (k * 4) 4) Try.underlying22 rfl (hi1)) hHeld ?_; (try simp only [List.getElem_toArray, List.getElem_cons_zero, List.getElem_cons_succ, Act.put, List.setIfInBounds_toArray, List.set_cons_zero, List.set_cons_succ]))
      (refine wpAnyH_ready (rs := [6]) (by kernel_rfl) (by simp) ?_; refine AllReadyH.cons (o := _) rfl (fun K hK => ?_) AllReadyH.nil; (simp only [List.getElem_toArray, List.getElem_cons_zero, List.getElem_cons_succ, Region.wanted, if_true]))
      go_simp
      refine (eqIntA4_same (tub ns k) _ h4).mono ?_
      rintro e w1 ⟨rfl, b1⟩
      have G3 := hHeld.1.below b1
      have G4 := hHeld.2.1.below b1
      have GB2 := hHeld.2.2.call b1
      dsimp only
      (try simp only [List.getElem_toArray, List.getElem_cons_zero, List.getElem_cons_succ, Act.put, List.setIfInBounds_toArray, List.set_cons_zero, List.set_cons_succ])
      refine hK.out _ _ ⟨G3, G4, GB2⟩ (fun hHeld => ?_)
      clear hK K
      (refine wpAnyH_take (i := 7) (v := ?_) rfl (by kernel_rfl) (by kernel_rfl) (by kernel_rfl) (fun _ _ _ h => h) (Or.inl ⟨by rfl, ?_⟩) hHeld ?_; rotate_left; (· (intro w' hSw; go_simp; try with_reducible rfl)); (try simp only [List.getElem_toArray, List.getElem_cons_zero, List.getElem_cons_succ, Act.put, List.setIfInBounds_toArray, List.set_cons_zero, List.set_cons_succ]))
      refine wpAnyH_done (by kernel_rfl) ?_ _
      have GB3 := Lib.hid GB2
      clear hHeld GB2 b1 G1 G2 GB hi1 l1
      go_wp2_with fail
      go_roundw
      case rel => exact ⟨k + 1, by omega, by go_num, G3, G4, GB3⟩
      case measure => simp [intOf]; omega
    · go_wp2_with fail
      go_ret
      exact ⟨rfl, GB.out⟩

theorem eqRack_same (ns : List Int) (w : World) (h24 : ns.length = 24) :
    Calls Try.prog 36 #[row ns, row ns] w fun e w' => e = .returned (.bool true) ∧ Kept w w' := by
  have HB := Lib.hid (((kept_refl w).alloc (.cells (ints ns).toArray 30)).alloc (.cells (ints ns).toArray 30))
  have H1 := (Has.box w 30 h24 (by omega)).alloc (.cells (ints ns).toArray 30)
  have H2 := (Has.box (w.alloc (.cells (ints ns).toArray 30)) 30 h24 (by omega)).at (size1 _ _)
  rw [row_ints]
  go_enter Try.func36, Try.ntmps36
  go_wp2_with (refine load_has rfl 23 _ rfl _ rfl ?_ 24 ?_ _ Try.underlying23 rfl ?_ ?_; rotate_left; (· (repeat (first | (with_reducible assumption) | ((with_reducible refine Has.box _ _ ?_ ?_) <;> (first | assumption | decide)) | (with_reducible refine Has.alloc ?_ _) | ((with_reducible refine Has.putOther ?_ _ _ ?_); rotate_left; omega; skip) | ((with_reducible refine Has.below ?_ ?_); rotate_left; assumption)))); (· kernel_rfl))
  refine (eqIntA4A6_same ns _ h24).mono ?_
  rintro e w1 ⟨rfl, b1⟩
  have HB1 := Lib.hid (HB.out.call b1)
  clear b1
  go_wp2_with fail
  go_ret
  exact ⟨rfl, HB1.out⟩
end Go.Proofs.Ytalngdccjoafhab.base
end
