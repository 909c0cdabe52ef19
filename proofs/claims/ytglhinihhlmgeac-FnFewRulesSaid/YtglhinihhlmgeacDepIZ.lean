/-
  Depths, and racks that are valid for them, on both sides, walked.
-/
/-
  Racks that are valid for depths, on both sides, walked.
-/
import Derived.Test.YtglhinihhlmgeacOthM
import Derived.Test.YtglhinihhlmgeacSixV
import Derived.Test.YtglhinihhlmgeacMinMax
import Derived.Test.YtglhinihhlmgeacSpecW
import Derived.Test.YtglhinihhlmgeacMoveI

section
namespace Go.Proofs.Ytglhinihhlmgeac.base
open Go.ChangeShapes Go.WideShapes Go.ChangeAt Go.RowKit
set_option linter.unusedVariables false
set_option linter.unusedSimpArgs false

theorem vD_lohi (ds : List Int) : vD ds = (decide (1 ≤ loUp ds 5) && decide (hiUp ds 5 ≤ 4)) := by
  rw [Bool.eq_iff_iff, Bool.and_eq_true, decide_eq_true_eq, decide_eq_true_eq, lo_iff, hi_iff]
  unfold vD
  rw [List.all_eq_true]
  constructor
  · intro h
    refine ⟨fun i hi => (of_decide_eq_true (h i (List.mem_range.2 (by omega)))).1, fun i hi => (of_decide_eq_true (h i (List.mem_range.2 (by omega)))).2⟩
  · rintro ⟨h1, h2⟩ i hi
    have := List.mem_range.1 hi
    exact decide_eq_true ⟨h1 i (by omega), h2 i (by omega)⟩

set_option maxHeartbeats 400000 in
theorem implDepths (ds : List Int) (w : World) (h6 : ds.length = 6) :
    Calls Try.prog 61 #[row ds] w fun e w' => e = .returned (.bool (vD ds)) ∧ Kept w w' := by
  have HB := Lib.hid ((kept_refl w).alloc (.cells (ints ds).toArray 28))
  have H := Has.box w 28 h6 (by omega)
  have V := Lib.hid (vD_lohi ds)
  have K1 := Lib.hid (min6_any ds _ _ H)
  have K2 := Lib.hid (max6_any ds _ _ H)
  clear H
  rw [row_ints]
  go_enter Try.func61, Try.ntmps61
  go_wp2_with fail
  refine K1.out.mono ?_
  rintro e w1 ⟨rfl, rfl⟩
  by_cases h : 1 ≤ loUp ds 5
  · have V2 := Lib.hid (show vD ds = decide (hiUp ds 5 ≤ 4) by rw [V.out, decide_eq_true h, Bool.true_and])
    go_wp2_with fail
    refine K2.out.mono ?_
    rintro e w1 ⟨rfl, rfl⟩
    go_wp2_with fail
    go_ret
    exact ⟨ret_bool (by rw [V2.out]), HB.out⟩
  · have V2 := Lib.hid (show vD ds = false by rw [V.out, decide_eq_false h, Bool.false_and])
    have q1 : decide (1 ≤ loUp ds 5) = false := decide_eq_false h
    go_wp2_with fail
    go_ret
    exact ⟨ret_bool (by rw [V2.out]), HB.out⟩

def vDUp (ds : List Int) (k : Nat) : Bool := (List.range k).all fun i => decide (1 ≤ ds.getD i 0 ∧ ds.getD i 0 ≤ 4)
theorem vDUp_succ (ds : List Int) (k : Nat) : vDUp ds (k + 1) = (vDUp ds k && decide (1 ≤ ds.getD k 0 ∧ ds.getD k 0 ≤ 4)) := by
  unfold vDUp; rw [List.range_succ, List.all_append]; simp
theorem vD_stop {ds : List Int} (k : Nat) (hk : k < 6) (h : ¬ (1 ≤ ds.getD k 0 ∧ ds.getD k 0 ≤ 4)) : vD ds = false := by
  cases hb : vD ds with
  | false => rfl
  | true => exact absurd (vD_at hb k hk) h
set_option maxHeartbeats 400000 in
theorem l8Depths_any (ds : List Int) (w : World) (h6 : ds.length = 6) :
    Calls Try.prog 48 #[row ds] w fun e w' => e = .returned (.bool (vD ds)) ∧ Kept w w' := by
  have HB := Lib.hid ((kept_refl w).alloc (.cells (ints ds).toArray 28))
  have H := Has.box w 28 h6 (by omega)
  rw [row_ints]
  go_enter Try.func48, Try.ntmps48
  go_wp2_with fail
  go_loop [3] (fun i => ∃ k : Nat, k ≤ 6 ∧ i = .int .i64 k ∧ Hid (vDUp ds k = true)) (fun i => 6 - (intOf i).toNat)
  case atStart => exact ⟨0, by omega, rfl, Lib.hid rfl⟩
  case round =>
    obtain ⟨k, hk, rfl, HV⟩ := hrel
    by_cases h : k < 6
    · have c0 := H.cell k h
      have hki : (k : Int) < 6 := by omega
      by_cases hx : 1 ≤ ds.getD k 0 ∧ ds.getD k 0 ≤ 4
      · have V2 := Lib.hid (show vDUp ds (k + 1) = true by rw [vDUp_succ, HV.out, decide_eq_true hx]; rfl)
        have D := Lib.hid (decide_eq_true hx)
        clear hx
        generalize ds.getD k 0 = x at *
        go_wp2_with fail
        refine (l1In_any x 1 4 _).mono ?_
        rintro e w1 ⟨rfl, rfl⟩
        rw [D.out]
        go_wp2_with fail
        go_round
        case rel => exact ⟨k + 1, by omega, by go_num, V2⟩
        case measure => simp [intOf]; omega
      · have V2 := Lib.hid (vD_stop k h hx)
        have D := Lib.hid (decide_eq_false hx)
        clear hx
        generalize ds.getD k 0 = x at *
        go_wp2_with fail
        refine (l1In_any x 1 4 _).mono ?_
        rintro e w1 ⟨rfl, rfl⟩
        rw [D.out]
        go_wp2_with fail
        go_ret
        exact ⟨ret_bool (by rw [V2.out]), HB.out⟩
    · obtain rfl : k = 6 := by omega
      have V2 := Lib.hid (show vD ds = true from HV.out)
      go_wp2_with fail
      go_ret
      exact ⟨ret_bool (by rw [V2.out]), HB.out⟩
def manyUp (t : List Int) (k : Nat) : Nat := ((t.take k).filter fun x => decide (0 < x)).length
theorem manyUp_succ (t : List Int) (k : Nat) (hk : k < t.length) : manyUp t (k + 1) = manyUp t k + if 0 < t.getD k 0 then 1 else 0 := by
  unfold manyUp
  have e : t.getD k 0 = t[k] := by rw [List.getD_eq_getElem?_getD, List.getElem?_eq_getElem hk]; rfl
  rw [← List.take_append_getElem hk, List.filter_append, List.length_append, e]
  congr 1
  by_cases h : 0 < t[k]
  · rw [if_pos h, List.filter_cons, if_pos (by simpa using h)]; rfl
  · rw [if_neg h, List.filter_cons, if_neg (by simpa using h)]; rfl
theorem manyUp_all {t : List Int} (h : t.length = 4) : manyUp t 4 = many t := by
  unfold manyUp many; rw [List.take_of_length_le (by omega)]
set_option maxHeartbeats 400000 in
theorem l2ManyM_any (t : List Int) (w : World) (h4 : t.length = 4) :
    Calls Try.prog 46 #[row t] w fun e w' => e = .returned (.int .i64 (many t : Nat)) ∧ Kept w w' := by
  have HB := Lib.hid ((kept_refl w).alloc (.cells (ints t).toArray 24))
  have H := Has.box w 24 h4 (by omega)
  have E := Lib.hid (manyUp_all h4)
  have HS := Lib.hid (fun k hk => manyUp_succ t k hk)
  have HL := Lib.hid h4
  rw [row_ints]
  go_enter Try.func46, Try.ntmps46
  go_wp2_with fail
  go_loop [3, 4] (fun m i => ∃ k q : Nat, k ≤ 4 ∧ i = .int .i64 k ∧ m = .int .i64 q ∧ Hid (q = manyUp t k) ∧ q ≤ k) (fun _ i => 4 - (intOf i).toNat)
  case atStart => exact ⟨0, 0, by omega, rfl, rfl, Lib.hid (by unfold manyUp; rfl), by omega⟩
  case round =>
    obtain ⟨k, q, hk, rfl, rfl, HQ, hq4⟩ := hrel
    by_cases h : k < 4
    · have c0 := H.cell k h
      have f0 := HS.out k (by have := HL.out; omega)
      generalize t.getD k 0 = x at *
      by_cases hl : 0 < x
      · have R := Lib.hid (show q + 1 = manyUp t (k + 1) by rw [f0, if_pos hl, HQ.out])
        clear f0
        go_wp2_with fail
        go_round
        case rel => exact ⟨k + 1, q + 1, by omega, by go_num, by go_num, R, by omega⟩
        case measure => simp [intOf]; omega
      · have p0 : decide (0 < x) = false := decide_eq_false hl
        have R := Lib.hid (show q = manyUp t (k + 1) by rw [f0, if_neg hl, HQ.out]; rfl)
        clear f0
        go_wp2_with fail
        go_round
        case rel => exact ⟨k + 1, q, by omega, by go_num, rfl, R, by omega⟩
        case measure => simp [intOf]; omega
    · obtain rfl : k = 4 := by omega
      have E2 := Lib.hid (show q = many t by rw [HQ.out, E.out])
      go_wp2_with fail
      go_ret
      exact ⟨ret_int (by rw [E2.out]), HB.out⟩
end Go.Proofs.Ytglhinihhlmgeac.base
end

section
namespace Go.Proofs.Ytglhinihhlmgeac.base
open Go.ChangeShapes Go.WideShapes Go.ChangeAt Go.RowKit
set_option linter.unusedVariables false
set_option linter.unusedSimpArgs false

theorem keptDrew8 {w w' : World} (h : Kept w w') : Kept w w'.drew := h.drewN 1
theorem Has.cellE {w : World} {b n k : Nat} {ns : List Int} {x : Int} (H : Has w b ns n) (hk : k < n) (hx : ns.getD k 0 = x) : w.cell? ⟨b, k, Option.none⟩ = some (.int .i64 x) := by rw [H.cell k hk, hx]
def inDUp (ns ds : List Int) (k : Nat) : Bool := (List.range k).all fun i => decide (((many (tub ns i) : Nat) : Int) ≤ ds.getD i 0)
theorem inDUp_succ (ns ds : List Int) (k : Nat) : inDUp ns ds (k + 1) = (inDUp ns ds k && decide (((many (tub ns k) : Nat) : Int) ≤ ds.getD k 0)) := by
  unfold inDUp; rw [List.range_succ, List.all_append]; simp
theorem inD_stop {ns ds : List Int} (k : Nat) (hk : k < 6) (h : ¬ (((many (tub ns k) : Nat) : Int) ≤ ds.getD k 0)) : inD ns ds = false := by
  cases hb : inD ns ds with
  | false => rfl
  | true => exact absurd (inD_at hb k hk) h
theorem fit_stop {ns ds : List Int} (h : inD ns ds = false) : fitA ns ds = false := by unfold fitA; rw [h, Bool.and_false]

set_option maxHeartbeats 1600000 in
set_option maxRecDepth 100000 in
theorem l8Fits_any (ns ds : List Int) (w : World) (h24 : ns.length = 24) (h6 : ds.length = 6) :
    Calls Try.prog 21 #[row ns, row ds] w fun e w' => e = .returned (.bool (fitA ns ds)) ∧ Kept w w' := by
  have HB := Lib.hid (((kept_refl w).alloc (.cells (ints ns).toArray 27)).alloc (.cells (ints ds).toArray 28))
  have H := (Has.box w 27 h24 (by omega)).alloc (.cells (ints ds).toArray 28)
  have D := (Has.box (w.alloc (.cells (ints ns).toArray 27)) 28 h6 (by omega)).at (size1 _ _)
  rw [row_ints, row_ints]
  go_enter Try.func21, Try.ntmps21
  go_wp2_with fail
  have H24 := Lib.hid h24
  have H6 := Lib.hid h6
  clear h24 h6
  generalize ((w.alloc (.cells (ints ns).toArray 27)).alloc (.cells (ints ds).toArray 28)) = W at *
  go_loopw [5] (fun i wr => ∃ k : Nat, k ≤ 6 ∧ i = .int .i64 k ∧ Has wr w.heap.size ns 24 ∧ Has wr (w.heap.size + 1) ds 6 ∧ Hid (inDUp ns ds k = true) ∧ Hid (Kept w wr)) (fun i _ => 6 - (intOf i).toNat)
  case atStart => exact ⟨0, by omega, rfl, H, D, Lib.hid rfl, HB⟩
  case round =>
    obtain ⟨k, hk, rfl, GH, GD, GV, GB⟩ := hrel
    clear H D HB
    by_cases h : k < 6
    · have hki : (k : Int) < 6 := by omega
      obtain ⟨x, hxe⟩ : ∃ x : Int, ds.getD k 0 = x := ⟨_, rfl⟩
      have HX := Lib.hid hxe
      clear hxe
      have h4 := tub_len ns k H24.out h
      have l4 : (ints (tub ns k)).length = 4 := by rw [ints_len]; exact h4
      have hi1 : (Try.prog.info? 24).map (·.size) = some (ints (tub ns k)).length := by rw [l4]; kernel_rfl
      have GB := Lib.hid (GB.out.drewN 1)
      have GH := GH.drew
      have GD := GD.drew
      go_wp2_with fail
      refine wp_region_held_drew (S := fun w' => Has w' w.heap.size ns 24 ∧ Has w' (w.heap.size + 1) ds 6) (by kernel_rfl) ⟨GH, GD⟩ (fun hHeld => ?_)
      (refine wpAnyH_take (i := 0) (v := ?_) rfl (by kernel_rfl) (by kernel_rfl) (by kernel_rfl) (fun _ _ _ h => h) (Or.inl ⟨by rfl, ?_⟩) hHeld ?_; rotate_left; (· (intro w' hSw; go_simp; try with_reducible rfl)); (try simp only [List.getElem_toArray, List.getElem_cons_zero, List.getElem_cons_succ, Act.put, List.setIfInBounds_toArray, List.set_cons_zero, List.set_cons_succ])); (refine wpAnyH_take (i := 1) (v := ?_) rfl (by kernel_rfl) (by kernel_rfl) (by kernel_rfl) (fun _ _ _ h => h) (Or.inl ⟨by rfl, ?_⟩) hHeld ?_; rotate_left; (· (intro w' hSw; go_simp; try with_reducible rfl)); (try simp only [List.getElem_toArray, List.getElem_cons_zero, List.getElem_cons_succ, Act.put, List.setIfInBounds_toArray, List.set_cons_zero, List.set_cons_succ])); (refine wpAnyH_take (i := 2) (v := ?_) rfl (by kernel_rfl) (by kernel_rfl) (by kernel_rfl) (fun _ _ _ h => h) (Or.inl ⟨by rfl, ?_⟩) hHeld ?_; rotate_left; (· (intro w' hSw; go_simp; try with_reducible rfl)); (try simp only [List.getElem_toArray, List.getElem_cons_zero, List.getElem_cons_succ, Act.put, List.setIfInBounds_toArray, List.set_cons_zero, List.set_cons_succ])); (refine wpAnyH_take (i := 5) (v := ?_) rfl (by kernel_rfl) (by kernel_rfl) (by kernel_rfl) (fun _ _ _ h => h) (Or.inl ⟨by rfl, ?_⟩) hHeld ?_; rotate_left; (· (intro w' hSw; go_simp; try with_reducible rfl)); (try simp only [List.getElem_toArray, List.getElem_cons_zero, List.getElem_cons_succ, Act.put, List.setIfInBounds_toArray, List.set_cons_zero, List.set_cons_succ])); (refine wpAnyH_take (i := 6) (v := ?_) rfl (by kernel_rfl) (by kernel_rfl) (by kernel_rfl) (fun _ _ _ h => h) (Or.inl ⟨by rfl, ?_⟩) hHeld ?_; rotate_left; (· (intro w' hSw; go_simp; try with_reducible rfl)); (try simp only [List.getElem_toArray, List.getElem_cons_zero, List.getElem_cons_succ, Act.put, List.setIfInBounds_toArray, List.set_cons_zero, List.set_cons_succ]))
      (refine wpAnyH_take (i := 3) (v := _) rfl (by kernel_rfl) (by kernel_rfl) (by kernel_rfl) (fun _ _ _ h => h) (yieldsIf_load_mid (by rfl) 24 _ rfl _ _ rfl (ints (tub ns k)) _ (fun w' hSw => hSw.1.holds.sub (k * 4) 4) Try.underlying24 rfl (hi1)) hHeld ?_; (try simp only [List.getElem_toArray, List.getElem_cons_zero, List.getElem_cons_succ, Act.put, List.setIfInBounds_toArray, List.set_cons_zero, List.set_cons_succ]))
      (refine wpAnyH_take (i := 7) (v := .int .i64 x) rfl (by kernel_rfl) (by kernel_rfl) (by kernel_rfl) (fun _ _ _ h => h) (Or.inl ⟨by rfl, ?_⟩) hHeld ?_; (· (intro w' hSw; have q := hSw.2.cellE h HX.out; clear hSw; go_simp; try with_reducible rfl)); (try simp only [List.getElem_toArray, List.getElem_cons_zero, List.getElem_cons_succ, Act.put, List.setIfInBounds_toArray, List.set_cons_zero, List.set_cons_succ]))
      (refine wpAnyH_ready (rs := [4]) (by kernel_rfl) (by simp) ?_; refine AllReadyH.cons (o := _) rfl (fun K hK => ?_) AllReadyH.nil; (simp only [List.getElem_toArray, List.getElem_cons_zero, List.getElem_cons_succ, Region.wanted, if_true]))
      go_simp
      refine (l2ManyM_any (tub ns k) _ h4).mono ?_
      rintro e u1 ⟨rfl, d1⟩
      replace GH := GH.below d1
      replace GD := GD.below d1
      replace GB := Lib.hid (GB.out.call d1)
      dsimp only
      (try simp only [List.getElem_toArray, List.getElem_cons_zero, List.getElem_cons_succ, Act.put, List.setIfInBounds_toArray, List.set_cons_zero, List.set_cons_succ])
      refine hK.out _ _ ⟨GH, GD⟩ (fun hHeld => ?_)
      clear hK K d1 hi1 l4
      (refine wpAnyH_take (i := 8) (v := ?_) rfl (by kernel_rfl) (by kernel_rfl) (by kernel_rfl) (fun _ _ _ h => h) (Or.inl ⟨by rfl, ?_⟩) hHeld ?_; rotate_left; (· (intro w' hSw; go_simp; try with_reducible rfl)); (try simp only [List.getElem_toArray, List.getElem_cons_zero, List.getElem_cons_succ, Act.put, List.setIfInBounds_toArray, List.set_cons_zero, List.set_cons_succ]))
      refine wpAnyH_done (by kernel_rfl) ?_ _
      clear hHeld
      by_cases hx : ((many (tub ns k) : Nat) : Int) ≤ x
      · have V2 := Lib.hid (show inDUp ns ds (k + 1) = true by rw [inDUp_succ, GV.out, HX.out, decide_eq_true hx]; rfl)
        have q1 : decide (((many (tub ns k) : Nat) : Int) > x) = false := by simp; omega
        have q2 : decide (x < ((many (tub ns k) : Nat) : Int)) = false := by simp; omega
        rw [q2]
        clear hx
        go_wp2_with fail
        go_roundw
        case rel => exact ⟨k + 1, by omega, by go_num, GH, GD, V2, GB⟩
        case measure => simp [intOf]; omega
      · have V2 := Lib.hid (fit_stop (inD_stop k h (by rw [HX.out]; exact hx)))
        have q1 : decide (((many (tub ns k) : Nat) : Int) > x) = true := by simp; omega
        have q2 : decide (x < ((many (tub ns k) : Nat) : Int)) = true := by simp; omega
        rw [q2]
        clear hx
        go_wp2_with fail
        go_ret
        exact ⟨ret_bool (by rw [V2.out]), GB.out⟩
    · obtain rfl : k = 6 := by omega
      have h24 := H24.out
      have h6 := H6.out
      have V2 := Lib.hid (show inD ns ds = true from GV.out)
      go_wp2_with (refine load_has rfl 27 _ rfl _ rfl ?_ 24 ?_ _ Try.underlying27 rfl ?_ ?_; rotate_left; (· (repeat (first | (with_reducible assumption) | ((with_reducible refine Has.box _ _ ?_ ?_) <;> (first | assumption | decide)) | (with_reducible refine Has.alloc ?_ _) | ((with_reducible refine Has.putOther ?_ _ _ ?_); rotate_left; omega; skip) | ((with_reducible refine Has.below ?_ ?_); rotate_left; assumption)))); (· kernel_rfl))
      refine (l2Rack_any ns _ h24).mono ?_
      rintro e w1 ⟨rfl, b1⟩
      have GD1 := GD.below b1
      have HB1 := Lib.hid (GB.out.call b1)
      clear GH GD GB b1
      by_cases hv : vR ns = true
      · have V3 := Lib.hid (show fitA ns ds = vD ds by unfold fitA okD; rw [hv, V2.out, Bool.true_and, Bool.and_true])
        rw [hv]
        clear hv
        go_wp2_with (refine load_has rfl 28 _ rfl _ rfl ?_ 6 ?_ _ Try.underlying28 rfl ?_ ?_; rotate_left; (· (repeat (first | (with_reducible assumption) | ((with_reducible refine Has.box _ _ ?_ ?_) <;> (first | assumption | decide)) | (with_reducible refine Has.alloc ?_ _) | ((with_reducible refine Has.putOther ?_ _ _ ?_); rotate_left; omega; skip) | ((with_reducible refine Has.below ?_ ?_); rotate_left; assumption)))); (· kernel_rfl))
        refine (l8Depths_any ds _ h6).mono ?_
        rintro e w2 ⟨rfl, b2⟩
        have HB2 := Lib.hid (HB1.out.call b2)
        clear HB1 GD1 b2
        go_wp2_with fail
        go_ret
        exact ⟨ret_bool (by rw [V3.out]), HB2.out⟩
      · have hf : vR ns = false := by simpa using hv
        have V3 := Lib.hid (show fitA ns ds = false by unfold fitA okD; rw [hf]; rfl)
        rw [hf]
        clear hf hv
        go_wp2_with fail
        go_ret
        exact ⟨ret_bool (by rw [V3.out]), HB1.out⟩

theorem l8Rule_any (x : Int) (w : World) :
    Calls Try.prog 28 #[.int .i64 x] w fun e w' => e = .returned (.bool (ruleV x)) ∧ w = w' := by
  go_enter Try.func28, Try.ntmps28
  go_wp2_with fail
  refine (l1In_any x 1 4 _).mono ?_
  rintro e w1 ⟨rfl, rfl⟩
  have V := Lib.hid (show decide (1 ≤ x ∧ x ≤ 4) = ruleV x from rfl)
  rw [V.out]
  go_wp2_with fail
  go_ret
  exact ⟨rfl, rfl⟩

set_option maxHeartbeats 1600000 in
set_option maxRecDepth 100000 in
theorem implFitsD (ns ds : List Int) (w : World) (h24 : ns.length = 24) (h6 : ds.length = 6) :
    Calls Try.prog 51 #[row ns, row ds] w fun e w' => e = .returned (.tuple #[.bool (fitA ns ds), .bool (okD ns ds)]) ∧ Kept w w' := by
  have HB := Lib.hid (((kept_refl w).alloc (.cells (ints ns).toArray 27)).alloc (.cells (ints ds).toArray 28))
  have H := (Has.box w 27 h24 (by omega)).alloc (.cells (ints ds).toArray 28)
  have D := (Has.box (w.alloc (.cells (ints ns).toArray 27)) 28 h6 (by omega)).at (size1 _ _)
  rw [row_ints, row_ints]
  go_enter Try.func51, Try.ntmps51
  go_wp2_with (refine load_has rfl 27 _ rfl _ rfl ?_ 24 ?_ _ Try.underlying27 rfl ?_ ?_; rotate_left; (· (repeat (first | (with_reducible assumption) | ((with_reducible refine Has.box _ _ ?_ ?_) <;> (first | assumption | decide)) | (with_reducible refine Has.alloc ?_ _) | ((with_reducible refine Has.putOther ?_ _ _ ?_); rotate_left; omega; skip) | ((with_reducible refine Has.below ?_ ?_); rotate_left; assumption)))); (· kernel_rfl))
  refine (isRack_any ns _ h24).mono ?_
  rintro e w1 ⟨rfl, b1⟩
  have H1 := H.below b1
  have D1 := D.below b1
  have HB1 := Lib.hid (HB.out.call b1)
  clear H D HB b1
  by_cases hv : vR ns = true
  · have HV := Lib.hid hv
    rw [hv]
    go_wp2_with (refine load_has rfl 28 _ rfl _ rfl ?_ 6 ?_ _ Try.underlying28 rfl ?_ ?_; rotate_left; (· (repeat (first | (with_reducible assumption) | ((with_reducible refine Has.box _ _ ?_ ?_) <;> (first | assumption | decide)) | (with_reducible refine Has.alloc ?_ _) | ((with_reducible refine Has.putOther ?_ _ _ ?_); rotate_left; omega; skip) | ((with_reducible refine Has.below ?_ ?_); rotate_left; assumption)))); (· kernel_rfl))
    refine (implDepths ds _ h6).mono ?_
    rintro e w2 ⟨rfl, b2⟩
    have H2 := H1.below b2
    have D2 := D1.below b2
    have HB2 := Lib.hid (HB1.out.call b2)
    clear H1 D1 HB1 b2
    by_cases hd : vD ds = true
    · have O := Lib.hid (show okD ns ds = true by unfold okD; rw [hv, hd]; rfl)
      rw [hd]
      clear hd hv
      go_wp2_with (refine load_has rfl 25 _ rfl _ rfl ?_ 24 ?_ _ Try.underlying25 rfl ?_ ?_; rotate_left; (· (repeat (first | (with_reducible assumption) | ((with_reducible refine Has.box _ _ ?_ ?_) <;> (first | assumption | decide)) | (with_reducible refine Has.alloc ?_ _) | ((with_reducible refine Has.putOther ?_ _ _ ?_); rotate_left; omega; skip) | ((with_reducible refine Has.below ?_ ?_); rotate_left; assumption)))); (· kernel_rfl))
      have H24 := Lib.hid h24
      clear h24 h6
      go_loopw [18] (fun i wr => ∃ k : Nat, k ≤ 6 ∧ i = .int .i64 k ∧ Has wr (w.heap.size + 1) ds 6 ∧ Hid (inDUp ns ds k = true) ∧ Hid (Kept w wr)) (fun i _ => 6 - (intOf i).toNat)
      case atStart => exact ⟨0, by omega, rfl, D2, Lib.hid rfl, HB2⟩
      case round =>
        obtain ⟨k, hk, rfl, GD, GV, GB⟩ := hrel
        clear H2 D2 HB2
        by_cases h : k < 6
        · have hki : (k : Int) < 6 := by omega
          obtain ⟨x, hxe⟩ : ∃ x : Int, ds.getD k 0 = x := ⟨_, rfl⟩
          have HX := Lib.hid hxe
          clear hxe
          have h4 := tub_len ns k H24.out h
          have vt := vR_tub HV.out k h
          have g0 := indexTub ns k h
          have EM := Lib.hid (lay_many H24.out HV.out k h)
          have l4 : (ints (tub ns k)).length = 4 := by rw [ints_len]; exact h4
          have hi1 : (Try.prog.info? 24).map (·.size) = some (ints (tub ns k)).length := by rw [l4]; kernel_rfl
          have T0 := (Has.box wr 24 h4 (by omega)).drew
          have GD := (GD.alloc (.cells (ints (tub ns k)).toArray 24)).drew
          have GB := Lib.hid ((GB.out.alloc (.cells (ints (tub ns k)).toArray 24)).drewN 1)
          go_wp2_with (refine store_new rfl 24 _ _ rfl _ _ _ rfl _ rfl _ rfl rfl ?_ ?_ ?_; (· (first | assumption | rfl)); (· kernel_rfl))
          refine wp_region_held_drew (S := fun w' => Has w' wr.heap.size (tub ns k) 4 ∧ Has w' (w.heap.size + 1) ds 6) (by kernel_rfl) ⟨T0, GD⟩ (fun hHeld => ?_)
          (refine wpAnyH_take (i := 2) (v := ?_) rfl (by kernel_rfl) (by kernel_rfl) (by kernel_rfl) (fun _ _ _ h => h) (Or.inl ⟨by rfl, ?_⟩) hHeld ?_; rotate_left; (· (intro w' hSw; go_simp; try with_reducible rfl)); (try simp only [List.getElem_toArray, List.getElem_cons_zero, List.getElem_cons_succ, Act.put, List.setIfInBounds_toArray, List.set_cons_zero, List.set_cons_succ])); (refine wpAnyH_take (i := 3) (v := ?_) rfl (by kernel_rfl) (by kernel_rfl) (by kernel_rfl) (fun _ _ _ h => h) (Or.inl ⟨by rfl, ?_⟩) hHeld ?_; rotate_left; (· (intro w' hSw; go_simp; try with_reducible rfl)); (try simp only [List.getElem_toArray, List.getElem_cons_zero, List.getElem_cons_succ, Act.put, List.setIfInBounds_toArray, List.set_cons_zero, List.set_cons_succ]))
          (refine wpAnyH_take (i := 0) (v := _) rfl (by kernel_rfl) (by kernel_rfl) (by kernel_rfl) (fun _ _ _ h => h) (yieldsIf_load_mid (by rfl) 24 _ rfl _ _ rfl (ints (tub ns k)) _ (fun w' hSw => hSw.1.holds.range) Try.underlying24 rfl (hi1)) hHeld ?_; (try simp only [List.getElem_toArray, List.getElem_cons_zero, List.getElem_cons_succ, Act.put, List.setIfInBounds_toArray, List.set_cons_zero, List.set_cons_succ]))
          (refine wpAnyH_take (i := 4) (v := .int .i64 x) rfl (by kernel_rfl) (by kernel_rfl) (by kernel_rfl) (fun _ _ _ h => h) (Or.inl ⟨by rfl, ?_⟩) hHeld ?_; (· (intro w' hSw; have q := hSw.2.cellE h HX.out; clear hSw; go_simp; try with_reducible rfl)); (try simp only [List.getElem_toArray, List.getElem_cons_zero, List.getElem_cons_succ, Act.put, List.setIfInBounds_toArray, List.set_cons_zero, List.set_cons_succ]))
          (refine wpAnyH_ready (rs := [1]) (by kernel_rfl) (by simp) ?_; refine AllReadyH.cons (o := _) rfl (fun K hK => ?_) AllReadyH.nil; (simp only [List.getElem_toArray, List.getElem_cons_zero, List.getElem_cons_succ, Region.wanted, if_true]))
          go_simp
          refine (layers_any (tub ns k) _ h4 vt).mono ?_
          rintro e u1 ⟨rfl, d1⟩
          replace T0 := T0.below d1
          replace GD := GD.below d1
          replace GB := Lib.hid (GB.out.call d1)
          dsimp only
          (try simp only [List.getElem_toArray, List.getElem_cons_zero, List.getElem_cons_succ, Act.put, List.setIfInBounds_toArray, List.set_cons_zero, List.set_cons_succ])
          refine hK.out _ _ ⟨T0, GD⟩ (fun hHeld => ?_)
          clear hK K d1 hi1 l4
          (refine wpAnyH_take (i := 5) (v := ?_) rfl (by kernel_rfl) (by kernel_rfl) (by kernel_rfl) (fun _ _ _ h => h) (Or.inl ⟨by rfl, ?_⟩) hHeld ?_; rotate_left; (· (intro w' hSw; go_simp; try with_reducible rfl)); (try simp only [List.getElem_toArray, List.getElem_cons_zero, List.getElem_cons_succ, Act.put, List.setIfInBounds_toArray, List.set_cons_zero, List.set_cons_succ]))
          refine wpAnyH_done (by kernel_rfl) ?_ _
          clear hHeld T0
          by_cases hx : ((lay (tub ns k) : Nat) : Int) ≤ x
          · have V2 := Lib.hid (show inDUp ns ds (k + 1) = true by rw [inDUp_succ, GV.out, EM.out, HX.out, decide_eq_true hx]; rfl)
            have q1 : decide (((lay (tub ns k) : Nat) : Int) > x) = false := by simp; omega
            have q2 : decide (x < ((lay (tub ns k) : Nat) : Int)) = false := by simp; omega
            rw [q2]
            clear hx g0
            go_wp2_with fail
            go_roundw
            case rel => exact ⟨k + 1, by omega, by go_num, GD, V2, GB⟩
            case measure => simp [intOf]; omega
          · have V2 := Lib.hid (fit_stop (inD_stop (ns := ns) (ds := ds) k h (by rw [EM.out, HX.out]; exact hx)))
            have q1 : decide (((lay (tub ns k) : Nat) : Int) > x) = true := by simp; omega
            have q2 : decide (x < ((lay (tub ns k) : Nat) : Int)) = true := by simp; omega
            rw [q2]
            clear hx g0
            go_wp2_with fail
            go_ret2
            exact ⟨by rw [V2.out, O.out]; rfl, GB.out⟩
        · obtain rfl : k = 6 := by omega
          have V2 := Lib.hid (show fitA ns ds = true by unfold fitA; rw [O.out]; exact GV.out)
          go_wp2_with fail
          go_ret2
          exact ⟨by rw [V2.out, O.out]; rfl, GB.out⟩
    · have hf : vD ds = false := by simpa using hd
      have O := Lib.hid (show okD ns ds = false by unfold okD; rw [hf, Bool.and_false])
      have F := Lib.hid (show fitA ns ds = false by unfold fitA; rw [O.out, Bool.false_and])
      rw [hf]
      clear hf hd hv
      go_wp2_with fail
      go_ret2
      exact ⟨by rw [O.out, F.out]; rfl, HB2.out⟩
  · have hf : vR ns = false := by simpa using hv
    have O := Lib.hid (show okD ns ds = false by unfold okD; rw [hf]; rfl)
    have F := Lib.hid (show fitA ns ds = false by unfold fitA; rw [O.out, Bool.false_and])
    rw [hf]
    clear hf hv
    go_wp2_with fail
    go_ret2
    exact ⟨by rw [O.out, F.out]; rfl, HB1.out⟩
end Go.Proofs.Ytglhinihhlmgeac.base
end
