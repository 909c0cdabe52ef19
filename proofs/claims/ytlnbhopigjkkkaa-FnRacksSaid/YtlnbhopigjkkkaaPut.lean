/-
  Putting a layer, on both sides, walked.
-/
import Derived.Test.YtlnbhopigjkkkaaLayer
namespace Go.Proofs.Ytlnbhopigjkkkaa.base
open Go.ChangeShapes Go.WideShapes Go.ChangeAt Go.RowKit
set_option linter.unusedVariables false
set_option linter.unusedSimpArgs false

def putOk (ns : List Int) (i c : Int) : Bool := inR ns i && decide (1 ≤ c ∧ c ≤ 5) && decide (lay (tub ns i.toNat) < 4)
def putR (ns : List Int) (i c : Int) : List Int := if putOk ns i c = true then setTub ns i.toNat (putT (tub ns i.toNat) c) else z24
theorem putOk_no {ns : List Int} {i c : Int} (h : inR ns i = false) : putOk ns i c = false := by unfold putOk; rw [h]; rfl
theorem putT_len {t : List Int} (h : t.length = 4) (c : Int) : (putT t c).length = 4 := by unfold putT; rw [List.length_set]; exact h
theorem putR_len {ns : List Int} (h : ns.length = 24) (i c : Int) : (putR ns i c).length = 24 := by
  unfold putR
  by_cases hb : putOk ns i c = true
  · rw [if_pos hb]
    have : inR ns i = true := by unfold putOk at hb; simp at hb; exact hb.1.1
    obtain ⟨_, p, rfl, hp⟩ := inR_of this
    rw [Int.toNat_natCast]
    exact setTub_len ns p _ h hp (putT_len (tub_len ns p h hp) c)
  · rw [if_neg hb]; rfl

set_option maxHeartbeats 800000 in
theorem implPutLayer (ns : List Int) (i c : Int) (w : World) (h24 : ns.length = 24) :
    Calls Try.prog 14 #[row ns, .int .i64 i, .int .i64 c] w fun e w' => e = .returned (.tuple #[.agg (ints (putR ns i c)).toArray, .bool (putOk ns i c)]) ∧ Kept w w' := by
  have HB := Lib.hid (((kept_refl w).alloc (.cells (ints ns).toArray 27)).alloc (.cells #[.int .i64 0, .int .i64 0, .int .i64 0, .int .i64 0, .int .i64 0, .int .i64 0, .int .i64 0, .int .i64 0, .int .i64 0, .int .i64 0, .int .i64 0, .int .i64 0, .int .i64 0, .int .i64 0, .int .i64 0, .int .i64 0, .int .i64 0, .int .i64 0, .int .i64 0, .int .i64 0, .int .i64 0, .int .i64 0, .int .i64 0, .int .i64 0] 27))
  have H := (Has.box w 27 h24 (by omega)).alloc (.cells #[.int .i64 0, .int .i64 0, .int .i64 0, .int .i64 0, .int .i64 0, .int .i64 0, .int .i64 0, .int .i64 0, .int .i64 0, .int .i64 0, .int .i64 0, .int .i64 0, .int .i64 0, .int .i64 0, .int .i64 0, .int .i64 0, .int .i64 0, .int .i64 0, .int .i64 0, .int .i64 0, .int .i64 0, .int .i64 0, .int .i64 0, .int .i64 0] 27)
  have Z := (Has.zero24 (w.alloc (.cells (ints ns).toArray 27)) 27).at (size1 _ _)
  have hz : z24.length = 24 := rfl
  rw [row_ints]
  go_enter Try.func14, Try.ntmps14
  go_wp2_with (refine load_has rfl 27 _ rfl _ rfl ?_ 24 ?_ _ Try.underlying27 rfl ?_ ?_; rotate_left; (· (repeat (first | (with_reducible assumption) | ((with_reducible refine Has.box _ _ ?_ ?_) <;> (first | assumption | decide)) | (with_reducible refine Has.alloc ?_ _) | ((with_reducible refine Has.putOther ?_ _ _ ?_); rotate_left; omega; skip) | ((with_reducible refine Has.below ?_ ?_); rotate_left; assumption)))); (· kernel_rfl))
  refine (tubeAt_any ns i _ h24).mono ?_
  rintro e w1 ⟨rfl, b1⟩
  have h4 := tubA_len h24 i
  have H1 := (H.below b1).alloc (.cells (ints (tubA ns i)).toArray 54)
  have Z1 := (Z.below b1).alloc (.cells (ints (tubA ns i)).toArray 54)
  have HB1 := Lib.hid ((HB.out.call b1).alloc (.cells (ints (tubA ns i)).toArray 54))
  have HT := Has.box w1 54 h4 (by omega)
  have S1 := Lib.hid (Z1.putAll z24 rfl)
  have S2 := Lib.hid (HB1.out.puts (b := w.heap.size + 1) (by omega) 0 (ints z24))
  clear H HB Z b1
  by_cases hR : inR ns i = true
  · rw [hR]
    have hv := (inR_of hR).1
    obtain ⟨p, rfl, hp6⟩ := (inR_of hR).2
    have hpi : (p : Int) < 6 := by omega
    have hvt : vT (tubA ns (p : Int)) = true := by rw [tubA_yes hR]; exact vR_tub hv p hp6
    have hA := Lib.hid (tubA_yes hR)
    have F := Lib.hid (tubeFacts h4 hvt)
    have HO := Lib.hid (show putOk ns (p : Int) c = (decide (1 ≤ c ∧ c ≤ 5) && decide (lay (tubA ns (p : Int)) < 4)) by unfold putOk; rw [hR, Bool.true_and, hA.out, Int.toNat_natCast])
    have HL := Lib.hid (show putOk ns (p : Int) c = true → putR ns (p : Int) c = setTub ns p (putT (tubA ns (p : Int)) c) from fun h => by
      unfold putR; rw [if_pos h, Int.toNat_natCast, hA.out])
    clear hR hv
    generalize tubA ns (p : Int) = t at *
    go_wp2_with (refine store_new rfl 54 _ _ rfl _ _ _ rfl _ rfl _ rfl rfl ?_ ?_ ?_; (· (first | assumption | rfl)); (· kernel_rfl))
    refine (isColor_any c _).mono ?_
    rintro e w' ⟨rfl, rfl⟩
    by_cases hc : 1 ≤ c ∧ c ≤ 5
    · rw [decide_eq_true hc]
      have HC := Lib.hid hc
      clear hc
      go_wp2_with (refine load_has rfl 54 _ rfl _ rfl ?_ 4 ?_ _ Try.underlying54 rfl ?_ ?_; rotate_left; (· (repeat (first | (with_reducible assumption) | ((with_reducible refine Has.box _ _ ?_ ?_) <;> (first | assumption | decide)) | (with_reducible refine Has.alloc ?_ _) | ((with_reducible refine Has.putOther ?_ _ _ ?_); rotate_left; omega; skip) | ((with_reducible refine Has.below ?_ ?_); rotate_left; assumption)))); (· kernel_rfl))
      refine (room_any t _ h4 hvt).mono ?_
      rintro e w2 ⟨rfl, b2⟩
      have HB2 := Lib.hid (HB1.out.call b2)
      have HT2 := HT.below b2
      have H2 := H1.below b2
      have Z2 := Z1.below b2
      clear b2 HT HB1 H1 Z1 S1 S2
      by_cases h0 : lay t < 4
      · have O := Lib.hid (show putOk ns (p : Int) c = true by rw [HO.out, decide_eq_true HC.out, decide_eq_true h0]; rfl)
        have V := Lib.hid (HL.out O.out)
        have n0 : ((4 : Int) - (lay t : Int) == 0) = false := by simp; omega
        clear HL
        go_wp2_with (refine load_has rfl 54 _ rfl _ rfl ?_ 4 ?_ _ Try.underlying54 rfl ?_ ?_; rotate_left; (· (repeat (first | (with_reducible assumption) | ((with_reducible refine Has.box _ _ ?_ ?_) <;> (first | assumption | decide)) | (with_reducible refine Has.alloc ?_ _) | ((with_reducible refine Has.putOther ?_ _ _ ?_); rotate_left; omega; skip) | ((with_reducible refine Has.below ?_ ?_); rotate_left; assumption)))); (· kernel_rfl))
        refine (put_any t c _ h4 hvt h0).mono ?_
        rintro e w3 ⟨rfl, b3⟩
        have HB3 := Lib.hid (HB2.out.call b3)
        have H3 := H2.below b3
        have Z3 := Z2.below b3
        clear b3 HT2 HB2 H2 Z2
        have t4 := putT_len h4 c
        have th := Lib.hid (H3.holds.thereSub (p * 4) 4 (by rw [ints_len, H3.len]; omega))
        have H4 := H3.putTub p hp6 (putT t c) t4
        have hl4 := H4.len
        have Z4 := Z3.putOther (b' := w.heap.size) (p * 4) (ints (putT t c)) (by omega)
        have S1 := Lib.hid (Z4.putAll (setTub ns p (putT t c)) hl4)
        have S2 := Lib.hid ((HB3.out.puts (b := w.heap.size) (Nat.le_refl _) (p * 4) (ints (putT t c))).puts (b := w.heap.size + 1) (by omega) 0 (ints (setTub ns p (putT t c))))
        clear H3 Z3
        go_wp2_with (first | (refine store_has rfl 24 _ _ rfl w.heap.size (p * 4) (putT t c) rfl rfl 4 t4 th.out ?_ ?_; (· kernel_rfl)) | (refine load_has rfl 27 _ rfl _ rfl ?_ 24 ?_ _ Try.underlying27 rfl ?_ ?_; rotate_left; (· (repeat (first | (with_reducible assumption) | ((with_reducible refine Has.box _ _ ?_ ?_) <;> (first | assumption | decide)) | (with_reducible refine Has.alloc ?_ _) | ((with_reducible refine Has.putOther ?_ _ _ ?_); rotate_left; omega; skip) | ((with_reducible refine Has.below ?_ ?_); rotate_left; assumption)))); (· kernel_rfl)) | (refine store_at rfl 27 _ _ rfl _ _ rfl rfl ?_ 24 ?_ ?_ ?_ ?_; rotate_left; (· (repeat (first | (with_reducible assumption) | ((with_reducible refine Has.box _ _ ?_ ?_) <;> (first | assumption | decide)) | (with_reducible refine Has.alloc ?_ _) | ((with_reducible refine Has.putOther ?_ _ _ ?_); rotate_left; omega; skip) | ((with_reducible refine Has.below ?_ ?_); rotate_left; assumption)))); (· (first | assumption | rfl)); (· kernel_rfl)))
        exact bodyPost_ret (res_has1 rfl _ _ (w.heap.size + 1) (setTub ns p (putT t c)) 24 _ (.bool true) rfl rfl S1.out Try.underlying27 rfl (by kernel_rfl)) rfl ⟨by rw [V.out, O.out], S2.out⟩
      · have O := Lib.hid (show putOk ns (p : Int) c = false by rw [HO.out, decide_eq_false h0, Bool.and_false])
        have n0 : ((4 : Int) - (lay t : Int) == 0) = true := by have := F.out.lay4; simp; omega
        have S1 := Lib.hid (Z2.putAll z24 rfl)
        have S2 := Lib.hid (HB2.out.puts (b := w.heap.size + 1) (by omega) 0 (ints z24))
        clear h0
        go_wp2_with (first | (refine build_law rfl 27 rfl _ buildRack ?_) | (refine store_at rfl 27 _ _ rfl _ _ rfl rfl ?_ 24 ?_ ?_ ?_ ?_; rotate_left; (· (repeat (first | (with_reducible assumption) | ((with_reducible refine Has.box _ _ ?_ ?_) <;> (first | assumption | decide)) | (with_reducible refine Has.alloc ?_ _) | ((with_reducible refine Has.putOther ?_ _ _ ?_); rotate_left; omega; skip) | ((with_reducible refine Has.below ?_ ?_); rotate_left; assumption)))); (· (first | assumption | rfl)); (· kernel_rfl)))
        exact bodyPost_ret (res_has1 rfl _ _ (w.heap.size + 1) z24 24 _ (.bool false) rfl rfl S1.out Try.underlying27 rfl (by kernel_rfl)) rfl ⟨by unfold putR; rw [O.out]; rfl, S2.out⟩
    · rw [decide_eq_false hc]
      have O := Lib.hid (show putOk ns (p : Int) c = false by rw [HO.out, decide_eq_false hc, Bool.false_and])
      clear hc
      go_wp2_with (first | (refine build_law rfl 27 rfl _ buildRack ?_) | (refine store_at rfl 27 _ _ rfl _ _ rfl rfl ?_ 24 ?_ ?_ ?_ ?_; rotate_left; (· (repeat (first | (with_reducible assumption) | ((with_reducible refine Has.box _ _ ?_ ?_) <;> (first | assumption | decide)) | (with_reducible refine Has.alloc ?_ _) | ((with_reducible refine Has.putOther ?_ _ _ ?_); rotate_left; omega; skip) | ((with_reducible refine Has.below ?_ ?_); rotate_left; assumption)))); (· (first | assumption | rfl)); (· kernel_rfl)))
      exact bodyPost_ret (res_has1 rfl _ _ (w.heap.size + 1) z24 24 _ (.bool false) rfl rfl S1.out Try.underlying27 rfl (by kernel_rfl)) rfl ⟨by unfold putR; rw [O.out]; rfl, S2.out⟩
  · have hf : inR ns i = false := by simpa using hR
    have O := Lib.hid (putOk_no (c := c) hf)
    rw [hf]
    clear hf hR
    generalize tubA ns i = t at *
    go_wp2_with (first | (refine build_law rfl 27 rfl _ buildRack ?_) | (refine store_new rfl 54 _ _ rfl _ _ _ rfl _ rfl _ rfl rfl ?_ ?_ ?_; (· (first | assumption | rfl)); (· kernel_rfl)) | (refine store_at rfl 27 _ _ rfl _ _ rfl rfl ?_ 24 ?_ ?_ ?_ ?_; rotate_left; (· (repeat (first | (with_reducible assumption) | ((with_reducible refine Has.box _ _ ?_ ?_) <;> (first | assumption | decide)) | (with_reducible refine Has.alloc ?_ _) | ((with_reducible refine Has.putOther ?_ _ _ ?_); rotate_left; omega; skip) | ((with_reducible refine Has.below ?_ ?_); rotate_left; assumption)))); (· (first | assumption | rfl)); (· kernel_rfl)))
    exact bodyPost_ret (res_has1 rfl _ _ (w.heap.size + 1) z24 24 _ (.bool false) rfl rfl S1.out Try.underlying27 rfl (by kernel_rfl)) rfl ⟨by unfold putR; rw [O.out]; rfl, S2.out⟩

set_option maxHeartbeats 1600000 in
set_option maxRecDepth 100000 in
theorem specPutLayer (ns : List Int) (i c : Int) (w : World) (h24 : ns.length = 24) :
    Calls Try.prog 15 #[row ns, .int .i64 i, .int .i64 c] w fun e w' => e = .returned (.tuple #[.agg (ints (putR ns i c)).toArray, .bool (putOk ns i c)]) ∧ Kept w w' := by
  have HB := Lib.hid (((kept_refl w).alloc (.cells (ints ns).toArray 27)).alloc (.cells #[.int .i64 0, .int .i64 0, .int .i64 0, .int .i64 0, .int .i64 0, .int .i64 0, .int .i64 0, .int .i64 0, .int .i64 0, .int .i64 0, .int .i64 0, .int .i64 0, .int .i64 0, .int .i64 0, .int .i64 0, .int .i64 0, .int .i64 0, .int .i64 0, .int .i64 0, .int .i64 0, .int .i64 0, .int .i64 0, .int .i64 0, .int .i64 0] 27))
  have H := (Has.box w 27 h24 (by omega)).alloc (.cells #[.int .i64 0, .int .i64 0, .int .i64 0, .int .i64 0, .int .i64 0, .int .i64 0, .int .i64 0, .int .i64 0, .int .i64 0, .int .i64 0, .int .i64 0, .int .i64 0, .int .i64 0, .int .i64 0, .int .i64 0, .int .i64 0, .int .i64 0, .int .i64 0, .int .i64 0, .int .i64 0, .int .i64 0, .int .i64 0, .int .i64 0, .int .i64 0] 27)
  have Z := (Has.zero24 (w.alloc (.cells (ints ns).toArray 27)) 27).at (size1 _ _)
  have hz : z24.length = 24 := rfl
  rw [row_ints]
  go_enter Try.func15, Try.ntmps15
  go_wp2_with (refine load_has rfl 27 _ rfl _ rfl ?_ 24 ?_ _ Try.underlying27 rfl ?_ ?_; rotate_left; (· (repeat (first | (with_reducible assumption) | ((with_reducible refine Has.box _ _ ?_ ?_) <;> (first | assumption | decide)) | (with_reducible refine Has.alloc ?_ _) | ((with_reducible refine Has.putOther ?_ _ _ ?_); rotate_left; omega; skip) | ((with_reducible refine Has.below ?_ ?_); rotate_left; assumption)))); (· kernel_rfl))
  refine (l2Rack_any ns _ h24).mono ?_
  rintro e w1 ⟨rfl, b1⟩
  have H1 := H.below b1
  have Z1 := Z.below b1
  have HB1 := Lib.hid (HB.out.call b1)
  have S1 := Lib.hid (Z1.putAll z24 rfl)
  have S2 := Lib.hid (HB1.out.puts (b := w.heap.size + 1) (by omega) 0 (ints z24))
  clear H HB Z b1
  by_cases hv : vR ns = true
  · rw [hv]
    have HV := Lib.hid hv
    clear hv
    go_wp2_with fail
    refine (l2Place_any i _).mono ?_
    rintro e w' ⟨rfl, rfl⟩
    by_cases hp : 0 ≤ i ∧ i < 6
    · rw [decide_eq_true hp]
      obtain ⟨p, rfl⟩ : ∃ p : Nat, i = (p : Int) := ⟨i.toNat, by omega⟩
      have hp6 : p < 6 := by omega
      have R := Lib.hid (inR_yes HV.out hp6)
      have h4 := tub_len ns p h24 hp6
      have hvt := vR_tub HV.out p hp6
      have F := Lib.hid (tubeFacts h4 hvt)
      have HO := Lib.hid (show putOk ns (p : Int) c = (decide (1 ≤ c ∧ c ≤ 5) && decide (lay (tub ns p) < 4)) by unfold putOk; rw [R.out, Bool.true_and, Int.toNat_natCast])
      have hpi : (p : Int) < 6 := by omega
      have hp0 : (0 : Int) ≤ (p : Int) := by omega
      clear hp
      go_wp2_with fail
      refine (l1In_any c 1 5 _).mono ?_
      rintro e w' ⟨rfl, rfl⟩
      by_cases hc : 1 ≤ c ∧ c ≤ 5
      · rw [decide_eq_true hc]
        have HC := Lib.hid hc
        clear hc
        go_wp2_with (refine load_tub rfl 24 _ rfl _ (p) _ rfl ?_ ?_ ?_ ?_ _ Try.underlying24 rfl ?_ ?_; (· (first | rfl | omega)); rotate_left; (· (repeat (first | (with_reducible assumption) | ((with_reducible refine Has.box _ _ ?_ ?_) <;> (first | assumption | decide)) | (with_reducible refine Has.alloc ?_ _) | ((with_reducible refine Has.putOther ?_ _ _ ?_); rotate_left; omega; skip) | ((with_reducible refine Has.below ?_ ?_); rotate_left; assumption)))); (· omega); (· kernel_rfl))
        refine (l2Many_any (tub ns p) _ h4 hvt).mono ?_
        rintro e w2 ⟨rfl, b2⟩
        have HB2 := Lib.hid (HB1.out.call b2)
        have H2 := H1.below b2
        have Z2 := Z1.below b2
        clear H1 Z1 HB1 b2 S1 S2
        by_cases h0 : lay (tub ns p) < 4
        · have O := Lib.hid (show putOk ns (p : Int) c = true by rw [HO.out, decide_eq_true HC.out, decide_eq_true h0]; rfl)
          have V := Lib.hid (show putR ns (p : Int) c = setTub ns p (putT (tub ns p) c) by unfold putR; rw [if_pos O.out, Int.toNat_natCast])
          have n0 : ((lay (tub ns p) : Int) == 4) = false := by simp; omega
          have l1 : (ints (tub ns p)).length = 4 := by rw [ints_len]; exact h4
          have hi1 : (Try.prog.info? 24).map (·.size) = some (ints (tub ns p)).length := by rw [l1]; kernel_rfl
          have H2d := H2.drew
          have Z2d := Z2.drew
          have HB2d := Lib.hid (HB2.out.drewN 1)
          go_wp2_with fail
          refine wp_region_held_drew (S := fun w' => True) (by kernel_rfl) trivial (fun hHeld => ?_)
          (refine wpAnyH_take (i := 0) (v := ?_) rfl (by kernel_rfl) (by kernel_rfl) (by kernel_rfl) (fun _ _ _ h => h) (Or.inl ⟨by rfl, ?_⟩) hHeld ?_; rotate_left; (· (intro w' hSw; go_simp; try with_reducible rfl)); (try simp only [List.getElem_toArray, List.getElem_cons_zero, List.getElem_cons_succ, Act.put, List.setIfInBounds_toArray, List.set_cons_zero, List.set_cons_succ])); (refine wpAnyH_take (i := 1) (v := ?_) rfl (by kernel_rfl) (by kernel_rfl) (by kernel_rfl) (fun _ _ _ h => h) (Or.inl ⟨by rfl, ?_⟩) hHeld ?_; rotate_left; (· (intro w' hSw; go_simp; try with_reducible rfl)); (try simp only [List.getElem_toArray, List.getElem_cons_zero, List.getElem_cons_succ, Act.put, List.setIfInBounds_toArray, List.set_cons_zero, List.set_cons_succ])); (refine wpAnyH_take (i := 2) (v := ?_) rfl (by kernel_rfl) (by kernel_rfl) (by kernel_rfl) (fun _ _ _ h => h) (Or.inl ⟨by rfl, ?_⟩) hHeld ?_; rotate_left; (· (intro w' hSw; go_simp; try with_reducible rfl)); (try simp only [List.getElem_toArray, List.getElem_cons_zero, List.getElem_cons_succ, Act.put, List.setIfInBounds_toArray, List.set_cons_zero, List.set_cons_succ])); (refine wpAnyH_take (i := 3) (v := ?_) rfl (by kernel_rfl) (by kernel_rfl) (by kernel_rfl) (fun _ _ _ h => h) (Or.inl ⟨by rfl, ?_⟩) hHeld ?_; rotate_left; (· (intro w' hSw; go_simp; try with_reducible rfl)); (try simp only [List.getElem_toArray, List.getElem_cons_zero, List.getElem_cons_succ, Act.put, List.setIfInBounds_toArray, List.set_cons_zero, List.set_cons_succ])); (refine wpAnyH_take (i := 6) (v := ?_) rfl (by kernel_rfl) (by kernel_rfl) (by kernel_rfl) (fun _ _ _ h => h) (Or.inl ⟨by rfl, ?_⟩) hHeld ?_; rotate_left; (· (intro w' hSw; go_simp; try with_reducible rfl)); (try simp only [List.getElem_toArray, List.getElem_cons_zero, List.getElem_cons_succ, Act.put, List.setIfInBounds_toArray, List.set_cons_zero, List.set_cons_succ])); (refine wpAnyH_take (i := 7) (v := ?_) rfl (by kernel_rfl) (by kernel_rfl) (by kernel_rfl) (fun _ _ _ h => h) (Or.inl ⟨by rfl, ?_⟩) hHeld ?_; rotate_left; (· (intro w' hSw; go_simp; try with_reducible rfl)); (try simp only [List.getElem_toArray, List.getElem_cons_zero, List.getElem_cons_succ, Act.put, List.setIfInBounds_toArray, List.set_cons_zero, List.set_cons_succ])); (refine wpAnyH_take (i := 8) (v := ?_) rfl (by kernel_rfl) (by kernel_rfl) (by kernel_rfl) (fun _ _ _ h => h) (Or.inl ⟨by rfl, ?_⟩) hHeld ?_; rotate_left; (· (intro w' hSw; go_simp; try with_reducible rfl)); (try simp only [List.getElem_toArray, List.getElem_cons_zero, List.getElem_cons_succ, Act.put, List.setIfInBounds_toArray, List.set_cons_zero, List.set_cons_succ]))
          (refine wpAnyH_ready (rs := [4]) (by kernel_rfl) (by simp) ?_; refine AllReadyH.cons (o := _) rfl (fun K hK => ?_) AllReadyH.nil; (simp only [List.getElem_toArray, List.getElem_cons_zero, List.getElem_cons_succ, Region.wanted, if_true]); refine wp_load_mid _ _ rfl _ _ rfl (ints (tub ns p)) _ (H2d.holds.sub (p * 4) 4) Try.underlying24 rfl (hi1) ?_; (try simp only [List.getElem_toArray, List.getElem_cons_zero, List.getElem_cons_succ, Act.put, List.setIfInBounds_toArray, List.set_cons_zero, List.set_cons_succ]); refine hK.out _ _ trivial (fun hHeld => ?_); clear hK K)
          (refine wpAnyH_ready (rs := [5]) (by kernel_rfl) (by simp) ?_; refine AllReadyH.cons (o := _) rfl (fun K hK => ?_) AllReadyH.nil; (simp only [List.getElem_toArray, List.getElem_cons_zero, List.getElem_cons_succ, Region.wanted, if_true]))
          go_simp
          refine (l2Many_any (tub ns p) _ h4 hvt).mono ?_
          rintro e w3 ⟨rfl, b3⟩
          have H3 := H2d.below b3
          have Z3 := Z2d.below b3
          have HB3 := Lib.hid (HB2d.out.call b3)
          clear H2 Z2 HB2 H2d Z2d b3
          dsimp only
          (try simp only [List.getElem_toArray, List.getElem_cons_zero, List.getElem_cons_succ, Act.put, List.setIfInBounds_toArray, List.set_cons_zero, List.set_cons_succ])
          refine hK.out _ _ trivial (fun hHeld => ?_)
          clear hK K
          have h0i : (lay (tub ns p) : Int) < 4 := by omega
          have h0j : (0 : Int) ≤ (lay (tub ns p) : Int) := by omega
          (refine wpAnyH_take (i := 9) (v := ?_) rfl (by kernel_rfl) (by kernel_rfl) (by kernel_rfl) (fun _ _ _ h => h) (Or.inl ⟨by rfl, ?_⟩) hHeld ?_; rotate_left; (· (intro w' hSw; go_simp; try with_reducible rfl)); (try simp only [List.getElem_toArray, List.getElem_cons_zero, List.getElem_cons_succ, Act.put, List.setIfInBounds_toArray, List.set_cons_zero, List.set_cons_succ]))
          have c0 := H3.rackCell p (lay (tub ns p)) hp6 h0
          have f0 := H3.free (p * 4 + lay (tub ns p)) (by omega)
          have H4 := H3.set (p * 4 + lay (tub ns p)) c (by omega)
          rw [set_tub ns p (lay (tub ns p)) c h24 hp6 h0] at H4
          have H5 : Has _ w.heap.size (setTub ns p (putT (tub ns p) c)) 24 := H4
          have hl5 := H5.len
          have Z4 := Z3.setOther (b' := w.heap.size) (p * 4 + lay (tub ns p)) (.int .i64 c) (by omega)
          have S1 := Lib.hid (Z4.putAll (setTub ns p (putT (tub ns p) c)) hl5)
          have S2 := Lib.hid ((HB3.out.set (b := w.heap.size) (Nat.le_refl _) (p * 4 + lay (tub ns p)) (.int .i64 c)).puts (b := w.heap.size + 1) (by omega) 0 (ints (setTub ns p (putT (tub ns p) c))))
          (refine wpAnyH_ready (rs := [10]) (by kernel_rfl) (by simp) ?_; refine AllReadyH.cons (o := _) rfl (fun K hK => ?_) AllReadyH.nil; (simp only [List.getElem_toArray, List.getElem_cons_zero, List.getElem_cons_succ, Region.wanted, if_true]))
          go_simp
          refine hK.out _ _ trivial (fun hHeld => ?_)
          clear hK K
          refine wpAnyH_done (by kernel_rfl) ?_ _
          clear H3 Z3 H4 hHeld hi1 l1
          go_wp2_with (first | (refine load_has rfl 27 _ rfl _ rfl ?_ 24 ?_ _ Try.underlying27 rfl ?_ ?_; rotate_left; (· (repeat (first | (with_reducible assumption) | ((with_reducible refine Has.box _ _ ?_ ?_) <;> (first | assumption | decide)) | (with_reducible refine Has.alloc ?_ _) | ((with_reducible refine Has.putOther ?_ _ _ ?_); rotate_left; omega; skip) | ((with_reducible refine Has.below ?_ ?_); rotate_left; assumption)))); (· kernel_rfl)) | (refine store_at rfl 27 _ _ rfl _ _ rfl rfl ?_ 24 ?_ ?_ ?_ ?_; rotate_left; (· (repeat (first | (with_reducible assumption) | ((with_reducible refine Has.box _ _ ?_ ?_) <;> (first | assumption | decide)) | (with_reducible refine Has.alloc ?_ _) | ((with_reducible refine Has.putOther ?_ _ _ ?_); rotate_left; omega; skip) | ((with_reducible refine Has.below ?_ ?_); rotate_left; assumption)))); (· (first | assumption | rfl)); (· kernel_rfl)))
          exact bodyPost_ret (res_has1 rfl _ _ (w.heap.size + 1) (setTub ns p (putT (tub ns p) c)) 24 _ (.bool true) rfl rfl S1.out Try.underlying27 rfl (by kernel_rfl)) rfl ⟨by rw [V.out, O.out], S2.out⟩
        · have O := Lib.hid (show putOk ns (p : Int) c = false by rw [HO.out, decide_eq_false h0, Bool.and_false])
          have n0 : ((lay (tub ns p) : Int) == 4) = true := by have := F.out.lay4; simp; omega
          have S1 := Lib.hid (Z2.putAll z24 rfl)
          have S2 := Lib.hid (HB2.out.puts (b := w.heap.size + 1) (by omega) 0 (ints z24))
          clear h0
          go_wp2_with (first | (refine build_law rfl 27 rfl _ buildRack ?_) | (refine store_at rfl 27 _ _ rfl _ _ rfl rfl ?_ 24 ?_ ?_ ?_ ?_; rotate_left; (· (repeat (first | (with_reducible assumption) | ((with_reducible refine Has.box _ _ ?_ ?_) <;> (first | assumption | decide)) | (with_reducible refine Has.alloc ?_ _) | ((with_reducible refine Has.putOther ?_ _ _ ?_); rotate_left; omega; skip) | ((with_reducible refine Has.below ?_ ?_); rotate_left; assumption)))); (· (first | assumption | rfl)); (· kernel_rfl)))
          exact bodyPost_ret (res_has1 rfl _ _ (w.heap.size + 1) z24 24 _ (.bool false) rfl rfl S1.out Try.underlying27 rfl (by kernel_rfl)) rfl ⟨by unfold putR; rw [O.out]; rfl, S2.out⟩
      · rw [decide_eq_false hc]
        have O := Lib.hid (show putOk ns (p : Int) c = false by rw [HO.out, decide_eq_false hc, Bool.false_and])
        clear hc
        go_wp2_with (first | (refine build_law rfl 27 rfl _ buildRack ?_) | (refine store_at rfl 27 _ _ rfl _ _ rfl rfl ?_ 24 ?_ ?_ ?_ ?_; rotate_left; (· (repeat (first | (with_reducible assumption) | ((with_reducible refine Has.box _ _ ?_ ?_) <;> (first | assumption | decide)) | (with_reducible refine Has.alloc ?_ _) | ((with_reducible refine Has.putOther ?_ _ _ ?_); rotate_left; omega; skip) | ((with_reducible refine Has.below ?_ ?_); rotate_left; assumption)))); (· (first | assumption | rfl)); (· kernel_rfl)))
        exact bodyPost_ret (res_has1 rfl _ _ (w.heap.size + 1) z24 24 _ (.bool false) rfl rfl S1.out Try.underlying27 rfl (by kernel_rfl)) rfl ⟨by unfold putR; rw [O.out]; rfl, S2.out⟩
    · rw [decide_eq_false hp]
      have O := Lib.hid (putOk_no (c := c) (inR_not (ns := ns) (i := i) fun h => hp h.2))
      clear hp
      go_wp2_with (first | (refine build_law rfl 27 rfl _ buildRack ?_) | (refine store_at rfl 27 _ _ rfl _ _ rfl rfl ?_ 24 ?_ ?_ ?_ ?_; rotate_left; (· (repeat (first | (with_reducible assumption) | ((with_reducible refine Has.box _ _ ?_ ?_) <;> (first | assumption | decide)) | (with_reducible refine Has.alloc ?_ _) | ((with_reducible refine Has.putOther ?_ _ _ ?_); rotate_left; omega; skip) | ((with_reducible refine Has.below ?_ ?_); rotate_left; assumption)))); (· (first | assumption | rfl)); (· kernel_rfl)))
      exact bodyPost_ret (res_has1 rfl _ _ (w.heap.size + 1) z24 24 _ (.bool false) rfl rfl S1.out Try.underlying27 rfl (by kernel_rfl)) rfl ⟨by unfold putR; rw [O.out]; rfl, S2.out⟩
  · have hf : vR ns = false := by simpa using hv
    have O := Lib.hid (putOk_no (c := c) (inR_not (ns := ns) (i := i) fun h => hv h.1))
    rw [hf]
    clear hf hv
    go_wp2_with (first | (refine build_law rfl 27 rfl _ buildRack ?_) | (refine store_at rfl 27 _ _ rfl _ _ rfl rfl ?_ 24 ?_ ?_ ?_ ?_; rotate_left; (· (repeat (first | (with_reducible assumption) | ((with_reducible refine Has.box _ _ ?_ ?_) <;> (first | assumption | decide)) | (with_reducible refine Has.alloc ?_ _) | ((with_reducible refine Has.putOther ?_ _ _ ?_); rotate_left; omega; skip) | ((with_reducible refine Has.below ?_ ?_); rotate_left; assumption)))); (· (first | assumption | rfl)); (· kernel_rfl)))
    exact bodyPost_ret (res_has1 rfl _ _ (w.heap.size + 1) z24 24 _ (.bool false) rfl rfl S1.out Try.underlying27 rfl (by kernel_rfl)) rfl ⟨by unfold putR; rw [O.out]; rfl, S2.out⟩

end Go.Proofs.Ytlnbhopigjkkkaa.base
