/-
  Putting a layer and taking it, on both sides, walked.
-/
import Derived.Test.YtlnbhopigjkkkaaRackOps
namespace Go.Proofs.Ytlnbhopigjkkkaa.base
open Go.ChangeShapes Go.WideShapes Go.ChangeAt Go.RowKit
set_option linter.unusedVariables false
set_option linter.unusedSimpArgs false

def takeOk (ns : List Int) (i : Int) : Bool := inR ns i && decide (lay (tub ns i.toNat) ≠ 0)
def takeR (ns : List Int) (i : Int) : List Int := if takeOk ns i = true then setTub ns i.toNat (takeT (tub ns i.toNat)) else z24
def takeC (ns : List Int) (i : Int) : Int := if takeOk ns i = true then topC (tub ns i.toNat) else 0
theorem takeOk_no {ns : List Int} {i : Int} (h : inR ns i = false) : takeOk ns i = false := by unfold takeOk; rw [h]; rfl
theorem takeT_len {t : List Int} (h : t.length = 4) : (takeT t).length = 4 := by unfold takeT; rw [List.length_set]; exact h

set_option maxHeartbeats 800000 in
theorem implTakeLayer (ns : List Int) (i : Int) (w : World) (h24 : ns.length = 24) :
    Calls Try.prog 17 #[row ns, .int .i64 i] w fun e w' => e = .returned (.tuple #[.agg (ints (takeR ns i)).toArray, .int .i64 (takeC ns i), .bool (takeOk ns i)]) ∧ Kept w w' := by
  have HB := Lib.hid (((kept_refl w).alloc (.cells (ints ns).toArray 27)).alloc (.cells #[.int .i64 0, .int .i64 0, .int .i64 0, .int .i64 0, .int .i64 0, .int .i64 0, .int .i64 0, .int .i64 0, .int .i64 0, .int .i64 0, .int .i64 0, .int .i64 0, .int .i64 0, .int .i64 0, .int .i64 0, .int .i64 0, .int .i64 0, .int .i64 0, .int .i64 0, .int .i64 0, .int .i64 0, .int .i64 0, .int .i64 0, .int .i64 0] 27))
  have H := (Has.box w 27 h24 (by omega)).alloc (.cells #[.int .i64 0, .int .i64 0, .int .i64 0, .int .i64 0, .int .i64 0, .int .i64 0, .int .i64 0, .int .i64 0, .int .i64 0, .int .i64 0, .int .i64 0, .int .i64 0, .int .i64 0, .int .i64 0, .int .i64 0, .int .i64 0, .int .i64 0, .int .i64 0, .int .i64 0, .int .i64 0, .int .i64 0, .int .i64 0, .int .i64 0, .int .i64 0] 27)
  have Z := (Has.zero24 (w.alloc (.cells (ints ns).toArray 27)) 27).at (size1 _ _)
  rw [row_ints]
  go_enter Try.func17, Try.ntmps17
  go_wp2_with (refine load_has rfl 27 _ rfl _ rfl ?_ 24 ?_ _ Try.underlying27 rfl ?_ ?_; rotate_left; (· (repeat (first | (with_reducible assumption) | ((with_reducible refine Has.box _ _ ?_ ?_) <;> (first | assumption | decide)) | (with_reducible refine Has.alloc ?_ _) | ((with_reducible refine Has.putOther ?_ _ _ ?_); rotate_left; omega; skip) | ((with_reducible refine Has.below ?_ ?_); rotate_left; assumption)))); (· kernel_rfl))
  refine (tubeAt_any ns i _ h24).mono ?_
  rintro e w1 ⟨rfl, b1⟩
  have h4 := tubA_len h24 i
  have H1 := H.below b1
  have Z1 := Z.below b1
  have hs1 := b1.size
  have HB1 := Lib.hid ((HB.out.call b1).alloc (.cells (ints (tubA ns i)).toArray 54))
  clear H HB Z b1
  by_cases hR : inR ns i = true
  · rw [hR]
    have hv := (inR_of hR).1
    obtain ⟨p, rfl, hp6⟩ := (inR_of hR).2
    have hpi : (p : Int) < 6 := by omega
    have hvt : vT (tubA ns (p : Int)) = true := by rw [tubA_yes hR]; exact vR_tub hv p hp6
    have hA := Lib.hid (tubA_yes hR)
    have F := Lib.hid (tubeFacts h4 hvt)
    have HT := Has.box w1 54 h4 (by omega)
    have H2 := H1.alloc (.cells (ints (tubA ns (p : Int))).toArray 54)
    have Z2 := Z1.alloc (.cells (ints (tubA ns (p : Int))).toArray 54)
    have HO := Lib.hid (show takeOk ns (p : Int) = decide (lay (tubA ns (p : Int)) ≠ 0) by unfold takeOk; rw [hR, Bool.true_and, hA.out, Int.toNat_natCast])
    clear hR hv H1 Z1
    have hT2 := hA
    generalize tubA ns (p : Int) = t at *
    have HL := Lib.hid (show takeOk ns (p : Int) = true → takeR ns (p : Int) = setTub ns p (takeT t) ∧ takeC ns (p : Int) = topC t from fun h => by
      unfold takeR takeC; rw [if_pos h, if_pos h]; exact ⟨by rw [Int.toNat_natCast, ← hT2.out], by rw [Int.toNat_natCast, ← hT2.out]⟩)
    go_wp2_with (first | (refine store_new rfl 54 _ _ rfl _ _ _ rfl _ rfl _ rfl rfl ?_ ?_ ?_; (· (first | assumption | rfl)); (· kernel_rfl)) | (refine load_has rfl 54 _ rfl _ rfl ?_ 4 ?_ _ Try.underlying54 rfl ?_ ?_; rotate_left; (· (repeat (first | (with_reducible assumption) | ((with_reducible refine Has.box _ _ ?_ ?_) <;> (first | assumption | decide)) | (with_reducible refine Has.alloc ?_ _) | ((with_reducible refine Has.putOther ?_ _ _ ?_); rotate_left; omega; skip) | ((with_reducible refine Has.below ?_ ?_); rotate_left; assumption)))); (· kernel_rfl)))
    refine (isEmpty_any t _ h4 hvt).mono ?_
    rintro e w2 ⟨rfl, b2⟩
    have HB2 := Lib.hid (HB1.out.call b2)
    have HT2 := HT.below b2
    have H3 := H2.below b2
    have Z3 := Z2.below b2
    clear b2 HT HB1 H2 Z2
    by_cases h0 : lay t = 0
    · rw [decide_eq_true h0]
      have O := Lib.hid (show takeOk ns (p : Int) = false by rw [HO.out]; simp [h0])
      have S1 := Lib.hid (Z3.putAll z24 rfl)
      have S2 := Lib.hid (HB2.out.puts (b := w.heap.size + 1) (by omega) 0 (ints z24))
      have hz : z24.length = 24 := rfl
      clear h0
      go_wp2_with (first | (refine build_law rfl 27 rfl _ buildRack ?_) | (refine store_at rfl 27 _ _ rfl _ _ rfl rfl ?_ 24 ?_ ?_ ?_ ?_; rotate_left; (· (repeat (first | (with_reducible assumption) | ((with_reducible refine Has.box _ _ ?_ ?_) <;> (first | assumption | decide)) | (with_reducible refine Has.alloc ?_ _) | ((with_reducible refine Has.putOther ?_ _ _ ?_); rotate_left; omega; skip) | ((with_reducible refine Has.below ?_ ?_); rotate_left; assumption)))); (· (first | assumption | rfl)); (· kernel_rfl)))
      exact bodyPost_ret (res_has2 rfl _ _ (w.heap.size + 1) z24 24 _ (.int .i64 0) (.bool false) rfl rfl rfl S1.out Try.underlying27 rfl (by kernel_rfl)) rfl ⟨by unfold takeR takeC; rw [O.out]; rfl, S2.out⟩
    · rw [decide_eq_false h0]
      have O := Lib.hid (show takeOk ns (p : Int) = true by rw [HO.out]; simp [h0])
      have V := Lib.hid (HL.out O.out)
      have hl : 0 < lay t := by omega
      clear h0 HL
      go_wp2_with (refine load_has rfl 54 _ rfl _ rfl ?_ 4 ?_ _ Try.underlying54 rfl ?_ ?_; rotate_left; (· (repeat (first | (with_reducible assumption) | ((with_reducible refine Has.box _ _ ?_ ?_) <;> (first | assumption | decide)) | (with_reducible refine Has.alloc ?_ _) | ((with_reducible refine Has.putOther ?_ _ _ ?_); rotate_left; omega; skip) | ((with_reducible refine Has.below ?_ ?_); rotate_left; assumption)))); (· kernel_rfl))
      refine (top_any t _ h4 hvt).mono ?_
      rintro e w3 ⟨rfl, b3⟩
      have HB3 := Lib.hid (HB2.out.call b3)
      have HT3 := HT2.below b3
      have H4 := H3.below b3
      have Z4 := Z3.below b3
      clear b3 HT2 HB2 H3 Z3
      go_wp2_with (refine load_has rfl 54 _ rfl _ rfl ?_ 4 ?_ _ Try.underlying54 rfl ?_ ?_; rotate_left; (· (repeat (first | (with_reducible assumption) | ((with_reducible refine Has.box _ _ ?_ ?_) <;> (first | assumption | decide)) | (with_reducible refine Has.alloc ?_ _) | ((with_reducible refine Has.putOther ?_ _ _ ?_); rotate_left; omega; skip) | ((with_reducible refine Has.below ?_ ?_); rotate_left; assumption)))); (· kernel_rfl))
      refine (take_any t _ h4 hvt hl).mono ?_
      rintro e w4 ⟨rfl, b4⟩
      have HB4 := Lib.hid (HB3.out.call b4)
      have H5 := H4.below b4
      have Z5 := Z4.below b4
      clear b4 HT3 HB3 H4 Z4
      have t4 := takeT_len h4
      have th := Lib.hid (H5.holds.thereSub (p * 4) 4 (by rw [ints_len, H5.len]; omega))
      have H6 := H5.putTub p hp6 (takeT t) t4
      have hl6 := H6.len
      have Z6 := Z5.putOther (b' := w.heap.size) (p * 4) (ints (takeT t)) (by omega)
      have S1 := Lib.hid (Z6.putAll (setTub ns p (takeT t)) hl6)
      have S2 := Lib.hid ((HB4.out.puts (b := w.heap.size) (Nat.le_refl _) (p * 4) (ints (takeT t))).puts (b := w.heap.size + 1) (by omega) 0 (ints (setTub ns p (takeT t))))
      clear H5 Z5
      go_wp2_with (first | (refine store_has rfl 24 _ _ rfl w.heap.size (p * 4) (takeT t) rfl rfl 4 t4 th.out ?_ ?_; (· kernel_rfl)) | (refine load_has rfl 27 _ rfl _ rfl ?_ 24 ?_ _ Try.underlying27 rfl ?_ ?_; rotate_left; (· (repeat (first | (with_reducible assumption) | ((with_reducible refine Has.box _ _ ?_ ?_) <;> (first | assumption | decide)) | (with_reducible refine Has.alloc ?_ _) | ((with_reducible refine Has.putOther ?_ _ _ ?_); rotate_left; omega; skip) | ((with_reducible refine Has.below ?_ ?_); rotate_left; assumption)))); (· kernel_rfl)) | (refine store_at rfl 27 _ _ rfl _ _ rfl rfl ?_ 24 ?_ ?_ ?_ ?_; rotate_left; (· (repeat (first | (with_reducible assumption) | ((with_reducible refine Has.box _ _ ?_ ?_) <;> (first | assumption | decide)) | (with_reducible refine Has.alloc ?_ _) | ((with_reducible refine Has.putOther ?_ _ _ ?_); rotate_left; omega; skip) | ((with_reducible refine Has.below ?_ ?_); rotate_left; assumption)))); (· (first | assumption | rfl)); (· kernel_rfl)))
      exact bodyPost_ret (res_has2 rfl _ _ (w.heap.size + 1) (setTub ns p (takeT t)) 24 _ (.int .i64 (topC t)) (.bool true) rfl rfl rfl S1.out Try.underlying27 rfl (by kernel_rfl)) rfl ⟨by rw [V.out.1, V.out.2, O.out], S2.out⟩
  · have hf : inR ns i = false := by simpa using hR
    have O := Lib.hid (takeOk_no hf)
    rw [hf]
    clear hf hR
    generalize tubA ns i = t at *
    have Z2 := Z1.alloc (.cells (ints t).toArray 54)
    have S1 := Lib.hid (Z2.putAll z24 rfl)
    have S2 := Lib.hid (HB1.out.puts (b := w.heap.size + 1) (by omega) 0 (ints z24))
    have hz : z24.length = 24 := rfl
    clear Z1 H1
    go_wp2_with (first | (refine build_law rfl 27 rfl _ buildRack ?_) | (refine store_new rfl 54 _ _ rfl _ _ _ rfl _ rfl _ rfl rfl ?_ ?_ ?_; (· (first | assumption | rfl)); (· kernel_rfl)) | (refine store_at rfl 27 _ _ rfl _ _ rfl rfl ?_ 24 ?_ ?_ ?_ ?_; rotate_left; (· (repeat (first | (with_reducible assumption) | ((with_reducible refine Has.box _ _ ?_ ?_) <;> (first | assumption | decide)) | (with_reducible refine Has.alloc ?_ _) | ((with_reducible refine Has.putOther ?_ _ _ ?_); rotate_left; omega; skip) | ((with_reducible refine Has.below ?_ ?_); rotate_left; assumption)))); (· (first | assumption | rfl)); (· kernel_rfl)))
    exact bodyPost_ret (res_has2 rfl _ _ (w.heap.size + 1) z24 24 _ (.int .i64 0) (.bool false) rfl rfl rfl S1.out Try.underlying27 rfl (by kernel_rfl)) rfl ⟨by unfold takeR takeC; rw [O.out]; rfl, S2.out⟩

theorem takeR_len {ns : List Int} (h : ns.length = 24) (i : Int) : (takeR ns i).length = 24 := by
  unfold takeR
  by_cases hb : takeOk ns i = true
  · rw [if_pos hb]
    have : inR ns i = true := by unfold takeOk at hb; simp at hb; exact hb.1
    obtain ⟨_, p, rfl, hp⟩ := inR_of this
    rw [Int.toNat_natCast]
    exact setTub_len ns p _ h hp (takeT_len (tub_len ns p h hp))
  · rw [if_neg hb]; rfl

set_option maxHeartbeats 800000 in
theorem specTakeLayer (ns : List Int) (i : Int) (w : World) (h24 : ns.length = 24) :
    Calls Try.prog 18 #[row ns, .int .i64 i] w fun e w' => e = .returned (.tuple #[.agg (ints (takeR ns i)).toArray, .int .i64 (takeC ns i), .bool (takeOk ns i)]) ∧ Kept w w' := by
  have HB := Lib.hid (((kept_refl w).alloc (.cells (ints ns).toArray 27)).alloc (.cells #[.int .i64 0, .int .i64 0, .int .i64 0, .int .i64 0, .int .i64 0, .int .i64 0, .int .i64 0, .int .i64 0, .int .i64 0, .int .i64 0, .int .i64 0, .int .i64 0, .int .i64 0, .int .i64 0, .int .i64 0, .int .i64 0, .int .i64 0, .int .i64 0, .int .i64 0, .int .i64 0, .int .i64 0, .int .i64 0, .int .i64 0, .int .i64 0] 27))
  have H := (Has.box w 27 h24 (by omega)).alloc (.cells #[.int .i64 0, .int .i64 0, .int .i64 0, .int .i64 0, .int .i64 0, .int .i64 0, .int .i64 0, .int .i64 0, .int .i64 0, .int .i64 0, .int .i64 0, .int .i64 0, .int .i64 0, .int .i64 0, .int .i64 0, .int .i64 0, .int .i64 0, .int .i64 0, .int .i64 0, .int .i64 0, .int .i64 0, .int .i64 0, .int .i64 0, .int .i64 0] 27)
  have Z := (Has.zero24 (w.alloc (.cells (ints ns).toArray 27)) 27).at (size1 _ _)
  have hz : z24.length = 24 := rfl
  rw [row_ints]
  go_enter Try.func18, Try.ntmps18
  go_wp2_with (refine load_has rfl 27 _ rfl _ rfl ?_ 24 ?_ _ Try.underlying27 rfl ?_ ?_; rotate_left; (· (repeat (first | (with_reducible assumption) | ((with_reducible refine Has.box _ _ ?_ ?_) <;> (first | assumption | decide)) | (with_reducible refine Has.alloc ?_ _) | ((with_reducible refine Has.putOther ?_ _ _ ?_); rotate_left; omega; skip) | ((with_reducible refine Has.below ?_ ?_); rotate_left; assumption)))); (· kernel_rfl))
  refine (l2Rack_any ns _ h24).mono ?_
  rintro e w1 ⟨rfl, b1⟩
  have H1 := H.below b1
  have Z1 := Z.below b1
  have HB1 := Lib.hid (HB.out.call b1)
  clear H HB Z b1
  by_cases hv : vR ns = true
  · rw [hv]
    have HV := Lib.hid hv
    clear hv
    go_wp2_with fail
    refine (l2Place_any i _).mono ?_
    rintro e w' ⟨rfl, rfl⟩
    by_cases hp : 0 ≤ i ∧ i < 6
    · rw [decide_eq_true hp]
      obtain ⟨p, rfl⟩ : ∃ p : Nat, i = (p : Int) := ⟨i.toNat, by omega⟩
      have hp6 : p < 6 := by omega
      have R := Lib.hid (inR_yes HV.out hp6)
      have h4 := tub_len ns p h24 hp6
      have hvt := vR_tub HV.out p hp6
      have F := Lib.hid (tubeFacts h4 hvt)
      have HO := Lib.hid (show takeOk ns (p : Int) = decide (lay (tub ns p) ≠ 0) by unfold takeOk; rw [R.out, Bool.true_and, Int.toNat_natCast])
      have hpi : (p : Int) < 6 := by omega
      clear hp
      go_wp2_with (refine load_tub rfl 24 _ rfl _ (p) _ rfl ?_ ?_ ?_ ?_ _ Try.underlying24 rfl ?_ ?_; (· (first | rfl | omega)); rotate_left; (· (repeat (first | (with_reducible assumption) | ((with_reducible refine Has.box _ _ ?_ ?_) <;> (first | assumption | decide)) | (with_reducible refine Has.alloc ?_ _) | ((with_reducible refine Has.putOther ?_ _ _ ?_); rotate_left; omega; skip) | ((with_reducible refine Has.below ?_ ?_); rotate_left; assumption)))); (· omega); (· kernel_rfl))
      refine (l2Many_any (tub ns p) _ h4 hvt).mono ?_
      rintro e w2 ⟨rfl, b2⟩
      have HB2 := Lib.hid (HB1.out.call b2)
      have H2 := H1.below b2
      have Z2 := Z1.below b2
      clear H1 Z1 HB1 b2
      by_cases h0 : lay (tub ns p) = 0
      · have O := Lib.hid (show takeOk ns (p : Int) = false by rw [HO.out]; simp [h0])
        rw [h0]
        have S1 := Lib.hid (Z2.putAll z24 rfl)
        have S2 := Lib.hid (HB2.out.puts (b := w.heap.size + 1) (by omega) 0 (ints z24))
        clear h0
        go_wp2_with (first | (refine build_law rfl 27 rfl _ buildRack ?_) | (refine store_at rfl 27 _ _ rfl _ _ rfl rfl ?_ 24 ?_ ?_ ?_ ?_; rotate_left; (· (repeat (first | (with_reducible assumption) | ((with_reducible refine Has.box _ _ ?_ ?_) <;> (first | assumption | decide)) | (with_reducible refine Has.alloc ?_ _) | ((with_reducible refine Has.putOther ?_ _ _ ?_); rotate_left; omega; skip) | ((with_reducible refine Has.below ?_ ?_); rotate_left; assumption)))); (· (first | assumption | rfl)); (· kernel_rfl)))
        exact bodyPost_ret (res_has2 rfl _ _ (w.heap.size + 1) z24 24 _ (.int .i64 0) (.bool false) rfl rfl rfl S1.out Try.underlying27 rfl (by kernel_rfl)) rfl ⟨by unfold takeR takeC; rw [O.out]; rfl, S2.out⟩
      · have O := Lib.hid (show takeOk ns (p : Int) = true by rw [HO.out]; simp [h0])
        have hl : 0 < lay (tub ns p) := by omega
        have hl4 := F.out.lay4
        have n0 : ((lay (tub ns p) : Int) == 0) = false := by simp; omega
        clear h0
        go_wp2_with (refine load_tub rfl 24 _ rfl _ (p) _ rfl ?_ ?_ ?_ ?_ _ Try.underlying24 rfl ?_ ?_; (· (first | rfl | omega)); rotate_left; (· (repeat (first | (with_reducible assumption) | ((with_reducible refine Has.box _ _ ?_ ?_) <;> (first | assumption | decide)) | (with_reducible refine Has.alloc ?_ _) | ((with_reducible refine Has.putOther ?_ _ _ ?_); rotate_left; omega; skip) | ((with_reducible refine Has.below ?_ ?_); rotate_left; assumption)))); (· omega); (· kernel_rfl))
        refine (l2Many_any (tub ns p) _ h4 hvt).mono ?_
        rintro e w3 ⟨rfl, b3⟩
        have HB3 := Lib.hid (HB2.out.call b3)
        have H3 := H2.below b3
        have Z3 := Z2.below b3
        clear H2 Z2 HB2 b3
        have c0 := H3.rackCell p (lay (tub ns p) - 1) hp6 (by omega)
        have r0 := F.out.run 0 (by have := F.out.none; omega)
        rw [Nat.sub_zero] at r0
        rw [r0] at c0
        have f0 := H3.free (p * 4 + (lay (tub ns p) - 1)) (by omega)
        have i0 : ((lay (tub ns p) : Int) - 1).toNat = lay (tub ns p) - 1 := by omega
        have H4 := H3.set (p * 4 + (lay (tub ns p) - 1)) 0 (by omega)
        rw [set_tub ns p (lay (tub ns p) - 1) 0 h24 hp6 (by omega)] at H4
        have H5 : Has _ w.heap.size (setTub ns p (takeT (tub ns p))) 24 := H4
        have hl5 := H5.len
        have Z4 := Z3.setOther (b' := w.heap.size) (p * 4 + (lay (tub ns p) - 1)) (.int .i64 0) (by omega)
        have S1 := Lib.hid (Z4.putAll (setTub ns p (takeT (tub ns p))) hl5)
        have S2 := Lib.hid ((HB3.out.set (b := w.heap.size) (Nat.le_refl _) (p * 4 + (lay (tub ns p) - 1)) (.int .i64 0)).puts (b := w.heap.size + 1) (by omega) 0 (ints (setTub ns p (takeT (tub ns p)))))
        clear r0 H3 Z3 H4
        go_wp2_with (first | (refine load_has rfl 27 _ rfl _ rfl ?_ 24 ?_ _ Try.underlying27 rfl ?_ ?_; rotate_left; (· (repeat (first | (with_reducible assumption) | ((with_reducible refine Has.box _ _ ?_ ?_) <;> (first | assumption | decide)) | (with_reducible refine Has.alloc ?_ _) | ((with_reducible refine Has.putOther ?_ _ _ ?_); rotate_left; omega; skip) | ((with_reducible refine Has.below ?_ ?_); rotate_left; assumption)))); (· kernel_rfl)) | (refine store_at rfl 27 _ _ rfl _ _ rfl rfl ?_ 24 ?_ ?_ ?_ ?_; rotate_left; (· (repeat (first | (with_reducible assumption) | ((with_reducible refine Has.box _ _ ?_ ?_) <;> (first | assumption | decide)) | (with_reducible refine Has.alloc ?_ _) | ((with_reducible refine Has.putOther ?_ _ _ ?_); rotate_left; omega; skip) | ((with_reducible refine Has.below ?_ ?_); rotate_left; assumption)))); (· (first | assumption | rfl)); (· kernel_rfl)))
        exact bodyPost_ret (res_has2 rfl _ _ (w.heap.size + 1) (setTub ns p (takeT (tub ns p))) 24 _ (.int .i64 (topC (tub ns p))) (.bool true) rfl rfl rfl S1.out Try.underlying27 rfl (by kernel_rfl)) rfl ⟨by unfold takeR takeC; rw [O.out]; simp, S2.out⟩
    · rw [decide_eq_false hp]
      have O := Lib.hid (takeOk_no (inR_not (ns := ns) (i := i) fun h => hp h.2))
      clear hp
      have S1 := Lib.hid (Z1.putAll z24 rfl)
      have S2 := Lib.hid (HB1.out.puts (b := w.heap.size + 1) (by omega) 0 (ints z24))
      go_wp2_with (first | (refine build_law rfl 27 rfl _ buildRack ?_) | (refine store_at rfl 27 _ _ rfl _ _ rfl rfl ?_ 24 ?_ ?_ ?_ ?_; rotate_left; (· (repeat (first | (with_reducible assumption) | ((with_reducible refine Has.box _ _ ?_ ?_) <;> (first | assumption | decide)) | (with_reducible refine Has.alloc ?_ _) | ((with_reducible refine Has.putOther ?_ _ _ ?_); rotate_left; omega; skip) | ((with_reducible refine Has.below ?_ ?_); rotate_left; assumption)))); (· (first | assumption | rfl)); (· kernel_rfl)))
      exact bodyPost_ret (res_has2 rfl _ _ (w.heap.size + 1) z24 24 _ (.int .i64 0) (.bool false) rfl rfl rfl S1.out Try.underlying27 rfl (by kernel_rfl)) rfl ⟨by unfold takeR takeC; rw [O.out]; rfl, S2.out⟩
  · have hf : vR ns = false := by simpa using hv
    have O := Lib.hid (takeOk_no (inR_not (ns := ns) (i := i) fun h => hv h.1))
    rw [hf]
    clear hf hv
    have S1 := Lib.hid (Z1.putAll z24 rfl)
    have S2 := Lib.hid (HB1.out.puts (b := w.heap.size + 1) (by omega) 0 (ints z24))
    go_wp2_with (first | (refine build_law rfl 27 rfl _ buildRack ?_) | (refine store_at rfl 27 _ _ rfl _ _ rfl rfl ?_ 24 ?_ ?_ ?_ ?_; rotate_left; (· (repeat (first | (with_reducible assumption) | ((with_reducible refine Has.box _ _ ?_ ?_) <;> (first | assumption | decide)) | (with_reducible refine Has.alloc ?_ _) | ((with_reducible refine Has.putOther ?_ _ _ ?_); rotate_left; omega; skip) | ((with_reducible refine Has.below ?_ ?_); rotate_left; assumption)))); (· (first | assumption | rfl)); (· kernel_rfl)))
    exact bodyPost_ret (res_has2 rfl _ _ (w.heap.size + 1) z24 24 _ (.int .i64 0) (.bool false) rfl rfl rfl S1.out Try.underlying27 rfl (by kernel_rfl)) rfl ⟨by unfold takeR takeC; rw [O.out]; rfl, S2.out⟩

end Go.Proofs.Ytlnbhopigjkkkaa.base
