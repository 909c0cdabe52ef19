/-
  What is asked of one tube of a rack, on both sides: layers and tops, walked.
-/
import Derived.Test.YtlbofgjgmignhaaSpecW
namespace Go.Proofs.Ytlbofgjgmignhaa.base
open Go.ChangeShapes Go.WideShapes Go.ChangeAt Go.RowKit
set_option linter.unusedVariables false
set_option linter.unusedSimpArgs false

theorem topOk_not {ns : List Int} {i : Int} (h : inR ns i = false) : topOk ns i = false := by unfold topOk; rw [h]; rfl
theorem tubeAt_any (ns : List Int) (i : Int) (w : World) (h24 : ns.length = 24) :
    Calls Try.prog 41 #[row ns, .int .i64 i] w fun e w' => e = .returned (.tuple #[.agg (ints (tubA ns i)).toArray, .bool (inR ns i)]) ∧ Kept w w' := by
  have HB := Lib.hid (((kept_refl w).alloc (.cells (ints ns).toArray 27)).alloc (.cells #[.int .i64 0, .int .i64 0, .int .i64 0, .int .i64 0] 49))
  have H := (Has.box w 27 h24 (by omega)).alloc (.cells #[.int .i64 0, .int .i64 0, .int .i64 0, .int .i64 0] 49)
  have Z := (Has.zero (w.alloc (.cells (ints ns).toArray 27)) 49).at (size1 _ _)
  have hb := buildTube
  rw [row_ints]
  go_enter Try.func41, Try.ntmps41
  go_wp2_with fail
  refine (isPlace_any i _).mono ?_
  rintro e w' ⟨rfl, rfl⟩
  by_cases hp : 0 ≤ i ∧ i < 6
  · rw [decide_eq_true hp]
    obtain ⟨p, rfl⟩ : ∃ p : Nat, i = (p : Int) := ⟨i.toNat, by omega⟩
    have hp6 : p < 6 := by omega
    have hpi : (p : Int) < 6 := by omega
    clear hp
    go_wp2_with (refine load_has rfl 27 _ rfl _ rfl ?_ 24 ?_ _ Try.underlying27 rfl ?_ ?_; rotate_left; (· (repeat (first | (with_reducible assumption) | ((with_reducible refine Has.box _ _ ?_ ?_) <;> (first | assumption | decide)) | (with_reducible refine Has.alloc ?_ _) | ((with_reducible refine Has.putOther ?_ _ _ ?_); rotate_left; omega; skip) | ((with_reducible refine Has.below ?_ ?_); rotate_left; assumption)))); (· kernel_rfl))
    refine (isRack_any ns _ h24).mono ?_
    rintro e w1 ⟨rfl, b1⟩
    have H1 := H.below b1
    have Z1 := Z.below b1
    have HB1 := Lib.hid (HB.out.call b1)
    clear H Z HB b1
    by_cases hv : vR ns = true
    · rw [hv]
      have R := Lib.hid (inR_yes hv hp6)
      have A := Lib.hid (tubA_yes R.out)
      have h4 := tub_len ns p h24 hp6
      have ZT := Lib.hid Z1.there
      have Z2 := Lib.hid (Z1.putAll (tub ns p) h4)
      have HB2 := Lib.hid (HB1.out.puts (b := w.heap.size + 1) (by omega) 0 (ints (tub ns p)))
      clear hv Z1
      go_wp2_with (first | (refine load_tub rfl 24 _ rfl _ (p) _ rfl ?_ ?_ ?_ ?_ _ Try.underlying24 rfl ?_ ?_; (· (first | rfl | omega)); rotate_left; (· (repeat (first | (with_reducible assumption) | ((with_reducible refine Has.box _ _ ?_ ?_) <;> (first | assumption | decide)) | (with_reducible refine Has.alloc ?_ _) | ((with_reducible refine Has.putOther ?_ _ _ ?_); rotate_left; omega; skip) | ((with_reducible refine Has.below ?_ ?_); rotate_left; assumption)))); (· omega); (· kernel_rfl)) | (refine store_has rfl 49 _ _ rfl (w.heap.size + 1) 0 (tub ns p) rfl rfl 4 h4 ZT.out ?_ ?_; (· kernel_rfl)))
      exact bodyPost_ret (res_has1 rfl _ _ (w.heap.size + 1) (tub ns p) 4 _ (.bool true) rfl rfl Z2.out Try.underlying49 rfl (by kernel_rfl)) rfl ⟨by rw [A.out, R.out], HB2.out⟩
    · have hf : vR ns = false := by simpa using hv
      have R := Lib.hid (inR_not (ns := ns) (i := p) fun h => hv h.1)
      rw [hf]
      clear hf hv
      have ZT := Lib.hid Z1.there
      have Z2 := Lib.hid (Z1.putAll [0, 0, 0, 0] rfl)
      have HB2 := Lib.hid (HB1.out.puts (b := w.heap.size + 1) (by omega) 0 (ints [0, 0, 0, 0]))
      clear Z1
      go_wp2_with (first | (refine store_has rfl 49 _ _ rfl (w.heap.size + 1) 0 [0, 0, 0, 0] rfl rfl 4 rfl ZT.out ?_ ?_; (· kernel_rfl)))
      exact bodyPost_ret (res_has1 rfl _ _ (w.heap.size + 1) [0, 0, 0, 0] 4 _ (.bool false) rfl rfl Z2.out Try.underlying49 rfl (by kernel_rfl)) rfl ⟨by unfold tubA; rw [R.out]; rfl, HB2.out⟩
  · rw [decide_eq_false hp]
    have R := Lib.hid (inR_not (ns := ns) (i := i) fun h => hp h.2)
    clear hp
    have ZT := Lib.hid Z.there
    have Z2 := Lib.hid (Z.putAll [0, 0, 0, 0] rfl)
    have HB2 := Lib.hid (HB.out.puts (b := w.heap.size + 1) (by omega) 0 (ints [0, 0, 0, 0]))
    clear Z
    go_wp2_with (first | (refine store_has rfl 49 _ _ rfl (w.heap.size + 1) 0 [0, 0, 0, 0] rfl rfl 4 rfl ZT.out ?_ ?_; (· kernel_rfl)))
    exact bodyPost_ret (res_has1 rfl _ _ (w.heap.size + 1) [0, 0, 0, 0] 4 _ (.bool false) rfl rfl Z2.out Try.underlying49 rfl (by kernel_rfl)) rfl ⟨by unfold tubA; rw [R.out]; rfl, HB2.out⟩

theorem implLayersOf (ns : List Int) (i : Int) (w : World) (h24 : ns.length = 24) :
    Calls Try.prog 23 #[row ns, .int .i64 i] w fun e w' => e = .returned (.tuple #[.int .i64 (layersA ns i), .bool (inR ns i)]) ∧ Kept w w' := by
  have HB := Lib.hid ((kept_refl w).alloc (.cells (ints ns).toArray 27))
  have H := Has.box w 27 h24 (by omega)
  rw [row_ints]
  go_enter Try.func23, Try.ntmps23
  go_wp2_with (refine load_has rfl 27 _ rfl _ rfl ?_ 24 ?_ _ Try.underlying27 rfl ?_ ?_; rotate_left; (· (repeat (first | (with_reducible assumption) | ((with_reducible refine Has.box _ _ ?_ ?_) <;> (first | assumption | decide)) | (with_reducible refine Has.alloc ?_ _) | ((with_reducible refine Has.putOther ?_ _ _ ?_); rotate_left; omega; skip) | ((with_reducible refine Has.below ?_ ?_); rotate_left; assumption)))); (· kernel_rfl))
  refine (tubeAt_any ns i _ h24).mono ?_
  rintro e w1 ⟨rfl, b1⟩
  have HB1 := Lib.hid ((HB.out.call b1).alloc (.cells (ints (tubA ns i)).toArray 49))
  have h4 := tubA_len h24 i
  clear H HB b1
  by_cases hR : inR ns i = true
  · rw [hR]
    have hv := (inR_of hR).1
    obtain ⟨p, rfl, hp6⟩ := (inR_of hR).2
    have hvt : vT (tubA ns (p : Int)) = true := by rw [tubA_yes hR]; exact vR_tub hv p hp6
    have A := Lib.hid (show layersA ns (p : Int) = (lay (tubA ns (p : Int)) : Nat) by unfold layersA tubA; rw [if_pos hR, if_pos hR])
    have HR := Lib.hid hR
    clear hR hv
    generalize tubA ns (p : Int) = t at *
    go_wp2_with (first | (refine store_new rfl 49 _ _ rfl _ _ _ rfl _ rfl _ rfl rfl ?_ ?_ ?_; (· (first | assumption | rfl)); (· kernel_rfl)) | (refine load_has rfl 49 _ rfl _ rfl ?_ 4 ?_ _ Try.underlying49 rfl ?_ ?_; rotate_left; (· (repeat (first | (with_reducible assumption) | ((with_reducible refine Has.box _ _ ?_ ?_) <;> (first | assumption | decide)) | (with_reducible refine Has.alloc ?_ _) | ((with_reducible refine Has.putOther ?_ _ _ ?_); rotate_left; omega; skip) | ((with_reducible refine Has.below ?_ ?_); rotate_left; assumption)))); (· kernel_rfl)))
    refine (layers_any t _ h4 hvt).mono ?_
    rintro e w2 ⟨rfl, b2⟩
    have HB2 := Lib.hid (HB1.out.call b2)
    clear b2
    go_wp2_with fail
    go_ret2
    exact ⟨by rw [A.out, HR.out]; rfl, HB2.out⟩
  · have hf : inR ns i = false := by simpa using hR
    have A := Lib.hid (show layersA ns i = 0 by unfold layersA; rw [if_neg hR])
    have HR := Lib.hid hf
    rw [hf]
    clear hf hR
    generalize tubA ns i = t at *
    go_wp2_with (refine store_new rfl 49 _ _ rfl _ _ _ rfl _ rfl _ rfl rfl ?_ ?_ ?_; (· (first | assumption | rfl)); (· kernel_rfl))
    go_ret2
    exact ⟨by rw [A.out, HR.out]; rfl, HB1.out⟩

theorem implTopOf (ns : List Int) (i : Int) (w : World) (h24 : ns.length = 24) :
    Calls Try.prog 22 #[row ns, .int .i64 i] w fun e w' => e = .returned (.tuple #[.int .i64 (topCA ns i), .int .i64 (topNA ns i), .bool (topOk ns i)]) ∧ Kept w w' := by
  have HB := Lib.hid ((kept_refl w).alloc (.cells (ints ns).toArray 27))
  have H := Has.box w 27 h24 (by omega)
  rw [row_ints]
  go_enter Try.func22, Try.ntmps22
  go_wp2_with (refine load_has rfl 27 _ rfl _ rfl ?_ 24 ?_ _ Try.underlying27 rfl ?_ ?_; rotate_left; (· (repeat (first | (with_reducible assumption) | ((with_reducible refine Has.box _ _ ?_ ?_) <;> (first | assumption | decide)) | (with_reducible refine Has.alloc ?_ _) | ((with_reducible refine Has.putOther ?_ _ _ ?_); rotate_left; omega; skip) | ((with_reducible refine Has.below ?_ ?_); rotate_left; assumption)))); (· kernel_rfl))
  refine (tubeAt_any ns i _ h24).mono ?_
  rintro e w1 ⟨rfl, b1⟩
  have HB1 := Lib.hid ((HB.out.call b1).alloc (.cells (ints (tubA ns i)).toArray 49))
  have h4 := tubA_len h24 i
  clear H HB b1
  by_cases hR : inR ns i = true
  · rw [hR]
    have hv := (inR_of hR).1
    obtain ⟨p, rfl, hp6⟩ := (inR_of hR).2
    have hvt : vT (tubA ns (p : Int)) = true := by rw [tubA_yes hR]; exact vR_tub hv p hp6
    have A := Lib.hid (show topCA ns (p : Int) = topC (tubA ns (p : Int)) by unfold topCA tubA; rw [if_pos hR, if_pos hR])
    have B := Lib.hid (show topNA ns (p : Int) = (topN (tubA ns (p : Int)) : Nat) by unfold topNA tubA; rw [if_pos hR, if_pos hR])
    have C := Lib.hid (show topOk ns (p : Int) = decide (lay (tubA ns (p : Int)) ≠ 0) by unfold topOk tubA; rw [hR, if_pos rfl, Bool.true_and])
    have F := Lib.hid (tubeFacts h4 hvt)
    have HT := Has.box w1 49 h4 (by omega)
    clear hR hv
    generalize tubA ns (p : Int) = t at *
    go_wp2_with (first | (refine store_new rfl 49 _ _ rfl _ _ _ rfl _ rfl _ rfl rfl ?_ ?_ ?_; (· (first | assumption | rfl)); (· kernel_rfl)) | (refine load_has rfl 49 _ rfl _ rfl ?_ 4 ?_ _ Try.underlying49 rfl ?_ ?_; rotate_left; (· (repeat (first | (with_reducible assumption) | ((with_reducible refine Has.box _ _ ?_ ?_) <;> (first | assumption | decide)) | (with_reducible refine Has.alloc ?_ _) | ((with_reducible refine Has.putOther ?_ _ _ ?_); rotate_left; omega; skip) | ((with_reducible refine Has.below ?_ ?_); rotate_left; assumption)))); (· kernel_rfl)))
    refine (isEmpty_any t _ h4 hvt).mono ?_
    rintro e w2 ⟨rfl, b2⟩
    have HB2 := Lib.hid (HB1.out.call b2)
    have HT2 := HT.below b2
    clear b2 HT HB1
    by_cases h0 : lay t = 0
    · rw [decide_eq_true h0]
      have E := Lib.hid h0
      clear h0
      go_wp2_with fail
      go_ret3
      exact ⟨by rw [A.out, B.out, C.out, F.out.noneC.2 (F.out.none.1 E.out), F.out.none.1 E.out, E.out]; rfl, HB2.out⟩
    · rw [decide_eq_false h0]
      have E := Lib.hid h0
      clear h0
      go_wp2_with (refine load_has rfl 49 _ rfl _ rfl ?_ 4 ?_ _ Try.underlying49 rfl ?_ ?_; rotate_left; (· (repeat (first | (with_reducible assumption) | ((with_reducible refine Has.box _ _ ?_ ?_) <;> (first | assumption | decide)) | (with_reducible refine Has.alloc ?_ _) | ((with_reducible refine Has.putOther ?_ _ _ ?_); rotate_left; omega; skip) | ((with_reducible refine Has.below ?_ ?_); rotate_left; assumption)))); (· kernel_rfl))
      refine (top_any t _ h4 hvt).mono ?_
      rintro e w3 ⟨rfl, b3⟩
      have HB3 := Lib.hid (HB2.out.call b3)
      clear b3
      go_wp2_with fail
      go_ret3
      exact ⟨by rw [A.out, B.out, C.out, decide_eq_true E.out]; rfl, HB3.out⟩
  · have hf : inR ns i = false := by simpa using hR
    have A := Lib.hid (show topCA ns i = 0 by unfold topCA; rw [if_neg hR])
    have B := Lib.hid (show topNA ns i = 0 by unfold topNA; rw [if_neg hR])
    have C := Lib.hid (topOk_not hf)
    rw [hf]
    clear hf hR
    generalize tubA ns i = t at *
    go_wp2_with (refine store_new rfl 49 _ _ rfl _ _ _ rfl _ rfl _ rfl rfl ?_ ?_ ?_; (· (first | assumption | rfl)); (· kernel_rfl))
    go_ret3
    exact ⟨by rw [A.out, B.out, C.out]; rfl, HB1.out⟩
end Go.Proofs.Ytlbofgjgmignhaa.base
