/-
  What is asked of one tube of a rack, on both sides: layers and tops, walked.
-/
import Derived.Test.YtdmcdghcmjmidabSpecW
namespace Go.Proofs.Ytdmcdghcmjmidab.base
open Go.ChangeShapes Go.WideShapes Go.ChangeAt Go.RowKit
set_option linter.unusedVariables false

theorem topOk_not {ns : List Int} {i : Int} (h : inR ns i = false) : topOk ns i = false := by unfold topOk; rw [h]; rfl
theorem tubeAt_any (ns : List Int) (i : Int) (w : World) (h24 : ns.length = 24) :
    Calls Try.prog 43 #[row ns, .int .i64 i] w fun e w' => e = .returned (.tuple #[.agg (ints (tubA ns i)).toArray, .bool (inR ns i)]) ∧ Kept w w' := by
  have HB := Lib.hid (((kept_refl w).alloc (.cells (ints ns).toArray 29)).alloc (.cells #[.int .i64 0, .int .i64 0, .int .i64 0, .int .i64 0] 55))
  have H := (Has.box w 29 h24 (by omega)).alloc (.cells #[.int .i64 0, .int .i64 0, .int .i64 0, .int .i64 0] 55)
  have Z := (Has.zero (w.alloc (.cells (ints ns).toArray 29)) 55).at (size1 _ _)
  have hb := buildTube
  rw [row_ints]
  go_enter Try.func43, Try.ntmps43
  go_wp2_with fail
  refine (isPlace_any i _).mono ?_
  rintro e w' ⟨rfl, rfl⟩
  by_cases hp : 0 ≤ i ∧ i < 6
  · rw [decide_eq_true hp]
    obtain ⟨p, rfl⟩ : ∃ p : Nat, i = (p : Int) := ⟨i.toNat, by omega⟩
    have hp6 : p < 6 := by omega
    have hpi : (p : Int) < 6 := by omega
    clear hp
    go_wp2_with (refine load_has rfl 29 _ rfl _ rfl ?_ 24 ?_ _ Try.underlying29 rfl ?_ ?_; rotate_left; (· (repeat (first | (with_reducible assumption) | ((with_reducible refine Has.box _ _ ?_ ?_) <;> (first | assumption | decide)) | (with_reducible refine Has.alloc ?_ _) | ((with_reducible refine Has.putOther ?_ _ _ ?_); rotate_left; omega; skip) | ((with_reducible refine Has.below ?_ ?_); rotate_left; assumption)))); (· kernel_rfl))
    refine (isRack_any ns _ h24).mono ?_
    rintro e w1 ⟨rfl, b1⟩
    have H1 := H.below b1
    have Z1 := Z.below b1
    have HB1 := Lib.hid (HB.out.call b1)
    clear H Z HB b1
    by_cases hv : vR ns = true
    · rw [hv]
      have R := Lib.hid (inR_yes hv hp6)
      have A := Lib.hid (tubA_yes R.out)
      have h4 := tub_len ns p h24 hp6
      have ZT := Lib.hid Z1.there
      have Z2 := Lib.hid (Z1.putAll (tub ns p) h4)
      have HB2 := Lib.hid (HB1.out.puts (b := w.heap.size + 1) (by omega) 0 (ints (tub ns p)))
      clear hv Z1
      go_wp2_with (first | (refine load_tub rfl 22 _ rfl _ (p) _ rfl ?_ ?_ ?_ ?_ _ Try.underlying22 rfl ?_ ?_; (· (first | rfl | omega)); rotate_left; (· (repeat (first | (with_reducible assumption) | ((with_reducible refine Has.box _ _ ?_ ?_) <;> (first | assumption | decide)) | (with_reducible refine Has.alloc ?_ _) | ((with_reducible refine Has.putOther ?_ _ _ ?_); rotate_left; omega; skip) | ((with_reducible refine Has.below ?_ ?_); rotate_left; assumption)))); (· omega); (· kernel_rfl)) | (refine store_has rfl 55 _ _ rfl (w.heap.size + 1) 0 (tub ns p) rfl rfl 4 h4 ZT.out ?_ ?_; (· kernel_rfl)))
      exact bodyPost_ret (res_has1 rfl _ _ (w.heap.size + 1) (tub ns p) 4 _ (.bool true) rfl rfl Z2.out Try.underlying55 rfl (by kernel_rfl)) rfl ⟨by rw [A.out, R.out], HB2.out⟩
    · have hf : vR ns = false := by simpa using hv
      have R := Lib.hid (inR_not (ns := ns) (i := p) fun h => hv h.1)
      rw [hf]
      clear hf hv
      have ZT := Lib.hid Z1.there
      have Z2 := Lib.hid (Z1.putAll [0, 0, 0, 0] rfl)
      have HB2 := Lib.hid (HB1.out.puts (b := w.heap.size + 1) (by omega) 0 (ints [0, 0, 0, 0]))
      clear Z1
      go_wp2_with (first | (refine store_has rfl 55 _ _ rfl (w.heap.size + 1) 0 [0, 0, 0, 0] rfl rfl 4 rfl ZT.out ?_ ?_; (· kernel_rfl)))
      exact bodyPost_ret (res_has1 rfl _ _ (w.heap.size + 1) [0, 0, 0, 0] 4 _ (.bool false) rfl rfl Z2.out Try.underlying55 rfl (by kernel_rfl)) rfl ⟨by unfold tubA; rw [R.out]; rfl, HB2.out⟩
  · rw [decide_eq_false hp]
    have R := Lib.hid (inR_not (ns := ns) (i := i) fun h => hp h.2)
    clear hp
    have ZT := Lib.hid Z.there
    have Z2 := Lib.hid (Z.putAll [0, 0, 0, 0] rfl)
    have HB2 := Lib.hid (HB.out.puts (b := w.heap.size + 1) (by omega) 0 (ints [0, 0, 0, 0]))
    clear Z
    go_wp2_with (first | (refine store_has rfl 55 _ _ rfl (w.heap.size + 1) 0 [0, 0, 0, 0] rfl rfl 4 rfl ZT.out ?_ ?_; (· kernel_rfl)))
    exact bodyPost_ret (res_has1 rfl _ _ (w.heap.size + 1) [0, 0, 0, 0] 4 _ (.bool false) rfl rfl Z2.out Try.underlying55 rfl (by kernel_rfl)) rfl ⟨by unfold tubA; rw [R.out]; rfl, HB2.out⟩

end Go.Proofs.Ytdmcdghcmjmidab.base
