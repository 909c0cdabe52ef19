/-
  The rooms of a rack, on the program's side, walked.
-/
import Derived.Test.YtmodkllhdeknoaaRmS
import Derived.Test.YtmodkllhdeknoaaShelfR
import Derived.Test.YtmodkllhdeknoaaBndI
import Derived.Sort.OwnSortedInts
namespace Go.Proofs.Ytmodkllhdeknoaa.base
open Go.ChangeShapes Go.WideShapes Go.ChangeAt Go.RowKit
set_option linter.unusedVariables false
set_option linter.unusedSimpArgs false

theorem sort_any {w : World} {b g cap n : Nat} {fs : List Int} (h : Nu w b (.slice (some ⟨g, 0, none⟩) n cap) n fs) (hn : n ≤ 1048576) :
    Calls Try.prog 42 #[.slice (some ⟨g, 0, none⟩) n cap] w fun e w' => e = .returned (.tuple #[]) ∧ Nu w' b (.slice (some ⟨g, 0, none⟩) n cap) n (fs.mergeSort fun x y => decide (x ≤ y)) ∧ w.grownBy w' (some g) := by
  have hf := h.flat
  rcases h.2 with ⟨h0, _⟩ | ⟨g', cap', cur, hv, hb, hg, h1, h2, h3, h4⟩
  · cases h0
  injection hv with e1 e2 e3
  injection e1 with e1
  injection e1 with e1
  subst e1
  subst e3
  subst hf
  have hH : Go.Sort.Holds (Value.int .i64) w g 0 fs.toArray := holds_of_blockI hg (by rw [Nat.mul_one] at h4; exact h4)
  refine (Try.slices_Sort_int g 0 cap fs w hH (lt_of_block hg) (by omega)).mono ?_
  rintro e w' ⟨rfl, n, os, rfl⟩
  exact ⟨rfl, ownsRow_sortedI (List.length_mergeSort _) hb hg h1 h2 h3, grownBy_sortedI _⟩

set_option maxHeartbeats 1600000 in
set_option maxRecDepth 100000 in
theorem implRoom (ns : List Int) (w : World) (h24 : ns.length = 24) :
    Calls Try.prog 25 #[row ns] w (RoomPost ns w) := by
  obtain ⟨i0, hi, hz0, hz1, hz2⟩ := infoN_parts infoN
  have HB := Lib.hid (((kept_refl w).alloc (.cells (ints ns).toArray 28)).alloc (.cells #[] 3))
  have H := (Has.box w 28 h24 (by omega)).alloc (.cells #[] 3)
  have P0 := Lib.hid (by have := nu_none (w.alloc (.cells (ints ns).toArray 28)) (w.heap.size + 1) (by simp); rwa [size1] at this)
  rw [row_ints]
  go_enter Try.func25, Try.ntmps25
  go_wp2_with (refine load_has rfl 28 _ rfl _ rfl ?_ 24 ?_ _ Try.underlying28 rfl ?_ ?_; rotate_left; (· (repeat (first | (with_reducible assumption) | ((with_reducible refine Has.box _ _ ?_ ?_) <;> (first | assumption | decide)) | (with_reducible refine Has.alloc ?_ _) | ((with_reducible refine Has.putOther ?_ _ _ ?_); rotate_left; omega; skip) | ((with_reducible refine Has.below ?_ ?_); rotate_left; assumption)))); (· kernel_rfl))
  refine (isRack_any ns _ h24).mono ?_
  rintro e w1 ⟨rfl, b1⟩
  replace H := H.below b1
  replace HB := Lib.hid (HB.out.call b1)
  replace P0 := Lib.hid (P0.out.below b1)
  clear b1
  by_cases hv : vR ns = true
  rotate_left
  · have hf : vR ns = false := by simpa using hv
    have E := Lib.hid hf
    have Z := Lib.hid (room_no hf)
    rw [hf]
    clear hf hv
    go_wp2_with fail
    go_ret2
    exact ⟨_, by rw [E.out]; rfl, by rw [Z.out.1, Z.out.2]; exact P0.out, HB.out⟩
  rw [hv]
  have E := Lib.hid hv
  have Z := Lib.hid (room_yes hv)
  have ZS := Lib.hid (bk_sort h24)
  have H24 := Lib.hid h24
  clear h24 hv
  go_wp2_with (refine load_has rfl 23 _ rfl _ rfl ?_ 24 ?_ _ Try.underlying23 rfl ?_ ?_; rotate_left; (· (repeat (first | (with_reducible assumption) | ((with_reducible refine Has.box _ _ ?_ ?_) <;> (first | assumption | decide)) | (with_reducible refine Has.alloc ?_ _) | ((with_reducible refine Has.putOther ?_ _ _ ?_); rotate_left; omega; skip) | ((with_reducible refine Has.below ?_ ?_); rotate_left; assumption)))); (· kernel_rfl))
  clear H
  go_loopw [4, 14] (fun u i wr => ∃ p : Nat, p ≤ 6 ∧ i = .int .i64 p ∧ Hid (Nu wr (w.heap.size + 1) u p (rmUp ns p)) ∧ Hid (Kept w wr)) (fun _ z _ => 6 - (intOf z).toNat)
  case atStart => exact ⟨0, by omega, rfl, P0, HB⟩
  case round =>
    clear P0 HB
    obtain ⟨p, hp, rfl, GU, GB⟩ := hrel
    rcases Nat.lt_or_ge p 6 with hp6 | hge
    · have hpi : (p : Int) < 6 := by omega
      have h4 := tub_len ns p H24.out hp6
      have hvt := vR_tub E.out p hp6
      have EA : Hid (rmA ns p = 4 - (lay (tub ns p) : Nat)) := Lib.hid rfl
      have SN : Hid (rmUp ns (p + 1) = rmUp ns p ++ [rmA ns p]) := Lib.hid rfl
      have g0 := indexTub ns p hp6
      have HT := Has.box wr 22 h4 (by omega)
      replace GU := Lib.hid (GU.out.alloc (.cells (ints (tub ns p)).toArray 22))
      replace GB := Lib.hid (GB.out.alloc (.cells (ints (tub ns p)).toArray 22))
      go_wp2_with (first | (refine store_new rfl 22 _ _ rfl _ _ _ rfl _ rfl _ rfl rfl ?_ ?_ ?_; (· (first | assumption | rfl)); (· kernel_rfl)) | (refine load_has rfl 22 _ rfl _ rfl ?_ 4 ?_ _ Try.underlying22 rfl ?_ ?_; rotate_left; (· (repeat (first | (with_reducible assumption) | ((with_reducible refine Has.box _ _ ?_ ?_) <;> (first | assumption | decide)) | (with_reducible refine Has.alloc ?_ _) | ((with_reducible refine Has.putOther ?_ _ _ ?_); rotate_left; omega; skip) | ((with_reducible refine Has.below ?_ ?_); rotate_left; assumption)))); (· kernel_rfl)))
      refine (room_any (tub ns p) _ h4 hvt).mono ?_
      rintro e w3 ⟨rfl, b3⟩
      rw [← EA.out]
      replace GU := Lib.hid (GU.out.below b3)
      replace GB := Lib.hid (GB.out.call b3)
      clear b3 hvt h4 HT g0 EA
      have hbs := GB.out.size
      have owu := Lib.hid (fun z hz => (GU.out.own z hz))
      generalize rmA ns p = x at *
      generalize rmUp ns p = M at *
      go_wp2_with (first | (at_builtin; refine wpList_append_own _ rfl _ _ 37 rfl (w.heap.size + 1) 3 i0 (.int .i64 0) 1 8 Try.underlying37 hi hz0 hz1 hz2 rfl (by decide) _ p (ints M) rfl (World.ownsRow.alloc GU.out _) ⟨w3.heap.size, 0, none⟩ 1 1 [.int .i64 x] rfl rfl (cell_one_new _ _ _) (fun x hx => by simp at hx; subst hx; rfl) (by unfold maxLen; omega) (by omega) (by simp; omega) ?_; intro v' w6 hown' hgrow3 hnil3))
      have F3 := Lib.hid (show Kept w w6 from (GB.out.alloc (.cells #[.int .i64 x] 3)).grown hgrow3 (by rw [size1]; omega) (fun j hj => by have := (owu.out j hj).1; omega))
      have F4 : Hid (Nu w6 (w.heap.size + 1) v' (p + 1) (rmUp ns (p + 1))) := Lib.hid (by rw [SN.out]; unfold Nu; rw [ints_more]; exact hown')
      clear hown' hgrow3 hnil3 GU GB owu
      go_wp2_with fail
      go_roundw
      case rel => exact ⟨p + 1, by omega, by go_num, F4, F3⟩
      case measure => simp [intOf]; omega
    · obtain rfl : p = 6 := by omega
      obtain ⟨g, cap, rfl, hbg, hgl⟩ := GU.out.form (by omega)
      go_wp2_with fail
      refine (sort_any GU.out (by omega)).mono ?_
      rintro e w4 ⟨rfl, q4, g4⟩
      replace GB := Lib.hid (show Kept w w4 from GB.out.grown g4 GB.out.size (fun j hj => by injection hj with hj; omega))
      rw [ZS.out] at q4
      have Q4 := Lib.hid q4
      clear q4 g4 GU
      go_wp2_with fail
      go_ret2
      exact ⟨_, by rw [E.out]; rfl, by rw [Z.out.1, Z.out.2]; exact Q4.out, GB.out⟩
end Go.Proofs.Ytmodkllhdeknoaa.base
