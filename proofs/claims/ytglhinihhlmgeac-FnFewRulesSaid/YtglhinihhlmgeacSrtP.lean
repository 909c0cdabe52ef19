/-
  Whether a level has a sorted rack, on the program's side, walked.
-/
import Derived.Test.YtglhinihhlmgeacFewM
import Derived.Test.YtglhinihhlmgeacSortSZ
import Derived.Test.YtglhinihhlmgeacGrid
namespace Go.Proofs.Ytglhinihhlmgeac.base
open Go.ChangeShapes Go.WideShapes Go.ChangeAt Go.RowKit
set_option linter.unusedVariables false
set_option linter.unusedSimpArgs false

set_option maxHeartbeats 400000 in
theorem isSortedRack_any (ns : List Int) (w : World) (h24 : ns.length = 24) :
    Calls Try.prog 26 #[row ns] w fun e w' => e = .returned (.bool (sortedA ns)) ∧ Kept w w' := by
  have HB := Lib.hid ((kept_refl w).alloc (.cells (ints ns).toArray 27))
  have H := Has.box w 27 h24 (by omega)
  rw [row_ints]
  go_enter Try.func26, Try.ntmps26
  go_wp2_with (refine load_has rfl 27 _ rfl _ rfl ?_ 24 ?_ _ Try.underlying27 rfl ?_ ?_; rotate_left; (· (repeat (first | (with_reducible assumption) | ((with_reducible refine Has.box _ _ ?_ ?_) <;> (first | assumption | decide)) | (with_reducible refine Has.alloc ?_ _) | ((with_reducible refine Has.putOther ?_ _ _ ?_); rotate_left; omega; skip) | ((with_reducible refine Has.below ?_ ?_); rotate_left; assumption)))); (· kernel_rfl))
  refine (implSorted ns _ h24).mono ?_
  rintro e w1 ⟨rfl, b1⟩
  have HB1 := Lib.hid (HB.out.call b1)
  clear H HB b1
  go_wp2_with fail
  go_ret
  exact ⟨rfl, HB1.out⟩
def FoundS (L : List (List Int)) (z : Int) : Prop := (z = -1 ∧ L.any sortedA = false) ∨ (0 ≤ z ∧ L.any sortedA = true)
theorem any_takeS (L : List (List Int)) (P : List Int → Bool) (k : Nat) (h : k < L.length) : (L.take (k + 1)).any P = ((L.take k).any P || P (L.getD k [])) := by
  rw [List.take_succ_eq_append_getElem h, List.any_append, List.getD_eq_getElem?_getD, List.getElem?_eq_getElem h]
  simp

set_option maxHeartbeats 1600000 in
set_option maxRecDepth 100000 in
theorem indexSorted_any (L : List (List Int)) (lv : Value) (w : World) (hL : L.length ≤ 100000) (G : Gr w 0 27 24 lv L) :
    Calls Try.prog 52 #[lv, .func (Fn.func 26) #[] #[]] w fun e w' => (∃ z : Int, e = .returned (.int .i64 z) ∧ FoundS L z) ∧ Kept w w' := by
  obtain ⟨a0, cap0, rfl⟩ := G.shape
  obtain ⟨N, hN⟩ : ∃ N, L.length = N := ⟨_, rfl⟩
  have HN := Lib.hid hN
  rw [hN] at hL G ⊢
  have GL := Lib.hid G
  clear G hN
  go_enter Try.func52, Try.ntmps52
  go_wp2_with fail
  go_loopw [8] (fun i wr => ∃ j : Nat, j ≤ N ∧ i = .int .i64 j ∧ Hid (Gr wr 0 27 24 (.slice a0 N cap0) L) ∧ Hid (Kept w wr) ∧ Hid ((L.take j).any sortedA = false)) (fun i _ => N - (intOf i).toNat)
  case atStart => exact ⟨0, by omega, rfl, GL, Lib.hid (kept_refl _), Lib.hid (by rw [List.take_zero]; rfl)⟩
  case round =>
    clear GL
    obtain ⟨j, hj, rfl, GL, GB, GA⟩ := hrel
    by_cases hjn : j < N
    · have hji : (j : Int) < (N : Int) := by omega
      have hjL : j < L.length := by rw [HN.out]; exact hjn
      obtain ⟨g, c, he, _, hgl⟩ := GL.out.form (by omega)
      rw [HN.out] at he
      injection he with e1 _ e3
      subst e1
      subst e3
      have x24 := GL.out.item hjL
      have RG := Lib.hid (GL.out.range HN.out.symm j hjn)
      have AT := Lib.hid (any_takeS L sortedA j hjL)
      have AL := Lib.hid (fun (h : sortedA (L.getD j []) = true) => (show L.any sortedA = true from List.any_eq_true.2 ⟨_, getD_inL hjL, h⟩))
      obtain ⟨x, hx⟩ : ∃ x, L.getD j [] = x := ⟨_, rfl⟩
      rw [hx] at x24 RG AT AL
      clear hx hjL
      have hi24 : (Try.prog.info? 27).map (·.size) = some (ints x).length := by rw [ints_len, x24]; kernel_rfl
      have HI := Lib.hid hi24
      clear hi24
      go_wp2_with (refine wpList_load_mid rfl 27 _ rfl g (j * 24) rfl (ints x) _ RG.out Try.underlying27 rfl HI.out ?_)
      refine (isSortedRack_any x _ x24).mono ?_
      rintro e w1 ⟨rfl, b1⟩
      replace GL := Lib.hid (GL.out.below b1)
      replace GB := Lib.hid (GB.out.call b1)
      clear b1 RG
      cases hs : sortedA x with
      | true =>
        have F := Lib.hid (show FoundS L (j : Int) from .inr ⟨by omega, AL.out hs⟩)
        clear hs
        go_wp2_with fail
        go_ret
        exact ⟨⟨_, rfl, F.out⟩, GB.out⟩
      | false =>
        have A2 := Lib.hid (show (L.take (j + 1)).any sortedA = false by rw [AT.out, GA.out, hs]; rfl)
        clear hs
        go_wp2_with fail
        go_roundw
        case rel => exact ⟨j + 1, by omega, by go_num, GL, GB, A2⟩
        case measure => simp [intOf]; omega
    · obtain rfl : j = N := by omega
      have F := Lib.hid (show FoundS L (-1) from .inl ⟨rfl, by have := GA.out; rwa [List.take_of_length_le (by rw [HN.out]; exact Nat.le_refl _)] at this⟩)
      go_wp2_with fail
      go_ret
      exact ⟨⟨-1, rfl, F.out⟩, GB.out⟩
set_option maxHeartbeats 800000 in
theorem containsSorted_any (L : List (List Int)) (lv : Value) (w : World) (hL : L.length ≤ 100000) (G : Gr w 0 27 24 lv L) :
    Calls Try.prog 25 #[lv, .func (Fn.func 26) #[] #[]] w fun e w' => e = .returned (.bool (L.any sortedA)) ∧ Kept w w' := by
  have K := Lib.hid (indexSorted_any L lv w hL G)
  clear G
  go_enter Try.func25, Try.ntmps25
  go_wp2_with fail
  refine K.out.mono ?_
  rintro e w1 ⟨⟨z, rfl, hz⟩, b1⟩
  have KB := Lib.hid b1
  clear K b1
  rcases hz with ⟨rfl, hz⟩ | ⟨hz0, hz⟩
  · have V := Lib.hid hz
    clear hz
    go_wp2_with fail
    go_ret
    exact ⟨ret_bool (by rw [V.out]), KB.out⟩
  · have V := Lib.hid hz
    have q1 : decide (0 ≤ z) = true := decide_eq_true hz0
    have q2 : decide (z ≥ 0) = true := decide_eq_true hz0
    clear hz hz0
    go_wp2_with fail
    go_ret
    exact ⟨ret_bool (by rw [V.out]), KB.out⟩
end Go.Proofs.Ytglhinihhlmgeac.base
