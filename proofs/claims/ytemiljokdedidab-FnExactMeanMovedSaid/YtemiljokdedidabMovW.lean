/-
  How many candidates move so many layers, on the program's side, walked.
-/
import Derived.Test.YtemiljokdedidabTopW
import Derived.Test.YtemiljokdedidabOrdW
import Derived.Test.YtemiljokdedidabMdW
namespace Go.Proofs.Ytemiljokdedidab.base
open Go.ChangeShapes Go.WideShapes Go.ChangeAt Go.RowKit
set_option linter.unusedVariables false
set_option linter.unusedSimpArgs false

/-- The numbers of candidates that move at least 1, 2, .. layers. -/
def movL (vs : List Int) (i k : Nat) : List Int := (List.range k).map fun q => ((longN vs i (q + 1) : Nat) : Int)
theorem movL_len (vs : List Int) (i k : Nat) : (movL vs i k).length = k := by unfold movL; rw [List.length_map, List.length_range]
theorem movL_succ (vs : List Int) (i k : Nat) : movL vs i (k + 1) = movL vs i k ++ [((longN vs i (k + 1) : Nat) : Int)] := by
  unfold movL; rw [List.range_succ, List.map_append]; rfl
theorem movL_getD (vs : List Int) (i k j : Nat) (h : j < k) : (movL vs i k).getD j 0 = ((longN vs i (j + 1) : Nat) : Int) := by
  unfold movL
  rw [List.getD_eq_getElem?_getD, List.getElem?_map, List.getElem?_range h]; rfl

set_option maxHeartbeats 1600000 in
set_option maxRecDepth 100000 in
theorem movers_any (vs : List Int) (i j m c mj n : Nat) (w : World) (h : vs.length = 18) (hv : vV vs = true) (hi : i < 6) (hj : j < 6) (T : TopFacts vs i m c) (hm : vMany vs j = (mj : Int)) (hn : n + mj = 4) :
    Calls Try.prog 63 #[row vs, .int .i64 i, .int .i64 j] w fun e w' => ∃ g cap : Nat, e = .returned (.slice (some ⟨g, 0, none⟩) n cap) ∧ Nu w' w.heap.size (.slice (some ⟨g, 0, none⟩) n cap) n (movL vs i n) ∧ Kept w w' := by
  obtain ⟨i0, hi0, hz0, hz1, hz2⟩ := infoN_parts infoN
  have HB := Lib.hid (((kept_refl w).alloc (.cells (ints vs).toArray 31)).alloc (.cells #[] 3))
  have H := (Has.box w 31 h (by omega)).alloc (.cells #[] 3)
  have N0 := Lib.hid (Nu.emptyV (w.alloc (.cells (ints vs).toArray 31)) (w.heap.size + 1) (by simp))
  have KL := Lib.hid (fun l W h1 h2 => longTops_any vs i l m c W h hv hi T h1 h2)
  have HM := Lib.hid hm
  have BG := Lib.hid (fun l (h1 : 1 ≤ l) => Nat.le_trans (long_le h hv T l h1) ((hid_stk h hv).big (viewFacts h hv).small))
  rw [row_ints]
  clear hv T hm
  go_enter Try.func63, Try.ntmps63
  go_upto_region 3 with (refine load_has rfl 31 _ rfl _ rfl ?_ 18 ?_ _ Try.underlying31 rfl ?_ ?_; rotate_left; (· (repeat (first | (with_reducible assumption) | ((with_reducible refine Has.box _ _ ?_ ?_) <;> (first | assumption | decide)) | (with_reducible refine Has.alloc ?_ _) | ((with_reducible refine Has.putOther ?_ _ _ ?_); rotate_left; omega; skip) | ((with_reducible refine Has.below ?_ ?_); rotate_left; assumption)))); (· kernel_rfl))
  rw [size1] at N0
  have N1 : Hid (Nu ((w.alloc (.cells (ints vs).toArray 31)).alloc (.cells #[] 3)) (w.heap.size + 1) (.slice (some ⟨w.heap.size + 1, 0, none⟩) 0 0) 0 (movL vs i 0)) := N0
  have e1 : (1 : Int) = ((0 : Nat) : Int) + 1 := rfl
  go_loopg [7, 8] n (fun gk u ll wr => ∃ k g cap : Nat, gk = n - k ∧ k ≤ n ∧ ll = .int .i64 ((k : Int) + 1) ∧ u = .slice (some ⟨g, 0, none⟩) k cap ∧ Has wr w.heap.size vs 18 ∧ Hid (Nu wr (w.heap.size + 1) (.slice (some ⟨g, 0, none⟩) k cap) k (movL vs i k)) ∧ Hid (Kept w wr))
  case atStart => exact ⟨0, _, _, rfl, by omega, rfl, rfl, H, N1, HB⟩
  case round =>
    clear H N0 N1 HB e1
    obtain ⟨k, g, cap, rfl, hk, rfl, rfl, GH, GN, GB⟩ := hrel
    have c1 := GH.mCellX j hj HM.out
    have hji : (j : Int) < 6 := by omega
    obtain ⟨l, hl⟩ : ∃ l : Nat, l = k + 1 := ⟨_, rfl⟩
    have el : (k : Int) + 1 = (l : Int) := by omega
    rw [el]
    have HL := Lib.hid hl
    have WN : IntKind.i64.wrap (4 - (mj : Int)) = (n : Int) := by rw [IntWalk.i64_in _ (by omega)]; omega
    have WN2 : (4 : Int) - (mj : Int) = (n : Int) := by omega
    have HEL := Lib.hid el
    clear el
    by_cases hlt : k < n
    · have dl : decide ((l : Int) ≤ (n : Int)) = true := decide_eq_true (by omega)
      have dn : decide (l ≤ n) = true := decide_eq_true (by omega)
      have wl : IntKind.i64.wrap ((l : Int) + 1) = (l : Int) + 1 := IntWalk.i64_in _ (by omega)
      have l10 : l ≤ 10 := by omega
      have l1 : 1 ≤ l := by omega
      have DK := Lib.hid (show n - (k + 1) < n - k by omega)
      have HK := Lib.hid (show k + 1 ≤ n from hlt)
      have EL := Lib.hid (movL_succ vs i k)
      have K1 := Lib.hid (fun W => KL.out l W l1 l10)
      have bg := BG.out l l1
      have k4 : k ≤ 4 := by omega
      have EK := Lib.hid (show ((k : Int) + 1) + 1 = (((k + 1 : Nat) : Int)) + 1 by omega)
      rw [← HL.out] at EL
      clear hl hlt
      go_wp2_with (refine load_has rfl 31 _ rfl _ rfl ?_ 18 ?_ _ Try.underlying31 rfl ?_ ?_; rotate_left; (· (repeat (first | (with_reducible assumption) | ((with_reducible refine Has.box _ _ ?_ ?_) <;> (first | assumption | decide)) | (with_reducible refine Has.alloc ?_ _) | ((with_reducible refine Has.putOther ?_ _ _ ?_); rotate_left; omega; skip) | ((with_reducible refine Has.below ?_ ?_); rotate_left; assumption)))); (· kernel_rfl))
      refine (K1.out _).mono ?_
      rintro e w5 ⟨rfl, b5⟩
      generalize longN vs i l = z at *
      have KH6 := (GH.below b5).alloc (.cells #[.int .i64 (z : Int)] 3)
      have KN5 := GN.out.below b5
      have KN6 := KN5.alloc (.cells #[.int .i64 (z : Int)] 3)
      have KB6 := (GB.out.call b5).alloc (.cells #[.int .i64 (z : Int)] 3)
      have cnew := cell_one_new w5 (.int .i64 (z : Int)) 3
      clear GH GN GB b5 c1
      have hrow := KN6
      unfold Nu at hrow
      have hg5 := (KN5.own g rfl).2
      go_upto_region 4 with (at_builtin; refine wpList_append_own _ rfl _ _ 69 rfl (w.heap.size + 1) 3 i0 (.int .i64 0) 1 8 Try.underlying69 hi0 hz0 hz1 hz2 rfl (by decide) _ k (ints (movL vs i k)) rfl hrow ⟨w5.heap.size, 0, none⟩ 1 1 [.int .i64 (z : Int)] rfl rfl cnew (fun x hx => by simp at hx; subst hx; rfl) (by unfold maxLen; omega) (by omega) (by have := KH6.lt; omega) ?_; intro v' w6 hown' hgrow hnil)
      have NN : Nu w6 (w.heap.size + 1) v' (k + 1) (movL vs i (k + 1)) := by
        rw [show movL vs i (k + 1) = movL vs i k ++ [(z : Int)] by rw [← HL.out]; exact EL.out]; unfold Nu; rw [ints_app]; exact hown'
      have KH7 := Lib.hid (KH6.beside hgrow (fun e => by have e := Option.some.inj (show some w.heap.size = some g from e); have := (KN6.own g rfl).1; omega))
      have KB7 := Lib.hid (show Kept w w6 from KB6.grown hgrow (by have := KH6.lt; omega) (fun z hz => by have hz := Option.some.inj (show some g = some z from hz); have := (KN6.own g rfl).1; omega))
      obtain ⟨g2, cap2, he, _, _⟩ := NN.form (by omega)
      subst he
      have NN := Lib.hid NN
      clear hown' hgrow hnil hrow KH6 KN6 KB6 cnew KN5
      go_wp2_with fail
      go_roundg (n - (k + 1))
      case rel => exact ⟨k + 1, g2, cap2, rfl, HK.out, by rw [← EK.out, HEL.out], rfl, KH7.out, NN, KB7⟩
      case measure => exact DK.out
    · obtain rfl : k = n := by omega
      have dl : decide ((l : Int) ≤ (k : Int)) = false := decide_eq_false (by omega)
      have dn : decide (l ≤ k) = false := decide_eq_false (by omega)
      clear hl hlt
      go_wp2_with fail
      go_ret
      exact ⟨g, cap, rfl, World.ownsRow.mono GN.out (by omega), GB.out⟩
end Go.Proofs.Ytemiljokdedidab.base
