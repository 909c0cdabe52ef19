/-
  The order with a rank, on the program's side, walked.
-/
import Derived.Test.YtemiljokdedidacRkW
namespace Go.Proofs.Ytemiljokdedidac.base
open Go.ChangeShapes Go.WideShapes Go.ChangeAt Go.RowKit
set_option linter.unusedVariables false
set_option linter.unusedSimpArgs false

/-- The colors of the order with a rank. -/
def ordL (s : List Int) (r : Nat) (k : Nat) : List Int := (List.range k).map fun j => (colAt s r j : Int)
theorem ordL_len (s : List Int) (r k : Nat) : (ordL s r k).length = k := by unfold ordL; rw [List.length_map, List.length_range]
theorem ordL_succ (s : List Int) (r k : Nat) : ordL s r (k + 1) = ordL s r k ++ [(colAt s r k : Int)] := by
  unfold ordL; rw [List.range_succ, List.map_append]; rfl
theorem ordL_getD (s : List Int) (r k j : Nat) (h : j < k) : (ordL s r k).getD j 0 = (colAt s r j : Int) := by
  unfold ordL
  rw [List.getD_eq_getElem?_getD, List.getElem?_map, List.getElem?_range h]; rfl

set_option maxHeartbeats 1600000 in
set_option maxRecDepth 100000 in
theorem orderAt_any (s : List Int) (n r : Nat) (w : World) (hS : Stk s n) (hn : n ≤ 18) (hr : r < ordA s) :
    Calls Try.prog 103 #[row s, .int .i64 r] w fun e w' => ∃ g cap : Nat, e = .returned (.slice (some ⟨g, 0, none⟩) n cap) ∧ Nu w' w.heap.size (.slice (some ⟨g, 0, none⟩) n cap) n (ordL s r n) ∧ Kept w w' := by
  obtain ⟨i0, hi, hz0, hz1, hz2⟩ := infoN_parts infoN
  have h6 := hS.len
  have HB := Lib.hid (((kept_refl w).alloc (.cells (ints s).toArray 104)).alloc (.cells #[] 3))
  have H := (Has.box w 104 h6 (by omega)).alloc (.cells #[] 3)
  have N0 := Lib.hid (Nu.emptyV (w.alloc (.cells (ints s).toArray 104)) (w.heap.size + 1) (by simp))
  have PT := Lib.hid (fun k hk => pt_ok hS hr k hk)
  have CO := Lib.hid (fun k hk => colAt_ok hS hr k hk)
  have KZ := Lib.hid (fun W => size_any s W h6 (fun j hj => by
    have := hS.nat j hj
    have := hS.each j hj
    omega))
  have ESZ : sumUp s 6 = (n : Int) := by rw [sumUp_pl hS.nat 6 (by omega), hS.pl]
  rw [ESZ] at KZ
  have BR := Lib.hid (show ∀ k, k ≤ n → (pt s r k).2 ≤ 101559956668416 from fun k hk => by
    obtain ⟨h1, h2⟩ := pt_ok hS hr k hk
    have := h1.le18 (by omega)
    omega)
  have BA := Lib.hid (show ∀ k, k ≤ n → ordA (pt s r k).1 ≤ 101559956668416 from fun k hk => (pt_ok hS hr k hk).1.le18 (by omega))
  rw [row_ints]
  clear hS hr ESZ
  go_enter Try.func103, Try.ntmps103
  go_wp2_with (refine load_has rfl 104 _ rfl _ rfl ?_ 6 ?_ _ Try.underlying104 rfl ?_ ?_; rotate_left; (· (repeat (first | (with_reducible assumption) | ((with_reducible refine Has.box _ _ ?_ ?_) <;> (first | assumption | decide)) | (with_reducible refine Has.alloc ?_ _) | ((with_reducible refine Has.putOther ?_ _ _ ?_); rotate_left; omega; skip) | ((with_reducible refine Has.below ?_ ?_); rotate_left; assumption)))); (· kernel_rfl))
  rw [size1] at N0
  refine (KZ.out _).mono ?_
  rintro e w1 ⟨rfl, b1⟩
  have P0 : Has w1 w.heap.size (pt s r 0).1 6 := H.below b1
  have N1 : Hid (Nu w1 (w.heap.size + 1) (.slice (some ⟨w.heap.size + 1, 0, none⟩) 0 0) 0 (ordL s r 0)) := Lib.hid (N0.out.below b1)
  have HB1 := Lib.hid (HB.out.call b1)
  clear H N0 HB b1 KZ
  have e0 : (r : Int) = ((pt s r 0).2 : Nat) := rfl
  rw [e0]
  clear e0
  go_wp2_with fail
  go_loopg [1, 5, 10] n (fun gk rr u i wr => ∃ k g cap : Nat, gk = n - k ∧ k ≤ n ∧ i = .int .i64 k ∧ rr = .int .i64 ((pt s r k).2 : Nat) ∧ u = .slice (some ⟨g, 0, none⟩) k cap ∧ Has wr w.heap.size (pt s r k).1 6 ∧ Hid (Nu wr (w.heap.size + 1) (.slice (some ⟨g, 0, none⟩) k cap) k (ordL s r k)) ∧ Hid (Kept w wr))
  case atStart => exact ⟨0, _, _, rfl, by omega, rfl, rfl, rfl, P0, N1, HB1⟩
  case round =>
    clear P0 N1 HB1
    obtain ⟨k, g, cap, rfl, hk, rfl, rfl, rfl, GH, GN, GB⟩ := hrel
    by_cases hlt : k < n
    · have hki : (k : Int) < (n : Int) := by omega
      obtain ⟨p1, p2⟩ := PT.out k (by omega)
      obtain ⟨p3, p4⟩ := PT.out (k + 1) (by omega)
      have P := CO.out k hlt
      have br := BR.out k (by omega)
      have ba := BA.out k (by omega)
      have ES : Hid ((pt s r (k + 1)).1 = less1 (pt s r k).1 (colAt s r k)) := Lib.hid rfl
      have ER : Hid ((pt s r (k + 1)).2 = (pt s r k).2 - bef (pt s r k).1 (colAt s r k)) := Lib.hid rfl
      have EL := Lib.hid (ordL_succ s r k)
      have P1 := Lib.hid p1
      have l6 := p1.len
      have l7 := p3.len
      have lo := P.lo
      have hi6 := P.hi
      have lw := P.low
      have hg := P.high
      have rg : -1000 ≤ (pt s r k).1.getD (colAt s r k) 0 ∧ (pt s r k).1.getD (colAt s r k) 0 ≤ 1000 := by
        have := P.pos
        have := p1.each (colAt s r k) hi6
        omega
      have BL := Lib.hid (fun a b hab => bef_le (pt s r k).1 (a := a) (b := b) hab)
      have BO := Lib.hid (fun c hc => p1.bef_le c hc)
      have DK := Lib.hid (show n - (k + 1) < n - k by omega)
      have HK := Lib.hid (show k + 1 ≤ n from hlt)
      have n18 : n - k ≤ 18 := by omega
      clear P p1 p2 p3 p4
      generalize hR1 : pt s r (k + 1) = R1 at *
      have HR1 := Lib.hid hR1
      clear hR1
      generalize pt s r k = R0 at *
      generalize colAt s r k = c at *
      generalize n - k = m at *
      go_wp2_with fail
      go_loopg [6] (c - 1) (fun gk cc wr => ∃ l : Nat, gk = c - l ∧ 1 ≤ l ∧ l ≤ c ∧ cc = .int .i64 l ∧ Has wr w.heap.size R0.1 6 ∧ Hid (Nu wr (w.heap.size + 1) (.slice (some ⟨g, 0, none⟩) k cap) k (ordL s r k)) ∧ Hid (Kept w wr))
      case atStart => exact ⟨1, rfl, by omega, lo, rfl, GH, GN, GB⟩
      case round =>
        clear GH GN GB
        obtain ⟨l, rfl, hl1, hlc, rfl, KH, KN, KB⟩ := hrel
        obtain ⟨l2, hl2⟩ : ∃ l2 : Nat, l2 = l + 1 := ⟨_, rfl⟩
        have wl : IntKind.i64.wrap ((l : Int) + 1) = (l2 : Int) := by rw [hl2, IntWalk.i64_in _ (by omega)]; rfl
        have lr : (l : Int) ≤ 5 := by omega
        have WL2 := Lib.hid (show (l : Int) + 1 = (l2 : Int) by rw [hl2]; rfl)
        have WL := Lib.hid wl
        clear wl
        have HL2 := Lib.hid hl2
        have bl2 := BO.out l2 (by omega)
        have K1 := Lib.hid (fun W => ordersBefore_any R0.1 m l2 W P1.out n18 (by omega) (by omega))
        by_cases hcl : l < c
        · have hle : bef R0.1 l2 ≤ R0.2 := Nat.le_trans (BL.out l2 c (by omega)) lw
          have dle : decide (((bef R0.1 l2 : Nat) : Int) ≤ (R0.2 : Int)) = true := decide_eq_true (by omega)
          have dln : decide (bef R0.1 l2 ≤ R0.2) = true := decide_eq_true hle
          have DL := Lib.hid (show c - (l + 1) < c - l by omega)
          have HL := Lib.hid (show l + 1 ≤ c from hcl)
          clear lw hg hcl hl2
          go_wp2_with (refine load_has rfl 104 _ rfl _ rfl ?_ 6 ?_ _ Try.underlying104 rfl ?_ ?_; rotate_left; (· (repeat (first | (with_reducible assumption) | ((with_reducible refine Has.box _ _ ?_ ?_) <;> (first | assumption | decide)) | (with_reducible refine Has.alloc ?_ _) | ((with_reducible refine Has.putOther ?_ _ _ ?_); rotate_left; omega; skip) | ((with_reducible refine Has.below ?_ ?_); rotate_left; assumption)))); (· kernel_rfl))
          refine (show Calls _ _ #[_, .int .i64 ((l : Int) + 1)] _ _ by rw [WL2.out]; exact (K1.out _)).mono ?_
          rintro e w3 ⟨rfl, b3⟩
          have KH3 := KH.below b3
          have KN3 := Lib.hid (KN.out.below b3)
          have KB3 := Lib.hid (KB.out.call b3)
          clear KH KN KB b3
          generalize bef R0.1 l2 = z at *
          go_wp2_with fail
          go_roundg (c - (l + 1))
          case rel => exact ⟨l + 1, rfl, by omega, HL.out, by go_num, KH3, KN3, KB3⟩
          case measure => exact DL.out
        · obtain rfl : l = c := by omega
          have hlt2 : ¬ bef R0.1 l2 ≤ R0.2 := by rw [hl2]; omega
          have dle : decide (((bef R0.1 l2 : Nat) : Int) ≤ (R0.2 : Int)) = false := decide_eq_false (by omega)
          have dln : decide (bef R0.1 l2 ≤ R0.2) = false := decide_eq_false hlt2
          have K2 := Lib.hid (fun W => ordersBefore_any R0.1 m l W P1.out n18 (by omega) (by omega))
          clear hg hcl hl2 hlt2
          go_wp2_with (refine load_has rfl 104 _ rfl _ rfl ?_ 6 ?_ _ Try.underlying104 rfl ?_ ?_; rotate_left; (· (repeat (first | (with_reducible assumption) | ((with_reducible refine Has.box _ _ ?_ ?_) <;> (first | assumption | decide)) | (with_reducible refine Has.alloc ?_ _) | ((with_reducible refine Has.putOther ?_ _ _ ?_); rotate_left; omega; skip) | ((with_reducible refine Has.below ?_ ?_); rotate_left; assumption)))); (· kernel_rfl))
          refine (show Calls _ _ #[_, .int .i64 ((l : Int) + 1)] _ _ by rw [WL2.out]; exact (K1.out _)).mono ?_
          rintro e w3 ⟨rfl, b3⟩
          have KH3 := KH.below b3
          have KN3 := Lib.hid (KN.out.below b3)
          have KB3 := Lib.hid (KB.out.call b3)
          clear KH KN KB b3
          generalize bef R0.1 l2 = z at *
          go_wp2_with (refine load_has rfl 104 _ rfl _ rfl ?_ 6 ?_ _ Try.underlying104 rfl ?_ ?_; rotate_left; (· (repeat (first | (with_reducible assumption) | ((with_reducible refine Has.box _ _ ?_ ?_) <;> (first | assumption | decide)) | (with_reducible refine Has.alloc ?_ _) | ((with_reducible refine Has.putOther ?_ _ _ ?_); rotate_left; omega; skip) | ((with_reducible refine Has.below ?_ ?_); rotate_left; assumption)))); (· kernel_rfl))
          refine (K2.out _).mono ?_
          rintro e w4 ⟨rfl, b4⟩
          have KH4 := KH3.below b4
          have KN4 := Lib.hid (KN3.out.below b4)
          have KB4 := Lib.hid (KB3.out.call b4)
          clear KH3 KN3 KB3 b4
          have bl := BO.out l (by omega)
          generalize hq : bef R0.1 l = q at *
          have wq : IntKind.i64.wrap ((R0.2 : Int) - (q : Int)) = ((R0.2 - q : Nat) : Int) := by rw [IntWalk.i64_in _ (by omega)]; omega
          have ER2 := Lib.hid (show R1.2 = R0.2 - q from ER.out)
          have WQ := Lib.hid (show ((R0.2 - q : Nat) : Int) = (R0.2 : Int) - (q : Int) by omega)
          clear hq
          go_wp2_with (refine load_has rfl 104 _ rfl _ rfl ?_ 6 ?_ _ Try.underlying104 rfl ?_ ?_; rotate_left; (· (repeat (first | (with_reducible assumption) | ((with_reducible refine Has.box _ _ ?_ ?_) <;> (first | assumption | decide)) | (with_reducible refine Has.alloc ?_ _) | ((with_reducible refine Has.putOther ?_ _ _ ?_); rotate_left; omega; skip) | ((with_reducible refine Has.below ?_ ?_); rotate_left; assumption)))); (· kernel_rfl))
          refine (without_any R0.1 l _ l6 hi6 rg).mono ?_
          rintro e w5 ⟨rfl, b5⟩
          rw [← ES.out, row_ints]
          have KH5 := (KH4.below b5).putAll R1.1 l7
          have KN5 := (KN4.out.below b5).asideV w.heap.size 0 (ints R1.1) (fun z hz => by have := ((KN4.out.below b5).own z hz).1; omega)
          have KB5 := (KB4.out.call b5).puts (b := w.heap.size) (Nat.le_refl _) 0 (ints R1.1)
          have KH4' := KH4.below b5
          clear KH4 KN4 KB4 b5 rg
          go_upto_region 9 with (refine store_at rfl 104 _ _ rfl _ _ rfl rfl ?_ 6 ?_ ?_ ?_ ?_; rotate_left; (· (repeat (first | (with_reducible assumption) | ((with_reducible refine Has.box _ _ ?_ ?_) <;> (first | assumption | decide)) | (with_reducible refine Has.alloc ?_ _) | ((with_reducible refine Has.putOther ?_ _ _ ?_); rotate_left; omega; skip) | ((with_reducible refine Has.below ?_ ?_); rotate_left; assumption)))); (· (first | assumption | rfl)); (· kernel_rfl))
          clear KH4'
          have KH6 := KH5.alloc (.cells #[.int .i64 (l : Int)] 3)
          have KN6 := KN5.alloc (.cells #[.int .i64 (l : Int)] 3)
          have KB6 := KB5.alloc (.cells #[.int .i64 (l : Int)] 3)
          have cnew := cell_one_new (w5.setCells w.heap.size 0 (ints R1.1)) (.int .i64 (l : Int)) 3
          generalize w5.setCells w.heap.size 0 (ints R1.1) = W5 at *
          have hbs := KB6.size
          have hrow := KN6
          unfold Nu at hrow
          have hg5 := (KN5.own g rfl).2
          have hk18 : k ≤ 18 := by omega
          clear KH5 KB5
          go_upto_region 10 with (at_builtin; refine wpList_append_own _ rfl _ _ 98 rfl (w.heap.size + 1) 3 i0 (.int .i64 0) 1 8 Try.underlying98 hi hz0 hz1 hz2 rfl (by decide) _ k (ints (ordL s r k)) rfl hrow ⟨W5.heap.size, 0, none⟩ 1 1 [.int .i64 (l : Int)] rfl rfl cnew (fun x hx => by simp at hx; subst hx; rfl) (by unfold maxLen; omega) (by omega) (by have := KH6.lt; omega) ?_; intro v' w6 hown' hgrow hnil)
          have NN : Nu w6 (w.heap.size + 1) v' (k + 1) (ordL s r (k + 1)) := by
            rw [EL.out]; unfold Nu; rw [ints_app]; exact hown'
          have KH7 := Lib.hid (KH6.beside hgrow (fun e => by have e := Option.some.inj (show some w.heap.size = some g from e); have := (KN6.own g rfl).1; omega))
          have KB7 := Lib.hid (show Kept w w6 from KB6.grown hgrow (by have := KH6.lt; omega) (fun z hz => by have hz := Option.some.inj (show some g = some z from hz); have := (KN6.own g rfl).1; omega))
          obtain ⟨g2, cap2, he, _, _⟩ := NN.form (by omega)
          subst he
          have NN := Lib.hid NN
          clear hown' hgrow hnil hrow KH6 KN6 KB6 cnew KN5
          go_wp2_with fail
          go_roundg (n - (k + 1))
          case rel => exact ⟨k + 1, g2, cap2, rfl, HK.out, by go_num, by rw [HR1.out, ER2.out], rfl, by rw [HR1.out]; exact KH7.out, NN, KB7⟩
          case measure => exact DK.out
    · obtain rfl : k = n := by omega
      go_wp2_with fail
      go_ret
      exact ⟨g, cap, rfl, World.ownsRow.mono GN.out (by omega), GB.out⟩
end Go.Proofs.Ytemiljokdedidac.base
