/-
  The row of the pours by a rule, on the model's side, walked.
-/
import Derived.Test.YtglhinihhlmgeacMovSZ
import Derived.Test.YtglhinihhlmgeacPours
import Derived.Test.YtglhinihhlmgeacRwZ
namespace Go.Proofs.Ytglhinihhlmgeac.base
open Go.ChangeShapes Go.WideShapes Go.ChangeAt Go.RowKit
set_option linter.unusedVariables false
set_option linter.unusedSimpArgs false

set_option maxHeartbeats 1600000 in
set_option maxRecDepth 100000 in
theorem l8Pours_any (ns ds : List Int) (x : Int) (w : World) (h24 : ns.length = 24) (h6 : ds.length = 6) (hfit : fitA ns ds = true) (hrule : ruleV x = true) :
    Calls Try.prog 22 #[row ns, row ds, .int .i64 x] w fun e w' => ∃ v : Value, e = .returned v ∧ Prs w' w.heap.size v (pN (byP ns ds x) 36) (pF (byP ns ds x) 36) ∧ Kept w w' := by
  obtain ⟨i0, hi, hz0, hz1, hz2⟩ := info_parts infoPair
  obtain ⟨P, hPP⟩ : ∃ P, byP ns ds x = P := ⟨_, rfl⟩
  have hP := Lib.hid (show ∀ p q, P p q = decide (0 < mvN ns ds x p q) from fun p q => by rw [← hPP]; rfl)
  have HM4 := Lib.hid (show ∀ p q, p < 6 → mvN ns ds x p q ≤ 4 from fun p q hp => by
    have F := tubeFacts (tub_len ns p h24 hp) (vR_tub (fit_of hfit).1 p hp)
    have h1 := mvN_le ns ds x p q
    have h2 := F.topN
    have h3 := F.lay4
    omega)
  rw [hPP]
  clear hPP
  have HB := Lib.hid ((((kept_refl w).alloc (.cells (ints ns).toArray 27)).alloc (.cells (ints ds).toArray 28)).alloc (.cells #[] 44))
  have H := ((Has.box w 27 h24 (by omega)).alloc (.cells (ints ds).toArray 28)).alloc (.cells #[] 44)
  have D := ((Has.box (w.alloc (.cells (ints ns).toArray 27)) 28 h6 (by omega)).at (size1 _ _)).alloc (.cells #[] 44)
  have P0 := Prs.none ((w.alloc (.cells (ints ns).toArray 27)).alloc (.cells (ints ds).toArray 28)) (w.heap.size + 1 + 1) (by simp)
  rw [size1, size1] at P0
  have P1 : Hid (Prs (((w.alloc (.cells (ints ns).toArray 27)).alloc (.cells (ints ds).toArray 28)).alloc (.cells #[] 44)) (w.heap.size + 1 + 1) (.slice (some ⟨w.heap.size + 1 + 1, 0, none⟩) 0 0) (pN P (0 * 6)) (pF P (0 * 6))) := Lib.hid (by rw [Nat.zero_mul, (p0 P).1, (p0 P).2]; exact P0)
  clear P0
  rw [row_ints, row_ints]
  go_enter Try.func22, Try.ntmps22
  go_wp2_with fail
  have H24 := Lib.hid h24
  have H6 := Lib.hid h6
  have HF := Lib.hid hfit
  have HR := Lib.hid hrule
  clear h24 h6 hfit hrule
  generalize (((w.alloc (.cells (ints ns).toArray 27)).alloc (.cells (ints ds).toArray 28)).alloc (.cells #[] 44)) = W at *
  go_loopg [7, 8, 9] 6 (fun gk v i j wr => ∃ p : Nat, gk = 6 - p ∧ p ≤ 6 ∧ i = .int .i64 p ∧ Has wr w.heap.size ns 24 ∧ Has wr (w.heap.size + 1) ds 6 ∧ Hid (Prs wr (w.heap.size + 1 + 1) v (pN P (p * 6)) (pF P (p * 6))) ∧ Hid (Kept w wr))
  case atStart => exact ⟨0, rfl, by omega, rfl, H, D, P1, HB⟩
  case round =>
    obtain ⟨p, rfl, hp, rfl, GH, GD, GP, GB⟩ := hrel
    by_cases hp6 : p < 6
    · have hpi : (p : Int) < 6 := by omega
      go_wp2_with fail
      go_loopg [7, 9] 6 (fun gk v j wr => ∃ q : Nat, gk = 6 - q ∧ q ≤ 6 ∧ j = .int .i64 q ∧ Has wr w.heap.size ns 24 ∧ Has wr (w.heap.size + 1) ds 6 ∧ Hid (Prs wr (w.heap.size + 1 + 1) v (pN P (p * 6 + q)) (pF P (p * 6 + q))) ∧ Hid (Kept w wr))
      case atStart => exact ⟨0, rfl, by omega, rfl, GH, GD, GP, GB⟩
      case round =>
        obtain ⟨q, rfl, hq, rfl, KH, KD, KP, KB⟩ := hrel
        by_cases hq6 : q < 6
        · have hqi : (q : Int) < 6 := by omega
          go_wp2_with (first | (refine load_has rfl 27 _ rfl _ rfl ?_ 24 ?_ _ Try.underlying27 rfl ?_ ?_; rotate_left; (· (repeat (first | (with_reducible assumption) | ((with_reducible refine Has.box _ _ ?_ ?_) <;> (first | assumption | decide)) | (with_reducible refine Has.alloc ?_ _) | ((with_reducible refine Has.putOther ?_ _ _ ?_); rotate_left; omega; skip) | ((with_reducible refine Has.below ?_ ?_); rotate_left; assumption)))); (· kernel_rfl)) | (refine load_has rfl 28 _ rfl _ rfl ?_ 6 ?_ _ Try.underlying28 rfl ?_ ?_; rotate_left; (· (repeat (first | (with_reducible assumption) | ((with_reducible refine Has.box _ _ ?_ ?_) <;> (first | assumption | decide)) | (with_reducible refine Has.alloc ?_ _) | ((with_reducible refine Has.putOther ?_ _ _ ?_); rotate_left; omega; skip) | ((with_reducible refine Has.below ?_ ?_); rotate_left; assumption)))); (· kernel_rfl)))
          refine (l8Moves_any ns ds x p q _ H24.out H6.out HF.out HR.out hp6 hq6).mono ?_
          rintro e w1 ⟨rfl, b1⟩
          replace KH := KH.below b1
          replace KD := KD.below b1
          have KP2 := Lib.hid (KP.out.below b1)
          have KB2 := Lib.hid (KB.out.call b1)
          clear KP KB b1
          have hN := pN_le P (p * 6 + q)
          have hbs := KB2.out.size
          have hlt := KD.lt
          have EP := Lib.hid (show P p q = decide (0 < mvN ns ds x p q) from (hP.out p q))
          have hM4 := Lib.hid (HM4.out p q hp6)
          obtain ⟨m, hm⟩ : ∃ m : Nat, mvN ns ds x p q = m := ⟨_, rfl⟩
          rw [hm] at EP hM4 ⊢
          clear hm
          have hm4 := hM4.out
          by_cases hc : 0 < m
          · have g1 : decide ((0 : Int) < (m : Int)) = true := by simp; omega
            have g2 : decide (0 < m) = true := by simp; omega
            have PT := Lib.hid (show P p q = true by rw [EP.out, g2])
            have Y := Lib.hid (pF_yes P p q hq6 PT.out)
            have Y2 := Lib.hid (pN_yes P p q hq6 PT.out)
            clear hc
            go_wp2_with (first | (at_builtin; refine wpList_append_own _ rfl _ _ 36 rfl (w.heap.size + 1 + 1) 44 i0 (.agg #[.int .i64 0, .int .i64 0]) 2 16 Try.underlying36 hi hz0 hz1 hz2 rfl (by decide) _ (pN P (p * 6 + q)) (ints (pF P (p * 6 + q))) rfl (World.ownsRow.alloc KP2.out _) ⟨w1.heap.size, 0, none⟩ 1 1 [.int .i64 (p : Int), .int .i64 (q : Int)] rfl rfl (cell_two_new _ _ _ _) (fun x hx => by simp at hx; rcases hx with rfl | rfl <;> rfl) (by unfold maxLen; omega) (by omega) (by simp; omega) ?_; intro v' w3 hown' hgrow3 hnil3))
            obtain ⟨A2, A3⟩ := prs_app KP2.out KB2.out (by omega) hown' hgrow3
            have AH := (KH.alloc (.cells #[.int .i64 (p : Int), .int .i64 (q : Int)] 44)).grown hgrow3 (fun k hk => by have := Prs.own KP2.out k hk; omega)
            have AD := (KD.alloc (.cells #[.int .i64 (p : Int), .int .i64 (q : Int)] 44)).grown hgrow3 (fun k hk => by have := Prs.own KP2.out k hk; omega)
            rw [← Y.out, ← Y2.out] at A2
            have B2 := Lib.hid A2
            have B3 : Hid (Kept w w3) := Lib.hid A3
            clear hown' hgrow3 hnil3 A2 A3
            go_wp2_with fail
            go_roundg (6 - (q + 1))
            case rel => exact ⟨q + 1, rfl, by omega, by go_num, AH, AD, B2, B3⟩
            case measure => omega
          · have g1 : decide ((0 : Int) < (m : Int)) = false := by simp; omega
            have g2 : decide (0 < m) = false := by simp; omega
            have PT := Lib.hid (show P p q = false by rw [EP.out, g2])
            have Y := Lib.hid (pF_no P p q hq6 PT.out)
            have Y2 := Lib.hid (pN_no P p q hq6 PT.out)
            have B2 := Lib.hid (show Prs w1 (w.heap.size + 1 + 1) u7 (pN P (p * 6 + (q + 1))) (pF P (p * 6 + (q + 1))) by rw [Y.out, Y2.out]; exact KP2.out)
            obtain rfl : m = 0 := by omega
            clear hc
            go_wp2_with fail
            go_roundg (6 - (q + 1))
            case rel => exact ⟨q + 1, rfl, by omega, by go_num, KH, KD, B2, KB2⟩
            case measure => omega
        · obtain rfl : q = 6 := by omega
          have E : p * 6 + 6 = (p + 1) * 6 := by omega
          rw [E] at KP
          clear E
          go_wp2_with fail
          go_roundg (6 - (p + 1))
          case rel => exact ⟨p + 1, rfl, by omega, by go_num, KH, KD, KP, KB⟩
          case measure => omega
    · obtain rfl : p = 6 := by omega
      go_wp2_with fail
      go_ret
      exact ⟨_, rfl, GP.out.mono (by omega), GB.out⟩

def ByPost (ns ds : List Int) (x : Int) (w : World) (e : Ending) (w' : World) : Prop := ∃ v : Value, e = .returned (.tuple #[v, .bool (byOk ns ds x)]) ∧ Rw w' w.heap.size v (byNA ns ds x) (byFA ns ds x) ∧ Kept w w'
set_option maxHeartbeats 800000 in
theorem specPoursBy (ns ds : List Int) (x : Int) (w : World) (h24 : ns.length = 24) (h6 : ds.length = 6) :
    Calls Try.prog 13 #[row ns, row ds, .int .i64 x] w (ByPost ns ds x w) := by
  have HB := Lib.hid (((kept_refl w).alloc (.cells (ints ns).toArray 27)).alloc (.cells (ints ds).toArray 28))
  have H := (Has.box w 27 h24 (by omega)).alloc (.cells (ints ds).toArray 28)
  have D := (Has.box (w.alloc (.cells (ints ns).toArray 27)) 28 h6 (by omega)).at (size1 _ _)
  rw [row_ints, row_ints]
  go_enter Try.func13, Try.ntmps13
  go_wp2_with (first | (refine load_has rfl 27 _ rfl _ rfl ?_ 24 ?_ _ Try.underlying27 rfl ?_ ?_; rotate_left; (· (repeat (first | (with_reducible assumption) | ((with_reducible refine Has.box _ _ ?_ ?_) <;> (first | assumption | decide)) | (with_reducible refine Has.alloc ?_ _) | ((with_reducible refine Has.putOther ?_ _ _ ?_); rotate_left; omega; skip) | ((with_reducible refine Has.below ?_ ?_); rotate_left; assumption)))); (· kernel_rfl)) | (refine load_has rfl 28 _ rfl _ rfl ?_ 6 ?_ _ Try.underlying28 rfl ?_ ?_; rotate_left; (· (repeat (first | (with_reducible assumption) | ((with_reducible refine Has.box _ _ ?_ ?_) <;> (first | assumption | decide)) | (with_reducible refine Has.alloc ?_ _) | ((with_reducible refine Has.putOther ?_ _ _ ?_); rotate_left; omega; skip) | ((with_reducible refine Has.below ?_ ?_); rotate_left; assumption)))); (· kernel_rfl)))
  refine (l8Fits_any ns ds _ h24 h6).mono ?_
  rintro e w1 ⟨rfl, b1⟩
  have H1 := H.below b1
  have D1 := D.below b1
  have HB1 := Lib.hid (HB.out.call b1)
  clear H D HB b1
  by_cases hf : fitA ns ds = true
  · rw [hf]
    go_wp2_with fail
    refine (l8Rule_any x _).mono ?_
    rintro e w' ⟨rfl, rfl⟩
    by_cases hr : ruleV x = true
    · rw [hr]
      have O := Lib.hid (show byOk ns ds x = true by unfold byOk; rw [hf, hr]; rfl)
      have E1 := Lib.hid (show byNA ns ds x = pN (byP ns ds x) 36 by unfold byNA; rw [if_pos O.out])
      have E2 := Lib.hid (show byFA ns ds x = pF (byP ns ds x) 36 by unfold byFA; rw [if_pos O.out])
      go_wp2_with (first | (refine load_has rfl 27 _ rfl _ rfl ?_ 24 ?_ _ Try.underlying27 rfl ?_ ?_; rotate_left; (· (repeat (first | (with_reducible assumption) | ((with_reducible refine Has.box _ _ ?_ ?_) <;> (first | assumption | decide)) | (with_reducible refine Has.alloc ?_ _) | ((with_reducible refine Has.putOther ?_ _ _ ?_); rotate_left; omega; skip) | ((with_reducible refine Has.below ?_ ?_); rotate_left; assumption)))); (· kernel_rfl)) | (refine load_has rfl 28 _ rfl _ rfl ?_ 6 ?_ _ Try.underlying28 rfl ?_ ?_; rotate_left; (· (repeat (first | (with_reducible assumption) | ((with_reducible refine Has.box _ _ ?_ ?_) <;> (first | assumption | decide)) | (with_reducible refine Has.alloc ?_ _) | ((with_reducible refine Has.putOther ?_ _ _ ?_); rotate_left; omega; skip) | ((with_reducible refine Has.below ?_ ?_); rotate_left; assumption)))); (· kernel_rfl)))
      refine (l8Pours_any ns ds x _ h24 h6 hf hr).mono ?_
      rintro e w2 ⟨v, rfl, q2, b2⟩
      have Q2 := Lib.hid (q2.rw.mono HB1.out.size)
      have HB2 := Lib.hid (HB1.out.call b2)
      clear b2 q2 H1 D1 HB1
      go_wp2_with fail
      go_ret2
      exact ⟨v, by rw [O.out]; rfl, by rw [E1.out, E2.out]; exact Q2.out, HB2.out⟩
    · have hrf : ruleV x = false := by simpa using hr
      have O := Lib.hid (show byOk ns ds x = false by unfold byOk; rw [hrf, Bool.and_false])
      have E1 := Lib.hid (show byNA ns ds x = 0 by unfold byNA; rw [O.out]; rfl)
      have E2 := Lib.hid (show byFA ns ds x = [] by unfold byFA; rw [O.out]; rfl)
      rw [hrf]
      clear hr hrf hf
      go_wp2_with fail
      go_ret2
      exact ⟨_, by rw [O.out]; rfl, by rw [E1.out, E2.out]; exact ⟨rfl, .inl ⟨rfl, _, _, rfl⟩⟩, HB1.out.alloc _⟩
  · have hff : fitA ns ds = false := by simpa using hf
    have O := Lib.hid (show byOk ns ds x = false by unfold byOk; rw [hff]; rfl)
    have E1 := Lib.hid (show byNA ns ds x = 0 by unfold byNA; rw [O.out]; rfl)
    have E2 := Lib.hid (show byFA ns ds x = [] by unfold byFA; rw [O.out]; rfl)
    rw [hff]
    clear hff hf
    go_wp2_with fail
    go_ret2
    exact ⟨_, by rw [O.out]; rfl, by rw [E1.out, E2.out]; exact ⟨rfl, .inl ⟨rfl, _, _, rfl⟩⟩, HB1.out.alloc _⟩
end Go.Proofs.Ytglhinihhlmgeac.base
