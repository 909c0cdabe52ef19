/-
  The row of the pours by a rule, on the program's side, walked.
-/
import Derived.Test.YtglhinihhlmgeacMvdIZ
import Derived.Test.YtglhinihhlmgeacPours
import Derived.Test.YtglhinihhlmgeacByS
import Derived.Test.YtglhinihhlmgeacRwZ
namespace Go.Proofs.Ytglhinihhlmgeac.base
open Go.ChangeShapes Go.WideShapes Go.ChangeAt Go.RowKit
set_option linter.unusedVariables false
set_option linter.unusedSimpArgs false

set_option maxHeartbeats 1600000 in
set_option maxRecDepth 100000 in
theorem pours_any (ns ds : List Int) (x : Int) (w : World) (h24 : ns.length = 24) (h6 : ds.length = 6) (hok : byOk ns ds x = true) :
    Calls Try.prog 34 #[.agg (pgA ds x).toArray, row ns] w fun e w' => ∃ v : Value, e = .returned v ∧ Prs w' w.heap.size v (pN (byP ns ds x) 36) (pF (byP ns ds x) 36) ∧ Kept w w' := by
  have hfit : fitA ns ds = true := (Bool.and_eq_true_iff.1 hok).1
  obtain ⟨i0, hi, hz0, hz1, hz2⟩ := info_parts infoPair
  obtain ⟨P, hPP⟩ : ∃ P, byP ns ds x = P := ⟨_, rfl⟩
  have hP := Lib.hid (show ∀ p q, P p q = decide (0 < mvN ns ds x p q) from fun p q => by rw [← hPP]; rfl)
  have HM4 := Lib.hid (show ∀ p q, p < 6 → mvN ns ds x p q ≤ 4 from fun p q hp => by
    have F := tubeFacts (tub_len ns p h24 hp) (vR_tub (fit_of hfit).1 p hp)
    have h1 := mvN_le ns ds x p q
    have h2 := F.topN
    have h3 := F.lay4
    omega)
  rw [hPP]
  clear hPP
  have HB := Lib.hid ((((kept_refl w).alloc (.cells (pgA ds x).toArray 58)).alloc (.cells (ints ns).toArray 27)).alloc (.cells #[] 44))
  have G := ((Bk.box w (pgA ds x) 58).alloc (.cells (ints ns).toArray 27)).alloc (.cells #[] 44)
  have H := ((Has.box (w.alloc (.cells (pgA ds x).toArray 58)) 27 h24 (by omega)).at (size1 _ _)).alloc (.cells #[] 44)
  have P0 := Prs.none ((w.alloc (.cells (pgA ds x).toArray 58)).alloc (.cells (ints ns).toArray 27)) (w.heap.size + 1 + 1) (by simp)
  rw [size1, size1] at P0
  have P1 : Hid (Prs (((w.alloc (.cells (pgA ds x).toArray 58)).alloc (.cells (ints ns).toArray 27)).alloc (.cells #[] 44)) (w.heap.size + 1 + 1) (.slice (some ⟨w.heap.size + 1 + 1, 0, none⟩) 0 0) (pN P (0 * 6)) (pF P (0 * 6))) := Lib.hid (by rw [Nat.zero_mul, (p0 P).1, (p0 P).2]; exact P0)
  clear P0
  have LG := Lib.hid (pgA_len ds x h6)
  rw [row_ints]
  go_enter Try.func34, Try.ntmps34
  go_wp2_with fail
  have H24 := Lib.hid h24
  have H6 := Lib.hid h6
  have HO := Lib.hid hok
  clear h24 h6 hfit hok
  generalize (((w.alloc (.cells (pgA ds x).toArray 58)).alloc (.cells (ints ns).toArray 27)).alloc (.cells #[] 44)) = W at *
  have MV := Lib.hid (fun (p q : Nat) W => moved_any ns ds x (p : Int) (q : Int) W H24.out H6.out HO.out)
  go_loopg [5, 9] 6 (fun gk v i wr => ∃ p : Nat, gk = 6 - p ∧ p ≤ 6 ∧ i = .int .i64 p ∧ Bk wr w.heap.size (pgA ds x) 58 ∧ Has wr (w.heap.size + 1) ns 24 ∧ Hid (Prs wr (w.heap.size + 1 + 1) v (pN P (p * 6)) (pF P (p * 6))) ∧ Hid (Kept w wr))
  case atStart => exact ⟨0, rfl, by omega, rfl, G, H, P1, HB⟩
  case round =>
    obtain ⟨p, rfl, hp, rfl, GG, GH, GP, GB⟩ := hrel
    by_cases hp6 : p < 6
    · have hpi : (p : Int) < 6 := by omega
      go_wp2_with fail
      go_loopg [5, 12] 6 (fun gk v j wr => ∃ q : Nat, gk = 6 - q ∧ q ≤ 6 ∧ j = .int .i64 q ∧ Bk wr w.heap.size (pgA ds x) 58 ∧ Has wr (w.heap.size + 1) ns 24 ∧ Hid (Prs wr (w.heap.size + 1 + 1) v (pN P (p * 6 + q)) (pF P (p * 6 + q))) ∧ Hid (Kept w wr))
      case atStart => exact ⟨0, rfl, by omega, rfl, GG, GH, GP, GB⟩
      case round =>
        obtain ⟨q, rfl, hq, rfl, KG, KH, KP, KB⟩ := hrel
        by_cases hq6 : q < 6
        · have hqi : (q : Int) < 6 := by omega
          go_wp2_with (first | (refine load_bk rfl 58 _ rfl _ rfl _ _ (by assumption) _ Try.underlying58 rfl ?_ ?_; (· rw [LG.out]; kernel_rfl)) | (refine load_has rfl 27 _ rfl _ rfl ?_ 24 ?_ _ Try.underlying27 rfl ?_ ?_; rotate_left; (· (repeat (first | (with_reducible assumption) | ((with_reducible refine Has.box _ _ ?_ ?_) <;> (first | assumption | decide)) | (with_reducible refine Has.alloc ?_ _) | ((with_reducible refine Has.putOther ?_ _ _ ?_); rotate_left; omega; skip) | ((with_reducible refine Has.below ?_ ?_); rotate_left; assumption)))); (· kernel_rfl)))
          refine (MV.out p q _).mono ?_
          rintro e w1 ⟨rfl, b1⟩
          rw [mvI_nat hp6 hq6]
          replace KG := KG.below b1
          replace KH := KH.below b1
          have KP2 := Lib.hid (KP.out.below b1)
          have KB2 := Lib.hid (KB.out.call b1)
          clear KP KB b1
          have hN := pN_le P (p * 6 + q)
          have hbs := KB2.out.size
          have hlt := KH.lt
          have EP := Lib.hid (show P p q = decide (0 < mvN ns ds x p q) from (hP.out p q))
          have hM4 := Lib.hid (HM4.out p q hp6)
          obtain ⟨m, hm⟩ : ∃ m : Nat, mvN ns ds x p q = m := ⟨_, rfl⟩
          rw [hm] at EP hM4 ⊢
          clear hm
          have hm4 := hM4.out
          by_cases hc : 0 < m
          · have g1 : decide ((0 : Int) < (m : Int)) = true := by simp; omega
            have g2 : decide (0 < m) = true := by simp; omega
            have PT := Lib.hid (show P p q = true by rw [EP.out, g2])
            have Y := Lib.hid (pF_yes P p q hq6 PT.out)
            have Y2 := Lib.hid (pN_yes P p q hq6 PT.out)
            clear hc
            go_wp2_with (first | (at_builtin; refine wpList_append_own _ rfl _ _ 36 rfl (w.heap.size + 1 + 1) 44 i0 (.agg #[.int .i64 0, .int .i64 0]) 2 16 Try.underlying36 hi hz0 hz1 hz2 rfl (by decide) _ (pN P (p * 6 + q)) (ints (pF P (p * 6 + q))) rfl (World.ownsRow.alloc KP2.out _) ⟨w1.heap.size, 0, none⟩ 1 1 [.int .i64 (p : Int), .int .i64 (q : Int)] rfl rfl (cell_two_new _ _ _ _) (fun x hx => by simp at hx; rcases hx with rfl | rfl <;> rfl) (by unfold maxLen; omega) (by omega) (by simp; omega) ?_; intro v' w3 hown' hgrow3 hnil3))
            obtain ⟨A2, A3⟩ := prs_app KP2.out KB2.out (by omega) hown' hgrow3
            have AA := (KG.alloc (.cells #[.int .i64 (p : Int), .int .i64 (q : Int)] 44)).grown hgrow3 (fun e => by have := Prs.own KP2.out w.heap.size e.symm; omega)
            have AH := (KH.alloc (.cells #[.int .i64 (p : Int), .int .i64 (q : Int)] 44)).grown hgrow3 (fun k hk => by have := Prs.own KP2.out k hk; omega)
            rw [← Y.out, ← Y2.out] at A2
            have B2 := Lib.hid A2
            have B3 : Hid (Kept w w3) := Lib.hid A3
            clear hown' hgrow3 hnil3 A2 A3
            go_wp2_with fail
            go_roundg (6 - (q + 1))
            case rel => exact ⟨q + 1, rfl, by omega, by go_num, AA, AH, B2, B3⟩
            case measure => omega
          · have g1 : decide ((0 : Int) < (m : Int)) = false := by simp; omega
            have g2 : decide (0 < m) = false := by simp; omega
            have PT := Lib.hid (show P p q = false by rw [EP.out, g2])
            have Y := Lib.hid (pF_no P p q hq6 PT.out)
            have Y2 := Lib.hid (pN_no P p q hq6 PT.out)
            have B2 := Lib.hid (show Prs w1 (w.heap.size + 1 + 1) u5 (pN P (p * 6 + (q + 1))) (pF P (p * 6 + (q + 1))) by rw [Y.out, Y2.out]; exact KP2.out)
            obtain rfl : m = 0 := by omega
            clear hc
            go_wp2_with fail
            go_roundg (6 - (q + 1))
            case rel => exact ⟨q + 1, rfl, by omega, by go_num, KG, KH, B2, KB2⟩
            case measure => omega
        · obtain rfl : q = 6 := by omega
          have E : p * 6 + 6 = (p + 1) * 6 := by omega
          rw [E] at KP
          clear E
          go_wp2_with fail
          go_roundg (6 - (p + 1))
          case rel => exact ⟨p + 1, rfl, by omega, by go_num, KG, KH, KP, KB⟩
          case measure => omega
    · obtain rfl : p = 6 := by omega
      go_wp2_with fail
      go_ret
      exact ⟨_, rfl, GP.out.mono (by omega), GB.out⟩

set_option maxHeartbeats 800000 in
theorem implPoursBy (ns ds : List Int) (x : Int) (w : World) (h24 : ns.length = 24) (h6 : ds.length = 6) :
    Calls Try.prog 12 #[row ns, row ds, .int .i64 x] w (ByPost ns ds x w) := by
  have HB := Lib.hid (((kept_refl w).alloc (.cells (ints ns).toArray 27)).alloc (.cells (ints ds).toArray 28))
  have H := (Has.box w 27 h24 (by omega)).alloc (.cells (ints ds).toArray 28)
  have D := (Has.box (w.alloc (.cells (ints ns).toArray 27)) 28 h6 (by omega)).at (size1 _ _)
  have lg := pgR_len ns ds x h6
  rw [row_ints, row_ints]
  go_enter Try.func12, Try.ntmps12
  go_wp2_with (first | (refine load_has rfl 27 _ rfl _ rfl ?_ 24 ?_ _ Try.underlying27 rfl ?_ ?_; rotate_left; (· (repeat (first | (with_reducible assumption) | ((with_reducible refine Has.box _ _ ?_ ?_) <;> (first | assumption | decide)) | (with_reducible refine Has.alloc ?_ _) | ((with_reducible refine Has.putOther ?_ _ _ ?_); rotate_left; omega; skip) | ((with_reducible refine Has.below ?_ ?_); rotate_left; assumption)))); (· kernel_rfl)) | (refine load_has rfl 28 _ rfl _ rfl ?_ 6 ?_ _ Try.underlying28 rfl ?_ ?_; rotate_left; (· (repeat (first | (with_reducible assumption) | ((with_reducible refine Has.box _ _ ?_ ?_) <;> (first | assumption | decide)) | (with_reducible refine Has.alloc ?_ _) | ((with_reducible refine Has.putOther ?_ _ _ ?_); rotate_left; omega; skip) | ((with_reducible refine Has.below ?_ ?_); rotate_left; assumption)))); (· kernel_rfl)))
  refine (pouringBy_any ns ds x _ h24 h6).mono ?_
  rintro e w1 ⟨rfl, b1⟩
  have O1 : ∀ v ∈ pgR ns ds x, v.oneCell' = true := by
    unfold pgR; split
    · exact pg_one ds _ rfl
    · exact pg_one _ _ rfl
  have H1 := (H.below b1).alloc (.cells (pgR ns ds x).toArray 58)
  have G1 := Bk.box w1 (pgR ns ds x) 58
  have HB1 := Lib.hid ((HB.out.call b1).alloc (.cells (pgR ns ds x).toArray 58))
  clear H D HB b1
  generalize hg : pgR ns ds x = g at *
  by_cases hok : byOk ns ds x = true
  · obtain rfl : g = pgA ds x := by rw [← hg]; unfold pgR; rw [if_pos hok]
    clear hg
    have O := Lib.hid hok
    have E1 := Lib.hid (show byNA ns ds x = pN (byP ns ds x) 36 by unfold byNA; rw [if_pos O.out])
    have E2 := Lib.hid (show byFA ns ds x = pF (byP ns ds x) 36 by unfold byFA; rw [if_pos O.out])
    rw [hok]
    clear hok
    go_wp2_with (first | (refine store_newbk rfl 58 _ _ rfl _ _ _ rfl _ rfl (pgA ds x) rfl rfl ?_ O1 ?_ ?_; (· exact lg); (· kernel_rfl)) | (refine load_bk rfl 58 _ rfl _ rfl _ _ G1 _ Try.underlying58 rfl ?_ ?_; (· rw [lg]; kernel_rfl)) | (refine load_has rfl 27 _ rfl _ rfl ?_ 24 ?_ _ Try.underlying27 rfl ?_ ?_; rotate_left; (· (repeat (first | (with_reducible assumption) | ((with_reducible refine Has.box _ _ ?_ ?_) <;> (first | assumption | decide)) | (with_reducible refine Has.alloc ?_ _) | ((with_reducible refine Has.putOther ?_ _ _ ?_); rotate_left; omega; skip) | ((with_reducible refine Has.below ?_ ?_); rotate_left; assumption)))); (· kernel_rfl)))
    refine (pours_any ns ds x _ h24 h6 O.out).mono ?_
    rintro e w2 ⟨v, rfl, q2, b2⟩
    have Q2 := Lib.hid (q2.rw.mono HB1.out.size)
    have HB2 := Lib.hid (HB1.out.call b2)
    clear b2 q2 H1 G1 HB1 O1 lg
    go_wp2_with fail
    go_ret2
    exact ⟨v, by rw [O.out]; rfl, by rw [E1.out, E2.out]; exact Q2.out, HB2.out⟩
  · have hf : byOk ns ds x = false := by simpa using hok
    obtain rfl : g = pgZ := by rw [← hg]; unfold pgR; rw [hf]; rfl
    clear hg
    have O := Lib.hid hf
    have E1 := Lib.hid (show byNA ns ds x = 0 by unfold byNA; rw [O.out]; rfl)
    have E2 := Lib.hid (show byFA ns ds x = [] by unfold byFA; rw [O.out]; rfl)
    rw [hf]
    clear hok hf
    go_wp2_with (first | (refine store_newbk rfl 58 _ _ rfl _ _ _ rfl _ rfl pgZ rfl rfl ?_ O1 ?_ ?_; (· exact lg); (· kernel_rfl)))
    go_ret2
    exact ⟨_, by rw [O.out]; rfl, by rw [E1.out, E2.out]; exact ⟨rfl, .inl ⟨rfl, _, _, rfl⟩⟩, HB1.out.alloc _⟩
end Go.Proofs.Ytglhinihhlmgeac.base
