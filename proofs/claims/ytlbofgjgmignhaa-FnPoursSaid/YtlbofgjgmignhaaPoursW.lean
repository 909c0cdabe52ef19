/-
  The law of pours: a drawn rack and pour, what both sides answer, and what the law asks of the answers.
-/
import Derived.Test.YtlbofgjgmignhaaDrawP
import Derived.Test.YtlbofgjgmignhaaPairsR
import Derived.Test.YtlbofgjgmignhaaUseI
import Derived.Test.YtlbofgjgmignhaaSortI
import Derived.Test.YtlbofgjgmignhaaSortS
import Derived.Test.YtlbofgjgmignhaaPourI
namespace Go.Proofs.Ytlbofgjgmignhaa.base
open Go.ChangeShapes Go.WideShapes Go.ChangeAt Go.RowKit
open Go.Proofs.Ytlbofgjgmignhaa.cur
set_option linter.unusedVariables false
set_option linter.unusedSimpArgs false

theorem slice_of_prs {w : World} {b : Nat} {v : Value} {n : Nat} {fs : List Int} (h : Prs w b v n fs) : ∃ a cap, v = .slice a n cap := by
  rcases h.2 with ⟨h0, h1⟩ | ⟨g, cap, cur, h0, _⟩
  · exact ⟨_, _, by rw [h1]; exact h0⟩
  · exact ⟨_, _, h0⟩
theorem pourOk_can (ns : List Int) (i j : Int) : pourOk ns i j = canA ns i j := rfl

set_option maxHeartbeats 8000000 in
set_option maxRecDepth 200000 in
theorem poursLaw (a : Option Addr) (len cap : Nat) (zs : List Int) (w : World) (w0 : IsRow .u8 w a len cap zs) :
    Calls Try.prog 3 #[.slice a len cap] w fun e w' => e = .returned (.bool true) ∧ Below w.heap.size w w' := by
  have hml : len ≤ maxLen := by
    rcases w0 with ⟨_, h, _⟩ | ⟨_, _, hlc, hm, _⟩
    · rw [h]; exact Nat.zero_le _
    · exact Nat.le_trans hlc hm
  by_cases hbig : (65536 : Int) < (len : Int)
  · go_enter Try.func3, Try.ntmps3
    go_wp2_with fail
    refine (rBig_any a len cap w hml).mono ?_
    rintro e w' ⟨rfl, rfl⟩
    rw [decide_eq_true hbig]
    go_wp2_with fail
    go_ret
    exact ⟨rfl, Below.refl _ _⟩
  have HD := Lib.hid (drawPour a len cap w (code_of w0 (by omega)))
  have HBG := Lib.hid (rBig_any a len cap w hml)
  rw [decide_eq_false hbig] at HBG
  have HMR : Hid (Try.prog.eqGuardType Try.prog.depth 27 = false) := Lib.hid (by kernel_rfl)
  have HM6 : Hid (Try.prog.eqGuardType Try.prog.depth 40 = false) := Lib.hid (by kernel_rfl)
  clear hbig w0 hml
  go_enter Try.func3, Try.ntmps3
  go_wp2_with fail
  refine HBG.out.mono ?_
  rintro e w' ⟨rfl, rfl⟩
  go_wp2_with fail
  refine HD.out.mono ?_
  rintro e w1 ⟨ns, x, y, rfl, hl, b1⟩
  have H3 := Has.box w1 27 hl (by omega)
  have HB := Lib.hid (((kept_refl w).call b1).alloc (.cells (ints ns).toArray 27))
  clear b1 HD HBG
  have hl6 : (pourR ns x y).length = 24 := pourR_len hl x y
  have hct : (countA ns).length = 6 := countA_len ns
  have hct2 : (countA (pourR ns x y)).length = 6 := countA_len _
  have KP := Lib.hid (fun W => implPour ns x y W hl)
  have SP := Lib.hid (fun W => specPour ns x y W hl)
  have KC := Lib.hid (fun W => implCanPour ns x y W hl)
  have SC := Lib.hid (fun W => specCanPour ns x y W hl)
  have KA := Lib.hid (fun W => implPours ns W hl)
  have SA := Lib.hid (fun W => specPours ns W hl)
  have KR := Lib.hid (fun W => isRack_any ns W hl)
  have KU := Lib.hid (fun W => implUseful ns W hl)
  have SU := Lib.hid (fun W => specUseful ns W hl)
  have KS := Lib.hid (fun W => implSorted ns W hl)
  have SS := Lib.hid (fun W => specSorted ns W hl)
  have KN := Lib.hid (fun W => implCount ns W hl)
  have SN := Lib.hid (fun W => specCount ns W hl)
  have KN2 := Lib.hid (fun W => implCount (pourR ns x y) W hl6)
  have KT2 := Lib.hid (fun W => implTopOf ns x W hl)
  have KL2 := Lib.hid (fun W => implLayersOf (pourR ns x y) x W hl6)
  have KC2 := Lib.hid (fun W => implCanPour (pourR ns x y) y x W hl6)
  have KR2 := Lib.hid (fun W => isRack_any (pourR ns x y) W hl6)
  unfold PoursPost at KA SA
  unfold UsefPost at KU SU
  have E2 : Hid (canA ns x y = true → twoOk ns x y = true) := Lib.hid (fun h => by unfold canA at h; exact (Bool.and_eq_true_iff.1 h).1)
  have E3 : Hid (sortedA ns = true → usefNA ns = 0) := Lib.hid (fun h => sorted_none hl h)
  have E4 : Hid (twoOk ns x y = true → (canA ns x y = true ↔ inL (poursFA ns) x y)) := Lib.hid (fun h => can_listed h)
  have E5 : Hid (∀ p q, inL (usefFA ns) p q → inL (poursFA ns) p q) := Lib.hid (fun p q h => useful_listed ns p q h)
  have PF : Hid (canA ns x y = true → vR (pourR ns x y) = true ∧ countA (pourR ns x y) = countA ns ∧ twoOk (pourR ns x y) y x = true ∧ 1 ≤ pourA ns x y ∧ pourA ns x y ≤ topNA ns x ∧ topOk ns x = true ∧ inR (pourR ns x y) x = true ∧ (¬ pourA ns x y < topNA ns x → (canA (pourR ns x y) y x = true ↔ layersA (pourR ns x y) x = 0))) :=
    Lib.hid (fun h => by have P := pour_facts hl (show pourOk ns x y = true from h); exact ⟨P.valid, P.same, P.two, P.some, P.part, P.top, P.left, P.back⟩)
  have hNA := poursNA_le ns
  have hUN := usefNA_le ns
  rw [pourOk_can] at KP SP
  generalize canA (pourR ns x y) y x = C2 at *
  generalize twoOk (pourR ns x y) y x = T2 at *
  generalize vR (pourR ns x y) = V2 at *
  generalize inR (pourR ns x y) x = IR at *
  generalize layersA (pourR ns x y) x = LA at *
  generalize countA (pourR ns x y) = CT2 at *
  generalize topCA ns x = RC at *
  generalize topNA ns x = RN at *
  generalize topOk ns x = TO at *
  generalize pourR ns x y = R6 at *
  generalize pourA ns x y = PA at *
  generalize canA ns x y = C at *
  generalize twoOk ns x y = T at *
  generalize vR ns = V at *
  generalize poursFA ns = FA at *
  generalize poursNA ns = NA at *
  generalize usefFA ns = UF at *
  generalize usefNA ns = UN at *
  generalize sortedA ns = S at *
  generalize countA ns = CT at *
  go_wp2_with (first | (refine guard_at (isStore 27) ?_ ?_; (· rfl); (refine store_new rfl 27 _ _ rfl _ _ _ rfl _ rfl _ rfl rfl ?_ ?_ ?_; (· (first | assumption | rfl)); (· kernel_rfl))) | (refine guard_at (isLoad 27) ?_ ?_; (· rfl); (refine load_has rfl 27 _ rfl _ rfl ?_ 24 ?_ _ Try.underlying27 rfl ?_ ?_; rotate_left; (· (repeat (first | (with_reducible assumption) | ((with_reducible refine Has.box _ _ ?_ ?_) <;> (first | assumption | decide)) | (with_reducible refine Has.alloc ?_ _) | ((with_reducible refine Has.putOther ?_ _ _ ?_); rotate_left; omega; skip) | ((with_reducible refine Has.below ?_ ?_); rotate_left; assumption)))); (· kernel_rfl))))
  refine (KP.out _).mono ?_
  rintro e w2 ⟨rfl, b2⟩
  replace H3 := (H3.below b2).alloc (.cells (ints R6).toArray 27)
  have H6 := Has.box w2 27 hl6 (by omega)
  replace HB := Lib.hid ((HB.out.call b2).alloc (.cells (ints R6).toArray 27))
  clear b2
  go_wp2_with (first | (refine guard_at (isStore 27) ?_ ?_; (· rfl); (refine store_new rfl 27 _ _ rfl _ _ _ rfl _ rfl _ rfl rfl ?_ ?_ ?_; (· (first | assumption | rfl)); (· kernel_rfl))) | (refine guard_at (isLoad 27) ?_ ?_; (· rfl); (refine load_has rfl 27 _ rfl _ rfl ?_ 24 ?_ _ Try.underlying27 rfl ?_ ?_; rotate_left; (· (repeat (first | (with_reducible assumption) | ((with_reducible refine Has.box _ _ ?_ ?_) <;> (first | assumption | decide)) | (with_reducible refine Has.alloc ?_ _) | ((with_reducible refine Has.putOther ?_ _ _ ?_); rotate_left; omega; skip) | ((with_reducible refine Has.below ?_ ?_); rotate_left; assumption)))); (· kernel_rfl))))
  refine (SP.out _).mono ?_
  rintro e w3 ⟨rfl, b3⟩
  replace H3 := (H3.below b3).alloc (.cells (ints R6).toArray 27)
  replace H6 := (H6.below b3).alloc (.cells (ints R6).toArray 27)
  have H9 := Has.box w3 27 hl6 (by omega)
  replace HB := Lib.hid ((HB.out.call b3).alloc (.cells (ints R6).toArray 27))
  clear b3
  go_wp2_with (first | (refine guard_at (isStore 27) ?_ ?_; (· rfl); (refine store_new rfl 27 _ _ rfl _ _ _ rfl _ rfl _ rfl rfl ?_ ?_ ?_; (· (first | assumption | rfl)); (· kernel_rfl))) | (refine guard_at (isLoad 27) ?_ ?_; (· rfl); (refine load_has rfl 27 _ rfl _ rfl ?_ 24 ?_ _ Try.underlying27 rfl ?_ ?_; rotate_left; (· (repeat (first | (with_reducible assumption) | ((with_reducible refine Has.box _ _ ?_ ?_) <;> (first | assumption | decide)) | (with_reducible refine Has.alloc ?_ _) | ((with_reducible refine Has.putOther ?_ _ _ ?_); rotate_left; omega; skip) | ((with_reducible refine Has.below ?_ ?_); rotate_left; assumption)))); (· kernel_rfl))) | (refine guard_at (isNeq 27) ?_ ?_; (· rfl); refine neq_same rfl 27 _ _ _ rfl R6 ?_ ?_ HMR.out (eqRackT R6 R6 hl6 hl6) ?_; (· kernel_rfl); (· kernel_rfl)))
  clear H9 KP SP hl6
  refine (KC.out _).mono ?_
  rintro e w4 ⟨rfl, b4⟩
  replace H3 := H3.below b4
  replace H6 := H6.below b4
  replace HB := Lib.hid (HB.out.call b4)
  clear b4
  go_wp2_with (first | (refine guard_at (isLoad 27) ?_ ?_; (· rfl); (refine load_has rfl 27 _ rfl _ rfl ?_ 24 ?_ _ Try.underlying27 rfl ?_ ?_; rotate_left; (· (repeat (first | (with_reducible assumption) | ((with_reducible refine Has.box _ _ ?_ ?_) <;> (first | assumption | decide)) | (with_reducible refine Has.alloc ?_ _) | ((with_reducible refine Has.putOther ?_ _ _ ?_); rotate_left; omega; skip) | ((with_reducible refine Has.below ?_ ?_); rotate_left; assumption)))); (· kernel_rfl))))
  refine (SC.out _).mono ?_
  rintro e w5 ⟨rfl, b5⟩
  replace H3 := H3.below b5
  replace H6 := H6.below b5
  replace HB := Lib.hid (HB.out.call b5)
  clear b5 KC SC
  have hTC : (T = false ∧ C = false) ∨ (T = true ∧ C = false) ∨ (T = true ∧ C = true) := by
    have h := E2.out
    cases T <;> cases C <;> simp at h ⊢
  clear E2
  rcases hTC with ⟨rfl, rfl⟩ | ⟨rfl, rfl⟩ | ⟨rfl, rfl⟩
  · clear PF
    clear E4
    go_wp2_with (first | (refine guard_at (isLoad 27) ?_ ?_; (· rfl); (refine load_has rfl 27 _ rfl _ rfl ?_ 24 ?_ _ Try.underlying27 rfl ?_ ?_; rotate_left; (· (repeat (first | (with_reducible assumption) | ((with_reducible refine Has.box _ _ ?_ ?_) <;> (first | assumption | decide)) | (with_reducible refine Has.alloc ?_ _) | ((with_reducible refine Has.putOther ?_ _ _ ?_); rotate_left; omega; skip) | ((with_reducible refine Has.below ?_ ?_); rotate_left; assumption)))); (· kernel_rfl))))
    refine (KA.out _).mono ?_
    rintro e w6 ⟨v6, rfl, p6, bb⟩
    obtain ⟨a6, c6, rfl⟩ := slice_of_prs p6
    have P16 := Lib.hid p6
    clear p6
    replace H3 := H3.below bb
    replace H6 := H6.below bb
    replace HB := Lib.hid (HB.out.call bb)
    clear bb
    go_wp2_with (first | (refine guard_at (isLoad 27) ?_ ?_; (· rfl); (refine load_has rfl 27 _ rfl _ rfl ?_ 24 ?_ _ Try.underlying27 rfl ?_ ?_; rotate_left; (· (repeat (first | (with_reducible assumption) | ((with_reducible refine Has.box _ _ ?_ ?_) <;> (first | assumption | decide)) | (with_reducible refine Has.alloc ?_ _) | ((with_reducible refine Has.putOther ?_ _ _ ?_); rotate_left; omega; skip) | ((with_reducible refine Has.below ?_ ?_); rotate_left; assumption)))); (· kernel_rfl))))
    refine (SA.out _).mono ?_
    rintro e w7 ⟨v7, rfl, p7, bb⟩
    obtain ⟨a7, c7, rfl⟩ := slice_of_prs p7
    have P18 := Lib.hid p7
    clear p7
    replace H3 := H3.below bb
    replace H6 := H6.below bb
    replace P16 := Lib.hid (P16.out.below bb)
    replace HB := Lib.hid (HB.out.call bb)
    clear bb
    go_wp2_with (first | (refine guard_at (isLoad 27) ?_ ?_; (· rfl); (refine load_has rfl 27 _ rfl _ rfl ?_ 24 ?_ _ Try.underlying27 rfl ?_ ?_; rotate_left; (· (repeat (first | (with_reducible assumption) | ((with_reducible refine Has.box _ _ ?_ ?_) <;> (first | assumption | decide)) | (with_reducible refine Has.alloc ?_ _) | ((with_reducible refine Has.putOther ?_ _ _ ?_); rotate_left; omega; skip) | ((with_reducible refine Has.below ?_ ?_); rotate_left; assumption)))); (· kernel_rfl))))
    refine (KR.out _).mono ?_
    rintro e w8 ⟨rfl, bb⟩
    replace H3 := H3.below bb
    replace H6 := H6.below bb
    replace P16 := Lib.hid (P16.out.below bb)
    replace P18 := Lib.hid (P18.out.below bb)
    replace HB := Lib.hid (HB.out.call bb)
    clear bb
    go_wp2_with fail
    refine (rPairs_same _ _ _ _ NA FA _ (by omega) P16.out P18.out).mono ?_
    rintro e w9 ⟨rfl, bb⟩
    clear P18
    replace H3 := H3.below bb
    replace H6 := H6.below bb
    replace P16 := Lib.hid (P16.out.below bb)
    replace HB := Lib.hid (HB.out.call bb)
    clear bb
    go_wp2_with (first | (refine guard_at (isLoad 27) ?_ ?_; (· rfl); (refine load_has rfl 27 _ rfl _ rfl ?_ 24 ?_ _ Try.underlying27 rfl ?_ ?_; rotate_left; (· (repeat (first | (with_reducible assumption) | ((with_reducible refine Has.box _ _ ?_ ?_) <;> (first | assumption | decide)) | (with_reducible refine Has.alloc ?_ _) | ((with_reducible refine Has.putOther ?_ _ _ ?_); rotate_left; omega; skip) | ((with_reducible refine Has.below ?_ ?_); rotate_left; assumption)))); (· kernel_rfl))))
    refine (KU.out _).mono ?_
    rintro e w10 ⟨v10, rfl, p10, bb⟩
    obtain ⟨a10, c10, rfl⟩ := slice_of_prs p10
    have P20 := Lib.hid p10
    clear p10
    replace H3 := H3.below bb
    replace H6 := H6.below bb
    replace P16 := Lib.hid (P16.out.below bb)
    replace HB := Lib.hid (HB.out.call bb)
    clear bb
    go_wp2_with (first | (refine guard_at (isLoad 27) ?_ ?_; (· rfl); (refine load_has rfl 27 _ rfl _ rfl ?_ 24 ?_ _ Try.underlying27 rfl ?_ ?_; rotate_left; (· (repeat (first | (with_reducible assumption) | ((with_reducible refine Has.box _ _ ?_ ?_) <;> (first | assumption | decide)) | (with_reducible refine Has.alloc ?_ _) | ((with_reducible refine Has.putOther ?_ _ _ ?_); rotate_left; omega; skip) | ((with_reducible refine Has.below ?_ ?_); rotate_left; assumption)))); (· kernel_rfl))))
    refine (SU.out _).mono ?_
    rintro e w11 ⟨v11, rfl, p11, bb⟩
    obtain ⟨a11, c11, rfl⟩ := slice_of_prs p11
    have P22 := Lib.hid p11
    clear p11
    replace H3 := H3.below bb
    replace H6 := H6.below bb
    replace P16 := Lib.hid (P16.out.below bb)
    replace P20 := Lib.hid (P20.out.below bb)
    replace HB := Lib.hid (HB.out.call bb)
    clear bb
    go_wp2_with fail
    refine (rPairs_same _ _ _ _ UN UF _ (by omega) P20.out P22.out).mono ?_
    rintro e w12 ⟨rfl, bb⟩
    clear P22
    replace H3 := H3.below bb
    replace H6 := H6.below bb
    replace P16 := Lib.hid (P16.out.below bb)
    replace P20 := Lib.hid (P20.out.below bb)
    replace HB := Lib.hid (HB.out.call bb)
    clear bb
    go_wp2_with fail
    refine (rPart_any _ _ _ _ UN NA UF FA _ (by omega) (by omega) P20.out P16.out E5.out).mono ?_
    rintro e w13 ⟨rfl, bb⟩
    clear P20
    replace H3 := H3.below bb
    replace H6 := H6.below bb
    replace P16 := Lib.hid (P16.out.below bb)
    replace HB := Lib.hid (HB.out.call bb)
    clear bb
    go_wp2_with (first | (refine guard_at (isLoad 27) ?_ ?_; (· rfl); (refine load_has rfl 27 _ rfl _ rfl ?_ 24 ?_ _ Try.underlying27 rfl ?_ ?_; rotate_left; (· (repeat (first | (with_reducible assumption) | ((with_reducible refine Has.box _ _ ?_ ?_) <;> (first | assumption | decide)) | (with_reducible refine Has.alloc ?_ _) | ((with_reducible refine Has.putOther ?_ _ _ ?_); rotate_left; omega; skip) | ((with_reducible refine Has.below ?_ ?_); rotate_left; assumption)))); (· kernel_rfl))))
    refine (KS.out _).mono ?_
    rintro e w14 ⟨rfl, bb⟩
    replace H3 := H3.below bb
    replace H6 := H6.below bb
    replace P16 := Lib.hid (P16.out.below bb)
    replace HB := Lib.hid (HB.out.call bb)
    clear bb
    go_wp2_with (first | (refine guard_at (isLoad 27) ?_ ?_; (· rfl); (refine load_has rfl 27 _ rfl _ rfl ?_ 24 ?_ _ Try.underlying27 rfl ?_ ?_; rotate_left; (· (repeat (first | (with_reducible assumption) | ((with_reducible refine Has.box _ _ ?_ ?_) <;> (first | assumption | decide)) | (with_reducible refine Has.alloc ?_ _) | ((with_reducible refine Has.putOther ?_ _ _ ?_); rotate_left; omega; skip) | ((with_reducible refine Has.below ?_ ?_); rotate_left; assumption)))); (· kernel_rfl))))
    refine (SS.out _).mono ?_
    rintro e w15 ⟨rfl, bb⟩
    replace H3 := H3.below bb
    replace H6 := H6.below bb
    replace P16 := Lib.hid (P16.out.below bb)
    replace HB := Lib.hid (HB.out.call bb)
    clear bb
    cases S
    case' true => obtain rfl : UN = 0 := E3.out rfl
    all_goals
      clear E3 E5 KA SA KU SU KS SS
      go_wp2_with (first | (refine guard_at (isLoad 27) ?_ ?_; (· rfl); (refine load_has rfl 27 _ rfl _ rfl ?_ 24 ?_ _ Try.underlying27 rfl ?_ ?_; rotate_left; (· (repeat (first | (with_reducible assumption) | ((with_reducible refine Has.box _ _ ?_ ?_) <;> (first | assumption | decide)) | (with_reducible refine Has.alloc ?_ _) | ((with_reducible refine Has.putOther ?_ _ _ ?_); rotate_left; omega; skip) | ((with_reducible refine Has.below ?_ ?_); rotate_left; assumption)))); (· kernel_rfl))))
      refine (KN.out _).mono ?_
      rintro e w16 ⟨rfl, bb⟩
      replace H3 := H3.below bb
      replace H6 := H6.below bb
      replace P16 := Lib.hid (P16.out.below bb)
      replace HB := Lib.hid (HB.out.call bb)
      clear bb
      replace H3 := H3.alloc (.cells (ints CT).toArray 40)
      replace H6 := H6.alloc (.cells (ints CT).toArray 40)
      have H28 := Has.box w16 40 hct (by omega)
      replace P16 := Lib.hid (P16.out.alloc (.cells (ints CT).toArray 40))
      replace HB := Lib.hid (HB.out.alloc (.cells (ints CT).toArray 40))
      go_wp2_with (first | (refine guard_at (isStore 40) ?_ ?_; (· rfl); (refine store_new rfl 40 _ _ rfl _ _ _ rfl _ rfl _ rfl rfl ?_ ?_ ?_; (· (first | assumption | rfl)); (· kernel_rfl))) | (refine guard_at (isLoad 27) ?_ ?_; (· rfl); (refine load_has rfl 27 _ rfl _ rfl ?_ 24 ?_ _ Try.underlying27 rfl ?_ ?_; rotate_left; (· (repeat (first | (with_reducible assumption) | ((with_reducible refine Has.box _ _ ?_ ?_) <;> (first | assumption | decide)) | (with_reducible refine Has.alloc ?_ _) | ((with_reducible refine Has.putOther ?_ _ _ ?_); rotate_left; omega; skip) | ((with_reducible refine Has.below ?_ ?_); rotate_left; assumption)))); (· kernel_rfl))))
      refine (SN.out _).mono ?_
      rintro e w17 ⟨rfl, bb⟩
      replace H3 := H3.below bb
      replace H6 := H6.below bb
      replace H28 := H28.below bb
      replace P16 := Lib.hid (P16.out.below bb)
      replace HB := Lib.hid (HB.out.call bb)
      clear bb
      replace H3 := H3.alloc (.cells (ints CT).toArray 40)
      replace H6 := H6.alloc (.cells (ints CT).toArray 40)
      replace H28 := H28.alloc (.cells (ints CT).toArray 40)
      have H30 := Has.box w17 40 hct (by omega)
      replace P16 := Lib.hid (P16.out.alloc (.cells (ints CT).toArray 40))
      replace HB := Lib.hid (HB.out.alloc (.cells (ints CT).toArray 40))
      go_wp2_with (first | (refine guard_at (isStore 40) ?_ ?_; (· rfl); (refine store_new rfl 40 _ _ rfl _ _ _ rfl _ rfl _ rfl rfl ?_ ?_ ?_; (· (first | assumption | rfl)); (· kernel_rfl))) | (refine guard_at (isLoad 40) ?_ ?_; (· rfl); (refine load_has rfl 40 _ rfl _ rfl ?_ 6 ?_ _ Try.underlying40 rfl ?_ ?_; rotate_left; (· (repeat (first | (with_reducible assumption) | ((with_reducible refine Has.box _ _ ?_ ?_) <;> (first | assumption | decide)) | (with_reducible refine Has.alloc ?_ _) | ((with_reducible refine Has.putOther ?_ _ _ ?_); rotate_left; omega; skip) | ((with_reducible refine Has.below ?_ ?_); rotate_left; assumption)))); (· kernel_rfl))) | (refine guard_at (isNeq 40) ?_ ?_; (· rfl); refine neq_same rfl 40 _ _ _ rfl CT ?_ ?_ HM6.out (eqSix CT hct) ?_; (· kernel_rfl); (· kernel_rfl)))
      clear H30 KN SN
      go_ret
      exact ⟨rfl, HB.out⟩
  · clear PF
    have NE : Hid (¬ inL FA x y) := Lib.hid (fun h => by have := (E4.out rfl).2 h; cases this)
    clear E4
    go_wp2_with (first | (refine guard_at (isLoad 27) ?_ ?_; (· rfl); (refine load_has rfl 27 _ rfl _ rfl ?_ 24 ?_ _ Try.underlying27 rfl ?_ ?_; rotate_left; (· (repeat (first | (with_reducible assumption) | ((with_reducible refine Has.box _ _ ?_ ?_) <;> (first | assumption | decide)) | (with_reducible refine Has.alloc ?_ _) | ((with_reducible refine Has.putOther ?_ _ _ ?_); rotate_left; omega; skip) | ((with_reducible refine Has.below ?_ ?_); rotate_left; assumption)))); (· kernel_rfl))))
    refine (KA.out _).mono ?_
    rintro e w6 ⟨v6, rfl, p6, bb⟩
    obtain ⟨a6, c6, rfl⟩ := slice_of_prs p6
    have P16 := Lib.hid p6
    clear p6
    replace H3 := H3.below bb
    replace H6 := H6.below bb
    replace HB := Lib.hid (HB.out.call bb)
    clear bb
    go_wp2_with (first | (refine guard_at (isLoad 27) ?_ ?_; (· rfl); (refine load_has rfl 27 _ rfl _ rfl ?_ 24 ?_ _ Try.underlying27 rfl ?_ ?_; rotate_left; (· (repeat (first | (with_reducible assumption) | ((with_reducible refine Has.box _ _ ?_ ?_) <;> (first | assumption | decide)) | (with_reducible refine Has.alloc ?_ _) | ((with_reducible refine Has.putOther ?_ _ _ ?_); rotate_left; omega; skip) | ((with_reducible refine Has.below ?_ ?_); rotate_left; assumption)))); (· kernel_rfl))))
    refine (SA.out _).mono ?_
    rintro e w7 ⟨v7, rfl, p7, bb⟩
    obtain ⟨a7, c7, rfl⟩ := slice_of_prs p7
    have P18 := Lib.hid p7
    clear p7
    replace H3 := H3.below bb
    replace H6 := H6.below bb
    replace P16 := Lib.hid (P16.out.below bb)
    replace HB := Lib.hid (HB.out.call bb)
    clear bb
    go_wp2_with (first | (refine guard_at (isLoad 27) ?_ ?_; (· rfl); (refine load_has rfl 27 _ rfl _ rfl ?_ 24 ?_ _ Try.underlying27 rfl ?_ ?_; rotate_left; (· (repeat (first | (with_reducible assumption) | ((with_reducible refine Has.box _ _ ?_ ?_) <;> (first | assumption | decide)) | (with_reducible refine Has.alloc ?_ _) | ((with_reducible refine Has.putOther ?_ _ _ ?_); rotate_left; omega; skip) | ((with_reducible refine Has.below ?_ ?_); rotate_left; assumption)))); (· kernel_rfl))))
    refine (KR.out _).mono ?_
    rintro e w8 ⟨rfl, bb⟩
    replace H3 := H3.below bb
    replace H6 := H6.below bb
    replace P16 := Lib.hid (P16.out.below bb)
    replace P18 := Lib.hid (P18.out.below bb)
    replace HB := Lib.hid (HB.out.call bb)
    clear bb
    go_wp2_with fail
    refine (rPairs_same _ _ _ _ NA FA _ (by omega) P16.out P18.out).mono ?_
    rintro e w9 ⟨rfl, bb⟩
    clear P18
    replace H3 := H3.below bb
    replace H6 := H6.below bb
    replace P16 := Lib.hid (P16.out.below bb)
    replace HB := Lib.hid (HB.out.call bb)
    clear bb
    go_wp2_with (first | (refine guard_at (isLoad 27) ?_ ?_; (· rfl); (refine load_has rfl 27 _ rfl _ rfl ?_ 24 ?_ _ Try.underlying27 rfl ?_ ?_; rotate_left; (· (repeat (first | (with_reducible assumption) | ((with_reducible refine Has.box _ _ ?_ ?_) <;> (first | assumption | decide)) | (with_reducible refine Has.alloc ?_ _) | ((with_reducible refine Has.putOther ?_ _ _ ?_); rotate_left; omega; skip) | ((with_reducible refine Has.below ?_ ?_); rotate_left; assumption)))); (· kernel_rfl))))
    refine (KU.out _).mono ?_
    rintro e w10 ⟨v10, rfl, p10, bb⟩
    obtain ⟨a10, c10, rfl⟩ := slice_of_prs p10
    have P20 := Lib.hid p10
    clear p10
    replace H3 := H3.below bb
    replace H6 := H6.below bb
    replace P16 := Lib.hid (P16.out.below bb)
    replace HB := Lib.hid (HB.out.call bb)
    clear bb
    go_wp2_with (first | (refine guard_at (isLoad 27) ?_ ?_; (· rfl); (refine load_has rfl 27 _ rfl _ rfl ?_ 24 ?_ _ Try.underlying27 rfl ?_ ?_; rotate_left; (· (repeat (first | (with_reducible assumption) | ((with_reducible refine Has.box _ _ ?_ ?_) <;> (first | assumption | decide)) | (with_reducible refine Has.alloc ?_ _) | ((with_reducible refine Has.putOther ?_ _ _ ?_); rotate_left; omega; skip) | ((with_reducible refine Has.below ?_ ?_); rotate_left; assumption)))); (· kernel_rfl))))
    refine (SU.out _).mono ?_
    rintro e w11 ⟨v11, rfl, p11, bb⟩
    obtain ⟨a11, c11, rfl⟩ := slice_of_prs p11
    have P22 := Lib.hid p11
    clear p11
    replace H3 := H3.below bb
    replace H6 := H6.below bb
    replace P16 := Lib.hid (P16.out.below bb)
    replace P20 := Lib.hid (P20.out.below bb)
    replace HB := Lib.hid (HB.out.call bb)
    clear bb
    go_wp2_with fail
    refine (rPairs_same _ _ _ _ UN UF _ (by omega) P20.out P22.out).mono ?_
    rintro e w12 ⟨rfl, bb⟩
    clear P22
    replace H3 := H3.below bb
    replace H6 := H6.below bb
    replace P16 := Lib.hid (P16.out.below bb)
    replace P20 := Lib.hid (P20.out.below bb)
    replace HB := Lib.hid (HB.out.call bb)
    clear bb
    go_wp2_with fail
    refine (rPart_any _ _ _ _ UN NA UF FA _ (by omega) (by omega) P20.out P16.out E5.out).mono ?_
    rintro e w13 ⟨rfl, bb⟩
    clear P20
    replace H3 := H3.below bb
    replace H6 := H6.below bb
    replace P16 := Lib.hid (P16.out.below bb)
    replace HB := Lib.hid (HB.out.call bb)
    clear bb
    go_wp2_with (first | (refine guard_at (isLoad 27) ?_ ?_; (· rfl); (refine load_has rfl 27 _ rfl _ rfl ?_ 24 ?_ _ Try.underlying27 rfl ?_ ?_; rotate_left; (· (repeat (first | (with_reducible assumption) | ((with_reducible refine Has.box _ _ ?_ ?_) <;> (first | assumption | decide)) | (with_reducible refine Has.alloc ?_ _) | ((with_reducible refine Has.putOther ?_ _ _ ?_); rotate_left; omega; skip) | ((with_reducible refine Has.below ?_ ?_); rotate_left; assumption)))); (· kernel_rfl))))
    refine (KS.out _).mono ?_
    rintro e w14 ⟨rfl, bb⟩
    replace H3 := H3.below bb
    replace H6 := H6.below bb
    replace P16 := Lib.hid (P16.out.below bb)
    replace HB := Lib.hid (HB.out.call bb)
    clear bb
    go_wp2_with (first | (refine guard_at (isLoad 27) ?_ ?_; (· rfl); (refine load_has rfl 27 _ rfl _ rfl ?_ 24 ?_ _ Try.underlying27 rfl ?_ ?_; rotate_left; (· (repeat (first | (with_reducible assumption) | ((with_reducible refine Has.box _ _ ?_ ?_) <;> (first | assumption | decide)) | (with_reducible refine Has.alloc ?_ _) | ((with_reducible refine Has.putOther ?_ _ _ ?_); rotate_left; omega; skip) | ((with_reducible refine Has.below ?_ ?_); rotate_left; assumption)))); (· kernel_rfl))))
    refine (SS.out _).mono ?_
    rintro e w15 ⟨rfl, bb⟩
    replace H3 := H3.below bb
    replace H6 := H6.below bb
    replace P16 := Lib.hid (P16.out.below bb)
    replace HB := Lib.hid (HB.out.call bb)
    clear bb
    cases S
    case' true => obtain rfl : UN = 0 := E3.out rfl
    all_goals
      clear E3 E5 KA SA KU SU KS SS
      go_wp2_with (first | (refine guard_at (isLoad 27) ?_ ?_; (· rfl); (refine load_has rfl 27 _ rfl _ rfl ?_ 24 ?_ _ Try.underlying27 rfl ?_ ?_; rotate_left; (· (repeat (first | (with_reducible assumption) | ((with_reducible refine Has.box _ _ ?_ ?_) <;> (first | assumption | decide)) | (with_reducible refine Has.alloc ?_ _) | ((with_reducible refine Has.putOther ?_ _ _ ?_); rotate_left; omega; skip) | ((with_reducible refine Has.below ?_ ?_); rotate_left; assumption)))); (· kernel_rfl))))
      refine (KN.out _).mono ?_
      rintro e w16 ⟨rfl, bb⟩
      replace H3 := H3.below bb
      replace H6 := H6.below bb
      replace P16 := Lib.hid (P16.out.below bb)
      replace HB := Lib.hid (HB.out.call bb)
      clear bb
      replace H3 := H3.alloc (.cells (ints CT).toArray 40)
      replace H6 := H6.alloc (.cells (ints CT).toArray 40)
      have H28 := Has.box w16 40 hct (by omega)
      replace P16 := Lib.hid (P16.out.alloc (.cells (ints CT).toArray 40))
      replace HB := Lib.hid (HB.out.alloc (.cells (ints CT).toArray 40))
      go_wp2_with (first | (refine guard_at (isStore 40) ?_ ?_; (· rfl); (refine store_new rfl 40 _ _ rfl _ _ _ rfl _ rfl _ rfl rfl ?_ ?_ ?_; (· (first | assumption | rfl)); (· kernel_rfl))) | (refine guard_at (isLoad 27) ?_ ?_; (· rfl); (refine load_has rfl 27 _ rfl _ rfl ?_ 24 ?_ _ Try.underlying27 rfl ?_ ?_; rotate_left; (· (repeat (first | (with_reducible assumption) | ((with_reducible refine Has.box _ _ ?_ ?_) <;> (first | assumption | decide)) | (with_reducible refine Has.alloc ?_ _) | ((with_reducible refine Has.putOther ?_ _ _ ?_); rotate_left; omega; skip) | ((with_reducible refine Has.below ?_ ?_); rotate_left; assumption)))); (· kernel_rfl))))
      refine (SN.out _).mono ?_
      rintro e w17 ⟨rfl, bb⟩
      replace H3 := H3.below bb
      replace H6 := H6.below bb
      replace H28 := H28.below bb
      replace P16 := Lib.hid (P16.out.below bb)
      replace HB := Lib.hid (HB.out.call bb)
      clear bb
      replace H3 := H3.alloc (.cells (ints CT).toArray 40)
      replace H6 := H6.alloc (.cells (ints CT).toArray 40)
      replace H28 := H28.alloc (.cells (ints CT).toArray 40)
      have H30 := Has.box w17 40 hct (by omega)
      replace P16 := Lib.hid (P16.out.alloc (.cells (ints CT).toArray 40))
      replace HB := Lib.hid (HB.out.alloc (.cells (ints CT).toArray 40))
      go_wp2_with (first | (refine guard_at (isStore 40) ?_ ?_; (· rfl); (refine store_new rfl 40 _ _ rfl _ _ _ rfl _ rfl _ rfl rfl ?_ ?_ ?_; (· (first | assumption | rfl)); (· kernel_rfl))) | (refine guard_at (isLoad 40) ?_ ?_; (· rfl); (refine load_has rfl 40 _ rfl _ rfl ?_ 6 ?_ _ Try.underlying40 rfl ?_ ?_; rotate_left; (· (repeat (first | (with_reducible assumption) | ((with_reducible refine Has.box _ _ ?_ ?_) <;> (first | assumption | decide)) | (with_reducible refine Has.alloc ?_ _) | ((with_reducible refine Has.putOther ?_ _ _ ?_); rotate_left; omega; skip) | ((with_reducible refine Has.below ?_ ?_); rotate_left; assumption)))); (· kernel_rfl))) | (refine guard_at (isNeq 40) ?_ ?_; (· rfl); refine neq_same rfl 40 _ _ _ rfl CT ?_ ?_ HM6.out (eqSix CT hct) ?_; (· kernel_rfl); (· kernel_rfl)))
      clear H30 KN SN
      refine (rIn_any _ _ NA FA x y _ (by omega) P16.out).mono ?_
      rintro e w18 ⟨⟨t, rfl, ht⟩, bb⟩
      replace H3 := H3.below bb
      replace H6 := H6.below bb
      replace H28 := H28.below bb
      replace HB := Lib.hid (HB.out.call bb)
      clear bb
      obtain rfl : t = false := by
        cases t with
        | false => rfl
        | true => exact absurd (ht.1 rfl) NE.out
      clear ht P16
      go_wp2_with fail
      go_ret
      exact ⟨rfl, HB.out⟩
  · obtain ⟨rfl, rfl, rfl, hp1, hp2, rfl, rfl, hpb⟩ := PF.out rfl
    have HPB := Lib.hid hpb
    clear hpb PF
    have YE : Hid (inL FA x y) := Lib.hid ((E4.out rfl).1 rfl)
    clear E4
    go_wp2_with (first | (refine guard_at (isLoad 27) ?_ ?_; (· rfl); (refine load_has rfl 27 _ rfl _ rfl ?_ 24 ?_ _ Try.underlying27 rfl ?_ ?_; rotate_left; (· (repeat (first | (with_reducible assumption) | ((with_reducible refine Has.box _ _ ?_ ?_) <;> (first | assumption | decide)) | (with_reducible refine Has.alloc ?_ _) | ((with_reducible refine Has.putOther ?_ _ _ ?_); rotate_left; omega; skip) | ((with_reducible refine Has.below ?_ ?_); rotate_left; assumption)))); (· kernel_rfl))))
    refine (KA.out _).mono ?_
    rintro e w6 ⟨v6, rfl, p6, bb⟩
    obtain ⟨a6, c6, rfl⟩ := slice_of_prs p6
    have P16 := Lib.hid p6
    clear p6
    replace H3 := H3.below bb
    replace H6 := H6.below bb
    replace HB := Lib.hid (HB.out.call bb)
    clear bb
    go_wp2_with (first | (refine guard_at (isLoad 27) ?_ ?_; (· rfl); (refine load_has rfl 27 _ rfl _ rfl ?_ 24 ?_ _ Try.underlying27 rfl ?_ ?_; rotate_left; (· (repeat (first | (with_reducible assumption) | ((with_reducible refine Has.box _ _ ?_ ?_) <;> (first | assumption | decide)) | (with_reducible refine Has.alloc ?_ _) | ((with_reducible refine Has.putOther ?_ _ _ ?_); rotate_left; omega; skip) | ((with_reducible refine Has.below ?_ ?_); rotate_left; assumption)))); (· kernel_rfl))))
    refine (SA.out _).mono ?_
    rintro e w7 ⟨v7, rfl, p7, bb⟩
    obtain ⟨a7, c7, rfl⟩ := slice_of_prs p7
    have P18 := Lib.hid p7
    clear p7
    replace H3 := H3.below bb
    replace H6 := H6.below bb
    replace P16 := Lib.hid (P16.out.below bb)
    replace HB := Lib.hid (HB.out.call bb)
    clear bb
    go_wp2_with (first | (refine guard_at (isLoad 27) ?_ ?_; (· rfl); (refine load_has rfl 27 _ rfl _ rfl ?_ 24 ?_ _ Try.underlying27 rfl ?_ ?_; rotate_left; (· (repeat (first | (with_reducible assumption) | ((with_reducible refine Has.box _ _ ?_ ?_) <;> (first | assumption | decide)) | (with_reducible refine Has.alloc ?_ _) | ((with_reducible refine Has.putOther ?_ _ _ ?_); rotate_left; omega; skip) | ((with_reducible refine Has.below ?_ ?_); rotate_left; assumption)))); (· kernel_rfl))))
    refine (KR.out _).mono ?_
    rintro e w8 ⟨rfl, bb⟩
    replace H3 := H3.below bb
    replace H6 := H6.below bb
    replace P16 := Lib.hid (P16.out.below bb)
    replace P18 := Lib.hid (P18.out.below bb)
    replace HB := Lib.hid (HB.out.call bb)
    clear bb
    go_wp2_with fail
    refine (rPairs_same _ _ _ _ NA FA _ (by omega) P16.out P18.out).mono ?_
    rintro e w9 ⟨rfl, bb⟩
    clear P18
    replace H3 := H3.below bb
    replace H6 := H6.below bb
    replace P16 := Lib.hid (P16.out.below bb)
    replace HB := Lib.hid (HB.out.call bb)
    clear bb
    go_wp2_with (first | (refine guard_at (isLoad 27) ?_ ?_; (· rfl); (refine load_has rfl 27 _ rfl _ rfl ?_ 24 ?_ _ Try.underlying27 rfl ?_ ?_; rotate_left; (· (repeat (first | (with_reducible assumption) | ((with_reducible refine Has.box _ _ ?_ ?_) <;> (first | assumption | decide)) | (with_reducible refine Has.alloc ?_ _) | ((with_reducible refine Has.putOther ?_ _ _ ?_); rotate_left; omega; skip) | ((with_reducible refine Has.below ?_ ?_); rotate_left; assumption)))); (· kernel_rfl))))
    refine (KU.out _).mono ?_
    rintro e w10 ⟨v10, rfl, p10, bb⟩
    obtain ⟨a10, c10, rfl⟩ := slice_of_prs p10
    have P20 := Lib.hid p10
    clear p10
    replace H3 := H3.below bb
    replace H6 := H6.below bb
    replace P16 := Lib.hid (P16.out.below bb)
    replace HB := Lib.hid (HB.out.call bb)
    clear bb
    go_wp2_with (first | (refine guard_at (isLoad 27) ?_ ?_; (· rfl); (refine load_has rfl 27 _ rfl _ rfl ?_ 24 ?_ _ Try.underlying27 rfl ?_ ?_; rotate_left; (· (repeat (first | (with_reducible assumption) | ((with_reducible refine Has.box _ _ ?_ ?_) <;> (first | assumption | decide)) | (with_reducible refine Has.alloc ?_ _) | ((with_reducible refine Has.putOther ?_ _ _ ?_); rotate_left; omega; skip) | ((with_reducible refine Has.below ?_ ?_); rotate_left; assumption)))); (· kernel_rfl))))
    refine (SU.out _).mono ?_
    rintro e w11 ⟨v11, rfl, p11, bb⟩
    obtain ⟨a11, c11, rfl⟩ := slice_of_prs p11
    have P22 := Lib.hid p11
    clear p11
    replace H3 := H3.below bb
    replace H6 := H6.below bb
    replace P16 := Lib.hid (P16.out.below bb)
    replace P20 := Lib.hid (P20.out.below bb)
    replace HB := Lib.hid (HB.out.call bb)
    clear bb
    go_wp2_with fail
    refine (rPairs_same _ _ _ _ UN UF _ (by omega) P20.out P22.out).mono ?_
    rintro e w12 ⟨rfl, bb⟩
    clear P22
    replace H3 := H3.below bb
    replace H6 := H6.below bb
    replace P16 := Lib.hid (P16.out.below bb)
    replace P20 := Lib.hid (P20.out.below bb)
    replace HB := Lib.hid (HB.out.call bb)
    clear bb
    go_wp2_with fail
    refine (rPart_any _ _ _ _ UN NA UF FA _ (by omega) (by omega) P20.out P16.out E5.out).mono ?_
    rintro e w13 ⟨rfl, bb⟩
    clear P20
    replace H3 := H3.below bb
    replace H6 := H6.below bb
    replace P16 := Lib.hid (P16.out.below bb)
    replace HB := Lib.hid (HB.out.call bb)
    clear bb
    go_wp2_with (first | (refine guard_at (isLoad 27) ?_ ?_; (· rfl); (refine load_has rfl 27 _ rfl _ rfl ?_ 24 ?_ _ Try.underlying27 rfl ?_ ?_; rotate_left; (· (repeat (first | (with_reducible assumption) | ((with_reducible refine Has.box _ _ ?_ ?_) <;> (first | assumption | decide)) | (with_reducible refine Has.alloc ?_ _) | ((with_reducible refine Has.putOther ?_ _ _ ?_); rotate_left; omega; skip) | ((with_reducible refine Has.below ?_ ?_); rotate_left; assumption)))); (· kernel_rfl))))
    refine (KS.out _).mono ?_
    rintro e w14 ⟨rfl, bb⟩
    replace H3 := H3.below bb
    replace H6 := H6.below bb
    replace P16 := Lib.hid (P16.out.below bb)
    replace HB := Lib.hid (HB.out.call bb)
    clear bb
    go_wp2_with (first | (refine guard_at (isLoad 27) ?_ ?_; (· rfl); (refine load_has rfl 27 _ rfl _ rfl ?_ 24 ?_ _ Try.underlying27 rfl ?_ ?_; rotate_left; (· (repeat (first | (with_reducible assumption) | ((with_reducible refine Has.box _ _ ?_ ?_) <;> (first | assumption | decide)) | (with_reducible refine Has.alloc ?_ _) | ((with_reducible refine Has.putOther ?_ _ _ ?_); rotate_left; omega; skip) | ((with_reducible refine Has.below ?_ ?_); rotate_left; assumption)))); (· kernel_rfl))))
    refine (SS.out _).mono ?_
    rintro e w15 ⟨rfl, bb⟩
    replace H3 := H3.below bb
    replace H6 := H6.below bb
    replace P16 := Lib.hid (P16.out.below bb)
    replace HB := Lib.hid (HB.out.call bb)
    clear bb
    cases S
    case' true => obtain rfl : UN = 0 := E3.out rfl
    all_goals
      clear E3 E5 KA SA KU SU KS SS
      go_wp2_with (first | (refine guard_at (isLoad 27) ?_ ?_; (· rfl); (refine load_has rfl 27 _ rfl _ rfl ?_ 24 ?_ _ Try.underlying27 rfl ?_ ?_; rotate_left; (· (repeat (first | (with_reducible assumption) | ((with_reducible refine Has.box _ _ ?_ ?_) <;> (first | assumption | decide)) | (with_reducible refine Has.alloc ?_ _) | ((with_reducible refine Has.putOther ?_ _ _ ?_); rotate_left; omega; skip) | ((with_reducible refine Has.below ?_ ?_); rotate_left; assumption)))); (· kernel_rfl))))
      refine (KN.out _).mono ?_
      rintro e w16 ⟨rfl, bb⟩
      replace H3 := H3.below bb
      replace H6 := H6.below bb
      replace P16 := Lib.hid (P16.out.below bb)
      replace HB := Lib.hid (HB.out.call bb)
      clear bb
      replace H3 := H3.alloc (.cells (ints CT2).toArray 40)
      replace H6 := H6.alloc (.cells (ints CT2).toArray 40)
      have H28 := Has.box w16 40 hct (by omega)
      replace P16 := Lib.hid (P16.out.alloc (.cells (ints CT2).toArray 40))
      replace HB := Lib.hid (HB.out.alloc (.cells (ints CT2).toArray 40))
      go_wp2_with (first | (refine guard_at (isStore 40) ?_ ?_; (· rfl); (refine store_new rfl 40 _ _ rfl _ _ _ rfl _ rfl _ rfl rfl ?_ ?_ ?_; (· (first | assumption | rfl)); (· kernel_rfl))) | (refine guard_at (isLoad 27) ?_ ?_; (· rfl); (refine load_has rfl 27 _ rfl _ rfl ?_ 24 ?_ _ Try.underlying27 rfl ?_ ?_; rotate_left; (· (repeat (first | (with_reducible assumption) | ((with_reducible refine Has.box _ _ ?_ ?_) <;> (first | assumption | decide)) | (with_reducible refine Has.alloc ?_ _) | ((with_reducible refine Has.putOther ?_ _ _ ?_); rotate_left; omega; skip) | ((with_reducible refine Has.below ?_ ?_); rotate_left; assumption)))); (· kernel_rfl))))
      refine (SN.out _).mono ?_
      rintro e w17 ⟨rfl, bb⟩
      replace H3 := H3.below bb
      replace H6 := H6.below bb
      replace H28 := H28.below bb
      replace P16 := Lib.hid (P16.out.below bb)
      replace HB := Lib.hid (HB.out.call bb)
      clear bb
      replace H3 := H3.alloc (.cells (ints CT2).toArray 40)
      replace H6 := H6.alloc (.cells (ints CT2).toArray 40)
      replace H28 := H28.alloc (.cells (ints CT2).toArray 40)
      have H30 := Has.box w17 40 hct (by omega)
      replace P16 := Lib.hid (P16.out.alloc (.cells (ints CT2).toArray 40))
      replace HB := Lib.hid (HB.out.alloc (.cells (ints CT2).toArray 40))
      go_wp2_with (first | (refine guard_at (isStore 40) ?_ ?_; (· rfl); (refine store_new rfl 40 _ _ rfl _ _ _ rfl _ rfl _ rfl rfl ?_ ?_ ?_; (· (first | assumption | rfl)); (· kernel_rfl))) | (refine guard_at (isLoad 40) ?_ ?_; (· rfl); (refine load_has rfl 40 _ rfl _ rfl ?_ 6 ?_ _ Try.underlying40 rfl ?_ ?_; rotate_left; (· (repeat (first | (with_reducible assumption) | ((with_reducible refine Has.box _ _ ?_ ?_) <;> (first | assumption | decide)) | (with_reducible refine Has.alloc ?_ _) | ((with_reducible refine Has.putOther ?_ _ _ ?_); rotate_left; omega; skip) | ((with_reducible refine Has.below ?_ ?_); rotate_left; assumption)))); (· kernel_rfl))) | (refine guard_at (isNeq 40) ?_ ?_; (· rfl); refine neq_same rfl 40 _ _ _ rfl CT2 ?_ ?_ HM6.out (eqSix CT2 hct) ?_; (· kernel_rfl); (· kernel_rfl)))
      clear H30 KN SN
      refine (rIn_any _ _ NA FA x y _ (by omega) P16.out).mono ?_
      rintro e w18 ⟨⟨t, rfl, ht⟩, bb⟩
      replace H3 := H3.below bb
      replace H6 := H6.below bb
      replace H28 := H28.below bb
      replace HB := Lib.hid (HB.out.call bb)
      clear bb
      obtain rfl : t = true := ht.2 YE.out
      clear ht P16
      go_wp2_with (first | (refine guard_at (isLoad 27) ?_ ?_; (· rfl); (refine load_has rfl 27 _ rfl _ rfl ?_ 24 ?_ _ Try.underlying27 rfl ?_ ?_; rotate_left; (· (repeat (first | (with_reducible assumption) | ((with_reducible refine Has.box _ _ ?_ ?_) <;> (first | assumption | decide)) | (with_reducible refine Has.alloc ?_ _) | ((with_reducible refine Has.putOther ?_ _ _ ?_); rotate_left; omega; skip) | ((with_reducible refine Has.below ?_ ?_); rotate_left; assumption)))); (· kernel_rfl))))
      refine (KN2.out _).mono ?_
      rintro e w19 ⟨rfl, bb⟩
      replace H3 := H3.below bb
      replace H6 := H6.below bb
      replace H28 := H28.below bb
      replace HB := Lib.hid (HB.out.call bb)
      clear bb
      replace H3 := H3.alloc (.cells (ints CT2).toArray 40)
      replace H6 := H6.alloc (.cells (ints CT2).toArray 40)
      replace H28 := H28.alloc (.cells (ints CT2).toArray 40)
      have H32 := Has.box w19 40 hct (by omega)
      replace HB := Lib.hid (HB.out.alloc (.cells (ints CT2).toArray 40))
      go_wp2_with (first | (refine guard_at (isStore 40) ?_ ?_; (· rfl); (refine store_new rfl 40 _ _ rfl _ _ _ rfl _ rfl _ rfl rfl ?_ ?_ ?_; (· (first | assumption | rfl)); (· kernel_rfl))) | (refine guard_at (isLoad 27) ?_ ?_; (· rfl); (refine load_has rfl 27 _ rfl _ rfl ?_ 24 ?_ _ Try.underlying27 rfl ?_ ?_; rotate_left; (· (repeat (first | (with_reducible assumption) | ((with_reducible refine Has.box _ _ ?_ ?_) <;> (first | assumption | decide)) | (with_reducible refine Has.alloc ?_ _) | ((with_reducible refine Has.putOther ?_ _ _ ?_); rotate_left; omega; skip) | ((with_reducible refine Has.below ?_ ?_); rotate_left; assumption)))); (· kernel_rfl))))
      refine (KT2.out _).mono ?_
      rintro e w20 ⟨rfl, bb⟩
      replace H3 := H3.below bb
      replace H6 := H6.below bb
      replace H28 := H28.below bb
      replace H32 := H32.below bb
      replace HB := Lib.hid (HB.out.call bb)
      clear bb
      go_wp2_with (first | (refine guard_at (isLoad 27) ?_ ?_; (· rfl); (refine load_has rfl 27 _ rfl _ rfl ?_ 24 ?_ _ Try.underlying27 rfl ?_ ?_; rotate_left; (· (repeat (first | (with_reducible assumption) | ((with_reducible refine Has.box _ _ ?_ ?_) <;> (first | assumption | decide)) | (with_reducible refine Has.alloc ?_ _) | ((with_reducible refine Has.putOther ?_ _ _ ?_); rotate_left; omega; skip) | ((with_reducible refine Has.below ?_ ?_); rotate_left; assumption)))); (· kernel_rfl))))
      refine (KL2.out _).mono ?_
      rintro e w21 ⟨rfl, bb⟩
      replace H3 := H3.below bb
      replace H6 := H6.below bb
      replace H28 := H28.below bb
      replace H32 := H32.below bb
      replace HB := Lib.hid (HB.out.call bb)
      clear bb
      go_wp2_with (first | (refine guard_at (isLoad 27) ?_ ?_; (· rfl); (refine load_has rfl 27 _ rfl _ rfl ?_ 24 ?_ _ Try.underlying27 rfl ?_ ?_; rotate_left; (· (repeat (first | (with_reducible assumption) | ((with_reducible refine Has.box _ _ ?_ ?_) <;> (first | assumption | decide)) | (with_reducible refine Has.alloc ?_ _) | ((with_reducible refine Has.putOther ?_ _ _ ?_); rotate_left; omega; skip) | ((with_reducible refine Has.below ?_ ?_); rotate_left; assumption)))); (· kernel_rfl))))
      refine (KC2.out _).mono ?_
      rintro e w22 ⟨rfl, bb⟩
      replace H3 := H3.below bb
      replace H6 := H6.below bb
      replace H28 := H28.below bb
      replace H32 := H32.below bb
      replace HB := Lib.hid (HB.out.call bb)
      clear bb
      have q1 : decide (PA < 1) = false := by simp; omega
      have q2 : decide (RN < PA) = false := by simp; omega
      have q1' : ¬ PA < 1 := by omega
      have q2' : ¬ RN < PA := by omega
      go_wp2_with (first | (refine guard_at (isLoad 40) ?_ ?_; (· rfl); (refine load_has rfl 40 _ rfl _ rfl ?_ 6 ?_ _ Try.underlying40 rfl ?_ ?_; rotate_left; (· (repeat (first | (with_reducible assumption) | ((with_reducible refine Has.box _ _ ?_ ?_) <;> (first | assumption | decide)) | (with_reducible refine Has.alloc ?_ _) | ((with_reducible refine Has.putOther ?_ _ _ ?_); rotate_left; omega; skip) | ((with_reducible refine Has.below ?_ ?_); rotate_left; assumption)))); (· kernel_rfl))) | (refine guard_at (isNeq 40) ?_ ?_; (· rfl); refine neq_same rfl 40 _ _ _ rfl CT2 ?_ ?_ HM6.out (eqSix CT2 hct) ?_; (· kernel_rfl); (· kernel_rfl)) | (refine guard_at (isLoad 27) ?_ ?_; (· rfl); (refine load_has rfl 27 _ rfl _ rfl ?_ 24 ?_ _ Try.underlying27 rfl ?_ ?_; rotate_left; (· (repeat (first | (with_reducible assumption) | ((with_reducible refine Has.box _ _ ?_ ?_) <;> (first | assumption | decide)) | (with_reducible refine Has.alloc ?_ _) | ((with_reducible refine Has.putOther ?_ _ _ ?_); rotate_left; omega; skip) | ((with_reducible refine Has.below ?_ ?_); rotate_left; assumption)))); (· kernel_rfl))))
      refine (KR2.out _).mono ?_
      rintro e w23 ⟨rfl, bb⟩
      replace HB := Lib.hid (HB.out.call bb)
      clear bb
      by_cases hlt : PA < RN
      · go_wp2_with fail
        go_ret
        exact ⟨rfl, HB.out⟩
      · have hb := HPB.out (by omega)
        have hlt' : decide (PA < RN) = false := by simpa using hlt
        by_cases h0 : LA = 0
        · obtain rfl : C2 = true := hb.2 h0
          subst h0
          clear hb
          go_wp2_with fail
          go_ret
          exact ⟨rfl, HB.out⟩
        · obtain rfl : C2 = false := by
            cases C2 with
            | false => rfl
            | true => exact absurd (hb.1 rfl) h0
          have h0' : (LA == 0) = false := by simpa using h0
          clear hb h0
          go_wp2_with fail
          go_ret
          exact ⟨rfl, HB.out⟩
end Go.Proofs.Ytlbofgjgmignhaa.base
