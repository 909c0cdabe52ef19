/-
  The exact law of BoundsAlong, walked.
-/
import Derived.Test.YtmodkllhdeknoabAlgI
import Derived.Test.YtmodkllhdeknoabNuHeld
import Derived.Test.YtmodkllhdeknoabPairs
import Derived.Test.YtmodkllhdeknoabRackTo
namespace Go.Proofs.Ytmodkllhdeknoab.base
open Go.ChangeShapes Go.WideShapes Go.ChangeAt Go.RowKit
set_option linter.unusedVariables false
set_option linter.unusedSimpArgs false

set_option maxHeartbeats 1600000 in
theorem markBig (b : Nat) (v : Value) (n K : Nat) (fs : List Int) (w : World) (hn : n ≤ 1048576) (hK : K ≤ 1000) (h : Rw w b v n fs) :
    Calls Try.prog 16 #[v, .int .i64 (K : Int)] w fun e w' => e = .returned (.int .i64 ((K + n * 2 : Nat) : Int)) ∧ Rw w' b v n (markF K (n * 2) fs) ∧ GrR w w' b v n := by
  cases n with
  | zero =>
    obtain ⟨a, c, hv⟩ := rw_zero h
    have HH := Lib.hid h
    clear h
    subst hv
    go_enter Try.func16, Try.ntmps16
    go_wp2_with fail
    go_loop [1, 5, 6] (fun q i j => i = .int .i64 0 ∧ q = .int .i64 (K : Int)) (fun _ _ _ => 0)
    case atStart => exact ⟨rfl, rfl⟩
    case round =>
      obtain ⟨rfl, rfl⟩ := hrel
      go_wp2_with fail
      go_ret
      refine ⟨rfl, ?_, ⟨none, ⟨rfl, rfl, rfl, Nat.le_refl _, fun _ _ _ => rfl⟩, fun k hk => by cases hk⟩⟩
      rw [show markF K 0 fs = fs from markF_zero K fs]; exact HH.out
  | succ n =>
    obtain ⟨g, c, rfl, hbg, _⟩ := h.form (by omega)
    have HBG := Lib.hid hbg
    clear hbg
    have HL := Lib.hid h.flat
    have HH := Lib.hid h
    clear h
    go_enter Try.func16, Try.ntmps16
    go_wp2_with fail
    go_loopg [1, 5, 6] (n + 1) (fun gk q i j wr => ∃ p : Nat, gk = n + 1 - p ∧ p ≤ n + 1 ∧ i = .int .i64 p ∧ q = .int .i64 ((K + p * 2 : Nat) : Int) ∧ Hid (Rw wr b (.slice (some ⟨g, 0, none⟩) (n + 1) c) (n + 1) (markF K (p * 2) fs)) ∧ Hid (w.grownBy wr (some g)))
    case atStart => exact ⟨0, rfl, by omega, rfl, by simp, Lib.hid (by rw [Nat.zero_mul, markF_zero]; exact HH.out), Lib.hid ⟨rfl, rfl, rfl, Nat.le_refl _, fun _ _ _ => rfl⟩⟩
    case round =>
      obtain ⟨p, rfl, hp, rfl, rfl, GP, GG⟩ := hrel
      by_cases hlt : p < n + 1
      · have hpi : (p : Int) < (n : Int) + 1 := by omega
        go_wp2_with fail
        go_loopg [1, 6] 2 (fun gk q j wr => ∃ z : Nat, gk = 2 - z ∧ z ≤ 2 ∧ j = .int .i64 z ∧ q = .int .i64 ((K + (p * 2 + z) : Nat) : Int) ∧ Hid (Rw wr b (.slice (some ⟨g, 0, none⟩) (n + 1) c) (n + 1) (markF K (p * 2 + z) fs)) ∧ Hid (w.grownBy wr (some g)))
        case atStart => exact ⟨0, rfl, by omega, rfl, by simp, GP, GG⟩
        case round =>
          obtain ⟨z, rfl, hz, rfl, rfl, KP, KG⟩ := hrel
          by_cases hz2 : z < 2
          · have hzi : (z : Int) < 2 := by omega
            have c0 := KP.out.cell (p * 2 + z) (by omega)
            have f0 := KP.out.freeAt (by omega) (p * 2 + z) (by omega)
            have st := KP.out.stored (p * 2 + z) (by omega) ((K + (p * 2 + z) : Nat) : Int)
            have e : (markF K (p * 2 + z) fs).set (p * 2 + z) ((K + (p * 2 + z) : Nat) : Int) = markF K (p * 2 + z + 1) fs := markF_set K _ fs (by rw [HL.out]; omega)
            rw [e] at st
            clear e
            have S1 := Lib.hid st.1
            have S2 := Lib.hid (show w.grownBy _ (some g) from ⟨st.2.os.trans KG.out.os, st.2.tape.trans KG.out.tape, st.2.output.trans KG.out.output, Nat.le_trans KG.out.size st.2.size, fun i hi hn => (st.2.block i (Nat.lt_of_lt_of_le hi KG.out.size) hn).trans (KG.out.block i hi hn)⟩)
            clear st
            generalize (markF K (p * 2 + z) fs).getD (p * 2 + z) 0 = y at *
            go_wp2_with fail
            go_roundg (2 - (z + 1))
            case rel => exact ⟨z + 1, rfl, by omega, by go_num, by go_num, S1, S2⟩
            case measure => omega
          · obtain rfl : z = 2 := by omega
            have E : p * 2 + 2 = (p + 1) * 2 := by omega
            rw [E] at KP
            go_wp2_with fail
            go_roundg (n + 1 - (p + 1))
            case rel => exact ⟨p + 1, rfl, by omega, by go_num, by rw [← E], KP, KG⟩
            case measure => omega
      · obtain rfl : p = n + 1 := by omega
        go_wp2_with fail
        go_ret
        exact ⟨rfl, GP.out, ⟨some g, GG.out, fun k hk => by injection hk with hk; subst hk; exact ⟨HBG.out, rfl, by omega⟩⟩⟩


set_option maxHeartbeats 1600000 in
set_option maxRecDepth 100000 in
theorem lawBoundsAlong (ns : List Int) (a : Option Addr) (len cap : Nat) (zs : List Int) (w : World) (h0 : ns.length = 24 ∧ ∀ n ∈ ns, (Lit.int .i64 n).wf = true) (hp : IsPairs w a len zs) :
    Calls Try.prog 7 #[row ns, .slice a len cap] w fun e w' => e = .returned (.bool true) ∧ Kept w w' := by
  have h24 := h0.1
  clear h0
  have hml := hp.1
  have HB := Lib.hid ((kept_refl w).alloc (.cells (ints ns).toArray 25))
  have H := Has.box w 25 h24 (by omega)
  have HP := Lib.hid hp
  clear hp
  rw [row_ints]
  go_enter Try.func7, Try.ntmps7
  go_wp2_with fail
  refine (szA2S a len cap _ hml).mono ?_
  rintro e w0 ⟨⟨r, rfl, hr⟩, rfl⟩
  by_cases hneg : r < 0
  · clear hr
    go_wp2_with fail
    go_ret
    exact ⟨rfl, HB.out⟩
  have hlen : len ≤ 1048576 := by omega
  have hneg2 : decide (r < 0) = false := by simpa using hneg
  clear hr
  have hN := alongN_le ns zs len
  generalize hAN : alongN ns zs len = N at *
  generalize hAF : alongF ns zs len = A at *
  have HAN := Lib.hid hAN
  have HAF := Lib.hid hAF
  clear hAN hAF
  go_wp2_with (refine load_has rfl 25 _ rfl _ rfl ?_ 24 ?_ _ Try.underlying25 rfl ?_ ?_; rotate_left; (· (repeat (first | (with_reducible assumption) | ((with_reducible refine Has.box _ _ ?_ ?_) <;> (first | assumption | decide)) | (with_reducible refine Has.alloc ?_ _) | ((with_reducible refine Has.putOther ?_ _ _ ?_); rotate_left; omega; skip) | ((with_reducible refine Has.below ?_ ?_); rotate_left; assumption)))); (· kernel_rfl))
  refine (toRack_any ns _ h24).mono ?_
  rintro e w1 ⟨rfl, b1⟩
  replace H := H.below b1
  replace HB := Lib.hid (HB.out.call b1)
  clear b1
  go_wp2_with fail
  refine (toA2S a len cap zs _ (HP.out.below HB.out) hlen).mono ?_
  rintro e w2 ⟨v2, rfl, q2, b2⟩
  replace H := H.below b2
  replace HB := Lib.hid (HB.out.call b2)
  have Q2 := Lib.hid q2
  clear b2 q2
  go_wp2_with fail
  refine (specAlong ns zs v2 len _ _ h24 hlen Q2.out.rw).mono ?_
  rintro e w3 ⟨v3, rfl, q3, b3⟩
  rw [HAN.out, HAF.out] at q3
  replace H := H.below b3
  replace HB := Lib.hid (HB.out.call b3)
  have Q3 := Lib.hid q3
  clear b3 q3 Q2
  go_wp2_with fail
  refine (toA2S a len cap zs _ (HP.out.below HB.out) hlen).mono ?_
  rintro e w4 ⟨v4, rfl, q4, b4⟩
  have hs34 := Lib.hid b4.size
  have own3 := Lib.hid (fun k hk => (Q3.out.own k hk).2)
  have lH := Lib.hid H.lt
  replace H := H.below b4
  have hs3 := Lib.hid HB.out.size
  replace HB := Lib.hid (HB.out.call b4)
  replace Q3 := Lib.hid (Q3.out.below b4)
  have Q4 := Lib.hid q4.rw
  clear b4 q4
  go_wp2_with (refine load_has rfl 25 _ rfl _ rfl ?_ 24 ?_ _ Try.underlying25 rfl ?_ ?_; rotate_left; (· (repeat (first | (with_reducible assumption) | ((with_reducible refine Has.box _ _ ?_ ?_) <;> (first | assumption | decide)) | (with_reducible refine Has.alloc ?_ _) | ((with_reducible refine Has.putOther ?_ _ _ ?_); rotate_left; omega; skip) | ((with_reducible refine Has.below ?_ ?_); rotate_left; assumption)))); (· kernel_rfl))
  refine (toRack_any ns _ h24).mono ?_
  rintro e w5 ⟨rfl, b5⟩
  have own4 := Lib.hid (fun hn k hk => (Q4.out.ownlt hn k hk))
  have hs5 := Lib.hid b5.size
  replace H := H.below b5
  replace HB := Lib.hid (HB.out.call b5)
  replace Q3 := Lib.hid (Q3.out.below b5)
  replace Q4 := Lib.hid (Q4.out.below b5)
  clear b5
  go_wp2_with fail
  refine (implAlong ns zs v4 len _ _ h24 hlen Q4.out).mono ?_
  rintro e w6 ⟨v6, rfl, q6, b6⟩
  rw [HAN.out, HAF.out] at q6
  have hs6 := Lib.hid b6.size
  replace H := H.below b6
  replace HB := Lib.hid (HB.out.call b6)
  replace Q3 := Lib.hid (Q3.out.below b6)
  replace Q4 := Lib.hid (Q4.out.below b6)
  have own6 := Lib.hid (fun k hk => (q6.own k hk).1)
  have Q6 := Lib.hid q6
  clear b6 q6
  go_wp2_with fail
  refine (eqIntS_same v6 v3 _ _ N A _ (by omega) Q6.out Q3.out).mono ?_
  rintro e w7 ⟨rfl, b7⟩
  replace H := H.below b7
  replace HB := Lib.hid (HB.out.call b7)
  replace Q3 := Lib.hid (Q3.out.below b7)
  replace Q4 := Lib.hid (Q4.out.below b7)
  replace Q6 := Lib.hid (Q6.out.below b7)
  clear b7
  go_wp2_with fail
  refine (toA2S a len cap zs _ (HP.out.below HB.out) hlen).mono ?_
  rintro e w8 ⟨v8, rfl, q8, b8⟩
  replace H := H.below b8
  replace HB := Lib.hid (HB.out.call b8)
  replace Q3 := Lib.hid (Q3.out.below b8)
  replace Q4 := Lib.hid (Q4.out.below b8)
  replace Q6 := Lib.hid (Q6.out.below b8)
  have Q8 := Lib.hid q8.rw
  clear b8 q8
  go_wp2_with fail
  refine (eqRw_same v4 v8 _ _ len zs _ hlen Q4.out Q8.out).mono ?_
  rintro e w9 ⟨rfl, b9⟩
  replace H := H.below b9
  replace HB := Lib.hid (HB.out.call b9)
  replace Q3 := Lib.hid (Q3.out.below b9)
  replace Q4 := Lib.hid (Q4.out.below b9)
  replace Q6 := Lib.hid (Q6.out.below b9)
  clear b9 Q8
  go_wp2_with fail
  obtain ⟨y, hy, hy0⟩ : ∃ y : Int, y = ((1 + len * 2 : Nat) : Int) ∧ 0 ≤ y := ⟨_, rfl, by omega⟩
  have HY := Lib.hid hy
  clear hy
  refine (markBig _ v4 len 1 _ _ (by omega) (by omega) Q4.out).mono ?_
  rintro e wa ⟨rfl, m1, ⟨ra, m2, m3⟩⟩
  rw [← HY.out]
  have k4 := Lib.hid (fun k hk => (show w3.heap.size ≤ k ∧ k < w4.heap.size from by
    obtain ⟨x1, x2, x3⟩ := m3 k hk
    have := own4.out x3 k x2
    exact this))
  replace H := H.grown m2 (fun k hk => by have := (k4.out k hk).1; have := lH.out; omega)
  replace HB := Lib.hid (show Kept w wa from HB.out.grown m2 HB.out.size (fun k hk => by have := (k4.out k hk).1; have := hs3.out; omega))
  replace Q3 := Lib.hid (Q3.out.grownP m2 (fun k hk => .inr (fun e => by have := (k4.out k hk).1; have := own3.out k e; omega)))
  replace Q6 := Lib.hid (Q6.out.grownP m2 (fun k hk => .inr (fun e => by have := (k4.out k hk).2; have := own6.out k e; have := hs5.out; have := hs6.out; omega)))
  clear m1 m2 m3 Q4 k4 own4
  have yl : decide (y < 0) = false := by simp; omega
  go_wp2_with fail
  refine (eqIntS_same v6 v3 _ _ N A _ (by omega) Q6.out Q3.out).mono ?_
  rintro e wb ⟨rfl, bb⟩
  replace H := H.below bb
  replace HB := Lib.hid (HB.out.call bb)
  replace Q3 := Lib.hid (Q3.out.below bb)
  replace Q6 := Lib.hid (Q6.out.below bb)
  clear bb
  go_wp2_with fail
  obtain ⟨z, hz, hz0, hz1⟩ : ∃ z : Int, z = ((1 + N : Nat) : Int) ∧ 0 ≤ z ∧ z ≤ 99 := ⟨_, rfl, by omega, by omega⟩
  have HZ := Lib.hid hz
  clear hz
  refine (markIntS_any _ v6 N 1 _ _ (by omega) (by omega) Q6.out).mono ?_
  rintro e wc ⟨rfl, n1, n2⟩
  rw [← HZ.out]
  replace H := H.grown n2 (fun k hk => by have := own6.out k hk; have := lH.out; have := hs34.out; have := hs5.out; omega)
  replace HB := Lib.hid (show Kept w wc from HB.out.grown n2 HB.out.size (fun k hk => by have := own6.out k hk; have := hs3.out; have := hs34.out; have := hs5.out; omega))
  replace Q3 := Lib.hid (Q3.out.grownP n2 (fun k hk => .inr (fun e => by have := own6.out k hk; have := own3.out k e; have := hs34.out; have := hs5.out; omega)))
  have R6 := Lib.hid n1
  clear n1 n2 Q6 own6
  have zl : decide (z < 0) = false := by simp; omega
  go_wp2_with fail
  refine (heldIntS_any _ v6 N 1 _ _ (by omega) (by omega) R6.out).mono ?_
  rintro e w' ⟨rfl, rfl⟩
  rw [← HZ.out]
  go_wp2_with (refine load_has rfl 25 _ rfl _ rfl ?_ 24 ?_ _ Try.underlying25 rfl ?_ ?_; rotate_left; (· (repeat (first | (with_reducible assumption) | ((with_reducible refine Has.box _ _ ?_ ?_) <;> (first | assumption | decide)) | (with_reducible refine Has.alloc ?_ _) | ((with_reducible refine Has.putOther ?_ _ _ ?_); rotate_left; omega; skip) | ((with_reducible refine Has.below ?_ ?_); rotate_left; assumption)))); (· kernel_rfl))
  refine (toRack_any ns _ h24).mono ?_
  rintro e wd ⟨rfl, bd⟩
  replace HB := Lib.hid (HB.out.call bd)
  replace Q3 := Lib.hid (Q3.out.below bd)
  replace R6 := Lib.hid (R6.out.below bd)
  clear bd H
  go_wp2_with fail
  refine (toA2S a len cap zs _ (HP.out.below HB.out) hlen).mono ?_
  rintro e we ⟨ve, rfl, qe, be⟩
  replace HB := Lib.hid (HB.out.call be)
  replace Q3 := Lib.hid (Q3.out.below be)
  replace R6 := Lib.hid (R6.out.below be)
  have Qe := Lib.hid qe.rw
  clear be qe
  go_wp2_with fail
  refine (implAlong ns zs ve len _ _ h24 hlen Qe.out).mono ?_
  rintro e wf ⟨vf, rfl, qf, bf⟩
  rw [HAN.out, HAF.out] at qf
  replace HB := Lib.hid (HB.out.call bf)
  replace Q3 := Lib.hid (Q3.out.below bf)
  replace R6 := Lib.hid (R6.out.below bf)
  have Qf := Lib.hid qf
  clear bf qf Qe
  go_wp2_with fail
  refine (eqIntS_same vf v3 _ _ N A _ (by omega) Qf.out Q3.out).mono ?_
  rintro e wg ⟨rfl, bg⟩
  replace HB := Lib.hid (HB.out.call bg)
  replace R6 := Lib.hid (R6.out.below bg)
  clear bg Qf Q3
  go_wp2_with fail
  refine (heldIntS_any _ v6 N 1 _ _ (by omega) (by omega) R6.out).mono ?_
  rintro e w' ⟨rfl, rfl⟩
  rw [← HZ.out]
  go_wp2_with fail
  go_ret
  exact ⟨rfl, HB.out⟩
end Go.Proofs.Ytmodkllhdeknoab.base
