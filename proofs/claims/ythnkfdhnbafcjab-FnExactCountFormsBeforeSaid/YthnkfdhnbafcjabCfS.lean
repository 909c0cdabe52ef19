/-
  The forms of the racks before a rack, on the model's side, walked.
-/
import Derived.Test.YthnkfdhnbafcjabCfM
import Derived.Test.YthnkfdhnbafcjabRbS
import Derived.Test.YthnkfdhnbafcjabFormS
namespace Go.Proofs.Ythnkfdhnbafcjab.base
open Go.ChangeShapes Go.WideShapes Go.ChangeAt Go.RowKit
set_option linter.unusedVariables false
set_option linter.unusedSimpArgs false

set_option maxHeartbeats 3200000 in
set_option maxRecDepth 100000 in
theorem specCountFormsBefore (ns : List Int) (w : World) (h24 : ns.length = 24) :
    Calls Try.prog 25 #[row ns] w (CfPost ns w) := by
  have HB := Lib.hid ((kept_refl w).alloc (.cells (ints ns).toArray 29))
  have H := Has.box w 29 h24 (by omega)
  rw [row_ints]
  go_enter Try.func25, Try.ntmps25
  go_wp2_with (refine load_has rfl 29 _ rfl _ rfl ?_ 24 ?_ _ Try.underlying29 rfl ?_ ?_; rotate_left; (· (repeat (first | (with_reducible assumption) | ((with_reducible refine Has.box _ _ ?_ ?_) <;> (first | assumption | decide)) | (with_reducible refine Has.alloc ?_ _) | ((with_reducible refine Has.putOther ?_ _ _ ?_); rotate_left; omega; skip) | ((with_reducible refine Has.below ?_ ?_); rotate_left; assumption)))); (· kernel_rfl))
  refine (l2Rack_any ns _ h24).mono ?_
  rintro e w1 ⟨rfl, b1⟩
  replace H := H.below b1
  replace HB := Lib.hid (HB.out.call b1)
  clear b1
  have hbs0 := HB.out.size
  by_cases hv : vR ns = true
  · have HV := Lib.hid hv
    rw [hv]
    clear hv
    have G0 := Lib.hid (Gr.none w1 w1.heap.size 29 24 (Nat.le_refl _))
    replace H := H.alloc (.cells #[] 29)
    replace HB := Lib.hid (HB.out.alloc (.cells #[] 29))
    go_wp2_with (refine load_has rfl 29 _ rfl _ rfl ?_ 24 ?_ _ Try.underlying29 rfl ?_ ?_; rotate_left; (· (repeat (first | (with_reducible assumption) | ((with_reducible refine Has.box _ _ ?_ ?_) <;> (first | assumption | decide)) | (with_reducible refine Has.alloc ?_ _) | ((with_reducible refine Has.putOther ?_ _ _ ?_); rotate_left; omega; skip) | ((with_reducible refine Has.below ?_ ?_); rotate_left; assumption)))); (· kernel_rfl))
    refine (l5Racks_any ns _ h24 HV.out).mono ?_
    rintro e w2 ⟨va, rfl, G1a, b2⟩
    have hro := G1a.own
    rw [size1] at hro
    have G1 := Lib.hid (G1a.mono (b' := 0) (Nat.zero_le _))
    replace G0 := Lib.hid (G0.out.below b2)
    replace HB := Lib.hid (HB.out.call b2)
    clear b2 H
    obtain ⟨a0, cap0, rfl⟩ := G1.out.shape
    have H24 := Lib.hid h24
    have hN := rbA_le h24
    obtain ⟨N, hNN⟩ : ∃ N, (rbA ns).length = N := ⟨_, rfl⟩
    have HNN := Lib.hid hNN
    have G1' := Lib.hid (show Gr w2 0 29 24 (.slice a0 N cap0) (rbA ns) by have := G1.out; rw [hNN] at this; exact this)
    rw [hNN] at hN
    rw [hNN]
    clear G1 hNN h24 G1a hro
    have G0' := Lib.hid (show Gr w2 w1.heap.size 29 24 (.slice (some ⟨w1.heap.size, 0, none⟩) (fmK ns 0).length 0) (fmK ns 0) from G0.out)
    clear G0
    generalize w1.heap.size = B at *
    go_wp2_with fail
    go_loopg [4, 6] N (fun gk v i wr => ∃ k g cap : Nat, gk = N - k ∧ k ≤ N ∧ v = .slice (some ⟨g, 0, none⟩) (fmK ns k).length cap ∧ i = .int .i64 k ∧ Hid (Gr wr B 29 24 (.slice (some ⟨g, 0, none⟩) (fmK ns k).length cap) (fmK ns k)) ∧ Hid (Gr wr 0 29 24 (.slice a0 N cap0) (rbA ns)) ∧ Hid (Kept w wr))
    case atStart => exact ⟨0, B, 0, rfl, by omega, rfl, rfl, G0', G1', HB⟩
    case round =>
      obtain ⟨k, gr, cr, rfl, hk, rfl, rfl, KO, KS, KB⟩ := hrel
      by_cases hkN : k < N
      · have hki : (k : Int) < (N : Int) := by omega
        have hk0 : (0 : Int) ≤ (k : Int) := by omega
        have hkS : k < (rbA ns).length := by rw [HNN.out]; exact hkN
        obtain ⟨g, c, he, _, hgl⟩ := KS.out.form (by omega)
        rw [HNN.out] at he
        injection he with e1 _ e3
        subst e1
        subst e3
        have hx24 := rbA_item H24.out hkS
        have RG := Lib.hid (KS.out.range HNN.out.symm k hkN)
        have hle := (fmK_facts H24.out k (by omega)).2.2
        have Y := Lib.hid (show fmK ns (k + 1) = rkIns (formL ((rbA ns).getD k [])) (fmK ns k) from rfl)
        obtain ⟨x, hx⟩ : ∃ x, (rbA ns).getD k [] = x := ⟨_, rfl⟩
        rw [hx] at hx24 RG Y
        clear hx hkS
        have hi24 : (Try.prog.info? 29).map (·.size) = some (ints x).length := by rw [ints_len, hx24]; kernel_rfl
        have hfl := formL_len x hx24
        go_wp2_with (refine wpList_load_mid rfl 29 _ rfl g (k * 24) rfl (ints x) _ RG.out Try.underlying29 rfl hi24 ?_)
        refine (l3Form_any x _ hx24).mono ?_
        rintro e w3 ⟨rfl, b3⟩
        replace KO := Lib.hid (KO.out.below b3)
        replace KS := Lib.hid (KS.out.below b3)
        replace KB := Lib.hid (KB.out.call b3)
        clear b3 RG
        have hol := KO.out.own gr rfl
        go_wp2_with fail
        refine (l5Put_any (fmK ns k) (formL x) B gr (fmK ns k).length cr _ hfl rfl (by omega) (by omega) KO.out).mono ?_
        rintro e w4 ⟨g', cap', rfl, GP, b4⟩
        rw [← Y.out] at GP ⊢
        have A4 := Lib.hid GP
        have A5 := Lib.hid (KS.out.below b4)
        have A3 := Lib.hid (KB.out.call b4)
        clear GP b4 KO KS KB
        go_wp2_with fail
        go_roundg (N - (k + 1))
        case rel => exact ⟨k + 1, g', cap', rfl, by omega, rfl, by go_num, A4, A5, A3⟩
        case measure => omega
      · obtain rfl : k = N := by omega
        have E := Lib.hid (show (fmK ns k).length = cfA ns by unfold cfA; rw [HNN.out])
        go_wp2_with fail
        go_ret2
        exact ⟨by rw [HV.out, ← E.out]; rfl, KB.out⟩
  · have hf : vR ns = false := by simpa using hv
    have HV := Lib.hid hf
    have E := Lib.hid (cfA_no hv)
    rw [hf]
    clear hf hv
    go_wp2_with fail
    go_ret2
    exact ⟨by rw [HV.out, E.out]; rfl, HB.out⟩
end Go.Proofs.Ythnkfdhnbafcjab.base
