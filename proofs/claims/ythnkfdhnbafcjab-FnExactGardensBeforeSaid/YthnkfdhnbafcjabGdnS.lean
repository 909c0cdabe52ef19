/-
  The gardens before a rack, on the model's side, walked.
-/
import Derived.Test.YthnkfdhnbafcjabGdnM
import Derived.Test.YthnkfdhnbafcjabRbS
namespace Go.Proofs.Ythnkfdhnbafcjab.base
open Go.ChangeShapes Go.WideShapes Go.ChangeAt Go.RowKit
set_option linter.unusedVariables false
set_option linter.unusedSimpArgs false

set_option maxHeartbeats 3200000 in
set_option maxRecDepth 100000 in
theorem specGardensBefore (ns : List Int) (w : World) (h24 : ns.length = 24) :
    Calls Try.prog 27 #[row ns] w (GdPost ns w) := by
  have HB := Lib.hid (((kept_refl w).alloc (.cells (ints ns).toArray 29)).alloc (.cells #[] 29))
  have H := (Has.box w 29 h24 (by omega)).alloc (.cells #[] 29)
  have P0 := Gr.none (w.alloc (.cells (ints ns).toArray 29)) (w.heap.size + 1) 29 24 (by simp)
  rw [size1] at P0
  have G0 := Lib.hid P0
  clear P0
  rw [row_ints]
  go_enter Try.func27, Try.ntmps27
  go_wp2_with (refine load_has rfl 29 _ rfl _ rfl ?_ 24 ?_ _ Try.underlying29 rfl ?_ ?_; rotate_left; (· (repeat (first | (with_reducible assumption) | ((with_reducible refine Has.box _ _ ?_ ?_) <;> (first | assumption | decide)) | (with_reducible refine Has.alloc ?_ _) | ((with_reducible refine Has.putOther ?_ _ _ ?_); rotate_left; omega; skip) | ((with_reducible refine Has.below ?_ ?_); rotate_left; assumption)))); (· kernel_rfl))
  refine (l2Rack_any ns _ h24).mono ?_
  rintro e w1 ⟨rfl, b1⟩
  replace H := H.below b1
  replace G0 := Lib.hid (G0.out.below b1)
  replace HB := Lib.hid (HB.out.call b1)
  clear b1
  have hbs0 := HB.out.size
  by_cases hv : vR ns = true
  · have HV := Lib.hid hv
    rw [hv]
    clear hv
    have hG2 := (G0.out.own (w.heap.size + 1) rfl).2
    go_wp2_with (refine load_has rfl 29 _ rfl _ rfl ?_ 24 ?_ _ Try.underlying29 rfl ?_ ?_; rotate_left; (· (repeat (first | (with_reducible assumption) | ((with_reducible refine Has.box _ _ ?_ ?_) <;> (first | assumption | decide)) | (with_reducible refine Has.alloc ?_ _) | ((with_reducible refine Has.putOther ?_ _ _ ?_); rotate_left; omega; skip) | ((with_reducible refine Has.below ?_ ?_); rotate_left; assumption)))); (· kernel_rfl))
    refine (l5Racks_any ns _ h24 HV.out).mono ?_
    rintro e w2 ⟨va, rfl, G1a, b2⟩
    have G1 := Lib.hid G1a
    replace G0 := Lib.hid (G0.out.below b2)
    replace HB := Lib.hid (HB.out.call b2)
    clear G1a b2 H
    obtain ⟨a0, cap0, rfl⟩ := G1.out.shape
    have H24 := Lib.hid h24
    have hN := rbA_le h24
    obtain ⟨N, hNN⟩ : ∃ N, (rbA ns).length = N := ⟨_, rfl⟩
    have HNN := Lib.hid hNN
    rw [hNN] at hN
    rw [hNN]
    have X0 : Hid (∀ z, (Value.slice a0 N cap0).ownBlock = some z → (Value.slice (some ⟨w.heap.size + 1, 0, none⟩) 0 0).ownBlock ≠ some z) := Lib.hid (fun z hz e => by
      have h1 := G1.out.own z (by rw [hNN]; exact hz)
      have e := Option.some.inj (show some (w.heap.size + 1) = some z from e)
      omega)
    have G0' := Lib.hid (G0.out.as (gdK_zero ns).symm)
    have G1' := Lib.hid (show Gr w2 w1.heap.size 29 24 (.slice a0 N cap0) (rbA ns) by have := G1.out; rw [hNN] at this; exact this)
    have G1'' := Lib.hid (G1'.out.mono (b' := 0) (Nat.zero_le _))
    clear G1 G1' hNN G0 h24
    go_wp2_with fail
    go_loopg [4, 6] N (fun gk v i wr => ∃ k : Nat, gk = N - k ∧ k ≤ N ∧ i = .int .i64 k ∧ Hid (Gr wr (w.heap.size + 1) 29 24 v (gdK ns k)) ∧ Hid (Gr wr 0 29 24 (.slice a0 N cap0) (rbA ns)) ∧ Hid (∀ z, (Value.slice a0 N cap0).ownBlock = some z → v.ownBlock ≠ some z) ∧ Hid (Kept w wr))
    case atStart => exact ⟨0, rfl, by omega, rfl, G0', G1'', X0, HB⟩
    case round =>
      obtain ⟨k, rfl, hk, rfl, KO, KS, KX, KB⟩ := hrel
      by_cases hkN : k < N
      · have hki : (k : Int) < (N : Int) := by omega
        have hk0 : (0 : Int) ≤ (k : Int) := by omega
        have hkS : k < (rbA ns).length := by rw [HNN.out]; exact hkN
        obtain ⟨g, c, he, _, hgl⟩ := KS.out.form (by omega)
        rw [HNN.out] at he
        injection he with e1 _ e3
        subst e1
        subst e3
        have hx24 := rbA_item H24.out hkS
        have hxv := rbA_valid H24.out hkS
        have RG := Lib.hid (KS.out.range HNN.out.symm k hkN)
        have YY := Lib.hid (gdK_yes ns hkS)
        have YN := Lib.hid (gdK_no ns hkS)
        have hle := gdK_le H24.out k
        have hbs := KB.out.size
        obtain ⟨x, hx⟩ : ∃ x, (rbA ns).getD k [] = x := ⟨_, rfl⟩
        rw [hx] at hx24 hxv RG YY YN
        have HX := Lib.hid hx
        clear hx hkS
        have hi24 : (Try.prog.info? 29).map (·.size) = some (ints x).length := by rw [ints_len, hx24]; kernel_rfl
        go_wp2_with (refine wpList_load_mid rfl 29 _ rfl g (k * 24) rfl (ints x) _ RG.out Try.underlying29 rfl hi24 ?_)
        refine (l5Sources_any x _ hx24 hxv).mono ?_
        rintro e wc ⟨v5, rfl, G5, b5⟩
        replace KO := Lib.hid (KO.out.below b5)
        replace KS := Lib.hid (KS.out.below b5)
        replace KB := Lib.hid (KB.out.call b5)
        obtain ⟨a5, cap5, rfl⟩ := G5.shape
        have E := Lib.hid (gard_len hxv)
        have hwc := b5.size
        clear G5 b5 RG hxv hbs
        have RG := Lib.hid (show wc.rangeAt g (k * 24) (ints x) from HX.out ▸ KS.out.range HNN.out.symm k hkN)
        have hbs := KB.out.size
        have hg := (KS.out.own g rfl).2
        generalize (srcL x 144).length = n at *
        have D := decLen n
        by_cases hn : n = 0
        · have Y := Lib.hid (YY.out (by rw [E.out, decide_eq_true hn]))
          subst hn
          clear D E YY YN
          go_wp2_with (first | (refine load_has rfl 29 _ rfl _ rfl ?_ 24 ?_ _ Try.underlying29 rfl ?_ ?_; rotate_left; (· (repeat (first | (with_reducible assumption) | ((with_reducible refine Has.box _ _ ?_ ?_) <;> (first | assumption | decide)) | (with_reducible refine Has.alloc ?_ _) | ((with_reducible refine Has.putOther ?_ _ _ ?_); rotate_left; omega; skip) | ((with_reducible refine Has.below ?_ ?_); rotate_left; assumption)))); (· kernel_rfl)) | (refine wpList_load_mid rfl 29 _ rfl g (k * 24) rfl (ints x) _ RG.out Try.underlying29 rfl hi24 ?_) | (refine wpList_slice1 rfl 42 29 _ rfl 24 192 Try.underlying42 (by kernel_rfl) (by omega) (by omega) x rfl hx24 ?_) | (at_builtin; refine append_gr rfl _ _ 42 rfl (w.heap.size + 1) 29 24 192 Try.underlying42 (by kernel_rfl) (by omega) (by omega) _ (gdK ns k).length (gdK ns k) rfl rfl (KO.out.alloc _) wc.heap.size 1 rfl x (Has.box wc 29 hx24 (by omega)) (by rw [size1]; omega) (by omega) ?_; intro g' cu' w4 hG hgrow hlie hlt4))
          have A3 : Hid (Kept w w4) := Lib.hid ((KB.out.alloc (.cells (ints x).toArray 29)).grown hgrow (KB.out.alloc (.cells (ints x).toArray 29)).size (fun j hj => by have := (KO.out.own j hj).1; omega))
          have A4 := Lib.hid (hG.as Y.out.symm)
          have A5 := Lib.hid ((KS.out.alloc (.cells (ints x).toArray 29)).kept hgrow (fun z hz e => KX.out z hz e))
          have A6 : Hid (∀ z, (Value.slice (some ⟨g, 0, none⟩) N cap0).ownBlock = some z → (Value.slice (some ⟨g', 0, none⟩) ((gdK ns k).length + 1) cu').ownBlock ≠ some z) := Lib.hid (fun z hz e => by
            have h1 := Option.some.inj (show some g = some z from hz)
            have h2 := Option.some.inj (show some g' = some z from e)
            rcases hlie with h3 | h3
            · have h3 : u4.ownBlock = some g' := h3
              exact KX.out z hz (by rw [h3, h2])
            · rw [size1] at h3; omega)
          clear hG hgrow hlie KO KS KB KX
          go_wp2_with fail
          go_roundg (N - (k + 1))
          case rel => exact ⟨k + 1, rfl, by omega, by go_num, A4, A5, A6, A3⟩
          case measure => omega
        · have Y := Lib.hid (YN.out (by rw [E.out, decide_eq_false hn]))
          have A4 := Lib.hid (KO.out.as Y.out.symm)
          rw [decide_eq_false hn] at D
          have D2 : (n == 0) = false := by simp; omega
          clear hn E YY YN KO
          go_wp2_with fail
          go_roundg (N - (k + 1))
          case rel => exact ⟨k + 1, rfl, by omega, by go_num, A4, KS, KX, KB⟩
          case measure => omega
      · obtain rfl : k = N := by omega
        have E := Lib.hid (show gdK ns k = gdA ns by unfold gdA; rw [HNN.out])
        go_wp2_with fail
        go_ret2
        exact ⟨_, by rw [HV.out]; rfl, (KO.out.mono (by omega)).as E.out, KB.out⟩
  · have hf : vR ns = false := by simpa using hv
    have HV := Lib.hid hf
    have E := Lib.hid (gdA_no hv)
    rw [hf]
    clear hf hv
    go_wp2_with fail
    go_ret2
    exact ⟨_, by rw [HV.out]; rfl, (G0.out.mono (by omega)).as E.out.symm, HB.out⟩
end Go.Proofs.Ythnkfdhnbafcjab.base
