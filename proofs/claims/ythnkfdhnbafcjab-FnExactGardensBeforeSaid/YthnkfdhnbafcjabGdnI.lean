/-
  The gardens before a rack, on the program's side, walked.
-/
import Derived.Test.YthnkfdhnbafcjabGdnM
namespace Go.Proofs.Ythnkfdhnbafcjab.base
open Go.ChangeShapes Go.WideShapes Go.ChangeAt Go.RowKit
set_option linter.unusedVariables false
set_option linter.unusedSimpArgs false

set_option maxHeartbeats 3200000 in
set_option maxRecDepth 100000 in
theorem implGardensBefore (ns : List Int) (w : World) (h24 : ns.length = 24) :
    Calls Try.prog 28 #[row ns] w (GdPost ns w) := by
  have HB := Lib.hid ((kept_refl w).alloc (.cells (ints ns).toArray 29))
  have H := Has.box w 29 h24 (by omega)
  rw [row_ints]
  go_enter Try.func28, Try.ntmps28
  go_wp2_with (refine load_has rfl 29 _ rfl _ rfl ?_ 24 ?_ _ Try.underlying29 rfl ?_ ?_; rotate_left; (· (repeat (first | (with_reducible assumption) | ((with_reducible refine Has.box _ _ ?_ ?_) <;> (first | assumption | decide)) | (with_reducible refine Has.alloc ?_ _) | ((with_reducible refine Has.putOther ?_ _ _ ?_); rotate_left; omega; skip) | ((with_reducible refine Has.below ?_ ?_); rotate_left; assumption)))); (· kernel_rfl))
  refine (implRacksBefore ns _ h24).mono ?_
  rintro e w1 ⟨va, rfl, G1a, b1⟩
  replace HB := Lib.hid (HB.out.call b1)
  have hbs0 := HB.out.size
  have hw1 := b1.size
  rw [size1] at hw1
  have G0 := Lib.hid ((Gr.none w1 w1.heap.size 29 24 (Nat.le_refl _)).mono (b' := w.heap.size + 1) hw1)
  have G1 := Lib.hid (G1a.alloc (.cells #[] 29))
  have hG1 := G1a.own
  replace HB := Lib.hid (HB.out.alloc (.cells #[] 29))
  have HV : Hid (vR ns = vR ns) := Lib.hid rfl
  generalize hvr : vR ns = VR at *
  replace HV := Lib.hid hvr
  clear G1a b1 H hvr
  obtain ⟨a0, cap0, rfl⟩ := G1.out.shape
  have H24 := Lib.hid h24
  have hN := rbA_le h24
  obtain ⟨N, hNN⟩ : ∃ N, (rbA ns).length = N := ⟨_, rfl⟩
  have HNN := Lib.hid hNN
  rw [hNN] at hN
  rw [hNN]
  have X0 : Hid (∀ z, (Value.slice a0 N cap0).ownBlock = some z → (Value.slice (some ⟨w1.heap.size, 0, none⟩) 0 0).ownBlock ≠ some z) := Lib.hid (fun z hz e => by
    have h1 := hG1 z (by rw [hNN]; exact hz)
    have e := Option.some.inj (show some (w1.heap.size) = some z from e)
    omega)
  have G0' := Lib.hid (G0.out.as (gdK_zero ns).symm)
  have G1' := Lib.hid (show Gr (w1.alloc (.cells #[] 29)) (w.alloc (.cells (ints ns).toArray 29)).heap.size 29 24 (.slice a0 N cap0) (rbA ns) by have := G1.out; rw [hNN] at this; exact this)
  have G1'' := Lib.hid (G1'.out.mono (b' := 0) (Nat.zero_le _))
  clear G1 G1' hNN G0 h24
  go_wp2_with fail
  go_loopg [6, 19] N (fun gk v i wr => ∃ k : Nat, gk = N - k ∧ k ≤ N ∧ i = .int .i64 k ∧ Hid (Gr wr (w.heap.size + 1) 29 24 v (gdK ns k)) ∧ Hid (Gr wr 0 29 24 (.slice a0 N cap0) (rbA ns)) ∧ Hid (∀ z, (Value.slice a0 N cap0).ownBlock = some z → v.ownBlock ≠ some z) ∧ Hid (Kept w wr))
  case atStart => exact ⟨0, rfl, by omega, rfl, G0', G1'', X0, HB⟩
  case round =>
    obtain ⟨k, rfl, hk, rfl, KO, KS, KX, KB⟩ := hrel
    by_cases hkN : k < N
    · have hki : (k : Int) < (N : Int) := by omega
      have hk0 : (0 : Int) ≤ (k : Int) := by omega
      have hkS : k < (rbA ns).length := by rw [HNN.out]; exact hkN
      obtain ⟨g, c, he, _, hgl⟩ := KS.out.form (by omega)
      rw [HNN.out] at he
      injection he with e1 _ e3
      subst e1
      subst e3
      have hx24 := rbA_item H24.out hkS
      have hxv := rbA_valid H24.out hkS
      have RG := Lib.hid (KS.out.range HNN.out.symm k hkN)
      have YY := Lib.hid (gdK_yes ns hkS)
      have YN := Lib.hid (gdK_no ns hkS)
      have hle := gdK_le H24.out k
      have hbs := KB.out.size
      obtain ⟨x, hx⟩ : ∃ x, (rbA ns).getD k [] = x := ⟨_, rfl⟩
      rw [hx] at hx24 hxv RG YY YN
      have HX := Lib.hid hx
      clear hx hkS
      have hi24 : (Try.prog.info? 29).map (·.size) = some (ints x).length := by rw [ints_len, hx24]; kernel_rfl
      have RR := Has.box wr 29 hx24 (by omega)
      have hgo := (KS.out.own g rfl).2
      replace KO := Lib.hid (KO.out.alloc (.cells (ints x).toArray 29))
      replace KS := Lib.hid (KS.out.alloc (.cells (ints x).toArray 29))
      replace KB := Lib.hid (KB.out.alloc (.cells (ints x).toArray 29))
      go_wp2_with (first | (refine wpList_load_mid rfl 29 _ rfl g (k * 24) rfl (ints x) _ RG.out Try.underlying29 rfl hi24 ?_) | (refine store_new rfl 29 _ _ rfl _ _ _ rfl _ rfl _ rfl rfl ?_ ?_ ?_; (· (first | assumption | rfl)); (· kernel_rfl)) | (refine load_has rfl 29 _ rfl _ rfl ?_ 24 ?_ _ Try.underlying29 rfl ?_ ?_; rotate_left; (· (repeat (first | (with_reducible assumption) | ((with_reducible refine Has.box _ _ ?_ ?_) <;> (first | assumption | decide)) | (with_reducible refine Has.alloc ?_ _) | ((with_reducible refine Has.putOther ?_ _ _ ?_); rotate_left; omega; skip) | ((with_reducible refine Has.below ?_ ?_); rotate_left; assumption)))); (· kernel_rfl)))
      refine (implGarden x _ hx24).mono ?_
      rintro e wc ⟨rfl, b5⟩
      replace KO := Lib.hid (KO.out.below b5)
      replace KS := Lib.hid (KS.out.below b5)
      replace KB := Lib.hid (KB.out.call b5)
      replace RR := RR.below b5
      clear b5 RG hxv hbs
      have hbs := KB.out.size
      have hg := (KS.out.own g rfl).2
      have hrrl := RR.lt
      by_cases hn : gardA x = true
      · have Y := Lib.hid (YY.out hn)
        rw [hn]
        clear YY YN hn
        go_wp2_with (first | (refine load_has rfl 29 _ rfl _ rfl ?_ 24 ?_ _ Try.underlying29 rfl ?_ ?_; rotate_left; (· (repeat (first | (with_reducible assumption) | ((with_reducible refine Has.box _ _ ?_ ?_) <;> (first | assumption | decide)) | (with_reducible refine Has.alloc ?_ _) | ((with_reducible refine Has.putOther ?_ _ _ ?_); rotate_left; omega; skip) | ((with_reducible refine Has.below ?_ ?_); rotate_left; assumption)))); (· kernel_rfl)) | (refine wpList_load_mid rfl 29 _ rfl g (k * 24) rfl (ints x) _ RG.out Try.underlying29 rfl hi24 ?_) | (refine wpList_slice1 rfl 42 29 _ rfl 24 192 Try.underlying42 (by kernel_rfl) (by omega) (by omega) x rfl hx24 ?_) | (at_builtin; refine append_gr rfl _ _ 42 rfl (w.heap.size + 1) 29 24 192 Try.underlying42 (by kernel_rfl) (by omega) (by omega) _ (gdK ns k).length (gdK ns k) rfl rfl (KO.out.alloc _) wc.heap.size 1 rfl x (Has.box wc 29 hx24 (by omega)) (by rw [size1]; omega) (by omega) ?_; intro g' cu' w4 hG hgrow hlie hlt4))
        have A3 : Hid (Kept w w4) := Lib.hid ((KB.out.alloc (.cells (ints x).toArray 29)).grown hgrow (KB.out.alloc (.cells (ints x).toArray 29)).size (fun j hj => by have := (KO.out.own j hj).1; omega))
        have A4 := Lib.hid (hG.as Y.out.symm)
        have A5 := Lib.hid ((KS.out.alloc (.cells (ints x).toArray 29)).kept hgrow (fun z hz e => KX.out z hz e))
        have A6 : Hid (∀ z, (Value.slice (some ⟨g, 0, none⟩) N cap0).ownBlock = some z → (Value.slice (some ⟨g', 0, none⟩) ((gdK ns k).length + 1) cu').ownBlock ≠ some z) := Lib.hid (fun z hz e => by
          have h1 := Option.some.inj (show some g = some z from hz)
          have h2 := Option.some.inj (show some g' = some z from e)
          rcases hlie with h3 | h3
          · have h3 : u6.ownBlock = some g' := h3
            exact KX.out z hz (by rw [h3, h2])
          · rw [size1] at h3; omega)
        clear hG hgrow hlie KO KS KB KX
        go_wp2_with fail
        go_roundg (N - (k + 1))
        case rel => exact ⟨k + 1, rfl, by omega, by go_num, A4, A5, A6, A3⟩
        case measure => omega
      · have hf : gardA x = false := by simpa using hn
        have Y := Lib.hid (YN.out hf)
        have A4 := Lib.hid (KO.out.as Y.out.symm)
        rw [hf]
        clear hn hf YY YN KO
        go_wp2_with fail
        go_roundg (N - (k + 1))
        case rel => exact ⟨k + 1, rfl, by omega, by go_num, A4, KS, KX, KB⟩
        case measure => omega
    · obtain rfl : k = N := by omega
      have E := Lib.hid (show gdK ns k = gdA ns by unfold gdA; rw [HNN.out])
      go_wp2_with fail
      go_ret2
      exact ⟨_, by rw [HV.out]; rfl, (KO.out.mono (by omega)).as E.out, KB.out⟩
end Go.Proofs.Ythnkfdhnbafcjab.base
