/-
  The racks before a rack, on the program's side, walked: a row of racks is sorted by the library's slices.SortFunc.
-/
import Derived.Test.YthnkfdhnbafcjabRbM
import Derived.Test.YthnkfdhnbafcjabCmpR
import Derived.Test.YthnkfdhnbafcjabLaySortR
import Derived.Test.YthnkfdhnbafcjabSrc
import Derived.Test.YthnkfdhnbafcjabFill
import Derived.Deep.Cut
import Derived.Deep.CutRange
import Derived.Deep.RegionHeld3
namespace Go.Proofs.Ythnkfdhnbafcjab.base
open Go.ChangeShapes Go.WideShapes Go.ChangeAt Go.RowKit
set_option linter.unusedVariables false
set_option linter.unusedSimpArgs false

def bK (ns : List Int) (k : Nat) : List (List Int) := ((srcA ns).take k).map (backRL ns)
theorem bK_zero (ns : List Int) : bK ns 0 = [] := rfl
theorem bK_step (ns : List Int) {k : Nat} (h : k < (srcA ns).length) : bK ns (k + 1) = bK ns k ++ [backRL ns ((srcA ns).getD k [])] := by
  unfold bK
  rw [List.take_add_one, List.getElem?_eq_getElem h, List.map_append, List.getD_eq_getElem?_getD, List.getElem?_eq_getElem h]; rfl
theorem bK_len (ns : List Int) {k : Nat} (h : k ≤ (srcA ns).length) : (bK ns k).length = k := by
  unfold bK; rw [List.length_map, List.length_take]; omega
theorem bK_all (ns : List Int) : bK ns (srcA ns).length = (srcA ns).map (backRL ns) := by unfold bK; rw [List.take_length]
theorem srcI_item (b : List Int) {k : Nat} (h : k < (srcA b).length) : ((srcA b).getD k []).length = 3 := srcA_len3 b _ (getD_mem h)
def RbPost (ns : List Int) (w : World) (e : Ending) (w' : World) : Prop := ∃ v : Value, e = .returned (.tuple #[v, .bool (vR ns)]) ∧ Gr w' w.heap.size 29 24 v (rbA ns) ∧ Kept w w'

set_option maxHeartbeats 3200000 in
set_option maxRecDepth 100000 in
theorem implRacksBefore (ns : List Int) (w : World) (h24 : ns.length = 24) :
    Calls Try.prog 21 #[row ns] w (RbPost ns w) := by
  have HB := Lib.hid (((kept_refl w).alloc (.cells (ints ns).toArray 29)).alloc (.cells #[] 29))
  have H := (Has.box w 29 h24 (by omega)).alloc (.cells #[] 29)
  have P0 := Gr.none (w.alloc (.cells (ints ns).toArray 29)) (w.heap.size + 1) 29 24 (by simp)
  rw [size1] at P0
  have G0 := Lib.hid (P0.as (bK_zero ns).symm)
  clear P0
  rw [row_ints]
  go_enter Try.func21, Try.ntmps21
  have hHH := H.lt
  have hG2 := (G0.out.own (w.heap.size + 1) rfl).2
  go_wp2_with (refine load_has rfl 29 _ rfl _ rfl ?_ 24 ?_ _ Try.underlying29 rfl ?_ ?_; rotate_left; (· (repeat (first | (with_reducible assumption) | ((with_reducible refine Has.box _ _ ?_ ?_) <;> (first | assumption | decide)) | (with_reducible refine Has.alloc ?_ _) | ((with_reducible refine Has.putOther ?_ _ _ ?_); rotate_left; omega; skip) | ((with_reducible refine Has.below ?_ ?_); rotate_left; assumption)))); (· kernel_rfl))
  refine (implSources ns _ h24).mono ?_
  rintro e w1 ⟨va, rfl, G1a, b1⟩
  have G1 := Lib.hid (G1a.mono (b' := w.heap.size + 1 + 1) (by simp))
  replace H := H.below b1
  replace G0 := Lib.hid (G0.out.below b1)
  replace HB := Lib.hid (HB.out.call b1)
  clear G1a b1
  have H24 := Lib.hid h24
  obtain ⟨a0, cap0, rfl⟩ := G1.out.shape
  have EL := Lib.hid (fun W (x : List Int) (h3 : x.length = 3) => implBackL ns x W H24.out h3)
  have hN := srcA_le ns
  obtain ⟨N, hNN⟩ : ∃ N, (srcA ns).length = N := ⟨_, rfl⟩
  have HNN := Lib.hid hNN
  rw [hNN] at hN
  rw [hNN]
  have X0 : Hid (∀ z, (Value.slice a0 N cap0).ownBlock = some z → z ≠ w.heap.size + 1) := Lib.hid (fun z hz e => by
    have h1 := (G1.out.own z (by rw [hNN]; exact hz)).1
    omega)
  have G1' := Lib.hid (show Gr w1 (w.heap.size + 1 + 1) 60 3 (.slice a0 N cap0) (srcA ns) by have := G1.out; rw [hNN] at this; exact this)
  have G1'' := Lib.hid (G1'.out.mono (b' := 0) (Nat.zero_le _))
  generalize hvr : vR ns = VR at *
  have HVR := Lib.hid hvr
  clear G1 G1' hNN h24 hvr
  go_wp2_with fail
  go_loopg [4, 19] N (fun gk v i wr => ∃ k g cap : Nat, gk = N - k ∧ k ≤ N ∧ v = .slice (some ⟨g, 0, none⟩) k cap ∧ i = .int .i64 k ∧ Has wr w.heap.size ns 24 ∧ Hid (Gr wr (w.heap.size + 1) 29 24 (.slice (some ⟨g, 0, none⟩) k cap) (bK ns k)) ∧ Hid (Gr wr 0 60 3 (.slice a0 N cap0) (srcA ns)) ∧ Hid (∀ z, (Value.slice a0 N cap0).ownBlock = some z → z ≠ g) ∧ Hid (Kept w wr))
  case atStart => exact ⟨0, w.heap.size + 1, 0, rfl, by omega, rfl, rfl, H, G0, G1'', X0, HB⟩
  case round =>
    obtain ⟨k, gr, cr, rfl, hk, rfl, rfl, KA, KO, KS, KX, KB⟩ := hrel
    have hbl := bK_len ns (k := k) (by rw [HNN.out]; exact hk)
    by_cases hkN : k < N
    · have hki : (k : Int) < (N : Int) := by omega
      have hk0 : (0 : Int) ≤ (k : Int) := by omega
      have hkS : k < (srcA ns).length := by rw [HNN.out]; exact hkN
      obtain ⟨g, c, he, _, hgl⟩ := KS.out.form (by omega)
      rw [HNN.out] at he
      injection he with e1 _ e3
      subst e1
      subst e3
      have hx3 := srcI_item ns hkS
      have RG := Lib.hid (KS.out.range HNN.out.symm k hkN)
      have Y := Lib.hid (bK_step ns hkS)
      have hbs := KB.out.size
      have hA := KA.lt
      obtain ⟨x, hx⟩ : ∃ x, (srcA ns).getD k [] = x := ⟨_, rfl⟩
      rw [hx] at hx3 RG Y
      clear hx hkS
      have hi3 : (Try.prog.info? 60).map (·.size) = some (ints x).length := by rw [ints_len, hx3]; kernel_rfl
      have hrl := backRL_len H24.out x
      have SB1 := Has.box wr 60 hx3 (by omega)
      replace KA := KA.alloc (.cells (ints x).toArray 60)
      replace KO := Lib.hid (KO.out.alloc (.cells (ints x).toArray 60))
      replace KS := Lib.hid (KS.out.alloc (.cells (ints x).toArray 60))
      replace KB := Lib.hid (KB.out.alloc (.cells (ints x).toArray 60))
      go_wp2_with (first | (refine wpList_load_mid rfl 60 _ rfl g (k * 3) rfl (ints x) _ RG.out Try.underlying60 rfl hi3 ?_) | (refine store_new rfl 60 _ _ rfl _ _ _ rfl _ rfl _ rfl rfl ?_ ?_ ?_; (· (first | assumption | rfl)); (· kernel_rfl)) | (refine load_has rfl 29 _ rfl _ rfl ?_ 24 ?_ _ Try.underlying29 rfl ?_ ?_; rotate_left; (· (repeat (first | (with_reducible assumption) | ((with_reducible refine Has.box _ _ ?_ ?_) <;> (first | assumption | decide)) | (with_reducible refine Has.alloc ?_ _) | ((with_reducible refine Has.putOther ?_ _ _ ?_); rotate_left; omega; skip) | ((with_reducible refine Has.below ?_ ?_); rotate_left; assumption)))); (· kernel_rfl)) | (refine load_has rfl 60 _ rfl _ rfl ?_ 3 ?_ _ Try.underlying60 rfl ?_ ?_; rotate_left; (· (repeat (first | (with_reducible assumption) | ((with_reducible refine Has.box _ _ ?_ ?_) <;> (first | assumption | decide)) | (with_reducible refine Has.alloc ?_ _) | ((with_reducible refine Has.putOther ?_ _ _ ?_); rotate_left; omega; skip) | ((with_reducible refine Has.below ?_ ?_); rotate_left; assumption)))); (· kernel_rfl)))
      refine (EL.out _ x hx3).mono ?_
      rintro e w2 ⟨rfl, b2⟩
      have RR := Has.box w2 29 hrl (by omega)
      have hl2 := b2.size
      have hl3 := SB1.lt
      replace KA := (KA.below b2).alloc (.cells (ints (backRL ns x)).toArray 29)
      replace KO := Lib.hid ((KO.out.below b2).alloc (.cells (ints (backRL ns x)).toArray 29))
      replace KS := Lib.hid ((KS.out.below b2).alloc (.cells (ints (backRL ns x)).toArray 29))
      replace KB := Lib.hid ((KB.out.call b2).alloc (.cells (ints (backRL ns x)).toArray 29))
      clear RG hA hbs b2 SB1
      go_upto_region 7 with (refine store_new rfl 29 _ _ rfl _ _ _ rfl _ rfl _ rfl rfl ?_ ?_ ?_; (· (first | assumption | rfl)); (· kernel_rfl))
      generalize w2.alloc (.cells (ints (backRL ns x)).toArray 29) = wc at *
      have hbs := KB.out.size
      have hA := KA.lt
      have hg := (KS.out.own g rfl).2
      have hgr := KO.out.own gr rfl
      have hrrl := RR.lt
      go_wp2_with (first | (refine load_has rfl 29 _ rfl _ rfl ?_ 24 ?_ _ Try.underlying29 rfl ?_ ?_; rotate_left; (· (repeat (first | (with_reducible assumption) | ((with_reducible refine Has.box _ _ ?_ ?_) <;> (first | assumption | decide)) | (with_reducible refine Has.alloc ?_ _) | ((with_reducible refine Has.putOther ?_ _ _ ?_); rotate_left; omega; skip) | ((with_reducible refine Has.below ?_ ?_); rotate_left; assumption)))); (· kernel_rfl)) | (refine wpList_slice1 rfl 42 29 _ rfl 24 192 Try.underlying42 (by kernel_rfl) (by omega) (by omega) (backRL ns x) rfl hrl ?_) | (at_builtin; refine append_gr rfl _ _ 42 rfl (w.heap.size + 1) 29 24 192 Try.underlying42 (by kernel_rfl) (by omega) (by omega) _ k (bK ns k) hbl rfl (KO.out.alloc _) wc.heap.size 1 rfl (backRL ns x) (Has.box wc 29 hrl (by omega)) (by rw [size1]; omega) (by omega) ?_; intro g' cu' w4 hG hgrow hlie hlt4))
      have A1 := (KA.alloc (.cells (ints (backRL ns x)).toArray 29)).grownNo hgrow (fun e => by have e := Option.some.inj (show some w.heap.size = some gr from e); omega)
      have A3 : Hid (Kept w w4) := Lib.hid ((KB.out.alloc (.cells (ints (backRL ns x)).toArray 29)).grown hgrow (KB.out.alloc (.cells (ints (backRL ns x)).toArray 29)).size (fun j hj => by have hj := Option.some.inj (show some gr = some j from hj); omega))
      have A4 := Lib.hid (hG.as Y.out.symm)
      have A5 := Lib.hid ((KS.out.alloc (.cells (ints (backRL ns x)).toArray 29)).kept hgrow (fun z hz e => KX.out z hz (Option.some.inj (show some gr = some z from e)).symm))
      have A6 : Hid (∀ z, (Value.slice (some ⟨g, 0, none⟩) N cap0).ownBlock = some z → z ≠ g') := Lib.hid (fun z hz e => by
        have h1 := Option.some.inj (show some g = some z from hz)
        rcases hlie with h3 | h3
        · have h3 := Option.some.inj (show some gr = some g' from h3)
          exact KX.out z hz (by rw [e, h3])
        · rw [size1] at h3; omega)
      clear hG hgrow hlie KA KO KS KB KX hbl
      go_roundg (N - (k + 1))
      case rel => exact ⟨k + 1, g', cu', rfl, by omega, rfl, by go_num, A1, A4, A5, A6, A3⟩
      case measure => omega
    · obtain rfl : k = N := by omega
      have eg : ∀ args w, (callFunc 46 args).run Try.prog w = .ok (.enter 46 args) w := enters_of Try.func46 (by kernel_rfl) rfl
      have hgr := KO.out.own gr rfl
      have hsz : (arrR (bK ns k)).size = k := by rw [arrR_size]; exact hbl
      have hcon := AnyQ.slices_SortFunc Try.sortRacks 24 Try.isAgg29 Try.sizeOf29 encR encR_len encR_one cfR swoR 46 #[] gr 0 cr (arrR (bK ns k)) wr eg (fun m os dk hd x y => cmpRacks_any x.1 y.1 _ x.2 y.2) (KO.out.toK hbl.symm) hgr.2 (by rw [hsz]; omega)
      rw [hsz] at hcon
      change Calls Try.prog 45 _ _ _ at hcon
      have HC := Lib.hid hcon
      have HF := Lib.hid (fun d hp hs => rbA_sorted (ns := ns) H24.out (d := d) hp hs)
      have EK : Hid (bK ns k = (srcA ns).map (backRL ns)) := Lib.hid (by rw [← HNN.out]; exact bK_all ns)
      clear hcon
      go_wp2_with fail
      refine HC.out.mono ?_
      rintro e w' ⟨rfl, d, n, os, hp, hs, rfl⟩
      have hd : d.size = (bK ns k).length := by rw [hp.1, hsz, hbl]
      have GS := KO.out.sorted (m := n) (os := os) hbl.symm d hd
      have GW := grownBy_sortK (w := wr) (g := gr) (n := n) (os := os) d
      have E := Lib.hid (show d.toList.map (·.1) = rbA ns from by
        rw [EK.out, ← HNN.out] at hp
        rw [← HNN.out] at hs
        exact HF.out d hp hs)
      have GR := Lib.hid (GS.as E.out)
      have KK : Hid (Kept w (sortWorldK encR 24 wr gr 0 n d os)) := Lib.hid (KB.out.grown GW KB.out.size (fun j hj => by have hj := Option.some.inj hj; omega))
      clear GS GW hp hs hd HC HF E EK KO KS KB KX KA eg
      generalize sortWorldK encR 24 wr gr 0 n d os = W2 at *
      go_wp2_with fail
      go_ret2
      exact ⟨_, by rw [HVR.out]; rfl, GR.out.mono (by omega), KK.out⟩
end Go.Proofs.Ythnkfdhnbafcjab.base
