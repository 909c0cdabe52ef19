/-
  The forms of the racks before a rack, on the program's side, walked.
-/
import Derived.Test.YthnkfdhnbafcjabCfM
import Derived.Test.YthnkfdhnbafcjabFormI
namespace Go.Proofs.Ythnkfdhnbafcjab.base
open Go.ChangeShapes Go.WideShapes Go.ChangeAt Go.RowKit
set_option linter.unusedVariables false
set_option linter.unusedSimpArgs false

set_option maxHeartbeats 3200000 in
set_option maxRecDepth 100000 in
theorem implCountFormsBefore (ns : List Int) (w : World) (h24 : ns.length = 24) :
    Calls Try.prog 26 #[row ns] w (CfPost ns w) := by
  have HB := Lib.hid ((kept_refl w).alloc (.cells (ints ns).toArray 29))
  have H := Has.box w 29 h24 (by omega)
  have hmm := @run_makeMap Try.prog
  rw [row_ints]
  go_enter Try.func26, Try.ntmps26
  go_wp2_with (refine load_has rfl 29 _ rfl _ rfl ?_ 24 ?_ _ Try.underlying29 rfl ?_ ?_; rotate_left; (· (repeat (first | (with_reducible assumption) | ((with_reducible refine Has.box _ _ ?_ ?_) <;> (first | assumption | decide)) | (with_reducible refine Has.alloc ?_ _) | ((with_reducible refine Has.putOther ?_ _ _ ?_); rotate_left; omega; skip) | ((with_reducible refine Has.below ?_ ?_); rotate_left; assumption)))); (· kernel_rfl))
  refine (implRacksBefore ns _ h24).mono ?_
  rintro e w1 ⟨va, rfl, G1a, b1⟩
  have hro := G1a.own
  have hw1 := b1.size
  rw [size1] at hro hw1
  replace HB := Lib.hid ((HB.out.call b1).alloc (.map #[] 0))
  have M0 : Hid (OwnV Try.prog (w1.alloc (.map #[] 0)) 75 w1.heap.size 0 24 (seenF (fmK ns 0))) := Lib.hid ((OwnV.made w1 Try.prog 75 24).as (fun l _ => rfl))
  have G1 := Lib.hid ((G1a.alloc (.map #[] 0)).mono (b' := 0) (Nat.zero_le _))
  have HV : Hid (vR ns = vR ns) := Lib.hid rfl
  generalize hvr : vR ns = VR at *
  replace HV := Lib.hid hvr
  clear b1 H hvr
  obtain ⟨a0, cap0, rfl⟩ := G1.out.shape
  have H24 := Lib.hid h24
  have hN := rbA_le h24
  obtain ⟨N, hNN⟩ : ∃ N, (rbA ns).length = N := ⟨_, rfl⟩
  have HNN := Lib.hid hNN
  have G1' := Lib.hid (show Gr (w1.alloc (.map #[] 0)) 0 29 24 (.slice a0 N cap0) (rbA ns) by have := G1.out; rw [hNN] at this; exact this)
  have X0 : Hid (∀ z, (Value.slice a0 N cap0).ownBlock = some z → z < w1.heap.size) := Lib.hid (fun z hz => (hro z (by rw [hNN]; exact hz)).2)
  rw [hNN] at hN
  rw [hNN]
  clear G1 hNN h24 G1a hro
  have M0' := Lib.hid (show OwnV Try.prog (w1.alloc (.map #[] 0)) 75 w1.heap.size (fmK ns 0).length 24 (seenF (fmK ns 0)) from M0.out)
  clear M0
  go_wp2_with fail
  clear hmm
  generalize w1.alloc (.map #[] 0) = W2 at *
  generalize w1.heap.size = g0 at *
  go_loopg [17] N (fun gk i wr => ∃ k : Nat, gk = N - k ∧ k ≤ N ∧ i = .int .i64 k ∧ Hid (OwnV Try.prog wr 75 g0 (fmK ns k).length 24 (seenF (fmK ns k))) ∧ Hid (Gr wr 0 29 24 (.slice a0 N cap0) (rbA ns)) ∧ Hid (Kept w wr))
  case atStart => exact ⟨0, rfl, by omega, rfl, M0', G1', HB⟩
  case round =>
    obtain ⟨k, rfl, hk, rfl, KM, KS, KB⟩ := hrel
    by_cases hkN : k < N
    · have hki : (k : Int) < (N : Int) := by omega
      have hk0 : (0 : Int) ≤ (k : Int) := by omega
      have hkS : k < (rbA ns).length := by rw [HNN.out]; exact hkN
      obtain ⟨g, c, he, _, hgl⟩ := KS.out.form (by omega)
      rw [HNN.out] at he
      injection he with e1 _ e3
      subst e1
      subst e3
      have hx24 := rbA_item H24.out hkS
      have RG := Lib.hid (KS.out.range HNN.out.symm k hkN)
      have hle := (fmK_facts H24.out k (by omega)).2.2
      obtain ⟨st1, st2⟩ := fmK_step H24.out hkS
      have ROW := Lib.hid (fm_row H24.out hkS)
      have KEY := Lib.hid (form_key ROW.out)
      obtain ⟨x, hx⟩ : ∃ x, (rbA ns).getD k [] = x := ⟨_, rfl⟩
      rw [hx] at hx24 RG st1 st2 ROW KEY
      have S1 := Lib.hid st1
      have S2 := Lib.hid st2
      clear hx hkS st1 st2
      have hi24 : (Try.prog.info? 29).map (·.size) = some (ints x).length := by rw [ints_len, hx24]; kernel_rfl
      have hbs := KB.out.size
      have RR := Has.box wr 29 hx24 (by omega)
      replace KM := Lib.hid (KM.out.alloc (.cells (ints x).toArray 29))
      replace KS := Lib.hid (KS.out.alloc (.cells (ints x).toArray 29))
      replace KB := Lib.hid (KB.out.alloc (.cells (ints x).toArray 29))
      go_wp2_with (first | (refine wpList_load_mid rfl 29 _ rfl g (k * 24) rfl (ints x) _ RG.out Try.underlying29 rfl hi24 ?_) | (refine store_new rfl 29 _ _ rfl _ _ _ rfl _ rfl _ rfl rfl ?_ ?_ ?_; (· (first | assumption | rfl)); (· kernel_rfl)) | (refine load_has rfl 29 _ rfl _ rfl ?_ 24 ?_ _ Try.underlying29 rfl ?_ ?_; rotate_left; (· (repeat (first | (with_reducible assumption) | ((with_reducible refine Has.box _ _ ?_ ?_) <;> (first | assumption | decide)) | (with_reducible refine Has.alloc ?_ _) | ((with_reducible refine Has.putOther ?_ _ _ ?_); rotate_left; omega; skip) | ((with_reducible refine Has.below ?_ ?_); rotate_left; assumption)))); (· kernel_rfl)))
      refine (formOf_any x _ hx24).mono ?_
      rintro e w3 ⟨rfl, b3⟩
      replace KM := Lib.hid (KM.out.below b3)
      replace KS := Lib.hid (KS.out.below b3)
      replace KB := Lib.hid (KB.out.call b3)
      clear b3 RG hbs RR
      go_upto_region 7 with (refine updateV rfl _ _ _ 74 rfl 75 4 formKeyed Try.underlying74 g0 (fmK ns k).length 24 _ KM.out (by unfold maxLen; omega) rfl (.agg (ints (formL x)).toArray) (.bool true) rfl rfl (formL x) ROW.out KEY.out ?_; intro w4 hM hgM)
      rw [S1.out] at hM
      have A1 := Lib.hid (hM.as (fun l _ => S2.out l))
      have A2 := Lib.hid (KS.out.kept hgM (fun z hz e => by have h1 := X0.out z hz; have e := Option.some.inj e; omega))
      have A3 : Hid (Kept w w4) := Lib.hid (KB.out.grown hgM KB.out.size (fun j hj => by have hj := Option.some.inj hj; omega))
      clear hM hgM KM KS KB
      go_wp2_with fail
      go_roundg (N - (k + 1))
      case rel => exact ⟨k + 1, rfl, by omega, by go_num, A1, A2, A3⟩
      case measure => omega
    · obtain rfl : k = N := by omega
      have E := Lib.hid (show (fmK ns k).length = cfA ns by unfold cfA; rw [HNN.out])
      have LEN := fun ty => KM.out.len Try.underlying74 ty
      go_wp2_with fail
      go_ret2
      exact ⟨by rw [HV.out, ← E.out]; rfl, KB.out⟩
end Go.Proofs.Ythnkfdhnbafcjab.base
