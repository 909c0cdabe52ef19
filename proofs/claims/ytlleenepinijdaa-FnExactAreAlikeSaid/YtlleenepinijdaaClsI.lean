/-
  A rack's class, on the program's side, walked.
-/
import Derived.Test.YtlleenepinijdaaClsV
import Derived.Test.YtlleenepinijdaaAllI
import Derived.Test.YtlleenepinijdaaSixB
import Derived.Test.YtlleenepinijdaaFormI
import Derived.Test.YtlleenepinijdaaMapE
import Derived.Deep.Cut
import Derived.Deep.CutRange
namespace Go.Proofs.Ytlleenepinijdaa.base
open Go.ChangeShapes Go.WideShapes Go.ChangeAt Go.RowKit
set_option linter.unusedVariables false
set_option linter.unusedSimpArgs false

theorem zeroSix (u : World) : (zeroValue 31).run Try.prog u = .ok (.agg (ints z6x).toArray) u := by kernel_rfl

set_option maxHeartbeats 1600000 in
set_option maxRecDepth 100000 in
theorem classOf_any (ns : List Int) (w : World) (h24 : ns.length = 24) (hv : vR ns = true) :
    Calls Try.prog 31 #[row ns] w fun e w' => ∃ b : Nat, e = .returned (.map (some b)) ∧ w.heap.size ≤ b ∧ OwnV Try.prog w' 49 b (clsN ns 120) 24 (clsV ns 120) ∧ Kept w w' := by
  have HB := Lib.hid (((kept_refl w).alloc (.cells (ints ns).toArray 28)).alloc (.map #[] 0))
  have H := (Has.box w 28 h24 (by omega)).alloc (.map #[] 0)
  have M0 : Hid (OwnV Try.prog ((w.alloc (.cells (ints ns).toArray 28)).alloc (.map #[] 0)) 49 (w.heap.size + 1) 0 24 (clsV ns 0)) := Lib.hid (by
    have := (OwnV.made (w.alloc (.cells (ints ns).toArray 28)) Try.prog 49 24).as (m' := clsV ns 0) (fun l _ => rfl)
    rw [size1] at this; exact this)
  have hmm := @run_makeMap Try.prog
  have hz : z6x.length = 6 := rfl
  rw [row_ints]
  go_enter Try.func31, Try.ntmps31
  go_wp2_with fail
  generalize ((w.alloc (.cells (ints ns).toArray 28)).alloc (.map #[] 0)) = W0 at *
  have hW0 := M0.out.lt
  refine (allRenamings_any _).mono ?_
  rintro e w1 ⟨v, rfl, q1, b1⟩
  have hso := q1.own
  have hs1 := b1.size
  replace H := H.below b1
  replace M0 := Lib.hid (M0.out.below b1)
  replace HB := Lib.hid (HB.out.call b1)
  obtain ⟨a, cap, rfl⟩ := q1.shape
  have GS := Lib.hid (q1.mono (b' := w.heap.size + 1) (by omega))
  have AP : Hid (∀ z, (Value.slice a allN.length cap).ownBlock = some z → w.heap.size + 1 < z) := Lib.hid (fun z hz => by have := (hso z hz).1; omega)
  have HV := Lib.hid hv
  have HL := Lib.hid h24
  rw [allN_len] at GS AP ⊢
  clear hv h24 q1 hso b1 hmm
  go_wp2_with fail
  go_loopg [12] 120 (fun gk i wr => ∃ k : Nat, gk = 120 - k ∧ k ≤ 120 ∧ i = .int .i64 k ∧ Has wr w.heap.size ns 24 ∧ Hid (OwnV Try.prog wr 49 (w.heap.size + 1) (clsN ns k) 24 (clsV ns k)) ∧ Hid (Gr wr (w.heap.size + 1) 31 6 (.slice a 120 cap) allN) ∧ Hid (Kept w wr))
  case atStart => exact ⟨0, rfl, by omega, rfl, H, M0, GS, HB⟩
  case round =>
    obtain ⟨k, rfl, hk, rfl, GH, GM, GQ, GB⟩ := hrel
    by_cases hk1 : k < 120
    · have hki : (k : Int) < 120 := by omega
      obtain ⟨gp, cap2, hv', hbp, hgp⟩ := GQ.out.form (by rw [allN_len]; omega)
      rw [allN_len] at hv'
      injection hv' with ha _ hcap
      subst ha
      subst hcap
      have hgm := ag_mem hk1
      have hg6 := (allN_names hgm).2
      have RG := Lib.hid (show wr.rangeAt gp (k * 6) (ints (ag k)) from GQ.out.range allN_len.symm k hk1)
      have ROW := Lib.hid (rf_row HL.out HV.out hgm)
      have KEY := Lib.hid (form_keyC ROW.out)
      have CS := Lib.hid (fun g (hs : clsF ns k (rf ns (ag k)) = some g) => And.intro (clsV_same ns hk1 hs) (clsN_same ns hk1 hs))
      have CP := Lib.hid (fun (hs : clsF ns k (rf ns (ag k)) = none) => And.intro (clsV_put ns hk1 hs) (clsN_new ns hk1 hs))
      have CN := clsN_le ns k hk
      have CL : Hid (∀ g, clsF ns k (rf ns (ag k)) = some g → g.length = 6) := Lib.hid (fun g hs => by
        unfold clsF at hs
        exact (allN_names (List.mem_of_mem_take (List.mem_of_find?_eq_some hs))).2)
      have RF : formL (renR ns (ag k)) = rf ns (ag k) := rfl
      have hrl := renR_len ns (ag k)
      have hfl : (rf ns (ag k)).length = 24 := formL_len _ hrl
      have CV : clsV ns k (rf ns (ag k)) = (clsF ns k (rf ns (ag k))).map (fun g => .agg (ints g).toArray) := rfl
      have HCV := Lib.hid CV
      have HRF := Lib.hid RF
      clear CV RF hgm
      generalize ag k = g at *
      have hi6 : (Try.prog.info? 31).map (·.size) = some (ints g).length := by rw [ints_len, hg6]; kernel_rfl
      have hml := GM.out.lt
      have GH2 := GH.alloc (.cells (ints g).toArray 31)
      have GM2 := Lib.hid (GM.out.alloc (.cells (ints g).toArray 31))
      have GQ2 := Lib.hid (GQ.out.alloc (.cells (ints g).toArray 31))
      have GB2 := Lib.hid (GB.out.alloc (.cells (ints g).toArray 31))
      have GX := Has.box wr 31 hg6 (by omega)
      clear GH GM GQ GB
      go_upto_region 5 with (first | (refine wpList_load_mid rfl 31 _ rfl gp (k * 6) rfl (ints g) _ RG.out Try.underlying31 rfl hi6 ?_) | (refine store_new rfl 31 _ _ rfl _ _ _ rfl _ rfl _ rfl rfl ?_ ?_ ?_; (· (first | assumption | rfl)); (· kernel_rfl)))
      generalize wr.alloc (.cells (ints g).toArray 31) = W1 at *
      generalize wr.heap.size = b5 at *
      go_wp2_with (first | (refine load_has rfl 28 _ rfl _ rfl ?_ 24 ?_ _ Try.underlying28 rfl ?_ ?_; rotate_left; (· (repeat (first | (with_reducible assumption) | ((with_reducible refine Has.box _ _ ?_ ?_) <;> (first | assumption | decide)) | (with_reducible refine Has.alloc ?_ _) | ((with_reducible refine Has.putOther ?_ _ _ ?_); rotate_left; omega; skip) | ((with_reducible refine Has.below ?_ ?_); rotate_left; assumption)))); (· kernel_rfl)) | (refine load_has rfl 31 _ rfl _ rfl ?_ 6 ?_ _ Try.underlying31 rfl ?_ ?_; rotate_left; (· (repeat (first | (with_reducible assumption) | ((with_reducible refine Has.box _ _ ?_ ?_) <;> (first | assumption | decide)) | (with_reducible refine Has.alloc ?_ _) | ((with_reducible refine Has.putOther ?_ _ _ ?_); rotate_left; omega; skip) | ((with_reducible refine Has.below ?_ ?_); rotate_left; assumption)))); (· kernel_rfl)))
      refine (renamed_any ns g _ HL.out hg6 HV.out).mono ?_
      rintro e w5 ⟨rfl, b6⟩
      replace GH2 := GH2.below b6
      replace GM2 := Lib.hid (GM2.out.below b6)
      replace GQ2 := Lib.hid (GQ2.out.below b6)
      replace GB2 := Lib.hid (GB2.out.call b6)
      replace GX := GX.below b6
      clear b6
      go_wp2_with fail
      refine (formOf_any (renR ns g) _ hrl).mono ?_
      rintro e w6 ⟨rfl, b6⟩
      rw [HRF.out]
      replace GH2 := (GH2.below b6).alloc (.cells (ints (rf ns g)).toArray 49)
      replace GM2 := Lib.hid ((GM2.out.below b6).alloc (.cells (ints (rf ns g)).toArray 49))
      replace GQ2 := Lib.hid ((GQ2.out.below b6).alloc (.cells (ints (rf ns g)).toArray 49))
      replace GB2 := Lib.hid ((GB2.out.call b6).alloc (.cells (ints (rf ns g)).toArray 49))
      replace GX := (GX.below b6).alloc (.cells (ints (rf ns g)).toArray 49)
      have GF := Has.box w6 49 hfl (by omega)
      clear b6 RG hi6
      generalize rf ns g = f at *
      go_upto_region 6 with (refine store_new rfl 49 _ _ rfl _ _ _ rfl _ rfl _ rfl rfl ?_ ?_ ?_; (· (first | assumption | rfl)); (· kernel_rfl))
      generalize w6.alloc (.cells (ints f).toArray 49) = W2 at *
      generalize w6.heap.size = b6 at *
      cases hs : clsF ns k f with
      | some g0 =>
        have LK : clsV ns k f = some (.agg (ints g0).toArray) := by rw [HCV.out, hs]; rfl
        have hg0 := CL.out g0 hs
        have E := Lib.hid (CS.out g0 hs)
        have KH := GH2.alloc (.cells (ints g0).toArray 31)
        have KM := Lib.hid (show OwnV Try.prog (W2.alloc (.cells (ints g0).toArray 31)) 49 (w.heap.size + 1) (clsN ns (k + 1)) 24 (clsV ns (k + 1)) by rw [E.out.2]; exact (GM2.out.alloc _).as (fun l _ => (E.out.1 l).symm))
        have KQ := Lib.hid (GQ2.out.alloc (.cells (ints g0).toArray 31))
        have KB := Lib.hid (GB2.out.alloc (.cells (ints g0).toArray 31))
        clear hs GH2 GQ2 GB2
        go_wp2_with (first | (refine load_has rfl 49 _ rfl _ rfl ?_ 24 ?_ _ Try.underlying49 rfl ?_ ?_; rotate_left; (· (repeat (first | (with_reducible assumption) | ((with_reducible refine Has.box _ _ ?_ ?_) <;> (first | assumption | decide)) | (with_reducible refine Has.alloc ?_ _) | ((with_reducible refine Has.putOther ?_ _ _ ?_); rotate_left; omega; skip) | ((with_reducible refine Has.below ?_ ?_); rotate_left; assumption)))); (· kernel_rfl)) | (refine lookup_okV rfl _ _ 47 rfl 49 31 formKeyedC Try.underlying47 (zeroSix _) (w.heap.size + 1) (clsN ns k) 24 _ GM2.out rfl (.agg (ints f).toArray) rfl f ROW.out KEY.out ?_; rw [LK]; simp only [Option.getD_some, Option.isSome_some, Option.getD_none, Option.isSome_none]) | (refine store_new rfl 31 _ _ rfl _ _ _ rfl _ rfl _ rfl rfl ?_ ?_ ?_; (· (first | assumption | rfl)); (· kernel_rfl)))
        go_roundg (120 - (k + 1))
        case rel => exact ⟨k + 1, rfl, by omega, by go_num, KH, KM, KQ, KB⟩
        case measure => omega
      | none =>
        have LK : clsV ns k f = none := by rw [HCV.out, hs]; rfl
        have E := Lib.hid (CP.out hs)
        have KH := GH2.alloc (.cells (ints z6x).toArray 31)
        have KM := Lib.hid (GM2.out.alloc (.cells (ints z6x).toArray 31))
        have KQ := Lib.hid (GQ2.out.alloc (.cells (ints z6x).toArray 31))
        have KB := Lib.hid (GB2.out.alloc (.cells (ints z6x).toArray 31))
        clear hs GH2 GQ2 GB2
        go_upto_region 9 with (first | (refine load_has rfl 49 _ rfl _ rfl ?_ 24 ?_ _ Try.underlying49 rfl ?_ ?_; rotate_left; (· (repeat (first | (with_reducible assumption) | ((with_reducible refine Has.box _ _ ?_ ?_) <;> (first | assumption | decide)) | (with_reducible refine Has.alloc ?_ _) | ((with_reducible refine Has.putOther ?_ _ _ ?_); rotate_left; omega; skip) | ((with_reducible refine Has.below ?_ ?_); rotate_left; assumption)))); (· kernel_rfl)) | (refine load_has rfl 31 _ rfl _ rfl ?_ 6 ?_ _ Try.underlying31 rfl ?_ ?_; rotate_left; (· (repeat (first | (with_reducible assumption) | ((with_reducible refine Has.box _ _ ?_ ?_) <;> (first | assumption | decide)) | (with_reducible refine Has.alloc ?_ _) | ((with_reducible refine Has.putOther ?_ _ _ ?_); rotate_left; omega; skip) | ((with_reducible refine Has.below ?_ ?_); rotate_left; assumption)))); (· kernel_rfl)) | (refine lookup_okV rfl _ _ 47 rfl 49 31 formKeyedC Try.underlying47 (zeroSix _) (w.heap.size + 1) (clsN ns k) 24 _ GM2.out rfl (.agg (ints f).toArray) rfl f ROW.out KEY.out ?_; rw [LK]; simp only [Option.getD_some, Option.isSome_some, Option.getD_none, Option.isSome_none]) | (refine store_new rfl 31 _ _ rfl _ _ _ rfl _ rfl _ rfl rfl ?_ ?_ ?_; (· (first | assumption | rfl)); (· kernel_rfl)) | (refine updateV rfl _ _ _ 47 rfl 49 31 formKeyedC Try.underlying47 (w.heap.size + 1) (clsN ns k) 24 _ KM.out (by unfold maxLen; omega) rfl (.agg (ints f).toArray) (.agg (ints g).toArray) rfl rfl f ROW.out KEY.out ?_; intro w8 hM hgM))
        have JM := Lib.hid (show OwnV Try.prog w8 49 (w.heap.size + 1) (clsN ns (k + 1)) 24 (clsV ns (k + 1)) by
          rw [E.out.2]
          have h2 := hM.as (fun l _ => E.out.1 l)
          rw [LK] at h2
          exact h2)
        have JH := KH.grownNo hgM (fun e => by have e := Option.some.inj e; omega)
        have JQ := Lib.hid (KQ.out.kept hgM (fun z hz e => by
          have hz1 := AP.out z hz
          have e := Option.some.inj e
          omega))
        have JB : Hid (Kept w w8) := Lib.hid (KB.out.grown hgM KB.out.size (fun j hj => by have hj := Option.some.inj hj; omega))
        clear hM hgM KH KM KQ KB
        go_wp2_with fail
        go_roundg (120 - (k + 1))
        case rel => exact ⟨k + 1, rfl, by omega, by go_num, JH, JM, JQ, JB⟩
        case measure => omega
    · obtain rfl : k = 120 := by omega
      go_wp2_with fail
      go_ret
      exact ⟨_, rfl, by omega, GM.out, GB.out⟩
end Go.Proofs.Ytlleenepinijdaa.base
