/-
  Which pours lead to new forms, on the program's side, walked.
-/
import Derived.Test.YtbnffpcgcchnaabStepV
import Derived.Test.YtbnffpcgcchnaabSteps
import Derived.Test.YtbnffpcgcchnaabMapE
import Derived.Deep.Cut
import Derived.Deep.CutRange
namespace Go.Proofs.Ytbnffpcgcchnaab.base
open Go.ChangeShapes Go.WideShapes Go.ChangeAt Go.RowKit
set_option linter.unusedVariables false
set_option linter.unusedSimpArgs false

theorem zeroBool (u : World) : (zeroValue 4).run Try.prog u = .ok (.bool false) u := by kernel_rfl
/-- Which forms have been seen. -/
def seenF (fs : List (List Int)) : List Int → Option Value := fun l => if l ∈ fs then some (.bool true) else none
theorem seenF_get (fs : List (List Int)) (l : List Int) : (seenF fs l).getD (.bool false) = .bool (decide (l ∈ fs)) := by
  unfold seenF
  by_cases h : l ∈ fs
  · rw [if_pos h, decide_eq_true h]; rfl
  · rw [if_neg h, decide_eq_false h]; rfl
theorem seenF_put (fs : List (List Int)) (x l : List Int) : mapPut (seenF fs) x (.bool true) l = seenF (fs ++ [x]) l := by
  unfold mapPut seenF
  by_cases h : l = x
  · subst h
    rw [if_pos rfl, if_pos (by simp)]
  · rw [if_neg h]
    by_cases h2 : l ∈ fs
    · rw [if_pos h2, if_pos (by simp [h2])]
    · rw [if_neg h2, if_neg (by simp [h, h2])]
theorem stp_at {ns : List Int} {k : Nat} (h : k < (usL ns).length) : (stL ns).getD k [] = stp ns ((usL ns).getD k (0, 0)) := by
  unfold stL
  rw [List.getD_eq_getElem?_getD, List.getD_eq_getElem?_getD, List.getElem?_map, List.getElem?_eq_getElem h]; rfl
theorem stp_pr (ns : List Int) (x : Pr) : ((stp ns x).drop 0).take 2 = pr2 x := by
  unfold stp
  have h2 : (pr2 x).length = 2 := rfl
  rw [List.drop_zero, List.take_append_of_le_length (by omega), List.take_of_length_le (by omega)]
theorem stp_form {ns : List Int} {x : Pr} (h : (behForm ns x).length = 24) : ((stp ns x).drop 2).take 24 = behForm ns x := by
  unfold stp
  have h2 : (pr2 x).length = 2 := rfl
  rw [List.drop_append_of_le_length (by omega), List.drop_of_length_le (by omega), List.nil_append, List.take_of_length_le (by omega)]
theorem Has.part {w : World} {b n : Nat} {ns : List Int} (h : Has w b ns n) (o m : Nat) : w.rangeAt b o (ints ((ns.drop o).take m)) := h.holds.sub o m

set_option maxHeartbeats 1600000 in
set_option maxRecDepth 100000 in
theorem implDistinct (ns : List Int) (w : World) (h24 : ns.length = 24) :
    Calls Try.prog 21 #[row ns] w (DistPost ns w) := by
  have HB := Lib.hid (((kept_refl w).alloc (.cells (ints ns).toArray 29)).alloc (.cells #[] 53))
  have H := (Has.box w 29 h24 (by omega)).alloc (.cells #[] 53)
  have R0 := Lib.hid (Gr.none (w.alloc (.cells (ints ns).toArray 29)) (w.heap.size + 1) 53 2 (by simp))
  rw [size1] at R0
  have hmm := @run_makeMap Try.prog
  rw [row_ints]
  go_enter Try.func21, Try.ntmps21
  go_wp2_with (refine load_has rfl 29 _ rfl _ rfl ?_ 24 ?_ _ Try.underlying29 rfl ?_ ?_; rotate_left; (· (repeat (first | (with_reducible assumption) | ((with_reducible refine Has.box _ _ ?_ ?_) <;> (first | assumption | decide)) | (with_reducible refine Has.alloc ?_ _) | ((with_reducible refine Has.putOther ?_ _ _ ?_); rotate_left; omega; skip) | ((with_reducible refine Has.below ?_ ?_); rotate_left; assumption)))); (· kernel_rfl))
  refine (isRack_any ns _ h24).mono ?_
  rintro e w1 ⟨rfl, b1⟩
  replace H := H.below b1
  replace R0 := Lib.hid (R0.out.below b1)
  have hb1 := H.lt
  have hr1 := (R0.out.own _ rfl).2
  replace HB := Lib.hid (HB.out.call b1)
  clear b1
  by_cases hv : vR ns = true
  · rw [hv]
    have HV := Lib.hid hv
    have HL := Lib.hid h24
    have M0 : Hid (OwnV Try.prog (w1.alloc (.map #[] 0)) 75 w1.heap.size 0 24 (seenF (dstUp ns 0).1)) := Lib.hid ((OwnV.made w1 Try.prog 75 24).as (fun l _ => rfl))
    replace H := H.alloc (.map #[] 0)
    replace R0 := Lib.hid (R0.out.alloc (.map #[] 0))
    replace HB := Lib.hid (HB.out.alloc (.map #[] 0))
    go_wp2_with (refine load_has rfl 29 _ rfl _ rfl ?_ 24 ?_ _ Try.underlying29 rfl ?_ ?_; rotate_left; (· (repeat (first | (with_reducible assumption) | ((with_reducible refine Has.box _ _ ?_ ?_) <;> (first | assumption | decide)) | (with_reducible refine Has.alloc ?_ _) | ((with_reducible refine Has.putOther ?_ _ _ ?_); rotate_left; omega; skip) | ((with_reducible refine Has.below ?_ ?_); rotate_left; assumption)))); (· kernel_rfl))
    refine (stepsOf_any ns _ h24 hv).mono ?_
    rintro e w2 ⟨sv, rfl, q1, b2⟩
    have hso := q1.own
    rw [size1] at hso
    replace M0 := Lib.hid (M0.out.below b2)
    replace R0 := Lib.hid (R0.out.below b2)
    replace HB := Lib.hid (HB.out.call b2)
    obtain ⟨a, cap, rfl⟩ := q1.shape
    have GS := Lib.hid (q1.mono (b' := w.heap.size) (by simp; omega))
    have hlen := stL_len ns
    rw [hlen] at GS hso
    have hUL := usL_le ns
    have UO := Lib.hid (fun k hk => usL_at ns (k := k) hk)
    have DS := Lib.hid (fun k hk => dst_succ ns (k := k) hk)
    have DL := Lib.hid (fun k hk => (dst_len ns k hk).2.1)
    have AT := Lib.hid (fun k hk => stp_at (ns := ns) (k := k) hk)
    have E1 := Lib.hid (show dstN ns = (dstUp ns (usL ns).length).2.length by unfold dstN dstP; rw [if_pos hv])
    have E2 := Lib.hid (show dstFl ns = flatP (dstUp ns (usL ns).length).2 by unfold dstFl dstP; rw [if_pos hv])
    have AP : Hid (∀ z, (Value.slice a (usL ns).length cap).ownBlock = some z → w1.heap.size + 1 ≤ z) := Lib.hid (fun z hz => (hso z hz).1)
    have hlen2 : (stL ns).length = (usL ns).length := hlen
    rw [hlen]
    clear H hv h24 b2 q1 hso hmm hlen
    generalize (usL ns).length = N at *
    generalize w1.heap.size = g0 at *
    go_wp2_with fail
    go_loopg [4, 17] N (fun gk u i wr => ∃ (k n g cu : Nat), gk = N - k ∧ k ≤ N ∧ i = .int .i64 k ∧ n ≤ k ∧ u = .slice (some ⟨g, 0, none⟩) (dstUp ns k).2.length cu ∧ Hid (Gr wr (w.heap.size + 1) 53 2 (.slice (some ⟨g, 0, none⟩) (dstUp ns k).2.length cu) ((dstUp ns k).2.map pr2)) ∧ Hid (OwnV Try.prog wr 75 g0 n 24 (seenF (dstUp ns k).1)) ∧ Hid (Gr wr w.heap.size 77 26 (.slice a N cap) (stL ns)) ∧ Hid ((Value.slice a N cap).ownBlock ≠ some g) ∧ Hid (g ≠ g0) ∧ Hid (Kept w wr))
    case atStart => exact ⟨0, 0, w.heap.size + 1, 0, rfl, by omega, rfl, by omega, rfl, R0, M0, GS, Lib.hid (fun e => by have := AP.out _ e; omega), Lib.hid (by omega), HB⟩
    case round =>
      obtain ⟨k, n, g, cu, rfl, hk, rfl, hn, rfl, GR, GM, GQ, GA, GN, GB⟩ := hrel
      by_cases hkN : k < N
      · have hki : (k : Int) < (N : Int) := by omega
        obtain ⟨gp, cap2, hv', hbp, hgp⟩ := GQ.out.form (by omega)
        rw [hlen2] at hv'
        injection hv' with ha _ hcap
        subst ha
        subst hcap
        have P := UO.out k hkN
        have hst := stp_len HL.out HV.out P
        have ROW := Lib.hid (behForm_row HL.out HV.out P)
        have KEY := Lib.hid (form_key ROW.out)
        have RG := Lib.hid (by have := GQ.out.range hlen2.symm k hkN; rw [AT.out k hkN] at this; exact this)
        have hi26 : (Try.prog.info? 77).map (·.size) = some (ints (stp ns ((usL ns).getD k (0, 0)))).length := by rw [ints_len, hst]; kernel_rfl
        have D := DS.out k hkN
        have DLk := DL.out k hk
        have hbl := behForm_len HL.out HV.out P
        generalize (usL ns).getD k (0, 0) = x at *
        have e0 := stp_pr ns x
        have e2 := stp_form hbl
        have hml := GM.out.lt
        have hgl := (GR.out.own g rfl).2
        have B7 := Has.box wr 77 hst (by omega)
        have K1 := Lib.hid (GR.out.alloc (.cells (ints (stp ns x)).toArray 77))
        have K2 := Lib.hid (GM.out.alloc (.cells (ints (stp ns x)).toArray 77))
        have K3 := Lib.hid (GQ.out.alloc (.cells (ints (stp ns x)).toArray 77))
        have K4 := Lib.hid (GB.out.alloc (.cells (ints (stp ns x)).toArray 77))
        have P2 := B7.part 2 24
        rw [e2] at P2
        have P0 := B7.part 0 2
        rw [e0] at P0
        have hi24 : (Try.prog.info? 23).map (·.size) = some (ints (behForm ns x)).length := by rw [ints_len, hbl]; kernel_rfl
        have LK := seenF_get (dstUp ns k).1 (behForm ns x)
        have HP2 := Lib.hid P2
        clear GR GM GQ GB P P2 e0 e2
        by_cases hm : behForm ns x ∈ (dstUp ns k).1
        · rw [decide_eq_true hm] at LK
          rw [if_pos hm] at D
          have K1' := Lib.hid (show Gr (wr.alloc (.cells (ints (stp ns x)).toArray 77)) (w.heap.size + 1) 53 2 (.slice (some ⟨g, 0, none⟩) (dstUp ns (k + 1)).2.length cu) ((dstUp ns (k + 1)).2.map pr2) by rw [D]; exact K1.out)
          have K2' := Lib.hid (show OwnV Try.prog (wr.alloc (.cells (ints (stp ns x)).toArray 77)) 75 g0 n 24 (seenF (dstUp ns (k + 1)).1) by rw [D]; exact K2.out)
          have DH := Lib.hid D
          clear D hm K1
          go_wp2_with (first | (refine wpList_load_mid rfl 77 _ rfl gp (k * 26) rfl (ints (stp ns x)) _ RG.out Try.underlying77 rfl hi26 ?_) | (refine store_new rfl 77 _ _ rfl _ _ _ rfl _ rfl _ rfl rfl ?_ ?_ ?_; (· (first | assumption | rfl)); (· kernel_rfl)) | (refine wpList_load_mid rfl 75 _ rfl wr.heap.size 2 rfl (ints (behForm ns x)) _ HP2.out Try.underlying75 rfl hi24 ?_) | (refine lookupV rfl _ _ 79 rfl 75 4 formKeyed Try.underlying79 (zeroBool _) g0 n 24 _ K2.out rfl (.agg (ints (behForm ns x)).toArray) rfl (behForm ns x) ROW.out KEY.out ?_; rw [LK]))
          go_roundg (N - (k + 1))
          case rel => exact ⟨k + 1, n, g, cu, rfl, by omega, by go_num, by omega, by rw [DH.out], K1', K2', K3, GA, GN, K4⟩
          case measure => omega
        · rw [decide_eq_false hm] at LK
          rw [if_neg hm] at D
          have D1 : (dstUp ns (k + 1)).1 = (dstUp ns k).1 ++ [behForm ns x] := by rw [D]
          have D2 : (dstUp ns (k + 1)).2 = (dstUp ns k).2 ++ [x] := by rw [D]
          have DH1 := Lib.hid D1
          have DH2 := Lib.hid D2
          have hnone : (seenF (dstUp ns k).1 (behForm ns x)).isSome = false := by unfold seenF; rw [if_neg hm]; rfl
          have HN := Lib.hid hnone
          have SP := Lib.hid (seenF_put (dstUp ns k).1 (behForm ns x))
          clear D D1 D2 hm hnone
          go_upto_region 10 with (first | (refine wpList_load_mid rfl 77 _ rfl gp (k * 26) rfl (ints (stp ns x)) _ RG.out Try.underlying77 rfl hi26 ?_) | (refine store_new rfl 77 _ _ rfl _ _ _ rfl _ rfl _ rfl rfl ?_ ?_ ?_; (· (first | assumption | rfl)); (· kernel_rfl)) | (refine wpList_load_mid rfl 75 _ rfl wr.heap.size 2 rfl (ints (behForm ns x)) _ HP2.out Try.underlying75 rfl hi24 ?_) | (refine lookupV rfl _ _ 79 rfl 75 4 formKeyed Try.underlying79 (zeroBool _) g0 n 24 _ K2.out rfl (.agg (ints (behForm ns x)).toArray) rfl (behForm ns x) ROW.out KEY.out ?_; rw [LK]) | (refine updateV rfl _ _ _ 79 rfl 75 4 formKeyed Try.underlying79 g0 n 24 _ K2.out (by unfold maxLen; omega) rfl (.agg (ints (behForm ns x)).toArray) (.bool true) rfl rfl (behForm ns x) ROW.out KEY.out ?_; intro w3 hM hgM))
          rw [HN.out] at hM
          have hM2 := Lib.hid (hM.as (fun l _ => SP.out l))
          have h3s := hgM.size
          rw [size1] at h3s
          have B8 := B7.grownNo hgM (fun e => by have e := Option.some.inj e; omega)
          have P8 := Lib.hid (by have := B8.part 0 2; rw [stp_pr ns x] at this; exact this)
          have J1 := Lib.hid (K1.out.kept hgM (fun z hz e => by
            have e := Option.some.inj e
            have hz := Option.some.inj (show some g = some z from hz)
            exact GN.out (by omega)))
          have J3 := Lib.hid (K3.out.kept hgM (fun z hz e => by have := AP.out z hz; have e := Option.some.inj e; omega))
          have J4 : Hid (Kept w w3) := Lib.hid (K4.out.grown hgM K4.out.size (fun j hj => by have hj := Option.some.inj hj; omega))
          clear hM K1 K2 K3 K4 P0 HP2 B7 LK
          generalize wr.heap.size = b7 at *
          go_wp2_with (first | (refine wpList_load_mid rfl 53 _ rfl b7 0 rfl [.int .i64 (x.1 : Int), .int .i64 (x.2 : Int)] _ P8.out Try.underlying53 rfl (by kernel_rfl) ?_) | (at_builtin; refine append_gr rfl _ _ 26 rfl (w.heap.size + 1) 53 2 16 Try.underlying26 (by kernel_rfl) (by omega) (by omega) _ (dstUp ns k).2.length ((dstUp ns k).2.map pr2) (by rw [List.length_map]) rfl (J1.out.alloc _) w3.heap.size 1 rfl (pr2 x) (Has.box (ns := pr2 x) (n := 2) w3 53 rfl (by omega)) (by simp; omega) (by omega) ?_; intro g' cap' w4 hG hgrow hlie hlt))
          have L1 := Lib.hid (hG.as (show (dstUp ns k).2.map pr2 ++ [pr2 x] = (dstUp ns (k + 1)).2.map pr2 by rw [DH2.out, List.map_append]; rfl))
          have hgw := (J1.out.own g rfl).1
          have L2 := Lib.hid ((hM2.out.alloc (.cells (ints (pr2 x)).toArray 53)).grown hgrow (fun e => by have e := Option.some.inj (show some g0 = some g from e); exact GN.out e.symm))
          have L3 := Lib.hid ((J3.out.alloc (.cells (ints (pr2 x)).toArray 53)).kept hgrow (fun z hz e => GA.out (by rw [hz]; exact e.symm)))
          have L4 := Lib.hid ((J4.out.alloc (.cells (ints (pr2 x)).toArray 53)).grown hgrow (J4.out.alloc (.cells (ints (pr2 x)).toArray 53)).size (fun j hj => by have hj := Option.some.inj (show some g = some j from hj); omega))
          have L5 : Hid ((Value.slice (some ⟨gp, 0, none⟩) N cap).ownBlock ≠ some g') := Lib.hid (fun e => by
            have e := Option.some.inj (show some gp = some g' from e)
            rcases hlie with h1 | h1
            · have h1 := Option.some.inj (show some g = some g' from h1)
              exact GA.out (by rw [h1, ← e]; rfl)
            · rw [size1] at h1; omega)
          have L6 : Hid (g' ≠ g0) := Lib.hid (fun e => by
            rcases hlie with h1 | h1
            · have h1 := Option.some.inj (show some g = some g' from h1)
              exact GN.out (by omega)
            · rw [size1] at h1; omega)
          have hle : (dstUp ns (k + 1)).2.length = (dstUp ns k).2.length + 1 := by rw [DH2.out]; simp
          have L1' := Lib.hid (show Gr w4 (w.heap.size + 1) 53 2 (.slice (some ⟨g', 0, none⟩) (dstUp ns (k + 1)).2.length cap') ((dstUp ns (k + 1)).2.map pr2) by rw [hle]; exact L1.out)
          have L2' := Lib.hid (show OwnV Try.prog w4 75 g0 (n + 1) 24 (seenF (dstUp ns (k + 1)).1) by rw [DH1.out]; exact L2.out)
          clear hG hgrow hlie J1 J3 J4 hM2
          go_wp2_with fail
          go_roundg (N - (k + 1))
          case rel => exact ⟨k + 1, n + 1, g', cap', rfl, by omega, by go_num, by omega, by rw [hle], L1', L2', L3, L5, L6, L4⟩
          case measure => omega
      · obtain rfl : k = N := by omega
        go_wp2_with fail
        go_ret2
        refine ⟨_, by rw [HV.out]; rfl, ?_, GB.out⟩
        rw [E1.out, E2.out]
        exact (GR.out.mono (by omega)).toPrs
  · have hf : vR ns = false := by simpa using hv
    have E1 := Lib.hid (show dstN ns = 0 by unfold dstN; rw [if_neg hv])
    have E2 := Lib.hid (show dstFl ns = [] by unfold dstFl; rw [if_neg hv])
    rw [hf]
    have HV := Lib.hid hf
    clear hf hv
    go_wp2_with fail
    go_ret2
    exact ⟨.slice (some ⟨w.heap.size + 1, 0, none⟩) 0 0, by rw [HV.out]; rfl, by rw [E1.out, E2.out]; exact (Gr.toPrs (l := []) (R0.out.mono (by omega))), HB.out⟩
end Go.Proofs.Ytbnffpcgcchnaab.base
