/-
  Racks mixed by choices, on the model's side, walked.
-/
import Derived.Test.YthnkfdhnbafcjabMxM
import Derived.Test.YthnkfdhnbafcjabSrc
import Derived.Test.YthnkfdhnbafcjabRbP
import Derived.Test.YthnkfdhnbafcjabFill
namespace Go.Proofs.Ythnkfdhnbafcjab.base
open Go.ChangeShapes Go.WideShapes Go.ChangeAt Go.RowKit
set_option linter.unusedVariables false
set_option linter.unusedSimpArgs false

theorem nu_grown_puts (w : World) (c o : Nat) (vs : List Value) : w.grownBy (w.setCells c o vs) (some c) :=
  have h := below_setCells (B := 0) c (Nat.zero_le _) vs o w w (Below.refl _ _)
  ⟨h.os, h.tape, h.output, Nat.le_of_eq (size_setCells c vs o w).symm, fun i hi hn => World.heap_setCells_other w c o vs hi (fun e => hn (by rw [e]))⟩
theorem Nu.puts {w : World} {b : Nat} {v : Value} {n : Nat} {fs : List Int} (h : Nu w b v n fs) (c o : Nat) (vs : List Value) (hne : ∀ k, v.ownBlock = some k → k ≠ c) : Nu (w.setCells c o vs) b v n fs :=
  h.grownP (nu_grown_puts w c o vs) (fun k hk => .inr (fun e => by injection hk with hk; subst hk; exact hne _ e rfl))
theorem mxRA_no {ns zs : List Int} {n : Nat} (h : mxOk ns zs n = false) : mxRA ns zs n = z24 := by unfold mxRA; rw [h]; rfl
theorem mxLA_no {ns zs : List Int} {n : Nat} (h : mxOk ns zs n = false) : mxLA ns zs n = [] := by unfold mxLA; rw [h]; rfl
theorem mxRA_yes {ns zs : List Int} {n : Nat} (h : mxOk ns zs n = true) : mxRA ns zs n = mxR ns zs n := by unfold mxRA; rw [if_pos h]
theorem mxLA_yes {ns zs : List Int} {n : Nat} (h : mxOk ns zs n = true) : mxLA ns zs n = mxL ns zs n := by unfold mxLA; rw [if_pos h]
theorem l5BackLM (ns t : List Int) (w : World) (h24 : ns.length = 24) (hv : vR ns = true) (h3 : t.length = 3) : Calls Try.prog 37 #[row ns, .agg (ints t).toArray] w fun e w' => e = .returned (.tuple #[.agg (ints (backRL ns t)).toArray, .bool (backOkL ns t)]) ∧ Kept w w' := by
  obtain ⟨a, b, c, rfl⟩ := len3 h3; exact l5Back_any ns a b c w h24 hv
theorem Gr.one (w : World) (b : Nat) (t : TypeId) (x : List Int) (hx : x.length = 2) (hb : b ≤ w.heap.size) : Gr (w.alloc (.cells (ints x).toArray t)) b t 2 (.slice (some ⟨w.heap.size, 0, Option.none⟩) 1 1) [x] := by
  have := World.ownsRow_lit (base := b) (e := t) (size := 2) w (ints x).toArray 1 hb (by unfold maxLen; omega) (by simp [ints_len, hx])
  exact ⟨by simpa using this, fun l hl => by rw [List.mem_singleton.1 hl]; exact hx⟩
theorem gr_items {w : World} {b g cap n m : Nat} {t : TypeId} {ls : List (List Int)} (h : Gr w b t m (.slice (some ⟨g, 0, none⟩) n cap) ls) : ∀ j u, (ints ls.flatten)[j]? = some u → w.cell? ((⟨g, 0, none⟩ : Addr).add j) = some u :=
  World.ownsRow.cells h.row rfl
theorem Has.is4 {w : World} {b : Nat} {ns ms : List Int} {n : Nat} (h : Has w b ns n) (e : ns = ms) : Has w b ms n := e ▸ h

set_option maxHeartbeats 3200000 in
set_option maxRecDepth 100000 in
theorem specMixed (ns zs : List Int) (v : Value) (n b : Nat) (w : World) (h24 : ns.length = 24) (hn : n ≤ 1048576) (h : Nu w b v n zs) :
    Calls Try.prog 14 #[row ns, v] w (MxPost ns zs n w) := by
  have HB := Lib.hid ((((kept_refl w).alloc (.cells (ints ns).toArray 29)).alloc (.cells #[.int .i64 0, .int .i64 0, .int .i64 0, .int .i64 0, .int .i64 0, .int .i64 0, .int .i64 0, .int .i64 0, .int .i64 0, .int .i64 0, .int .i64 0, .int .i64 0, .int .i64 0, .int .i64 0, .int .i64 0, .int .i64 0, .int .i64 0, .int .i64 0, .int .i64 0, .int .i64 0, .int .i64 0, .int .i64 0, .int .i64 0, .int .i64 0] 29)).alloc (.cells #[] 52))
  have H := ((Has.box w 29 h24 (by omega)).alloc (.cells #[.int .i64 0, .int .i64 0, .int .i64 0, .int .i64 0, .int .i64 0, .int .i64 0, .int .i64 0, .int .i64 0, .int .i64 0, .int .i64 0, .int .i64 0, .int .i64 0, .int .i64 0, .int .i64 0, .int .i64 0, .int .i64 0, .int .i64 0, .int .i64 0, .int .i64 0, .int .i64 0, .int .i64 0, .int .i64 0, .int .i64 0, .int .i64 0] 29)).alloc (.cells #[] 52)
  have HZ := ((Has.zero24 (w.alloc (.cells (ints ns).toArray 29)) 29).at (size1 _ _)).alloc (.cells #[] 52)
  have P0 := Gr.none ((w.alloc (.cells (ints ns).toArray 29)).alloc (.cells #[.int .i64 0, .int .i64 0, .int .i64 0, .int .i64 0, .int .i64 0, .int .i64 0, .int .i64 0, .int .i64 0, .int .i64 0, .int .i64 0, .int .i64 0, .int .i64 0, .int .i64 0, .int .i64 0, .int .i64 0, .int .i64 0, .int .i64 0, .int .i64 0, .int .i64 0, .int .i64 0, .int .i64 0, .int .i64 0, .int .i64 0, .int .i64 0] 29)) (w.heap.size + 1 + 1) 52 2 (by simp)
  have hsz : ((w.alloc (.cells (ints ns).toArray 29)).alloc (.cells #[.int .i64 0, .int .i64 0, .int .i64 0, .int .i64 0, .int .i64 0, .int .i64 0, .int .i64 0, .int .i64 0, .int .i64 0, .int .i64 0, .int .i64 0, .int .i64 0, .int .i64 0, .int .i64 0, .int .i64 0, .int .i64 0, .int .i64 0, .int .i64 0, .int .i64 0, .int .i64 0, .int .i64 0, .int .i64 0, .int .i64 0, .int .i64 0] 29)).heap.size = w.heap.size + 1 + 1 := by simp
  rw [hsz] at P0
  have G0 := Lib.hid P0
  have HN := Lib.hid (((h.alloc (.cells (ints ns).toArray 29)).alloc (.cells #[.int .i64 0, .int .i64 0, .int .i64 0, .int .i64 0, .int .i64 0, .int .i64 0, .int .i64 0, .int .i64 0, .int .i64 0, .int .i64 0, .int .i64 0, .int .i64 0, .int .i64 0, .int .i64 0, .int .i64 0, .int .i64 0, .int .i64 0, .int .i64 0, .int .i64 0, .int .i64 0, .int .i64 0, .int .i64 0, .int .i64 0, .int .i64 0] 29)).alloc (.cells #[] 52))
  have AP := Lib.hid (fun k hk => (h.own k hk).2)
  have FL := Lib.hid h.flat
  obtain ⟨a, cap, rfl⟩ := h.shape
  have hz : z24.length = 24 := rfl
  clear h P0 hsz
  rw [row_ints]
  go_enter Try.func14, Try.ntmps14
  go_wp2_with (refine load_has rfl 29 _ rfl _ rfl ?_ 24 ?_ _ Try.underlying29 rfl ?_ ?_; rotate_left; (· (repeat (first | (with_reducible assumption) | ((with_reducible refine Has.box _ _ ?_ ?_) <;> (first | assumption | decide)) | (with_reducible refine Has.alloc ?_ _) | ((with_reducible refine Has.putOther ?_ _ _ ?_); rotate_left; omega; skip) | ((with_reducible refine Has.below ?_ ?_); rotate_left; assumption)))); (· kernel_rfl))
  refine (l2Rack_any ns _ h24).mono ?_
  rintro e w1 ⟨rfl, b1⟩
  replace H := H.below b1
  replace HZ := HZ.below b1
  replace G0 := Lib.hid (G0.out.below b1)
  replace HN := Lib.hid (HN.out.below b1)
  replace HB := Lib.hid (HB.out.call b1)
  clear b1
  have hbs := HB.out.size
  have hg0 := (G0.out.own (w.heap.size + 1 + 1) rfl).2
  by_cases hv : vR ns = true
  rotate_left
  · have hf : vR ns = false := by simpa using hv
    have O := Lib.hid (show mxOk ns zs n = false by unfold mxOk; rw [hf]; rfl)
    have S1 := Lib.hid (HZ.putAll z24 rfl)
    have S2 := Lib.hid (HB.out.puts (b := w.heap.size + 1) (by omega) 0 (ints z24))
    have S3 := Lib.hid (G0.out.puts (w.heap.size + 1) 0 (ints z24) (fun z hz => by have hz := Option.some.inj (show some (w.heap.size + 1 + 1) = some z from hz); omega))
    rw [hf]
    clear hf hv
    go_wp2_with (first | (refine build_law rfl 29 rfl _ buildRack ?_) | (refine store_at rfl 29 _ _ rfl _ _ rfl rfl ?_ 24 ?_ ?_ ?_ ?_; rotate_left; (· (repeat (first | (with_reducible assumption) | ((with_reducible refine Has.box _ _ ?_ ?_) <;> (first | assumption | decide)) | (with_reducible refine Has.alloc ?_ _) | ((with_reducible refine Has.putOther ?_ _ _ ?_); rotate_left; omega; skip) | ((with_reducible refine Has.below ?_ ?_); rotate_left; assumption)))); (· (first | assumption | rfl)); (· kernel_rfl)))
    exact bodyPost_ret (res_has2 rfl _ _ (w.heap.size + 1) z24 24 _ _ (.bool false) rfl rfl rfl S1.out Try.underlying29 rfl (by kernel_rfl)) rfl ⟨_, by rw [O.out, mxRA_no O.out]; rfl, (S3.out.mono (by omega)).as (mxLA_no O.out).symm, S2.out⟩
  have HV := Lib.hid hv
  rw [hv]
  clear hv
  by_cases hn20 : n ≤ 20
  rotate_left
  · have O := Lib.hid (show mxOk ns zs n = false by unfold mxOk; rw [decide_eq_false hn20, Bool.false_and, Bool.and_false])
    have S1 := Lib.hid (HZ.putAll z24 rfl)
    have S2 := Lib.hid (HB.out.puts (b := w.heap.size + 1) (by omega) 0 (ints z24))
    have S3 := Lib.hid (G0.out.puts (w.heap.size + 1) 0 (ints z24) (fun z hz => by have hz := Option.some.inj (show some (w.heap.size + 1 + 1) = some z from hz); omega))
    have hni : (20 : Int) < (n : Int) := by omega
    go_wp2_with (first | (refine build_law rfl 29 rfl _ buildRack ?_) | (refine store_at rfl 29 _ _ rfl _ _ rfl rfl ?_ 24 ?_ ?_ ?_ ?_; rotate_left; (· (repeat (first | (with_reducible assumption) | ((with_reducible refine Has.box _ _ ?_ ?_) <;> (first | assumption | decide)) | (with_reducible refine Has.alloc ?_ _) | ((with_reducible refine Has.putOther ?_ _ _ ?_); rotate_left; omega; skip) | ((with_reducible refine Has.below ?_ ?_); rotate_left; assumption)))); (· (first | assumption | rfl)); (· kernel_rfl)))
    exact bodyPost_ret (res_has2 rfl _ _ (w.heap.size + 1) z24 24 _ _ (.bool false) rfl rfl rfl S1.out Try.underlying29 rfl (by kernel_rfl)) rfl ⟨_, by rw [O.out, mxRA_no O.out]; rfl, (S3.out.mono (by omega)).as (mxLA_no O.out).symm, S2.out⟩
  have hni : ¬ (20 : Int) < (n : Int) := by omega
  have H24 := Lib.hid h24
  have N0 : Hid (negUp zs 0 = false) := Lib.hid (by unfold negUp; simp)
  clear h24
  go_wp2_with fail
  go_loop [8] (fun i => ∃ k : Nat, k ≤ n ∧ i = .int .i64 k ∧ Hid (negUp zs k = false)) (fun i => n - (intOf i).toNat)
  case atStart => exact ⟨0, by omega, rfl, N0⟩
  case round =>
    obtain ⟨k, hk, rfl, NK⟩ := hrel
    by_cases hkn : k < n
    · have ki : (k : Int) < (n : Int) := by omega
      have k0 : (0 : Int) ≤ (k : Int) := by omega
      obtain ⟨g, c2, he, _, _⟩ := HN.out.form (by omega)
      injection he with e1 _ e3
      subst e1
      subst e3
      have c0 := HN.out.cell k hkn
      have NS := Lib.hid (negUp_succ (zs := zs) (k := k) (by rw [FL.out]; exact hkn))
      generalize zs.getD k 0 = y at *
      by_cases hy : y < 0
      · have O := Lib.hid (show mxOk ns zs n = false from by
          have h1 : negUp zs (k + 1) = true := by rw [NS.out, decide_eq_true hy, Bool.or_true]
          have h2 : negUp zs n = true := by
            unfold negUp at h1 ⊢
            rw [List.any_eq_true] at h1 ⊢
            obtain ⟨z, hz, hz2⟩ := h1
            exact ⟨z, by rw [List.take_of_length_le (by rw [FL.out]; exact Nat.le_refl _)]; exact List.mem_of_mem_take hz, hz2⟩
          unfold mxOk
          rw [h2, Bool.not_true, Bool.and_false, Bool.and_false])
        have S1 := Lib.hid ((HZ.alloc (.cells #[] 52)).putAll z24 rfl)
        have S2 := Lib.hid ((HB.out.alloc (.cells #[] 52)).puts (b := w.heap.size + 1) (by omega) 0 (ints z24))
        have S3 := Lib.hid ((Gr.none w1 w.heap.size 52 2 (by omega)).puts (w.heap.size + 1) 0 (ints z24) (fun z hz => by have hz := Option.some.inj (show some w1.heap.size = some z from hz); omega))
        have HZ2 := HZ.alloc (.cells #[] 52)
        clear NS
        go_wp2_with (first | (refine build_law rfl 29 rfl _ buildRack ?_) | (refine store_at rfl 29 _ _ rfl _ _ rfl rfl ?_ 24 ?_ ?_ ?_ ?_; rotate_left; (· (repeat (first | (with_reducible assumption) | ((with_reducible refine Has.box _ _ ?_ ?_) <;> (first | assumption | decide)) | (with_reducible refine Has.alloc ?_ _) | ((with_reducible refine Has.putOther ?_ _ _ ?_); rotate_left; omega; skip) | ((with_reducible refine Has.below ?_ ?_); rotate_left; assumption)))); (· (first | assumption | rfl)); (· kernel_rfl)))
        exact bodyPost_ret (res_has2 rfl _ _ (w.heap.size + 1) z24 24 _ _ (.bool false) rfl rfl rfl S1.out Try.underlying29 rfl (by kernel_rfl)) rfl ⟨_, by rw [O.out, mxRA_no O.out]; rfl, S3.out.as (mxLA_no O.out).symm, S2.out⟩
      · have N2 := Lib.hid (show negUp zs (k + 1) = false by rw [NS.out, decide_eq_false hy, NK.out]; rfl)
        clear NS
        go_wp2_with fail
        go_round
        case rel => exact ⟨k + 1, by omega, by go_num, N2⟩
        case measure => simp [intOf]; omega
    · obtain rfl : k = n := by omega
      have O := Lib.hid (show mxOk ns zs k = true by unfold mxOk; rw [HV.out, NK.out, decide_eq_true hn20]; rfl)
      have NN := Lib.hid (fun j hj => negUp_not NK.out FL.out (k := j) hj)
      have ML := Lib.hid (mxR_len H24.out zs)
      have MV := Lib.hid (mxR_valid H24.out HV.out zs)
      have HS := H
      have HZS := HZ
      have B0 := HB
      go_wp2_with fail
      go_loopg [7, 9] k (fun gk u i wr => ∃ j g cp : Nat, gk = k - j ∧ j ≤ k ∧ u = .slice (some ⟨g, 0, none⟩) (mxL ns zs j).length cp ∧ i = .int .i64 j ∧ Has wr w.heap.size (mxR ns zs j) 24 ∧ Has wr (w.heap.size + 1) z24 24 ∧ Hid (Gr wr (w.heap.size + 1 + 1) 52 2 (.slice (some ⟨g, 0, none⟩) (mxL ns zs j).length cp) (mxL ns zs j)) ∧ Hid (Nu wr b (.slice a k cap) k zs) ∧ Hid (Kept w wr))
      case atStart => exact ⟨0, w.heap.size + 1 + 1, 0, rfl, by omega, rfl, rfl, HS, HZS, G0, HN, B0⟩
      case round =>
        clear H HZ HS HZS G0 HN HB B0 hg0 hbs NK
        obtain ⟨j, gp, cp, rfl, hj, rfl, rfl, KA, KZ, KO, KN, KB⟩ := hrel
        have hRl := ML.out j
        have hRv := MV.out j
        have hle := mxL_le ns zs j
        have two := Lib.hid (mxL_two ns zs j)
        by_cases hjk : j < k
        · have ji : (j : Int) < (k : Int) := by omega
          have j0 : (0 : Int) ≤ (j : Int) := by omega
          obtain ⟨g, c2, he, _, _⟩ := KN.out.form (by omega)
          injection he with e1 _ e3
          subst e1
          subst e3
          have hyn := NN.out j hjk
          have ST := Lib.hid (fun (h : isGd (mxR ns zs j) = true) => mx_stopN h hj)
          have GO := Lib.hid (fun (h : isGd (mxR ns zs j) = false) => mx_go h)
          have CY := Lib.hid (fun (w' : World) (h : Nu w' b (.slice (some ⟨g, 0, none⟩) k cap) k zs) => h.cell j hjk)
          have hbs := KB.out.size
          have hkz := KZ.lt
          have hka := KA.lt
          obtain ⟨r, hr⟩ : ∃ r, mxR ns zs j = r := ⟨_, rfl⟩
          obtain ⟨L, hL⟩ : ∃ L, mxL ns zs j = L := ⟨_, rfl⟩
          rw [hr] at hRl hRv KA ST GO
          rw [hL] at KO hle two GO ST
          have HR := Lib.hid hr
          have HLq := Lib.hid hL
          rw [hL]
          clear hr hL
          obtain ⟨y, hy⟩ : ∃ y, zs.getD j 0 = y := ⟨_, rfl⟩
          rw [hy] at hyn GO CY
          clear hy
          have hgp := (KO.out.own gp rfl).2
          go_wp2_with (refine load_has rfl 29 _ rfl _ rfl ?_ 24 ?_ _ Try.underlying29 rfl ?_ ?_; rotate_left; (· (repeat (first | (with_reducible assumption) | ((with_reducible refine Has.box _ _ ?_ ?_) <;> (first | assumption | decide)) | (with_reducible refine Has.alloc ?_ _) | ((with_reducible refine Has.putOther ?_ _ _ ?_); rotate_left; omega; skip) | ((with_reducible refine Has.below ?_ ?_); rotate_left; assumption)))); (· kernel_rfl))
          refine (l5Sources_any r _ hRl hRv).mono ?_
          rintro e w3 ⟨v5, rfl, G5a, b3⟩
          have SA := Lib.hid (show srcL r 144 = srcA r by unfold srcA; rw [if_pos hRv])
          have G5 := Lib.hid ((G5a.as SA.out).mono (b' := 0) (Nat.zero_le _))
          replace KA := KA.below b3
          replace KZ := KZ.below b3
          replace KO := Lib.hid (KO.out.below b3)
          replace KN := Lib.hid (KN.out.below b3)
          replace KB := Lib.hid (KB.out.call b3)
          clear G5a b3 SA
          obtain ⟨a5, cap5, rfl⟩ := G5.out.shape
          have cy := CY.out _ KN.out
          by_cases hg : isGd r = true
          · have hl0 : (srcA r).length = 0 := by unfold isGd at hg; exact of_decide_eq_true hg
            obtain ⟨e1, e2⟩ := ST.out hg
            have E1 := Lib.hid e1
            have E2 := Lib.hid e2
            rw [hl0]
            have S1 := Lib.hid (KZ.putAll r hRl)
            have S2 := Lib.hid (KB.out.puts (b := w.heap.size + 1) (by omega) 0 (ints r))
            have S3 := Lib.hid (KO.out.puts (w.heap.size + 1) 0 (ints r) (fun z hz => by have h1 := (KO.out.own z hz).1; omega))
            clear hl0 e1 e2 hg ST GO
            go_wp2_with (first | (refine load_has rfl 29 _ rfl _ rfl ?_ 24 ?_ _ Try.underlying29 rfl ?_ ?_; rotate_left; (· (repeat (first | (with_reducible assumption) | ((with_reducible refine Has.box _ _ ?_ ?_) <;> (first | assumption | decide)) | (with_reducible refine Has.alloc ?_ _) | ((with_reducible refine Has.putOther ?_ _ _ ?_); rotate_left; omega; skip) | ((with_reducible refine Has.below ?_ ?_); rotate_left; assumption)))); (· kernel_rfl)) | (refine store_at rfl 29 _ _ rfl _ _ rfl rfl ?_ 24 ?_ ?_ ?_ ?_; rotate_left; (· (repeat (first | (with_reducible assumption) | ((with_reducible refine Has.box _ _ ?_ ?_) <;> (first | assumption | decide)) | (with_reducible refine Has.alloc ?_ _) | ((with_reducible refine Has.putOther ?_ _ _ ?_); rotate_left; omega; skip) | ((with_reducible refine Has.below ?_ ?_); rotate_left; assumption)))); (· (first | assumption | rfl)); (· kernel_rfl)))
            exact bodyPost_ret (res_has2 rfl _ _ (w.heap.size + 1) r 24 _ _ (.bool true) rfl rfl rfl S1.out Try.underlying29 rfl (by kernel_rfl)) rfl ⟨_, by rw [O.out, mxRA_yes O.out, E1.out]; rfl, (S3.out.mono (by omega)).as (by rw [mxLA_yes O.out, E2.out]), S2.out⟩
          · have hgf : isGd r = false := by simpa using hg
            have hx3 := mxS_len hgf y
            have hq := mxS_mem hgf y
            obtain ⟨e1, e2⟩ := GO.out hgf
            have E1 := Lib.hid e1
            have E2 := Lib.hid e2
            have hSx : mxS r y = (srcA r).getD (y.toNat % (srcA r).length) [] := rfl
            have hPx : mxPr r y = [(mxS r y).getD 0 0, (mxS r y).getD 1 0] := rfl
            rw [hPx] at E2
            obtain ⟨g5, c5, he5, _, hg5⟩ := G5.out.form (by omega)
            injection he5 with e51 _ e53
            subst e51
            subst e53
            obtain ⟨M, hM⟩ : ∃ M, (srcA r).length = M := ⟨_, rfl⟩
            have RG5 := G5.out.range (n := (srcA r).length) rfl _ hq
            rw [← hSx] at RG5
            rw [hM] at hq RG5
            obtain ⟨q, hqq⟩ : ∃ q, y.toNat % M = q := ⟨_, rfl⟩
            rw [hqq] at hq RG5
            have hrem : Int.tmod y (M : Int) = (q : Int) := by rw [Int.tmod_eq_emod_of_nonneg hyn, ← hqq, Int.natCast_emod, Int.toNat_of_nonneg hyn]
            have hM0 : ((M : Int) == 0) = false := by simp; omega
            have hMl : M ≤ 144 := by rw [← hM]; exact srcA_le r
            have RG := Lib.hid RG5
            rw [hM]
            obtain ⟨x, hx⟩ : ∃ x, mxS r y = x := ⟨_, rfl⟩
            rw [hx] at hx3 RG E1 E2
            clear RG5 hSx hPx hM hqq hx hg hgf e1 e2 ST GO
            have hi3 : (Try.prog.info? 60).map (·.size) = some (ints x).length := by rw [ints_len, hx3]; kernel_rfl
            have hq0 : (0 : Int) ≤ (q : Int) := by omega
            have hqM : (q : Int) < (M : Int) := by omega
            have hbs3 := KB.out.size
            have hkz3 := KZ.lt
            have hka3 := KA.lt
            have hgp3 := (KO.out.own gp rfl)
            have B11 := Has.box w3 60 hx3 (by omega)
            replace KA := KA.alloc (.cells (ints x).toArray 60)
            replace KZ := KZ.alloc (.cells (ints x).toArray 60)
            replace KO := Lib.hid (KO.out.alloc (.cells (ints x).toArray 60))
            replace KN := Lib.hid (KN.out.alloc (.cells (ints x).toArray 60))
            replace KB := Lib.hid (KB.out.alloc (.cells (ints x).toArray 60))
            go_wp2_with (first | (refine wpList_load_mid rfl 60 _ rfl g5 (q * 3) rfl (ints x) _ RG.out Try.underlying60 rfl hi3 ?_) | (refine store_new rfl 60 _ _ rfl _ _ _ rfl _ rfl _ rfl rfl ?_ ?_ ?_; (· (first | assumption | rfl)); (· kernel_rfl)) | (refine load_has rfl 29 _ rfl _ rfl ?_ 24 ?_ _ Try.underlying29 rfl ?_ ?_; rotate_left; (· (repeat (first | (with_reducible assumption) | ((with_reducible refine Has.box _ _ ?_ ?_) <;> (first | assumption | decide)) | (with_reducible refine Has.alloc ?_ _) | ((with_reducible refine Has.putOther ?_ _ _ ?_); rotate_left; omega; skip) | ((with_reducible refine Has.below ?_ ?_); rotate_left; assumption)))); (· kernel_rfl)) | (refine load_has rfl 60 _ rfl _ rfl ?_ 3 ?_ _ Try.underlying60 rfl ?_ ?_; rotate_left; (· (repeat (first | (with_reducible assumption) | ((with_reducible refine Has.box _ _ ?_ ?_) <;> (first | assumption | decide)) | (with_reducible refine Has.alloc ?_ _) | ((with_reducible refine Has.putOther ?_ _ _ ?_); rotate_left; omega; skip) | ((with_reducible refine Has.below ?_ ?_); rotate_left; assumption)))); (· kernel_rfl)))
            refine (l5BackLM r x _ hRl hRv hx3).mono ?_
            rintro e w4 ⟨rfl, b4⟩
            have hl4 := b4.size
            have hB4 := B11.lt
            have hbl := backRL_len hRl x
            replace B11 := (B11.below b4).putOther (b' := w.heap.size) 0 (ints (backRL r x)) (by omega)
            have KA0 := KA.below b4
            have KA1 := KA0.putAll (backRL r x) hbl
            replace KZ := (KZ.below b4).putOther (b' := w.heap.size) 0 (ints (backRL r x)) (by omega)
            replace KO := Lib.hid ((KO.out.below b4).puts w.heap.size 0 (ints (backRL r x)) (fun z hz => by have hz := Option.some.inj (show some gp = some z from hz); omega))
            replace KN := Lib.hid ((KN.out.below b4).puts w.heap.size 0 (ints (backRL r x)) (fun z hz => by have hz' := AP.out z hz; omega))
            replace KB := Lib.hid ((KB.out.call b4).puts (b := w.heap.size) (Nat.le_refl _) 0 (ints (backRL r x)))
            clear b4 RG cy KA G5 hrem
            go_upto_region 16 with (refine store_at rfl 29 _ _ rfl _ _ rfl rfl ?_ 24 ?_ ?_ ?_ ?_; rotate_left; (· (repeat (first | (with_reducible assumption) | ((with_reducible refine Has.box _ _ ?_ ?_) <;> (first | assumption | decide)) | (with_reducible refine Has.alloc ?_ _) | ((with_reducible refine Has.putOther ?_ _ _ ?_); rotate_left; omega; skip) | ((with_reducible refine Has.below ?_ ?_); rotate_left; assumption)))); (· (first | assumption | rfl)); (· kernel_rfl))
            generalize hW5 : w4.setCells w.heap.size 0 (ints (backRL r x)) = W5 at *
            clear hW5 KA0
            obtain ⟨x0, hx0⟩ : ∃ z, x.getD 0 0 = z := ⟨_, rfl⟩
            obtain ⟨x1, hx1⟩ : ∃ z, x.getD 1 0 = z := ⟨_, rfl⟩
            have f0 := B11.cell 0 (by omega)
            have f1 := B11.cell 1 (by omega)
            rw [hx0] at f0 E2
            rw [hx1] at f1 E2
            have hbs5 := KB.out.size
            have hgp5 := (KO.out.own gp rfl)
            clear hx0 hx1 hq hqM hq0
            generalize w3.heap.size = b11 at *
            go_wp2_with (at_builtin; refine wpList_plain rfl fun K' hK' => ?_; refine wp_append_many _ _ 26 rfl W5.heap.size 52 2 16 Try.underlying26 (by kernel_rfl) (by omega) (by omega) _ 1 [[x0, x1]] rfl rfl (Gr.one W5 W5.heap.size 52 [x0, x1] rfl (Nat.le_refl _)) ⟨gp, 0, none⟩ L.length cp rfl L rfl two.out (gr_items (KO.out.alloc _)) (by simp) (by omega) ?_; intro v' w' hG hgrow hlie; refine hK' _ _ ?_)
            obtain ⟨an, cn, hv'⟩ := hG.shape
            subst hv'
            have hlen : ([[x0, x1]] ++ L : List (List Int)).length = L.length + 1 := by simp
            obtain ⟨gn, cn2, hf, hb0, hb1⟩ := hG.form (by rw [hlen]; omega)
            injection hf with e1 _ e3
            subst e1
            subst e3
            have A0 := Lib.hid ((hG.mono (b' := w.heap.size + 1 + 1) (by omega)).as (show [[x0, x1]] ++ L = mxL ns zs (j + 1) by rw [E2.out]; rfl))
            have hll : ([[x0, x1]] ++ L : List (List Int)).length = (mxL ns zs (j + 1)).length := by rw [E2.out]; rfl
            have NB : ∀ c : Nat, c < W5.heap.size → some c ≠ (Value.slice (some ⟨W5.heap.size, 0, none⟩) 1 1).ownBlock := fun c hc e => by have e := Option.some.inj (show some c = some W5.heap.size from e); omega
            have A1 := ((KA1.alloc (.cells (ints [x0, x1]).toArray 52)).grownNo hgrow (NB _ (by omega))).is4 (show backRL r x = mxR ns zs (j + 1) from E1.out.symm)
            have A2 := (KZ.alloc (.cells (ints [x0, x1]).toArray 52)).grownNo hgrow (NB _ (by omega))
            have A3 := Lib.hid ((KN.out.alloc (.cells (ints [x0, x1]).toArray 52)).grownP hgrow (fun z hz => .inr (fun e => by
              have hz := Option.some.inj (show some W5.heap.size = some z from hz)
              have := (KN.out.own z e).2
              omega)))
            have A4 : Hid (Kept w w') := Lib.hid ((KB.out.alloc (.cells (ints [x0, x1]).toArray 52)).grown hgrow (KB.out.alloc (.cells (ints [x0, x1]).toArray 52)).size (fun z hz => by have hz := Option.some.inj (show some W5.heap.size = some z from hz); omega))
            rw [hll] at A0 ⊢
            clear hG hgrow hlie KA1 KZ KO KN KB E1 E2
            go_wp2_with fail
            go_roundg (k - (j + 1))
            case rel => exact ⟨j + 1, gn, cn, rfl, by omega, rfl, by go_num, A1, A2, A0, A3, A4⟩
            case measure => omega
        · obtain rfl : j = k := by omega
          have S1 := Lib.hid (KZ.putAll (mxR ns zs j) hRl)
          have hbs := KB.out.size
          have hkz := KZ.lt
          have S2 := Lib.hid (KB.out.puts (b := w.heap.size + 1) (by omega) 0 (ints (mxR ns zs j)))
          have S3 := Lib.hid (KO.out.puts (w.heap.size + 1) 0 (ints (mxR ns zs j)) (fun z hz => by have h1 := (KO.out.own z hz).1; omega))
          go_wp2_with (first | (refine load_has rfl 29 _ rfl _ rfl ?_ 24 ?_ _ Try.underlying29 rfl ?_ ?_; rotate_left; (· (repeat (first | (with_reducible assumption) | ((with_reducible refine Has.box _ _ ?_ ?_) <;> (first | assumption | decide)) | (with_reducible refine Has.alloc ?_ _) | ((with_reducible refine Has.putOther ?_ _ _ ?_); rotate_left; omega; skip) | ((with_reducible refine Has.below ?_ ?_); rotate_left; assumption)))); (· kernel_rfl)) | (refine store_at rfl 29 _ _ rfl _ _ rfl rfl ?_ 24 ?_ ?_ ?_ ?_; rotate_left; (· (repeat (first | (with_reducible assumption) | ((with_reducible refine Has.box _ _ ?_ ?_) <;> (first | assumption | decide)) | (with_reducible refine Has.alloc ?_ _) | ((with_reducible refine Has.putOther ?_ _ _ ?_); rotate_left; omega; skip) | ((with_reducible refine Has.below ?_ ?_); rotate_left; assumption)))); (· (first | assumption | rfl)); (· kernel_rfl)))
          exact bodyPost_ret (res_has2 rfl _ _ (w.heap.size + 1) (mxR ns zs j) 24 _ _ (.bool true) rfl rfl rfl S1.out Try.underlying29 rfl (by kernel_rfl)) rfl ⟨_, by rw [O.out, mxRA_yes O.out]; rfl, (S3.out.mono (by omega)).as (mxLA_yes O.out).symm, S2.out⟩
end Go.Proofs.Ythnkfdhnbafcjab.base
