/-
  Racks mixed by choices, on the program's side, walked.
-/
import Derived.Test.YthnkfdhnbafcjabMxS
namespace Go.Proofs.Ythnkfdhnbafcjab.base
open Go.ChangeShapes Go.WideShapes Go.ChangeAt Go.RowKit
set_option linter.unusedVariables false
set_option linter.unusedSimpArgs false

def z40 : List Int := [0, 0, 0, 0, 0, 0, 0, 0, 0, 0, 0, 0, 0, 0, 0, 0, 0, 0, 0, 0, 0, 0, 0, 0, 0, 0, 0, 0, 0, 0, 0, 0, 0, 0, 0, 0, 0, 0, 0, 0]
theorem build40 (w : World) : (Instr.build 65 #[]).run Try.prog w = .ok (.agg (ints z40).toArray) w := by kernel_rfl
theorem copy_pairs {P : Program} (w : World) (dT sT ty elem : TypeId) (hu : P.underlying dT = some (.slice elem)) (hs : (P.info? elem).map (·.size) = some 2) (base g m sCap : Nat) (t : TypeId) (a : Addr) (fs : List Value) (L : List (List Int)) (hL : L.length = m) (h2 : ∀ l ∈ L, l.length = 2)
    (hown : w.ownsRow base t 2 (.slice (some ⟨g, 0, none⟩) m m) m fs) (hsrc : ∀ j v, (ints L.flatten)[j]? = some v → w.cell? (a.add j) = some v) :
    ∃ w', (Builtin.copy_ #[dT, sT] ty #[.slice (some ⟨g, 0, none⟩) m m, .slice (some a) m sCap]).run P w = .ok (goInt m) w' ∧ Gr w' base t 2 (.slice (some ⟨g, 0, none⟩) m m) L ∧ w.grownBy w' (some g) := by
  rcases hown.2 with ⟨h0, _⟩ | ⟨g', cap, cur, hv, hb, hg, hc1, hc2, hs2, ht⟩
  · cases h0
  · injection hv with e1 _ e3
    have e1 := Option.some.inj e1
    injection e1 with e1
    subst e1
    subst e3
    have hcs : (ints L.flatten).length = m * 2 := by rw [ints_len, flat_len L h2, hL]
    have hl := run_loadCells_list (P := P) w a (ints L.flatten) hsrc
    have hst := run_storeCells_at P g 0 t (ints L.flatten) 0 cur w hg (by omega) (ints_one _)
    have e : cur.toList.take (0 + 0) ++ ints L.flatten ++ cur.toList.drop (0 + 0 + (ints L.flatten).length) = ints L.flatten := by
      rw [List.drop_of_length_le (by rw [hcs, Array.length_toList]; omega)]; simp
    rw [e] at hst
    refine ⟨w.setRow g (ints L.flatten).toArray, ?_, ⟨?_, h2⟩, ?_⟩
    · cases hq : P.info? elem with
      | none => simp [hq] at hs
      | some i =>
        have hi : i.size = 2 := by simpa [hq] using hs
        rw [hcs] at hl
        simp [Builtin.copy_, run_underlying hu, Builtin.lenOf, Builtin.firstCells, sizeOf, typeInfo, hq, hi, hl, hst]
    · rw [hL]
      exact ⟨hcs, .inr ⟨g, m, (ints L.flatten).toArray, rfl, hb, setRow_heap w g cur _ t _ hg, Nat.le_refl _, hc2, by simpa using hcs, List.take_of_length_le (by simp [hcs])⟩⟩
    · exact ⟨rfl, rfl, rfl, by simp, fun k hk hne => setRow_other w g k _ (fun e => hne (by rw [e]))⟩
theorem wpList_copy_pairs {P : Program} {w : World} {ops : Array Oper} {rest : List Oper} {o : Oper} {a : Act} {Q : Exit → Act → World → Prop} (hgd : o.guard = none) (d s : Operand) (dT sT : TypeId)
    (ho : o.op = .call { callee := .builtin .copy, args := #[d, s], argTypes := #[dT, sT] }) (elem : TypeId) (hu : P.underlying dT = some (.slice elem)) (hs : (P.info? elem).map (·.size) = some 2) (base g m sCap : Nat) (t : TypeId) (ad : Addr) (fs : List Value) (L : List (List Int)) (hL : L.length = m) (h2 : ∀ l ∈ L, l.length = 2)
    (hown : w.ownsRow base t 2 (.slice (some ⟨g, 0, none⟩) m m) m fs) (hsrc : ∀ j v, (ints L.flatten)[j]? = some v → w.cell? (ad.add j) = some v)
    (hd : a.eval d = .slice (some ⟨g, 0, none⟩) m m) (hsv : a.eval s = .slice (some ad) m sCap)
    (h : ∀ w', Gr w' base t 2 (.slice (some ⟨g, 0, none⟩) m m) L → w.grownBy w' (some g) → wpList P ops Q rest (a.put o.dst (goInt m)) w') : wpList P ops Q (o :: rest) a w := by
  refine wpList_plain hgd fun K hK => ?_
  obtain ⟨w', hrun, h1, h3⟩ := copy_pairs (P := P) w dT sT o.type elem hu hs base g m sCap t ad fs L hL h2 hown hsrc
  unfold Oper.wp
  simp [execOp, ho, resolve, invoke, builtin, hd, hsv, hrun, Result.andThen]
  exact hK _ _ (h w' h1 h3)
theorem Has.putAt {w : World} {b n : Nat} {F : List Int} (h : Has w b F n) (o : Nat) (ms : List Int) (hl : o + ms.length ≤ n) : Has (w.setCells b o (ints ms)) b (F.take o ++ ms ++ F.drop (o + ms.length)) n :=
  ⟨h.holds.putInts o ms (by rw [h.len]; exact hl), by have := h.len; simp; omega, h.pos⟩
theorem F_step {F : List Int} {L : List (List Int)} {x0 x1 : Int} {p : Nat} (hF : F.length = 40) (hp : p + 1 + L.length = 20) (h : F.drop ((20 - L.length) * 2) = L.flatten) :
    (F.take (p * 2) ++ [x0, x1] ++ F.drop (p * 2 + 2)).drop (p * 2) = ([x0, x1] :: L).flatten := by
  rw [show (20 - L.length) * 2 = p * 2 + 2 by omega] at h
  rw [h, List.append_assoc, List.drop_append_of_le_length (by rw [List.length_take]; omega), List.drop_of_length_le (by rw [List.length_take]; omega)]
  rfl
theorem F_cells {w : World} {b8 : Nat} {F : List Int} {L : List (List Int)} (H : Has w b8 F 40) (o : Nat) (h : F.drop o = L.flatten) : ∀ j v, (ints L.flatten)[j]? = some v → w.cell? ((⟨b8, o, none⟩ : Addr).add j) = some v := by
  intro j v hv
  have e : (⟨b8, o, none⟩ : Addr).add j = ⟨b8, o + j, none⟩ := by unfold Addr.add; split <;> simp_all
  have hj : j < L.flatten.length := by
    rcases Nat.lt_or_ge j L.flatten.length with h1 | h1
    · exact h1
    · rw [List.getElem?_eq_none (by rw [ints_len]; exact h1)] at hv; cases hv
  have hl : L.flatten.length = 40 - o := by rw [← h, List.length_drop, H.len]
  rw [e, H.cell (o + j) (by omega), ← hv, ints_get _ _ hj, ← h, List.getD_eq_getElem?_getD, List.getD_eq_getElem?_getD, List.getElem?_drop]

theorem infoPairN : (Try.prog.info? 52).map (fun i => (i.zero, i.size, i.bytes)) = some (some (.agg #[.int .i64 0, .int .i64 0]), 2, 16) := by kernel_rfl

set_option maxHeartbeats 3200000 in
set_option maxRecDepth 100000 in
theorem implMixed (ns zs : List Int) (v : Value) (n b : Nat) (w : World) (h24 : ns.length = 24) (hn : n ≤ 1048576) (h : Nu w b v n zs) :
    Calls Try.prog 16 #[row ns, v] w (MxPost ns zs n w) := by
  have HB := Lib.hid (((kept_refl w).alloc (.cells (ints ns).toArray 29)).alloc (.cells #[.int .i64 0, .int .i64 0, .int .i64 0, .int .i64 0, .int .i64 0, .int .i64 0, .int .i64 0, .int .i64 0, .int .i64 0, .int .i64 0, .int .i64 0, .int .i64 0, .int .i64 0, .int .i64 0, .int .i64 0, .int .i64 0, .int .i64 0, .int .i64 0, .int .i64 0, .int .i64 0, .int .i64 0, .int .i64 0, .int .i64 0, .int .i64 0] 29))
  have H := (Has.box w 29 h24 (by omega)).alloc (.cells #[.int .i64 0, .int .i64 0, .int .i64 0, .int .i64 0, .int .i64 0, .int .i64 0, .int .i64 0, .int .i64 0, .int .i64 0, .int .i64 0, .int .i64 0, .int .i64 0, .int .i64 0, .int .i64 0, .int .i64 0, .int .i64 0, .int .i64 0, .int .i64 0, .int .i64 0, .int .i64 0, .int .i64 0, .int .i64 0, .int .i64 0, .int .i64 0] 29)
  have HZ := (Has.zero24 (w.alloc (.cells (ints ns).toArray 29)) 29).at (size1 _ _)
  have HN := Lib.hid ((h.alloc (.cells (ints ns).toArray 29)).alloc (.cells #[.int .i64 0, .int .i64 0, .int .i64 0, .int .i64 0, .int .i64 0, .int .i64 0, .int .i64 0, .int .i64 0, .int .i64 0, .int .i64 0, .int .i64 0, .int .i64 0, .int .i64 0, .int .i64 0, .int .i64 0, .int .i64 0, .int .i64 0, .int .i64 0, .int .i64 0, .int .i64 0, .int .i64 0, .int .i64 0, .int .i64 0, .int .i64 0] 29))
  have AP := Lib.hid (fun k hk => (h.own k hk).2)
  have FL := Lib.hid h.flat
  obtain ⟨a, cap, rfl⟩ := h.shape
  have hz : z24.length = 24 := rfl
  clear h
  rw [row_ints]
  go_enter Try.func16, Try.ntmps16
  go_wp2_with (refine load_has rfl 29 _ rfl _ rfl ?_ 24 ?_ _ Try.underlying29 rfl ?_ ?_; rotate_left; (· (repeat (first | (with_reducible assumption) | ((with_reducible refine Has.box _ _ ?_ ?_) <;> (first | assumption | decide)) | (with_reducible refine Has.alloc ?_ _) | ((with_reducible refine Has.putOther ?_ _ _ ?_); rotate_left; omega; skip) | ((with_reducible refine Has.below ?_ ?_); rotate_left; assumption)))); (· kernel_rfl))
  refine (isRack_any ns _ h24).mono ?_
  rintro e w1 ⟨rfl, b1⟩
  replace H := H.below b1
  replace HZ := HZ.below b1
  replace HN := Lib.hid (HN.out.below b1)
  replace HB := Lib.hid (HB.out.call b1)
  clear b1
  have hbs := HB.out.size
  have hzl := HZ.lt
  by_cases hv : vR ns = true
  rotate_left
  · have hf : vR ns = false := by simpa using hv
    have O := Lib.hid (show mxOk ns zs n = false by unfold mxOk; rw [hf]; rfl)
    have S1 := Lib.hid ((HZ.alloc (.cells #[] 52)).putAll z24 rfl)
    have S2 := Lib.hid ((HB.out.alloc (.cells #[] 52)).puts (b := w.heap.size + 1) (by omega) 0 (ints z24))
    have S3 := Lib.hid ((Gr.none w1 w.heap.size 52 2 (by omega)).puts (w.heap.size + 1) 0 (ints z24) (fun z hz => by have hz := Option.some.inj (show some w1.heap.size = some z from hz); omega))
    have HZ2 := HZ.alloc (.cells #[] 52)
    rw [hf]
    clear hf hv
    go_wp2_with (first | (refine build_law rfl 29 rfl _ buildRack ?_) | (refine store_at rfl 29 _ _ rfl _ _ rfl rfl ?_ 24 ?_ ?_ ?_ ?_; rotate_left; (· (repeat (first | (with_reducible assumption) | ((with_reducible refine Has.box _ _ ?_ ?_) <;> (first | assumption | decide)) | (with_reducible refine Has.alloc ?_ _) | ((with_reducible refine Has.putOther ?_ _ _ ?_); rotate_left; omega; skip) | ((with_reducible refine Has.below ?_ ?_); rotate_left; assumption)))); (· (first | assumption | rfl)); (· kernel_rfl)))
    exact bodyPost_ret (res_has2 rfl _ _ (w.heap.size + 1) z24 24 _ _ (.bool false) rfl rfl rfl S1.out Try.underlying29 rfl (by kernel_rfl)) rfl ⟨_, by rw [O.out, mxRA_no O.out]; rfl, S3.out.as (mxLA_no O.out).symm, S2.out⟩
  have HV := Lib.hid hv
  rw [hv]
  clear hv
  by_cases hn20 : n ≤ 20
  rotate_left
  · have hni : (20 : Int) < (n : Int) := by omega
    have O := Lib.hid (show mxOk ns zs n = false by unfold mxOk; rw [decide_eq_false hn20, Bool.false_and, Bool.and_false])
    have S1 := Lib.hid ((HZ.alloc (.cells #[] 52)).putAll z24 rfl)
    have S2 := Lib.hid ((HB.out.alloc (.cells #[] 52)).puts (b := w.heap.size + 1) (by omega) 0 (ints z24))
    have S3 := Lib.hid ((Gr.none w1 w.heap.size 52 2 (by omega)).puts (w.heap.size + 1) 0 (ints z24) (fun z hz => by have hz := Option.some.inj (show some w1.heap.size = some z from hz); omega))
    have HZ2 := HZ.alloc (.cells #[] 52)
    go_wp2_with (first | (refine build_law rfl 29 rfl _ buildRack ?_) | (refine store_at rfl 29 _ _ rfl _ _ rfl rfl ?_ 24 ?_ ?_ ?_ ?_; rotate_left; (· (repeat (first | (with_reducible assumption) | ((with_reducible refine Has.box _ _ ?_ ?_) <;> (first | assumption | decide)) | (with_reducible refine Has.alloc ?_ _) | ((with_reducible refine Has.putOther ?_ _ _ ?_); rotate_left; omega; skip) | ((with_reducible refine Has.below ?_ ?_); rotate_left; assumption)))); (· (first | assumption | rfl)); (· kernel_rfl)))
    exact bodyPost_ret (res_has2 rfl _ _ (w.heap.size + 1) z24 24 _ _ (.bool false) rfl rfl rfl S1.out Try.underlying29 rfl (by kernel_rfl)) rfl ⟨_, by rw [O.out, mxRA_no O.out]; rfl, S3.out.as (mxLA_no O.out).symm, S2.out⟩
  have hni : ¬ (20 : Int) < (n : Int) := by omega
  have H24 := Lib.hid h24
  clear h24
  go_wp2_with fail
  refine (hasNeg_any b (.slice a n cap) n zs _ hn HN.out).mono ?_
  rintro e w1 ⟨rfl, rfl⟩
  by_cases hneg : negUp zs n = true
  · have O := Lib.hid (show mxOk ns zs n = false by unfold mxOk; rw [hneg]; simp)
    have S1 := Lib.hid ((HZ.alloc (.cells #[] 52)).putAll z24 rfl)
    have S2 := Lib.hid ((HB.out.alloc (.cells #[] 52)).puts (b := w.heap.size + 1) (by omega) 0 (ints z24))
    have S3 := Lib.hid ((Gr.none w1 w.heap.size 52 2 (by omega)).puts (w.heap.size + 1) 0 (ints z24) (fun z hz => by have hz := Option.some.inj (show some w1.heap.size = some z from hz); omega))
    have HZ2 := HZ.alloc (.cells #[] 52)
    rw [hneg]
    clear hneg
    go_wp2_with (first | (refine build_law rfl 29 rfl _ buildRack ?_) | (refine store_at rfl 29 _ _ rfl _ _ rfl rfl ?_ 24 ?_ ?_ ?_ ?_; rotate_left; (· (repeat (first | (with_reducible assumption) | ((with_reducible refine Has.box _ _ ?_ ?_) <;> (first | assumption | decide)) | (with_reducible refine Has.alloc ?_ _) | ((with_reducible refine Has.putOther ?_ _ _ ?_); rotate_left; omega; skip) | ((with_reducible refine Has.below ?_ ?_); rotate_left; assumption)))); (· (first | assumption | rfl)); (· kernel_rfl)))
    exact bodyPost_ret (res_has2 rfl _ _ (w.heap.size + 1) z24 24 _ _ (.bool false) rfl rfl rfl S1.out Try.underlying29 rfl (by kernel_rfl)) rfl ⟨_, by rw [O.out, mxRA_no O.out]; rfl, S3.out.as (mxLA_no O.out).symm, S2.out⟩
  have hnf : negUp zs n = false := by simpa using hneg
  rw [hnf]
  have O := Lib.hid (show mxOk ns zs n = true by unfold mxOk; rw [HV.out, hnf, decide_eq_true hn20]; rfl)
  have NN := Lib.hid (fun j hj => negUp_not hnf FL.out (k := j) hj)
  have ML := Lib.hid (mxR_len H24.out zs)
  have MV := Lib.hid (mxR_valid H24.out HV.out zs)
  have K1 := H.alloc (.cells (ints z40).toArray 65)
  have K2 := HZ.alloc (.cells (ints z40).toArray 65)
  have K3 := Has.box (ns := z40) w1 65 rfl (by decide)
  have K4 := Lib.hid (HN.out.alloc (.cells (ints z40).toArray 65))
  have K5 := Lib.hid (HB.out.alloc (.cells (ints z40).toArray 65))
  have F0 : Hid (z40.drop ((20 - (mxL ns zs 0).length) * 2) = (mxL ns zs 0).flatten) := Lib.hid rfl
  clear hneg hnf H HZ HN HB
  go_wp2_with (first | (refine build_law rfl 65 rfl _ build40 ?_) | (refine store_new rfl 65 _ _ rfl _ _ _ rfl _ rfl _ rfl rfl ?_ ?_ ?_; (· (first | assumption | rfl)); (· kernel_rfl)))
  generalize hb8 : w1.heap.size = b8 at *
  have hb8l : w.heap.size + 1 < b8 := by omega
  clear hb8 hzl hbs
  go_loopg [9, 34] n (fun gk f i wr => ∃ (j : Nat) (F : List Int), gk = n - j ∧ j ≤ n ∧ f = .int .i64 ((20 - (mxL ns zs j).length : Nat) : Int) ∧ i = .int .i64 j ∧ Has wr w.heap.size (mxR ns zs j) 24 ∧ Has wr (w.heap.size + 1) z24 24 ∧ Has wr b8 F 40 ∧ Hid (F.drop ((20 - (mxL ns zs j).length) * 2) = (mxL ns zs j).flatten) ∧ Hid (Nu wr b (.slice a n cap) n zs) ∧ Hid (Kept w wr))
  case atStart => exact ⟨0, z40, rfl, by omega, rfl, rfl, K1, K2, K3, F0, K4, K5⟩
  case round =>
    clear K1 K2 K3 K4 K5 F0
    obtain ⟨j, F, rfl, hj, rfl, rfl, KA, KZ, KF, FD, KN, KB⟩ := hrel
    have hRl := ML.out j
    have hRv := MV.out j
    have hle := mxL_le ns zs j
    have two := Lib.hid (mxL_two ns zs j)
    by_cases hjk : j < n
    · have ji : (j : Int) < (n : Int) := by omega
      have j0 : (0 : Int) ≤ (j : Int) := by omega
      obtain ⟨g, c2, he, _, _⟩ := KN.out.form (by omega)
      injection he with e1 _ e3
      subst e1
      subst e3
      have hyn := NN.out j hjk
      have ST := Lib.hid (fun (h : isGd (mxR ns zs j) = true) => mx_stopN h hj)
      have GO := Lib.hid (fun (h : isGd (mxR ns zs j) = false) => mx_go h)
      have cy := KN.out.cell j hjk
      have hbs := KB.out.size
      have hkz := KZ.lt
      have hka := KA.lt
      have hkf := KF.lt
      obtain ⟨r, hr⟩ : ∃ r, mxR ns zs j = r := ⟨_, rfl⟩
      obtain ⟨L, hL⟩ : ∃ L, mxL ns zs j = L := ⟨_, rfl⟩
      rw [hr] at hRl hRv KA ST GO
      rw [hL] at FD hle two GO ST
      have HR := Lib.hid hr
      have HLq := Lib.hid hL
      rw [hL]
      clear hr hL
      obtain ⟨y, hy⟩ : ∃ y, zs.getD j 0 = y := ⟨_, rfl⟩
      rw [hy] at hyn GO cy
      clear hy
      go_wp2_with (refine load_has rfl 29 _ rfl _ rfl ?_ 24 ?_ _ Try.underlying29 rfl ?_ ?_; rotate_left; (· (repeat (first | (with_reducible assumption) | ((with_reducible refine Has.box _ _ ?_ ?_) <;> (first | assumption | decide)) | (with_reducible refine Has.alloc ?_ _) | ((with_reducible refine Has.putOther ?_ _ _ ?_); rotate_left; omega; skip) | ((with_reducible refine Has.below ?_ ?_); rotate_left; assumption)))); (· kernel_rfl))
      refine (implSources r _ hRl).mono ?_
      rintro e w3 ⟨v5, rfl, G5a, b3⟩
      have G5 := Lib.hid (G5a.mono (b' := 0) (Nat.zero_le _))
      replace KA := KA.below b3
      replace KZ := KZ.below b3
      replace KF := KF.below b3
      replace KN := Lib.hid (KN.out.below b3)
      replace KB := Lib.hid (KB.out.call b3)
      clear G5a b3
      obtain ⟨a5, cap5, rfl⟩ := G5.out.shape
      rw [hRv]
      by_cases hg : isGd r = true
      · have hl0 : (srcA r).length = 0 := by unfold isGd at hg; exact of_decide_eq_true hg
        obtain ⟨e1, e2⟩ := ST.out hg
        have E1 := Lib.hid e1
        have E2 := Lib.hid e2
        rw [hl0]
        clear hl0 e1 e2 hg ST GO G5
        obtain ⟨m, hm⟩ : ∃ m, L.length = m := ⟨_, rfl⟩
        obtain ⟨p, hp⟩ : ∃ p, 20 - m = p := ⟨_, rfl⟩
        have hpm : p + m = 20 := by omega
        have hL := Lib.hid hm
        have FC := Lib.hid (fun W (h : Has W b8 F 40) => F_cells (L := L) h (p * 2) (by have := FD.out; rw [hm, hp] at this; exact this))
        rw [hm, hp]
        obtain ⟨i0, hi, hz0, hz1, hz2⟩ := infoN_parts infoPairN
        have hdiff : (20 : Int) - (p : Int) = (m : Int) := by omega
        have hp0 : (0 : Int) ≤ (p : Int) := by omega
        have hp20 : (p : Int) ≤ 20 := by omega
        have hbs9 := KB.out.size
        have hka9 := KA.lt
        have hkz9 := KZ.lt
        clear hp hm
        by_cases hm0 : m = 0
        · subst hm0
          obtain rfl : p = 20 := by omega
          have hL0 : L = [] := List.eq_nil_of_length_eq_zero hL.out
          go_upto_region 18 with (first | (at_make; refine wpList_make_full w3 rfl _ _ 26 rfl w.heap.size 52 i0 (.agg #[.int .i64 0, .int .i64 0]) 2 Try.underlying26 hi hz0 hz1 .i64 .i64 _ _ 0 rfl rfl rfl rfl (by rw [hz2]; omega) (by unfold maxLen; omega) (by omega) ?_; intro w8 hown hgrow; obtain ⟨w9, hrun, hG, hgrow2⟩ := copy_pairs (P := Try.prog) w8 26 26 3 52 Try.underlying26 (by kernel_rfl) w.heap.size w3.heap.size 0 0 52 ⟨b8, 0, none⟩ _ [] rfl (fun l hl => absurd hl List.not_mem_nil) hown (fun j v hv => by cases hv)))
          have GA := (KA.grownNo hgrow (fun e => by cases e)).grownNo hgrow2 (fun e => by have e := Option.some.inj e; omega)
          have GZ := (KZ.grownNo hgrow (fun e => by cases e)).grownNo hgrow2 (fun e => by have e := Option.some.inj e; omega)
          have HK9 : Kept w w9 := (KB.out.grown hgrow KB.out.size (fun k e => by cases e)).grown hgrow2 (KB.out.grown hgrow KB.out.size (fun k e => by cases e)).size (fun k hk => by have hk := Option.some.inj hk; omega)
          have S1 := Lib.hid (GZ.putAll r hRl)
          have S2 := Lib.hid (HK9.puts (b := w.heap.size + 1) (by omega) 0 (ints r))
          have S3 := Lib.hid (hG.puts (w.heap.size + 1) 0 (ints r) (fun z hz => by have h1 := (hG.own z hz).1; have hz := Option.some.inj (show some w3.heap.size = some z from hz); omega))
          clear hG hgrow hgrow2 hown HK9 KA KZ KB KF
          go_wp2_with (first | (refine load_has rfl 29 _ rfl _ rfl ?_ 24 ?_ _ Try.underlying29 rfl ?_ ?_; rotate_left; (· (repeat (first | (with_reducible assumption) | ((with_reducible refine Has.box _ _ ?_ ?_) <;> (first | assumption | decide)) | (with_reducible refine Has.alloc ?_ _) | ((with_reducible refine Has.putOther ?_ _ _ ?_); rotate_left; omega; skip) | ((with_reducible refine Has.below ?_ ?_); rotate_left; assumption)))); (· kernel_rfl)) | (refine store_at rfl 29 _ _ rfl _ _ rfl rfl ?_ 24 ?_ ?_ ?_ ?_; rotate_left; (· (repeat (first | (with_reducible assumption) | ((with_reducible refine Has.box _ _ ?_ ?_) <;> (first | assumption | decide)) | (with_reducible refine Has.alloc ?_ _) | ((with_reducible refine Has.putOther ?_ _ _ ?_); rotate_left; omega; skip) | ((with_reducible refine Has.below ?_ ?_); rotate_left; assumption)))); (· (first | assumption | rfl)); (· kernel_rfl)))
          exact bodyPost_ret (res_has2 rfl _ _ (w.heap.size + 1) (r) 24 _ _ (.bool true) rfl rfl rfl S1.out Try.underlying29 rfl (by kernel_rfl)) rfl ⟨_, by rw [O.out, mxRA_yes O.out, E1.out]; rfl, S3.out.as (by rw [mxLA_yes O.out, E2.out]; exact hL0.symm), S2.out⟩

        · have hne : ¬ 20 = p := by omega
          have hne2 : ¬ p = 20 := by omega
          have hsub : 20 - p = m := by omega
          go_upto_region 18 with (first | (at_make; refine wpList_make_full w3 rfl _ _ 26 rfl w.heap.size 52 i0 (.agg #[.int .i64 0, .int .i64 0]) 2 Try.underlying26 hi hz0 hz1 .i64 .i64 _ _ m rfl rfl rfl rfl (by rw [hz2]; omega) (by unfold maxLen; omega) (by omega) ?_; intro w8 hown hgrow; obtain ⟨w9, hrun, hG, hgrow2⟩ := copy_pairs (P := Try.prog) w8 26 26 3 52 Try.underlying26 (by kernel_rfl) w.heap.size w3.heap.size m m 52 ⟨b8, p * 2, none⟩ _ L hL.out two.out hown (FC.out _ (KF.grownNo hgrow (fun e => by cases e)))))
          have GA := (KA.grownNo hgrow (fun e => by cases e)).grownNo hgrow2 (fun e => by have e := Option.some.inj e; omega)
          have GZ := (KZ.grownNo hgrow (fun e => by cases e)).grownNo hgrow2 (fun e => by have e := Option.some.inj e; omega)
          have HK9 : Kept w w9 := (KB.out.grown hgrow KB.out.size (fun k e => by cases e)).grown hgrow2 (KB.out.grown hgrow KB.out.size (fun k e => by cases e)).size (fun k hk => by have hk := Option.some.inj hk; omega)
          have S1 := Lib.hid (GZ.putAll r hRl)
          have S2 := Lib.hid (HK9.puts (b := w.heap.size + 1) (by omega) 0 (ints r))
          have S3 := Lib.hid (hG.puts (w.heap.size + 1) 0 (ints r) (fun z hz => by have h1 := (hG.own z hz).1; have hz := Option.some.inj (show some w3.heap.size = some z from hz); omega))
          clear hG hgrow hgrow2 hown HK9 KA KZ KB KF
          go_wp2_with (first | (refine load_has rfl 29 _ rfl _ rfl ?_ 24 ?_ _ Try.underlying29 rfl ?_ ?_; rotate_left; (· (repeat (first | (with_reducible assumption) | ((with_reducible refine Has.box _ _ ?_ ?_) <;> (first | assumption | decide)) | (with_reducible refine Has.alloc ?_ _) | ((with_reducible refine Has.putOther ?_ _ _ ?_); rotate_left; omega; skip) | ((with_reducible refine Has.below ?_ ?_); rotate_left; assumption)))); (· kernel_rfl)) | (refine store_at rfl 29 _ _ rfl _ _ rfl rfl ?_ 24 ?_ ?_ ?_ ?_; rotate_left; (· (repeat (first | (with_reducible assumption) | ((with_reducible refine Has.box _ _ ?_ ?_) <;> (first | assumption | decide)) | (with_reducible refine Has.alloc ?_ _) | ((with_reducible refine Has.putOther ?_ _ _ ?_); rotate_left; omega; skip) | ((with_reducible refine Has.below ?_ ?_); rotate_left; assumption)))); (· (first | assumption | rfl)); (· kernel_rfl)))
          exact bodyPost_ret (res_has2 rfl _ _ (w.heap.size + 1) (r) 24 _ _ (.bool true) rfl rfl rfl S1.out Try.underlying29 rfl (by kernel_rfl)) rfl ⟨_, by rw [O.out, mxRA_yes O.out, E1.out]; rfl, S3.out.as (by rw [mxLA_yes O.out, E2.out]), S2.out⟩

      · have hgf : isGd r = false := by simpa using hg
        have hx3 := mxS_len hgf y
        have hq := mxS_mem hgf y
        obtain ⟨e1, e2⟩ := GO.out hgf
        have E1 := Lib.hid e1
        have E2 := Lib.hid e2
        have hSx : mxS r y = (srcA r).getD (y.toNat % (srcA r).length) [] := rfl
        have hPx : mxPr r y = [(mxS r y).getD 0 0, (mxS r y).getD 1 0] := rfl
        rw [hPx] at E2
        obtain ⟨g5, c5, he5, _, hg5⟩ := G5.out.form (by omega)
        injection he5 with e51 _ e53
        subst e51
        subst e53
        obtain ⟨M, hM⟩ : ∃ M, (srcA r).length = M := ⟨_, rfl⟩
        have RG5 := G5.out.range (n := (srcA r).length) rfl _ hq
        rw [← hSx] at RG5
        rw [hM] at hq RG5
        obtain ⟨q, hqq⟩ : ∃ q, y.toNat % M = q := ⟨_, rfl⟩
        rw [hqq] at hq RG5
        have hrem : Int.tmod y (M : Int) = (q : Int) := by rw [Int.tmod_eq_emod_of_nonneg hyn, ← hqq, Int.natCast_emod, Int.toNat_of_nonneg hyn]
        have hM0 : ((M : Int) == 0) = false := by simp; omega
        have hMl : M ≤ 144 := by rw [← hM]; exact srcA_le r
        have RG := Lib.hid RG5
        rw [hM]
        obtain ⟨x, hx⟩ : ∃ x, mxS r y = x := ⟨_, rfl⟩
        rw [hx] at hx3 RG E1 E2
        clear RG5 hSx hPx hM hqq hx hg hgf e1 e2 ST GO
        have hi3 : (Try.prog.info? 60).map (·.size) = some (ints x).length := by rw [ints_len, hx3]; kernel_rfl
        have hq0 : (0 : Int) ≤ (q : Int) := by omega
        have hqM : (q : Int) < (M : Int) := by omega
        have hbs3 := KB.out.size
        have hkz3 := KZ.lt
        have hka3 := KA.lt
        have hkf3 := KF.lt
        have B14 := Has.box w3 60 hx3 (by omega)
        replace KA := KA.alloc (.cells (ints x).toArray 60)
        replace KZ := KZ.alloc (.cells (ints x).toArray 60)
        replace KF := KF.alloc (.cells (ints x).toArray 60)
        replace KN := Lib.hid (KN.out.alloc (.cells (ints x).toArray 60))
        replace KB := Lib.hid (KB.out.alloc (.cells (ints x).toArray 60))
        go_wp2_with (first | (refine wpList_load_mid rfl 60 _ rfl g5 (q * 3) rfl (ints x) _ RG.out Try.underlying60 rfl hi3 ?_) | (refine store_new rfl 60 _ _ rfl _ _ _ rfl _ rfl _ rfl rfl ?_ ?_ ?_; (· (first | assumption | rfl)); (· kernel_rfl)) | (refine load_has rfl 29 _ rfl _ rfl ?_ 24 ?_ _ Try.underlying29 rfl ?_ ?_; rotate_left; (· (repeat (first | (with_reducible assumption) | ((with_reducible refine Has.box _ _ ?_ ?_) <;> (first | assumption | decide)) | (with_reducible refine Has.alloc ?_ _) | ((with_reducible refine Has.putOther ?_ _ _ ?_); rotate_left; omega; skip) | ((with_reducible refine Has.below ?_ ?_); rotate_left; assumption)))); (· kernel_rfl)) | (refine load_has rfl 60 _ rfl _ rfl ?_ 3 ?_ _ Try.underlying60 rfl ?_ ?_; rotate_left; (· (repeat (first | (with_reducible assumption) | ((with_reducible refine Has.box _ _ ?_ ?_) <;> (first | assumption | decide)) | (with_reducible refine Has.alloc ?_ _) | ((with_reducible refine Has.putOther ?_ _ _ ?_); rotate_left; omega; skip) | ((with_reducible refine Has.below ?_ ?_); rotate_left; assumption)))); (· kernel_rfl)))
        refine (implBackL r x _ hRl hx3).mono ?_
        rintro e w4 ⟨rfl, b4⟩
        have hl4 := b4.size
        have hB4 := B14.lt
        have hbl := backRL_len hRl x
        have KA0 := KA.below b4
        have KA1 := KA0.putAll (backRL r x) hbl
        replace B14 := (B14.below b4).putOther (b' := w.heap.size) 0 (ints (backRL r x)) (by omega)
        replace KZ := (KZ.below b4).putOther (b' := w.heap.size) 0 (ints (backRL r x)) (by omega)
        replace KF := (KF.below b4).putOther (b' := w.heap.size) 0 (ints (backRL r x)) (by omega)
        replace KN := Lib.hid ((KN.out.below b4).puts w.heap.size 0 (ints (backRL r x)) (fun z hz => by have hz' := AP.out z hz; omega))
        replace KB := Lib.hid ((KB.out.call b4).puts (b := w.heap.size) (Nat.le_refl _) 0 (ints (backRL r x)))
        clear b4 RG cy KA G5 hrem
        go_upto_region 13 with (refine store_at rfl 29 _ _ rfl _ _ rfl rfl ?_ 24 ?_ ?_ ?_ ?_; rotate_left; (· (repeat (first | (with_reducible assumption) | ((with_reducible refine Has.box _ _ ?_ ?_) <;> (first | assumption | decide)) | (with_reducible refine Has.alloc ?_ _) | ((with_reducible refine Has.putOther ?_ _ _ ?_); rotate_left; omega; skip) | ((with_reducible refine Has.below ?_ ?_); rotate_left; assumption)))); (· (first | assumption | rfl)); (· kernel_rfl))
        generalize hW5 : w4.setCells w.heap.size 0 (ints (backRL r x)) = W5 at *
        clear hW5 KA0
        obtain ⟨x0, hx0⟩ : ∃ z, x.getD 0 0 = z := ⟨_, rfl⟩
        obtain ⟨x1, hx1⟩ : ∃ z, x.getD 1 0 = z := ⟨_, rfl⟩
        have f0 := B14.cell 0 (by omega)
        have f1 := B14.cell 1 (by omega)
        rw [hx0] at f0 E2
        rw [hx1] at f1 E2
        obtain ⟨p, hp⟩ : ∃ p, p + 1 + L.length = 20 := ⟨19 - L.length, by omega⟩
        have hf1 : ((20 - L.length : Nat) : Int) - 1 = (p : Int) := by omega
        have hf2 : ((20 - (mxL ns zs (j + 1)).length : Nat) : Int) = (p : Int) := by rw [E2.out, List.length_cons]; omega
        have FS := F_step (x0 := x0) (x1 := x1) KF.len hp FD.out
        have T8 := KF.holds.there
        have P8 := KF.putAt (p * 2) [x0, x1] (by show p * 2 + 2 ≤ 40; omega)
        have A3 : Hid ((F.take (p * 2) ++ [x0, x1] ++ F.drop (p * 2 + 2)).drop ((20 - (mxL ns zs (j + 1)).length) * 2) = (mxL ns zs (j + 1)).flatten) := Lib.hid (by
          rw [E2.out, show (20 - ([x0, x1] :: L).length) * 2 = p * 2 by rw [List.length_cons]; omega]; exact FS)
        have HT : Hid (W5.there b8 (p * 2) 2) := Lib.hid (fun i hi => by
          have := T8 (p * 2 + i) (by rw [ints_len, KF.len]; omega)
          simpa using this)
        have A1 := (KA1.putOther (b' := b8) (p * 2) (ints [x0, x1]) (by omega)).is4 (show backRL r x = mxR ns zs (j + 1) from E1.out.symm)
        have A2 := KZ.putOther (b' := b8) (p * 2) (ints [x0, x1]) (by omega)
        have A4 := Lib.hid (KN.out.puts b8 (p * 2) (ints [x0, x1]) (fun z hz => by have := AP.out z hz; omega))
        have A5 : Hid (Kept w (W5.setCells b8 (p * 2) (ints [x0, x1]))) := Lib.hid (KB.out.puts (b := b8) (by omega) (p * 2) (ints [x0, x1]))
        have HF1 := Lib.hid hf1
        have HF2 := Lib.hid hf2
        have hp0 : (0 : Int) ≤ (p : Int) := by omega
        have hp20 : (p : Int) < 20 := by omega
        obtain ⟨ff, hff⟩ : ∃ z : Int, ((20 - L.length : Nat) : Int) = z := ⟨_, rfl⟩
        have hfp : ff - 1 = (p : Int) := by rw [← hff]; exact hf1
        have hff0 : 0 ≤ ff := by omega
        have hff1 : ff ≤ 20 := by omega
        rw [hff]
        clear hx0 hx1 hq hqM hq0 hf1 hf2 FS T8 hff KA1 KZ KN KB KF FD E1 E2
        generalize w3.heap.size = b14 at *
        go_wp2_with (refine store_has rfl 52 _ _ rfl b8 (p * 2) [x0, x1] rfl rfl 2 rfl HT.out (by kernel_rfl) ?_)
        go_roundg (n - (j + 1))
        case rel => exact ⟨j + 1, F.take (p * 2) ++ [x0, x1] ++ F.drop (p * 2 + 2), rfl, by omega, by rw [HF2.out], by go_num, A1, A2, P8, A3, A4, A5⟩
        case measure => omega
    · obtain rfl : j = n := by omega
      obtain ⟨m, hm⟩ : ∃ m, (mxL ns zs j).length = m := ⟨_, rfl⟩
      obtain ⟨p, hp⟩ : ∃ p, 20 - m = p := ⟨_, rfl⟩
      have hpm : p + m = 20 := by omega
      have hL := Lib.hid hm
      have FC := Lib.hid (fun W (h : Has W b8 F 40) => F_cells (L := (mxL ns zs j)) h (p * 2) (by have := FD.out; rw [hm, hp] at this; exact this))
      rw [hm, hp]
      obtain ⟨i0, hi, hz0, hz1, hz2⟩ := infoN_parts infoPairN
      have hdiff : (20 : Int) - (p : Int) = (m : Int) := by omega
      have hp0 : (0 : Int) ≤ (p : Int) := by omega
      have hp20 : (p : Int) ≤ 20 := by omega
      have hbs9 := KB.out.size
      have hka9 := KA.lt
      have hkz9 := KZ.lt
      clear hp hm
      by_cases hm0 : m = 0
      · subst hm0
        obtain rfl : p = 20 := by omega
        have hL0 : (mxL ns zs j) = [] := List.eq_nil_of_length_eq_zero hL.out
        go_upto_region 18 with (first | (at_make; refine wpList_make_full wr rfl _ _ 26 rfl w.heap.size 52 i0 (.agg #[.int .i64 0, .int .i64 0]) 2 Try.underlying26 hi hz0 hz1 .i64 .i64 _ _ 0 rfl rfl rfl rfl (by rw [hz2]; omega) (by unfold maxLen; omega) (by omega) ?_; intro w8 hown hgrow; obtain ⟨w9, hrun, hG, hgrow2⟩ := copy_pairs (P := Try.prog) w8 26 26 3 52 Try.underlying26 (by kernel_rfl) w.heap.size wr.heap.size 0 0 52 ⟨b8, 0, none⟩ _ [] rfl (fun l hl => absurd hl List.not_mem_nil) hown (fun j v hv => by cases hv)))
        have GA := (KA.grownNo hgrow (fun e => by cases e)).grownNo hgrow2 (fun e => by have e := Option.some.inj e; omega)
        have GZ := (KZ.grownNo hgrow (fun e => by cases e)).grownNo hgrow2 (fun e => by have e := Option.some.inj e; omega)
        have HK9 : Kept w w9 := (KB.out.grown hgrow KB.out.size (fun k e => by cases e)).grown hgrow2 (KB.out.grown hgrow KB.out.size (fun k e => by cases e)).size (fun k hk => by have hk := Option.some.inj hk; omega)
        have S1 := Lib.hid (GZ.putAll (mxR ns zs j) hRl)
        have S2 := Lib.hid (HK9.puts (b := w.heap.size + 1) (by omega) 0 (ints (mxR ns zs j)))
        have S3 := Lib.hid (hG.puts (w.heap.size + 1) 0 (ints (mxR ns zs j)) (fun z hz => by have h1 := (hG.own z hz).1; have hz := Option.some.inj (show some wr.heap.size = some z from hz); omega))
        clear hG hgrow hgrow2 hown HK9 KA KZ KB KF
        go_wp2_with (first | (refine load_has rfl 29 _ rfl _ rfl ?_ 24 ?_ _ Try.underlying29 rfl ?_ ?_; rotate_left; (· (repeat (first | (with_reducible assumption) | ((with_reducible refine Has.box _ _ ?_ ?_) <;> (first | assumption | decide)) | (with_reducible refine Has.alloc ?_ _) | ((with_reducible refine Has.putOther ?_ _ _ ?_); rotate_left; omega; skip) | ((with_reducible refine Has.below ?_ ?_); rotate_left; assumption)))); (· kernel_rfl)) | (refine store_at rfl 29 _ _ rfl _ _ rfl rfl ?_ 24 ?_ ?_ ?_ ?_; rotate_left; (· (repeat (first | (with_reducible assumption) | ((with_reducible refine Has.box _ _ ?_ ?_) <;> (first | assumption | decide)) | (with_reducible refine Has.alloc ?_ _) | ((with_reducible refine Has.putOther ?_ _ _ ?_); rotate_left; omega; skip) | ((with_reducible refine Has.below ?_ ?_); rotate_left; assumption)))); (· (first | assumption | rfl)); (· kernel_rfl)))
        exact bodyPost_ret (res_has2 rfl _ _ (w.heap.size + 1) ((mxR ns zs j)) 24 _ _ (.bool true) rfl rfl rfl S1.out Try.underlying29 rfl (by kernel_rfl)) rfl ⟨_, by rw [O.out, mxRA_yes O.out]; rfl, S3.out.as (by rw [mxLA_yes O.out, ]; exact hL0.symm), S2.out⟩

      · have hne : ¬ 20 = p := by omega
        have hne2 : ¬ p = 20 := by omega
        have hsub : 20 - p = m := by omega
        go_upto_region 18 with (first | (at_make; refine wpList_make_full wr rfl _ _ 26 rfl w.heap.size 52 i0 (.agg #[.int .i64 0, .int .i64 0]) 2 Try.underlying26 hi hz0 hz1 .i64 .i64 _ _ m rfl rfl rfl rfl (by rw [hz2]; omega) (by unfold maxLen; omega) (by omega) ?_; intro w8 hown hgrow; obtain ⟨w9, hrun, hG, hgrow2⟩ := copy_pairs (P := Try.prog) w8 26 26 3 52 Try.underlying26 (by kernel_rfl) w.heap.size wr.heap.size m m 52 ⟨b8, p * 2, none⟩ _ (mxL ns zs j) hL.out two.out hown (FC.out _ (KF.grownNo hgrow (fun e => by cases e)))))
        have GA := (KA.grownNo hgrow (fun e => by cases e)).grownNo hgrow2 (fun e => by have e := Option.some.inj e; omega)
        have GZ := (KZ.grownNo hgrow (fun e => by cases e)).grownNo hgrow2 (fun e => by have e := Option.some.inj e; omega)
        have HK9 : Kept w w9 := (KB.out.grown hgrow KB.out.size (fun k e => by cases e)).grown hgrow2 (KB.out.grown hgrow KB.out.size (fun k e => by cases e)).size (fun k hk => by have hk := Option.some.inj hk; omega)
        have S1 := Lib.hid (GZ.putAll (mxR ns zs j) hRl)
        have S2 := Lib.hid (HK9.puts (b := w.heap.size + 1) (by omega) 0 (ints (mxR ns zs j)))
        have S3 := Lib.hid (hG.puts (w.heap.size + 1) 0 (ints (mxR ns zs j)) (fun z hz => by have h1 := (hG.own z hz).1; have hz := Option.some.inj (show some wr.heap.size = some z from hz); omega))
        clear hG hgrow hgrow2 hown HK9 KA KZ KB KF
        go_wp2_with (first | (refine load_has rfl 29 _ rfl _ rfl ?_ 24 ?_ _ Try.underlying29 rfl ?_ ?_; rotate_left; (· (repeat (first | (with_reducible assumption) | ((with_reducible refine Has.box _ _ ?_ ?_) <;> (first | assumption | decide)) | (with_reducible refine Has.alloc ?_ _) | ((with_reducible refine Has.putOther ?_ _ _ ?_); rotate_left; omega; skip) | ((with_reducible refine Has.below ?_ ?_); rotate_left; assumption)))); (· kernel_rfl)) | (refine store_at rfl 29 _ _ rfl _ _ rfl rfl ?_ 24 ?_ ?_ ?_ ?_; rotate_left; (· (repeat (first | (with_reducible assumption) | ((with_reducible refine Has.box _ _ ?_ ?_) <;> (first | assumption | decide)) | (with_reducible refine Has.alloc ?_ _) | ((with_reducible refine Has.putOther ?_ _ _ ?_); rotate_left; omega; skip) | ((with_reducible refine Has.below ?_ ?_); rotate_left; assumption)))); (· (first | assumption | rfl)); (· kernel_rfl)))
        exact bodyPost_ret (res_has2 rfl _ _ (w.heap.size + 1) ((mxR ns zs j)) 24 _ _ (.bool true) rfl rfl rfl S1.out Try.underlying29 rfl (by kernel_rfl)) rfl ⟨_, by rw [O.out, mxRA_yes O.out]; rfl, S3.out.as (by rw [mxLA_yes O.out, ]), S2.out⟩

end Go.Proofs.Ythnkfdhnbafcjab.base
