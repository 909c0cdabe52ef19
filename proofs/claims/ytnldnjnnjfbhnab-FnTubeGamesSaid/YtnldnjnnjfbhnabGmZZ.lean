/-
  Games on the program's side, walked: the best pours, and what is exported of both games.
-/
/-
  Games: the first best pour and the best party: plain mathematics.
-/
import Derived.Test.YtnldnjnnjfbhnabGmBZ

section
namespace Go.Proofs.Ytnldnjnnjfbhnab.base
open Go.ChangeShapes Go.WideShapes Go.ChangeAt Go.RowKit Go.Maps
set_option linter.unusedVariables false
set_option linter.unusedSimpArgs false

def bpOk (r : List Int) (n : Int) : Bool := gmOk r n && decide (n ≠ 0)
def bpFA (pt : List Int → Nat → Int) (no : Int) (r : List Int) (n : Int) : List Int := if bpOk r n = true then bpF pt (gval pt no (n.toNat - 1)) r (gval pt no n.toNat r) (usefNA r) else []
def bpNA (pt : List Int → Nat → Int) (no : Int) (r : List Int) (n : Int) : Nat := if bpOk r n = true then bpN pt (gval pt no (n.toNat - 1)) r (gval pt no n.toNat r) (usefNA r) else 0
theorem bpNA_le (pt : List Int → Nat → Int) (no : Int) (r : List Int) (n : Int) : bpNA pt no r n ≤ 30 := by
  unfold bpNA
  split
  · have := (bp_le pt (gval pt no (n.toNat - 1)) r (gval pt no n.toNat r) (usefNA r)).1
    have := use30 r
    omega
  · omega
def BpPost (pt : List Int → Nat → Int) (no : Int) (r : List Int) (n : Int) (w : World) (e : Ending) (w' : World) : Prop :=
  ∃ v : Value, e = .returned (.tuple #[v, .bool (bpOk r n)]) ∧ Prs w' w.heap.size v (bpNA pt no r n) (bpFA pt no r n) ∧ Kept w w'

set_option maxHeartbeats 6400000 in
set_option maxRecDepth 100000 in
theorem bestPours_any (F : Nat) (no : Int) (pt : List Int → Nat → Int) (PF : Pts F pt) (gm : Gam pt no) (r : List Int) (n : Int) (w : World) (h24 : r.length = 24) :
    Calls Try.prog 36 #[.agg (gmC F no).toArray, row r, .int .i64 n] w (BpPost pt no r n w) := by
  obtain ⟨i0, hi, hz0, hz1, hz2⟩ := info_parts infoPair
  have HB := Lib.hid ((((kept_refl w).alloc (.cells (gmC F no).toArray 54)).alloc (.cells (ints r).toArray 27)).alloc (.cells #[] 36))
  have BG := ((Bk.box w (gmC F no) 54).alloc (.cells (ints r).toArray 27)).alloc (.cells #[] 36)
  have H := ((Has.box (w.alloc (.cells (gmC F no).toArray 54)) 27 h24 (by omega)).at (size1 _ _)).alloc (.cells #[] 36)
  have P0 := Lib.hid (by have := Prs.none ((w.alloc (.cells (gmC F no).toArray 54)).alloc (.cells (ints r).toArray 27)) (w.heap.size + 1 + 1) (by simp); simpa only [size1] using this)
  have EF : Hid (bpFA pt no r n = if bpOk r n = true then bpF pt (gval pt no (n.toNat - 1)) r (gval pt no n.toNat r) (usefNA r) else []) := Lib.hid rfl
  have EN : Hid (bpNA pt no r n = if bpOk r n = true then bpN pt (gval pt no (n.toNat - 1)) r (gval pt no n.toNat r) (usefNA r) else 0) := Lib.hid rfl
  have EO : Hid (bpOk r n = (gmOk r n && decide (n ≠ 0))) := Lib.hid rfl
  have N30 := use30 r
  rw [row_ints]
  go_enter Try.func36, Try.ntmps36
  go_wp2_with (refine load_has rfl 27 _ rfl _ rfl ?_ 24 ?_ _ Try.underlying27 rfl ?_ ?_; rotate_left; (· (repeat (first | (with_reducible assumption) | ((with_reducible refine Has.box _ _ ?_ ?_) <;> (first | assumption | decide)) | (with_reducible refine Has.alloc ?_ _) | ((with_reducible refine Has.putOther ?_ _ _ ?_); rotate_left; omega; skip) | ((with_reducible refine Has.below ?_ ?_); rotate_left; assumption)))); (· kernel_rfl))
  refine (isGame_any r n _ h24).mono ?_
  rintro e w1 ⟨rfl, b1⟩
  have hs1 := b1.size
  simp only [size1] at hs1
  replace BG := BG.below b1
  replace H := H.below b1
  replace HB := Lib.hid (HB.out.call b1)
  replace P0 := Lib.hid (P0.out.below b1)
  clear b1
  cases hok : gmOk r n with
  | false =>
    have E := Lib.hid (show bpOk r n = false by rw [EO.out, hok]; rfl)
    have E1 := Lib.hid (show bpNA pt no r n = 0 ∧ bpFA pt no r n = [] from ⟨by rw [EN.out, if_neg (by rw [E.out]; simp)], by rw [EF.out, if_neg (by rw [E.out]; simp)]⟩)
    clear hok
    go_wp2_with fail
    go_ret2
    exact ⟨_, by rw [E.out]; rfl, by rw [E1.out.1, E1.out.2]; exact P0.out.mono (by omega), HB.out⟩
  | true =>
    obtain ⟨hv, h0, h3⟩ := gmOk_of hok
    have G : GR r := ⟨h24, hv⟩
    obtain ⟨N, hNn⟩ : ∃ N : Nat, n = (N : Int) := ⟨n.toNat, by omega⟩
    have HNN := Lib.hid hNn
    have HOK := Lib.hid hok
    clear hok hv
    rcases Nat.eq_zero_or_pos N with hz | hz
    · have E := Lib.hid (show bpOk r n = false by rw [EO.out, HOK.out, hNn, hz]; rfl)
      have E1 := Lib.hid (show bpNA pt no r n = 0 ∧ bpFA pt no r n = [] from ⟨by rw [EN.out, if_neg (by rw [E.out]; simp)], by rw [EF.out, if_neg (by rw [E.out]; simp)]⟩)
      have n0 : (n == 0) = true := by rw [hNn, hz]; rfl
      clear hNn
      go_wp2_with fail
      go_ret2
      exact ⟨_, by rw [E.out]; rfl, by rw [E1.out.1, E1.out.2]; exact P0.out.mono (by omega), HB.out⟩
    obtain ⟨m, hm⟩ : ∃ m, N = m + 1 := ⟨N - 1, by omega⟩
    have E := Lib.hid (show bpOk r n = true by rw [EO.out, HOK.out, decide_eq_true (by omega)]; rfl)
    have EF2 := Lib.hid (show bpFA pt no r n = bpF pt (vG pt no r N m) r (gval pt no N r) (usefNA r) by
      rw [EF.out, if_pos E.out, hNn, Int.toNat_natCast, hm, Nat.add_sub_cancel]
      exact (bp_congr _ (fun j hj => (vG_best pt no r m).2 j hj)).symm)
    have EN2 := Lib.hid (show bpNA pt no r n = bpN pt (vG pt no r N m) r (gval pt no N r) (usefNA r) by
      rw [EN.out, if_pos E.out, hNn, Int.toNat_natCast, hm, Nat.add_sub_cancel]
      unfold bpN
      rw [bp_congr _ (fun j hj => (vG_best pt no r m).2 j hj)])
    have n0 : (n == 0) = false := by simp; omega
    have KV := Lib.hid (fun W => valuesBehind_any F no pt PF gm r N m W G hm (by omega))
    rw [← hNn] at KV
    have KB := Lib.hid (fun mb K V W hM => best_any F no pt PF gm r G mb K V W hM)
    have VB := Lib.hid (show gbest pt no (vG pt no r N m) r = gval pt no N r by rw [hm]; exact (vG_best pt no r m).1)
    have KT := Lib.hid (fun W => turnsOf_any r W G)
    have KW := Lib.hid (fun k hk mb K V W hM => worth_any F no pt PF gm r k G hk mb K V W hM)
    have T26 := Lib.hid (fun k => trn_len h24 k)
    clear hm G PF gm EF EN EO hNn h0 h3
    go_wp2_with (first | (refine load_bk rfl 54 _ rfl _ rfl _ _ BG _ Try.underlying54 rfl ?_ ?_; (· kernel_rfl)) | (refine load_has rfl 27 _ rfl _ rfl ?_ 24 ?_ _ Try.underlying27 rfl ?_ ?_; rotate_left; (· (repeat (first | (with_reducible assumption) | ((with_reducible refine Has.box _ _ ?_ ?_) <;> (first | assumption | decide)) | (with_reducible refine Has.alloc ?_ _) | ((with_reducible refine Has.putOther ?_ _ _ ?_); rotate_left; omega; skip) | ((with_reducible refine Has.below ?_ ?_); rotate_left; assumption)))); (· kernel_rfl)))
    refine (KV.out _).mono ?_
    rintro e w2 ⟨vb, rfl, hM, hvb, b2⟩
    have MM := Lib.hid hM
    replace BG := BG.below b2
    replace H := H.below b2
    replace HB := Lib.hid (HB.out.call b2)
    replace P0 := Lib.hid (P0.out.below b2)
    have hs2 := b2.size
    clear b2 hM KV
    obtain ⟨V, hV⟩ : ∃ V, vG pt no r N m = V := ⟨_, rfl⟩
    obtain ⟨Kj, hKj⟩ : ∃ Kj, kG r N m = Kj := ⟨_, rfl⟩
    rw [hV] at EF2 EN2 VB
    rw [hV, hKj] at MM
    clear hV hKj
    go_wp2_with (first | (refine load_bk rfl 54 _ rfl _ rfl _ _ BG _ Try.underlying54 rfl ?_ ?_; (· kernel_rfl)) | (refine load_has rfl 27 _ rfl _ rfl ?_ 24 ?_ _ Try.underlying27 rfl ?_ ?_; rotate_left; (· (repeat (first | (with_reducible assumption) | ((with_reducible refine Has.box _ _ ?_ ?_) <;> (first | assumption | decide)) | (with_reducible refine Has.alloc ?_ _) | ((with_reducible refine Has.putOther ?_ _ _ ?_); rotate_left; omega; skip) | ((with_reducible refine Has.below ?_ ?_); rotate_left; assumption)))); (· kernel_rfl)))
    refine (KB.out vb _ _ _ MM.out).mono ?_
    rintro e w3 ⟨rfl, b3⟩
    rw [VB.out]
    replace BG := BG.below b3
    replace H := H.below b3
    replace HB := Lib.hid (HB.out.call b3)
    replace P0 := Lib.hid (P0.out.below b3)
    replace MM := Lib.hid (MM.out.below b3)
    have hs3 := b3.size
    clear b3 KB VB
    go_wp2_with (refine load_has rfl 27 _ rfl _ rfl ?_ 24 ?_ _ Try.underlying27 rfl ?_ ?_; rotate_left; (· (repeat (first | (with_reducible assumption) | ((with_reducible refine Has.box _ _ ?_ ?_) <;> (first | assumption | decide)) | (with_reducible refine Has.alloc ?_ _) | ((with_reducible refine Has.putOther ?_ _ _ ?_); rotate_left; omega; skip) | ((with_reducible refine Has.below ?_ ?_); rotate_left; assumption)))); (· kernel_rfl))
    refine (KT.out _).mono ?_
    rintro e w4 ⟨tv, rfl, q4, b4⟩
    obtain ⟨a0, cap0, rfl⟩ := q4.shape
    rw [trL_len] at q4 ⊢
    replace BG := BG.below b4
    replace H := H.below b4
    replace HB := Lib.hid (HB.out.call b4)
    replace MM := Lib.hid (MM.out.below b4)
    have AP : Hid (∀ z, (Value.slice (some ⟨w.heap.size + 1 + 1, 0, none⟩) 0 0).ownBlock = some z → (Value.slice a0 (usefNA r) cap0).ownBlock ≠ some z) := Lib.hid (fun z hz e => by
      have h1 := (q4.own z e).1
      have h2 := Option.some.inj (show some (w.heap.size + 1 + 1) = some z from hz)
      omega)
    have GT := Lib.hid (q4.mono (b' := 0) (Nat.zero_le _))
    obtain ⟨bst, hbst⟩ : ∃ bst, gval pt no N r = bst := ⟨_, rfl⟩
    rw [hbst] at EF2 EN2 ⊢
    have P1 : Hid (Prs w4 (w.heap.size + 1 + 1) (.slice (some ⟨w.heap.size + 1 + 1, 0, none⟩) 0 0) (bpN pt V r bst 0) (bpF pt V r bst 0)) := Lib.hid (by rw [(bp0 pt V r bst).1, (bp0 pt V r bst).2]; exact P0.out.below b4)
    clear q4 b4 KT P0 hbst hs2 hs3
    obtain ⟨M, hMM⟩ : ∃ M, usefNA r = M := ⟨_, rfl⟩
    rw [hMM] at GT AP N30 EF2 EN2 KW ⊢
    clear hMM
    go_wp2_with fail
    go_loopw [8, 34] (fun u i wr => ∃ k : Nat, k ≤ M ∧ i = .int .i64 k ∧ Bk wr w.heap.size (gmC F no) 54 ∧ Has wr (w.heap.size + 1) r 24 ∧ Hid (VM wr vb Kj V) ∧ Hid (Prs wr (w.heap.size + 1 + 1) u (bpN pt V r bst k) (bpF pt V r bst k)) ∧ Hid (Gr wr 0 69 26 (.slice a0 M cap0) (trL r M)) ∧ Hid (∀ z, u.ownBlock = some z → (Value.slice a0 M cap0).ownBlock ≠ some z) ∧ Hid (∀ z, u.ownBlock = some z → z ≠ vb) ∧ Hid (Kept w wr)) (fun _ z _ => M - (intOf z).toNat)
    case atStart => exact ⟨0, by omega, rfl, BG, H, MM, P1, GT, AP, Lib.hid (fun z hz => by have := Option.some.inj (show some (w.heap.size + 1 + 1) = some z from hz); omega), HB⟩
    case round =>
      clear BG H MM P1 GT AP HB
      obtain ⟨k, hk, rfl, BG, H, MM, GU, GT, GA, GV, GB⟩ := hrel
      by_cases hkM : k < M
      · have hki : (k : Int) < (M : Int) := by omega
        have hk0 : (0 : Int) ≤ (k : Int) := by omega
        obtain ⟨g, cap, he, _, hgl⟩ := GT.out.form (by rw [trL_len]; omega)
        rw [trL_len] at he
        injection he with e1 _ e3
        subst e1
        subst e3
        have RG := Lib.hid (GT.out.range (trL_len r M).symm k hkM)
        rw [trL_get r hkM] at RG
        have l26 := T26.out k
        have KWk := Lib.hid (fun W hM => KW.out k hkM vb Kj V W hM)
        have EY := Lib.hid (fun h => bp_yes (pt := pt) (V := V) (ns := r) (b := bst) (k := k) h)
        have EN := Lib.hid (fun h => bp_no (pt := pt) (V := V) (ns := r) (b := bst) (k := k) h)
        have hU := (bp_le pt V r bst k).1
        have ET : trn r k = upX r k :: upY r k :: nxR r k := rfl
        obtain ⟨x, hx⟩ : ∃ x, upX r k = x := ⟨_, rfl⟩
        obtain ⟨y, hy⟩ : ∃ y, upY r k = y := ⟨_, rfl⟩
        rw [hx, hy] at ET EY
        obtain ⟨t, ht⟩ : ∃ t, trn r k = t := ⟨_, rfl⟩
        rw [ht] at RG l26 KWk ET
        obtain ⟨wt, hwt⟩ : ∃ wt, pt r k - V (nxR r k) = wt := ⟨_, rfl⟩
        rw [hwt] at KWk EY EN
        clear hx hy ht hwt
        have HX := Has.box wr 69 l26 (by omega)
        have c0 : t.getD 0 0 = x := by rw [ET]; rfl
        have c1 : t.getD 1 0 = y := by rw [ET]; rfl
        have C0 := Lib.hid c0
        have C1 := Lib.hid c1
        have l26i : (ints t).length = 26 := by rw [ints_len]; exact l26
        clear ET c0 c1
        replace BG := BG.alloc (.cells (ints t).toArray 69)
        replace H := H.alloc (.cells (ints t).toArray 69)
        replace MM := Lib.hid (MM.out.alloc (.cells (ints t).toArray 69))
        replace GU := Lib.hid (GU.out.alloc (.cells (ints t).toArray 69))
        replace GT := Lib.hid (GT.out.alloc (.cells (ints t).toArray 69))
        replace GB := Lib.hid (GB.out.alloc (.cells (ints t).toArray 69))
        go_upto_region 9 with (first | (refine wpList_load_mid rfl 69 _ rfl g (k * 26) rfl (ints t) _ RG.out Try.underlying69 rfl (by rw [l26i]; kernel_rfl) ?_) | (refine store_new rfl 69 _ _ rfl _ _ _ rfl _ rfl _ rfl rfl ?_ ?_ ?_; (· (first | assumption | rfl)); (· kernel_rfl)))
        clear RG
        obtain ⟨xb, hxb⟩ : ∃ xb, wr.heap.size = xb := ⟨_, rfl⟩
        rw [hxb] at HX ⊢
        generalize wr.alloc (.cells (ints t).toArray 69) = W2 at *
        clear hxb
        go_wp2_with (first | (refine load_bk rfl 54 _ rfl _ rfl _ _ BG _ Try.underlying54 rfl ?_ ?_; (· kernel_rfl)) | (refine load_has rfl 69 _ rfl _ rfl ?_ 26 ?_ _ Try.underlying69 rfl ?_ ?_; rotate_left; (· (repeat (first | (with_reducible assumption) | ((with_reducible refine Has.box _ _ ?_ ?_) <;> (first | assumption | decide)) | (with_reducible refine Has.alloc ?_ _) | ((with_reducible refine Has.putOther ?_ _ _ ?_); rotate_left; omega; skip) | ((with_reducible refine Has.below ?_ ?_); rotate_left; assumption)))); (· kernel_rfl)) | (refine load_has rfl 27 _ rfl _ rfl ?_ 24 ?_ _ Try.underlying27 rfl ?_ ?_; rotate_left; (· (repeat (first | (with_reducible assumption) | ((with_reducible refine Has.box _ _ ?_ ?_) <;> (first | assumption | decide)) | (with_reducible refine Has.alloc ?_ _) | ((with_reducible refine Has.putOther ?_ _ _ ?_); rotate_left; omega; skip) | ((with_reducible refine Has.below ?_ ?_); rotate_left; assumption)))); (· kernel_rfl)))
        refine (KWk.out _ MM.out).mono ?_
        rintro e w5 ⟨rfl, b5⟩
        replace BG := BG.below b5
        replace H := H.below b5
        replace HX := HX.below b5
        replace MM := Lib.hid (MM.out.below b5)
        replace GU := Lib.hid (GU.out.below b5)
        replace GT := Lib.hid (GT.out.below b5)
        replace GB := Lib.hid (GB.out.call b5)
        clear b5 KWk
        by_cases hb : wt = bst
        · obtain ⟨Y, Y2⟩ := EY.out hb
          have HY := Lib.hid Y
          have HY2 := Lib.hid Y2
          have q0 : (wt == bst) = true := by simp [hb]
          have RP := Lib.hid (range_two (HX.cellXg (k := 0) (x := x) (by omega) C0.out) (HX.cellXg (k := 1) (x := y) (by omega) C1.out))
          have hbs := GB.out.size
          have hhl := H.lt
          clear hb Y Y2 EY EN
          go_wp2_with (first | (refine wpList_load_mid rfl 36 _ rfl xb 0 rfl [.int .i64 x, .int .i64 y] _ RP.out Try.underlying36 rfl (by kernel_rfl) ?_) | (at_builtin; refine wpList_append_lies _ rfl _ _ 32 rfl (w.heap.size + 1 + 1) 36 i0 (.agg #[.int .i64 0, .int .i64 0]) 2 16 Try.underlying32 hi hz0 hz1 hz2 rfl (by decide) _ (bpN pt V r bst k) (ints (bpF pt V r bst k)) rfl (World.ownsRow.alloc GU.out _) ⟨w5.heap.size, 0, none⟩ 1 1 [.int .i64 x, .int .i64 y] rfl rfl (cell_two_new _ _ _ _) (fun z hz => by simp at hz; rcases hz with rfl | rfl <;> rfl) (by decide) (by unfold maxLen; omega) (by omega) (by simp; omega) _ rfl ?_; intro g' cap' w6 hown' hgrow3 hlie hlt3))
          obtain ⟨A2, A3⟩ := prs_app GU.out GB.out (by omega) hown' hgrow3
          have OWN := Lib.hid (fun z hz => (World.ownsRow.lt GU.out z hz).1)
          have BG6 := (BG.alloc (.cells #[.int .i64 x, .int .i64 y] 36)).grown hgrow3 (fun e => by have := OWN.out _ e.symm; omega)
          have H6 := (H.alloc (.cells #[.int .i64 x, .int .i64 y] 36)).grownNo hgrow3 (fun e => by have := OWN.out _ e.symm; omega)
          have MM6 := Lib.hid ((MM.out.alloc (.cells #[.int .i64 x, .int .i64 y] 36)).grown hgrow3 (fun e => GV.out _ e.symm rfl))
          have A0 := Lib.hid ((GT.out.alloc (.cells #[.int .i64 x, .int .i64 y] 36)).kept hgrow3 (fun z hz e => GA.out z e hz))
          have GA2 : Hid (∀ z, (Value.slice (some ⟨g', 0, none⟩) (bpN pt V r bst k + 1) cap').ownBlock = some z → (Value.slice (some ⟨g, 0, none⟩) M cap0).ownBlock ≠ some z) := Lib.hid (fun z hz e => by
            have h5 := Option.some.inj (show some g' = some z from hz)
            subst h5
            rcases hlie with h1 | h1
            · exact GA.out _ h1 e
            · have := (GT.out.own _ e).2
              rw [size1] at h1; omega)
          have GV2 : Hid (∀ z, (Value.slice (some ⟨g', 0, none⟩) (bpN pt V r bst k + 1) cap').ownBlock = some z → z ≠ vb) := Lib.hid (fun z hz => by
            have h5 := Option.some.inj (show some g' = some z from hz)
            subst h5
            rcases hlie with h1 | h1
            · exact GV.out _ h1
            · have := MM.out.own.lt
              rw [size1] at h1; omega)
          rw [← HY.out, ← HY2.out] at A2
          have B2 := Lib.hid A2
          have B3 : Hid (Kept w w6) := Lib.hid A3
          clear hown' hgrow3 hlie hlt3 A2 A3
          go_wp2_with fail
          go_roundw
          case rel => exact ⟨k + 1, by omega, by go_num, BG6, H6, MM6, by rw [← HY2.out]; exact B2, A0, by rw [← HY2.out]; rw [← HY2.out] at GA2; exact GA2, by rw [← HY2.out]; rw [← HY2.out] at GV2; exact GV2, B3⟩
          case measure => simp [intOf]; omega
        · obtain ⟨Y, Y2⟩ := EN.out hb
          have B2 := Lib.hid (show Prs w5 (w.heap.size + 1 + 1) u8 (bpN pt V r bst (k + 1)) (bpF pt V r bst (k + 1)) by rw [Y, Y2]; exact GU.out)
          have q0 : (wt == bst) = false := by simp [hb]
          clear hb Y Y2 EY EN
          go_wp2_with fail
          go_roundw
          case rel => exact ⟨k + 1, by omega, by go_num, BG, H, MM, B2, GT, GA, GV, GB⟩
          case measure => simp [intOf]; omega
      · obtain rfl : k = M := by omega
        go_wp2_with fail
        go_ret2
        exact ⟨_, by rw [E.out]; rfl, by rw [EF2.out, EN2.out]; exact GU.out.mono (by omega), GB.out⟩
end Go.Proofs.Ytnldnjnnjfbhnab.base
end

section
namespace Go.Proofs.Ytnldnjnnjfbhnab.base
set_option linter.unusedVariables false
set_option linter.unusedSimpArgs false

theorem bp_at (pt : List Int → Nat → Int) (V : List Int → Int) (ns : List Int) (b : Int) : ∀ k i, i < bpN pt V ns b k → ∃ j, j < k ∧ pt ns j - V (nxR ns j) = b ∧ (bpF pt V ns b k).getD (i * 2) 0 = upX ns j ∧ (bpF pt V ns b k).getD (i * 2 + 1) 0 = upY ns j
  | 0, i, h => by rw [(bp0 pt V ns b).1] at h; omega
  | k + 1, i, h => by
    by_cases hc : pt ns k - V (nxR ns k) = b
    · obtain ⟨e, en⟩ := bp_yes hc
      rw [en] at h
      rw [e]
      have hl := (bp_le pt V ns b k).2
      by_cases hi : i < bpN pt V ns b k
      · obtain ⟨j, hj, r0, r1, r2⟩ := bp_at pt V ns b k i hi
        refine ⟨j, by omega, r0, ?_, ?_⟩
        · rw [← r1, List.getD_eq_getElem?_getD, List.getD_eq_getElem?_getD, List.getElem?_append_left (by omega)]
        · rw [← r2, List.getD_eq_getElem?_getD, List.getD_eq_getElem?_getD, List.getElem?_append_left (by omega)]
      · obtain rfl : i = bpN pt V ns b k := by omega
        refine ⟨k, by omega, hc, ?_, ?_⟩
        · rw [List.getD_eq_getElem?_getD, List.getElem?_append_right (by omega), hl, Nat.sub_self]; rfl
        · rw [List.getD_eq_getElem?_getD, List.getElem?_append_right (by omega), hl, Nat.add_sub_cancel_left]; rfl
    · obtain ⟨e, en⟩ := bp_no hc
      rw [en] at h
      rw [e]
      obtain ⟨j, hj, r⟩ := bp_at pt V ns b k i h
      exact ⟨j, by omega, r⟩
theorem bp_some {pt : List Int → Nat → Int} {V : List Int → Int} {ns : List Int} {b : Int} : ∀ k j, j < k → pt ns j - V (nxR ns j) = b → 0 < bpN pt V ns b k
  | 0, j, h, _ => by omega
  | k + 1, j, h, e => by
    by_cases hc : pt ns k - V (nxR ns k) = b
    · rw [(bp_yes hc).2]; omega
    · rw [(bp_no hc).2]
      have : j ≠ k := fun he => hc (he ▸ e)
      exact bp_some k j (by omega) e
/-- The first best pour of the game for tubes. -/
def fbN (r : List Int) (n : Int) : Nat := bpNA ptT 0 r n
def fbX (r : List Int) (n : Int) : Int := (bpFA ptT 0 r n).getD 0 0
def fbY (r : List Int) (n : Int) : Int := (bpFA ptT 0 r n).getD 1 0
def fbOk (r : List Int) (n : Int) : Bool := bpOk r n && decide (fbN r n ≠ 0)
def fbA (r : List Int) (n : Int) : List Int := if fbOk r n = true then [fbX r n, fbY r n] else [0, 0]
theorem fbA_len (r : List Int) (n : Int) : (fbA r n).length = 2 := by unfold fbA; split <;> rfl
theorem bpOk_of {r : List Int} {n : Int} (h : bpOk r n = true) : vR r = true ∧ 0 < n ∧ n ≤ 3 := by
  unfold bpOk at h
  rw [Bool.and_eq_true_iff, decide_eq_true_eq] at h
  have := gmOk_of h.1
  exact ⟨this.1, by omega, this.2.2⟩
theorem fb_in {r : List Int} {n : Int} (h24 : r.length = 24) (h : fbOk r n = true) : ∃ j, j < usefNA r ∧ fbX r n = upX r j ∧ fbY r n = upY r j := by
  unfold fbOk at h
  rw [Bool.and_eq_true_iff, decide_eq_true_eq] at h
  have hn := h.2
  unfold fbN bpNA at hn
  rw [if_pos h.1] at hn
  obtain ⟨j, hj, _, h1, h2⟩ := bp_at ptT (gval ptT 0 (n.toNat - 1)) r (gval ptT 0 n.toNat r) (usefNA r) 0 (by omega)
  refine ⟨j, hj, ?_, ?_⟩
  · unfold fbX bpFA; rw [if_pos h.1]; exact h1
  · unfold fbY bpFA; rw [if_pos h.1]; exact h2
/-- The party of at most n turns, flat. -/
def paF : Nat → List Int → List Int
  | 0, _ => []
  | n + 1, r => if fbOk r ((n + 1 : Nat) : Int) = true then fbX r ((n + 1 : Nat) : Int) :: fbY r ((n + 1 : Nat) : Int) :: paF n (pourR r (fbX r ((n + 1 : Nat) : Int)) (fbY r ((n + 1 : Nat) : Int))) else []
def paN (n : Nat) (r : List Int) : Nat := (paF n r).length / 2
theorem paF_len : ∀ n r, (paF n r).length = paN n r * 2 ∧ paN n r ≤ n
  | 0, r => by unfold paN; rw [paF]; simp
  | n + 1, r => by
    have ih := paF_len n (pourR r (fbX r ((n + 1 : Nat) : Int)) (fbY r ((n + 1 : Nat) : Int)))
    unfold paN at *
    rw [paF]
    split
    · rw [List.length_cons, List.length_cons]; omega
    · simp
def paFA (r : List Int) (n : Int) : List Int := if gmOk r n = true then paF n.toNat r else []
def paNA (r : List Int) (n : Int) : Nat := if gmOk r n = true then paN n.toNat r else 0
theorem paNA_le (r : List Int) (n : Int) : paNA r n ≤ 3 := by
  unfold paNA
  split
  · rename_i h
    have := gmOk_of h
    have := (paF_len n.toNat r).2
    omega
  · omega
end Go.Proofs.Ytnldnjnnjfbhnab.base
end
