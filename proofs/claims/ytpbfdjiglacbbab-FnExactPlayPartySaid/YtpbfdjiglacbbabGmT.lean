/-
  Games on the program's side, walked: the row of turns, points, whether a tube can be completed, whether a rack is lost.
-/
import Derived.Test.YtpbfdjiglacbbabGmW
namespace Go.Proofs.Ytpbfdjiglacbbab.base
open Go.ChangeShapes Go.WideShapes Go.ChangeAt Go.RowKit
set_option linter.unusedVariables false
set_option linter.unusedSimpArgs false

theorem tb_turn {ns : List Int} (G : GR ns) {k : Nat} (hk : k < usefNA ns) : tbR ns (upX ns k) (upY ns k) = trn ns k ∧ tbOk ns (upX ns k) (upY ns k) = true := by
  obtain ⟨p, q, hp, hq, hne, hc, hid, hx, hy, hr, hok⟩ := up_natG G k hk
  have e : tbOk ns (upX ns k) (upY ns k) = true := by
    unfold tbOk; rw [hx, hy, hok, Int.toNat_natCast, Int.toNat_natCast, hid]; rfl
  refine ⟨?_, e⟩
  unfold tbR; rw [if_pos e]; rfl
theorem trn_len {ns : List Int} (h : ns.length = 24) (k : Nat) : (trn ns k).length = 26 := by
  unfold trn nxR; rw [List.length_cons, List.length_cons, pourR_len h]

set_option maxHeartbeats 3200000 in
set_option maxRecDepth 100000 in
theorem turnsOf_any (ns : List Int) (w : World) (G : GR ns) :
    Calls Try.prog 46 #[row ns] w fun e w' => ∃ v : Value, e = .returned v ∧ Gr w' w.heap.size 61 26 v (trL ns (usefNA ns)) ∧ Kept w w' := by
  have h24 := G.1
  have H24 := Lib.hid h24
  have HB := Lib.hid (((kept_refl w).alloc (.cells (ints ns).toArray 28)).alloc (.cells #[] 61))
  have H := (Has.box w 28 h24 (by omega)).alloc (.cells #[] 61)
  have P0 := Gr.none (w.alloc (.cells (ints ns).toArray 28)) w.heap.size 61 26 (by simp)
  rw [size1] at P0
  have P1 := Lib.hid (P0.as (show [] = trL ns 0 from rfl))
  have KU := Lib.hid (fun W => implUseful ns W h24)
  have KP := Lib.hid (fun W x y => turnBy_any ns x y W h24)
  have HG := Lib.hid G
  rw [row_ints]
  clear P0
  go_enter Try.func46, Try.ntmps46
  go_wp2_with (refine load_has rfl 28 _ rfl _ rfl ?_ 24 ?_ _ Try.underlying28 rfl ?_ ?_; rotate_left; (· (repeat (first | (with_reducible assumption) | ((with_reducible refine Has.box _ _ ?_ ?_) <;> (first | assumption | decide)) | (with_reducible refine Has.alloc ?_ _) | ((with_reducible refine Has.putOther ?_ _ _ ?_); rotate_left; omega; skip) | ((with_reducible refine Has.below ?_ ?_); rotate_left; assumption)))); (· kernel_rfl))
  refine (KU.out _).mono ?_
  rintro e w1 ⟨pv, rfl, q1, b1⟩
  have HR := Lib.hid ((q1.mono (b' := 0) (Nat.zero_le _)).rw)
  have OW := Lib.hid q1.own
  replace H := H.below b1
  replace HB := Lib.hid (HB.out.call b1)
  replace P1 := Lib.hid (P1.out.below b1)
  have hlt := H.lt
  have hsz := b1.size
  simp only [size1] at hsz OW
  obtain ⟨a0, cap0, rfl⟩ := HR.out.shape
  have N30 := use30 ns
  have TB := Lib.hid (fun k hk => tb_turn (k := k) G hk)
  obtain ⟨N, hN⟩ : ∃ N, usefNA ns = N := ⟨_, rfl⟩
  have HN := Lib.hid hN
  rw [hN] at HR N30 OW ⊢
  clear q1 b1 hN KU
  have X0 : Hid (0 < N → ∀ z, (Value.slice a0 N cap0).ownBlock = some z → z ≠ w.heap.size + 1) := Lib.hid (fun hn z hz => by have := OW.out z hz; omega)
  clear OW
  go_wp2_with fail
  go_loopg [3, 18] N (fun gk v i wr => ∃ k gr cr : Nat, gk = N - k ∧ k ≤ N ∧ v = .slice (some ⟨gr, 0, none⟩) k cr ∧ i = .int .i64 k ∧ Has wr w.heap.size ns 24 ∧ Hid (Gr wr w.heap.size 61 26 (.slice (some ⟨gr, 0, none⟩) k cr) (trL ns k)) ∧ Hid (Rw wr 0 (.slice a0 N cap0) N (usefFA ns)) ∧ Hid (0 < N → ∀ z, (Value.slice a0 N cap0).ownBlock = some z → z ≠ gr) ∧ w.heap.size + 1 ≤ gr ∧ Hid (Kept w wr))
  case atStart => exact ⟨0, w.heap.size + 1, 0, rfl, by omega, rfl, rfl, H, P1, HR, X0, by omega, HB⟩
  case round =>
    clear H P1 HR X0 HB hsz hlt
    obtain ⟨k, gr, cr, rfl, hk, rfl, rfl, KA, KO, KS, KX, hgr, KB⟩ := hrel
    by_cases hkN : k < N
    · have hki : (k : Int) < (N : Int) := by omega
      have hk0 : (0 : Int) ≤ (k : Int) := by omega
      have N0 : 0 < N := by omega
      obtain ⟨g, cap, he, _, hgl⟩ := KS.out.form N0
      injection he with e1 _ e3
      subst e1
      subst e3
      have XG : g ≠ gr := KX.out N0 g rfl
      have RG := Lib.hid (range_two (KS.out.cell (k * 2) (by omega)) (KS.out.cell (k * 2 + 1) (by omega)))
      have Y := Lib.hid (trL_succ ns k)
      have TK := Lib.hid (TB.out k (by rw [HN.out]; exact hkN))
      have hbl := trL_len ns k
      have ex : (usefFA ns).getD (k * 2) 0 = upX ns k := rfl
      have ey : (usefFA ns).getD (k * 2 + 1) 0 = upY ns k := rfl
      rw [ex, ey] at RG
      have t26 := trn_len H24.out k
      obtain ⟨x, hx⟩ : ∃ x, upX ns k = x := ⟨_, rfl⟩
      obtain ⟨y, hy⟩ : ∃ y, upY ns k = y := ⟨_, rfl⟩
      rw [hx, hy] at RG TK
      obtain ⟨t, ht⟩ : ∃ t, trn ns k = t := ⟨_, rfl⟩
      rw [ht] at Y t26 TK
      clear ex ey hx hy ht
      have hA := KA.lt
      have HP := Has.box (ns := [x, y]) (n := 2) wr 38 rfl (by omega)
      replace KA := KA.alloc (.cells (ints [x, y]).toArray 38)
      replace KO := Lib.hid (KO.out.alloc (.cells (ints [x, y]).toArray 38))
      replace KS := Lib.hid (KS.out.alloc (.cells (ints [x, y]).toArray 38))
      replace KB := Lib.hid (KB.out.alloc (.cells (ints [x, y]).toArray 38))
      go_wp2_with (first | (refine wpList_load_mid rfl 38 _ rfl g (k * 2) rfl (ints [x, y]) _ RG.out Try.underlying38 rfl (by kernel_rfl) ?_) | (refine store_new rfl 38 _ _ rfl _ _ _ rfl _ rfl _ rfl rfl ?_ ?_ ?_; (· (first | assumption | rfl)); (· kernel_rfl)) | (refine load_has rfl 28 _ rfl _ rfl ?_ 24 ?_ _ Try.underlying28 rfl ?_ ?_; rotate_left; (· (repeat (first | (with_reducible assumption) | ((with_reducible refine Has.box _ _ ?_ ?_) <;> (first | assumption | decide)) | (with_reducible refine Has.alloc ?_ _) | ((with_reducible refine Has.putOther ?_ _ _ ?_); rotate_left; omega; skip) | ((with_reducible refine Has.below ?_ ?_); rotate_left; assumption)))); (· kernel_rfl)) | (refine load_has rfl 38 _ rfl _ rfl ?_ 2 ?_ _ Try.underlying38 rfl ?_ ?_; rotate_left; (· (repeat (first | (with_reducible assumption) | ((with_reducible refine Has.box _ _ ?_ ?_) <;> (first | assumption | decide)) | (with_reducible refine Has.alloc ?_ _) | ((with_reducible refine Has.putOther ?_ _ _ ?_); rotate_left; omega; skip) | ((with_reducible refine Has.below ?_ ?_); rotate_left; assumption)))); (· kernel_rfl)))
      refine (KP.out _ x y).mono ?_
      rintro e w2 ⟨rfl, b2⟩
      rw [TK.out.1, TK.out.2, row_ints]
      have RR := Has.box w2 61 t26 (by omega)
      have hl2 := b2.size
      replace KA := (KA.below b2).alloc (.cells (ints t).toArray 61)
      replace KO := Lib.hid ((KO.out.below b2).alloc (.cells (ints t).toArray 61))
      replace KS := Lib.hid ((KS.out.below b2).alloc (.cells (ints t).toArray 61))
      replace KB := Lib.hid ((KB.out.call b2).alloc (.cells (ints t).toArray 61))
      clear RG b2 HP hgl TK
      go_upto_region 7 with (refine store_new rfl 61 _ _ rfl _ _ _ rfl _ rfl _ rfl rfl ?_ ?_ ?_; (· (first | assumption | rfl)); (· kernel_rfl))
      generalize w2.alloc (.cells (ints t).toArray 61) = wc at *
      have hbs := KB.out.size
      have hA := KA.lt
      have hgr2 := KO.out.own gr rfl
      have hrrl := RR.lt
      go_wp2_with (first | (refine load_has rfl 61 _ rfl _ rfl ?_ 26 ?_ _ Try.underlying61 rfl ?_ ?_; rotate_left; (· (repeat (first | (with_reducible assumption) | ((with_reducible refine Has.box _ _ ?_ ?_) <;> (first | assumption | decide)) | (with_reducible refine Has.alloc ?_ _) | ((with_reducible refine Has.putOther ?_ _ _ ?_); rotate_left; omega; skip) | ((with_reducible refine Has.below ?_ ?_); rotate_left; assumption)))); (· kernel_rfl)) | (refine wpList_slice1 rfl 68 61 _ rfl 26 208 Try.underlying68 (by kernel_rfl) (by omega) (by omega) t rfl t26 ?_) | (at_builtin; refine append_gr rfl _ _ 68 rfl w.heap.size 61 26 208 Try.underlying68 (by kernel_rfl) (by omega) (by omega) _ k (trL ns k) hbl rfl (KO.out.alloc _) wc.heap.size 1 rfl t (Has.box wc 61 t26 (by omega)) (by rw [size1]; omega) (by omega) ?_; intro g' cu' w4 hG hgrow hlie hlt4))
      have A1 := (KA.alloc (.cells (ints t).toArray 61)).grownNo hgrow (fun e => by have e := Option.some.inj (show some w.heap.size = some gr from e); omega)
      have A3 : Hid (Kept w w4) := Lib.hid ((KB.out.alloc (.cells (ints t).toArray 61)).grown hgrow (KB.out.alloc (.cells (ints t).toArray 61)).size (fun j hj => by have hj := Option.some.inj (show some gr = some j from hj); omega))
      have A4 := Lib.hid (hG.as Y.out.symm)
      have A5 := Lib.hid ((KS.out.alloc (.cells (ints t).toArray 61)).grownP hgrow (fun _ z hz => .inr (fun e => by
        have h1 := Option.some.inj (show some gr = some z from hz)
        have h2 := Option.some.inj (show some g = some z from e)
        exact XG (by rw [h1, h2]))))
      have hgw := (KS.out.lt (by omega)).2
      have A6 : Hid (0 < N → ∀ z, (Value.slice (some ⟨g, 0, none⟩) N cap0).ownBlock = some z → z ≠ g') := Lib.hid (fun _ z hz => by
        have h2 := Option.some.inj (show some g = some z from hz)
        subst h2
        rcases hlie with h3 | h3
        · have h3 := Option.some.inj (show some gr = some g' from h3)
          rw [← h3]; exact XG
        · rw [size1] at h3; omega)
      have A7 : w.heap.size + 1 ≤ g' := by
        rcases hlie with h3 | h3
        · have h3 := Option.some.inj (show some gr = some g' from h3)
          omega
        · rw [size1] at h3; omega
      clear hG hgrow hlie KA KO KS KB KX hbl hgw
      go_roundg (N - (k + 1))
      case rel => exact ⟨k + 1, g', cu', rfl, by omega, rfl, by go_num, A1, A4, A5, A6, A7, A3⟩
      case measure => omega
    · obtain rfl : k = N := by omega
      go_wp2_with fail
      go_ret
      exact ⟨_, rfl, by rw [HN.out]; exact KO.out, KB.out⟩

/-- A rack without useful pours. -/
def lostA (ns : List Int) : Bool := vR ns && decide (usefNA ns = 0)
set_option maxHeartbeats 800000 in
theorem implLost (ns : List Int) (w : World) (h24 : ns.length = 24) :
    Calls Try.prog 10 #[row ns] w fun e w' => e = .returned (.tuple #[.bool (lostA ns), .bool (vR ns)]) ∧ Kept w w' := by
  have HB := Lib.hid ((kept_refl w).alloc (.cells (ints ns).toArray 28))
  have H := Has.box w 28 h24 (by omega)
  have EL : Hid (lostA ns = (vR ns && decide (usefNA ns = 0))) := Lib.hid rfl
  rw [row_ints]
  go_enter Try.func10, Try.ntmps10
  go_wp2_with (refine load_has rfl 28 _ rfl _ rfl ?_ 24 ?_ _ Try.underlying28 rfl ?_ ?_; rotate_left; (· (repeat (first | (with_reducible assumption) | ((with_reducible refine Has.box _ _ ?_ ?_) <;> (first | assumption | decide)) | (with_reducible refine Has.alloc ?_ _) | ((with_reducible refine Has.putOther ?_ _ _ ?_); rotate_left; omega; skip) | ((with_reducible refine Has.below ?_ ?_); rotate_left; assumption)))); (· kernel_rfl))
  refine (implUseful ns _ h24).mono ?_
  rintro e w1 ⟨v, rfl, q1, b1⟩
  obtain ⟨a0, cap0, rfl⟩ := q1.rw.shape
  replace HB := Lib.hid (HB.out.call b1)
  clear q1 b1 H
  cases hv : vR ns with
  | false =>
    have EV := Lib.hid hv
    clear hv
    go_wp2_with fail
    go_ret2
    exact ⟨by rw [EL.out, EV.out]; rfl, HB.out⟩
  | true =>
    have EV := Lib.hid hv
    clear hv
    by_cases h0 : usefNA ns = 0
    · have E0 := Lib.hid h0
      rw [h0]
      clear h0
      go_wp2_with fail
      go_ret2
      exact ⟨by rw [EL.out, EV.out, E0.out]; rfl, HB.out⟩
    · have n0 : ((usefNA ns : Int) == 0) = false := by simp; omega
      have EL2 := Lib.hid (show lostA ns = false by rw [EL.out, EV.out, decide_eq_false h0]; rfl)
      clear h0 EL
      generalize usefNA ns = N at *
      go_wp2_with fail
      go_ret2
      exact ⟨by rw [EL2.out, EV.out]; rfl, HB.out⟩
end Go.Proofs.Ytpbfdjiglacbbab.base
