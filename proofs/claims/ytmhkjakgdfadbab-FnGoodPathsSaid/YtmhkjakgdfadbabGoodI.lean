/-
  Good pours on the program's side, walked: all pours, filtered in place.
-/
import Derived.Test.YtmhkjakgdfadbabGoodM
import Derived.Test.YtmhkjakgdfadbabRwZ
import Derived.Test.YtmhkjakgdfadbabPoursI
namespace Go.Proofs.Ytmhkjakgdfadbab.base
open Go.ChangeShapes Go.WideShapes Go.ChangeAt Go.RowKit
set_option linter.unusedVariables false
set_option linter.unusedSimpArgs false

set_option maxHeartbeats 1600000 in
theorem isGood_any (ns : List Int) (x y : Int) (w : World) (h24 : ns.length = 24) :
    Calls Try.prog 29 #[row ns, .agg (ints [x, y]).toArray] w fun e w' => e = .returned (.bool (goodP ns x y)) ∧ Kept w w' := by
  have HB := Lib.hid (((kept_refl w).alloc (.cells (ints ns).toArray 27)).alloc (.cells (ints [x, y]).toArray 44))
  have H := (Has.box w 27 h24 (by omega)).alloc (.cells (ints [x, y]).toArray 44)
  have B := (Has.box (ns := [x, y]) (n := 2) (w.alloc (.cells (ints ns).toArray 27)) 44 rfl (by omega)).at (size1 _ _)
  have cc0 := B.cell 0 (by omega)
  have cc1 := B.cell 1 (by omega)
  rw [List.getD_cons_zero] at cc0
  rw [List.getD_cons_succ, List.getD_cons_zero] at cc1
  rw [row_ints]
  go_enter Try.func29, Try.ntmps29
  go_wp2_with (refine load_has rfl 27 _ rfl _ rfl ?_ 24 ?_ _ Try.underlying27 rfl ?_ ?_; rotate_left; (· (repeat (first | (with_reducible assumption) | ((with_reducible refine Has.box _ _ ?_ ?_) <;> (first | assumption | decide)) | (with_reducible refine Has.alloc ?_ _) | ((with_reducible refine Has.putOther ?_ _ _ ?_); rotate_left; omega; skip) | ((with_reducible refine Has.below ?_ ?_); rotate_left; assumption)))); (· kernel_rfl))
  refine (implChange ns x y _ h24).mono ?_
  rintro e w1 ⟨rfl, b1⟩
  have hl := chgA_len ns x y
  have HB1 := Lib.hid ((HB.out.call b1).alloc (.cells (ints (chgA ns x y)).toArray 82))
  have Z := Has.box w1 82 hl (by omega)
  have c2 := Z.cell 2 (by omega)
  clear H HB B cc0 cc1 b1
  by_cases hp : pourOk ns x y = true
  · rw [hp]
    rw [chgA_bnd hp] at c2
    have E := Lib.hid (show goodP ns x y = decide (bndA (pourR ns x y) - bndA ns < 0) by unfold goodP; rw [hp, Bool.true_and, decide_eq_decide]; omega)
    generalize bndA (pourR ns x y) - bndA ns = d at *
    clear hp
    go_wp2_with (refine store_new rfl 82 _ _ rfl _ _ _ rfl _ rfl _ rfl rfl ?_ ?_ ?_; (· (first | assumption | rfl)); (· kernel_rfl))
    go_ret
    exact ⟨ret_bool E.out.symm, HB1.out⟩
  · have hf : pourOk ns x y = false := by simpa using hp
    have E := Lib.hid (show goodP ns x y = false by unfold goodP; rw [hf]; rfl)
    rw [hf]
    clear hf hp
    go_wp2_with (refine store_new rfl 82 _ _ rfl _ _ _ rfl _ rfl _ rfl rfl ?_ ?_ ?_; (· (first | assumption | rfl)); (· kernel_rfl))
    go_ret
    exact ⟨ret_bool E.out.symm, HB1.out⟩

theorem isOther_any (ns : List Int) (x y : Int) (c : Nat) (w : World) (H : Has w c ns 24) :
    Calls Try.prog 28 #[.agg (ints [x, y]).toArray, .pointer (some ⟨c, 0, none⟩)] w fun e w' => e = .returned (.bool (!goodP ns x y)) ∧ Kept w w' := by
  have h24 := H.len
  have HB := Lib.hid ((kept_refl w).alloc (.cells (ints [x, y]).toArray 44))
  have H1 := H.alloc (.cells (ints [x, y]).toArray 44)
  have B := Has.box (ns := [x, y]) (n := 2) w 44 rfl (by omega)
  clear H
  go_enter Try.func28, Try.ntmps28
  go_wp2_with (first | (refine load_has rfl 27 _ rfl _ rfl ?_ 24 ?_ _ Try.underlying27 rfl ?_ ?_; rotate_left; (· (repeat (first | (with_reducible assumption) | ((with_reducible refine Has.box _ _ ?_ ?_) <;> (first | assumption | decide)) | (with_reducible refine Has.alloc ?_ _) | ((with_reducible refine Has.putOther ?_ _ _ ?_); rotate_left; omega; skip) | ((with_reducible refine Has.below ?_ ?_); rotate_left; assumption)))); (· kernel_rfl)) | (refine load_has rfl 44 _ rfl _ rfl ?_ 2 ?_ _ Try.underlying44 rfl ?_ ?_; rotate_left; (· (repeat (first | (with_reducible assumption) | ((with_reducible refine Has.box _ _ ?_ ?_) <;> (first | assumption | decide)) | (with_reducible refine Has.alloc ?_ _) | ((with_reducible refine Has.putOther ?_ _ _ ?_); rotate_left; omega; skip) | ((with_reducible refine Has.below ?_ ?_); rotate_left; assumption)))); (· kernel_rfl)))
  refine (isGood_any ns x y _ h24).mono ?_
  rintro e w1 ⟨rfl, b1⟩
  go_wp2_with fail
  go_ret
  exact ⟨rfl, HB.out.call b1⟩

def FirstBad (P : Int → Int → Bool) (fs : List Int) (n : Nat) (z : Int) : Prop :=
  (z = -1 ∧ ∀ j, j < n → P (fs.getD (j * 2) 0) (fs.getD (j * 2 + 1) 0) = true) ∨
    ∃ k : Nat, k < n ∧ z = (k : Int) ∧ (∀ j, j < k → P (fs.getD (j * 2) 0) (fs.getD (j * 2 + 1) 0) = true) ∧ P (fs.getD (k * 2) 0) (fs.getD (k * 2 + 1) 0) = false

set_option maxHeartbeats 1600000 in
set_option maxRecDepth 100000 in
theorem indexOther_any (ns fs : List Int) (b c n : Nat) (v : Value) (w : World) (hn : n ≤ 1000) (H : Has w c ns 24) (h : Rw w b v n fs) :
    Calls Try.prog 49 #[v, .func (Fn.func 28) #[] #[.pointer (some ⟨c, 0, none⟩)]] w fun e w' => (∃ z : Int, e = .returned (.int .i64 z) ∧ FirstBad (goodP ns) fs n z) ∧ Kept w w' := by
  obtain ⟨a, cap, rfl⟩ := h.shape
  have H0 := Lib.hid H
  have R0 := Lib.hid h
  clear H h
  go_enter Try.func49, Try.ntmps49
  go_wp2_with fail
  go_loopw [8] (fun i wr => ∃ j : Nat, j ≤ n ∧ i = .int .i64 j ∧ Hid (Has wr c ns 24) ∧ Hid (Rw wr b (.slice a n cap) n fs) ∧ Hid (Kept w wr) ∧ Hid (∀ t, t < j → goodP ns (fs.getD (t * 2) 0) (fs.getD (t * 2 + 1) 0) = true)) (fun i _ => n - (intOf i).toNat)
  case atStart => exact ⟨0, by omega, rfl, H0, R0, Lib.hid (kept_refl _), Lib.hid (fun t ht => by omega)⟩
  case round =>
    obtain ⟨j, hj, rfl, GH, GR, GB, GA⟩ := hrel
    by_cases hjn : j < n
    · have hji : (j : Int) < (n : Int) := by omega
      obtain ⟨g, cap2, hv', _, _⟩ := GR.out.form (by omega)
      injection hv' with ha _ hcap
      subst ha
      subst hcap
      have c0 := GR.out.cell (j * 2) (by omega)
      have c1 := GR.out.cell (j * 2 + 1) (by omega)
      have FB := Lib.hid (fun (h1 : goodP ns (fs.getD (j * 2) 0) (fs.getD (j * 2 + 1) 0) = false) => (show FirstBad (goodP ns) fs n (j : Int) from .inr ⟨j, hjn, rfl, GA.out, h1⟩))
      have GA2 := Lib.hid (fun (h1 : goodP ns (fs.getD (j * 2) 0) (fs.getD (j * 2 + 1) 0) = true) => (show ∀ t, t < j + 1 → goodP ns (fs.getD (t * 2) 0) (fs.getD (t * 2 + 1) 0) = true from fun t ht => by
        by_cases e : t = j
        · subst e; exact h1
        · exact GA.out t (by omega)))
      generalize fs.getD (j * 2) 0 = x at *
      generalize fs.getD (j * 2 + 1) 0 = y at *
      have RG := Lib.hid (range_two c0 c1)
      clear c0 c1
      go_wp2_with (refine wpList_load_mid rfl 44 _ rfl g (j * 2) rfl (ints [x, y]) _ RG.out Try.underlying44 rfl (by kernel_rfl) ?_)
      refine (isOther_any ns x y c _ GH.out).mono ?_
      rintro e w1 ⟨rfl, b1⟩
      have GH2 := Lib.hid (GH.out.below b1)
      have GR2 := Lib.hid (GR.out.below b1)
      have GB2 := Lib.hid (GB.out.call b1)
      clear GH GR GB b1 RG
      cases hg : goodP ns x y with
      | false =>
        have F2 := Lib.hid (FB.out hg)
        clear hg
        go_wp2_with fail
        go_ret
        exact ⟨⟨_, rfl, F2.out⟩, GB2.out⟩
      | true =>
        have A2 := Lib.hid (GA2.out hg)
        clear hg
        go_wp2_with fail
        go_roundw
        case rel => exact ⟨j + 1, by omega, by go_num, GH2, GR2, GB2, A2⟩
        case measure => simp [intOf]; omega
    · obtain rfl : j = n := by omega
      go_wp2_with fail
      go_ret
      exact ⟨⟨-1, rfl, .inl ⟨rfl, GA.out⟩⟩, GB.out⟩

set_option maxHeartbeats 1600000 in
set_option maxRecDepth 100000 in
theorem deleteOther_any (ns fs : List Int) (b c n : Nat) (v : Value) (w : World) (hn : n ≤ 1000) (hcb : c < b) (hbw : b ≤ w.heap.size) (H : Has w c ns 24) (h : Rw w b v n fs) :
    Calls Try.prog 30 #[v, .func (Fn.func 28) #[] #[.pointer (some ⟨c, 0, none⟩)]] w fun e w' => ∃ v' : Value, e = .returned v' ∧ Rw w' b v' (filtN (goodP ns) fs n) (filtF (goodP ns) fs n) ∧ Below b w w' := by
  obtain ⟨a, cap, rfl⟩ := h.shape
  have hfl := h.flat
  have H0 := Lib.hid H
  have R0 := Lib.hid h
  clear H h
  go_enter Try.func30, Try.ntmps30
  go_wp2_with fail
  refine (indexOther_any ns fs b c n _ _ hn H0.out R0.out).mono ?_
  rintro e w1 ⟨⟨z, rfl, hz⟩, b1⟩
  have H1 := Lib.hid (H0.out.below b1)
  have R1 := Lib.hid (R0.out.below b1)
  have B1 := Lib.hid (b1.mono (B' := b) hbw)
  have S1 := Lib.hid (Nat.le_trans hbw b1.size)
  clear H0 R0 b1
  rcases hz with ⟨rfl, hz⟩ | ⟨k, hk, rfl, hz, hbad⟩
  · have E := Lib.hid (filt_all (P := goodP ns) (fs := fs) n (by omega) hz)
    clear hz
    go_wp2_with fail
    go_ret
    exact ⟨_, rfl, by rw [E.out.1, E.out.2, List.take_of_length_le (by omega)]; exact R1.out, B1.out⟩
  · obtain ⟨st, stn⟩ := Half.start hfl hk hz hbad
    have HS := Lib.hid st
    have HK := Lib.hid stn
    have hk1 : ((k : Int) == -1) = false := by
      rw [beq_eq_false_iff_ne]; omega
    clear st stn hz hbad
    go_wp2_with fail
    go_loopw [5, 6] (fun i j wr => ∃ (q : Nat) (gs : List Int), q ≤ n ∧ j = .int .i64 (q : Nat) ∧ i = .int .i64 (filtN (goodP ns) fs q : Nat) ∧ Hid (Has wr c ns 24) ∧ Hid (Rw wr b (.slice a n cap) n gs) ∧ Hid (Half (goodP ns) fs gs n q) ∧ Hid (Below b w wr) ∧ Hid (b ≤ wr.heap.size)) (fun _ j _ => n - (intOf j).toNat)
    case atStart => exact ⟨k + 1, fs, by omega, by go_num, by rw [HK.out], H1, R1, HS, B1, S1⟩
    case round =>
      clear H1 R1 HS B1 S1 HK
      obtain ⟨q, gs, hq, rfl, rfl, GH, GR, GF, GB, GS⟩ := hrel
      obtain ⟨g, cap2, hv', _, _⟩ := GR.out.form (by omega)
      injection hv' with ha _ hcap
      subst ha
      subst hcap
      have hlt := GR.out.lt (by omega)
      have hless := GF.out.less
      have hroom := GR.out.room (by omega)
      by_cases hqn : q < n
      · have hqi : (q : Int) < (n : Int) := by omega
        have c0 := GR.out.cell (q * 2) (by omega)
        have c1 := GR.out.cell (q * 2 + 1) (by omega)
        rw [GF.out.rest (q * 2) (by omega)] at c0
        rw [GF.out.rest (q * 2 + 1) (by omega)] at c1
        have KY := Lib.hid (fun h => filt_yes (P := goodP ns) (fs := fs) (k := q) h)
        have KN := Lib.hid (fun h => filt_no (P := goodP ns) (fs := fs) (k := q) h)
        have FY := Lib.hid (fun h => GF.out.keep hqn h)
        have FN := Lib.hid (fun h => GF.out.skip h)
        generalize fs.getD (q * 2) 0 = x at *
        generalize fs.getD (q * 2 + 1) 0 = y at *
        generalize hm : filtN (goodP ns) fs q = m at *
        clear hm
        have RG : Hid (wr.rangeAt g (q * 2) (ints [x, y])) := Lib.hid (range_two c0 c1)
        have B8 := Has.box (ns := [x, y]) (n := 2) wr 44 rfl (by omega)
        have GH2 := Lib.hid (GH.out.alloc (.cells (ints [x, y]).toArray 44))
        have GR2 := Lib.hid (GR.out.alloc (.cells (ints [x, y]).toArray 44))
        have GB2 := Lib.hid (GB.out.alloc GS.out (.cells (ints [x, y]).toArray 44))
        have GS2 := Lib.hid (show b ≤ (wr.alloc (.cells (ints [x, y]).toArray 44)).heap.size by rw [size1]; have := GS.out; omega)
        clear c0 c1 GH GR GB GS
        go_wp2_with (first | (refine wpList_load_mid rfl 44 _ rfl g (q * 2) rfl (ints [x, y]) _ RG.out Try.underlying44 rfl (by kernel_rfl) ?_) | (refine store_new rfl 44 _ _ rfl _ _ _ rfl _ rfl _ rfl rfl ?_ ?_ ?_; (· (first | assumption | rfl)); (· kernel_rfl)) | (refine load_has rfl 44 _ rfl _ rfl ?_ 2 ?_ _ Try.underlying44 rfl ?_ ?_; rotate_left; (· (repeat (first | (with_reducible assumption) | ((with_reducible refine Has.box _ _ ?_ ?_) <;> (first | assumption | decide)) | (with_reducible refine Has.alloc ?_ _) | ((with_reducible refine Has.putOther ?_ _ _ ?_); rotate_left; omega; skip) | ((with_reducible refine Has.below ?_ ?_); rotate_left; assumption)))); (· kernel_rfl)))
        refine (isOther_any ns x y c _ GH2.out).mono ?_
        rintro e w2 ⟨rfl, b2⟩
        have B9 := B8.below b2
        have GH3 := Lib.hid (GH2.out.below b2)
        have GR3 := Lib.hid (GR2.out.below b2)
        have GB3 := Lib.hid (GB2.out.trans (b2.mono GS2.out))
        have GS3 := Lib.hid (Nat.le_trans GS2.out b2.size)
        clear GH2 GR2 GB2 GS2 b2 RG B8
        cases hgd : goodP ns x y with
        | false =>
          have F2 := Lib.hid (FN.out hgd)
          have K2 := Lib.hid (KN.out hgd).2
          clear hgd
          go_wp2_with fail
          go_roundw
          case rel => exact ⟨q + 1, gs, by omega, by go_num, by rw [K2.out], GH3, GR3, F2, GB3, GS3⟩
          case measure => simp [intOf]; omega
        | true =>
          have F2 := Lib.hid (FY.out hgd)
          have K2 := Lib.hid (KY.out hgd).2
          have hl2 : (ints [x, y]).length = 2 := rfl
          have ht := Lib.hid (GR3.out.there2 m (by omega))
          have GR4 := Lib.hid (GR3.out.putPair m (by omega) x y)
          have GH4 := Lib.hid (GH3.out.putOther (b' := g) (m * 2) (ints [x, y]) (by omega))
          have GB4 := Lib.hid (below_setCells (B := b) g hlt.1 (ints [x, y]) (m * 2) w2 w2 (Below.refl _ _))
          have GB5 := Lib.hid (GB3.out.trans GB4.out)
          have GS4 := Lib.hid (show b ≤ (w2.setCells g (m * 2) (ints [x, y])).heap.size by rw [size_setCells]; exact GS3.out)
          have hmn : (m : Int) < (n : Int) := by omega
          clear hgd GB4
          go_wp2_with (first | (refine load_has rfl 44 _ rfl _ rfl ?_ 2 ?_ _ Try.underlying44 rfl ?_ ?_; rotate_left; (· (repeat (first | (with_reducible assumption) | ((with_reducible refine Has.box _ _ ?_ ?_) <;> (first | assumption | decide)) | (with_reducible refine Has.alloc ?_ _) | ((with_reducible refine Has.putOther ?_ _ _ ?_); rotate_left; omega; skip) | ((with_reducible refine Has.below ?_ ?_); rotate_left; assumption)))); (· kernel_rfl)) | (refine store_has rfl 44 _ _ rfl g (m * 2) [x, y] rfl rfl 2 rfl ht.out ?_ ?_; (· kernel_rfl)))
          go_roundw
          case rel => exact ⟨q + 1, _, by omega, by go_num, by rw [K2.out]; go_num, GH4, GR4, F2, GB5, GS4⟩
          case measure => simp [intOf]; omega
      · obtain rfl : q = n := by omega
        have hlen := filt_len (P := goodP ns) (fs := fs) q
        obtain ⟨cl1, cl2, cl3⟩ := GR.out.cleared (filtN (goodP ns) fs q) hless hlen (fun j hj => (GF.out.done j hj).symm)
        have C2 := Lib.hid cl2
        have C3 := Lib.hid (GB.out.grown cl3 GS.out (fun j hj => by injection hj with hj; omega))
        clear cl2 cl3 GB GR GF GH hlen
        generalize hF : filtF (goodP ns) fs q = F at *
        generalize hm : filtN (goodP ns) fs q = m at *
        have HF := Lib.hid hF
        have HM := Lib.hid hm
        clear hF hm
        have hmn : (m : Int) < (q : Int) := by omega
        have hcap : (q : Int) ≤ (cap : Int) := by omega
        go_wp2_with fail
        go_ret
        exact ⟨.slice (some ⟨g, 0, none⟩) m cap, rfl, by rw [HF.out, HM.out]; exact C2.out, C3.out⟩

def GoodPost (ns : List Int) (w : World) (e : Ending) (w' : World) : Prop := ∃ v : Value, e = .returned (.tuple #[v, .bool (vR ns)]) ∧ Rw w' (w.heap.size + 1) v (goodN ns) (goodF ns) ∧ Kept w w'

set_option maxHeartbeats 400000 in
theorem implGood (ns : List Int) (w : World) (h24 : ns.length = 24) :
    Calls Try.prog 10 #[row ns] w (GoodPost ns w) := by
  have HB := Lib.hid ((kept_refl w).alloc (.cells (ints ns).toArray 27))
  have H := Has.box w 27 h24 (by omega)
  have hN := poursNA_le ns
  rw [row_ints]
  go_enter Try.func10, Try.ntmps10
  go_wp2_with (refine load_has rfl 27 _ rfl _ rfl ?_ 24 ?_ _ Try.underlying27 rfl ?_ ?_; rotate_left; (· (repeat (first | (with_reducible assumption) | ((with_reducible refine Has.box _ _ ?_ ?_) <;> (first | assumption | decide)) | (with_reducible refine Has.alloc ?_ _) | ((with_reducible refine Has.putOther ?_ _ _ ?_); rotate_left; omega; skip) | ((with_reducible refine Has.below ?_ ?_); rotate_left; assumption)))); (· kernel_rfl))
  refine (implPours ns _ h24).mono ?_
  rintro e w1 ⟨pv, rfl, q1, b1⟩
  have H1 := H.below b1
  have HB1 := Lib.hid (HB.out.call b1)
  have hs := b1.size
  rw [size1] at hs q1
  have HS := Lib.hid hs
  have R1 := Lib.hid q1.rw
  clear H HB b1 hs q1
  go_wp2_with fail
  refine (deleteOther_any ns (poursFA ns) (w.heap.size + 1) w.heap.size (poursNA ns) pv _ (by omega) (by omega) HS.out H1 R1.out).mono ?_
  rintro e w2 ⟨v', rfl, r2, b2⟩
  have R2 := Lib.hid r2
  have HB2 := Lib.hid (Below.trans HB1.out (b2.mono (by omega)))
  clear r2 b2
  go_wp2_with fail
  go_ret2
  exact ⟨v', rfl, R2.out, HB2.out⟩
end Go.Proofs.Ytmhkjakgdfadbab.base
