/-
  Rows of pairs filtered in place by a method value, walked.
-/
import Derived.Test.YtemiljokdedidacFilM
import Derived.Test.YtemiljokdedidacMovWZ
namespace Go.Proofs.Ytemiljokdedidac.base
open Go.ChangeShapes Go.WideShapes Go.ChangeAt Go.RowKit
set_option linter.unusedVariables false
set_option linter.unusedSimpArgs false

/-- What the method says of a row's pairs. -/
def KeepsF (vs fs : List Int) (P : Int → Int → Bool) (n : Nat) : Prop := ∀ j, j < n → ∀ W : World, Calls Try.prog 39 #[row vs, .agg (ints [fs.getD (j * 2) 0, fs.getD (j * 2 + 1) 0]).toArray] W fun e w' => e = .returned (.bool (!P (fs.getD (j * 2) 0) (fs.getD (j * 2 + 1) 0))) ∧ Kept W w'
def FirstBad (P : Int → Int → Bool) (fs : List Int) (n : Nat) (z : Int) : Prop :=
  (z = -1 ∧ ∀ j, j < n → P (fs.getD (j * 2) 0) (fs.getD (j * 2 + 1) 0) = true) ∨
    ∃ k : Nat, k < n ∧ z = (k : Int) ∧ (∀ j, j < k → P (fs.getD (j * 2) 0) (fs.getD (j * 2 + 1) 0) = true) ∧ P (fs.getD (k * 2) 0) (fs.getD (k * 2 + 1) 0) = false

set_option maxHeartbeats 1600000 in
set_option maxRecDepth 100000 in
theorem indexKeep_any (vs fs : List Int) (P : Int → Int → Bool) (b n : Nat) (v : Value) (w : World) (hn : n ≤ 1000) (KF : KeepsF vs fs P n) (h : Rw w b v n fs) :
    Calls Try.prog 73 #[v, .func (Fn.func 39) #[row vs] #[]] w fun e w' => (∃ z : Int, e = .returned (.int .i64 z) ∧ FirstBad (P) fs n z) ∧ Kept w w' := by
  obtain ⟨a, cap, rfl⟩ := h.shape
  have H0 := Lib.hid (show True from trivial)
  have R0 := Lib.hid h
  clear h
  go_enter Try.func73, Try.ntmps73
  go_wp2_with fail
  go_loopw [8] (fun i wr => ∃ j : Nat, j ≤ n ∧ i = .int .i64 j ∧ Hid True ∧ Hid (Rw wr b (.slice a n cap) n fs) ∧ Hid (Kept w wr) ∧ Hid (∀ t, t < j → P (fs.getD (t * 2) 0) (fs.getD (t * 2 + 1) 0) = true)) (fun i _ => n - (intOf i).toNat)
  case atStart => exact ⟨0, by omega, rfl, H0, R0, Lib.hid (kept_refl _), Lib.hid (fun t ht => by omega)⟩
  case round =>
    obtain ⟨j, hj, rfl, GH, GR, GB, GA⟩ := hrel
    by_cases hjn : j < n
    · have hji : (j : Int) < (n : Int) := by omega
      obtain ⟨g, cap2, hv', _, _⟩ := GR.out.form (by omega)
      injection hv' with ha _ hcap
      subst ha
      subst hcap
      have c0 := GR.out.cell (j * 2) (by omega)
      have c1 := GR.out.cell (j * 2 + 1) (by omega)
      have FB := Lib.hid (fun (h1 : P (fs.getD (j * 2) 0) (fs.getD (j * 2 + 1) 0) = false) => (show FirstBad (P) fs n (j : Int) from .inr ⟨j, hjn, rfl, GA.out, h1⟩))
      have GA2 := Lib.hid (fun (h1 : P (fs.getD (j * 2) 0) (fs.getD (j * 2 + 1) 0) = true) => (show ∀ t, t < j + 1 → P (fs.getD (t * 2) 0) (fs.getD (t * 2 + 1) 0) = true from fun t ht => by
        by_cases e : t = j
        · subst e; exact h1
        · exact GA.out t (by omega)))
      have KJ := Lib.hid (fun W => KF j hjn W)
      generalize fs.getD (j * 2) 0 = x at *
      generalize fs.getD (j * 2 + 1) 0 = y at *
      have RG := Lib.hid (range_two c0 c1)
      clear c0 c1
      go_wp2_with (refine wpList_load_mid rfl 33 _ rfl g (j * 2) rfl (ints [x, y]) _ RG.out Try.underlying33 rfl (by kernel_rfl) ?_)
      refine (KJ.out _).mono ?_
      rintro e w1 ⟨rfl, b1⟩
      have GH2 := Lib.hid (show True from trivial)
      have GR2 := Lib.hid (GR.out.below b1)
      have GB2 := Lib.hid (GB.out.call b1)
      clear GH GR GB b1 RG
      cases hg : P x y with
      | false =>
        have F2 := Lib.hid (FB.out hg)
        clear hg
        go_wp2_with fail
        go_ret
        exact ⟨⟨_, rfl, F2.out⟩, GB2.out⟩
      | true =>
        have A2 := Lib.hid (GA2.out hg)
        clear hg
        go_wp2_with fail
        go_roundw
        case rel => exact ⟨j + 1, by omega, by go_num, GH2, GR2, GB2, A2⟩
        case measure => simp [intOf]; omega
    · obtain rfl : j = n := by omega
      go_wp2_with fail
      go_ret
      exact ⟨⟨-1, rfl, .inl ⟨rfl, GA.out⟩⟩, GB.out⟩

set_option maxHeartbeats 1600000 in
set_option maxRecDepth 100000 in
theorem deleteKeep_any (vs fs : List Int) (P : Int → Int → Bool) (b n : Nat) (v : Value) (w : World) (hn : n ≤ 1000) (hbw : b ≤ w.heap.size) (KF : KeepsF vs fs P n) (h : Rw w b v n fs) :
    Calls Try.prog 38 #[v, .func (Fn.func 39) #[row vs] #[]] w fun e w' => ∃ v' : Value, e = .returned v' ∧ Rw w' b v' (filtN (P) fs n) (filtF (P) fs n) ∧ Below b w w' := by
  obtain ⟨a, cap, rfl⟩ := h.shape
  have hfl := h.flat
  have H0 := Lib.hid (show True from trivial)
  have R0 := Lib.hid h
  clear h
  go_enter Try.func38, Try.ntmps38
  go_wp2_with fail
  refine (indexKeep_any vs fs P b n _ _ hn KF R0.out).mono ?_
  rintro e w1 ⟨⟨z, rfl, hz⟩, b1⟩
  have H1 := Lib.hid (show True from trivial)
  have R1 := Lib.hid (R0.out.below b1)
  have B1 := Lib.hid (b1.mono (B' := b) hbw)
  have S1 := Lib.hid (Nat.le_trans hbw b1.size)
  clear H0 R0 b1
  rcases hz with ⟨rfl, hz⟩ | ⟨k, hk, rfl, hz, hbad⟩
  · have E := Lib.hid (filt_all (P := P) (fs := fs) n (by omega) hz)
    clear hz
    go_wp2_with fail
    go_ret
    exact ⟨_, rfl, by rw [E.out.1, E.out.2, List.take_of_length_le (by omega)]; exact R1.out, B1.out⟩
  · obtain ⟨st, stn⟩ := Half.start hfl hk hz hbad
    have HS := Lib.hid st
    have HK := Lib.hid stn
    have hk1 : ((k : Int) == -1) = false := by
      rw [beq_eq_false_iff_ne]; omega
    clear st stn hz hbad
    go_wp2_with fail
    go_loopw [5, 6] (fun i j wr => ∃ (q : Nat) (gs : List Int), q ≤ n ∧ j = .int .i64 (q : Nat) ∧ i = .int .i64 (filtN (P) fs q : Nat) ∧ Hid True ∧ Hid (Rw wr b (.slice a n cap) n gs) ∧ Hid (Half (P) fs gs n q) ∧ Hid (Below b w wr) ∧ Hid (b ≤ wr.heap.size)) (fun _ j _ => n - (intOf j).toNat)
    case atStart => exact ⟨k + 1, fs, by omega, by go_num, by rw [HK.out], H1, R1, HS, B1, S1⟩
    case round =>
      clear H1 R1 HS B1 S1 HK
      obtain ⟨q, gs, hq, rfl, rfl, GH, GR, GF, GB, GS⟩ := hrel
      obtain ⟨g, cap2, hv', _, _⟩ := GR.out.form (by omega)
      injection hv' with ha _ hcap
      subst ha
      subst hcap
      have hlt := GR.out.lt (by omega)
      have hless := GF.out.less
      have hroom := GR.out.room (by omega)
      by_cases hqn : q < n
      · have hqi : (q : Int) < (n : Int) := by omega
        have c0 := GR.out.cell (q * 2) (by omega)
        have c1 := GR.out.cell (q * 2 + 1) (by omega)
        rw [GF.out.rest (q * 2) (by omega)] at c0
        rw [GF.out.rest (q * 2 + 1) (by omega)] at c1
        have KY := Lib.hid (fun h => filt_yes (P := P) (fs := fs) (k := q) h)
        have KN := Lib.hid (fun h => filt_no (P := P) (fs := fs) (k := q) h)
        have FY := Lib.hid (fun h => GF.out.keep hqn h)
        have FN := Lib.hid (fun h => GF.out.skip h)
        have KJ := Lib.hid (fun W => KF q hqn W)
        generalize fs.getD (q * 2) 0 = x at *
        generalize fs.getD (q * 2 + 1) 0 = y at *
        generalize hm : filtN (P) fs q = m at *
        clear hm
        have RG : Hid (wr.rangeAt g (q * 2) (ints [x, y])) := Lib.hid (range_two c0 c1)
        have B8 := Has.box (ns := [x, y]) (n := 2) wr 33 rfl (by omega)
        have GH2 := Lib.hid (show True from trivial)
        have GR2 := Lib.hid (GR.out.alloc (.cells (ints [x, y]).toArray 33))
        have GB2 := Lib.hid (GB.out.alloc GS.out (.cells (ints [x, y]).toArray 33))
        have GS2 := Lib.hid (show b ≤ (wr.alloc (.cells (ints [x, y]).toArray 33)).heap.size by rw [size1]; have := GS.out; omega)
        clear c0 c1 GH GR GB GS
        go_wp2_with (first | (refine wpList_load_mid rfl 33 _ rfl g (q * 2) rfl (ints [x, y]) _ RG.out Try.underlying33 rfl (by kernel_rfl) ?_) | (refine store_new rfl 33 _ _ rfl _ _ _ rfl _ rfl _ rfl rfl ?_ ?_ ?_; (· (first | assumption | rfl)); (· kernel_rfl)) | (refine load_has rfl 33 _ rfl _ rfl ?_ 2 ?_ _ Try.underlying33 rfl ?_ ?_; rotate_left; (· (repeat (first | (with_reducible assumption) | ((with_reducible refine Has.box _ _ ?_ ?_) <;> (first | assumption | decide)) | (with_reducible refine Has.alloc ?_ _) | ((with_reducible refine Has.putOther ?_ _ _ ?_); rotate_left; omega; skip) | ((with_reducible refine Has.below ?_ ?_); rotate_left; assumption)))); (· kernel_rfl)))
        refine (KJ.out _).mono ?_
        rintro e w2 ⟨rfl, b2⟩
        have B9 := B8.below b2
        have GH3 := Lib.hid (show True from trivial)
        have GR3 := Lib.hid (GR2.out.below b2)
        have GB3 := Lib.hid (GB2.out.trans (b2.mono GS2.out))
        have GS3 := Lib.hid (Nat.le_trans GS2.out b2.size)
        clear GH2 GR2 GB2 GS2 b2 RG B8
        cases hgd : P x y with
        | false =>
          have F2 := Lib.hid (FN.out hgd)
          have K2 := Lib.hid (KN.out hgd).2
          clear hgd
          go_wp2_with fail
          go_roundw
          case rel => exact ⟨q + 1, gs, by omega, by go_num, by rw [K2.out], GH3, GR3, F2, GB3, GS3⟩
          case measure => simp [intOf]; omega
        | true =>
          have F2 := Lib.hid (FY.out hgd)
          have K2 := Lib.hid (KY.out hgd).2
          have hl2 : (ints [x, y]).length = 2 := rfl
          have ht := Lib.hid (GR3.out.there2 m (by omega))
          have GR4 := Lib.hid (GR3.out.putPair m (by omega) x y)
          have GH4 := Lib.hid (show True from trivial)
          have GB4 := Lib.hid (below_setCells (B := b) g hlt.1 (ints [x, y]) (m * 2) w2 w2 (Below.refl _ _))
          have GB5 := Lib.hid (GB3.out.trans GB4.out)
          have GS4 := Lib.hid (show b ≤ (w2.setCells g (m * 2) (ints [x, y])).heap.size by rw [size_setCells]; exact GS3.out)
          have hmn : (m : Int) < (n : Int) := by omega
          clear hgd GB4
          go_wp2_with (first | (refine load_has rfl 33 _ rfl _ rfl ?_ 2 ?_ _ Try.underlying33 rfl ?_ ?_; rotate_left; (· (repeat (first | (with_reducible assumption) | ((with_reducible refine Has.box _ _ ?_ ?_) <;> (first | assumption | decide)) | (with_reducible refine Has.alloc ?_ _) | ((with_reducible refine Has.putOther ?_ _ _ ?_); rotate_left; omega; skip) | ((with_reducible refine Has.below ?_ ?_); rotate_left; assumption)))); (· kernel_rfl)) | (refine store_has rfl 33 _ _ rfl g (m * 2) [x, y] rfl rfl 2 rfl ht.out ?_ ?_; (· kernel_rfl)))
          go_roundw
          case rel => exact ⟨q + 1, _, by omega, by go_num, by rw [K2.out]; go_num, GH4, GR4, F2, GB5, GS4⟩
          case measure => simp [intOf]; omega
      · obtain rfl : q = n := by omega
        have hlen := filt_len (P := P) (fs := fs) q
        obtain ⟨cl1, cl2, cl3⟩ := GR.out.cleared (filtN (P) fs q) hless hlen (fun j hj => (GF.out.done j hj).symm)
        have C2 := Lib.hid cl2
        have C3 := Lib.hid (GB.out.grown cl3 GS.out (fun j hj => by injection hj with hj; omega))
        clear cl2 cl3 GB GR GF GH hlen
        generalize hF : filtF (P) fs q = F at *
        generalize hm : filtN (P) fs q = m at *
        have HF := Lib.hid hF
        have HM := Lib.hid hm
        clear hF hm
        have hmn : (m : Int) < (q : Int) := by omega
        have hcap : (q : Int) ≤ (cap : Int) := by omega
        go_wp2_with fail
        go_ret
        exact ⟨.slice (some ⟨g, 0, none⟩) m cap, rfl, by rw [HF.out, HM.out]; exact C2.out, C3.out⟩

end Go.Proofs.Ytemiljokdedidac.base
