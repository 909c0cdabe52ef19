/-
  The law of good paths: a drawn rack and a drawn path, what both sides answer, and what the law asks of the answers.
-/
import Derived.Test.YtmhkjakgdfadbabDraw6Z
import Derived.Test.YtmhkjakgdfadbabGpM
import Derived.Test.YtmhkjakgdfadbabRwP
import Derived.Test.YtmhkjakgdfadbabPthI
import Derived.Test.YtmhkjakgdfadbabAlgI
import Derived.Test.YtmhkjakgdfadbabPourI
namespace Go.Proofs.Ytmhkjakgdfadbab.base
open Go.ChangeShapes Go.WideShapes Go.ChangeAt Go.RowKit
open Go.Proofs.Ytmhkjakgdfadbab.cur
set_option linter.unusedVariables false
set_option linter.unusedSimpArgs false

def fallL (l : List Int) : Nat → Bool
  | 0 => true
  | k + 1 => fallL l k && decide (l.getD (k + 1) 0 = l.getD k 0 - 1)
theorem fall_eq {ns fs l : List Int} : ∀ s, (∀ j, j ≤ s → l.getD j 0 = bndA (doR ns fs j)) → fallUp ns fs s = fallL l s
  | 0, _ => rfl
  | s + 1, h => by rw [fallUp, fallL, fall_eq s (fun j hj => h j (by omega)), h (s + 1) (Nat.le_refl _), h s (by omega)]
theorem bnd_small {ns : List Int} (h24 : ns.length = 24) : -6 ≤ bndA ns ∧ bndA ns ≤ 49 := by
  by_cases hv : vR ns = true
  · exact (meas_in h24 hv).2.2
  · unfold bndA; rw [if_neg hv]; omega
structure AlongF (ms fs : List Int) (n s : Nat) (is : Bool) (A : List Int) (AN : Nat) : Prop where
  an : AN = s + 1
  le : s ≤ n
  is : is = (decide (s = n) && fallL A s)
  small : ∀ j, j ≤ s → -6 ≤ A.getD j 0 ∧ A.getD j 0 ≤ 49
theorem along_facts {ms fs : List Int} {n : Nat} (h24 : ms.length = 24) (h : pathOk ms n = true) : ∃ s, AlongF ms fs n s (pathA ms fs n) (alongF ms fs n) (alongN ms fs n) := by
  obtain ⟨a1, a2⟩ := along_yes (fs := fs) h rfl
  have ha : ∀ j, j ≤ stopW (canAt ms fs) n → (alongF ms fs n).getD j 0 = bndA (doR ms fs j) := fun j hj => by rw [a2]; exact alUp_at ms fs _ j hj
  refine ⟨stopW (canAt ms fs) n, a1, stop_le _ n, ?_, fun j hj => by rw [ha j hj]; exact bnd_small (doR_len h24 fs j)⟩
  rw [← fall_eq _ ha, falls_iff h24]
  unfold pathA; rw [h]; rfl
structure GpF (ns GF GR : List Int) (GN : Nat) : Prop where
  ok : vR GR = true
  none : goodN GR = 0
  path : pathA ns GF GN = true
  pok : pathOk ns GN = true
  falls : bndA ns - bndA GR = (GN : Nat)
theorem gp_f {ns : List Int} (h24 : ns.length = 24) (hv : vR ns = true) : GpF ns (gpFA ns) (gpRA ns) (gpNA ns) := by
  have g := gp_last h24 hv
  have e1 : gpNA ns = gpN ns := by unfold gpNA; exact if_pos hv
  have e2 : gpFA ns = gpF ns (gpN ns) := by unfold gpFA; exact if_pos hv
  have e3 : gpRA ns = gpR ns (gpN ns) := by unfold gpRA; exact if_pos hv
  rw [e1, e2, e3]
  have pk : pathOk ns (gpN ns) = true := by unfold pathOk; rw [hv, Bool.true_and]; exact decide_eq_true g.le
  exact ⟨g.ok, g.none, by unfold pathA; rw [pk, Bool.true_and]; exact g.path, pk, g.falls⟩

set_option maxHeartbeats 16000000 in
set_option maxRecDepth 200000 in
theorem goodLaw (a : Option Addr) (len cap : Nat) (zs : List Int) (w : World) (w0 : IsRow .u8 w a len cap zs) :
    Calls Try.prog 3 #[.slice a len cap] w fun e w' => e = .returned (.bool true) ∧ Below w.heap.size w w' := by
  have hml : len ≤ maxLen := by
    rcases w0 with ⟨_, h, _⟩ | ⟨_, _, hlc, hm, _⟩
    · rw [h]; exact Nat.zero_le _
    · exact Nat.le_trans hlc hm
  by_cases hbig : (65536 : Int) < (len : Int)
  · go_enter Try.func3, Try.ntmps3
    go_wp2_with fail
    refine (rBig_any a len cap w hml).mono ?_
    rintro e w' ⟨rfl, rfl⟩
    rw [decide_eq_true hbig]
    go_wp2_with fail
    go_ret
    exact ⟨rfl, Below.refl _ _⟩
  have CO := Lib.hid (code_of w0 (by omega))
  have HBG := Lib.hid (rBig_any a len cap w hml)
  rw [decide_eq_false hbig] at HBG
  have HMR : Hid (Try.prog.eqGuardType Try.prog.depth 27 = false) := Lib.hid (by kernel_rfl)
  have HM2 : Hid (Try.prog.eqGuardType Try.prog.depth 44 = false) := Lib.hid (by kernel_rfl)
  have HB := Lib.hid (kept_refl w)
  clear hbig w0 hml
  go_enter Try.func3, Try.ntmps3
  go_wp2_with fail
  refine HBG.out.mono ?_
  rintro e w' ⟨rfl, rfl⟩
  go_wp2_with fail
  refine (drawGoodPath a len cap _ CO.out).mono ?_
  rintro e w1 ⟨ns, rfl, hl, b1⟩
  have H3 := Has.box w1 27 hl (by omega)
  replace HB := Lib.hid ((HB.out.call b1).alloc (.cells (ints ns).toArray 27))
  clear b1 HBG
  have hlg : (gpRA ns).length = 24 := gpRA_len hl
  have KP := Lib.hid (fun W => implPath ns W hl)
  have SP := Lib.hid (fun W => specPath ns W hl)
  have KR := Lib.hid (fun W => isRack_any ns W hl)
  have KG := Lib.hid (fun W => implGood ns W hl)
  have SG := Lib.hid (fun W => specGood ns W hl)
  have KM := Lib.hid (fun W => implMost ns W hl)
  have SM := Lib.hid (fun W => specMost ns W hl)
  have KPO := Lib.hid (fun x y W => implPour ns x y W hl)
  have KB := Lib.hid (fun W => implBound ns W hl)
  have KB2 := Lib.hid (fun W => implBound (gpRA ns) W hlg)
  have KG2 := Lib.hid (fun W => implGood (gpRA ns) W hlg)
  have KI := Lib.hid (fun (v : Value) (b : Nat) (W : World) (hn : gpNA ns ≤ 1048576) (h : Rw W b v (gpNA ns) (gpFA ns)) => implIsGood ns (gpFA ns) v (gpNA ns) b W hl hn h)
  have hGN := gpNA_le ns
  have hgn := goodN_le ns
  have GF := Lib.hid (fun (h : vR ns = true) => gp_f hl h)
  have MO := Lib.hid (fun (h : 0 < (mostA ns).1) => most_ok h)
  have hm4 := most_in ns (poursFA ns) (poursNA ns)
  have hm5 : 0 ≤ (mostA ns).1 ∧ (mostA ns).1 ≤ 4 := hm4
  have sb1 := bnd_small hl
  have sb2 := bnd_small hlg
  have PL := Lib.hid (fun x y => pourR_len hl x y)
  unfold PathPost at KP SP
  unfold GoodPost at KG SG KG2
  unfold MostPost at KM SM
  clear hm4
  generalize gpRA ns = GR at *
  generalize gpNA ns = GN at *
  generalize gpFA ns = GFL at *
  generalize mostA ns = mm at *
  obtain ⟨m0, fx, fy⟩ := mm
  generalize hVV : vR ns = V at *
  have HVV := Lib.hid hVV
  clear hVV
  generalize goodN ns = gn at *
  generalize goodF ns = gf at *
  dsimp only at *
  go_wp2_with (first | (refine guard_at (isStore 27) ?_ ?_; (· rfl); (refine store_new rfl 27 _ _ rfl _ _ _ rfl _ rfl _ rfl rfl ?_ ?_ ?_; (· (first | assumption | rfl)); (· kernel_rfl))) | (refine guard_at (isLoad 27) ?_ ?_; (· rfl); (refine load_has rfl 27 _ rfl _ rfl ?_ 24 ?_ _ Try.underlying27 rfl ?_ ?_; rotate_left; (· (repeat (first | (with_reducible assumption) | ((with_reducible refine Has.box _ _ ?_ ?_) <;> (first | assumption | decide)) | (with_reducible refine Has.alloc ?_ _) | ((with_reducible refine Has.putOther ?_ _ _ ?_); rotate_left; omega; skip) | ((with_reducible refine Has.below ?_ ?_); rotate_left; assumption)))); (· kernel_rfl))))
  refine (KP.out _).mono ?_
  rintro e w2 ⟨v4, rfl, q4, bb⟩
  replace H3 := H3.below bb
  replace HB := Lib.hid (HB.out.call bb)
  have Q4 := Lib.hid q4
  clear bb q4
  replace H3 := H3.alloc (.cells (ints GR).toArray 27)
  replace HB := Lib.hid (HB.out.alloc (.cells (ints GR).toArray 27))
  replace Q4 := Lib.hid (Q4.out.alloc (.cells (ints GR).toArray 27))
  have H5 := Has.box w2 27 hlg (by omega)
  go_wp2_with (first | (refine guard_at (isStore 27) ?_ ?_; (· rfl); (refine store_new rfl 27 _ _ rfl _ _ _ rfl _ rfl _ rfl rfl ?_ ?_ ?_; (· (first | assumption | rfl)); (· kernel_rfl))) | (refine guard_at (isLoad 27) ?_ ?_; (· rfl); (refine load_has rfl 27 _ rfl _ rfl ?_ 24 ?_ _ Try.underlying27 rfl ?_ ?_; rotate_left; (· (repeat (first | (with_reducible assumption) | ((with_reducible refine Has.box _ _ ?_ ?_) <;> (first | assumption | decide)) | (with_reducible refine Has.alloc ?_ _) | ((with_reducible refine Has.putOther ?_ _ _ ?_); rotate_left; omega; skip) | ((with_reducible refine Has.below ?_ ?_); rotate_left; assumption)))); (· kernel_rfl))))
  refine (SP.out _).mono ?_
  rintro e w3 ⟨v7, rfl, q7, bb⟩
  replace H3 := H3.below bb
  replace HB := Lib.hid (HB.out.call bb)
  replace Q4 := Lib.hid (Q4.out.below bb)
  replace H5 := H5.below bb
  have Q7 := Lib.hid q7
  clear bb q7
  replace H3 := H3.alloc (.cells (ints GR).toArray 27)
  replace HB := Lib.hid (HB.out.alloc (.cells (ints GR).toArray 27))
  replace Q4 := Lib.hid (Q4.out.alloc (.cells (ints GR).toArray 27))
  replace H5 := H5.alloc (.cells (ints GR).toArray 27)
  replace Q7 := Lib.hid (Q7.out.alloc (.cells (ints GR).toArray 27))
  have H8 := Has.box w3 27 hlg (by omega)
  clear KP SP
  go_wp2_with (first | (refine guard_at (isStore 27) ?_ ?_; (· rfl); (refine store_new rfl 27 _ _ rfl _ _ _ rfl _ rfl _ rfl rfl ?_ ?_ ?_; (· (first | assumption | rfl)); (· kernel_rfl))) | (refine guard_at (isLoad 27) ?_ ?_; (· rfl); (refine load_has rfl 27 _ rfl _ rfl ?_ 24 ?_ _ Try.underlying27 rfl ?_ ?_; rotate_left; (· (repeat (first | (with_reducible assumption) | ((with_reducible refine Has.box _ _ ?_ ?_) <;> (first | assumption | decide)) | (with_reducible refine Has.alloc ?_ _) | ((with_reducible refine Has.putOther ?_ _ _ ?_); rotate_left; omega; skip) | ((with_reducible refine Has.below ?_ ?_); rotate_left; assumption)))); (· kernel_rfl))))
  refine (KR.out _).mono ?_
  rintro e w4 ⟨rfl, bb⟩
  replace H3 := H3.below bb
  replace HB := Lib.hid (HB.out.call bb)
  replace Q4 := Lib.hid (Q4.out.below bb)
  replace H5 := H5.below bb
  replace Q7 := Lib.hid (Q7.out.below bb)
  replace H8 := H8.below bb
  clear bb KR
  go_wp2_with (first | (refine guard_at (isLoad 27) ?_ ?_; (· rfl); (refine load_has rfl 27 _ rfl _ rfl ?_ 24 ?_ _ Try.underlying27 rfl ?_ ?_; rotate_left; (· (repeat (first | (with_reducible assumption) | ((with_reducible refine Has.box _ _ ?_ ?_) <;> (first | assumption | decide)) | (with_reducible refine Has.alloc ?_ _) | ((with_reducible refine Has.putOther ?_ _ _ ?_); rotate_left; omega; skip) | ((with_reducible refine Has.below ?_ ?_); rotate_left; assumption)))); (· kernel_rfl))) | (refine guard_at (isNeq 27) ?_ ?_; (· rfl); refine neq_same rfl 27 _ _ _ rfl GR ?_ ?_ HMR.out (eqRackT GR GR hlg hlg) ?_; (· kernel_rfl); (· kernel_rfl)))
  refine (rPairs_rw v4 v7 _ _ GN GFL _ (by omega) Q4.out Q7.out).mono ?_
  rintro e w5 ⟨rfl, bb⟩
  replace H3 := H3.below bb
  replace HB := Lib.hid (HB.out.call bb)
  replace Q4 := Lib.hid (Q4.out.below bb)
  replace H5 := H5.below bb
  replace Q7 := Lib.hid (Q7.out.below bb)
  replace H8 := H8.below bb
  clear bb
  clear Q7
  clear H8
  go_wp2_with (first | (refine guard_at (isLoad 27) ?_ ?_; (· rfl); (refine load_has rfl 27 _ rfl _ rfl ?_ 24 ?_ _ Try.underlying27 rfl ?_ ?_; rotate_left; (· (repeat (first | (with_reducible assumption) | ((with_reducible refine Has.box _ _ ?_ ?_) <;> (first | assumption | decide)) | (with_reducible refine Has.alloc ?_ _) | ((with_reducible refine Has.putOther ?_ _ _ ?_); rotate_left; omega; skip) | ((with_reducible refine Has.below ?_ ?_); rotate_left; assumption)))); (· kernel_rfl))))
  refine (KG.out _).mono ?_
  rintro e w6 ⟨v10, rfl, q10, bb⟩
  replace H3 := H3.below bb
  replace HB := Lib.hid (HB.out.call bb)
  replace Q4 := Lib.hid (Q4.out.below bb)
  replace H5 := H5.below bb
  have Q10 := Lib.hid q10
  clear bb q10 KG
  go_wp2_with (first | (refine guard_at (isLoad 27) ?_ ?_; (· rfl); (refine load_has rfl 27 _ rfl _ rfl ?_ 24 ?_ _ Try.underlying27 rfl ?_ ?_; rotate_left; (· (repeat (first | (with_reducible assumption) | ((with_reducible refine Has.box _ _ ?_ ?_) <;> (first | assumption | decide)) | (with_reducible refine Has.alloc ?_ _) | ((with_reducible refine Has.putOther ?_ _ _ ?_); rotate_left; omega; skip) | ((with_reducible refine Has.below ?_ ?_); rotate_left; assumption)))); (· kernel_rfl))))
  refine (SG.out _).mono ?_
  rintro e w7 ⟨v12, rfl, q12, bb⟩
  replace H3 := H3.below bb
  replace HB := Lib.hid (HB.out.call bb)
  replace Q4 := Lib.hid (Q4.out.below bb)
  replace H5 := H5.below bb
  replace Q10 := Lib.hid (Q10.out.below bb)
  have Q12 := Lib.hid q12
  clear bb q12 SG
  go_wp2_with fail
  refine (rPairs_rw v10 v12 _ _ gn gf _ (by omega) Q10.out Q12.out).mono ?_
  rintro e w8 ⟨rfl, bb⟩
  replace H3 := H3.below bb
  replace HB := Lib.hid (HB.out.call bb)
  replace Q4 := Lib.hid (Q4.out.below bb)
  replace H5 := H5.below bb
  replace Q10 := Lib.hid (Q10.out.below bb)
  replace Q12 := Lib.hid (Q12.out.below bb)
  clear bb
  clear Q10
  clear Q12
  go_wp2_with fail
  refine (drawIsGood a len cap _ (CO.out.below HB.out)).mono ?_
  rintro e w9 ⟨ms, v15, n, fs, rfl, hls, hn61, q15, bb⟩
  replace H3 := H3.below bb
  replace HB := Lib.hid (HB.out.call bb)
  replace Q4 := Lib.hid (Q4.out.below bb)
  replace H5 := H5.below bb
  have Q15 := Lib.hid q15
  clear bb q15 CO
  replace H3 := H3.alloc (.cells (ints ms).toArray 27)
  replace HB := Lib.hid (HB.out.alloc (.cells (ints ms).toArray 27))
  replace Q4 := Lib.hid (Q4.out.alloc (.cells (ints ms).toArray 27))
  replace H5 := H5.alloc (.cells (ints ms).toArray 27)
  replace Q15 := Lib.hid (Q15.out.alloc (.cells (ints ms).toArray 27))
  have H14 := Has.box w9 27 hls (by omega)
  obtain ⟨a15, c15, rfl⟩ := Q15.out.shape
  have AF := Lib.hid (fun (h : pathOk ms n = true) => along_facts (fs := fs) hls h)
  have KS := Lib.hid (fun (v : Value) (b : Nat) (W : World) (h : Rw W b v n fs) => implIsGood ms fs v n b W hls (by omega) h)
  have SS := Lib.hid (fun (v : Value) (b : Nat) (W : World) (h : Rw W b v n fs) => specIsGood ms fs v n b W hls (by omega) h)
  have KA := Lib.hid (fun (v : Value) (b : Nat) (W : World) (h : Rw W b v n fs) => implAlong ms fs v n b W hls (by omega) h)
  have SA := Lib.hid (fun (v : Value) (b : Nat) (W : World) (h : Rw W b v n fs) => specAlong ms fs v n b W hls (by omega) h)
  unfold AlongPost at KA SA
  have hAN := alongN_le ms fs n
  generalize pathA ms fs n = IS at *
  generalize pathOk ms n = K at *
  generalize alongN ms fs n = AN at *
  generalize alongF ms fs n = AL at *
  go_wp2_with (first | (refine guard_at (isStore 27) ?_ ?_; (· rfl); (refine store_new rfl 27 _ _ rfl _ _ _ rfl _ rfl _ rfl rfl ?_ ?_ ?_; (· (first | assumption | rfl)); (· kernel_rfl))) | (refine guard_at (isLoad 27) ?_ ?_; (· rfl); (refine load_has rfl 27 _ rfl _ rfl ?_ 24 ?_ _ Try.underlying27 rfl ?_ ?_; rotate_left; (· (repeat (first | (with_reducible assumption) | ((with_reducible refine Has.box _ _ ?_ ?_) <;> (first | assumption | decide)) | (with_reducible refine Has.alloc ?_ _) | ((with_reducible refine Has.putOther ?_ _ _ ?_); rotate_left; omega; skip) | ((with_reducible refine Has.below ?_ ?_); rotate_left; assumption)))); (· kernel_rfl))))
  refine (KS.out _ _ _ Q15.out).mono ?_
  rintro e w10 ⟨rfl, bb⟩
  replace H3 := H3.below bb
  replace HB := Lib.hid (HB.out.call bb)
  replace Q4 := Lib.hid (Q4.out.below bb)
  replace H5 := H5.below bb
  replace Q15 := Lib.hid (Q15.out.below bb)
  replace H14 := H14.below bb
  clear bb
  go_wp2_with (first | (refine guard_at (isLoad 27) ?_ ?_; (· rfl); (refine load_has rfl 27 _ rfl _ rfl ?_ 24 ?_ _ Try.underlying27 rfl ?_ ?_; rotate_left; (· (repeat (first | (with_reducible assumption) | ((with_reducible refine Has.box _ _ ?_ ?_) <;> (first | assumption | decide)) | (with_reducible refine Has.alloc ?_ _) | ((with_reducible refine Has.putOther ?_ _ _ ?_); rotate_left; omega; skip) | ((with_reducible refine Has.below ?_ ?_); rotate_left; assumption)))); (· kernel_rfl))))
  refine (SS.out _ _ _ Q15.out).mono ?_
  rintro e w11 ⟨rfl, bb⟩
  replace H3 := H3.below bb
  replace HB := Lib.hid (HB.out.call bb)
  replace Q4 := Lib.hid (Q4.out.below bb)
  replace H5 := H5.below bb
  replace Q15 := Lib.hid (Q15.out.below bb)
  replace H14 := H14.below bb
  clear bb KS SS
  go_wp2_with (first | (refine guard_at (isLoad 27) ?_ ?_; (· rfl); (refine load_has rfl 27 _ rfl _ rfl ?_ 24 ?_ _ Try.underlying27 rfl ?_ ?_; rotate_left; (· (repeat (first | (with_reducible assumption) | ((with_reducible refine Has.box _ _ ?_ ?_) <;> (first | assumption | decide)) | (with_reducible refine Has.alloc ?_ _) | ((with_reducible refine Has.putOther ?_ _ _ ?_); rotate_left; omega; skip) | ((with_reducible refine Has.below ?_ ?_); rotate_left; assumption)))); (· kernel_rfl))))
  refine (KA.out _ _ _ Q15.out).mono ?_
  rintro e w12 ⟨v20, rfl, q20, bb⟩
  replace H3 := H3.below bb
  replace HB := Lib.hid (HB.out.call bb)
  replace Q4 := Lib.hid (Q4.out.below bb)
  replace H5 := H5.below bb
  replace Q15 := Lib.hid (Q15.out.below bb)
  replace H14 := H14.below bb
  have Q20 := Lib.hid q20
  clear bb q20
  obtain ⟨a20, c20, rfl⟩ := Q20.out.shape
  go_wp2_with (first | (refine guard_at (isLoad 27) ?_ ?_; (· rfl); (refine load_has rfl 27 _ rfl _ rfl ?_ 24 ?_ _ Try.underlying27 rfl ?_ ?_; rotate_left; (· (repeat (first | (with_reducible assumption) | ((with_reducible refine Has.box _ _ ?_ ?_) <;> (first | assumption | decide)) | (with_reducible refine Has.alloc ?_ _) | ((with_reducible refine Has.putOther ?_ _ _ ?_); rotate_left; omega; skip) | ((with_reducible refine Has.below ?_ ?_); rotate_left; assumption)))); (· kernel_rfl))))
  refine (SA.out _ _ _ Q15.out).mono ?_
  rintro e w13 ⟨v22, rfl, q22, bb⟩
  replace H3 := H3.below bb
  replace HB := Lib.hid (HB.out.call bb)
  replace Q4 := Lib.hid (Q4.out.below bb)
  replace H5 := H5.below bb
  replace Q15 := Lib.hid (Q15.out.below bb)
  replace H14 := H14.below bb
  replace Q20 := Lib.hid (Q20.out.below bb)
  have Q22 := Lib.hid q22
  clear bb q22 KA SA
  go_wp2_with fail
  refine (rInts_same _ v22 _ _ AN AL _ (by omega) Q20.out Q22.out).mono ?_
  rintro e w14 ⟨rfl, bb⟩
  replace H3 := H3.below bb
  replace HB := Lib.hid (HB.out.call bb)
  replace Q4 := Lib.hid (Q4.out.below bb)
  replace H5 := H5.below bb
  replace Q15 := Lib.hid (Q15.out.below bb)
  replace H14 := H14.below bb
  replace Q20 := Lib.hid (Q20.out.below bb)
  replace Q22 := Lib.hid (Q22.out.below bb)
  clear bb
  clear Q22
  clear Q15
  clear H14
  have hp2 : ([fx, fy] : List Int).length = 2 := rfl
  go_wp2_with (first | (refine guard_at (isLoad 27) ?_ ?_; (· rfl); (refine load_has rfl 27 _ rfl _ rfl ?_ 24 ?_ _ Try.underlying27 rfl ?_ ?_; rotate_left; (· (repeat (first | (with_reducible assumption) | ((with_reducible refine Has.box _ _ ?_ ?_) <;> (first | assumption | decide)) | (with_reducible refine Has.alloc ?_ _) | ((with_reducible refine Has.putOther ?_ _ _ ?_); rotate_left; omega; skip) | ((with_reducible refine Has.below ?_ ?_); rotate_left; assumption)))); (· kernel_rfl))))
  refine (KM.out _).mono ?_
  rintro e w15 ⟨rfl, bb⟩
  replace H3 := H3.below bb
  replace HB := Lib.hid (HB.out.call bb)
  replace Q4 := Lib.hid (Q4.out.below bb)
  replace H5 := H5.below bb
  replace Q20 := Lib.hid (Q20.out.below bb)
  clear bb KM
  replace H3 := H3.alloc (.cells (ints [fx, fy]).toArray 44)
  replace HB := Lib.hid (HB.out.alloc (.cells (ints [fx, fy]).toArray 44))
  replace Q4 := Lib.hid (Q4.out.alloc (.cells (ints [fx, fy]).toArray 44))
  replace H5 := H5.alloc (.cells (ints [fx, fy]).toArray 44)
  replace Q20 := Lib.hid (Q20.out.alloc (.cells (ints [fx, fy]).toArray 44))
  have H25 := Has.box w15 44 hp2 (by omega)
  go_wp2_with (first | (refine guard_at (isStore 44) ?_ ?_; (· rfl); (refine store_new rfl 44 _ _ rfl _ _ _ rfl _ rfl _ rfl rfl ?_ ?_ ?_; (· (first | assumption | rfl)); (· kernel_rfl))) | (refine guard_at (isLoad 27) ?_ ?_; (· rfl); (refine load_has rfl 27 _ rfl _ rfl ?_ 24 ?_ _ Try.underlying27 rfl ?_ ?_; rotate_left; (· (repeat (first | (with_reducible assumption) | ((with_reducible refine Has.box _ _ ?_ ?_) <;> (first | assumption | decide)) | (with_reducible refine Has.alloc ?_ _) | ((with_reducible refine Has.putOther ?_ _ _ ?_); rotate_left; omega; skip) | ((with_reducible refine Has.below ?_ ?_); rotate_left; assumption)))); (· kernel_rfl))))
  refine (SM.out _).mono ?_
  rintro e w16 ⟨rfl, bb⟩
  replace H3 := H3.below bb
  replace HB := Lib.hid (HB.out.call bb)
  replace Q4 := Lib.hid (Q4.out.below bb)
  replace H5 := H5.below bb
  replace Q20 := Lib.hid (Q20.out.below bb)
  replace H25 := H25.below bb
  clear bb SM
  replace H3 := H3.alloc (.cells (ints [fx, fy]).toArray 44)
  replace HB := Lib.hid (HB.out.alloc (.cells (ints [fx, fy]).toArray 44))
  replace Q4 := Lib.hid (Q4.out.alloc (.cells (ints [fx, fy]).toArray 44))
  replace H5 := H5.alloc (.cells (ints [fx, fy]).toArray 44)
  replace Q20 := Lib.hid (Q20.out.alloc (.cells (ints [fx, fy]).toArray 44))
  replace H25 := H25.alloc (.cells (ints [fx, fy]).toArray 44)
  have H28 := Has.box w16 44 hp2 (by omega)
  obtain ⟨WM, hWM⟩ : ∃ W, W = w16.alloc (.cells (ints [fx, fy]).toArray 44) := ⟨_, rfl⟩
  have HWM := Lib.hid hWM
  clear hWM
  cases K
  case' false =>
    by_cases hfour : 0 < m0
    case' pos =>
      rw [decide_eq_true hfour]
      obtain ⟨mo1, mo2⟩ := MO.out hfour
      have cc0 := H25.cell 0 (by omega)
      have cc1 := H25.cell 1 (by omega)
      rw [List.getD_cons_zero] at cc0
      rw [List.getD_cons_succ, List.getD_cons_zero] at cc1
      have hlp := PL.out fx fy
      go_wp2_with (first | (refine guard_at (isStore 44) ?_ ?_; (· rfl); (refine store_new rfl 44 _ _ rfl _ _ _ rfl _ rfl _ rfl rfl ?_ ?_ ?_; (· (first | assumption | rfl)); (· kernel_rfl))) | (refine guard_at (isLoad 44) ?_ ?_; (· rfl); (refine load_has rfl 44 _ rfl _ rfl ?_ 2 ?_ _ Try.underlying44 rfl ?_ ?_; rotate_left; (· (repeat (first | (with_reducible assumption) | ((with_reducible refine Has.box _ _ ?_ ?_) <;> (first | assumption | decide)) | (with_reducible refine Has.alloc ?_ _) | ((with_reducible refine Has.putOther ?_ _ _ ?_); rotate_left; omega; skip) | ((with_reducible refine Has.below ?_ ?_); rotate_left; assumption)))); (· kernel_rfl))) | (refine guard_at (isNeq 44) ?_ ?_; (· rfl); refine neq_same rfl 44 _ _ _ rfl [fx, fy] ?_ ?_ HM2.out (eqPair [fx, fy] [fx, fy] rfl rfl) ?_; (· kernel_rfl); (· kernel_rfl)) | (refine guard_at (isLoad 27) ?_ ?_; (· rfl); (refine load_has rfl 27 _ rfl _ rfl ?_ 24 ?_ _ Try.underlying27 rfl ?_ ?_; rotate_left; (· (repeat (first | (with_reducible assumption) | ((with_reducible refine Has.box _ _ ?_ ?_) <;> (first | assumption | decide)) | (with_reducible refine Has.alloc ?_ _) | ((with_reducible refine Has.putOther ?_ _ _ ?_); rotate_left; omega; skip) | ((with_reducible refine Has.below ?_ ?_); rotate_left; assumption)))); (· kernel_rfl))))
      refine (KPO.out fx fy _).mono ?_
      rintro e w100 ⟨rfl, bb⟩
      replace H3 := H3.below bb
      replace H5 := H5.below bb
      replace H25 := H25.below bb
      replace Q4 := Lib.hid (Q4.out.below bb)
      replace HB := Lib.hid (HB.out.call bb)
      replace H28 := H28.below bb
      rw [mo1, mo2]
      clear bb cc0 cc1
      generalize pourR ns fx fy = PR at *
      replace H3 := H3.alloc (.cells (ints PR).toArray 27)
      replace H5 := H5.alloc (.cells (ints PR).toArray 27)
      replace H25 := H25.alloc (.cells (ints PR).toArray 27)
      replace Q4 := Lib.hid (Q4.out.alloc (.cells (ints PR).toArray 27))
      replace HB := Lib.hid (HB.out.alloc (.cells (ints PR).toArray 27))
      replace H28 := H28.alloc (.cells (ints PR).toArray 27)
      cases V
      case' false =>
        go_wp2_with (first | (refine guard_at (isStore 27) ?_ ?_; (· rfl); (refine store_new rfl 27 _ _ rfl _ _ _ rfl _ rfl _ rfl rfl ?_ ?_ ?_; (· (first | assumption | rfl)); (· kernel_rfl))))
        go_ret
        exact ⟨rfl, HB.out⟩
      case' true =>
        have HG := Lib.hid (GF.out rfl)
        go_wp2_with (first | (refine guard_at (isStore 27) ?_ ?_; (· rfl); (refine store_new rfl 27 _ _ rfl _ _ _ rfl _ rfl _ rfl rfl ?_ ?_ ?_; (· (first | assumption | rfl)); (· kernel_rfl))) | (refine guard_at (isLoad 27) ?_ ?_; (· rfl); (refine load_has rfl 27 _ rfl _ rfl ?_ 24 ?_ _ Try.underlying27 rfl ?_ ?_; rotate_left; (· (repeat (first | (with_reducible assumption) | ((with_reducible refine Has.box _ _ ?_ ?_) <;> (first | assumption | decide)) | (with_reducible refine Has.alloc ?_ _) | ((with_reducible refine Has.putOther ?_ _ _ ?_); rotate_left; omega; skip) | ((with_reducible refine Has.below ?_ ?_); rotate_left; assumption)))); (· kernel_rfl))))
        refine (KB.out _).mono ?_
        rintro e w101 ⟨rfl, bb⟩
        replace H3 := H3.below bb
        replace H5 := H5.below bb
        replace H25 := H25.below bb
        replace Q4 := Lib.hid (Q4.out.below bb)
        replace HB := Lib.hid (HB.out.call bb)
        replace H28 := H28.below bb
        clear bb
        go_wp2_with (first | (refine guard_at (isLoad 27) ?_ ?_; (· rfl); (refine load_has rfl 27 _ rfl _ rfl ?_ 24 ?_ _ Try.underlying27 rfl ?_ ?_; rotate_left; (· (repeat (first | (with_reducible assumption) | ((with_reducible refine Has.box _ _ ?_ ?_) <;> (first | assumption | decide)) | (with_reducible refine Has.alloc ?_ _) | ((with_reducible refine Has.putOther ?_ _ _ ?_); rotate_left; omega; skip) | ((with_reducible refine Has.below ?_ ?_); rotate_left; assumption)))); (· kernel_rfl))))
        refine (KB2.out _).mono ?_
        rintro e w102 ⟨rfl, bb⟩
        replace H3 := H3.below bb
        replace H5 := H5.below bb
        replace H25 := H25.below bb
        replace Q4 := Lib.hid (Q4.out.below bb)
        replace HB := Lib.hid (HB.out.call bb)
        replace H28 := H28.below bb
        rw [HG.out.ok]
        clear bb
        go_wp2_with (first | (refine guard_at (isLoad 27) ?_ ?_; (· rfl); (refine load_has rfl 27 _ rfl _ rfl ?_ 24 ?_ _ Try.underlying27 rfl ?_ ?_; rotate_left; (· (repeat (first | (with_reducible assumption) | ((with_reducible refine Has.box _ _ ?_ ?_) <;> (first | assumption | decide)) | (with_reducible refine Has.alloc ?_ _) | ((with_reducible refine Has.putOther ?_ _ _ ?_); rotate_left; omega; skip) | ((with_reducible refine Has.below ?_ ?_); rotate_left; assumption)))); (· kernel_rfl))))
        refine (KI.out _ _ _ (by omega) Q4.out).mono ?_
        rintro e w103 ⟨rfl, bb⟩
        replace H3 := H3.below bb
        replace H5 := H5.below bb
        replace H25 := H25.below bb
        replace Q4 := Lib.hid (Q4.out.below bb)
        replace HB := Lib.hid (HB.out.call bb)
        replace H28 := H28.below bb
        rw [HG.out.path, HG.out.pok]
        clear bb
        go_wp2_with (first | (refine guard_at (isLoad 27) ?_ ?_; (· rfl); (refine load_has rfl 27 _ rfl _ rfl ?_ 24 ?_ _ Try.underlying27 rfl ?_ ?_; rotate_left; (· (repeat (first | (with_reducible assumption) | ((with_reducible refine Has.box _ _ ?_ ?_) <;> (first | assumption | decide)) | (with_reducible refine Has.alloc ?_ _) | ((with_reducible refine Has.putOther ?_ _ _ ?_); rotate_left; omega; skip) | ((with_reducible refine Has.below ?_ ?_); rotate_left; assumption)))); (· kernel_rfl))))
        refine (KG2.out _).mono ?_
        rintro e w104 ⟨vz, rfl, qz, bb⟩
        replace H3 := H3.below bb
        replace H5 := H5.below bb
        replace H25 := H25.below bb
        replace Q4 := Lib.hid (Q4.out.below bb)
        replace HB := Lib.hid (HB.out.call bb)
        replace H28 := H28.below bb
        rw [HG.out.ok]
        obtain ⟨az, cz, rfl⟩ := qz.shape
        clear bb qz
        have z0 := HG.out.none
        have z1 := HG.out.falls
        rw [z0]
        generalize bndA ns = B1 at *
        generalize bndA GR = B2 at *
        have W1 : IntKind.i64.wrap (B1 - B2) = (GN : Int) := by rw [z1]; exact IntWalk.i64_in _ (by omega)
        obtain ⟨a4, c4, rfl⟩ := Q4.out.shape
        clear z0
        go_wp2_with fail
        go_ret
        exact ⟨rfl, HB.out⟩
    case' neg =>
      rw [decide_eq_false hfour]
      cases V
      case' false =>
        go_wp2_with (first | (refine guard_at (isStore 44) ?_ ?_; (· rfl); (refine store_new rfl 44 _ _ rfl _ _ _ rfl _ rfl _ rfl rfl ?_ ?_ ?_; (· (first | assumption | rfl)); (· kernel_rfl))) | (refine guard_at (isLoad 44) ?_ ?_; (· rfl); (refine load_has rfl 44 _ rfl _ rfl ?_ 2 ?_ _ Try.underlying44 rfl ?_ ?_; rotate_left; (· (repeat (first | (with_reducible assumption) | ((with_reducible refine Has.box _ _ ?_ ?_) <;> (first | assumption | decide)) | (with_reducible refine Has.alloc ?_ _) | ((with_reducible refine Has.putOther ?_ _ _ ?_); rotate_left; omega; skip) | ((with_reducible refine Has.below ?_ ?_); rotate_left; assumption)))); (· kernel_rfl))) | (refine guard_at (isNeq 44) ?_ ?_; (· rfl); refine neq_same rfl 44 _ _ _ rfl [fx, fy] ?_ ?_ HM2.out (eqPair [fx, fy] [fx, fy] rfl rfl) ?_; (· kernel_rfl); (· kernel_rfl)))
        go_ret
        exact ⟨rfl, HB.out⟩
      case' true =>
        have HG := Lib.hid (GF.out rfl)
        go_wp2_with (first | (refine guard_at (isStore 44) ?_ ?_; (· rfl); (refine store_new rfl 44 _ _ rfl _ _ _ rfl _ rfl _ rfl rfl ?_ ?_ ?_; (· (first | assumption | rfl)); (· kernel_rfl))) | (refine guard_at (isLoad 44) ?_ ?_; (· rfl); (refine load_has rfl 44 _ rfl _ rfl ?_ 2 ?_ _ Try.underlying44 rfl ?_ ?_; rotate_left; (· (repeat (first | (with_reducible assumption) | ((with_reducible refine Has.box _ _ ?_ ?_) <;> (first | assumption | decide)) | (with_reducible refine Has.alloc ?_ _) | ((with_reducible refine Has.putOther ?_ _ _ ?_); rotate_left; omega; skip) | ((with_reducible refine Has.below ?_ ?_); rotate_left; assumption)))); (· kernel_rfl))) | (refine guard_at (isNeq 44) ?_ ?_; (· rfl); refine neq_same rfl 44 _ _ _ rfl [fx, fy] ?_ ?_ HM2.out (eqPair [fx, fy] [fx, fy] rfl rfl) ?_; (· kernel_rfl); (· kernel_rfl)) | (refine guard_at (isLoad 27) ?_ ?_; (· rfl); (refine load_has rfl 27 _ rfl _ rfl ?_ 24 ?_ _ Try.underlying27 rfl ?_ ?_; rotate_left; (· (repeat (first | (with_reducible assumption) | ((with_reducible refine Has.box _ _ ?_ ?_) <;> (first | assumption | decide)) | (with_reducible refine Has.alloc ?_ _) | ((with_reducible refine Has.putOther ?_ _ _ ?_); rotate_left; omega; skip) | ((with_reducible refine Has.below ?_ ?_); rotate_left; assumption)))); (· kernel_rfl))))
        refine (KB.out _).mono ?_
        rintro e w105 ⟨rfl, bb⟩
        replace H3 := H3.below bb
        replace H5 := H5.below bb
        replace H25 := H25.below bb
        replace Q4 := Lib.hid (Q4.out.below bb)
        replace HB := Lib.hid (HB.out.call bb)
        replace H28 := H28.below bb
        clear bb
        go_wp2_with (first | (refine guard_at (isLoad 27) ?_ ?_; (· rfl); (refine load_has rfl 27 _ rfl _ rfl ?_ 24 ?_ _ Try.underlying27 rfl ?_ ?_; rotate_left; (· (repeat (first | (with_reducible assumption) | ((with_reducible refine Has.box _ _ ?_ ?_) <;> (first | assumption | decide)) | (with_reducible refine Has.alloc ?_ _) | ((with_reducible refine Has.putOther ?_ _ _ ?_); rotate_left; omega; skip) | ((with_reducible refine Has.below ?_ ?_); rotate_left; assumption)))); (· kernel_rfl))))
        refine (KB2.out _).mono ?_
        rintro e w106 ⟨rfl, bb⟩
        replace H3 := H3.below bb
        replace H5 := H5.below bb
        replace H25 := H25.below bb
        replace Q4 := Lib.hid (Q4.out.below bb)
        replace HB := Lib.hid (HB.out.call bb)
        replace H28 := H28.below bb
        rw [HG.out.ok]
        clear bb
        go_wp2_with (first | (refine guard_at (isLoad 27) ?_ ?_; (· rfl); (refine load_has rfl 27 _ rfl _ rfl ?_ 24 ?_ _ Try.underlying27 rfl ?_ ?_; rotate_left; (· (repeat (first | (with_reducible assumption) | ((with_reducible refine Has.box _ _ ?_ ?_) <;> (first | assumption | decide)) | (with_reducible refine Has.alloc ?_ _) | ((with_reducible refine Has.putOther ?_ _ _ ?_); rotate_left; omega; skip) | ((with_reducible refine Has.below ?_ ?_); rotate_left; assumption)))); (· kernel_rfl))))
        refine (KI.out _ _ _ (by omega) Q4.out).mono ?_
        rintro e w107 ⟨rfl, bb⟩
        replace H3 := H3.below bb
        replace H5 := H5.below bb
        replace H25 := H25.below bb
        replace Q4 := Lib.hid (Q4.out.below bb)
        replace HB := Lib.hid (HB.out.call bb)
        replace H28 := H28.below bb
        rw [HG.out.path, HG.out.pok]
        clear bb
        go_wp2_with (first | (refine guard_at (isLoad 27) ?_ ?_; (· rfl); (refine load_has rfl 27 _ rfl _ rfl ?_ 24 ?_ _ Try.underlying27 rfl ?_ ?_; rotate_left; (· (repeat (first | (with_reducible assumption) | ((with_reducible refine Has.box _ _ ?_ ?_) <;> (first | assumption | decide)) | (with_reducible refine Has.alloc ?_ _) | ((with_reducible refine Has.putOther ?_ _ _ ?_); rotate_left; omega; skip) | ((with_reducible refine Has.below ?_ ?_); rotate_left; assumption)))); (· kernel_rfl))))
        refine (KG2.out _).mono ?_
        rintro e w108 ⟨vz, rfl, qz, bb⟩
        replace H3 := H3.below bb
        replace H5 := H5.below bb
        replace H25 := H25.below bb
        replace Q4 := Lib.hid (Q4.out.below bb)
        replace HB := Lib.hid (HB.out.call bb)
        replace H28 := H28.below bb
        rw [HG.out.ok]
        obtain ⟨az, cz, rfl⟩ := qz.shape
        clear bb qz
        have z0 := HG.out.none
        have z1 := HG.out.falls
        rw [z0]
        generalize bndA ns = B1 at *
        generalize bndA GR = B2 at *
        have W1 : IntKind.i64.wrap (B1 - B2) = (GN : Int) := by rw [z1]; exact IntWalk.i64_in _ (by omega)
        obtain ⟨a4, c4, rfl⟩ := Q4.out.shape
        clear z0
        go_wp2_with fail
        go_ret
        exact ⟨rfl, HB.out⟩
  case' true =>
    obtain ⟨s, AFF⟩ := AF.out rfl
    have HA := Lib.hid AFF
    have hs1 := AFF.an
    have hsn := AFF.le
    clear AFF
    subst hs1
    have hb2 : (((s : Int) + 1) == (n : Int) + 1) = decide (s = n) := by
      by_cases e : s = n
      · rw [decide_eq_true e]; exact beq_iff_eq.2 (by omega)
      · rw [decide_eq_false e]; exact beq_eq_false_iff_ne.2 (by omega)
    have hb : (((s + 1 : Nat) : Int) == (n : Int) + 1) = decide (s = n) := hb2
    have hw15 : IntKind.i64.wrap ((n : Int) + 1) = (n : Int) + 1 := IntWalk.i64_in _ (by omega)
    obtain ⟨g, cap2, hv', _, hgl⟩ := Q20.out.form (by omega)
    injection hv' with ha _ hcap
    subst ha
    subst hcap
    go_wp2_with (first | (refine guard_at (isStore 44) ?_ ?_; (· rfl); (refine store_new rfl 44 _ _ rfl _ _ _ rfl _ rfl _ rfl rfl ?_ ?_ ?_; (· (first | assumption | rfl)); (· kernel_rfl))) | (refine guard_at (isLoad 44) ?_ ?_; (· rfl); (refine load_has rfl 44 _ rfl _ rfl ?_ 2 ?_ _ Try.underlying44 rfl ?_ ?_; rotate_left; (· (repeat (first | (with_reducible assumption) | ((with_reducible refine Has.box _ _ ?_ ?_) <;> (first | assumption | decide)) | (with_reducible refine Has.alloc ?_ _) | ((with_reducible refine Has.putOther ?_ _ _ ?_); rotate_left; omega; skip) | ((with_reducible refine Has.below ?_ ?_); rotate_left; assumption)))); (· kernel_rfl))) | (refine guard_at (isNeq 44) ?_ ?_; (· rfl); refine neq_same rfl 44 _ _ _ rfl [fx, fy] ?_ ?_ HM2.out (eqPair [fx, fy] [fx, fy] rfl rfl) ?_; (· kernel_rfl); (· kernel_rfl)))
    rw [← HWM.out] at H3 H5 H25 Q4 Q20 HB
    clear H28
    rw [show w16.alloc (.cells (ints [fx, fy]).toArray 44) = WM from HWM.out.symm]
    have KL := Lib.hid (kept_refl WM)
    have F0 : Hid (fallL AL 0 = true) := Lib.hid rfl
    go_loopw [30, 31] (fun f i wr => ∃ k : Nat, k ≤ s ∧ i = .int .i64 ((k + 1 : Nat) : Int) ∧ f = .bool (decide (s = n) && fallL AL k) ∧ Hid (Kept WM wr)) (fun _ i _ => s + 1 - (intOf i).toNat)
    case atStart => exact ⟨0, by omega, rfl, by rw [F0.out, Bool.and_true], KL⟩
    case round =>
      obtain ⟨k, hk, rfl, rfl, GK⟩ := hrel
      rcases Nat.lt_or_ge k s with hlt | hge
      case' inl =>
        have ki : ((k + 1 : Nat) : Int) < ((s + 1 : Nat) : Int) := by omega
        have ki2 : (k : Int) + 1 < (s : Int) + 1 := by omega
        have EF : Hid (fallL AL (k + 1) = (fallL AL k && decide (AL.getD (k + 1) 0 = AL.getD k 0 - 1))) := Lib.hid rfl
        have x0 : Hid (∀ w', Kept WM w' → w'.cell? ⟨g, k + 1, none⟩ = some (.int .i64 (AL.getD (k + 1) 0))) := Lib.hid (fun w' h => (Q20.out.below h).cell (k + 1) (by omega))
        have x1 : Hid (∀ w', Kept WM w' → w'.cell? ⟨g, k, none⟩ = some (.int .i64 (AL.getD k 0))) := Lib.hid (fun w' h => (Q20.out.below h).cell k (by omega))
        have sm1 := HA.out.small (k + 1) (by omega)
        have sm2 := HA.out.small k (by omega)
        generalize AL.getD (k + 1) 0 = X at *
        generalize AL.getD k 0 = Y at *
        have W1 : IntKind.i64.wrap (Y - 1) = Y - 1 := IntWalk.i64_in _ (by omega)
        have W2 : IntKind.i64.wrap (((k + 1 : Nat) : Int) - 1) = (k : Int) := by rw [IntWalk.i64_in _ (by omega)]; omega
        have hXY : (X == Y - 1) = decide (X = Y - 1) := by
          by_cases e : X = Y - 1
          · rw [decide_eq_true e]; exact beq_iff_eq.2 e
          · rw [decide_eq_false e]; exact beq_eq_false_iff_ne.2 e
        have W3 : IntKind.i64.wrap (k : Int) = (k : Int) := IntWalk.i64_in _ (by omega)
        have IX0 : (0 : Int) ≤ (k : Int) + 1 := by omega
        have IX1 : (0 : Int) ≤ (k : Int) ∧ (k : Int) < (s : Int) + 1 := by omega
        generalize hf : (decide (s = n) && fallL AL k) = f at *
        have HF := Lib.hid hf
        clear hf
        go_wp2_with fail
        refine wp_region_held_drew (S := fun w' => Kept WM w') (by kernel_rfl) ?_ (fun hHeld => ?_)
        · exact GK.out.drewN 1
        cases f
        case' false =>
          (refine wpAnyH_take (i := 0) (v := ?_) rfl (by kernel_rfl) (by kernel_rfl) (by kernel_rfl) (fun _ _ _ h => h) (Or.inl ⟨by rfl, ?_⟩) hHeld ?_; rotate_left; (· (intro w' hSw; go_simp; try with_reducible rfl)); (try simp only [List.getElem_toArray, List.getElem_cons_zero, List.getElem_cons_succ, Act.put, List.setIfInBounds_toArray, List.set_cons_zero, List.set_cons_succ])); (refine wpAnyH_take (i := 1) (v := ?_) rfl (by kernel_rfl) (by kernel_rfl) (by kernel_rfl) (fun _ _ _ h => h) (Or.inl ⟨by rfl, ?_⟩) hHeld ?_; rotate_left; (· (intro w' hSw; go_simp; try with_reducible rfl)); (try simp only [List.getElem_toArray, List.getElem_cons_zero, List.getElem_cons_succ, Act.put, List.setIfInBounds_toArray, List.set_cons_zero, List.set_cons_succ]))
          (refine wpAnyH_take (i := 2) (v := undef) rfl (by kernel_rfl) (by kernel_rfl) (by kernel_rfl) (fun _ _ _ h => h) (Or.inr ⟨by rfl, rfl⟩) hHeld ?_; (try simp only [List.getElem_toArray, List.getElem_cons_zero, List.getElem_cons_succ, Act.put, List.setIfInBounds_toArray, List.set_cons_zero, List.set_cons_succ])); (refine wpAnyH_take (i := 3) (v := undef) rfl (by kernel_rfl) (by kernel_rfl) (by kernel_rfl) (fun _ _ _ h => h) (Or.inr ⟨by rfl, rfl⟩) hHeld ?_; (try simp only [List.getElem_toArray, List.getElem_cons_zero, List.getElem_cons_succ, Act.put, List.setIfInBounds_toArray, List.set_cons_zero, List.set_cons_succ])); (refine wpAnyH_take (i := 4) (v := undef) rfl (by kernel_rfl) (by kernel_rfl) (by kernel_rfl) (fun _ _ _ h => h) (Or.inr ⟨by rfl, rfl⟩) hHeld ?_; (try simp only [List.getElem_toArray, List.getElem_cons_zero, List.getElem_cons_succ, Act.put, List.setIfInBounds_toArray, List.set_cons_zero, List.set_cons_succ])); (refine wpAnyH_take (i := 5) (v := undef) rfl (by kernel_rfl) (by kernel_rfl) (by kernel_rfl) (fun _ _ _ h => h) (Or.inr ⟨by rfl, rfl⟩) hHeld ?_; (try simp only [List.getElem_toArray, List.getElem_cons_zero, List.getElem_cons_succ, Act.put, List.setIfInBounds_toArray, List.set_cons_zero, List.set_cons_succ])); (refine wpAnyH_take (i := 6) (v := undef) rfl (by kernel_rfl) (by kernel_rfl) (by kernel_rfl) (fun _ _ _ h => h) (Or.inr ⟨by rfl, rfl⟩) hHeld ?_; (try simp only [List.getElem_toArray, List.getElem_cons_zero, List.getElem_cons_succ, Act.put, List.setIfInBounds_toArray, List.set_cons_zero, List.set_cons_succ])); (refine wpAnyH_take (i := 7) (v := undef) rfl (by kernel_rfl) (by kernel_rfl) (by kernel_rfl) (fun _ _ _ h => h) (Or.inr ⟨by rfl, rfl⟩) hHeld ?_; (try simp only [List.getElem_toArray, List.getElem_cons_zero, List.getElem_cons_succ, Act.put, List.setIfInBounds_toArray, List.set_cons_zero, List.set_cons_succ])); (refine wpAnyH_take (i := 8) (v := undef) rfl (by kernel_rfl) (by kernel_rfl) (by kernel_rfl) (fun _ _ _ h => h) (Or.inr ⟨by rfl, rfl⟩) hHeld ?_; (try simp only [List.getElem_toArray, List.getElem_cons_zero, List.getElem_cons_succ, Act.put, List.setIfInBounds_toArray, List.set_cons_zero, List.set_cons_succ])); (refine wpAnyH_take (i := 9) (v := undef) rfl (by kernel_rfl) (by kernel_rfl) (by kernel_rfl) (fun _ _ _ h => h) (Or.inr ⟨by rfl, rfl⟩) hHeld ?_; (try simp only [List.getElem_toArray, List.getElem_cons_zero, List.getElem_cons_succ, Act.put, List.setIfInBounds_toArray, List.set_cons_zero, List.set_cons_succ])); (refine wpAnyH_take (i := 10) (v := undef) rfl (by kernel_rfl) (by kernel_rfl) (by kernel_rfl) (fun _ _ _ h => h) (Or.inr ⟨by rfl, rfl⟩) hHeld ?_; (try simp only [List.getElem_toArray, List.getElem_cons_zero, List.getElem_cons_succ, Act.put, List.setIfInBounds_toArray, List.set_cons_zero, List.set_cons_succ])); (refine wpAnyH_take (i := 11) (v := undef) rfl (by kernel_rfl) (by kernel_rfl) (by kernel_rfl) (fun _ _ _ h => h) (Or.inr ⟨by rfl, rfl⟩) hHeld ?_; (try simp only [List.getElem_toArray, List.getElem_cons_zero, List.getElem_cons_succ, Act.put, List.setIfInBounds_toArray, List.set_cons_zero, List.set_cons_succ])); (refine wpAnyH_take (i := 12) (v := undef) rfl (by kernel_rfl) (by kernel_rfl) (by kernel_rfl) (fun _ _ _ h => h) (Or.inr ⟨by rfl, rfl⟩) hHeld ?_; (try simp only [List.getElem_toArray, List.getElem_cons_zero, List.getElem_cons_succ, Act.put, List.setIfInBounds_toArray, List.set_cons_zero, List.set_cons_succ]))
          (refine wpAnyH_take (i := 13) (v := ?_) rfl (by kernel_rfl) (by kernel_rfl) (by kernel_rfl) (fun _ _ _ h => h) (Or.inl ⟨by rfl, ?_⟩) hHeld ?_; rotate_left; (· (intro w' hSw; go_simp; try with_reducible rfl)); (try simp only [List.getElem_toArray, List.getElem_cons_zero, List.getElem_cons_succ, Act.put, List.setIfInBounds_toArray, List.set_cons_zero, List.set_cons_succ])); (refine wpAnyH_take (i := 14) (v := ?_) rfl (by kernel_rfl) (by kernel_rfl) (by kernel_rfl) (fun _ _ _ h => h) (Or.inl ⟨by rfl, ?_⟩) hHeld ?_; rotate_left; (· (intro w' hSw; go_simp; try with_reducible rfl)); (try simp only [List.getElem_toArray, List.getElem_cons_zero, List.getElem_cons_succ, Act.put, List.setIfInBounds_toArray, List.set_cons_zero, List.set_cons_succ]))
        case' true =>
          (refine wpAnyH_take (i := 0) (v := ?_) rfl (by kernel_rfl) (by kernel_rfl) (by kernel_rfl) (fun _ _ _ h => h) (Or.inl ⟨by rfl, ?_⟩) hHeld ?_; rotate_left; (· (intro w' hSw; go_simp; try with_reducible rfl)); (try simp only [List.getElem_toArray, List.getElem_cons_zero, List.getElem_cons_succ, Act.put, List.setIfInBounds_toArray, List.set_cons_zero, List.set_cons_succ])); (refine wpAnyH_take (i := 1) (v := ?_) rfl (by kernel_rfl) (by kernel_rfl) (by kernel_rfl) (fun _ _ _ h => h) (Or.inl ⟨by rfl, ?_⟩) hHeld ?_; rotate_left; (· (intro w' hSw; go_simp; try with_reducible rfl)); (try simp only [List.getElem_toArray, List.getElem_cons_zero, List.getElem_cons_succ, Act.put, List.setIfInBounds_toArray, List.set_cons_zero, List.set_cons_succ])); (refine wpAnyH_take (i := 2) (v := ?_) rfl (by kernel_rfl) (by kernel_rfl) (by kernel_rfl) (fun _ _ _ h => h) (Or.inl ⟨by rfl, ?_⟩) hHeld ?_; rotate_left; (· (intro w' hSw; go_simp; try with_reducible rfl)); (try simp only [List.getElem_toArray, List.getElem_cons_zero, List.getElem_cons_succ, Act.put, List.setIfInBounds_toArray, List.set_cons_zero, List.set_cons_succ])); (refine wpAnyH_take (i := 3) (v := ?_) rfl (by kernel_rfl) (by kernel_rfl) (by kernel_rfl) (fun _ _ _ h => h) (Or.inl ⟨by rfl, ?_⟩) hHeld ?_; rotate_left; (· (intro w' hSw; go_simp; try with_reducible rfl)); (try simp only [List.getElem_toArray, List.getElem_cons_zero, List.getElem_cons_succ, Act.put, List.setIfInBounds_toArray, List.set_cons_zero, List.set_cons_succ]))
          (refine wpAnyH_take (i := 4) (v := .pointer (some ⟨g, k + 1, none⟩)) rfl (by kernel_rfl) (by kernel_rfl) (by kernel_rfl) (fun _ _ _ h => h) (Or.inl ⟨by rfl, ?_⟩) hHeld ?_; (· (intro w' hSw; have q := IX0; clear hSw; go_simp; try with_reducible rfl)); (try simp only [List.getElem_toArray, List.getElem_cons_zero, List.getElem_cons_succ, Act.put, List.setIfInBounds_toArray, List.set_cons_zero, List.set_cons_succ]))
          (refine wpAnyH_take (i := 5) (v := .int .i64 X) rfl (by kernel_rfl) (by kernel_rfl) (by kernel_rfl) (fun _ _ _ h => h) (Or.inl ⟨by rfl, ?_⟩) hHeld ?_; (· (intro w' hSw; have q := x0.out w' hSw; clear hSw; go_simp; try with_reducible rfl)); (try simp only [List.getElem_toArray, List.getElem_cons_zero, List.getElem_cons_succ, Act.put, List.setIfInBounds_toArray, List.set_cons_zero, List.set_cons_succ]))
          (refine wpAnyH_take (i := 6) (v := ?_) rfl (by kernel_rfl) (by kernel_rfl) (by kernel_rfl) (fun _ _ _ h => h) (Or.inl ⟨by rfl, ?_⟩) hHeld ?_; rotate_left; (· (intro w' hSw; go_simp; try with_reducible rfl)); (try simp only [List.getElem_toArray, List.getElem_cons_zero, List.getElem_cons_succ, Act.put, List.setIfInBounds_toArray, List.set_cons_zero, List.set_cons_succ])); (refine wpAnyH_take (i := 7) (v := ?_) rfl (by kernel_rfl) (by kernel_rfl) (by kernel_rfl) (fun _ _ _ h => h) (Or.inl ⟨by rfl, ?_⟩) hHeld ?_; rotate_left; (· (intro w' hSw; go_simp; try with_reducible rfl)); (try simp only [List.getElem_toArray, List.getElem_cons_zero, List.getElem_cons_succ, Act.put, List.setIfInBounds_toArray, List.set_cons_zero, List.set_cons_succ])); (refine wpAnyH_take (i := 8) (v := ?_) rfl (by kernel_rfl) (by kernel_rfl) (by kernel_rfl) (fun _ _ _ h => h) (Or.inl ⟨by rfl, ?_⟩) hHeld ?_; rotate_left; (· (intro w' hSw; go_simp; try with_reducible rfl)); (try simp only [List.getElem_toArray, List.getElem_cons_zero, List.getElem_cons_succ, Act.put, List.setIfInBounds_toArray, List.set_cons_zero, List.set_cons_succ]))
          (refine wpAnyH_take (i := 9) (v := .pointer (some ⟨g, k, none⟩)) rfl (by kernel_rfl) (by kernel_rfl) (by kernel_rfl) (fun _ _ _ h => h) (Or.inl ⟨by rfl, ?_⟩) hHeld ?_; (· (intro w' hSw; have q := IX1; clear hSw; go_simp; try with_reducible rfl)); (try simp only [List.getElem_toArray, List.getElem_cons_zero, List.getElem_cons_succ, Act.put, List.setIfInBounds_toArray, List.set_cons_zero, List.set_cons_succ]))
          (refine wpAnyH_take (i := 10) (v := .int .i64 Y) rfl (by kernel_rfl) (by kernel_rfl) (by kernel_rfl) (fun _ _ _ h => h) (Or.inl ⟨by rfl, ?_⟩) hHeld ?_; (· (intro w' hSw; have q := x1.out w' hSw; clear hSw; go_simp; try with_reducible rfl)); (try simp only [List.getElem_toArray, List.getElem_cons_zero, List.getElem_cons_succ, Act.put, List.setIfInBounds_toArray, List.set_cons_zero, List.set_cons_succ]))
          (refine wpAnyH_take (i := 11) (v := ?_) rfl (by kernel_rfl) (by kernel_rfl) (by kernel_rfl) (fun _ _ _ h => h) (Or.inl ⟨by rfl, ?_⟩) hHeld ?_; rotate_left; (· (intro w' hSw; go_simp; try with_reducible rfl)); (try simp only [List.getElem_toArray, List.getElem_cons_zero, List.getElem_cons_succ, Act.put, List.setIfInBounds_toArray, List.set_cons_zero, List.set_cons_succ])); (refine wpAnyH_take (i := 12) (v := ?_) rfl (by kernel_rfl) (by kernel_rfl) (by kernel_rfl) (fun _ _ _ h => h) (Or.inl ⟨by rfl, ?_⟩) hHeld ?_; rotate_left; (· (intro w' hSw; go_simp; try with_reducible rfl)); (try simp only [List.getElem_toArray, List.getElem_cons_zero, List.getElem_cons_succ, Act.put, List.setIfInBounds_toArray, List.set_cons_zero, List.set_cons_succ])); (refine wpAnyH_take (i := 13) (v := ?_) rfl (by kernel_rfl) (by kernel_rfl) (by kernel_rfl) (fun _ _ _ h => h) (Or.inl ⟨by rfl, ?_⟩) hHeld ?_; rotate_left; (· (intro w' hSw; go_simp; try with_reducible rfl)); (try simp only [List.getElem_toArray, List.getElem_cons_zero, List.getElem_cons_succ, Act.put, List.setIfInBounds_toArray, List.set_cons_zero, List.set_cons_succ])); (refine wpAnyH_take (i := 14) (v := ?_) rfl (by kernel_rfl) (by kernel_rfl) (by kernel_rfl) (fun _ _ _ h => h) (Or.inl ⟨by rfl, ?_⟩) hHeld ?_; rotate_left; (· (intro w' hSw; go_simp; try with_reducible rfl)); (try simp only [List.getElem_toArray, List.getElem_cons_zero, List.getElem_cons_succ, Act.put, List.setIfInBounds_toArray, List.set_cons_zero, List.set_cons_succ]))
        all_goals
          refine wpAnyH_done (by kernel_rfl) ?_ _
          have GK2 := Lib.hid hHeld
          clear hHeld
          go_wp2_with fail
          go_roundw
          case rel => exact ⟨k + 1, by omega, by go_num, by rw [EF.out, ← Bool.and_assoc, HF.out]; first | rfl | (rw [Bool.true_and, hXY]) | simp, GK2⟩
          case measure => simp [intOf]; omega
      case' inr =>
        obtain rfl : k = s := by omega
        have hIS := HA.out.is
        rw [← hIS]
        replace H3 := H3.below GK.out
        replace H5 := H5.below GK.out
        replace H25 := H25.below GK.out
        replace Q4 := Lib.hid (Q4.out.below GK.out)
        replace HB := Lib.hid (HB.out.call GK.out)
        by_cases hfour : 0 < m0
        case' pos =>
          rw [decide_eq_true hfour]
          obtain ⟨mo1, mo2⟩ := MO.out hfour
          have cc0 := H25.cell 0 (by omega)
          have cc1 := H25.cell 1 (by omega)
          rw [List.getD_cons_zero] at cc0
          rw [List.getD_cons_succ, List.getD_cons_zero] at cc1
          have hlp := PL.out fx fy
          go_wp2_with (first | (refine guard_at (isLoad 27) ?_ ?_; (· rfl); (refine load_has rfl 27 _ rfl _ rfl ?_ 24 ?_ _ Try.underlying27 rfl ?_ ?_; rotate_left; (· (repeat (first | (with_reducible assumption) | ((with_reducible refine Has.box _ _ ?_ ?_) <;> (first | assumption | decide)) | (with_reducible refine Has.alloc ?_ _) | ((with_reducible refine Has.putOther ?_ _ _ ?_); rotate_left; omega; skip) | ((with_reducible refine Has.below ?_ ?_); rotate_left; assumption)))); (· kernel_rfl))))
          refine (KPO.out fx fy _).mono ?_
          rintro e w200 ⟨rfl, bb⟩
          replace H3 := H3.below bb
          replace H5 := H5.below bb
          replace H25 := H25.below bb
          replace Q4 := Lib.hid (Q4.out.below bb)
          replace HB := Lib.hid (HB.out.call bb)
          rw [mo1, mo2]
          clear bb cc0 cc1
          generalize pourR ns fx fy = PR at *
          replace H3 := H3.alloc (.cells (ints PR).toArray 27)
          replace H5 := H5.alloc (.cells (ints PR).toArray 27)
          replace H25 := H25.alloc (.cells (ints PR).toArray 27)
          replace Q4 := Lib.hid (Q4.out.alloc (.cells (ints PR).toArray 27))
          replace HB := Lib.hid (HB.out.alloc (.cells (ints PR).toArray 27))
          cases V
          case' false =>
            go_wp2_with (first | (refine guard_at (isStore 27) ?_ ?_; (· rfl); (refine store_new rfl 27 _ _ rfl _ _ _ rfl _ rfl _ rfl rfl ?_ ?_ ?_; (· (first | assumption | rfl)); (· kernel_rfl))))
            go_ret
            exact ⟨rfl, HB.out⟩
          case' true =>
            have HG := Lib.hid (GF.out rfl)
            go_wp2_with (first | (refine guard_at (isStore 27) ?_ ?_; (· rfl); (refine store_new rfl 27 _ _ rfl _ _ _ rfl _ rfl _ rfl rfl ?_ ?_ ?_; (· (first | assumption | rfl)); (· kernel_rfl))) | (refine guard_at (isLoad 27) ?_ ?_; (· rfl); (refine load_has rfl 27 _ rfl _ rfl ?_ 24 ?_ _ Try.underlying27 rfl ?_ ?_; rotate_left; (· (repeat (first | (with_reducible assumption) | ((with_reducible refine Has.box _ _ ?_ ?_) <;> (first | assumption | decide)) | (with_reducible refine Has.alloc ?_ _) | ((with_reducible refine Has.putOther ?_ _ _ ?_); rotate_left; omega; skip) | ((with_reducible refine Has.below ?_ ?_); rotate_left; assumption)))); (· kernel_rfl))))
            refine (KB.out _).mono ?_
            rintro e w201 ⟨rfl, bb⟩
            replace H3 := H3.below bb
            replace H5 := H5.below bb
            replace H25 := H25.below bb
            replace Q4 := Lib.hid (Q4.out.below bb)
            replace HB := Lib.hid (HB.out.call bb)
            clear bb
            go_wp2_with (first | (refine guard_at (isLoad 27) ?_ ?_; (· rfl); (refine load_has rfl 27 _ rfl _ rfl ?_ 24 ?_ _ Try.underlying27 rfl ?_ ?_; rotate_left; (· (repeat (first | (with_reducible assumption) | ((with_reducible refine Has.box _ _ ?_ ?_) <;> (first | assumption | decide)) | (with_reducible refine Has.alloc ?_ _) | ((with_reducible refine Has.putOther ?_ _ _ ?_); rotate_left; omega; skip) | ((with_reducible refine Has.below ?_ ?_); rotate_left; assumption)))); (· kernel_rfl))))
            refine (KB2.out _).mono ?_
            rintro e w202 ⟨rfl, bb⟩
            replace H3 := H3.below bb
            replace H5 := H5.below bb
            replace H25 := H25.below bb
            replace Q4 := Lib.hid (Q4.out.below bb)
            replace HB := Lib.hid (HB.out.call bb)
            rw [HG.out.ok]
            clear bb
            go_wp2_with (first | (refine guard_at (isLoad 27) ?_ ?_; (· rfl); (refine load_has rfl 27 _ rfl _ rfl ?_ 24 ?_ _ Try.underlying27 rfl ?_ ?_; rotate_left; (· (repeat (first | (with_reducible assumption) | ((with_reducible refine Has.box _ _ ?_ ?_) <;> (first | assumption | decide)) | (with_reducible refine Has.alloc ?_ _) | ((with_reducible refine Has.putOther ?_ _ _ ?_); rotate_left; omega; skip) | ((with_reducible refine Has.below ?_ ?_); rotate_left; assumption)))); (· kernel_rfl))))
            refine (KI.out _ _ _ (by omega) Q4.out).mono ?_
            rintro e w203 ⟨rfl, bb⟩
            replace H3 := H3.below bb
            replace H5 := H5.below bb
            replace H25 := H25.below bb
            replace Q4 := Lib.hid (Q4.out.below bb)
            replace HB := Lib.hid (HB.out.call bb)
            rw [HG.out.path, HG.out.pok]
            clear bb
            go_wp2_with (first | (refine guard_at (isLoad 27) ?_ ?_; (· rfl); (refine load_has rfl 27 _ rfl _ rfl ?_ 24 ?_ _ Try.underlying27 rfl ?_ ?_; rotate_left; (· (repeat (first | (with_reducible assumption) | ((with_reducible refine Has.box _ _ ?_ ?_) <;> (first | assumption | decide)) | (with_reducible refine Has.alloc ?_ _) | ((with_reducible refine Has.putOther ?_ _ _ ?_); rotate_left; omega; skip) | ((with_reducible refine Has.below ?_ ?_); rotate_left; assumption)))); (· kernel_rfl))))
            refine (KG2.out _).mono ?_
            rintro e w204 ⟨vz, rfl, qz, bb⟩
            replace H3 := H3.below bb
            replace H5 := H5.below bb
            replace H25 := H25.below bb
            replace Q4 := Lib.hid (Q4.out.below bb)
            replace HB := Lib.hid (HB.out.call bb)
            rw [HG.out.ok]
            obtain ⟨az, cz, rfl⟩ := qz.shape
            clear bb qz
            have z0 := HG.out.none
            have z1 := HG.out.falls
            rw [z0]
            generalize bndA ns = B1 at *
            generalize bndA GR = B2 at *
            have W1 : IntKind.i64.wrap (B1 - B2) = (GN : Int) := by rw [z1]; exact IntWalk.i64_in _ (by omega)
            obtain ⟨a4, c4, rfl⟩ := Q4.out.shape
            clear z0
            go_wp2_with fail
            go_ret
            exact ⟨rfl, HB.out⟩
        case' neg =>
          rw [decide_eq_false hfour]
          cases V
          case' false =>
            go_wp2_with fail
            go_ret
            exact ⟨rfl, HB.out⟩
          case' true =>
            have HG := Lib.hid (GF.out rfl)
            go_wp2_with (first | (refine guard_at (isLoad 27) ?_ ?_; (· rfl); (refine load_has rfl 27 _ rfl _ rfl ?_ 24 ?_ _ Try.underlying27 rfl ?_ ?_; rotate_left; (· (repeat (first | (with_reducible assumption) | ((with_reducible refine Has.box _ _ ?_ ?_) <;> (first | assumption | decide)) | (with_reducible refine Has.alloc ?_ _) | ((with_reducible refine Has.putOther ?_ _ _ ?_); rotate_left; omega; skip) | ((with_reducible refine Has.below ?_ ?_); rotate_left; assumption)))); (· kernel_rfl))))
            refine (KB.out _).mono ?_
            rintro e w205 ⟨rfl, bb⟩
            replace H3 := H3.below bb
            replace H5 := H5.below bb
            replace H25 := H25.below bb
            replace Q4 := Lib.hid (Q4.out.below bb)
            replace HB := Lib.hid (HB.out.call bb)
            clear bb
            go_wp2_with (first | (refine guard_at (isLoad 27) ?_ ?_; (· rfl); (refine load_has rfl 27 _ rfl _ rfl ?_ 24 ?_ _ Try.underlying27 rfl ?_ ?_; rotate_left; (· (repeat (first | (with_reducible assumption) | ((with_reducible refine Has.box _ _ ?_ ?_) <;> (first | assumption | decide)) | (with_reducible refine Has.alloc ?_ _) | ((with_reducible refine Has.putOther ?_ _ _ ?_); rotate_left; omega; skip) | ((with_reducible refine Has.below ?_ ?_); rotate_left; assumption)))); (· kernel_rfl))))
            refine (KB2.out _).mono ?_
            rintro e w206 ⟨rfl, bb⟩
            replace H3 := H3.below bb
            replace H5 := H5.below bb
            replace H25 := H25.below bb
            replace Q4 := Lib.hid (Q4.out.below bb)
            replace HB := Lib.hid (HB.out.call bb)
            rw [HG.out.ok]
            clear bb
            go_wp2_with (first | (refine guard_at (isLoad 27) ?_ ?_; (· rfl); (refine load_has rfl 27 _ rfl _ rfl ?_ 24 ?_ _ Try.underlying27 rfl ?_ ?_; rotate_left; (· (repeat (first | (with_reducible assumption) | ((with_reducible refine Has.box _ _ ?_ ?_) <;> (first | assumption | decide)) | (with_reducible refine Has.alloc ?_ _) | ((with_reducible refine Has.putOther ?_ _ _ ?_); rotate_left; omega; skip) | ((with_reducible refine Has.below ?_ ?_); rotate_left; assumption)))); (· kernel_rfl))))
            refine (KI.out _ _ _ (by omega) Q4.out).mono ?_
            rintro e w207 ⟨rfl, bb⟩
            replace H3 := H3.below bb
            replace H5 := H5.below bb
            replace H25 := H25.below bb
            replace Q4 := Lib.hid (Q4.out.below bb)
            replace HB := Lib.hid (HB.out.call bb)
            rw [HG.out.path, HG.out.pok]
            clear bb
            go_wp2_with (first | (refine guard_at (isLoad 27) ?_ ?_; (· rfl); (refine load_has rfl 27 _ rfl _ rfl ?_ 24 ?_ _ Try.underlying27 rfl ?_ ?_; rotate_left; (· (repeat (first | (with_reducible assumption) | ((with_reducible refine Has.box _ _ ?_ ?_) <;> (first | assumption | decide)) | (with_reducible refine Has.alloc ?_ _) | ((with_reducible refine Has.putOther ?_ _ _ ?_); rotate_left; omega; skip) | ((with_reducible refine Has.below ?_ ?_); rotate_left; assumption)))); (· kernel_rfl))))
            refine (KG2.out _).mono ?_
            rintro e w208 ⟨vz, rfl, qz, bb⟩
            replace H3 := H3.below bb
            replace H5 := H5.below bb
            replace H25 := H25.below bb
            replace Q4 := Lib.hid (Q4.out.below bb)
            replace HB := Lib.hid (HB.out.call bb)
            rw [HG.out.ok]
            obtain ⟨az, cz, rfl⟩ := qz.shape
            clear bb qz
            have z0 := HG.out.none
            have z1 := HG.out.falls
            rw [z0]
            generalize bndA ns = B1 at *
            generalize bndA GR = B2 at *
            have W1 : IntKind.i64.wrap (B1 - B2) = (GN : Int) := by rw [z1]; exact IntWalk.i64_in _ (by omega)
            obtain ⟨a4, c4, rfl⟩ := Q4.out.shape
            clear z0
            go_wp2_with fail
            go_ret
            exact ⟨rfl, HB.out⟩
end Go.Proofs.Ytmhkjakgdfadbab.base
