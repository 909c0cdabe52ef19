/-
  The law of bounds: a drawn rack and a drawn pour, what both sides answer, and what the law asks of the answers.
-/
import Derived.Test.YtmhkjakgdfadbaaDrawB
import Derived.Test.YtmhkjakgdfadbaaBhMZ
import Derived.Test.YtmhkjakgdfadbaaEqRZ
import Derived.Test.YtmhkjakgdfadbaaRwZ
import Derived.Test.YtmhkjakgdfadbaaRmMZ
import Derived.Test.YtmhkjakgdfadbaaSpr
import Derived.Test.YtmhkjakgdfadbaaChg
import Derived.Test.YtmhkjakgdfadbaaPourI
import Derived.Test.YtmhkjakgdfadbaaSortSZ
namespace Go.Proofs.Ytmhkjakgdfadbaa.base
open Go.ChangeShapes Go.WideShapes Go.ChangeAt Go.RowKit
open Go.Proofs.Ytmhkjakgdfadbaa.cur
set_option linter.unusedVariables false
set_option linter.unusedSimpArgs false

set_option maxHeartbeats 16000000 in
set_option maxRecDepth 200000 in
theorem boundsLaw (a : Option Addr) (len cap : Nat) (zs : List Int) (w : World) (w0 : IsRow .u8 w a len cap zs) :
    Calls Try.prog 3 #[.slice a len cap] w fun e w' => e = .returned (.bool true) ∧ Below w.heap.size w w' := by
  have hml : len ≤ maxLen := by
    rcases w0 with ⟨_, h, _⟩ | ⟨_, _, hlc, hm, _⟩
    · rw [h]; exact Nat.zero_le _
    · exact Nat.le_trans hlc hm
  by_cases hbig : (65536 : Int) < (len : Int)
  · go_enter Try.func3, Try.ntmps3
    go_wp2_with fail
    refine (rBig_any a len cap w hml).mono ?_
    rintro e w' ⟨rfl, rfl⟩
    rw [decide_eq_true hbig]
    go_wp2_with fail
    go_ret
    exact ⟨rfl, Below.refl _ _⟩
  have CO := Lib.hid (code_of w0 (by omega))
  have HBG := Lib.hid (rBig_any a len cap w hml)
  rw [decide_eq_false hbig] at HBG
  have HM3 : Hid (Try.prog.eqGuardType Try.prog.depth 30 = false) := Lib.hid (by kernel_rfl)
  have HM6 : Hid (Try.prog.eqGuardType Try.prog.depth 36 = false) := Lib.hid (by kernel_rfl)
  have HB := Lib.hid (kept_refl w)
  clear hbig w0 hml
  go_enter Try.func3, Try.ntmps3
  go_wp2_with fail
  refine HBG.out.mono ?_
  rintro e w' ⟨rfl, rfl⟩
  go_wp2_with fail
  refine (drawChange a len cap _ CO.out).mono ?_
  rintro e w1 ⟨ns, x, y, rfl, hl, b1⟩
  have H3 := Has.box w1 27 hl (by omega)
  replace HB := Lib.hid ((HB.out.call b1).alloc (.cells (ints ns).toArray 27))
  clear b1 HBG
  have KC := Lib.hid (fun W => implChange ns x y W hl)
  have SC := Lib.hid (fun W => specChange ns x y W hl)
  have KB := Lib.hid (fun W => implBound ns W hl)
  have SB := Lib.hid (fun W => specBoundOf ns W hl)
  have KRu := Lib.hid (fun W => implCountRuns ns W hl)
  have SRu := Lib.hid (fun W => specCountRuns ns W hl)
  have KE := Lib.hid (fun W => implEdges ns W hl)
  have SE := Lib.hid (fun W => specCountBoundaries ns W hl)
  have KS := Lib.hid (fun W => implSpare ns W hl)
  have SS := Lib.hid (fun W => specSpare ns W hl)
  have KT := Lib.hid (fun W => implBottoms ns W hl)
  have ST := Lib.hid (fun W => specBottoms ns W hl)
  have KF := Lib.hid (fun W => implFits ns W hl)
  have SF := Lib.hid (fun W => specFits ns W hl)
  have KM := Lib.hid (fun W => implRoom ns W hl)
  have SM := Lib.hid (fun W => specRoom ns W hl)
  have KI := Lib.hid (fun W => isRack_any ns W hl)
  have KP := Lib.hid (fun W => implPour ns x y W hl)
  have hch := chgA_len ns x y
  have hbt := botA_len ns
  have hrn := roomN_le ns
  have VF := Lib.hid (fun (h : vR ns = true) => And.intro (show sm (fun c => (botA ns).getD c 0) 6 = 6 from sumB_six hl h) (And.intro (edge_def h) (And.intro (edge_le hl h) (And.intro (spare_zero hl h) (room_yes h).1))))
  have VS := Lib.hid (fun (h : vR ns = true) => (show ∀ k : Nat, k ≤ 6 → 0 ≤ sm (fun c => (botA ns).getD c 0) k ∧ sm (fun c => (botA ns).getD c 0) k ≤ k * 6 from sumB_in hl h))
  have VM := Lib.hid (fun (h : vR ns = true) => meas_in hl h)
  have OKV := Lib.hid (fun (h : pourOk ns x y = true) => And.intro (pourOk_v h) (And.intro (pour_facts hl h).valid (And.intro (show runsA (pourR ns x y) ≤ runsA ns ∧ runsA ns ≤ runsA (pourR ns x y) + 1 ∧ edgeA (pourR ns x y) ≤ edgeA ns ∧ bndA ns ≤ bndA (pourR ns x y) + 1 from ⟨(pour_bound hl h).runs, (pour_bound hl h).runs1, (pour_bound hl h).edges, (pour_bound hl h).bound⟩) (And.intro (spare_pour hl h) (show chgA ns x y = [runsA (pourR ns x y) - runsA ns, edgeA (pourR ns x y) - edgeA ns, bndA (pourR ns x y) - bndA ns] from by unfold chgA; rw [if_pos h]; rfl)))))
  have PR := pourR_len hl x y
  unfold RoomPost at KM SM
  generalize chgA ns x y = CH at *
  generalize pourOk ns x y = OK at *
  generalize pourR ns x y = PN at *
  generalize bndA ns = bd at *
  generalize runsA ns = rn at *
  generalize edgeA ns = ed at *
  generalize spareA ns = sp at *
  generalize botA ns = BT at *
  generalize fitsA ns = ft at *
  generalize roomN ns = RN at *
  generalize roomF ns = RF at *
  generalize vR ns = V at *
  dsimp only at *
  go_wp2_with (first | (refine guard_at (isStore 27) ?_ ?_; (· rfl); (refine store_new rfl 27 _ _ rfl _ _ _ rfl _ rfl _ rfl rfl ?_ ?_ ?_; (· (first | assumption | rfl)); (· kernel_rfl))) | (refine guard_at (isLoad 27) ?_ ?_; (· rfl); (refine load_has rfl 27 _ rfl _ rfl ?_ 24 ?_ _ Try.underlying27 rfl ?_ ?_; rotate_left; (· (repeat (first | (with_reducible assumption) | ((with_reducible refine Has.box _ _ ?_ ?_) <;> (first | assumption | decide)) | (with_reducible refine Has.alloc ?_ _) | ((with_reducible refine Has.putOther ?_ _ _ ?_); rotate_left; omega; skip) | ((with_reducible refine Has.below ?_ ?_); rotate_left; assumption)))); (· kernel_rfl))))
  refine (KC.out _).mono ?_
  rintro e w2 ⟨rfl, bb⟩
  replace H3 := H3.below bb
  replace HB := Lib.hid (HB.out.call bb)
  clear bb KC
  replace H3 := H3.alloc (.cells (ints CH).toArray 30)
  replace HB := Lib.hid (HB.out.alloc (.cells (ints CH).toArray 30))
  have H6 := Has.box w2 30 hch (by omega)
  go_wp2_with (first | (refine guard_at (isStore 30) ?_ ?_; (· rfl); (refine store_new rfl 30 _ _ rfl _ _ _ rfl _ rfl _ rfl rfl ?_ ?_ ?_; (· (first | assumption | rfl)); (· kernel_rfl))) | (refine guard_at (isLoad 27) ?_ ?_; (· rfl); (refine load_has rfl 27 _ rfl _ rfl ?_ 24 ?_ _ Try.underlying27 rfl ?_ ?_; rotate_left; (· (repeat (first | (with_reducible assumption) | ((with_reducible refine Has.box _ _ ?_ ?_) <;> (first | assumption | decide)) | (with_reducible refine Has.alloc ?_ _) | ((with_reducible refine Has.putOther ?_ _ _ ?_); rotate_left; omega; skip) | ((with_reducible refine Has.below ?_ ?_); rotate_left; assumption)))); (· kernel_rfl))))
  refine (SC.out _).mono ?_
  rintro e w3 ⟨rfl, bb⟩
  replace H3 := H3.below bb
  replace HB := Lib.hid (HB.out.call bb)
  replace H6 := H6.below bb
  clear bb SC
  replace H3 := H3.alloc (.cells (ints CH).toArray 30)
  replace HB := Lib.hid (HB.out.alloc (.cells (ints CH).toArray 30))
  replace H6 := H6.alloc (.cells (ints CH).toArray 30)
  have H8 := Has.box w3 30 hch (by omega)
  go_wp2_with (first | (refine guard_at (isStore 30) ?_ ?_; (· rfl); (refine store_new rfl 30 _ _ rfl _ _ _ rfl _ rfl _ rfl rfl ?_ ?_ ?_; (· (first | assumption | rfl)); (· kernel_rfl))) | (refine guard_at (isLoad 30) ?_ ?_; (· rfl); (refine load_has rfl 30 _ rfl _ rfl ?_ 3 ?_ _ Try.underlying30 rfl ?_ ?_; rotate_left; (· (repeat (first | (with_reducible assumption) | ((with_reducible refine Has.box _ _ ?_ ?_) <;> (first | assumption | decide)) | (with_reducible refine Has.alloc ?_ _) | ((with_reducible refine Has.putOther ?_ _ _ ?_); rotate_left; omega; skip) | ((with_reducible refine Has.below ?_ ?_); rotate_left; assumption)))); (· kernel_rfl))) | (refine guard_at (isNeq 30) ?_ ?_; (· rfl); refine neq_same rfl 30 _ _ _ rfl CH ?_ ?_ HM3.out (eqThree CH hch) ?_; (· kernel_rfl); (· kernel_rfl)) | (refine guard_at (isLoad 27) ?_ ?_; (· rfl); (refine load_has rfl 27 _ rfl _ rfl ?_ 24 ?_ _ Try.underlying27 rfl ?_ ?_; rotate_left; (· (repeat (first | (with_reducible assumption) | ((with_reducible refine Has.box _ _ ?_ ?_) <;> (first | assumption | decide)) | (with_reducible refine Has.alloc ?_ _) | ((with_reducible refine Has.putOther ?_ _ _ ?_); rotate_left; omega; skip) | ((with_reducible refine Has.below ?_ ?_); rotate_left; assumption)))); (· kernel_rfl))))
  refine (KB.out _).mono ?_
  rintro e w4 ⟨rfl, bb⟩
  replace H3 := H3.below bb
  replace HB := Lib.hid (HB.out.call bb)
  replace H6 := H6.below bb
  replace H8 := H8.below bb
  clear bb
  clear H8
  go_wp2_with (first | (refine guard_at (isLoad 27) ?_ ?_; (· rfl); (refine load_has rfl 27 _ rfl _ rfl ?_ 24 ?_ _ Try.underlying27 rfl ?_ ?_; rotate_left; (· (repeat (first | (with_reducible assumption) | ((with_reducible refine Has.box _ _ ?_ ?_) <;> (first | assumption | decide)) | (with_reducible refine Has.alloc ?_ _) | ((with_reducible refine Has.putOther ?_ _ _ ?_); rotate_left; omega; skip) | ((with_reducible refine Has.below ?_ ?_); rotate_left; assumption)))); (· kernel_rfl))))
  refine (SB.out _).mono ?_
  rintro e w5 ⟨rfl, bb⟩
  replace H3 := H3.below bb
  replace HB := Lib.hid (HB.out.call bb)
  replace H6 := H6.below bb
  clear bb SB
  go_wp2_with (first | (refine guard_at (isLoad 27) ?_ ?_; (· rfl); (refine load_has rfl 27 _ rfl _ rfl ?_ 24 ?_ _ Try.underlying27 rfl ?_ ?_; rotate_left; (· (repeat (first | (with_reducible assumption) | ((with_reducible refine Has.box _ _ ?_ ?_) <;> (first | assumption | decide)) | (with_reducible refine Has.alloc ?_ _) | ((with_reducible refine Has.putOther ?_ _ _ ?_); rotate_left; omega; skip) | ((with_reducible refine Has.below ?_ ?_); rotate_left; assumption)))); (· kernel_rfl))))
  refine (KI.out _).mono ?_
  rintro e w6 ⟨rfl, bb⟩
  replace H3 := H3.below bb
  replace HB := Lib.hid (HB.out.call bb)
  replace H6 := H6.below bb
  clear bb KI
  go_wp2_with (first | (refine guard_at (isLoad 27) ?_ ?_; (· rfl); (refine load_has rfl 27 _ rfl _ rfl ?_ 24 ?_ _ Try.underlying27 rfl ?_ ?_; rotate_left; (· (repeat (first | (with_reducible assumption) | ((with_reducible refine Has.box _ _ ?_ ?_) <;> (first | assumption | decide)) | (with_reducible refine Has.alloc ?_ _) | ((with_reducible refine Has.putOther ?_ _ _ ?_); rotate_left; omega; skip) | ((with_reducible refine Has.below ?_ ?_); rotate_left; assumption)))); (· kernel_rfl))))
  refine (KRu.out _).mono ?_
  rintro e w7 ⟨rfl, bb⟩
  replace H3 := H3.below bb
  replace HB := Lib.hid (HB.out.call bb)
  replace H6 := H6.below bb
  clear bb KRu
  go_wp2_with (first | (refine guard_at (isLoad 27) ?_ ?_; (· rfl); (refine load_has rfl 27 _ rfl _ rfl ?_ 24 ?_ _ Try.underlying27 rfl ?_ ?_; rotate_left; (· (repeat (first | (with_reducible assumption) | ((with_reducible refine Has.box _ _ ?_ ?_) <;> (first | assumption | decide)) | (with_reducible refine Has.alloc ?_ _) | ((with_reducible refine Has.putOther ?_ _ _ ?_); rotate_left; omega; skip) | ((with_reducible refine Has.below ?_ ?_); rotate_left; assumption)))); (· kernel_rfl))))
  refine (SRu.out _).mono ?_
  rintro e w8 ⟨rfl, bb⟩
  replace H3 := H3.below bb
  replace HB := Lib.hid (HB.out.call bb)
  replace H6 := H6.below bb
  clear bb SRu
  go_wp2_with (first | (refine guard_at (isLoad 27) ?_ ?_; (· rfl); (refine load_has rfl 27 _ rfl _ rfl ?_ 24 ?_ _ Try.underlying27 rfl ?_ ?_; rotate_left; (· (repeat (first | (with_reducible assumption) | ((with_reducible refine Has.box _ _ ?_ ?_) <;> (first | assumption | decide)) | (with_reducible refine Has.alloc ?_ _) | ((with_reducible refine Has.putOther ?_ _ _ ?_); rotate_left; omega; skip) | ((with_reducible refine Has.below ?_ ?_); rotate_left; assumption)))); (· kernel_rfl))))
  refine (KE.out _).mono ?_
  rintro e w9 ⟨rfl, bb⟩
  replace H3 := H3.below bb
  replace HB := Lib.hid (HB.out.call bb)
  replace H6 := H6.below bb
  clear bb KE
  go_wp2_with (first | (refine guard_at (isLoad 27) ?_ ?_; (· rfl); (refine load_has rfl 27 _ rfl _ rfl ?_ 24 ?_ _ Try.underlying27 rfl ?_ ?_; rotate_left; (· (repeat (first | (with_reducible assumption) | ((with_reducible refine Has.box _ _ ?_ ?_) <;> (first | assumption | decide)) | (with_reducible refine Has.alloc ?_ _) | ((with_reducible refine Has.putOther ?_ _ _ ?_); rotate_left; omega; skip) | ((with_reducible refine Has.below ?_ ?_); rotate_left; assumption)))); (· kernel_rfl))))
  refine (SE.out _).mono ?_
  rintro e w10 ⟨rfl, bb⟩
  replace H3 := H3.below bb
  replace HB := Lib.hid (HB.out.call bb)
  replace H6 := H6.below bb
  clear bb SE
  go_wp2_with (first | (refine guard_at (isLoad 27) ?_ ?_; (· rfl); (refine load_has rfl 27 _ rfl _ rfl ?_ 24 ?_ _ Try.underlying27 rfl ?_ ?_; rotate_left; (· (repeat (first | (with_reducible assumption) | ((with_reducible refine Has.box _ _ ?_ ?_) <;> (first | assumption | decide)) | (with_reducible refine Has.alloc ?_ _) | ((with_reducible refine Has.putOther ?_ _ _ ?_); rotate_left; omega; skip) | ((with_reducible refine Has.below ?_ ?_); rotate_left; assumption)))); (· kernel_rfl))))
  refine (KS.out _).mono ?_
  rintro e w11 ⟨rfl, bb⟩
  replace H3 := H3.below bb
  replace HB := Lib.hid (HB.out.call bb)
  replace H6 := H6.below bb
  clear bb KS
  go_wp2_with (first | (refine guard_at (isLoad 27) ?_ ?_; (· rfl); (refine load_has rfl 27 _ rfl _ rfl ?_ 24 ?_ _ Try.underlying27 rfl ?_ ?_; rotate_left; (· (repeat (first | (with_reducible assumption) | ((with_reducible refine Has.box _ _ ?_ ?_) <;> (first | assumption | decide)) | (with_reducible refine Has.alloc ?_ _) | ((with_reducible refine Has.putOther ?_ _ _ ?_); rotate_left; omega; skip) | ((with_reducible refine Has.below ?_ ?_); rotate_left; assumption)))); (· kernel_rfl))))
  refine (SS.out _).mono ?_
  rintro e w12 ⟨rfl, bb⟩
  replace H3 := H3.below bb
  replace HB := Lib.hid (HB.out.call bb)
  replace H6 := H6.below bb
  clear bb SS
  go_wp2_with (first | (refine guard_at (isLoad 27) ?_ ?_; (· rfl); (refine load_has rfl 27 _ rfl _ rfl ?_ 24 ?_ _ Try.underlying27 rfl ?_ ?_; rotate_left; (· (repeat (first | (with_reducible assumption) | ((with_reducible refine Has.box _ _ ?_ ?_) <;> (first | assumption | decide)) | (with_reducible refine Has.alloc ?_ _) | ((with_reducible refine Has.putOther ?_ _ _ ?_); rotate_left; omega; skip) | ((with_reducible refine Has.below ?_ ?_); rotate_left; assumption)))); (· kernel_rfl))))
  refine (KT.out _).mono ?_
  rintro e w13 ⟨rfl, bb⟩
  replace H3 := H3.below bb
  replace HB := Lib.hid (HB.out.call bb)
  replace H6 := H6.below bb
  clear bb KT
  replace H3 := H3.alloc (.cells (ints BT).toArray 36)
  replace HB := Lib.hid (HB.out.alloc (.cells (ints BT).toArray 36))
  replace H6 := H6.alloc (.cells (ints BT).toArray 36)
  have H26 := Has.box w13 36 hbt (by omega)
  go_wp2_with (first | (refine guard_at (isStore 36) ?_ ?_; (· rfl); (refine store_new rfl 36 _ _ rfl _ _ _ rfl _ rfl _ rfl rfl ?_ ?_ ?_; (· (first | assumption | rfl)); (· kernel_rfl))) | (refine guard_at (isLoad 27) ?_ ?_; (· rfl); (refine load_has rfl 27 _ rfl _ rfl ?_ 24 ?_ _ Try.underlying27 rfl ?_ ?_; rotate_left; (· (repeat (first | (with_reducible assumption) | ((with_reducible refine Has.box _ _ ?_ ?_) <;> (first | assumption | decide)) | (with_reducible refine Has.alloc ?_ _) | ((with_reducible refine Has.putOther ?_ _ _ ?_); rotate_left; omega; skip) | ((with_reducible refine Has.below ?_ ?_); rotate_left; assumption)))); (· kernel_rfl))))
  refine (ST.out _).mono ?_
  rintro e w14 ⟨rfl, bb⟩
  replace H3 := H3.below bb
  replace HB := Lib.hid (HB.out.call bb)
  replace H6 := H6.below bb
  replace H26 := H26.below bb
  clear bb ST
  replace H3 := H3.alloc (.cells (ints BT).toArray 36)
  replace HB := Lib.hid (HB.out.alloc (.cells (ints BT).toArray 36))
  replace H6 := H6.alloc (.cells (ints BT).toArray 36)
  replace H26 := H26.alloc (.cells (ints BT).toArray 36)
  have H28 := Has.box w14 36 hbt (by omega)
  go_wp2_with (first | (refine guard_at (isStore 36) ?_ ?_; (· rfl); (refine store_new rfl 36 _ _ rfl _ _ _ rfl _ rfl _ rfl rfl ?_ ?_ ?_; (· (first | assumption | rfl)); (· kernel_rfl))) | (refine guard_at (isLoad 36) ?_ ?_; (· rfl); (refine load_has rfl 36 _ rfl _ rfl ?_ 6 ?_ _ Try.underlying36 rfl ?_ ?_; rotate_left; (· (repeat (first | (with_reducible assumption) | ((with_reducible refine Has.box _ _ ?_ ?_) <;> (first | assumption | decide)) | (with_reducible refine Has.alloc ?_ _) | ((with_reducible refine Has.putOther ?_ _ _ ?_); rotate_left; omega; skip) | ((with_reducible refine Has.below ?_ ?_); rotate_left; assumption)))); (· kernel_rfl))) | (refine guard_at (isNeq 36) ?_ ?_; (· rfl); refine neq_same rfl 36 _ _ _ rfl BT ?_ ?_ HM6.out (eqSix BT hbt) ?_; (· kernel_rfl); (· kernel_rfl)) | (refine guard_at (isLoad 27) ?_ ?_; (· rfl); (refine load_has rfl 27 _ rfl _ rfl ?_ 24 ?_ _ Try.underlying27 rfl ?_ ?_; rotate_left; (· (repeat (first | (with_reducible assumption) | ((with_reducible refine Has.box _ _ ?_ ?_) <;> (first | assumption | decide)) | (with_reducible refine Has.alloc ?_ _) | ((with_reducible refine Has.putOther ?_ _ _ ?_); rotate_left; omega; skip) | ((with_reducible refine Has.below ?_ ?_); rotate_left; assumption)))); (· kernel_rfl))))
  refine (KF.out _).mono ?_
  rintro e w15 ⟨rfl, bb⟩
  replace H3 := H3.below bb
  replace HB := Lib.hid (HB.out.call bb)
  replace H6 := H6.below bb
  replace H26 := H26.below bb
  replace H28 := H28.below bb
  clear bb KF
  clear H28
  go_wp2_with (first | (refine guard_at (isLoad 27) ?_ ?_; (· rfl); (refine load_has rfl 27 _ rfl _ rfl ?_ 24 ?_ _ Try.underlying27 rfl ?_ ?_; rotate_left; (· (repeat (first | (with_reducible assumption) | ((with_reducible refine Has.box _ _ ?_ ?_) <;> (first | assumption | decide)) | (with_reducible refine Has.alloc ?_ _) | ((with_reducible refine Has.putOther ?_ _ _ ?_); rotate_left; omega; skip) | ((with_reducible refine Has.below ?_ ?_); rotate_left; assumption)))); (· kernel_rfl))))
  refine (SF.out _).mono ?_
  rintro e w16 ⟨rfl, bb⟩
  replace H3 := H3.below bb
  replace HB := Lib.hid (HB.out.call bb)
  replace H6 := H6.below bb
  replace H26 := H26.below bb
  clear bb SF
  go_wp2_with (first | (refine guard_at (isLoad 27) ?_ ?_; (· rfl); (refine load_has rfl 27 _ rfl _ rfl ?_ 24 ?_ _ Try.underlying27 rfl ?_ ?_; rotate_left; (· (repeat (first | (with_reducible assumption) | ((with_reducible refine Has.box _ _ ?_ ?_) <;> (first | assumption | decide)) | (with_reducible refine Has.alloc ?_ _) | ((with_reducible refine Has.putOther ?_ _ _ ?_); rotate_left; omega; skip) | ((with_reducible refine Has.below ?_ ?_); rotate_left; assumption)))); (· kernel_rfl))))
  refine (KM.out _).mono ?_
  rintro e w17 ⟨v34, rfl, q34, bb⟩
  replace H3 := H3.below bb
  replace HB := Lib.hid (HB.out.call bb)
  replace H6 := H6.below bb
  replace H26 := H26.below bb
  have Q34 := Lib.hid q34
  clear bb q34 KM
  go_wp2_with (first | (refine guard_at (isLoad 27) ?_ ?_; (· rfl); (refine load_has rfl 27 _ rfl _ rfl ?_ 24 ?_ _ Try.underlying27 rfl ?_ ?_; rotate_left; (· (repeat (first | (with_reducible assumption) | ((with_reducible refine Has.box _ _ ?_ ?_) <;> (first | assumption | decide)) | (with_reducible refine Has.alloc ?_ _) | ((with_reducible refine Has.putOther ?_ _ _ ?_); rotate_left; omega; skip) | ((with_reducible refine Has.below ?_ ?_); rotate_left; assumption)))); (· kernel_rfl))))
  refine (SM.out _).mono ?_
  rintro e w18 ⟨v36, rfl, q36, bb⟩
  replace H3 := H3.below bb
  replace HB := Lib.hid (HB.out.call bb)
  replace H6 := H6.below bb
  replace H26 := H26.below bb
  replace Q34 := Lib.hid (Q34.out.below bb)
  have Q36 := Lib.hid q36
  clear bb q36 SM
  go_wp2_with fail
  refine (rInts_same _ v36 _ _ RN RF _ (by omega) Q34.out Q36.out).mono ?_
  rintro e w19 ⟨rfl, bb⟩
  replace H3 := H3.below bb
  replace HB := Lib.hid (HB.out.call bb)
  replace H6 := H6.below bb
  replace H26 := H26.below bb
  replace Q34 := Lib.hid (Q34.out.below bb)
  replace Q36 := Lib.hid (Q36.out.below bb)
  clear bb
  clear Q36
  go_wp2_with fail
  refine (drawBoundOf a len cap _ (CO.out.below HB.out)).mono ?_
  rintro e w20 ⟨ms, rfl, hm, bb⟩
  replace H3 := H3.below bb
  replace HB := Lib.hid (HB.out.call bb)
  replace H6 := H6.below bb
  replace H26 := H26.below bb
  replace Q34 := Lib.hid (Q34.out.below bb)
  clear bb CO
  have H38 := Has.box w20 27 hm (by omega)
  replace H3 := H3.alloc (.cells (ints ms).toArray 27)
  replace HB := Lib.hid (HB.out.alloc (.cells (ints ms).toArray 27))
  replace H6 := H6.alloc (.cells (ints ms).toArray 27)
  replace H26 := H26.alloc (.cells (ints ms).toArray 27)
  replace Q34 := Lib.hid (Q34.out.alloc (.cells (ints ms).toArray 27))
  have KB2 := Lib.hid (fun W => implBound ms W hm)
  have KO := Lib.hid (fun W => implSorted ms W hm)
  have BS := Lib.hid (fun (h : vR ms = true) => bnd_sorted hm h)
  generalize bndA ms = bm at *
  generalize sortedA ms = so at *
  generalize vR ms = V2 at *
  go_wp2_with (first | (refine guard_at (isStore 27) ?_ ?_; (· rfl); (refine store_new rfl 27 _ _ rfl _ _ _ rfl _ rfl _ rfl rfl ?_ ?_ ?_; (· (first | assumption | rfl)); (· kernel_rfl))) | (refine guard_at (isLoad 27) ?_ ?_; (· rfl); (refine load_has rfl 27 _ rfl _ rfl ?_ 24 ?_ _ Try.underlying27 rfl ?_ ?_; rotate_left; (· (repeat (first | (with_reducible assumption) | ((with_reducible refine Has.box _ _ ?_ ?_) <;> (first | assumption | decide)) | (with_reducible refine Has.alloc ?_ _) | ((with_reducible refine Has.putOther ?_ _ _ ?_); rotate_left; omega; skip) | ((with_reducible refine Has.below ?_ ?_); rotate_left; assumption)))); (· kernel_rfl))))
  refine (KB2.out _).mono ?_
  rintro e w21 ⟨rfl, bb⟩
  replace H3 := H3.below bb
  replace HB := Lib.hid (HB.out.call bb)
  replace H6 := H6.below bb
  replace H26 := H26.below bb
  replace Q34 := Lib.hid (Q34.out.below bb)
  replace H38 := H38.below bb
  clear bb KB2
  go_wp2_with (first | (refine guard_at (isLoad 27) ?_ ?_; (· rfl); (refine load_has rfl 27 _ rfl _ rfl ?_ 24 ?_ _ Try.underlying27 rfl ?_ ?_; rotate_left; (· (repeat (first | (with_reducible assumption) | ((with_reducible refine Has.box _ _ ?_ ?_) <;> (first | assumption | decide)) | (with_reducible refine Has.alloc ?_ _) | ((with_reducible refine Has.putOther ?_ _ _ ?_); rotate_left; omega; skip) | ((with_reducible refine Has.below ?_ ?_); rotate_left; assumption)))); (· kernel_rfl))))
  refine (KO.out _).mono ?_
  rintro e w22 ⟨rfl, bb⟩
  replace H3 := H3.below bb
  replace HB := Lib.hid (HB.out.call bb)
  replace H6 := H6.below bb
  replace H26 := H26.below bb
  replace Q34 := Lib.hid (Q34.out.below bb)
  replace H38 := H38.below bb
  clear bb KO
  clear H38
  cases V2
  case' false =>
    clear BS
    cases V
    case' false =>
      have ok0 : OK = false := by
        cases OK with
        | false => rfl
        | true => have := (OKV.out rfl).1; cases this
      subst ok0
      clear OKV VF VS VM
      go_wp2_with fail
      go_ret
      exact ⟨rfl, HB.out⟩
    case' true =>
      obtain ⟨f1, f2, f3, f4, f5⟩ := VF.out rfl
      have VS2 := Lib.hid (VS.out rfl)
      obtain ⟨⟨r0, r1⟩, ⟨e0, e1⟩, b0, b1⟩ := VM.out rfl
      have F := Lib.hid (And.intro f1 (And.intro f2 (And.intro f3 (And.intro f4 f5))))
      clear f1 f2 f3 f4 f5 VF VS VM
      go_wp2_with fail
      go_loop [43, 44] (fun s i => ∃ k : Nat, k ≤ 6 ∧ s = .int .i64 (sm (fun c => BT.getD c 0) k) ∧ i = .int .i64 k) (fun _ i => 6 - (intOf i).toNat)
      case atStart => exact ⟨0, by omega, rfl, rfl⟩
      case round =>
        obtain ⟨k, hk, rfl, rfl⟩ := hrel
        rcases Nat.lt_or_ge k 6 with hk6 | hge
        · have hki : (k : Int) < 6 := by omega
          have hk0 : (0 : Int) ≤ (k : Int) := by omega
          have c0 := H26.cell k hk6
          have s0 := VS2.out k (by omega)
          have s1 := VS2.out (k + 1) (by omega)
          have EN : Hid (sm (fun c => BT.getD c 0) (k + 1) = sm (fun c => BT.getD c 0) k + BT.getD k 0) := Lib.hid rfl
          rw [EN.out] at s1
          generalize sm (fun c => BT.getD c 0) k = S0 at *
          generalize BT.getD k 0 = z at *
          have W1 : IntKind.i64.wrap (S0 + z) = S0 + z := IntWalk.i64_in _ (by omega)
          go_wp2_with fail
          go_round
          case rel => exact ⟨k + 1, by omega, by rw [EN.out], by go_num⟩
          case measure => simp [intOf]; omega
        · obtain rfl : k = 6 := by omega
          obtain ⟨f1, f2, f3, f4, f5⟩ := F.out
          rw [f1]
          subst f5
          have c0 := H26.cell 0 (by omega)
          have s0 := VS2.out 1 (by omega)
          have EN : Hid (sm (fun c => BT.getD c 0) 1 = 0 + BT.getD 0 0) := Lib.hid rfl
          rw [EN.out] at s0
          clear VS2 F f1
          generalize BT.getD 0 0 = z at *
          have W1 : IntKind.i64.wrap (rn - 6) = rn - 6 := IntWalk.i64_in _ (by omega)
          have W2 : IntKind.i64.wrap (rn - 6 + z) = ed := by rw [f2]; exact IntWalk.i64_in _ (by omega)
          have d1 : decide (bd < ed) = false := by simp; omega
          have d2 : decide (sp < 0) = false := by simp; omega
          obtain ⟨a34, cp34, rfl⟩ := Q34.out.shape
          clear f2
          cases OK
          case' false =>
            clear OKV
            go_wp2_with fail
            go_ret
            exact ⟨rfl, HB.out⟩
          case' true =>
            obtain ⟨_, p1, p2, p3, p4⟩ := OKV.out rfl
            obtain ⟨q1, q2, q3, q4⟩ := p2
            clear OKV
            have KB3 := Lib.hid (fun W => implBound PN W PR)
            have KS3 := Lib.hid (fun W => implSpare PN W PR)
            rw [p1] at KB3 KS3
            obtain ⟨x1, x2, x3⟩ := meas_in PR p1
            clear p1
            generalize bndA PN = bn at *
            generalize runsA PN = rp at *
            generalize edgeA PN = ep at *
            generalize spareA PN = sn at *
            obtain ⟨D0, hD⟩ : ∃ z : Int, z = rp - rn := ⟨_, rfl⟩
            obtain ⟨E0, hE⟩ : ∃ z : Int, z = ep - ed := ⟨_, rfl⟩
            obtain ⟨B0, hB0⟩ : ∃ z : Int, z = bn - bd := ⟨_, rfl⟩
            rw [← hD, ← hE, ← hB0] at p4
            have y0 : D0 ≤ 0 := by omega
            have y1 : -1 ≤ D0 := by omega
            have y2 : E0 ≤ 0 := by omega
            have y3 : -1 ≤ B0 := by omega
            have W3 : IntKind.i64.wrap (bd + B0) = bn := by rw [IntWalk.i64_in _ (by omega)]; omega
            have W4 : IntKind.i64.wrap (sn - sp) = D0 := by rw [p3, ← hD]; exact IntWalk.i64_in _ (by omega)
            have P4 := Lib.hid p4
            clear hD hE hB0 q1 q2 q3 q4 p3 x1 x2 x3 p4
          clear H26
          clear Q34
          go_wp2_with (first | (refine guard_at (isLoad 27) ?_ ?_; (· rfl); (refine load_has rfl 27 _ rfl _ rfl ?_ 24 ?_ _ Try.underlying27 rfl ?_ ?_; rotate_left; (· (repeat (first | (with_reducible assumption) | ((with_reducible refine Has.box _ _ ?_ ?_) <;> (first | assumption | decide)) | (with_reducible refine Has.alloc ?_ _) | ((with_reducible refine Has.putOther ?_ _ _ ?_); rotate_left; omega; skip) | ((with_reducible refine Has.below ?_ ?_); rotate_left; assumption)))); (· kernel_rfl))))
          refine (KP.out _).mono ?_
          rintro e w23 ⟨rfl, bb⟩
          replace H3 := H3.below bb
          replace HB := Lib.hid (HB.out.call bb)
          replace H6 := H6.below bb
          clear bb KP
          replace H3 := H3.alloc (.cells (ints PN).toArray 27)
          replace HB := Lib.hid (HB.out.alloc (.cells (ints PN).toArray 27))
          replace H6 := H6.alloc (.cells (ints PN).toArray 27)
          clear H3
          have H45 := Has.box w23 27 PR (by omega)
          go_wp2_with (first | (refine guard_at (isStore 27) ?_ ?_; (· rfl); (refine store_new rfl 27 _ _ rfl _ _ _ rfl _ rfl _ rfl rfl ?_ ?_ ?_; (· (first | assumption | rfl)); (· kernel_rfl))) | (refine guard_at (isLoad 27) ?_ ?_; (· rfl); (refine load_has rfl 27 _ rfl _ rfl ?_ 24 ?_ _ Try.underlying27 rfl ?_ ?_; rotate_left; (· (repeat (first | (with_reducible assumption) | ((with_reducible refine Has.box _ _ ?_ ?_) <;> (first | assumption | decide)) | (with_reducible refine Has.alloc ?_ _) | ((with_reducible refine Has.putOther ?_ _ _ ?_); rotate_left; omega; skip) | ((with_reducible refine Has.below ?_ ?_); rotate_left; assumption)))); (· kernel_rfl))))
          refine (KB3.out _).mono ?_
          rintro e w24 ⟨rfl, bb⟩
          replace HB := Lib.hid (HB.out.call bb)
          replace H6 := H6.below bb
          replace H45 := H45.below bb
          clear bb KB3
          go_wp2_with (first | (refine guard_at (isLoad 27) ?_ ?_; (· rfl); (refine load_has rfl 27 _ rfl _ rfl ?_ 24 ?_ _ Try.underlying27 rfl ?_ ?_; rotate_left; (· (repeat (first | (with_reducible assumption) | ((with_reducible refine Has.box _ _ ?_ ?_) <;> (first | assumption | decide)) | (with_reducible refine Has.alloc ?_ _) | ((with_reducible refine Has.putOther ?_ _ _ ?_); rotate_left; omega; skip) | ((with_reducible refine Has.below ?_ ?_); rotate_left; assumption)))); (· kernel_rfl))))
          refine (KS3.out _).mono ?_
          rintro e w25 ⟨rfl, bb⟩
          replace HB := Lib.hid (HB.out.call bb)
          replace H6 := H6.below bb
          replace H45 := H45.below bb
          clear bb KS3
          have g0 := H6.cell 0 (by omega)
          have g1 := H6.cell 1 (by omega)
          have g2 := H6.cell 2 (by omega)
          rw [P4.out] at g0 g1 g2
          rw [List.getD_cons_zero] at g0
          rw [List.getD_cons_succ, List.getD_cons_zero] at g1
          rw [List.getD_cons_succ, List.getD_cons_succ, List.getD_cons_zero] at g2
          go_wp2_with fail
          go_ret
          exact ⟨rfl, HB.out⟩
  case' true =>
    cases so
    case' false =>
      have bz : (bm == 0) = false := by
        rw [beq_eq_false_iff_ne]; intro h; have := (BS.out rfl).1 h; cases this
      clear BS
      cases V
      case' false =>
        have ok0 : OK = false := by
          cases OK with
          | false => rfl
          | true => have := (OKV.out rfl).1; cases this
        subst ok0
        clear OKV VF VS VM
        go_wp2_with fail
        go_ret
        exact ⟨rfl, HB.out⟩
      case' true =>
        obtain ⟨f1, f2, f3, f4, f5⟩ := VF.out rfl
        have VS2 := Lib.hid (VS.out rfl)
        obtain ⟨⟨r0, r1⟩, ⟨e0, e1⟩, b0, b1⟩ := VM.out rfl
        have F := Lib.hid (And.intro f1 (And.intro f2 (And.intro f3 (And.intro f4 f5))))
        clear f1 f2 f3 f4 f5 VF VS VM
        go_wp2_with fail
        go_loop [43, 44] (fun s i => ∃ k : Nat, k ≤ 6 ∧ s = .int .i64 (sm (fun c => BT.getD c 0) k) ∧ i = .int .i64 k) (fun _ i => 6 - (intOf i).toNat)
        case atStart => exact ⟨0, by omega, rfl, rfl⟩
        case round =>
          obtain ⟨k, hk, rfl, rfl⟩ := hrel
          rcases Nat.lt_or_ge k 6 with hk6 | hge
          · have hki : (k : Int) < 6 := by omega
            have hk0 : (0 : Int) ≤ (k : Int) := by omega
            have c0 := H26.cell k hk6
            have s0 := VS2.out k (by omega)
            have s1 := VS2.out (k + 1) (by omega)
            have EN : Hid (sm (fun c => BT.getD c 0) (k + 1) = sm (fun c => BT.getD c 0) k + BT.getD k 0) := Lib.hid rfl
            rw [EN.out] at s1
            generalize sm (fun c => BT.getD c 0) k = S0 at *
            generalize BT.getD k 0 = z at *
            have W1 : IntKind.i64.wrap (S0 + z) = S0 + z := IntWalk.i64_in _ (by omega)
            go_wp2_with fail
            go_round
            case rel => exact ⟨k + 1, by omega, by rw [EN.out], by go_num⟩
            case measure => simp [intOf]; omega
          · obtain rfl : k = 6 := by omega
            obtain ⟨f1, f2, f3, f4, f5⟩ := F.out
            rw [f1]
            subst f5
            have c0 := H26.cell 0 (by omega)
            have s0 := VS2.out 1 (by omega)
            have EN : Hid (sm (fun c => BT.getD c 0) 1 = 0 + BT.getD 0 0) := Lib.hid rfl
            rw [EN.out] at s0
            clear VS2 F f1
            generalize BT.getD 0 0 = z at *
            have W1 : IntKind.i64.wrap (rn - 6) = rn - 6 := IntWalk.i64_in _ (by omega)
            have W2 : IntKind.i64.wrap (rn - 6 + z) = ed := by rw [f2]; exact IntWalk.i64_in _ (by omega)
            have d1 : decide (bd < ed) = false := by simp; omega
            have d2 : decide (sp < 0) = false := by simp; omega
            obtain ⟨a34, cp34, rfl⟩ := Q34.out.shape
            clear f2
            cases OK
            case' false =>
              clear OKV
              go_wp2_with fail
              go_ret
              exact ⟨rfl, HB.out⟩
            case' true =>
              obtain ⟨_, p1, p2, p3, p4⟩ := OKV.out rfl
              obtain ⟨q1, q2, q3, q4⟩ := p2
              clear OKV
              have KB3 := Lib.hid (fun W => implBound PN W PR)
              have KS3 := Lib.hid (fun W => implSpare PN W PR)
              rw [p1] at KB3 KS3
              obtain ⟨x1, x2, x3⟩ := meas_in PR p1
              clear p1
              generalize bndA PN = bn at *
              generalize runsA PN = rp at *
              generalize edgeA PN = ep at *
              generalize spareA PN = sn at *
              obtain ⟨D0, hD⟩ : ∃ z : Int, z = rp - rn := ⟨_, rfl⟩
              obtain ⟨E0, hE⟩ : ∃ z : Int, z = ep - ed := ⟨_, rfl⟩
              obtain ⟨B0, hB0⟩ : ∃ z : Int, z = bn - bd := ⟨_, rfl⟩
              rw [← hD, ← hE, ← hB0] at p4
              have y0 : D0 ≤ 0 := by omega
              have y1 : -1 ≤ D0 := by omega
              have y2 : E0 ≤ 0 := by omega
              have y3 : -1 ≤ B0 := by omega
              have W3 : IntKind.i64.wrap (bd + B0) = bn := by rw [IntWalk.i64_in _ (by omega)]; omega
              have W4 : IntKind.i64.wrap (sn - sp) = D0 := by rw [p3, ← hD]; exact IntWalk.i64_in _ (by omega)
              have P4 := Lib.hid p4
              clear hD hE hB0 q1 q2 q3 q4 p3 x1 x2 x3 p4
            clear H26
            clear Q34
            go_wp2_with (first | (refine guard_at (isLoad 27) ?_ ?_; (· rfl); (refine load_has rfl 27 _ rfl _ rfl ?_ 24 ?_ _ Try.underlying27 rfl ?_ ?_; rotate_left; (· (repeat (first | (with_reducible assumption) | ((with_reducible refine Has.box _ _ ?_ ?_) <;> (first | assumption | decide)) | (with_reducible refine Has.alloc ?_ _) | ((with_reducible refine Has.putOther ?_ _ _ ?_); rotate_left; omega; skip) | ((with_reducible refine Has.below ?_ ?_); rotate_left; assumption)))); (· kernel_rfl))))
            refine (KP.out _).mono ?_
            rintro e w26 ⟨rfl, bb⟩
            replace H3 := H3.below bb
            replace HB := Lib.hid (HB.out.call bb)
            replace H6 := H6.below bb
            clear bb KP
            replace H3 := H3.alloc (.cells (ints PN).toArray 27)
            replace HB := Lib.hid (HB.out.alloc (.cells (ints PN).toArray 27))
            replace H6 := H6.alloc (.cells (ints PN).toArray 27)
            clear H3
            have H45 := Has.box w26 27 PR (by omega)
            go_wp2_with (first | (refine guard_at (isStore 27) ?_ ?_; (· rfl); (refine store_new rfl 27 _ _ rfl _ _ _ rfl _ rfl _ rfl rfl ?_ ?_ ?_; (· (first | assumption | rfl)); (· kernel_rfl))) | (refine guard_at (isLoad 27) ?_ ?_; (· rfl); (refine load_has rfl 27 _ rfl _ rfl ?_ 24 ?_ _ Try.underlying27 rfl ?_ ?_; rotate_left; (· (repeat (first | (with_reducible assumption) | ((with_reducible refine Has.box _ _ ?_ ?_) <;> (first | assumption | decide)) | (with_reducible refine Has.alloc ?_ _) | ((with_reducible refine Has.putOther ?_ _ _ ?_); rotate_left; omega; skip) | ((with_reducible refine Has.below ?_ ?_); rotate_left; assumption)))); (· kernel_rfl))))
            refine (KB3.out _).mono ?_
            rintro e w27 ⟨rfl, bb⟩
            replace HB := Lib.hid (HB.out.call bb)
            replace H6 := H6.below bb
            replace H45 := H45.below bb
            clear bb KB3
            go_wp2_with (first | (refine guard_at (isLoad 27) ?_ ?_; (· rfl); (refine load_has rfl 27 _ rfl _ rfl ?_ 24 ?_ _ Try.underlying27 rfl ?_ ?_; rotate_left; (· (repeat (first | (with_reducible assumption) | ((with_reducible refine Has.box _ _ ?_ ?_) <;> (first | assumption | decide)) | (with_reducible refine Has.alloc ?_ _) | ((with_reducible refine Has.putOther ?_ _ _ ?_); rotate_left; omega; skip) | ((with_reducible refine Has.below ?_ ?_); rotate_left; assumption)))); (· kernel_rfl))))
            refine (KS3.out _).mono ?_
            rintro e w28 ⟨rfl, bb⟩
            replace HB := Lib.hid (HB.out.call bb)
            replace H6 := H6.below bb
            replace H45 := H45.below bb
            clear bb KS3
            have g0 := H6.cell 0 (by omega)
            have g1 := H6.cell 1 (by omega)
            have g2 := H6.cell 2 (by omega)
            rw [P4.out] at g0 g1 g2
            rw [List.getD_cons_zero] at g0
            rw [List.getD_cons_succ, List.getD_cons_zero] at g1
            rw [List.getD_cons_succ, List.getD_cons_succ, List.getD_cons_zero] at g2
            go_wp2_with fail
            go_ret
            exact ⟨rfl, HB.out⟩
    case' true =>
      have bz : (bm == 0) = true := by
        rw [beq_iff_eq]; exact (BS.out rfl).2 rfl
      clear BS
      cases V
      case' false =>
        have ok0 : OK = false := by
          cases OK with
          | false => rfl
          | true => have := (OKV.out rfl).1; cases this
        subst ok0
        clear OKV VF VS VM
        go_wp2_with fail
        go_ret
        exact ⟨rfl, HB.out⟩
      case' true =>
        obtain ⟨f1, f2, f3, f4, f5⟩ := VF.out rfl
        have VS2 := Lib.hid (VS.out rfl)
        obtain ⟨⟨r0, r1⟩, ⟨e0, e1⟩, b0, b1⟩ := VM.out rfl
        have F := Lib.hid (And.intro f1 (And.intro f2 (And.intro f3 (And.intro f4 f5))))
        clear f1 f2 f3 f4 f5 VF VS VM
        go_wp2_with fail
        go_loop [43, 44] (fun s i => ∃ k : Nat, k ≤ 6 ∧ s = .int .i64 (sm (fun c => BT.getD c 0) k) ∧ i = .int .i64 k) (fun _ i => 6 - (intOf i).toNat)
        case atStart => exact ⟨0, by omega, rfl, rfl⟩
        case round =>
          obtain ⟨k, hk, rfl, rfl⟩ := hrel
          rcases Nat.lt_or_ge k 6 with hk6 | hge
          · have hki : (k : Int) < 6 := by omega
            have hk0 : (0 : Int) ≤ (k : Int) := by omega
            have c0 := H26.cell k hk6
            have s0 := VS2.out k (by omega)
            have s1 := VS2.out (k + 1) (by omega)
            have EN : Hid (sm (fun c => BT.getD c 0) (k + 1) = sm (fun c => BT.getD c 0) k + BT.getD k 0) := Lib.hid rfl
            rw [EN.out] at s1
            generalize sm (fun c => BT.getD c 0) k = S0 at *
            generalize BT.getD k 0 = z at *
            have W1 : IntKind.i64.wrap (S0 + z) = S0 + z := IntWalk.i64_in _ (by omega)
            go_wp2_with fail
            go_round
            case rel => exact ⟨k + 1, by omega, by rw [EN.out], by go_num⟩
            case measure => simp [intOf]; omega
          · obtain rfl : k = 6 := by omega
            obtain ⟨f1, f2, f3, f4, f5⟩ := F.out
            rw [f1]
            subst f5
            have c0 := H26.cell 0 (by omega)
            have s0 := VS2.out 1 (by omega)
            have EN : Hid (sm (fun c => BT.getD c 0) 1 = 0 + BT.getD 0 0) := Lib.hid rfl
            rw [EN.out] at s0
            clear VS2 F f1
            generalize BT.getD 0 0 = z at *
            have W1 : IntKind.i64.wrap (rn - 6) = rn - 6 := IntWalk.i64_in _ (by omega)
            have W2 : IntKind.i64.wrap (rn - 6 + z) = ed := by rw [f2]; exact IntWalk.i64_in _ (by omega)
            have d1 : decide (bd < ed) = false := by simp; omega
            have d2 : decide (sp < 0) = false := by simp; omega
            obtain ⟨a34, cp34, rfl⟩ := Q34.out.shape
            clear f2
            cases OK
            case' false =>
              clear OKV
              go_wp2_with fail
              go_ret
              exact ⟨rfl, HB.out⟩
            case' true =>
              obtain ⟨_, p1, p2, p3, p4⟩ := OKV.out rfl
              obtain ⟨q1, q2, q3, q4⟩ := p2
              clear OKV
              have KB3 := Lib.hid (fun W => implBound PN W PR)
              have KS3 := Lib.hid (fun W => implSpare PN W PR)
              rw [p1] at KB3 KS3
              obtain ⟨x1, x2, x3⟩ := meas_in PR p1
              clear p1
              generalize bndA PN = bn at *
              generalize runsA PN = rp at *
              generalize edgeA PN = ep at *
              generalize spareA PN = sn at *
              obtain ⟨D0, hD⟩ : ∃ z : Int, z = rp - rn := ⟨_, rfl⟩
              obtain ⟨E0, hE⟩ : ∃ z : Int, z = ep - ed := ⟨_, rfl⟩
              obtain ⟨B0, hB0⟩ : ∃ z : Int, z = bn - bd := ⟨_, rfl⟩
              rw [← hD, ← hE, ← hB0] at p4
              have y0 : D0 ≤ 0 := by omega
              have y1 : -1 ≤ D0 := by omega
              have y2 : E0 ≤ 0 := by omega
              have y3 : -1 ≤ B0 := by omega
              have W3 : IntKind.i64.wrap (bd + B0) = bn := by rw [IntWalk.i64_in _ (by omega)]; omega
              have W4 : IntKind.i64.wrap (sn - sp) = D0 := by rw [p3, ← hD]; exact IntWalk.i64_in _ (by omega)
              have P4 := Lib.hid p4
              clear hD hE hB0 q1 q2 q3 q4 p3 x1 x2 x3 p4
            clear H26
            clear Q34
            go_wp2_with (first | (refine guard_at (isLoad 27) ?_ ?_; (· rfl); (refine load_has rfl 27 _ rfl _ rfl ?_ 24 ?_ _ Try.underlying27 rfl ?_ ?_; rotate_left; (· (repeat (first | (with_reducible assumption) | ((with_reducible refine Has.box _ _ ?_ ?_) <;> (first | assumption | decide)) | (with_reducible refine Has.alloc ?_ _) | ((with_reducible refine Has.putOther ?_ _ _ ?_); rotate_left; omega; skip) | ((with_reducible refine Has.below ?_ ?_); rotate_left; assumption)))); (· kernel_rfl))))
            refine (KP.out _).mono ?_
            rintro e w29 ⟨rfl, bb⟩
            replace H3 := H3.below bb
            replace HB := Lib.hid (HB.out.call bb)
            replace H6 := H6.below bb
            clear bb KP
            replace H3 := H3.alloc (.cells (ints PN).toArray 27)
            replace HB := Lib.hid (HB.out.alloc (.cells (ints PN).toArray 27))
            replace H6 := H6.alloc (.cells (ints PN).toArray 27)
            clear H3
            have H45 := Has.box w29 27 PR (by omega)
            go_wp2_with (first | (refine guard_at (isStore 27) ?_ ?_; (· rfl); (refine store_new rfl 27 _ _ rfl _ _ _ rfl _ rfl _ rfl rfl ?_ ?_ ?_; (· (first | assumption | rfl)); (· kernel_rfl))) | (refine guard_at (isLoad 27) ?_ ?_; (· rfl); (refine load_has rfl 27 _ rfl _ rfl ?_ 24 ?_ _ Try.underlying27 rfl ?_ ?_; rotate_left; (· (repeat (first | (with_reducible assumption) | ((with_reducible refine Has.box _ _ ?_ ?_) <;> (first | assumption | decide)) | (with_reducible refine Has.alloc ?_ _) | ((with_reducible refine Has.putOther ?_ _ _ ?_); rotate_left; omega; skip) | ((with_reducible refine Has.below ?_ ?_); rotate_left; assumption)))); (· kernel_rfl))))
            refine (KB3.out _).mono ?_
            rintro e w30 ⟨rfl, bb⟩
            replace HB := Lib.hid (HB.out.call bb)
            replace H6 := H6.below bb
            replace H45 := H45.below bb
            clear bb KB3
            go_wp2_with (first | (refine guard_at (isLoad 27) ?_ ?_; (· rfl); (refine load_has rfl 27 _ rfl _ rfl ?_ 24 ?_ _ Try.underlying27 rfl ?_ ?_; rotate_left; (· (repeat (first | (with_reducible assumption) | ((with_reducible refine Has.box _ _ ?_ ?_) <;> (first | assumption | decide)) | (with_reducible refine Has.alloc ?_ _) | ((with_reducible refine Has.putOther ?_ _ _ ?_); rotate_left; omega; skip) | ((with_reducible refine Has.below ?_ ?_); rotate_left; assumption)))); (· kernel_rfl))))
            refine (KS3.out _).mono ?_
            rintro e w31 ⟨rfl, bb⟩
            replace HB := Lib.hid (HB.out.call bb)
            replace H6 := H6.below bb
            replace H45 := H45.below bb
            clear bb KS3
            have g0 := H6.cell 0 (by omega)
            have g1 := H6.cell 1 (by omega)
            have g2 := H6.cell 2 (by omega)
            rw [P4.out] at g0 g1 g2
            rw [List.getD_cons_zero] at g0
            rw [List.getD_cons_succ, List.getD_cons_zero] at g1
            rw [List.getD_cons_succ, List.getD_cons_succ, List.getD_cons_zero] at g2
            go_wp2_with fail
            go_ret
            exact ⟨rfl, HB.out⟩
end Go.Proofs.Ytmhkjakgdfadbaa.base
