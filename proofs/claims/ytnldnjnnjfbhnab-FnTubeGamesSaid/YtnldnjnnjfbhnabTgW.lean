/-
  The law of games for tubes: a drawn rack with a number of turns, a drawn rack with a path, what both sides answer, and what the law asks of the answers.
-/
import Derived.Test.YtnldnjnnjfbhnabDraw6Z
import Derived.Test.YtnldnjnnjfbhnabPpMZ
import Derived.Test.YtnldnjnnjfbhnabGmIZ
import Derived.Test.YtnldnjnnjfbhnabGmEZ
import Derived.Test.YtnldnjnnjfbhnabGmXZ
import Derived.Test.YtnldnjnnjfbhnabGmSZ
import Derived.Test.YtnldnjnnjfbhnabPpS
import Derived.Test.YtnldnjnnjfbhnabEqRZ
import Derived.Deep.Cut
import Derived.Deep.CutRange
namespace Go.Proofs.Ytnldnjnnjfbhnab.base
open Go.ChangeShapes Go.WideShapes Go.ChangeAt Go.RowKit
open Go.Proofs.Ytnldnjnnjfbhnab.cur
set_option linter.unusedVariables false
set_option linter.unusedSimpArgs false

theorem hur_any {ns : List Int} (h24 : ns.length = 24) : ∀ i, i < hurN ns (usefNA ns) → ∃ x y : Int, (hurF ns (usefNA ns)).getD (i * 2) 0 = x ∧ (hurF ns (usefNA ns)).getD (i * 2 + 1) 0 = y ∧ pourOk ns x y = true ∧ (pourR ns x y).length = 24 ∧ vR (pourR ns x y) = true ∧ anyC (pourR ns x y) (usefNA (pourR ns x y)) = true := by
  intro i hi
  by_cases hv : vR ns = true
  · exact hur_live h24 hv i hi
  · exfalso
    have e : usefNA ns = 0 := by unfold usefNA; rw [if_neg hv]
    rw [e, (hur0 ns).1] at hi
    omega
theorem fb_first {r : List Int} {n : Int} (h : fbOk r n = true) : fbA r n = [(bpFA ptT 0 r n).getD 0 0, (bpFA ptT 0 r n).getD 1 0] ∧ 0 < bpNA ptT 0 r n := by
  constructor
  · unfold fbA; rw [if_pos h]; rfl
  · unfold fbOk fbN at h
    rw [Bool.and_eq_true_iff, decide_eq_true_eq] at h
    omega
theorem nuPutsT {w : World} {b : Nat} {v : Value} {n : Nat} {fs : List Int} (h : Nu w b v n fs) (c o : Nat) (vs : List Value) (hne : ∀ k, v.ownBlock = some k → k ≠ c) : Nu (w.setCells c o vs) b v n fs :=
  h.grownP (r := some c) (by
    have hb := below_setCells (B := 0) c (Nat.zero_le _) vs o w w (Below.refl _ _)
    exact ⟨hb.os, hb.tape, hb.output, Nat.le_of_eq (size_setCells c vs o w).symm, fun i hi hn => World.heap_setCells_other w c o vs hi (fun e => hn (by rw [e]))⟩) (fun k hk => by injection hk with hk; subst hk; exact .inr (fun e => hne _ e rfl))
theorem nuDrewT {w : World} {b : Nat} {v : Value} {n : Nat} {fs : List Int} (h : Nu w b v n fs) : Nu w.drew b v n fs := h
theorem nuMonoT {w : World} {b : Nat} {v : Value} {n : Nat} {fs : List Int} (h : Nu w b v n fs) : Nu w 0 v n fs := World.ownsRow.mono' h (Nat.zero_le _)
theorem keptDrewT {w w' : World} (h : Kept w w') : Kept w w'.drew := h.drewN 1

set_option maxHeartbeats 64000000 in
set_option maxRecDepth 200000 in
theorem tubeLaw (a : Option Addr) (len cap : Nat) (zs : List Int) (w : World) (w0 : IsRow .u8 w a len cap zs) :
    Calls Try.prog 3 #[.slice a len cap] w fun e w' => e = .returned (.bool true) ∧ Below w.heap.size w w' := by
  have hml : len ≤ maxLen := by
    rcases w0 with ⟨_, h, _⟩ | ⟨_, _, hlc, hm, _⟩
    · rw [h]; exact Nat.zero_le _
    · exact Nat.le_trans hlc hm
  by_cases hbig : (65536 : Int) < (len : Int)
  · go_enter Try.func3, Try.ntmps3
    go_wp2_with fail
    refine (rBig_any a len cap w hml).mono ?_
    rintro e w' ⟨rfl, rfl⟩
    rw [decide_eq_true hbig]
    go_wp2_with fail
    go_ret
    exact ⟨rfl, Below.refl _ _⟩
  have CO := Lib.hid (code_of w0 (by omega))
  have HBG := Lib.hid (rBig_any a len cap w hml)
  rw [decide_eq_false hbig] at HBG
  have HM2 : Hid (Try.prog.eqGuardType Try.prog.depth 36 = false) := Lib.hid (by kernel_rfl)
  have HMR : Hid (Try.prog.eqGuardType Try.prog.depth 27 = false) := Lib.hid (by kernel_rfl)
  have HB := Lib.hid (kept_refl w)
  clear hbig w0 hml
  go_enter Try.func3, Try.ntmps3
  go_wp2_with fail
  refine HBG.out.mono ?_
  rintro e w' ⟨rfl, rfl⟩
  clear HBG
  go_wp2_with fail
  refine (drawTube a len cap _ CO.out).mono ?_
  rintro e w1 ⟨ns, n, rfl, hl, hn1, hn4, b1⟩
  have H3 := Has.box w1 27 hl (by omega)
  replace HB := Lib.hid ((HB.out.call b1).alloc (.cells (ints ns).toArray 27))
  clear b1
  have KV := Lib.hid (fun W => implTubeValue ns n W hl)
  have SV := Lib.hid (fun W => specTubeValue ns n W hl)
  have KQ := Lib.hid (fun W => implBestParty ns n W hl)
  have SQ := Lib.hid (fun W => specBestParty ns n W hl)
  have KP := Lib.hid (fun W => implTubePours ns n W hl)
  have SP := Lib.hid (fun W => specTubePours ns n W hl)
  have KF := Lib.hid (fun W => implFirstBest ns n W hl)
  have SF := Lib.hid (fun W => specFirstBest ns n W hl)
  have KC := Lib.hid (fun W => implComplete ns W hl)
  have SC := Lib.hid (fun W => specComplete ns W hl)
  have KI := Lib.hid (fun W => isRack_any ns W hl)
  have KH := Lib.hid (fun W => implCanHurt ns W hl)
  have SH := Lib.hid (fun W => specCanHurt ns W hl)
  have KO := Lib.hid (fun i j W => implPour ns i j W hl)
  have KOT := Lib.hid (fun t (ht : t.length = 24) i j W => implPour t i j W ht)
  have KCT := Lib.hid (fun t (ht : t.length = 24) W => implComplete t W ht)
  have KUT := Lib.hid (fun t (ht : t.length = 24) W => implUseful t W ht)
  have pn3 := paNA_three ns n
  have KPP := Lib.hid (fun v W (q : Rw W 0 v (paNA ns n) (paFA ns n)) => implParty ns (paFA ns n) v (paNA ns n) 0 W hl (by omega) q)
  have hiR := Lib.hid (show (Try.prog.info? 27).map (·.size) = some (ints ns).length by rw [ints_len, hl]; kernel_rfl)
  have HI24 := Lib.hid (show (Try.prog.info? 27).map (·.size) = some 24 by kernel_rfl)
  have HI2 := Lib.hid (show (Try.prog.info? 36).map (·.size) = some (ints (fbA ns n)).length by rw [ints_len, fbA_len]; kernel_rfl)
  have VI := Lib.hid (gvT_in ns n)
  have B30 := bpNA_le ptT 0 ns n
  have H30 := hurN_le ns
  have GT := Lib.hid (fun (h : gmOk ns n = true) => gvT_le (n := n) hl h)
  have PP := Lib.hid (fun (h : gmOk ns n = true) => pa_played (n := n) hl h)
  have FF : Hid (fbOk ns n = (bpOk ns n && decide (bpNA ptT 0 ns n ≠ 0))) := Lib.hid rfl
  have FA := Lib.hid (fun (h : fbOk ns n = true) => fb_first h)
  have HL := Lib.hid (hur_any (ns := ns) hl)
  have hfa := fbA_len ns n
  have hcl : (cmFA ns).length ≤ 6 := by
    unfold cmFA
    split
    · exact cmpl_le _ 6
    · simp
  have hRP := ppRA_len hl (paFA ns n) (paNA ns n)
  have hPP := ppPA_len ns (paFA ns n) (paNA ns n)
  unfold PaPost at KQ SQ
  unfold BpPost at KP SP
  unfold CmPost at KC SC
  unfold HurPost at KH SH
  generalize gvA ptT 0 ns n = v at *
  generalize gmOk ns n = M at *
  generalize ppRA ns (paFA ns n) (paNA ns n) = rP at *
  generalize ppPA ns (paFA ns n) (paNA ns n) = pP at *
  generalize ppNA ns (paFA ns n) (paNA ns n) = nP at *
  generalize pathOkG ns (paNA ns n) = oP at *
  generalize paFA ns n = pf at *
  generalize paNA ns n = pn at *
  generalize fbA ns n = fa at *
  generalize fbOk ns n = F at *
  generalize bpOk ns n = O at *
  generalize bpNA ptT 0 ns n = bn at *
  generalize bpFA ptT 0 ns n = bf at *
  generalize cmFA ns = cf at *
  generalize cf.length = cl at *
  generalize hurN ns (usefNA ns) = hn at *
  generalize hurF ns (usefNA ns) = hf at *
  generalize hV : vR ns = V at *
  clear hV
  have dp : decide ((3 : Int) < ((pn : Nat) : Int)) = false := by simp; omega
  go_wp2_with (first | (refine store_new rfl 27 _ _ rfl _ _ _ rfl _ rfl _ rfl rfl ?_ ?_ ?_; (· (first | assumption | rfl)); (· kernel_rfl)) | (refine guard_op (isLoad 27) ?_ ?_; (· rfl); (refine load_has rfl 27 _ rfl _ rfl ?_ 24 ?_ _ Try.underlying27 rfl ?_ ?_; rotate_left; (· (repeat (first | (with_reducible assumption) | ((with_reducible refine Has.box _ _ ?_ ?_) <;> (first | assumption | decide)) | (with_reducible refine Has.alloc ?_ _) | ((with_reducible refine Has.putOther ?_ _ _ ?_); rotate_left; omega; skip) | ((with_reducible refine Has.below ?_ ?_); rotate_left; assumption)))); (· kernel_rfl))))
  obtain ⟨B1, hB1⟩ : ∃ B1, w1.heap.size = B1 := ⟨_, rfl⟩
  rw [hB1] at H3 ⊢
  generalize w1.alloc (.cells (ints ns).toArray 27) = W1' at *
  clear hB1
  refine (KV.out _).mono ?_
  rintro e w2 ⟨rfl, bb⟩
  replace H3 := H3.below bb
  replace HB := Lib.hid (HB.out.call bb)
  clear bb
  go_wp2_with (refine guard_op (isLoad 27) ?_ ?_; (· rfl); (refine load_has rfl 27 _ rfl _ rfl ?_ 24 ?_ _ Try.underlying27 rfl ?_ ?_; rotate_left; (· (repeat (first | (with_reducible assumption) | ((with_reducible refine Has.box _ _ ?_ ?_) <;> (first | assumption | decide)) | (with_reducible refine Has.alloc ?_ _) | ((with_reducible refine Has.putOther ?_ _ _ ?_); rotate_left; omega; skip) | ((with_reducible refine Has.below ?_ ?_); rotate_left; assumption)))); (· kernel_rfl)))
  refine (SV.out _).mono ?_
  rintro e w3 ⟨rfl, bb⟩
  replace H3 := H3.below bb
  replace HB := Lib.hid (HB.out.call bb)
  clear bb
  clear KV SV
  go_upto_region 6 with fail
  go_cut [96] from 81 to 96 (fun c wx => c = .bool false ∧ wx = w3)
  case first => as_aux_lemma =>
    cases M
    case' false =>
      go_wp2_with fail
      go_meet
      case rel => exact ⟨rfl, rfl⟩
    case' true =>
      have g0 := GT.out (by trivial)
      have g1 : decide (n < v) = false := by simp; omega
      clear g0
      go_wp2_with fail
      go_meet
      case rel => exact ⟨rfl, rfl⟩
  obtain ⟨rfl, hwc⟩ := hcut
  subst hwc
  clear GT
  go_wp2_with (refine guard_op (isLoad 27) ?_ ?_; (· rfl); (refine load_has rfl 27 _ rfl _ rfl ?_ 24 ?_ _ Try.underlying27 rfl ?_ ?_; rotate_left; (· (repeat (first | (with_reducible assumption) | ((with_reducible refine Has.box _ _ ?_ ?_) <;> (first | assumption | decide)) | (with_reducible refine Has.alloc ?_ _) | ((with_reducible refine Has.putOther ?_ _ _ ?_); rotate_left; omega; skip) | ((with_reducible refine Has.below ?_ ?_); rotate_left; assumption)))); (· kernel_rfl)))
  refine (KQ.out _).mono ?_
  rintro e w4 ⟨v9, rfl, q, bb⟩
  replace H3 := H3.below bb
  replace HB := Lib.hid (HB.out.call bb)
  clear bb
  have Q9 := Lib.hid q.rw
  clear q
  go_wp2_with (refine guard_op (isLoad 27) ?_ ?_; (· rfl); (refine load_has rfl 27 _ rfl _ rfl ?_ 24 ?_ _ Try.underlying27 rfl ?_ ?_; rotate_left; (· (repeat (first | (with_reducible assumption) | ((with_reducible refine Has.box _ _ ?_ ?_) <;> (first | assumption | decide)) | (with_reducible refine Has.alloc ?_ _) | ((with_reducible refine Has.putOther ?_ _ _ ?_); rotate_left; omega; skip) | ((with_reducible refine Has.below ?_ ?_); rotate_left; assumption)))); (· kernel_rfl)))
  refine (SQ.out _).mono ?_
  rintro e w5 ⟨v11, rfl, q, bb⟩
  replace H3 := H3.below bb
  replace HB := Lib.hid (HB.out.call bb)
  replace Q9 := Lib.hid (Q9.out.below bb)
  clear bb
  have Q11 := Lib.hid q.rw
  clear q
  obtain ⟨a9, c9, rfl⟩ := Q9.out.shape
  go_wp2_with fail
  refine (rPairs_rw _ v11 _ _ pn pf _ (by omega) Q9.out Q11.out).mono ?_
  rintro e w6 ⟨rfl, bb⟩
  replace H3 := H3.below bb
  replace HB := Lib.hid (HB.out.call bb)
  replace Q9 := Lib.hid (Q9.out.below bb)
  replace Q11 := Lib.hid (Q11.out.below bb)
  clear bb
  clear Q11
  clear KQ SQ
  replace Q9 := Lib.hid (Q9.out.mono (b' := 0) (Nat.zero_le _))
  go_wp2_with (refine guard_op (isLoad 27) ?_ ?_; (· rfl); (refine load_has rfl 27 _ rfl _ rfl ?_ 24 ?_ _ Try.underlying27 rfl ?_ ?_; rotate_left; (· (repeat (first | (with_reducible assumption) | ((with_reducible refine Has.box _ _ ?_ ?_) <;> (first | assumption | decide)) | (with_reducible refine Has.alloc ?_ _) | ((with_reducible refine Has.putOther ?_ _ _ ?_); rotate_left; omega; skip) | ((with_reducible refine Has.below ?_ ?_); rotate_left; assumption)))); (· kernel_rfl)))
  refine (KP.out _).mono ?_
  rintro e w7 ⟨v13, rfl, q, bb⟩
  replace H3 := H3.below bb
  replace HB := Lib.hid (HB.out.call bb)
  replace Q9 := Lib.hid (Q9.out.below bb)
  clear bb
  have Q13 := Lib.hid q.rw
  clear q
  go_wp2_with (refine guard_op (isLoad 27) ?_ ?_; (· rfl); (refine load_has rfl 27 _ rfl _ rfl ?_ 24 ?_ _ Try.underlying27 rfl ?_ ?_; rotate_left; (· (repeat (first | (with_reducible assumption) | ((with_reducible refine Has.box _ _ ?_ ?_) <;> (first | assumption | decide)) | (with_reducible refine Has.alloc ?_ _) | ((with_reducible refine Has.putOther ?_ _ _ ?_); rotate_left; omega; skip) | ((with_reducible refine Has.below ?_ ?_); rotate_left; assumption)))); (· kernel_rfl)))
  refine (SP.out _).mono ?_
  rintro e w8 ⟨v15, rfl, q, bb⟩
  replace H3 := H3.below bb
  replace HB := Lib.hid (HB.out.call bb)
  replace Q9 := Lib.hid (Q9.out.below bb)
  replace Q13 := Lib.hid (Q13.out.below bb)
  clear bb
  have Q15 := Lib.hid q.rw
  clear q
  obtain ⟨a13, c13, rfl⟩ := Q13.out.shape
  go_wp2_with fail
  refine (rPairs_rw _ v15 _ _ bn bf _ (by omega) Q13.out Q15.out).mono ?_
  rintro e w9 ⟨rfl, bb⟩
  replace H3 := H3.below bb
  replace HB := Lib.hid (HB.out.call bb)
  replace Q9 := Lib.hid (Q9.out.below bb)
  replace Q13 := Lib.hid (Q13.out.below bb)
  replace Q15 := Lib.hid (Q15.out.below bb)
  clear bb
  clear Q15
  clear KP SP
  replace Q13 := Lib.hid (Q13.out.mono (b' := 0) (Nat.zero_le _))
  go_wp2_with (refine guard_op (isLoad 27) ?_ ?_; (· rfl); (refine load_has rfl 27 _ rfl _ rfl ?_ 24 ?_ _ Try.underlying27 rfl ?_ ?_; rotate_left; (· (repeat (first | (with_reducible assumption) | ((with_reducible refine Has.box _ _ ?_ ?_) <;> (first | assumption | decide)) | (with_reducible refine Has.alloc ?_ _) | ((with_reducible refine Has.putOther ?_ _ _ ?_); rotate_left; omega; skip) | ((with_reducible refine Has.below ?_ ?_); rotate_left; assumption)))); (· kernel_rfl)))
  refine (KF.out _).mono ?_
  rintro e w10 ⟨rfl, bb⟩
  replace H3 := H3.below bb
  replace HB := Lib.hid (HB.out.call bb)
  replace Q9 := Lib.hid (Q9.out.below bb)
  replace Q13 := Lib.hid (Q13.out.below bb)
  clear bb
  rw [row_ints]
  replace H3 := H3.alloc (.cells (ints fa).toArray 36)
  replace HB := Lib.hid (HB.out.alloc (.cells (ints fa).toArray 36))
  replace Q9 := Lib.hid (Q9.out.alloc (.cells (ints fa).toArray 36))
  replace Q13 := Lib.hid (Q13.out.alloc (.cells (ints fa).toArray 36))
  have H17 := Has.box w10 36 hfa (by omega)
  go_wp2_with (first | (refine store_new rfl 36 _ _ rfl _ _ _ rfl _ rfl _ rfl rfl ?_ ?_ ?_; (· (first | assumption | rfl)); (· kernel_rfl)) | (refine guard_op (isLoad 27) ?_ ?_; (· rfl); (refine load_has rfl 27 _ rfl _ rfl ?_ 24 ?_ _ Try.underlying27 rfl ?_ ?_; rotate_left; (· (repeat (first | (with_reducible assumption) | ((with_reducible refine Has.box _ _ ?_ ?_) <;> (first | assumption | decide)) | (with_reducible refine Has.alloc ?_ _) | ((with_reducible refine Has.putOther ?_ _ _ ?_); rotate_left; omega; skip) | ((with_reducible refine Has.below ?_ ?_); rotate_left; assumption)))); (· kernel_rfl))))
  obtain ⟨B17, hB⟩ : ∃ B17, w10.heap.size = B17 := ⟨_, rfl⟩
  rw [hB] at H17 ⊢
  generalize w10.alloc (.cells (ints fa).toArray 36) = W17 at *
  clear hB
  refine (SF.out _).mono ?_
  rintro e w11 ⟨rfl, bb⟩
  replace H3 := H3.below bb
  replace HB := Lib.hid (HB.out.call bb)
  replace Q9 := Lib.hid (Q9.out.below bb)
  replace Q13 := Lib.hid (Q13.out.below bb)
  replace H17 := H17.below bb
  clear bb
  rw [row_ints]
  replace H3 := H3.alloc (.cells (ints fa).toArray 36)
  replace HB := Lib.hid (HB.out.alloc (.cells (ints fa).toArray 36))
  replace Q9 := Lib.hid (Q9.out.alloc (.cells (ints fa).toArray 36))
  replace Q13 := Lib.hid (Q13.out.alloc (.cells (ints fa).toArray 36))
  replace H17 := H17.alloc (.cells (ints fa).toArray 36)
  have H19 := Has.box w11 36 hfa (by omega)
  clear KF SF
  go_upto_region 18 with (refine store_new rfl 36 _ _ rfl _ _ _ rfl _ rfl _ rfl rfl ?_ ?_ ?_; (· (first | assumption | rfl)); (· kernel_rfl))
  obtain ⟨B19, hB⟩ : ∃ B19, w11.heap.size = B19 := ⟨_, rfl⟩
  rw [hB] at H19 ⊢
  generalize w11.alloc (.cells (ints fa).toArray 36) = W19 at *
  clear hB
  go_cut [178] from 161 to 178 (fun c wx => c = .bool false ∧ wx = W19)
  case first => as_aux_lemma =>
    have ff := FF.out
    cases O
    case' false =>
      rw [Bool.false_and] at ff
      subst ff
      clear FF FA PP HL
      go_wp2_with (first | (refine guard_op (isLoad 36) ?_ ?_; (· rfl); (refine load_has rfl 36 _ rfl _ rfl ?_ 2 ?_ _ Try.underlying36 rfl ?_ ?_; rotate_left; (· (repeat (first | (with_reducible assumption) | ((with_reducible refine Has.box _ _ ?_ ?_) <;> (first | assumption | decide)) | (with_reducible refine Has.alloc ?_ _) | ((with_reducible refine Has.putOther ?_ _ _ ?_); rotate_left; omega; skip) | ((with_reducible refine Has.below ?_ ?_); rotate_left; assumption)))); (· kernel_rfl))) | (refine guard_at (isNeq 36) ?_ ?_; (· rfl); refine neq_same rfl 36 _ _ _ rfl fa ?_ ?_ HM2.out (eqPair fa fa hfa hfa) ?_; (· kernel_rfl); (· kernel_rfl)))
      go_meet
      case rel => exact ⟨rfl, rfl⟩
    case' true =>
      rw [Bool.true_and] at ff
      by_cases hb : bn = 0
      case' pos =>
        rw [hb, decide_eq_false (by simp)] at ff
        subst ff
        have q : decide ((0 : Int) < (bn : Int)) = false := by simp; omega
        have qn : decide (0 < bn) = false := by simp; omega
        clear FF FA PP HL hb
        go_wp2_with (first | (refine guard_op (isLoad 36) ?_ ?_; (· rfl); (refine load_has rfl 36 _ rfl _ rfl ?_ 2 ?_ _ Try.underlying36 rfl ?_ ?_; rotate_left; (· (repeat (first | (with_reducible assumption) | ((with_reducible refine Has.box _ _ ?_ ?_) <;> (first | assumption | decide)) | (with_reducible refine Has.alloc ?_ _) | ((with_reducible refine Has.putOther ?_ _ _ ?_); rotate_left; omega; skip) | ((with_reducible refine Has.below ?_ ?_); rotate_left; assumption)))); (· kernel_rfl))) | (refine guard_at (isNeq 36) ?_ ?_; (· rfl); refine neq_same rfl 36 _ _ _ rfl fa ?_ ?_ HM2.out (eqPair fa fa hfa hfa) ?_; (· kernel_rfl); (· kernel_rfl)))
        go_meet
        case rel => exact ⟨rfl, rfl⟩
      case' neg =>
        rw [decide_eq_true hb] at ff
        subst ff
        have q : decide ((0 : Int) < (bn : Int)) = true := by simp; omega
        have qn : decide (0 < bn) = true := by simp; omega
        clear FF FA PP HL hb
        go_wp2_with (first | (refine guard_op (isLoad 36) ?_ ?_; (· rfl); (refine load_has rfl 36 _ rfl _ rfl ?_ 2 ?_ _ Try.underlying36 rfl ?_ ?_; rotate_left; (· (repeat (first | (with_reducible assumption) | ((with_reducible refine Has.box _ _ ?_ ?_) <;> (first | assumption | decide)) | (with_reducible refine Has.alloc ?_ _) | ((with_reducible refine Has.putOther ?_ _ _ ?_); rotate_left; omega; skip) | ((with_reducible refine Has.below ?_ ?_); rotate_left; assumption)))); (· kernel_rfl))) | (refine guard_at (isNeq 36) ?_ ?_; (· rfl); refine neq_same rfl 36 _ _ _ rfl fa ?_ ?_ HM2.out (eqPair fa fa hfa hfa) ?_; (· kernel_rfl); (· kernel_rfl)))
        go_meet
        case rel => exact ⟨rfl, rfl⟩
  obtain ⟨rfl, hwc⟩ := hcut
  subst hwc
  clear FF
  clear H19
  go_wp2_with fail
  refine (drawParty a len cap _ (CO.out.below HB.out)).mono ?_
  rintro e w12 ⟨ms, v22, nn, fs, rfl, hm, hnn, q22, bb⟩
  replace H3 := H3.below bb
  replace HB := Lib.hid (HB.out.call bb)
  replace Q9 := Lib.hid (Q9.out.below bb)
  replace Q13 := Lib.hid (Q13.out.below bb)
  replace H17 := H17.below bb
  clear bb
  have Q22 := Lib.hid (q22.mono (b' := 0) (Nat.zero_le _))
  clear q22 CO
  replace H3 := H3.alloc (.cells (ints ms).toArray 27)
  replace HB := Lib.hid (HB.out.alloc (.cells (ints ms).toArray 27))
  replace Q9 := Lib.hid (Q9.out.alloc (.cells (ints ms).toArray 27))
  replace Q13 := Lib.hid (Q13.out.alloc (.cells (ints ms).toArray 27))
  replace H17 := H17.alloc (.cells (ints ms).toArray 27)
  replace Q22 := Lib.hid (Q22.out.alloc (.cells (ints ms).toArray 27))
  have H21 := Has.box w12 27 hm (by omega)
  have KM := Lib.hid (fun v W (q : Rw W 0 v nn fs) => implParty ms fs v nn 0 W hm (by omega) q)
  have SM := Lib.hid (fun v W (q : Rw W 0 v nn fs) => specParty ms fs v nn 0 W hm (by omega) q)
  have hRA := ppRA_len hm fs nn
  have hPA := ppPA_len ms fs nn
  have PL := Lib.hid (fun (h : pathOkG ms nn = true) => pp_played (fs := fs) hm h)
  obtain ⟨RA, eRA⟩ : ∃ RA, ppRA ms fs nn = RA := ⟨_, rfl⟩
  obtain ⟨PA, ePA⟩ : ∃ PA, ppPA ms fs nn = PA := ⟨_, rfl⟩
  obtain ⟨NA, eNA⟩ : ∃ NA, ppNA ms fs nn = NA := ⟨_, rfl⟩
  obtain ⟨PO, ePO⟩ : ∃ PO, pathOkG ms nn = PO := ⟨_, rfl⟩
  rw [eRA, ePA, eNA, ePO] at KM SM
  rw [eRA, ePA, ePO] at PL
  rw [eRA] at hRA
  rw [ePA] at hPA
  clear eRA ePA eNA ePO
  go_wp2_with (first | (refine store_new rfl 27 _ _ rfl _ _ _ rfl _ rfl _ rfl rfl ?_ ?_ ?_; (· (first | assumption | rfl)); (· kernel_rfl)) | (refine guard_op (isLoad 27) ?_ ?_; (· rfl); (refine load_has rfl 27 _ rfl _ rfl ?_ 24 ?_ _ Try.underlying27 rfl ?_ ?_; rotate_left; (· (repeat (first | (with_reducible assumption) | ((with_reducible refine Has.box _ _ ?_ ?_) <;> (first | assumption | decide)) | (with_reducible refine Has.alloc ?_ _) | ((with_reducible refine Has.putOther ?_ _ _ ?_); rotate_left; omega; skip) | ((with_reducible refine Has.below ?_ ?_); rotate_left; assumption)))); (· kernel_rfl))))
  obtain ⟨B21, hB⟩ : ∃ B21, w12.heap.size = B21 := ⟨_, rfl⟩
  rw [hB] at H21 ⊢
  generalize w12.alloc (.cells (ints ms).toArray 27) = W21 at *
  clear hB
  refine (KM.out v22 _ Q22.out).mono ?_
  rintro e w13 ⟨rfl, bb⟩
  replace H3 := H3.below bb
  replace HB := Lib.hid (HB.out.call bb)
  replace Q9 := Lib.hid (Q9.out.below bb)
  replace Q13 := Lib.hid (Q13.out.below bb)
  replace H17 := H17.below bb
  replace Q22 := Lib.hid (Q22.out.below bb)
  replace H21 := H21.below bb
  clear bb
  rw [row_ints, row_ints]
  have Zw13 := (Has.zero24 w13 27).alloc (.cells #[.int .i64 0, .int .i64 0] 36)
  have Yw13 : Has ((w13.alloc (.cells #[.int .i64 0, .int .i64 0, .int .i64 0, .int .i64 0, .int .i64 0, .int .i64 0, .int .i64 0, .int .i64 0, .int .i64 0, .int .i64 0, .int .i64 0, .int .i64 0, .int .i64 0, .int .i64 0, .int .i64 0, .int .i64 0, .int .i64 0, .int .i64 0, .int .i64 0, .int .i64 0, .int .i64 0, .int .i64 0, .int .i64 0, .int .i64 0] 27)).alloc (.cells #[.int .i64 0, .int .i64 0] 36)) (w13.heap.size + 1) [0, 0] 2 := (Has.box (ns := [0, 0]) (n := 2) (w13.alloc (.cells #[.int .i64 0, .int .i64 0, .int .i64 0, .int .i64 0, .int .i64 0, .int .i64 0, .int .i64 0, .int .i64 0, .int .i64 0, .int .i64 0, .int .i64 0, .int .i64 0, .int .i64 0, .int .i64 0, .int .i64 0, .int .i64 0, .int .i64 0, .int .i64 0, .int .i64 0, .int .i64 0, .int .i64 0, .int .i64 0, .int .i64 0, .int .i64 0] 27)) 36 rfl (by omega)).at (c := w13.heap.size + 1) (by simp)
  have KN := ((((kept_refl w13).alloc (.cells #[.int .i64 0, .int .i64 0, .int .i64 0, .int .i64 0, .int .i64 0, .int .i64 0, .int .i64 0, .int .i64 0, .int .i64 0, .int .i64 0, .int .i64 0, .int .i64 0, .int .i64 0, .int .i64 0, .int .i64 0, .int .i64 0, .int .i64 0, .int .i64 0, .int .i64 0, .int .i64 0, .int .i64 0, .int .i64 0, .int .i64 0, .int .i64 0] 27)).alloc (.cells #[.int .i64 0, .int .i64 0] 36)).puts (b := w13.heap.size) (Nat.le_refl _) 0 (ints RA)).puts (b := w13.heap.size + 1) (by omega) 0 (ints PA)
  have H23 := (Zw13.putAll RA hRA).putOther (b' := w13.heap.size + 1) 0 (ints PA) (by omega)
  have H24 := (Yw13.putOther (b' := w13.heap.size) 0 (ints RA) (by omega)).putAll PA hPA
  replace H3 := H3.below KN
  replace HB := Lib.hid (HB.out.call KN)
  replace Q9 := Lib.hid (Q9.out.below KN)
  replace Q13 := Lib.hid (Q13.out.below KN)
  replace H17 := H17.below KN
  replace Q22 := Lib.hid (Q22.out.below KN)
  replace H21 := H21.below KN
  clear KN
  go_wp2_with (first | (refine store_at rfl 27 _ _ rfl _ _ rfl rfl ?_ 24 ?_ ?_ ?_ ?_; rotate_left; (· (repeat (first | (with_reducible assumption) | ((with_reducible refine Has.box _ _ ?_ ?_) <;> (first | assumption | decide)) | (with_reducible refine Has.alloc ?_ _) | ((with_reducible refine Has.putOther ?_ _ _ ?_); rotate_left; omega; skip) | ((with_reducible refine Has.below ?_ ?_); rotate_left; assumption)))); (· (first | assumption | rfl)); (· kernel_rfl)) | (refine store_at rfl 36 _ _ rfl _ _ rfl rfl ?_ 2 ?_ ?_ ?_ ?_; rotate_left; (· (repeat (first | (with_reducible assumption) | ((with_reducible refine Has.box _ _ ?_ ?_) <;> (first | assumption | decide)) | (with_reducible refine Has.alloc ?_ _) | ((with_reducible refine Has.putOther ?_ _ _ ?_); rotate_left; omega; skip) | ((with_reducible refine Has.below ?_ ?_); rotate_left; assumption)))); (· (first | assumption | rfl)); (· kernel_rfl)) | (refine guard_op (isLoad 27) ?_ ?_; (· rfl); (refine load_has rfl 27 _ rfl _ rfl ?_ 24 ?_ _ Try.underlying27 rfl ?_ ?_; rotate_left; (· (repeat (first | (with_reducible assumption) | ((with_reducible refine Has.box _ _ ?_ ?_) <;> (first | assumption | decide)) | (with_reducible refine Has.alloc ?_ _) | ((with_reducible refine Has.putOther ?_ _ _ ?_); rotate_left; omega; skip) | ((with_reducible refine Has.below ?_ ?_); rotate_left; assumption)))); (· kernel_rfl))))
  generalize World.setCells _ (w13.heap.size + 1) 0 (ints PA) = W23 at *
  obtain ⟨cW23, hc⟩ : ∃ c, w13.heap.size = c := ⟨_, rfl⟩
  rw [hc] at H23 H24 ⊢
  clear Zw13 Yw13 hc
  refine (SM.out v22 _ Q22.out).mono ?_
  rintro e w14 ⟨rfl, bb⟩
  replace H3 := H3.below bb
  replace HB := Lib.hid (HB.out.call bb)
  replace Q9 := Lib.hid (Q9.out.below bb)
  replace Q13 := Lib.hid (Q13.out.below bb)
  replace H17 := H17.below bb
  replace Q22 := Lib.hid (Q22.out.below bb)
  replace H21 := H21.below bb
  replace H23 := H23.below bb
  replace H24 := H24.below bb
  clear bb
  clear Q22
  clear KM SM
  rw [row_ints, row_ints]
  have Zw14 := (Has.zero24 w14 27).alloc (.cells #[.int .i64 0, .int .i64 0] 36)
  have Yw14 : Has ((w14.alloc (.cells #[.int .i64 0, .int .i64 0, .int .i64 0, .int .i64 0, .int .i64 0, .int .i64 0, .int .i64 0, .int .i64 0, .int .i64 0, .int .i64 0, .int .i64 0, .int .i64 0, .int .i64 0, .int .i64 0, .int .i64 0, .int .i64 0, .int .i64 0, .int .i64 0, .int .i64 0, .int .i64 0, .int .i64 0, .int .i64 0, .int .i64 0, .int .i64 0] 27)).alloc (.cells #[.int .i64 0, .int .i64 0] 36)) (w14.heap.size + 1) [0, 0] 2 := (Has.box (ns := [0, 0]) (n := 2) (w14.alloc (.cells #[.int .i64 0, .int .i64 0, .int .i64 0, .int .i64 0, .int .i64 0, .int .i64 0, .int .i64 0, .int .i64 0, .int .i64 0, .int .i64 0, .int .i64 0, .int .i64 0, .int .i64 0, .int .i64 0, .int .i64 0, .int .i64 0, .int .i64 0, .int .i64 0, .int .i64 0, .int .i64 0, .int .i64 0, .int .i64 0, .int .i64 0, .int .i64 0] 27)) 36 rfl (by omega)).at (c := w14.heap.size + 1) (by simp)
  have KN := ((((kept_refl w14).alloc (.cells #[.int .i64 0, .int .i64 0, .int .i64 0, .int .i64 0, .int .i64 0, .int .i64 0, .int .i64 0, .int .i64 0, .int .i64 0, .int .i64 0, .int .i64 0, .int .i64 0, .int .i64 0, .int .i64 0, .int .i64 0, .int .i64 0, .int .i64 0, .int .i64 0, .int .i64 0, .int .i64 0, .int .i64 0, .int .i64 0, .int .i64 0, .int .i64 0] 27)).alloc (.cells #[.int .i64 0, .int .i64 0] 36)).puts (b := w14.heap.size) (Nat.le_refl _) 0 (ints RA)).puts (b := w14.heap.size + 1) (by omega) 0 (ints PA)
  have H27 := (Zw14.putAll RA hRA).putOther (b' := w14.heap.size + 1) 0 (ints PA) (by omega)
  have H28 := (Yw14.putOther (b' := w14.heap.size) 0 (ints RA) (by omega)).putAll PA hPA
  replace H3 := H3.below KN
  replace HB := Lib.hid (HB.out.call KN)
  replace Q9 := Lib.hid (Q9.out.below KN)
  replace Q13 := Lib.hid (Q13.out.below KN)
  replace H17 := H17.below KN
  replace H21 := H21.below KN
  replace H23 := H23.below KN
  replace H24 := H24.below KN
  clear KN
  go_upto_region 23 with (first | (refine store_at rfl 27 _ _ rfl _ _ rfl rfl ?_ 24 ?_ ?_ ?_ ?_; rotate_left; (· (repeat (first | (with_reducible assumption) | ((with_reducible refine Has.box _ _ ?_ ?_) <;> (first | assumption | decide)) | (with_reducible refine Has.alloc ?_ _) | ((with_reducible refine Has.putOther ?_ _ _ ?_); rotate_left; omega; skip) | ((with_reducible refine Has.below ?_ ?_); rotate_left; assumption)))); (· (first | assumption | rfl)); (· kernel_rfl)) | (refine store_at rfl 36 _ _ rfl _ _ rfl rfl ?_ 2 ?_ ?_ ?_ ?_; rotate_left; (· (repeat (first | (with_reducible assumption) | ((with_reducible refine Has.box _ _ ?_ ?_) <;> (first | assumption | decide)) | (with_reducible refine Has.alloc ?_ _) | ((with_reducible refine Has.putOther ?_ _ _ ?_); rotate_left; omega; skip) | ((with_reducible refine Has.below ?_ ?_); rotate_left; assumption)))); (· (first | assumption | rfl)); (· kernel_rfl)) | (refine guard_op (isLoad 27) ?_ ?_; (· rfl); (refine load_has rfl 27 _ rfl _ rfl ?_ 24 ?_ _ Try.underlying27 rfl ?_ ?_; rotate_left; (· (repeat (first | (with_reducible assumption) | ((with_reducible refine Has.box _ _ ?_ ?_) <;> (first | assumption | decide)) | (with_reducible refine Has.alloc ?_ _) | ((with_reducible refine Has.putOther ?_ _ _ ?_); rotate_left; omega; skip) | ((with_reducible refine Has.below ?_ ?_); rotate_left; assumption)))); (· kernel_rfl))))
  generalize World.setCells _ (w14.heap.size + 1) 0 (ints PA) = W27 at *
  obtain ⟨cW27, hc⟩ : ∃ c, w14.heap.size = c := ⟨_, rfl⟩
  rw [hc] at H27 H28 ⊢
  clear Zw14 Yw14 hc
  go_cut [217] from 200 to 217 (fun c wx => c = .bool false ∧ wx = W27)
  case first => as_aux_lemma =>
    clear H3 H17 Q9 Q13 H21 FA PP HL PL
    go_wp2_with (first | (refine guard_op (isLoad 27) ?_ ?_; (· rfl); (refine load_has rfl 27 _ rfl _ rfl ?_ 24 ?_ _ Try.underlying27 rfl ?_ ?_; rotate_left; (· (repeat (first | (with_reducible assumption) | ((with_reducible refine Has.box _ _ ?_ ?_) <;> (first | assumption | decide)) | (with_reducible refine Has.alloc ?_ _) | ((with_reducible refine Has.putOther ?_ _ _ ?_); rotate_left; omega; skip) | ((with_reducible refine Has.below ?_ ?_); rotate_left; assumption)))); (· kernel_rfl))) | (refine guard_op (isLoad 36) ?_ ?_; (· rfl); (refine load_has rfl 36 _ rfl _ rfl ?_ 2 ?_ _ Try.underlying36 rfl ?_ ?_; rotate_left; (· (repeat (first | (with_reducible assumption) | ((with_reducible refine Has.box _ _ ?_ ?_) <;> (first | assumption | decide)) | (with_reducible refine Has.alloc ?_ _) | ((with_reducible refine Has.putOther ?_ _ _ ?_); rotate_left; omega; skip) | ((with_reducible refine Has.below ?_ ?_); rotate_left; assumption)))); (· kernel_rfl))) | (refine guard_at (isNeq 27) ?_ ?_; (· rfl); refine neq_same rfl 27 _ _ _ rfl RA ?_ ?_ HMR.out (eqRackT RA RA hRA hRA) ?_; (· kernel_rfl); (· kernel_rfl)) | (refine guard_at (isNeq 36) ?_ ?_; (· rfl); refine neq_same rfl 36 _ _ _ rfl PA ?_ ?_ HM2.out (eqPair PA PA hPA hPA) ?_; (· kernel_rfl); (· kernel_rfl)))
    go_meet
    case rel => exact ⟨rfl, rfl⟩
  obtain ⟨rfl, hwc⟩ := hcut
  subst hwc
  clear H27 H28
  go_wp2_with (refine guard_op (isLoad 27) ?_ ?_; (· rfl); (refine load_has rfl 27 _ rfl _ rfl ?_ 24 ?_ _ Try.underlying27 rfl ?_ ?_; rotate_left; (· (repeat (first | (with_reducible assumption) | ((with_reducible refine Has.box _ _ ?_ ?_) <;> (first | assumption | decide)) | (with_reducible refine Has.alloc ?_ _) | ((with_reducible refine Has.putOther ?_ _ _ ?_); rotate_left; omega; skip) | ((with_reducible refine Has.below ?_ ?_); rotate_left; assumption)))); (· kernel_rfl)))
  refine (KC.out _).mono ?_
  rintro e w15 ⟨v31, rfl, q, bb⟩
  replace H3 := H3.below bb
  replace HB := Lib.hid (HB.out.call bb)
  replace Q9 := Lib.hid (Q9.out.below bb)
  replace Q13 := Lib.hid (Q13.out.below bb)
  replace H17 := H17.below bb
  replace H21 := H21.below bb
  replace H23 := H23.below bb
  replace H24 := H24.below bb
  clear bb
  have Q31 := Lib.hid q
  clear q
  go_wp2_with (refine guard_op (isLoad 27) ?_ ?_; (· rfl); (refine load_has rfl 27 _ rfl _ rfl ?_ 24 ?_ _ Try.underlying27 rfl ?_ ?_; rotate_left; (· (repeat (first | (with_reducible assumption) | ((with_reducible refine Has.box _ _ ?_ ?_) <;> (first | assumption | decide)) | (with_reducible refine Has.alloc ?_ _) | ((with_reducible refine Has.putOther ?_ _ _ ?_); rotate_left; omega; skip) | ((with_reducible refine Has.below ?_ ?_); rotate_left; assumption)))); (· kernel_rfl)))
  refine (SC.out _).mono ?_
  rintro e w16 ⟨v33, rfl, q, bb⟩
  replace H3 := H3.below bb
  replace HB := Lib.hid (HB.out.call bb)
  replace Q9 := Lib.hid (Q9.out.below bb)
  replace Q13 := Lib.hid (Q13.out.below bb)
  replace H17 := H17.below bb
  replace H21 := H21.below bb
  replace H23 := H23.below bb
  replace H24 := H24.below bb
  replace Q31 := Lib.hid (Q31.out.below bb)
  clear bb
  have Q33 := Lib.hid q
  clear q
  go_wp2_with (refine guard_op (isLoad 27) ?_ ?_; (· rfl); (refine load_has rfl 27 _ rfl _ rfl ?_ 24 ?_ _ Try.underlying27 rfl ?_ ?_; rotate_left; (· (repeat (first | (with_reducible assumption) | ((with_reducible refine Has.box _ _ ?_ ?_) <;> (first | assumption | decide)) | (with_reducible refine Has.alloc ?_ _) | ((with_reducible refine Has.putOther ?_ _ _ ?_); rotate_left; omega; skip) | ((with_reducible refine Has.below ?_ ?_); rotate_left; assumption)))); (· kernel_rfl)))
  refine (KI.out _).mono ?_
  rintro e w17 ⟨rfl, bb⟩
  replace H3 := H3.below bb
  replace HB := Lib.hid (HB.out.call bb)
  replace Q9 := Lib.hid (Q9.out.below bb)
  replace Q13 := Lib.hid (Q13.out.below bb)
  replace H17 := H17.below bb
  replace H21 := H21.below bb
  replace H23 := H23.below bb
  replace H24 := H24.below bb
  replace Q31 := Lib.hid (Q31.out.below bb)
  replace Q33 := Lib.hid (Q33.out.below bb)
  clear bb
  go_wp2_with fail
  refine (rInts_same v31 v33 _ _ cl cf _ (by omega) Q31.out Q33.out).mono ?_
  rintro e w18 ⟨rfl, bb⟩
  replace H3 := H3.below bb
  replace HB := Lib.hid (HB.out.call bb)
  replace Q9 := Lib.hid (Q9.out.below bb)
  replace Q13 := Lib.hid (Q13.out.below bb)
  replace H17 := H17.below bb
  replace H21 := H21.below bb
  replace H23 := H23.below bb
  replace H24 := H24.below bb
  replace Q31 := Lib.hid (Q31.out.below bb)
  replace Q33 := Lib.hid (Q33.out.below bb)
  clear bb
  clear Q31 Q33
  clear KC SC KI
  go_wp2_with (refine guard_op (isLoad 27) ?_ ?_; (· rfl); (refine load_has rfl 27 _ rfl _ rfl ?_ 24 ?_ _ Try.underlying27 rfl ?_ ?_; rotate_left; (· (repeat (first | (with_reducible assumption) | ((with_reducible refine Has.box _ _ ?_ ?_) <;> (first | assumption | decide)) | (with_reducible refine Has.alloc ?_ _) | ((with_reducible refine Has.putOther ?_ _ _ ?_); rotate_left; omega; skip) | ((with_reducible refine Has.below ?_ ?_); rotate_left; assumption)))); (· kernel_rfl)))
  refine (KH.out _).mono ?_
  rintro e w19 ⟨v35, rfl, q, bb⟩
  replace H3 := H3.below bb
  replace HB := Lib.hid (HB.out.call bb)
  replace Q9 := Lib.hid (Q9.out.below bb)
  replace Q13 := Lib.hid (Q13.out.below bb)
  replace H17 := H17.below bb
  replace H21 := H21.below bb
  replace H23 := H23.below bb
  replace H24 := H24.below bb
  clear bb
  have Q35 := Lib.hid q.rw
  clear q
  go_wp2_with (refine guard_op (isLoad 27) ?_ ?_; (· rfl); (refine load_has rfl 27 _ rfl _ rfl ?_ 24 ?_ _ Try.underlying27 rfl ?_ ?_; rotate_left; (· (repeat (first | (with_reducible assumption) | ((with_reducible refine Has.box _ _ ?_ ?_) <;> (first | assumption | decide)) | (with_reducible refine Has.alloc ?_ _) | ((with_reducible refine Has.putOther ?_ _ _ ?_); rotate_left; omega; skip) | ((with_reducible refine Has.below ?_ ?_); rotate_left; assumption)))); (· kernel_rfl)))
  refine (SH.out _).mono ?_
  rintro e w20 ⟨v37, rfl, q, bb⟩
  replace H3 := H3.below bb
  replace HB := Lib.hid (HB.out.call bb)
  replace Q9 := Lib.hid (Q9.out.below bb)
  replace Q13 := Lib.hid (Q13.out.below bb)
  replace H17 := H17.below bb
  replace H21 := H21.below bb
  replace H23 := H23.below bb
  replace H24 := H24.below bb
  replace Q35 := Lib.hid (Q35.out.below bb)
  clear bb
  have Q37 := Lib.hid q.rw
  clear q
  obtain ⟨a35, c35, rfl⟩ := Q35.out.shape
  go_wp2_with fail
  refine (rPairs_rw _ v37 _ _ hn hf _ (by omega) Q35.out Q37.out).mono ?_
  rintro e w21 ⟨rfl, bb⟩
  replace H3 := H3.below bb
  replace HB := Lib.hid (HB.out.call bb)
  replace Q9 := Lib.hid (Q9.out.below bb)
  replace Q13 := Lib.hid (Q13.out.below bb)
  replace H17 := H17.below bb
  replace H21 := H21.below bb
  replace H23 := H23.below bb
  replace H24 := H24.below bb
  replace Q35 := Lib.hid (Q35.out.below bb)
  replace Q37 := Lib.hid (Q37.out.below bb)
  clear bb
  clear Q37
  clear KH SH
  replace Q35 := Lib.hid (Q35.out.mono (b' := 0) (Nat.zero_le _))
  go_upto_if 267 with fail
  go_cut [39, 40, 41, 42] from 268 to 296 (fun s39 s40 s41 s42 wx => Has wx B1 ns 24 ∧ Has wx B17 fa 2 ∧ Hid (Rw wx 0 (.slice a9 pn c9) pn pf) ∧ Hid (Rw wx 0 (.slice a13 bn c13) bn bf) ∧ Hid (Rw wx 0 (.slice a35 hn c35) hn hf) ∧ Hid (Kept w wx))
  case first => as_aux_lemma =>
    cases PO
    case' false =>
      clear PL
      go_wp2_with fail
      go_meet
      case rel => exact ⟨H3, H17, Q9, Q13, Q35, HB⟩
    case' true =>
      obtain ⟨m1, m2, m3, m4, m5⟩ := PL.out (by trivial)
      have KM1 := Lib.hid (fun W => KCT.out ms hm W)
      have KM2 := Lib.hid (fun W => KCT.out RA hRA W)
      unfold CmPost at KM1 KM2
      rw [m1] at KM1
      rw [m2] at KM2
      generalize cmFA ms = gm at *
      generalize cmFA RA = gr at *
      have g0 := H24.cell 0 (by omega)
      have g1 := H24.cell 1 (by omega)
      obtain ⟨p0, hp0⟩ : ∃ p0, PA.getD 0 0 = p0 := ⟨_, rfl⟩
      obtain ⟨p1, hp1⟩ : ∃ p1, PA.getD 1 0 = p1 := ⟨_, rfl⟩
      rw [hp0, hp1] at m5
      obtain ⟨lm, hlm⟩ : ∃ lm, gm.length = lm := ⟨_, rfl⟩
      obtain ⟨lr, hlr⟩ : ∃ lr, gr.length = lr := ⟨_, rfl⟩
      rw [hlm] at m4 m5 KM1
      rw [hlr] at m3 m5 KM2
      have W1 : IntKind.i64.wrap ((lr : Int) - (lm : Int)) = p0 + p1 := by rw [IntWalk.i64_in _ (by omega)]; omega
      have W2 : IntKind.i64.wrap (p0 + p1) = p0 + p1 := IntWalk.i64_in _ (by omega)
      have HP0 := Lib.hid hp0
      have HP1 := Lib.hid hp1
      clear PL m1 m2 m3 m4 m5 hlm hlr g0 g1 hp0 hp1
      go_wp2_with (refine guard_op (isLoad 27) ?_ ?_; (· rfl); (refine load_has rfl 27 _ rfl _ rfl ?_ 24 ?_ _ Try.underlying27 rfl ?_ ?_; rotate_left; (· (repeat (first | (with_reducible assumption) | ((with_reducible refine Has.box _ _ ?_ ?_) <;> (first | assumption | decide)) | (with_reducible refine Has.alloc ?_ _) | ((with_reducible refine Has.putOther ?_ _ _ ?_); rotate_left; omega; skip) | ((with_reducible refine Has.below ?_ ?_); rotate_left; assumption)))); (· kernel_rfl)))
      refine (KM1.out _).mono ?_
      rintro e w22 ⟨v39, rfl, q39, bb⟩
      replace H3 := H3.below bb
      replace HB := Lib.hid (HB.out.call bb)
      replace Q9 := Lib.hid (Q9.out.below bb)
      replace Q13 := Lib.hid (Q13.out.below bb)
      replace H17 := H17.below bb
      replace H21 := H21.below bb
      replace H23 := H23.below bb
      replace H24 := H24.below bb
      replace Q35 := Lib.hid (Q35.out.below bb)
      clear bb
      obtain ⟨a39, c39, rfl⟩ := q39.shape
      clear q39
      go_wp2_with (refine guard_op (isLoad 27) ?_ ?_; (· rfl); (refine load_has rfl 27 _ rfl _ rfl ?_ 24 ?_ _ Try.underlying27 rfl ?_ ?_; rotate_left; (· (repeat (first | (with_reducible assumption) | ((with_reducible refine Has.box _ _ ?_ ?_) <;> (first | assumption | decide)) | (with_reducible refine Has.alloc ?_ _) | ((with_reducible refine Has.putOther ?_ _ _ ?_); rotate_left; omega; skip) | ((with_reducible refine Has.below ?_ ?_); rotate_left; assumption)))); (· kernel_rfl)))
      refine (KM2.out _).mono ?_
      rintro e w23 ⟨v41, rfl, q41, bb⟩
      replace H3 := H3.below bb
      replace HB := Lib.hid (HB.out.call bb)
      replace Q9 := Lib.hid (Q9.out.below bb)
      replace Q13 := Lib.hid (Q13.out.below bb)
      replace H17 := H17.below bb
      replace H21 := H21.below bb
      replace H23 := H23.below bb
      replace H24 := H24.below bb
      replace Q35 := Lib.hid (Q35.out.below bb)
      clear bb
      obtain ⟨a41, c41, rfl⟩ := q41.shape
      clear q41
      have g0 := H24.cell 0 (by omega)
      have g1 := H24.cell 1 (by omega)
      rw [HP0.out] at g0
      rw [HP1.out] at g1
      go_wp2_with fail
      go_meet
      case rel => exact ⟨H3, H17, Q9, Q13, Q35, HB⟩
  clear H21 H23 H24 H3 H17 Q9 Q13 Q35 HB
  clear PL
  obtain ⟨H3, H17, Q9, Q13, Q35, HB⟩ := hcut
  obtain ⟨w50, hw⟩ : ∃ w50, w50 = wc := ⟨wc, rfl⟩
  subst hw
  go_upto_region 38 with fail
  go_cut [304] from 297 to 304 (fun c wx => c = .bool false ∧ Has wx B1 ns 24 ∧ Hid (Rw wx 0 (.slice a9 pn c9) pn pf) ∧ Hid (Rw wx 0 (.slice a35 hn c35) hn hf) ∧ Hid (Kept w wx))
  case first => as_aux_lemma =>
    replace H3 := H3.drew
    replace H17 := H17.drew
    replace Q9 := Lib.hid Q9.out.drew
    replace Q13 := Lib.hid Q13.out.drew
    replace Q35 := Lib.hid Q35.out.drew
    replace HB := Lib.hid (keptDrewT HB.out)
    cases F
    case' false =>
      refine wp_region_held_drew (S := fun w' => Has w' B17 fa 2) (by kernel_rfl) H17 (fun hHeld => ?_)
      generalize World.drew _ = V1 at *
      (refine wpAnyH_take (i := 0) (v := ?_) rfl (by kernel_rfl) (by kernel_rfl) (by kernel_rfl) (fun _ _ _ h => h) (Or.inl ⟨by rfl, ?_⟩) hHeld ?_; rotate_left; (· (intro w' hSw; go_simp; try with_reducible rfl)); (try simp only [List.getElem_toArray, List.getElem_cons_zero, List.getElem_cons_succ, Act.put, List.setIfInBounds_toArray, List.set_cons_zero, List.set_cons_succ])); (refine wpAnyH_take (i := 1) (v := ?_) rfl (by kernel_rfl) (by kernel_rfl) (by kernel_rfl) (fun _ _ _ h => h) (Or.inl ⟨by rfl, ?_⟩) hHeld ?_; rotate_left; (· (intro w' hSw; go_simp; try with_reducible rfl)); (try simp only [List.getElem_toArray, List.getElem_cons_zero, List.getElem_cons_succ, Act.put, List.setIfInBounds_toArray, List.set_cons_zero, List.set_cons_succ]))
      (refine wpAnyH_take (i := 2) (v := undef) rfl (by kernel_rfl) (by kernel_rfl) (by kernel_rfl) (fun _ _ _ h => h) (Or.inr ⟨by rfl, rfl⟩) hHeld ?_; (try simp only [List.getElem_toArray, List.getElem_cons_zero, List.getElem_cons_succ, Act.put, List.setIfInBounds_toArray, List.set_cons_zero, List.set_cons_succ])); (refine wpAnyH_take (i := 3) (v := undef) rfl (by kernel_rfl) (by kernel_rfl) (by kernel_rfl) (fun _ _ _ h => h) (Or.inr ⟨by rfl, rfl⟩) hHeld ?_; (try simp only [List.getElem_toArray, List.getElem_cons_zero, List.getElem_cons_succ, Act.put, List.setIfInBounds_toArray, List.set_cons_zero, List.set_cons_succ])); (refine wpAnyH_take (i := 4) (v := undef) rfl (by kernel_rfl) (by kernel_rfl) (by kernel_rfl) (fun _ _ _ h => h) (Or.inr ⟨by rfl, rfl⟩) hHeld ?_; (try simp only [List.getElem_toArray, List.getElem_cons_zero, List.getElem_cons_succ, Act.put, List.setIfInBounds_toArray, List.set_cons_zero, List.set_cons_succ])); (refine wpAnyH_take (i := 5) (v := undef) rfl (by kernel_rfl) (by kernel_rfl) (by kernel_rfl) (fun _ _ _ h => h) (Or.inr ⟨by rfl, rfl⟩) hHeld ?_; (try simp only [List.getElem_toArray, List.getElem_cons_zero, List.getElem_cons_succ, Act.put, List.setIfInBounds_toArray, List.set_cons_zero, List.set_cons_succ])); (refine wpAnyH_take (i := 6) (v := undef) rfl (by kernel_rfl) (by kernel_rfl) (by kernel_rfl) (fun _ _ _ h => h) (Or.inr ⟨by rfl, rfl⟩) hHeld ?_; (try simp only [List.getElem_toArray, List.getElem_cons_zero, List.getElem_cons_succ, Act.put, List.setIfInBounds_toArray, List.set_cons_zero, List.set_cons_succ]))
      (refine wpAnyH_take (i := 7) (v := ?_) rfl (by kernel_rfl) (by kernel_rfl) (by kernel_rfl) (fun _ _ _ h => h) (Or.inl ⟨by rfl, ?_⟩) hHeld ?_; rotate_left; (· (intro w' hSw; go_simp; try with_reducible rfl)); (try simp only [List.getElem_toArray, List.getElem_cons_zero, List.getElem_cons_succ, Act.put, List.setIfInBounds_toArray, List.set_cons_zero, List.set_cons_succ]))
      refine wpAnyH_done (by kernel_rfl) ?_ _
      clear hHeld
      go_wp2_with fail
      go_meet
      case rel => exact ⟨rfl, H3, Q9, Q35, HB⟩
    case' true =>
      obtain ⟨f1, f2⟩ := FA.out (by trivial)
      obtain ⟨pg, pcap, hpv, _, _⟩ := Q13.out.form f2
      injection hpv with ha _ hcap
      subst ha
      subst hcap
      have F1 := Lib.hid f1
      have RG := Lib.hid (fun W (h : Rw W 0 (.slice (some ⟨pg, 0, none⟩) bn c13) bn bf) => (show W.rangeAt pg (0 * 2) (ints fa) by rw [F1.out]; exact h.loadable 0 f2))
      have HI := Lib.hid HI2.out
      have hb2 : (0 : Int) < (bn : Int) := by omega
      clear f1 FA
      refine wp_region_held_drew (S := fun w' => Has w' B17 fa 2 ∧ Rw w' 0 (.slice (some ⟨pg, 0, none⟩) bn c13) bn bf) (by kernel_rfl) ⟨H17, Q13.out⟩ (fun hHeld => ?_)
      generalize World.drew _ = V1 at *
      (refine wpAnyH_take (i := 0) (v := ?_) rfl (by kernel_rfl) (by kernel_rfl) (by kernel_rfl) (fun _ _ _ h => h) (Or.inl ⟨by rfl, ?_⟩) hHeld ?_; rotate_left; (· (intro w' hSw; go_simp; try with_reducible rfl)); (try simp only [List.getElem_toArray, List.getElem_cons_zero, List.getElem_cons_succ, Act.put, List.setIfInBounds_toArray, List.set_cons_zero, List.set_cons_succ])); (refine wpAnyH_take (i := 1) (v := ?_) rfl (by kernel_rfl) (by kernel_rfl) (by kernel_rfl) (fun _ _ _ h => h) (Or.inl ⟨by rfl, ?_⟩) hHeld ?_; rotate_left; (· (intro w' hSw; go_simp; try with_reducible rfl)); (try simp only [List.getElem_toArray, List.getElem_cons_zero, List.getElem_cons_succ, Act.put, List.setIfInBounds_toArray, List.set_cons_zero, List.set_cons_succ]))
      (refine wpAnyH_take (i := 2) (v := _) rfl (by kernel_rfl) (by kernel_rfl) (by kernel_rfl) (fun _ _ _ h => h) (yieldsIf_load_mid (by rfl) 36 _ rfl _ _ rfl (ints fa) _ (fun w' hSw => hSw.1.holds.range) Try.underlying36 rfl (HI.out)) hHeld ?_; (try simp only [List.getElem_toArray, List.getElem_cons_zero, List.getElem_cons_succ, Act.put, List.setIfInBounds_toArray, List.set_cons_zero, List.set_cons_succ]))
      (refine wpAnyH_take (i := 3) (v := ?_) rfl (by kernel_rfl) (by kernel_rfl) (by kernel_rfl) (fun _ _ _ h => h) (Or.inl ⟨by rfl, ?_⟩) hHeld ?_; rotate_left; (· (intro w' hSw; go_simp; try with_reducible rfl)); (try simp only [List.getElem_toArray, List.getElem_cons_zero, List.getElem_cons_succ, Act.put, List.setIfInBounds_toArray, List.set_cons_zero, List.set_cons_succ])); (refine wpAnyH_take (i := 4) (v := ?_) rfl (by kernel_rfl) (by kernel_rfl) (by kernel_rfl) (fun _ _ _ h => h) (Or.inl ⟨by rfl, ?_⟩) hHeld ?_; rotate_left; (· (intro w' hSw; go_simp; try with_reducible rfl)); (try simp only [List.getElem_toArray, List.getElem_cons_zero, List.getElem_cons_succ, Act.put, List.setIfInBounds_toArray, List.set_cons_zero, List.set_cons_succ]))
      (refine wpAnyH_take (i := 5) (v := _) rfl (by kernel_rfl) (by kernel_rfl) (by kernel_rfl) (fun _ _ _ h => h) (yieldsIf_load_mid (by rfl) 36 _ rfl _ _ rfl (ints fa) _ (fun w' hSw => RG.out w' hSw.2) Try.underlying36 rfl (HI.out)) hHeld ?_; (try simp only [List.getElem_toArray, List.getElem_cons_zero, List.getElem_cons_succ, Act.put, List.setIfInBounds_toArray, List.set_cons_zero, List.set_cons_succ]))
      refine wpAnyH_take (i := 6) (v := .bool false) rfl (by kernel_rfl) (by kernel_rfl) (by kernel_rfl) (fun _ _ _ h => h) (Or.inl ⟨by rfl, ?_⟩) hHeld ?_
      · intro w' hSw
        exact neq_same_run _ _ _ _ _ _ rfl fa rfl rfl HM2.out (eqPair fa fa hfa hfa)
      (try simp only [List.getElem_toArray, List.getElem_cons_zero, List.getElem_cons_succ, Act.put, List.setIfInBounds_toArray, List.set_cons_zero, List.set_cons_succ])
      (refine wpAnyH_take (i := 7) (v := ?_) rfl (by kernel_rfl) (by kernel_rfl) (by kernel_rfl) (fun _ _ _ h => h) (Or.inl ⟨by rfl, ?_⟩) hHeld ?_; rotate_left; (· (intro w' hSw; go_simp; try with_reducible rfl)); (try simp only [List.getElem_toArray, List.getElem_cons_zero, List.getElem_cons_succ, Act.put, List.setIfInBounds_toArray, List.set_cons_zero, List.set_cons_succ]))
      refine wpAnyH_done (by kernel_rfl) ?_ _
      clear hHeld
      go_wp2_with fail
      go_meet
      case rel => exact ⟨rfl, H3, Q9, Q35, HB⟩
  clear H3 H17 Q9 Q13 Q35 HB FA HI2
  obtain ⟨rfl, H3, Q9, Q35, HB⟩ := hcut
  obtain ⟨w51, hw⟩ : ∃ w51, w51 = wc := ⟨wc, rfl⟩
  subst hw
  go_wp2_with fail
  go_loopw [43] (fun z wo => ∃ k : Nat, k ≤ hn ∧ z = .int .i64 k ∧ Has wo B1 ns 24 ∧ Hid (Rw wo 0 (.slice a9 pn c9) pn pf) ∧ Hid (Rw wo 0 (.slice a35 hn c35) hn hf) ∧ Hid (Kept w wo)) (fun z _ => hn - (intOf z).toNat)
  case atStart => exact ⟨0, by omega, rfl, H3, Q9, Q35, HB⟩
  case round =>
    clear H3 Q9 Q35 HB
    obtain ⟨k, hk, rfl, H3, Q9, Q35, HB⟩ := hrel
    by_cases hkn : k < hn
    case' pos =>
      clear KPP PP
      have hki : (k : Int) < (hn : Int) := by omega
      have hk0 : (0 : Int) ≤ (k : Int) := by omega
      obtain ⟨pgB3, pcap3, hpv3, _, _⟩ := Q35.out.form (by omega)
      injection hpv3 with ha3 _ hcap3
      subst ha3
      subst hcap3
      obtain ⟨x, y, hx, hy, hpo, TL, hv2, hany⟩ := HL.out k hkn
      have KP1 := Lib.hid (fun W => KO.out x y W)
      rw [hpo] at KP1
      clear hpo
      generalize pourA ns x y = am at *
      generalize pourR ns x y = T at *
      have HAT := Lib.hid hany
      have HX := Lib.hid hx
      have HY := Lib.hid hy
      have hlT : (ints T).length = 24 := by rw [ints_len]; exact TL
      have HLT := Lib.hid hlT
      have hiT := Lib.hid (show (Try.prog.info? 27).map (·.size) = some (ints T).length by rw [hlT]; exact HI24.out)
      generalize wr = wo at *
      clear hx hy hlT hany
      go_upto_region 43 with fail
      go_cut [44, 45, 46] from 311 to 326 (fun s44 s45 s46 wx => ∃ Bx : Nat, s44 = .pointer (some ⟨Bx, 0, none⟩) ∧ s45 = .int .i64 am ∧ s46 = .bool true ∧ Has wx Bx T 24 ∧ Has wx B1 ns 24 ∧ Hid (Rw wx 0 (.slice a9 pn c9) pn pf) ∧ Hid (Rw wx 0 (.slice (some ⟨pgB3, 0, none⟩) hn c35) hn hf) ∧ Hid (Kept w wx))
      case first => as_aux_lemma =>
        replace H3 := H3.drew
        replace Q9 := Lib.hid Q9.out.drew
        replace Q35 := Lib.hid Q35.out.drew
        replace HB := Lib.hid (keptDrewT HB.out)
        refine wp_region_held_drew (S := fun w' => Rw w' 0 (.slice (some ⟨pgB3, 0, none⟩) hn c35) hn hf ∧ Has w' B1 ns 24) (by kernel_rfl) ⟨Q35.out, H3⟩ (fun hHeld => ?_)
        generalize World.drew _ = VB3 at *
        (refine wpAnyH_take (i := 1) (v := ?_) rfl (by kernel_rfl) (by kernel_rfl) (by kernel_rfl) (fun _ _ _ h => h) (Or.inl ⟨by rfl, ?_⟩) hHeld ?_; rotate_left; (· (intro w' hSw; go_simp; try with_reducible rfl)); (try simp only [List.getElem_toArray, List.getElem_cons_zero, List.getElem_cons_succ, Act.put, List.setIfInBounds_toArray, List.set_cons_zero, List.set_cons_succ])); (refine wpAnyH_take (i := 2) (v := ?_) rfl (by kernel_rfl) (by kernel_rfl) (by kernel_rfl) (fun _ _ _ h => h) (Or.inl ⟨by rfl, ?_⟩) hHeld ?_; rotate_left; (· (intro w' hSw; go_simp; try with_reducible rfl)); (try simp only [List.getElem_toArray, List.getElem_cons_zero, List.getElem_cons_succ, Act.put, List.setIfInBounds_toArray, List.set_cons_zero, List.set_cons_succ])); (refine wpAnyH_take (i := 3) (v := ?_) rfl (by kernel_rfl) (by kernel_rfl) (by kernel_rfl) (fun _ _ _ h => h) (Or.inl ⟨by rfl, ?_⟩) hHeld ?_; rotate_left; (· (intro w' hSw; go_simp; try with_reducible rfl)); (try simp only [List.getElem_toArray, List.getElem_cons_zero, List.getElem_cons_succ, Act.put, List.setIfInBounds_toArray, List.set_cons_zero, List.set_cons_succ])); (refine wpAnyH_take (i := 4) (v := ?_) rfl (by kernel_rfl) (by kernel_rfl) (by kernel_rfl) (fun _ _ _ h => h) (Or.inl ⟨by rfl, ?_⟩) hHeld ?_; rotate_left; (· (intro w' hSw; go_simp; try with_reducible rfl)); (try simp only [List.getElem_toArray, List.getElem_cons_zero, List.getElem_cons_succ, Act.put, List.setIfInBounds_toArray, List.set_cons_zero, List.set_cons_succ]))
        (refine wpAnyH_take (i := 0) (v := _) rfl (by kernel_rfl) (by kernel_rfl) (by kernel_rfl) (fun _ _ _ h => h) (yieldsIf_load_mid (by rfl) 27 _ rfl _ _ rfl (ints ns) _ (fun w' hSw => hSw.2.holds.range) Try.underlying27 rfl (hiR.out)) hHeld ?_; (try simp only [List.getElem_toArray, List.getElem_cons_zero, List.getElem_cons_succ, Act.put, List.setIfInBounds_toArray, List.set_cons_zero, List.set_cons_succ]))
        (refine wpAnyH_take (i := 5) (v := .int .i64 x) rfl (by kernel_rfl) (by kernel_rfl) (by kernel_rfl) (fun _ _ _ h => h) (Or.inl ⟨by rfl, ?_⟩) hHeld ?_; (· (intro w' hSw; have q := hSw.1.cellX (by omega) HX.out; clear hSw; go_simp; try with_reducible rfl)); (try simp only [List.getElem_toArray, List.getElem_cons_zero, List.getElem_cons_succ, Act.put, List.setIfInBounds_toArray, List.set_cons_zero, List.set_cons_succ]))
        (refine wpAnyH_take (i := 6) (v := ?_) rfl (by kernel_rfl) (by kernel_rfl) (by kernel_rfl) (fun _ _ _ h => h) (Or.inl ⟨by rfl, ?_⟩) hHeld ?_; rotate_left; (· (intro w' hSw; go_simp; try with_reducible rfl)); (try simp only [List.getElem_toArray, List.getElem_cons_zero, List.getElem_cons_succ, Act.put, List.setIfInBounds_toArray, List.set_cons_zero, List.set_cons_succ])); (refine wpAnyH_take (i := 7) (v := ?_) rfl (by kernel_rfl) (by kernel_rfl) (by kernel_rfl) (fun _ _ _ h => h) (Or.inl ⟨by rfl, ?_⟩) hHeld ?_; rotate_left; (· (intro w' hSw; go_simp; try with_reducible rfl)); (try simp only [List.getElem_toArray, List.getElem_cons_zero, List.getElem_cons_succ, Act.put, List.setIfInBounds_toArray, List.set_cons_zero, List.set_cons_succ])); (refine wpAnyH_take (i := 8) (v := ?_) rfl (by kernel_rfl) (by kernel_rfl) (by kernel_rfl) (fun _ _ _ h => h) (Or.inl ⟨by rfl, ?_⟩) hHeld ?_; rotate_left; (· (intro w' hSw; go_simp; try with_reducible rfl)); (try simp only [List.getElem_toArray, List.getElem_cons_zero, List.getElem_cons_succ, Act.put, List.setIfInBounds_toArray, List.set_cons_zero, List.set_cons_succ])); (refine wpAnyH_take (i := 9) (v := ?_) rfl (by kernel_rfl) (by kernel_rfl) (by kernel_rfl) (fun _ _ _ h => h) (Or.inl ⟨by rfl, ?_⟩) hHeld ?_; rotate_left; (· (intro w' hSw; go_simp; try with_reducible rfl)); (try simp only [List.getElem_toArray, List.getElem_cons_zero, List.getElem_cons_succ, Act.put, List.setIfInBounds_toArray, List.set_cons_zero, List.set_cons_succ]))
        (refine wpAnyH_take (i := 10) (v := .int .i64 y) rfl (by kernel_rfl) (by kernel_rfl) (by kernel_rfl) (fun _ _ _ h => h) (Or.inl ⟨by rfl, ?_⟩) hHeld ?_; (· (intro w' hSw; have q := hSw.1.cellX (by omega) HY.out; clear hSw; go_simp; try with_reducible rfl)); (try simp only [List.getElem_toArray, List.getElem_cons_zero, List.getElem_cons_succ, Act.put, List.setIfInBounds_toArray, List.set_cons_zero, List.set_cons_succ]))
        refine wpAnyH_ready (rs := [11, 16]) (by kernel_rfl) (by simp) ?_
        refine AllReadyH.cons (o := _) rfl (fun K hK => ?_) (AllReadyH.cons (o := _) rfl (fun K hK => ?_) AllReadyH.nil)
        rotate_left
        · (simp only [List.getElem_toArray, List.getElem_cons_zero, List.getElem_cons_succ, Region.wanted, if_true])
          go_simp
          have loQ9 := Lib.hid (fun hn k hk => (Q9.out.ownlt hn k hk).2)
          have loQ35 := Lib.hid (fun hn k hk => (Q35.out.ownlt hn k hk).2)
          have loH3 := H3.lt
          have loB := HB.out.size
          have TZB3 := Has.zero24 VB3 27
          have l4 : VB3.heap.size < (VB3.alloc (.cells #[.int .i64 0, .int .i64 0, .int .i64 0, .int .i64 0, .int .i64 0, .int .i64 0, .int .i64 0, .int .i64 0, .int .i64 0, .int .i64 0, .int .i64 0, .int .i64 0, .int .i64 0, .int .i64 0, .int .i64 0, .int .i64 0, .int .i64 0, .int .i64 0, .int .i64 0, .int .i64 0, .int .i64 0, .int .i64 0, .int .i64 0, .int .i64 0] 27)).heap.size := by rw [size1]; omega
          refine hK.out _ _ ⟨hHeld.1.alloc _, hHeld.2.alloc _⟩ (fun hHeld => ?_)
          clear hK K
          replace H3 := H3.alloc (.cells #[.int .i64 0, .int .i64 0, .int .i64 0, .int .i64 0, .int .i64 0, .int .i64 0, .int .i64 0, .int .i64 0, .int .i64 0, .int .i64 0, .int .i64 0, .int .i64 0, .int .i64 0, .int .i64 0, .int .i64 0, .int .i64 0, .int .i64 0, .int .i64 0, .int .i64 0, .int .i64 0, .int .i64 0, .int .i64 0, .int .i64 0, .int .i64 0] 27)
          replace Q9 := Lib.hid (Q9.out.alloc (.cells #[.int .i64 0, .int .i64 0, .int .i64 0, .int .i64 0, .int .i64 0, .int .i64 0, .int .i64 0, .int .i64 0, .int .i64 0, .int .i64 0, .int .i64 0, .int .i64 0, .int .i64 0, .int .i64 0, .int .i64 0, .int .i64 0, .int .i64 0, .int .i64 0, .int .i64 0, .int .i64 0, .int .i64 0, .int .i64 0, .int .i64 0, .int .i64 0] 27))
          replace Q35 := Lib.hid (Q35.out.alloc (.cells #[.int .i64 0, .int .i64 0, .int .i64 0, .int .i64 0, .int .i64 0, .int .i64 0, .int .i64 0, .int .i64 0, .int .i64 0, .int .i64 0, .int .i64 0, .int .i64 0, .int .i64 0, .int .i64 0, .int .i64 0, .int .i64 0, .int .i64 0, .int .i64 0, .int .i64 0, .int .i64 0, .int .i64 0, .int .i64 0, .int .i64 0, .int .i64 0] 27))
          replace HB := Lib.hid (HB.out.alloc (.cells #[.int .i64 0, .int .i64 0, .int .i64 0, .int .i64 0, .int .i64 0, .int .i64 0, .int .i64 0, .int .i64 0, .int .i64 0, .int .i64 0, .int .i64 0, .int .i64 0, .int .i64 0, .int .i64 0, .int .i64 0, .int .i64 0, .int .i64 0, .int .i64 0, .int .i64 0, .int .i64 0, .int .i64 0, .int .i64 0, .int .i64 0, .int .i64 0] 27))
          (refine wpAnyH_ready (rs := [11]) (by kernel_rfl) (by simp) ?_; refine AllReadyH.cons (o := _) rfl (fun K hK => ?_) AllReadyH.nil; (simp only [List.getElem_toArray, List.getElem_cons_zero, List.getElem_cons_succ, Region.wanted, if_true]))
          go_simp
          refine (KP1.out _).mono ?_
          rintro e w10B3 ⟨rfl, b10⟩
          dsimp only
          (try simp only [List.getElem_toArray, List.getElem_cons_zero, List.getElem_cons_succ, Act.put, List.setIfInBounds_toArray, List.set_cons_zero, List.set_cons_succ])
          refine hK.out _ _ ⟨hHeld.1.below b10, hHeld.2.below b10⟩ (fun hHeld => ?_)
          clear hK K
          replace TZB3 := TZB3.below b10
          replace H3 := H3.below b10
          replace Q9 := Lib.hid (Q9.out.below b10)
          replace Q35 := Lib.hid (Q35.out.below b10)
          replace HB := Lib.hid (HB.out.call b10)
          clear b10 l4
          (refine wpAnyH_take (i := 12) (v := ?_) rfl (by kernel_rfl) (by kernel_rfl) (by kernel_rfl) (fun _ _ _ h => h) (Or.inl ⟨by rfl, ?_⟩) hHeld ?_; rotate_left; (· (intro w' hSw; go_simp; try with_reducible rfl)); (try simp only [List.getElem_toArray, List.getElem_cons_zero, List.getElem_cons_succ, Act.put, List.setIfInBounds_toArray, List.set_cons_zero, List.set_cons_succ])); (refine wpAnyH_take (i := 13) (v := ?_) rfl (by kernel_rfl) (by kernel_rfl) (by kernel_rfl) (fun _ _ _ h => h) (Or.inl ⟨by rfl, ?_⟩) hHeld ?_; rotate_left; (· (intro w' hSw; go_simp; try with_reducible rfl)); (try simp only [List.getElem_toArray, List.getElem_cons_zero, List.getElem_cons_succ, Act.put, List.setIfInBounds_toArray, List.set_cons_zero, List.set_cons_succ])); (refine wpAnyH_take (i := 14) (v := ?_) rfl (by kernel_rfl) (by kernel_rfl) (by kernel_rfl) (fun _ _ _ h => h) (Or.inl ⟨by rfl, ?_⟩) hHeld ?_; rotate_left; (· (intro w' hSw; go_simp; try with_reducible rfl)); (try simp only [List.getElem_toArray, List.getElem_cons_zero, List.getElem_cons_succ, Act.put, List.setIfInBounds_toArray, List.set_cons_zero, List.set_cons_succ])); (refine wpAnyH_take (i := 15) (v := ?_) rfl (by kernel_rfl) (by kernel_rfl) (by kernel_rfl) (fun _ _ _ h => h) (Or.inl ⟨by rfl, ?_⟩) hHeld ?_; rotate_left; (· (intro w' hSw; go_simp; try with_reducible rfl)); (try simp only [List.getElem_toArray, List.getElem_cons_zero, List.getElem_cons_succ, Act.put, List.setIfInBounds_toArray, List.set_cons_zero, List.set_cons_succ]))
          have SF := And.intro (hHeld.1.puts (VB3.heap.size) 0 (ints T) (fun hi e => by have := loQ35.out hi _ e; omega)) (hHeld.2.putOther (b' := VB3.heap.size) 0 (ints T) (by omega))
          (refine wpAnyH_ready (rs := [17]) (by kernel_rfl) (by simp) ?_; refine AllReadyH.cons (o := _) rfl (fun K hK => ?_) AllReadyH.nil; (simp only [List.getElem_toArray, List.getElem_cons_zero, List.getElem_cons_succ, Region.wanted, if_true]); refine wp_store_mid _ _ _ rfl _ _ (ints T).toArray rfl rfl (by simpa [HLT.out] using TZB3.there) (by simpa [HLT.out] using HI24.out) (all_oneCell_toArray (ints_one _)) ?_; (try simp only [List.getElem_toArray, List.getElem_cons_zero, List.getElem_cons_succ, Act.put, List.setIfInBounds_toArray, List.set_cons_zero, List.set_cons_succ, List.toList_toArray]); refine hK.out _ _ (SF) (fun hHeld => ?_); clear hK K)
          replace TZB3 := TZB3.putAll T TL
          replace H3 := H3.putOther (b' := VB3.heap.size) 0 (ints T) (by omega)
          replace Q9 := Lib.hid (Q9.out.puts (VB3.heap.size) 0 (ints T) (fun hi e => by have := loQ9.out hi _ e; omega))
          replace Q35 := Lib.hid (Q35.out.puts (VB3.heap.size) 0 (ints T) (fun hi e => by have := loQ35.out hi _ e; omega))
          replace HB := Lib.hid (HB.out.puts (b := VB3.heap.size) (by omega) 0 (ints T))
          (refine wpAnyH_take (i := 18) (v := ?_) rfl (by kernel_rfl) (by kernel_rfl) (by kernel_rfl) (fun _ _ _ h => h) (Or.inl ⟨by rfl, ?_⟩) hHeld ?_; rotate_left; (· (intro w' hSw; go_simp; try with_reducible rfl)); (try simp only [List.getElem_toArray, List.getElem_cons_zero, List.getElem_cons_succ, Act.put, List.setIfInBounds_toArray, List.set_cons_zero, List.set_cons_succ])); (refine wpAnyH_take (i := 19) (v := ?_) rfl (by kernel_rfl) (by kernel_rfl) (by kernel_rfl) (fun _ _ _ h => h) (Or.inl ⟨by rfl, ?_⟩) hHeld ?_; rotate_left; (· (intro w' hSw; go_simp; try with_reducible rfl)); (try simp only [List.getElem_toArray, List.getElem_cons_zero, List.getElem_cons_succ, Act.put, List.setIfInBounds_toArray, List.set_cons_zero, List.set_cons_succ]))
          refine wpAnyH_done (by kernel_rfl) ?_ _
          clear hHeld loB SF KP1 loQ9 loQ35 loH3
          obtain ⟨B3, hB⟩ : ∃ B3, VB3.heap.size = B3 := ⟨_, rfl⟩
          rw [hB] at TZB3 H3 Q9 Q35 HB ⊢
          generalize (w10B3).setCells B3 0 (ints T) = VFB3 at *
          clear hB
          go_wp2_with fail
          go_meet
          case rel => exact ⟨B3, rfl, rfl, rfl, TZB3, H3, Q9, Q35, HB⟩
        · (simp only [List.getElem_toArray, List.getElem_cons_zero, List.getElem_cons_succ, Region.wanted, if_true])
          go_simp
          refine (KP1.out _).mono ?_
          rintro e w10B3 ⟨rfl, b10⟩
          dsimp only
          (try simp only [List.getElem_toArray, List.getElem_cons_zero, List.getElem_cons_succ, Act.put, List.setIfInBounds_toArray, List.set_cons_zero, List.set_cons_succ])
          refine hK.out _ _ ⟨hHeld.1.below b10, hHeld.2.below b10⟩ (fun hHeld => ?_)
          clear hK K
          replace H3 := H3.below b10
          replace Q9 := Lib.hid (Q9.out.below b10)
          replace Q35 := Lib.hid (Q35.out.below b10)
          replace HB := Lib.hid (HB.out.call b10)
          clear b10
          (refine wpAnyH_take (i := 12) (v := ?_) rfl (by kernel_rfl) (by kernel_rfl) (by kernel_rfl) (fun _ _ _ h => h) (Or.inl ⟨by rfl, ?_⟩) hHeld ?_; rotate_left; (· (intro w' hSw; go_simp; try with_reducible rfl)); (try simp only [List.getElem_toArray, List.getElem_cons_zero, List.getElem_cons_succ, Act.put, List.setIfInBounds_toArray, List.set_cons_zero, List.set_cons_succ])); (refine wpAnyH_take (i := 13) (v := ?_) rfl (by kernel_rfl) (by kernel_rfl) (by kernel_rfl) (fun _ _ _ h => h) (Or.inl ⟨by rfl, ?_⟩) hHeld ?_; rotate_left; (· (intro w' hSw; go_simp; try with_reducible rfl)); (try simp only [List.getElem_toArray, List.getElem_cons_zero, List.getElem_cons_succ, Act.put, List.setIfInBounds_toArray, List.set_cons_zero, List.set_cons_succ])); (refine wpAnyH_take (i := 14) (v := ?_) rfl (by kernel_rfl) (by kernel_rfl) (by kernel_rfl) (fun _ _ _ h => h) (Or.inl ⟨by rfl, ?_⟩) hHeld ?_; rotate_left; (· (intro w' hSw; go_simp; try with_reducible rfl)); (try simp only [List.getElem_toArray, List.getElem_cons_zero, List.getElem_cons_succ, Act.put, List.setIfInBounds_toArray, List.set_cons_zero, List.set_cons_succ])); (refine wpAnyH_take (i := 15) (v := ?_) rfl (by kernel_rfl) (by kernel_rfl) (by kernel_rfl) (fun _ _ _ h => h) (Or.inl ⟨by rfl, ?_⟩) hHeld ?_; rotate_left; (· (intro w' hSw; go_simp; try with_reducible rfl)); (try simp only [List.getElem_toArray, List.getElem_cons_zero, List.getElem_cons_succ, Act.put, List.setIfInBounds_toArray, List.set_cons_zero, List.set_cons_succ]))
          have loQ9 := Lib.hid (fun hn k hk => (Q9.out.ownlt hn k hk).2)
          have loQ35 := Lib.hid (fun hn k hk => (Q35.out.ownlt hn k hk).2)
          have loH3 := H3.lt
          have loB := HB.out.size
          have TZB3 := Has.zero24 w10B3 27
          (refine wpAnyH_ready (rs := [16]) (by kernel_rfl) (by simp) ?_; refine AllReadyH.cons (o := _) rfl (fun K hK => ?_) AllReadyH.nil; (simp only [List.getElem_toArray, List.getElem_cons_zero, List.getElem_cons_succ, Region.wanted, if_true]))
          go_simp
          refine hK.out _ _ ⟨hHeld.1.alloc _, hHeld.2.alloc _⟩ (fun hHeld => ?_)
          clear hK K
          replace H3 := H3.alloc (.cells #[.int .i64 0, .int .i64 0, .int .i64 0, .int .i64 0, .int .i64 0, .int .i64 0, .int .i64 0, .int .i64 0, .int .i64 0, .int .i64 0, .int .i64 0, .int .i64 0, .int .i64 0, .int .i64 0, .int .i64 0, .int .i64 0, .int .i64 0, .int .i64 0, .int .i64 0, .int .i64 0, .int .i64 0, .int .i64 0, .int .i64 0, .int .i64 0] 27)
          replace Q9 := Lib.hid (Q9.out.alloc (.cells #[.int .i64 0, .int .i64 0, .int .i64 0, .int .i64 0, .int .i64 0, .int .i64 0, .int .i64 0, .int .i64 0, .int .i64 0, .int .i64 0, .int .i64 0, .int .i64 0, .int .i64 0, .int .i64 0, .int .i64 0, .int .i64 0, .int .i64 0, .int .i64 0, .int .i64 0, .int .i64 0, .int .i64 0, .int .i64 0, .int .i64 0, .int .i64 0] 27))
          replace Q35 := Lib.hid (Q35.out.alloc (.cells #[.int .i64 0, .int .i64 0, .int .i64 0, .int .i64 0, .int .i64 0, .int .i64 0, .int .i64 0, .int .i64 0, .int .i64 0, .int .i64 0, .int .i64 0, .int .i64 0, .int .i64 0, .int .i64 0, .int .i64 0, .int .i64 0, .int .i64 0, .int .i64 0, .int .i64 0, .int .i64 0, .int .i64 0, .int .i64 0, .int .i64 0, .int .i64 0] 27))
          replace HB := Lib.hid (HB.out.alloc (.cells #[.int .i64 0, .int .i64 0, .int .i64 0, .int .i64 0, .int .i64 0, .int .i64 0, .int .i64 0, .int .i64 0, .int .i64 0, .int .i64 0, .int .i64 0, .int .i64 0, .int .i64 0, .int .i64 0, .int .i64 0, .int .i64 0, .int .i64 0, .int .i64 0, .int .i64 0, .int .i64 0, .int .i64 0, .int .i64 0, .int .i64 0, .int .i64 0] 27))
          have SF := And.intro (hHeld.1.puts (w10B3.heap.size) 0 (ints T) (fun hi e => by have := loQ35.out hi _ e; omega)) (hHeld.2.putOther (b' := w10B3.heap.size) 0 (ints T) (by omega))
          (refine wpAnyH_ready (rs := [17]) (by kernel_rfl) (by simp) ?_; refine AllReadyH.cons (o := _) rfl (fun K hK => ?_) AllReadyH.nil; (simp only [List.getElem_toArray, List.getElem_cons_zero, List.getElem_cons_succ, Region.wanted, if_true]); refine wp_store_mid _ _ _ rfl _ _ (ints T).toArray rfl rfl (by simpa [HLT.out] using TZB3.there) (by simpa [HLT.out] using HI24.out) (all_oneCell_toArray (ints_one _)) ?_; (try simp only [List.getElem_toArray, List.getElem_cons_zero, List.getElem_cons_succ, Act.put, List.setIfInBounds_toArray, List.set_cons_zero, List.set_cons_succ, List.toList_toArray]); refine hK.out _ _ (SF) (fun hHeld => ?_); clear hK K)
          replace TZB3 := TZB3.putAll T TL
          replace H3 := H3.putOther (b' := w10B3.heap.size) 0 (ints T) (by omega)
          replace Q9 := Lib.hid (Q9.out.puts (w10B3.heap.size) 0 (ints T) (fun hi e => by have := loQ9.out hi _ e; omega))
          replace Q35 := Lib.hid (Q35.out.puts (w10B3.heap.size) 0 (ints T) (fun hi e => by have := loQ35.out hi _ e; omega))
          replace HB := Lib.hid (HB.out.puts (b := w10B3.heap.size) (by omega) 0 (ints T))
          (refine wpAnyH_take (i := 18) (v := ?_) rfl (by kernel_rfl) (by kernel_rfl) (by kernel_rfl) (fun _ _ _ h => h) (Or.inl ⟨by rfl, ?_⟩) hHeld ?_; rotate_left; (· (intro w' hSw; go_simp; try with_reducible rfl)); (try simp only [List.getElem_toArray, List.getElem_cons_zero, List.getElem_cons_succ, Act.put, List.setIfInBounds_toArray, List.set_cons_zero, List.set_cons_succ])); (refine wpAnyH_take (i := 19) (v := ?_) rfl (by kernel_rfl) (by kernel_rfl) (by kernel_rfl) (fun _ _ _ h => h) (Or.inl ⟨by rfl, ?_⟩) hHeld ?_; rotate_left; (· (intro w' hSw; go_simp; try with_reducible rfl)); (try simp only [List.getElem_toArray, List.getElem_cons_zero, List.getElem_cons_succ, Act.put, List.setIfInBounds_toArray, List.set_cons_zero, List.set_cons_succ]))
          refine wpAnyH_done (by kernel_rfl) ?_ _
          clear hHeld loB SF KP1 loQ9 loQ35 loH3
          obtain ⟨B3, hB⟩ : ∃ B3, w10B3.heap.size = B3 := ⟨_, rfl⟩
          rw [hB] at TZB3 H3 Q9 Q35 HB ⊢
          generalize (w10B3.alloc (.cells #[.int .i64 0, .int .i64 0, .int .i64 0, .int .i64 0, .int .i64 0, .int .i64 0, .int .i64 0, .int .i64 0, .int .i64 0, .int .i64 0, .int .i64 0, .int .i64 0, .int .i64 0, .int .i64 0, .int .i64 0, .int .i64 0, .int .i64 0, .int .i64 0, .int .i64 0, .int .i64 0, .int .i64 0, .int .i64 0, .int .i64 0, .int .i64 0] 27)).setCells B3 0 (ints T) = VFB3 at *
          clear hB
          go_wp2_with fail
          go_meet
          case rel => exact ⟨B3, rfl, rfl, rfl, TZB3, H3, Q9, Q35, HB⟩
      clear H3 Q9 Q35 HB KP1
      obtain ⟨B3, rfl, rfl, rfl, TZB3, H3, Q9, Q35, HB⟩ := hcut
      obtain ⟨wxB3, hw⟩ : ∃ wxB3, wxB3 = wc := ⟨wc, rfl⟩
      subst hw
      have KC1 := Lib.hid (fun W => KCT.out T TL W)
      have KU1 := Lib.hid (fun W => KUT.out T TL W)
      unfold CmPost at KC1
      unfold UsefPost at KU1
      rw [hv2] at KC1 KU1
      have RL := Lib.hid (reply_live TL hv2)
      have hct : (cmFA T).length ≤ 6 := by
        unfold cmFA
        rw [if_pos hv2]
        exact cmpl_le _ 6
      have U30 := use30 T
      have HOT := Lib.hid (fun i j W => KOT.out T TL i j W)
      have A0 : Hid (anyC T 0 = false) := Lib.hid rfl
      have AS := Lib.hid (fun k => anyC_succ T k)
      clear hv2
      generalize cmFA T = tf at *
      generalize hct2 : tf.length = ct at *
      clear hct2
      generalize usefFA T = uf at *
      generalize usefNA T = tu at *
      go_wp2_with (refine guard_op (isLoad 27) ?_ ?_; (· rfl); (refine load_has rfl 27 _ rfl _ rfl ?_ 24 ?_ _ Try.underlying27 rfl ?_ ?_; rotate_left; (· (repeat (first | (with_reducible assumption) | ((with_reducible refine Has.box _ _ ?_ ?_) <;> (first | assumption | decide)) | (with_reducible refine Has.alloc ?_ _) | ((with_reducible refine Has.putOther ?_ _ _ ?_); rotate_left; omega; skip) | ((with_reducible refine Has.below ?_ ?_); rotate_left; assumption)))); (· kernel_rfl)))
      refine (KC1.out _).mono ?_
      rintro e w11 ⟨v47, rfl, q47, b11⟩
      have Q47 := Lib.hid (nuMonoT q47)
      clear q47
      replace H3 := H3.below b11
      replace TZB3 := TZB3.below b11
      replace Q9 := Lib.hid (Q9.out.below b11)
      replace Q35 := Lib.hid (Q35.out.below b11)
      replace HB := Lib.hid (HB.out.call b11)
      clear b11 KC1
      go_wp2_with (refine guard_op (isLoad 27) ?_ ?_; (· rfl); (refine load_has rfl 27 _ rfl _ rfl ?_ 24 ?_ _ Try.underlying27 rfl ?_ ?_; rotate_left; (· (repeat (first | (with_reducible assumption) | ((with_reducible refine Has.box _ _ ?_ ?_) <;> (first | assumption | decide)) | (with_reducible refine Has.alloc ?_ _) | ((with_reducible refine Has.putOther ?_ _ _ ?_); rotate_left; omega; skip) | ((with_reducible refine Has.below ?_ ?_); rotate_left; assumption)))); (· kernel_rfl)))
      refine (KU1.out _).mono ?_
      rintro e w12 ⟨v49, rfl, q49, b12⟩
      have Q49 := Lib.hid (q49.rw.mono (b' := 0) (Nat.zero_le _))
      clear q49
      replace H3 := H3.below b12
      replace TZB3 := TZB3.below b12
      replace Q9 := Lib.hid (Q9.out.below b12)
      replace Q35 := Lib.hid (Q35.out.below b12)
      replace HB := Lib.hid (HB.out.call b12)
      replace Q47 := Lib.hid (Q47.out.below b12)
      clear b12 KU1
      obtain ⟨a47, c47, rfl⟩ := Q47.out.shape
      obtain ⟨a49, c49, rfl⟩ := Q49.out.shape
      go_wp2_with fail
      go_loopw [51, 52] (fun b z wi => ∃ j2 : Nat, j2 ≤ tu ∧ z = .int .i64 j2 ∧ b = .bool (anyC T j2) ∧ Has wi B1 ns 24 ∧ Has wi B3 T 24 ∧ Hid (Rw wi 0 (.slice a9 pn c9) pn pf) ∧ Hid (Rw wi 0 (.slice (some ⟨pgB3, 0, none⟩) hn c35) hn hf) ∧ Hid (Kept w wi) ∧ Hid (Nu wi 0 (.slice a47 ct c47) ct tf) ∧ Hid (Rw wi 0 (.slice a49 tu c49) tu uf)) (fun _ z _ => tu - (intOf z).toNat)
      case atStart => exact ⟨0, by omega, rfl, by rw [A0.out], H3, TZB3, Q9, Q35, HB, Q47, Q49⟩
      case round =>
        clear H3 TZB3 Q9 Q35 HB Q47 Q49
        obtain ⟨j2, hj2, rfl, rfl, H3, TZB3, Q9, Q35, HB, Q47, Q49⟩ := hrel
        by_cases hjt : j2 < tu
        case' pos =>
          have hji : (j2 : Int) < (tu : Int) := by omega
          have hj0 : (0 : Int) ≤ (j2 : Int) := by omega
          obtain ⟨pgB4, pcap4, hpv4, _, _⟩ := Q49.out.form (by omega)
          injection hpv4 with ha4 _ hcap4
          subst ha4
          subst hcap4
          obtain ⟨x2, y2, hx2, hy2, hpo2, TL2, hv3, hno, hyes⟩ := RL.out j2 hjt
          have KP2 := Lib.hid (fun W => HOT.out x2 y2 W)
          rw [hpo2] at KP2
          have AJ := AS.out j2
          clear hpo2
          generalize pourA T x2 y2 = am2 at *
          generalize pourR T x2 y2 = T2 at *
          have KC2 := Lib.hid (fun W => KCT.out T2 TL2 W)
          unfold CmPost at KC2
          rw [hv3] at KC2
          have hct3 : (cmFA T2).length ≤ 6 := by
            unfold cmFA
            rw [if_pos hv3]
            exact cmpl_le _ 6
          have hyes2 : decide (y2 ∈ cmFA T2) = cpl T j2 := by
            cases hh : cpl T j2 with
            | true => exact decide_eq_true (hyes.2 hh)
            | false => exact decide_eq_false (fun h => by rw [hyes.1 h] at hh; cases hh)
          have hno2 : decide (y2 ∈ tf) = false := decide_eq_false hno
          have KN1 := Lib.hid (fun v W (q : Nu W 0 v ct tf) => rHas_any v 0 ct tf y2 W (by omega) q)
          rw [hno2] at KN1
          have KN2 := Lib.hid (fun v W (q : Nu W 0 v (cmFA T2).length (cmFA T2)) => rHas_any v 0 (cmFA T2).length (cmFA T2) y2 W (by omega) q)
          rw [hyes2] at KN2
          clear hyes hno hyes2 hno2 hv3 hct3
          generalize cmFA T2 = tf2 at *
          generalize tf2.length = ct2 at *
          generalize hcp : cpl T j2 = cp at *
          generalize hfo : anyC T j2 = fo at *
          have HX2 := Lib.hid hx2
          have HY2 := Lib.hid hy2
          have HAJ := Lib.hid AJ
          have hlT2 : (ints T2).length = 24 := by rw [ints_len]; exact TL2
          have HLT2 := Lib.hid hlT2
          clear hx2 hy2 hlT2 AJ hcp hfo
          go_upto_region 50 with fail
          go_cut [53, 54, 55] from 343 to 358 (fun s53 s54 s55 wx => ∃ Bx : Nat, s53 = .pointer (some ⟨Bx, 0, none⟩) ∧ s54 = .int .i64 am2 ∧ s55 = .bool true ∧ Has wx Bx T2 24 ∧ Has wx B1 ns 24 ∧ Has wx B3 T 24 ∧ Hid (Rw wx 0 (.slice a9 pn c9) pn pf) ∧ Hid (Rw wx 0 (.slice (some ⟨pgB3, 0, none⟩) hn c35) hn hf) ∧ Hid (Kept w wx) ∧ Hid (Nu wx 0 (.slice a47 ct c47) ct tf) ∧ Hid (Rw wx 0 (.slice (some ⟨pgB4, 0, none⟩) tu c49) tu uf))
          case first => as_aux_lemma =>
            replace H3 := H3.drew
            replace TZB3 := TZB3.drew
            replace Q9 := Lib.hid Q9.out.drew
            replace Q35 := Lib.hid Q35.out.drew
            replace HB := Lib.hid (keptDrewT HB.out)
            replace Q47 := Lib.hid (nuDrewT Q47.out)
            replace Q49 := Lib.hid Q49.out.drew
            refine wp_region_held_drew (S := fun w' => Rw w' 0 (.slice (some ⟨pgB4, 0, none⟩) tu c49) tu uf ∧ Has w' B3 T 24) (by kernel_rfl) ⟨Q49.out, TZB3⟩ (fun hHeld => ?_)
            generalize World.drew _ = VB4 at *
            (refine wpAnyH_take (i := 1) (v := ?_) rfl (by kernel_rfl) (by kernel_rfl) (by kernel_rfl) (fun _ _ _ h => h) (Or.inl ⟨by rfl, ?_⟩) hHeld ?_; rotate_left; (· (intro w' hSw; go_simp; try with_reducible rfl)); (try simp only [List.getElem_toArray, List.getElem_cons_zero, List.getElem_cons_succ, Act.put, List.setIfInBounds_toArray, List.set_cons_zero, List.set_cons_succ])); (refine wpAnyH_take (i := 2) (v := ?_) rfl (by kernel_rfl) (by kernel_rfl) (by kernel_rfl) (fun _ _ _ h => h) (Or.inl ⟨by rfl, ?_⟩) hHeld ?_; rotate_left; (· (intro w' hSw; go_simp; try with_reducible rfl)); (try simp only [List.getElem_toArray, List.getElem_cons_zero, List.getElem_cons_succ, Act.put, List.setIfInBounds_toArray, List.set_cons_zero, List.set_cons_succ])); (refine wpAnyH_take (i := 3) (v := ?_) rfl (by kernel_rfl) (by kernel_rfl) (by kernel_rfl) (fun _ _ _ h => h) (Or.inl ⟨by rfl, ?_⟩) hHeld ?_; rotate_left; (· (intro w' hSw; go_simp; try with_reducible rfl)); (try simp only [List.getElem_toArray, List.getElem_cons_zero, List.getElem_cons_succ, Act.put, List.setIfInBounds_toArray, List.set_cons_zero, List.set_cons_succ])); (refine wpAnyH_take (i := 4) (v := ?_) rfl (by kernel_rfl) (by kernel_rfl) (by kernel_rfl) (fun _ _ _ h => h) (Or.inl ⟨by rfl, ?_⟩) hHeld ?_; rotate_left; (· (intro w' hSw; go_simp; try with_reducible rfl)); (try simp only [List.getElem_toArray, List.getElem_cons_zero, List.getElem_cons_succ, Act.put, List.setIfInBounds_toArray, List.set_cons_zero, List.set_cons_succ]))
            (refine wpAnyH_take (i := 0) (v := _) rfl (by kernel_rfl) (by kernel_rfl) (by kernel_rfl) (fun _ _ _ h => h) (yieldsIf_load_mid (by rfl) 27 _ rfl _ _ rfl (ints T) _ (fun w' hSw => hSw.2.holds.range) Try.underlying27 rfl (hiT.out)) hHeld ?_; (try simp only [List.getElem_toArray, List.getElem_cons_zero, List.getElem_cons_succ, Act.put, List.setIfInBounds_toArray, List.set_cons_zero, List.set_cons_succ]))
            (refine wpAnyH_take (i := 5) (v := .int .i64 x2) rfl (by kernel_rfl) (by kernel_rfl) (by kernel_rfl) (fun _ _ _ h => h) (Or.inl ⟨by rfl, ?_⟩) hHeld ?_; (· (intro w' hSw; have q := hSw.1.cellX (by omega) HX2.out; clear hSw; go_simp; try with_reducible rfl)); (try simp only [List.getElem_toArray, List.getElem_cons_zero, List.getElem_cons_succ, Act.put, List.setIfInBounds_toArray, List.set_cons_zero, List.set_cons_succ]))
            (refine wpAnyH_take (i := 6) (v := ?_) rfl (by kernel_rfl) (by kernel_rfl) (by kernel_rfl) (fun _ _ _ h => h) (Or.inl ⟨by rfl, ?_⟩) hHeld ?_; rotate_left; (· (intro w' hSw; go_simp; try with_reducible rfl)); (try simp only [List.getElem_toArray, List.getElem_cons_zero, List.getElem_cons_succ, Act.put, List.setIfInBounds_toArray, List.set_cons_zero, List.set_cons_succ])); (refine wpAnyH_take (i := 7) (v := ?_) rfl (by kernel_rfl) (by kernel_rfl) (by kernel_rfl) (fun _ _ _ h => h) (Or.inl ⟨by rfl, ?_⟩) hHeld ?_; rotate_left; (· (intro w' hSw; go_simp; try with_reducible rfl)); (try simp only [List.getElem_toArray, List.getElem_cons_zero, List.getElem_cons_succ, Act.put, List.setIfInBounds_toArray, List.set_cons_zero, List.set_cons_succ])); (refine wpAnyH_take (i := 8) (v := ?_) rfl (by kernel_rfl) (by kernel_rfl) (by kernel_rfl) (fun _ _ _ h => h) (Or.inl ⟨by rfl, ?_⟩) hHeld ?_; rotate_left; (· (intro w' hSw; go_simp; try with_reducible rfl)); (try simp only [List.getElem_toArray, List.getElem_cons_zero, List.getElem_cons_succ, Act.put, List.setIfInBounds_toArray, List.set_cons_zero, List.set_cons_succ])); (refine wpAnyH_take (i := 9) (v := ?_) rfl (by kernel_rfl) (by kernel_rfl) (by kernel_rfl) (fun _ _ _ h => h) (Or.inl ⟨by rfl, ?_⟩) hHeld ?_; rotate_left; (· (intro w' hSw; go_simp; try with_reducible rfl)); (try simp only [List.getElem_toArray, List.getElem_cons_zero, List.getElem_cons_succ, Act.put, List.setIfInBounds_toArray, List.set_cons_zero, List.set_cons_succ]))
            (refine wpAnyH_take (i := 10) (v := .int .i64 y2) rfl (by kernel_rfl) (by kernel_rfl) (by kernel_rfl) (fun _ _ _ h => h) (Or.inl ⟨by rfl, ?_⟩) hHeld ?_; (· (intro w' hSw; have q := hSw.1.cellX (by omega) HY2.out; clear hSw; go_simp; try with_reducible rfl)); (try simp only [List.getElem_toArray, List.getElem_cons_zero, List.getElem_cons_succ, Act.put, List.setIfInBounds_toArray, List.set_cons_zero, List.set_cons_succ]))
            refine wpAnyH_ready (rs := [11, 16]) (by kernel_rfl) (by simp) ?_
            refine AllReadyH.cons (o := _) rfl (fun K hK => ?_) (AllReadyH.cons (o := _) rfl (fun K hK => ?_) AllReadyH.nil)
            rotate_left
            · (simp only [List.getElem_toArray, List.getElem_cons_zero, List.getElem_cons_succ, Region.wanted, if_true])
              go_simp
              have loQ9 := Lib.hid (fun hn k hk => (Q9.out.ownlt hn k hk).2)
              have loQ35 := Lib.hid (fun hn k hk => (Q35.out.ownlt hn k hk).2)
              have loQ49 := Lib.hid (fun hn k hk => (Q49.out.ownlt hn k hk).2)
              have loQ47 := Lib.hid (fun k hk => (Q47.out.own k hk).2)
              have loH3 := H3.lt
              have loTZB3 := TZB3.lt
              have loB := HB.out.size
              have TZB4 := Has.zero24 VB4 27
              have l4 : VB4.heap.size < (VB4.alloc (.cells #[.int .i64 0, .int .i64 0, .int .i64 0, .int .i64 0, .int .i64 0, .int .i64 0, .int .i64 0, .int .i64 0, .int .i64 0, .int .i64 0, .int .i64 0, .int .i64 0, .int .i64 0, .int .i64 0, .int .i64 0, .int .i64 0, .int .i64 0, .int .i64 0, .int .i64 0, .int .i64 0, .int .i64 0, .int .i64 0, .int .i64 0, .int .i64 0] 27)).heap.size := by rw [size1]; omega
              refine hK.out _ _ ⟨hHeld.1.alloc _, hHeld.2.alloc _⟩ (fun hHeld => ?_)
              clear hK K
              replace H3 := H3.alloc (.cells #[.int .i64 0, .int .i64 0, .int .i64 0, .int .i64 0, .int .i64 0, .int .i64 0, .int .i64 0, .int .i64 0, .int .i64 0, .int .i64 0, .int .i64 0, .int .i64 0, .int .i64 0, .int .i64 0, .int .i64 0, .int .i64 0, .int .i64 0, .int .i64 0, .int .i64 0, .int .i64 0, .int .i64 0, .int .i64 0, .int .i64 0, .int .i64 0] 27)
              replace TZB3 := TZB3.alloc (.cells #[.int .i64 0, .int .i64 0, .int .i64 0, .int .i64 0, .int .i64 0, .int .i64 0, .int .i64 0, .int .i64 0, .int .i64 0, .int .i64 0, .int .i64 0, .int .i64 0, .int .i64 0, .int .i64 0, .int .i64 0, .int .i64 0, .int .i64 0, .int .i64 0, .int .i64 0, .int .i64 0, .int .i64 0, .int .i64 0, .int .i64 0, .int .i64 0] 27)
              replace Q9 := Lib.hid (Q9.out.alloc (.cells #[.int .i64 0, .int .i64 0, .int .i64 0, .int .i64 0, .int .i64 0, .int .i64 0, .int .i64 0, .int .i64 0, .int .i64 0, .int .i64 0, .int .i64 0, .int .i64 0, .int .i64 0, .int .i64 0, .int .i64 0, .int .i64 0, .int .i64 0, .int .i64 0, .int .i64 0, .int .i64 0, .int .i64 0, .int .i64 0, .int .i64 0, .int .i64 0] 27))
              replace Q35 := Lib.hid (Q35.out.alloc (.cells #[.int .i64 0, .int .i64 0, .int .i64 0, .int .i64 0, .int .i64 0, .int .i64 0, .int .i64 0, .int .i64 0, .int .i64 0, .int .i64 0, .int .i64 0, .int .i64 0, .int .i64 0, .int .i64 0, .int .i64 0, .int .i64 0, .int .i64 0, .int .i64 0, .int .i64 0, .int .i64 0, .int .i64 0, .int .i64 0, .int .i64 0, .int .i64 0] 27))
              replace HB := Lib.hid (HB.out.alloc (.cells #[.int .i64 0, .int .i64 0, .int .i64 0, .int .i64 0, .int .i64 0, .int .i64 0, .int .i64 0, .int .i64 0, .int .i64 0, .int .i64 0, .int .i64 0, .int .i64 0, .int .i64 0, .int .i64 0, .int .i64 0, .int .i64 0, .int .i64 0, .int .i64 0, .int .i64 0, .int .i64 0, .int .i64 0, .int .i64 0, .int .i64 0, .int .i64 0] 27))
              replace Q47 := Lib.hid (Q47.out.alloc (.cells #[.int .i64 0, .int .i64 0, .int .i64 0, .int .i64 0, .int .i64 0, .int .i64 0, .int .i64 0, .int .i64 0, .int .i64 0, .int .i64 0, .int .i64 0, .int .i64 0, .int .i64 0, .int .i64 0, .int .i64 0, .int .i64 0, .int .i64 0, .int .i64 0, .int .i64 0, .int .i64 0, .int .i64 0, .int .i64 0, .int .i64 0, .int .i64 0] 27))
              replace Q49 := Lib.hid (Q49.out.alloc (.cells #[.int .i64 0, .int .i64 0, .int .i64 0, .int .i64 0, .int .i64 0, .int .i64 0, .int .i64 0, .int .i64 0, .int .i64 0, .int .i64 0, .int .i64 0, .int .i64 0, .int .i64 0, .int .i64 0, .int .i64 0, .int .i64 0, .int .i64 0, .int .i64 0, .int .i64 0, .int .i64 0, .int .i64 0, .int .i64 0, .int .i64 0, .int .i64 0] 27))
              (refine wpAnyH_ready (rs := [11]) (by kernel_rfl) (by simp) ?_; refine AllReadyH.cons (o := _) rfl (fun K hK => ?_) AllReadyH.nil; (simp only [List.getElem_toArray, List.getElem_cons_zero, List.getElem_cons_succ, Region.wanted, if_true]))
              go_simp
              refine (KP2.out _).mono ?_
              rintro e w10B4 ⟨rfl, b10⟩
              dsimp only
              (try simp only [List.getElem_toArray, List.getElem_cons_zero, List.getElem_cons_succ, Act.put, List.setIfInBounds_toArray, List.set_cons_zero, List.set_cons_succ])
              refine hK.out _ _ ⟨hHeld.1.below b10, hHeld.2.below b10⟩ (fun hHeld => ?_)
              clear hK K
              replace TZB4 := TZB4.below b10
              replace H3 := H3.below b10
              replace TZB3 := TZB3.below b10
              replace Q9 := Lib.hid (Q9.out.below b10)
              replace Q35 := Lib.hid (Q35.out.below b10)
              replace HB := Lib.hid (HB.out.call b10)
              replace Q47 := Lib.hid (Q47.out.below b10)
              replace Q49 := Lib.hid (Q49.out.below b10)
              clear b10 l4
              (refine wpAnyH_take (i := 12) (v := ?_) rfl (by kernel_rfl) (by kernel_rfl) (by kernel_rfl) (fun _ _ _ h => h) (Or.inl ⟨by rfl, ?_⟩) hHeld ?_; rotate_left; (· (intro w' hSw; go_simp; try with_reducible rfl)); (try simp only [List.getElem_toArray, List.getElem_cons_zero, List.getElem_cons_succ, Act.put, List.setIfInBounds_toArray, List.set_cons_zero, List.set_cons_succ])); (refine wpAnyH_take (i := 13) (v := ?_) rfl (by kernel_rfl) (by kernel_rfl) (by kernel_rfl) (fun _ _ _ h => h) (Or.inl ⟨by rfl, ?_⟩) hHeld ?_; rotate_left; (· (intro w' hSw; go_simp; try with_reducible rfl)); (try simp only [List.getElem_toArray, List.getElem_cons_zero, List.getElem_cons_succ, Act.put, List.setIfInBounds_toArray, List.set_cons_zero, List.set_cons_succ])); (refine wpAnyH_take (i := 14) (v := ?_) rfl (by kernel_rfl) (by kernel_rfl) (by kernel_rfl) (fun _ _ _ h => h) (Or.inl ⟨by rfl, ?_⟩) hHeld ?_; rotate_left; (· (intro w' hSw; go_simp; try with_reducible rfl)); (try simp only [List.getElem_toArray, List.getElem_cons_zero, List.getElem_cons_succ, Act.put, List.setIfInBounds_toArray, List.set_cons_zero, List.set_cons_succ])); (refine wpAnyH_take (i := 15) (v := ?_) rfl (by kernel_rfl) (by kernel_rfl) (by kernel_rfl) (fun _ _ _ h => h) (Or.inl ⟨by rfl, ?_⟩) hHeld ?_; rotate_left; (· (intro w' hSw; go_simp; try with_reducible rfl)); (try simp only [List.getElem_toArray, List.getElem_cons_zero, List.getElem_cons_succ, Act.put, List.setIfInBounds_toArray, List.set_cons_zero, List.set_cons_succ]))
              have SF := And.intro (hHeld.1.puts (VB4.heap.size) 0 (ints T2) (fun hi e => by have := loQ49.out hi _ e; omega)) (hHeld.2.putOther (b' := VB4.heap.size) 0 (ints T2) (by omega))
              (refine wpAnyH_ready (rs := [17]) (by kernel_rfl) (by simp) ?_; refine AllReadyH.cons (o := _) rfl (fun K hK => ?_) AllReadyH.nil; (simp only [List.getElem_toArray, List.getElem_cons_zero, List.getElem_cons_succ, Region.wanted, if_true]); refine wp_store_mid _ _ _ rfl _ _ (ints T2).toArray rfl rfl (by simpa [HLT2.out] using TZB4.there) (by simpa [HLT2.out] using HI24.out) (all_oneCell_toArray (ints_one _)) ?_; (try simp only [List.getElem_toArray, List.getElem_cons_zero, List.getElem_cons_succ, Act.put, List.setIfInBounds_toArray, List.set_cons_zero, List.set_cons_succ, List.toList_toArray]); refine hK.out _ _ (SF) (fun hHeld => ?_); clear hK K)
              replace TZB4 := TZB4.putAll T2 TL2
              replace H3 := H3.putOther (b' := VB4.heap.size) 0 (ints T2) (by omega)
              replace TZB3 := TZB3.putOther (b' := VB4.heap.size) 0 (ints T2) (by omega)
              replace Q9 := Lib.hid (Q9.out.puts (VB4.heap.size) 0 (ints T2) (fun hi e => by have := loQ9.out hi _ e; omega))
              replace Q35 := Lib.hid (Q35.out.puts (VB4.heap.size) 0 (ints T2) (fun hi e => by have := loQ35.out hi _ e; omega))
              replace HB := Lib.hid (HB.out.puts (b := VB4.heap.size) (by omega) 0 (ints T2))
              replace Q47 := Lib.hid (nuPutsT Q47.out (VB4.heap.size) 0 (ints T2) (fun z e => by have := loQ47.out z e; omega))
              replace Q49 := Lib.hid (Q49.out.puts (VB4.heap.size) 0 (ints T2) (fun hi e => by have := loQ49.out hi _ e; omega))
              (refine wpAnyH_take (i := 18) (v := ?_) rfl (by kernel_rfl) (by kernel_rfl) (by kernel_rfl) (fun _ _ _ h => h) (Or.inl ⟨by rfl, ?_⟩) hHeld ?_; rotate_left; (· (intro w' hSw; go_simp; try with_reducible rfl)); (try simp only [List.getElem_toArray, List.getElem_cons_zero, List.getElem_cons_succ, Act.put, List.setIfInBounds_toArray, List.set_cons_zero, List.set_cons_succ])); (refine wpAnyH_take (i := 19) (v := ?_) rfl (by kernel_rfl) (by kernel_rfl) (by kernel_rfl) (fun _ _ _ h => h) (Or.inl ⟨by rfl, ?_⟩) hHeld ?_; rotate_left; (· (intro w' hSw; go_simp; try with_reducible rfl)); (try simp only [List.getElem_toArray, List.getElem_cons_zero, List.getElem_cons_succ, Act.put, List.setIfInBounds_toArray, List.set_cons_zero, List.set_cons_succ]))
              refine wpAnyH_done (by kernel_rfl) ?_ _
              clear hHeld loB SF KP2 loQ9 loQ35 loQ49 loQ47 loH3 loTZB3
              obtain ⟨B4, hB⟩ : ∃ B4, VB4.heap.size = B4 := ⟨_, rfl⟩
              rw [hB] at TZB4 H3 TZB3 Q9 Q35 HB Q47 Q49 ⊢
              generalize (w10B4).setCells B4 0 (ints T2) = VFB4 at *
              clear hB
              go_wp2_with fail
              go_meet
              case rel => exact ⟨B4, rfl, rfl, rfl, TZB4, H3, TZB3, Q9, Q35, HB, Q47, Q49⟩
            · (simp only [List.getElem_toArray, List.getElem_cons_zero, List.getElem_cons_succ, Region.wanted, if_true])
              go_simp
              refine (KP2.out _).mono ?_
              rintro e w10B4 ⟨rfl, b10⟩
              dsimp only
              (try simp only [List.getElem_toArray, List.getElem_cons_zero, List.getElem_cons_succ, Act.put, List.setIfInBounds_toArray, List.set_cons_zero, List.set_cons_succ])
              refine hK.out _ _ ⟨hHeld.1.below b10, hHeld.2.below b10⟩ (fun hHeld => ?_)
              clear hK K
              replace H3 := H3.below b10
              replace TZB3 := TZB3.below b10
              replace Q9 := Lib.hid (Q9.out.below b10)
              replace Q35 := Lib.hid (Q35.out.below b10)
              replace HB := Lib.hid (HB.out.call b10)
              replace Q47 := Lib.hid (Q47.out.below b10)
              replace Q49 := Lib.hid (Q49.out.below b10)
              clear b10
              (refine wpAnyH_take (i := 12) (v := ?_) rfl (by kernel_rfl) (by kernel_rfl) (by kernel_rfl) (fun _ _ _ h => h) (Or.inl ⟨by rfl, ?_⟩) hHeld ?_; rotate_left; (· (intro w' hSw; go_simp; try with_reducible rfl)); (try simp only [List.getElem_toArray, List.getElem_cons_zero, List.getElem_cons_succ, Act.put, List.setIfInBounds_toArray, List.set_cons_zero, List.set_cons_succ])); (refine wpAnyH_take (i := 13) (v := ?_) rfl (by kernel_rfl) (by kernel_rfl) (by kernel_rfl) (fun _ _ _ h => h) (Or.inl ⟨by rfl, ?_⟩) hHeld ?_; rotate_left; (· (intro w' hSw; go_simp; try with_reducible rfl)); (try simp only [List.getElem_toArray, List.getElem_cons_zero, List.getElem_cons_succ, Act.put, List.setIfInBounds_toArray, List.set_cons_zero, List.set_cons_succ])); (refine wpAnyH_take (i := 14) (v := ?_) rfl (by kernel_rfl) (by kernel_rfl) (by kernel_rfl) (fun _ _ _ h => h) (Or.inl ⟨by rfl, ?_⟩) hHeld ?_; rotate_left; (· (intro w' hSw; go_simp; try with_reducible rfl)); (try simp only [List.getElem_toArray, List.getElem_cons_zero, List.getElem_cons_succ, Act.put, List.setIfInBounds_toArray, List.set_cons_zero, List.set_cons_succ])); (refine wpAnyH_take (i := 15) (v := ?_) rfl (by kernel_rfl) (by kernel_rfl) (by kernel_rfl) (fun _ _ _ h => h) (Or.inl ⟨by rfl, ?_⟩) hHeld ?_; rotate_left; (· (intro w' hSw; go_simp; try with_reducible rfl)); (try simp only [List.getElem_toArray, List.getElem_cons_zero, List.getElem_cons_succ, Act.put, List.setIfInBounds_toArray, List.set_cons_zero, List.set_cons_succ]))
              have loQ9 := Lib.hid (fun hn k hk => (Q9.out.ownlt hn k hk).2)
              have loQ35 := Lib.hid (fun hn k hk => (Q35.out.ownlt hn k hk).2)
              have loQ49 := Lib.hid (fun hn k hk => (Q49.out.ownlt hn k hk).2)
              have loQ47 := Lib.hid (fun k hk => (Q47.out.own k hk).2)
              have loH3 := H3.lt
              have loTZB3 := TZB3.lt
              have loB := HB.out.size
              have TZB4 := Has.zero24 w10B4 27
              (refine wpAnyH_ready (rs := [16]) (by kernel_rfl) (by simp) ?_; refine AllReadyH.cons (o := _) rfl (fun K hK => ?_) AllReadyH.nil; (simp only [List.getElem_toArray, List.getElem_cons_zero, List.getElem_cons_succ, Region.wanted, if_true]))
              go_simp
              refine hK.out _ _ ⟨hHeld.1.alloc _, hHeld.2.alloc _⟩ (fun hHeld => ?_)
              clear hK K
              replace H3 := H3.alloc (.cells #[.int .i64 0, .int .i64 0, .int .i64 0, .int .i64 0, .int .i64 0, .int .i64 0, .int .i64 0, .int .i64 0, .int .i64 0, .int .i64 0, .int .i64 0, .int .i64 0, .int .i64 0, .int .i64 0, .int .i64 0, .int .i64 0, .int .i64 0, .int .i64 0, .int .i64 0, .int .i64 0, .int .i64 0, .int .i64 0, .int .i64 0, .int .i64 0] 27)
              replace TZB3 := TZB3.alloc (.cells #[.int .i64 0, .int .i64 0, .int .i64 0, .int .i64 0, .int .i64 0, .int .i64 0, .int .i64 0, .int .i64 0, .int .i64 0, .int .i64 0, .int .i64 0, .int .i64 0, .int .i64 0, .int .i64 0, .int .i64 0, .int .i64 0, .int .i64 0, .int .i64 0, .int .i64 0, .int .i64 0, .int .i64 0, .int .i64 0, .int .i64 0, .int .i64 0] 27)
              replace Q9 := Lib.hid (Q9.out.alloc (.cells #[.int .i64 0, .int .i64 0, .int .i64 0, .int .i64 0, .int .i64 0, .int .i64 0, .int .i64 0, .int .i64 0, .int .i64 0, .int .i64 0, .int .i64 0, .int .i64 0, .int .i64 0, .int .i64 0, .int .i64 0, .int .i64 0, .int .i64 0, .int .i64 0, .int .i64 0, .int .i64 0, .int .i64 0, .int .i64 0, .int .i64 0, .int .i64 0] 27))
              replace Q35 := Lib.hid (Q35.out.alloc (.cells #[.int .i64 0, .int .i64 0, .int .i64 0, .int .i64 0, .int .i64 0, .int .i64 0, .int .i64 0, .int .i64 0, .int .i64 0, .int .i64 0, .int .i64 0, .int .i64 0, .int .i64 0, .int .i64 0, .int .i64 0, .int .i64 0, .int .i64 0, .int .i64 0, .int .i64 0, .int .i64 0, .int .i64 0, .int .i64 0, .int .i64 0, .int .i64 0] 27))
              replace HB := Lib.hid (HB.out.alloc (.cells #[.int .i64 0, .int .i64 0, .int .i64 0, .int .i64 0, .int .i64 0, .int .i64 0, .int .i64 0, .int .i64 0, .int .i64 0, .int .i64 0, .int .i64 0, .int .i64 0, .int .i64 0, .int .i64 0, .int .i64 0, .int .i64 0, .int .i64 0, .int .i64 0, .int .i64 0, .int .i64 0, .int .i64 0, .int .i64 0, .int .i64 0, .int .i64 0] 27))
              replace Q47 := Lib.hid (Q47.out.alloc (.cells #[.int .i64 0, .int .i64 0, .int .i64 0, .int .i64 0, .int .i64 0, .int .i64 0, .int .i64 0, .int .i64 0, .int .i64 0, .int .i64 0, .int .i64 0, .int .i64 0, .int .i64 0, .int .i64 0, .int .i64 0, .int .i64 0, .int .i64 0, .int .i64 0, .int .i64 0, .int .i64 0, .int .i64 0, .int .i64 0, .int .i64 0, .int .i64 0] 27))
              replace Q49 := Lib.hid (Q49.out.alloc (.cells #[.int .i64 0, .int .i64 0, .int .i64 0, .int .i64 0, .int .i64 0, .int .i64 0, .int .i64 0, .int .i64 0, .int .i64 0, .int .i64 0, .int .i64 0, .int .i64 0, .int .i64 0, .int .i64 0, .int .i64 0, .int .i64 0, .int .i64 0, .int .i64 0, .int .i64 0, .int .i64 0, .int .i64 0, .int .i64 0, .int .i64 0, .int .i64 0] 27))
              have SF := And.intro (hHeld.1.puts (w10B4.heap.size) 0 (ints T2) (fun hi e => by have := loQ49.out hi _ e; omega)) (hHeld.2.putOther (b' := w10B4.heap.size) 0 (ints T2) (by omega))
              (refine wpAnyH_ready (rs := [17]) (by kernel_rfl) (by simp) ?_; refine AllReadyH.cons (o := _) rfl (fun K hK => ?_) AllReadyH.nil; (simp only [List.getElem_toArray, List.getElem_cons_zero, List.getElem_cons_succ, Region.wanted, if_true]); refine wp_store_mid _ _ _ rfl _ _ (ints T2).toArray rfl rfl (by simpa [HLT2.out] using TZB4.there) (by simpa [HLT2.out] using HI24.out) (all_oneCell_toArray (ints_one _)) ?_; (try simp only [List.getElem_toArray, List.getElem_cons_zero, List.getElem_cons_succ, Act.put, List.setIfInBounds_toArray, List.set_cons_zero, List.set_cons_succ, List.toList_toArray]); refine hK.out _ _ (SF) (fun hHeld => ?_); clear hK K)
              replace TZB4 := TZB4.putAll T2 TL2
              replace H3 := H3.putOther (b' := w10B4.heap.size) 0 (ints T2) (by omega)
              replace TZB3 := TZB3.putOther (b' := w10B4.heap.size) 0 (ints T2) (by omega)
              replace Q9 := Lib.hid (Q9.out.puts (w10B4.heap.size) 0 (ints T2) (fun hi e => by have := loQ9.out hi _ e; omega))
              replace Q35 := Lib.hid (Q35.out.puts (w10B4.heap.size) 0 (ints T2) (fun hi e => by have := loQ35.out hi _ e; omega))
              replace HB := Lib.hid (HB.out.puts (b := w10B4.heap.size) (by omega) 0 (ints T2))
              replace Q47 := Lib.hid (nuPutsT Q47.out (w10B4.heap.size) 0 (ints T2) (fun z e => by have := loQ47.out z e; omega))
              replace Q49 := Lib.hid (Q49.out.puts (w10B4.heap.size) 0 (ints T2) (fun hi e => by have := loQ49.out hi _ e; omega))
              (refine wpAnyH_take (i := 18) (v := ?_) rfl (by kernel_rfl) (by kernel_rfl) (by kernel_rfl) (fun _ _ _ h => h) (Or.inl ⟨by rfl, ?_⟩) hHeld ?_; rotate_left; (· (intro w' hSw; go_simp; try with_reducible rfl)); (try simp only [List.getElem_toArray, List.getElem_cons_zero, List.getElem_cons_succ, Act.put, List.setIfInBounds_toArray, List.set_cons_zero, List.set_cons_succ])); (refine wpAnyH_take (i := 19) (v := ?_) rfl (by kernel_rfl) (by kernel_rfl) (by kernel_rfl) (fun _ _ _ h => h) (Or.inl ⟨by rfl, ?_⟩) hHeld ?_; rotate_left; (· (intro w' hSw; go_simp; try with_reducible rfl)); (try simp only [List.getElem_toArray, List.getElem_cons_zero, List.getElem_cons_succ, Act.put, List.setIfInBounds_toArray, List.set_cons_zero, List.set_cons_succ]))
              refine wpAnyH_done (by kernel_rfl) ?_ _
              clear hHeld loB SF KP2 loQ9 loQ35 loQ49 loQ47 loH3 loTZB3
              obtain ⟨B4, hB⟩ : ∃ B4, w10B4.heap.size = B4 := ⟨_, rfl⟩
              rw [hB] at TZB4 H3 TZB3 Q9 Q35 HB Q47 Q49 ⊢
              generalize (w10B4.alloc (.cells #[.int .i64 0, .int .i64 0, .int .i64 0, .int .i64 0, .int .i64 0, .int .i64 0, .int .i64 0, .int .i64 0, .int .i64 0, .int .i64 0, .int .i64 0, .int .i64 0, .int .i64 0, .int .i64 0, .int .i64 0, .int .i64 0, .int .i64 0, .int .i64 0, .int .i64 0, .int .i64 0, .int .i64 0, .int .i64 0, .int .i64 0, .int .i64 0] 27)).setCells B4 0 (ints T2) = VFB4 at *
              clear hB
              go_wp2_with fail
              go_meet
              case rel => exact ⟨B4, rfl, rfl, rfl, TZB4, H3, TZB3, Q9, Q35, HB, Q47, Q49⟩
          clear H3 TZB3 Q9 Q35 HB Q47 Q49 KP2
          obtain ⟨B4, rfl, rfl, rfl, TZB4, H3, TZB3, Q9, Q35, HB, Q47, Q49⟩ := hcut
          obtain ⟨wxB4, hw⟩ : ∃ wxB4, wxB4 = wc := ⟨wc, rfl⟩
          subst hw
          go_wp2_with (refine guard_op (isLoad 27) ?_ ?_; (· rfl); (refine load_has rfl 27 _ rfl _ rfl ?_ 24 ?_ _ Try.underlying27 rfl ?_ ?_; rotate_left; (· (repeat (first | (with_reducible assumption) | ((with_reducible refine Has.box _ _ ?_ ?_) <;> (first | assumption | decide)) | (with_reducible refine Has.alloc ?_ _) | ((with_reducible refine Has.putOther ?_ _ _ ?_); rotate_left; omega; skip) | ((with_reducible refine Has.below ?_ ?_); rotate_left; assumption)))); (· kernel_rfl)))
          refine (KC2.out _).mono ?_
          rintro e w13 ⟨v56, rfl, q56, b13⟩
          have Q56 := Lib.hid (nuMonoT q56)
          clear q56
          replace H3 := H3.below b13
          replace TZB3 := TZB3.below b13
          replace Q9 := Lib.hid (Q9.out.below b13)
          replace Q35 := Lib.hid (Q35.out.below b13)
          replace HB := Lib.hid (HB.out.call b13)
          replace Q47 := Lib.hid (Q47.out.below b13)
          replace Q49 := Lib.hid (Q49.out.below b13)
          clear b13 KC2 TZB4
          cases fo
          case' true =>
            have E : Hid (anyC T (j2 + 1) = true) := Lib.hid (by rw [HAJ.out]; rfl)
            clear HAJ KN1 KN2 Q56
            go_wp2_with fail
            go_roundw
            case rel => exact ⟨j2 + 1, by omega, by go_num, by rw [E.out], H3, TZB3, Q9, Q35, HB, Q47, Q49⟩
            case measure => simp [intOf]; omega
          case' false =>
            have E : Hid (anyC T (j2 + 1) = cp) := Lib.hid (by rw [HAJ.out]; cases cp <;> rfl)
            have cy := Q49.out.cell (j2 * 2 + 1) (by omega)
            rw [HY2.out] at cy
            clear HAJ
            go_wp2_with fail
            refine (KN1.out _ _ Q47.out).mono ?_
            rintro e w14 ⟨rfl, hw14⟩
            subst hw14
            go_wp2_with fail
            refine (KN2.out _ _ Q56.out).mono ?_
            rintro e w15 ⟨rfl, hw15⟩
            subst hw15
            clear KN1 KN2 Q56
            go_wp2_with fail
            go_roundw
            case rel => exact ⟨j2 + 1, by omega, by go_num, by rw [E.out], H3, TZB3, Q9, Q35, HB, Q47, Q49⟩
            case measure => simp [intOf]; omega
        case' neg =>
          obtain rfl : j2 = tu := by omega
          rw [HAT.out]
          go_wp2_with fail
          go_roundw
          case rel => exact ⟨k + 1, by omega, by go_num, H3, Q9, Q35, HB⟩
          case measure => simp [intOf]; omega
    case' neg =>
      obtain rfl : k = hn := by omega
      clear Q35 HL KO KOT KCT KUT
      cases M
      case' false =>
        clear PP KPP
        go_wp2_with fail
        go_ret
        exact ⟨rfl, HB.out⟩
      case' true =>
        obtain ⟨q1, q2, q3⟩ := PP.out (by trivial)
        subst q1
        subst q2
        have Q3 := Lib.hid q3
        clear PP q3
        go_wp2_with (refine guard_op (isLoad 27) ?_ ?_; (· rfl); (refine load_has rfl 27 _ rfl _ rfl ?_ 24 ?_ _ Try.underlying27 rfl ?_ ?_; rotate_left; (· (repeat (first | (with_reducible assumption) | ((with_reducible refine Has.box _ _ ?_ ?_) <;> (first | assumption | decide)) | (with_reducible refine Has.alloc ?_ _) | ((with_reducible refine Has.putOther ?_ _ _ ?_); rotate_left; omega; skip) | ((with_reducible refine Has.below ?_ ?_); rotate_left; assumption)))); (· kernel_rfl)))
        refine (KPP.out _ _ Q9.out).mono ?_
        rintro e w24 ⟨rfl, bb⟩
        replace H3 := H3.below bb
        replace Q9 := Lib.hid (Q9.out.below bb)
        replace HB := Lib.hid (HB.out.call bb)
        clear bb
        clear KPP
        rw [row_ints, row_ints]
        have Zw24 := (Has.zero24 w24 27).alloc (.cells #[.int .i64 0, .int .i64 0] 36)
        have Yw24 : Has ((w24.alloc (.cells #[.int .i64 0, .int .i64 0, .int .i64 0, .int .i64 0, .int .i64 0, .int .i64 0, .int .i64 0, .int .i64 0, .int .i64 0, .int .i64 0, .int .i64 0, .int .i64 0, .int .i64 0, .int .i64 0, .int .i64 0, .int .i64 0, .int .i64 0, .int .i64 0, .int .i64 0, .int .i64 0, .int .i64 0, .int .i64 0, .int .i64 0, .int .i64 0] 27)).alloc (.cells #[.int .i64 0, .int .i64 0] 36)) (w24.heap.size + 1) [0, 0] 2 := (Has.box (ns := [0, 0]) (n := 2) (w24.alloc (.cells #[.int .i64 0, .int .i64 0, .int .i64 0, .int .i64 0, .int .i64 0, .int .i64 0, .int .i64 0, .int .i64 0, .int .i64 0, .int .i64 0, .int .i64 0, .int .i64 0, .int .i64 0, .int .i64 0, .int .i64 0, .int .i64 0, .int .i64 0, .int .i64 0, .int .i64 0, .int .i64 0, .int .i64 0, .int .i64 0, .int .i64 0, .int .i64 0] 27)) 36 rfl (by omega)).at (c := w24.heap.size + 1) (by simp)
        have KN := ((((kept_refl w24).alloc (.cells #[.int .i64 0, .int .i64 0, .int .i64 0, .int .i64 0, .int .i64 0, .int .i64 0, .int .i64 0, .int .i64 0, .int .i64 0, .int .i64 0, .int .i64 0, .int .i64 0, .int .i64 0, .int .i64 0, .int .i64 0, .int .i64 0, .int .i64 0, .int .i64 0, .int .i64 0, .int .i64 0, .int .i64 0, .int .i64 0, .int .i64 0, .int .i64 0] 27)).alloc (.cells #[.int .i64 0, .int .i64 0] 36)).puts (b := w24.heap.size) (Nat.le_refl _) 0 (ints rP)).puts (b := w24.heap.size + 1) (by omega) 0 (ints pP)
        have H58 := (Zw24.putAll rP hRP).putOther (b' := w24.heap.size + 1) 0 (ints pP) (by omega)
        have H59 := (Yw24.putOther (b' := w24.heap.size) 0 (ints rP) (by omega)).putAll pP hPP
        replace H3 := H3.below KN
        replace Q9 := Lib.hid (Q9.out.below KN)
        replace HB := Lib.hid (HB.out.call KN)
        clear KN
        go_upto_region 60 with (first | (refine store_at rfl 27 _ _ rfl _ _ rfl rfl ?_ 24 ?_ ?_ ?_ ?_; rotate_left; (· (repeat (first | (with_reducible assumption) | ((with_reducible refine Has.box _ _ ?_ ?_) <;> (first | assumption | decide)) | (with_reducible refine Has.alloc ?_ _) | ((with_reducible refine Has.putOther ?_ _ _ ?_); rotate_left; omega; skip) | ((with_reducible refine Has.below ?_ ?_); rotate_left; assumption)))); (· (first | assumption | rfl)); (· kernel_rfl)) | (refine store_at rfl 36 _ _ rfl _ _ rfl rfl ?_ 2 ?_ ?_ ?_ ?_; rotate_left; (· (repeat (first | (with_reducible assumption) | ((with_reducible refine Has.box _ _ ?_ ?_) <;> (first | assumption | decide)) | (with_reducible refine Has.alloc ?_ _) | ((with_reducible refine Has.putOther ?_ _ _ ?_); rotate_left; omega; skip) | ((with_reducible refine Has.below ?_ ?_); rotate_left; assumption)))); (· (first | assumption | rfl)); (· kernel_rfl)) | (refine guard_op (isLoad 27) ?_ ?_; (· rfl); (refine load_has rfl 27 _ rfl _ rfl ?_ 24 ?_ _ Try.underlying27 rfl ?_ ?_; rotate_left; (· (repeat (first | (with_reducible assumption) | ((with_reducible refine Has.box _ _ ?_ ?_) <;> (first | assumption | decide)) | (with_reducible refine Has.alloc ?_ _) | ((with_reducible refine Has.putOther ?_ _ _ ?_); rotate_left; omega; skip) | ((with_reducible refine Has.below ?_ ?_); rotate_left; assumption)))); (· kernel_rfl))))
        generalize World.setCells _ (w24.heap.size + 1) 0 (ints pP) = W58 at *
        obtain ⟨cW58, hc⟩ : ∃ c, w24.heap.size = c := ⟨_, rfl⟩
        rw [hc] at H58 H59 ⊢
        clear Zw24 Yw24 hc
        have g0 := H59.cell 0 (by omega)
        have g1 := H59.cell 1 (by omega)
        obtain ⟨p0, hp0⟩ : ∃ p0, pP.getD 0 0 = p0 := ⟨_, rfl⟩
        obtain ⟨p1, hp1⟩ : ∃ p1, pP.getD 1 0 = p1 := ⟨_, rfl⟩
        have q3 := Q3.out
        rw [hp0, hp1] at q3
        rw [hp0] at g0
        rw [hp1] at g1
        clear Q3 hp0 hp1
        go_wp2_with fail
        go_ret
        exact ⟨rfl, HB.out⟩
end Go.Proofs.Ytnldnjnnjfbhnab.base
