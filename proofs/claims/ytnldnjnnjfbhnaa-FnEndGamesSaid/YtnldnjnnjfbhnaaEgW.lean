/-
  The law of the ends of games: a drawn rack and a drawn number of turns, what both sides answer, and what the law asks of the answers.
-/
import Derived.Test.YtnldnjnnjfbhnaaSwapZ
import Derived.Test.YtnldnjnnjfbhnaaDrawPZ
import Derived.Test.YtnldnjnnjfbhnaaGmZZ
import Derived.Test.YtnldnjnnjfbhnaaGmE
import Derived.Test.YtnldnjnnjfbhnaaGmJZ
import Derived.Test.YtnldnjnnjfbhnaaGmQZ
import Derived.Test.YtnldnjnnjfbhnaaEqRZ
namespace Go.Proofs.Ytnldnjnnjfbhnaa.base
open Go.ChangeShapes Go.WideShapes Go.ChangeAt Go.RowKit
open Go.Proofs.Ytnldnjnnjfbhnaa.cur
set_option linter.unusedVariables false
set_option linter.unusedSimpArgs false

set_option maxHeartbeats 32000000 in
set_option maxRecDepth 200000 in
theorem endLaw (a : Option Addr) (len cap : Nat) (zs : List Int) (w : World) (w0 : IsRow .u8 w a len cap zs) :
    Calls Try.prog 3 #[.slice a len cap] w fun e w' => e = .returned (.bool true) ∧ Below w.heap.size w w' := by
  have hml : len ≤ maxLen := by
    rcases w0 with ⟨_, h, _⟩ | ⟨_, _, hlc, hm, _⟩
    · rw [h]; exact Nat.zero_le _
    · exact Nat.le_trans hlc hm
  by_cases hbig : (65536 : Int) < (len : Int)
  · go_enter Try.func3, Try.ntmps3
    go_wp2_with fail
    refine (rBig_any a len cap w hml).mono ?_
    rintro e w' ⟨rfl, rfl⟩
    rw [decide_eq_true hbig]
    go_wp2_with fail
    go_ret
    exact ⟨rfl, Below.refl _ _⟩
  have CO := Lib.hid (code_of w0 (by omega))
  have HBG := Lib.hid (rBig_any a len cap w hml)
  rw [decide_eq_false hbig] at HBG
  have HB := Lib.hid (kept_refl w)
  clear hbig w0 hml
  go_enter Try.func3, Try.ntmps3
  go_wp2_with fail
  refine HBG.out.mono ?_
  rintro e w' ⟨rfl, rfl⟩
  clear HBG
  go_wp2_with fail
  refine (drawEnd a len cap _ CO.out).mono ?_
  rintro e w1 ⟨ns, n, rfl, hl, hn1, hn4, b1⟩
  have H3 := Has.box w1 27 hl (by omega)
  replace HB := Lib.hid ((HB.out.call b1).alloc (.cells (ints ns).toArray 27))
  clear b1 CO
  have KV := Lib.hid (fun W => implEndValue ns n W hl)
  have SV := Lib.hid (fun W => specEndValue ns n W hl)
  have KP := Lib.hid (fun W => implEndPours ns n W hl)
  have SP := Lib.hid (fun W => specEndPours ns n W hl)
  have KL := Lib.hid (fun W => implLost ns W hl)
  have SL := Lib.hid (fun W => specLost ns W hl)
  have KI := Lib.hid (fun W => isRack_any ns W hl)
  have KR := Lib.hid (fun W => implReplies ns W hl)
  have SR := Lib.hid (fun W => specReplies ns W hl)
  have KU := Lib.hid (fun W => implUseful ns W hl)
  have KO := Lib.hid (fun i j W => implPour ns i j W hl)
  have KE := Lib.hid (fun t (ht : t.length = 24) W => implEndValue t (n - 1) W ht)
  have KT := Lib.hid (fun t (ht : t.length = 24) W => implUseful t W ht)
  have hiR := Lib.hid (show (Try.prog.info? 27).map (·.size) = some (ints ns).length by rw [ints_len, hl]; kernel_rfl)
  have HI24 := Lib.hid (show (Try.prog.info? 27).map (·.size) = some 24 by kernel_rfl)
  have VI := Lib.hid (gvE_in ns n)
  have N30 := use30 ns
  have B30 := bpNA_le ptE (-1) ns n
  have FM := Lib.hid (fun (h : gmOk ns n = true) => gmOk_of h)
  have FB := Lib.hid (bpE_not (r := ns) (n := n))
  have FZ := Lib.hid (gvE_zero (r := ns) (n := n))
  have FL := Lib.hid (gvE_lost (r := ns) (n := n))
  have FV := Lib.hid (gvE_live (r := ns) (n := n) hl)
  have FU := Lib.hid (us_live (r := ns) hl)
  have EL : Hid (lostA ns = (vR ns && decide (usefNA ns = 0))) := Lib.hid rfl
  have W1 : IntKind.i64.wrap (n - 1) = n - 1 := IntWalk.i64_in _ (by omega)
  unfold BpPost at KP SP
  unfold RepPost at KR SR
  unfold UsefPost at KU
  generalize lostA ns = L at *
  generalize gvA ptE (-1) ns n = v at *
  generalize gmOk ns n = M at *
  generalize bpOk ns n = O at *
  generalize bpNA ptE (-1) ns n = bn at *
  generalize bpFA ptE (-1) ns n = bf at *
  generalize replF ns (usefNA ns) = rl at *
  generalize usefNA ns = u at *
  generalize usefFA ns = uf at *
  generalize hV : vR ns = V at *
  clear hV
  have d1 : decide (v < -1) = false := by have := VI.out; simp; omega
  have d2 : decide (1 < v) = false := by have := VI.out; simp; omega
  go_wp2_with (first | (refine store_new rfl 27 _ _ rfl _ _ _ rfl _ rfl _ rfl rfl ?_ ?_ ?_; (· (first | assumption | rfl)); (· kernel_rfl)) | (refine guard_op (isLoad 27) ?_ ?_; (· rfl); (refine load_has rfl 27 _ rfl _ rfl ?_ 24 ?_ _ Try.underlying27 rfl ?_ ?_; rotate_left; (· (repeat (first | (with_reducible assumption) | ((with_reducible refine Has.box _ _ ?_ ?_) <;> (first | assumption | decide)) | (with_reducible refine Has.alloc ?_ _) | ((with_reducible refine Has.putOther ?_ _ _ ?_); rotate_left; omega; skip) | ((with_reducible refine Has.below ?_ ?_); rotate_left; assumption)))); (· kernel_rfl))))
  obtain ⟨B1, hB1⟩ : ∃ B1, w1.heap.size = B1 := ⟨_, rfl⟩
  rw [hB1] at H3 ⊢
  generalize w1.alloc (.cells (ints ns).toArray 27) = W1' at *
  clear hB1
  refine (KV.out _).mono ?_
  rintro e w2 ⟨rfl, bb⟩
  replace H3 := H3.below bb
  replace HB := Lib.hid (HB.out.call bb)
  clear bb
  go_wp2_with (refine guard_op (isLoad 27) ?_ ?_; (· rfl); (refine load_has rfl 27 _ rfl _ rfl ?_ 24 ?_ _ Try.underlying27 rfl ?_ ?_; rotate_left; (· (repeat (first | (with_reducible assumption) | ((with_reducible refine Has.box _ _ ?_ ?_) <;> (first | assumption | decide)) | (with_reducible refine Has.alloc ?_ _) | ((with_reducible refine Has.putOther ?_ _ _ ?_); rotate_left; omega; skip) | ((with_reducible refine Has.below ?_ ?_); rotate_left; assumption)))); (· kernel_rfl)))
  refine (SV.out _).mono ?_
  rintro e w3 ⟨rfl, bb⟩
  replace H3 := H3.below bb
  replace HB := Lib.hid (HB.out.call bb)
  clear bb
  clear KV SV
  cases M
  case' false =>
    have O0 := FB.out (Or.inl rfl)
    subst O0
    clear FB FM FZ FL FV
    go_wp2_with (refine guard_op (isLoad 27) ?_ ?_; (· rfl); (refine load_has rfl 27 _ rfl _ rfl ?_ 24 ?_ _ Try.underlying27 rfl ?_ ?_; rotate_left; (· (repeat (first | (with_reducible assumption) | ((with_reducible refine Has.box _ _ ?_ ?_) <;> (first | assumption | decide)) | (with_reducible refine Has.alloc ?_ _) | ((with_reducible refine Has.putOther ?_ _ _ ?_); rotate_left; omega; skip) | ((with_reducible refine Has.below ?_ ?_); rotate_left; assumption)))); (· kernel_rfl)))
    refine (KP.out _).mono ?_
    rintro e w4 ⟨v10, rfl, q, bb⟩
    replace H3 := H3.below bb
    replace HB := Lib.hid (HB.out.call bb)
    clear bb
    have Q10 := Lib.hid q.rw
    clear q
    go_wp2_with (refine guard_op (isLoad 27) ?_ ?_; (· rfl); (refine load_has rfl 27 _ rfl _ rfl ?_ 24 ?_ _ Try.underlying27 rfl ?_ ?_; rotate_left; (· (repeat (first | (with_reducible assumption) | ((with_reducible refine Has.box _ _ ?_ ?_) <;> (first | assumption | decide)) | (with_reducible refine Has.alloc ?_ _) | ((with_reducible refine Has.putOther ?_ _ _ ?_); rotate_left; omega; skip) | ((with_reducible refine Has.below ?_ ?_); rotate_left; assumption)))); (· kernel_rfl)))
    refine (SP.out _).mono ?_
    rintro e w5 ⟨v12, rfl, q, bb⟩
    replace H3 := H3.below bb
    replace HB := Lib.hid (HB.out.call bb)
    replace Q10 := Lib.hid (Q10.out.below bb)
    clear bb
    have Q12 := Lib.hid q.rw
    clear q
    go_wp2_with fail
    refine (rPairs_rw v10 v12 _ _ bn bf _ (by omega) Q10.out Q12.out).mono ?_
    rintro e w6 ⟨rfl, bb⟩
    replace H3 := H3.below bb
    replace HB := Lib.hid (HB.out.call bb)
    replace Q10 := Lib.hid (Q10.out.below bb)
    replace Q12 := Lib.hid (Q12.out.below bb)
    clear bb
    clear Q12
    go_wp2_with (refine guard_op (isLoad 27) ?_ ?_; (· rfl); (refine load_has rfl 27 _ rfl _ rfl ?_ 24 ?_ _ Try.underlying27 rfl ?_ ?_; rotate_left; (· (repeat (first | (with_reducible assumption) | ((with_reducible refine Has.box _ _ ?_ ?_) <;> (first | assumption | decide)) | (with_reducible refine Has.alloc ?_ _) | ((with_reducible refine Has.putOther ?_ _ _ ?_); rotate_left; omega; skip) | ((with_reducible refine Has.below ?_ ?_); rotate_left; assumption)))); (· kernel_rfl)))
    refine (KL.out _).mono ?_
    rintro e w7 ⟨rfl, bb⟩
    replace H3 := H3.below bb
    replace HB := Lib.hid (HB.out.call bb)
    replace Q10 := Lib.hid (Q10.out.below bb)
    clear bb
    go_wp2_with (refine guard_op (isLoad 27) ?_ ?_; (· rfl); (refine load_has rfl 27 _ rfl _ rfl ?_ 24 ?_ _ Try.underlying27 rfl ?_ ?_; rotate_left; (· (repeat (first | (with_reducible assumption) | ((with_reducible refine Has.box _ _ ?_ ?_) <;> (first | assumption | decide)) | (with_reducible refine Has.alloc ?_ _) | ((with_reducible refine Has.putOther ?_ _ _ ?_); rotate_left; omega; skip) | ((with_reducible refine Has.below ?_ ?_); rotate_left; assumption)))); (· kernel_rfl)))
    refine (SL.out _).mono ?_
    rintro e w8 ⟨rfl, bb⟩
    replace H3 := H3.below bb
    replace HB := Lib.hid (HB.out.call bb)
    replace Q10 := Lib.hid (Q10.out.below bb)
    clear bb
    go_wp2_with (refine guard_op (isLoad 27) ?_ ?_; (· rfl); (refine load_has rfl 27 _ rfl _ rfl ?_ 24 ?_ _ Try.underlying27 rfl ?_ ?_; rotate_left; (· (repeat (first | (with_reducible assumption) | ((with_reducible refine Has.box _ _ ?_ ?_) <;> (first | assumption | decide)) | (with_reducible refine Has.alloc ?_ _) | ((with_reducible refine Has.putOther ?_ _ _ ?_); rotate_left; omega; skip) | ((with_reducible refine Has.below ?_ ?_); rotate_left; assumption)))); (· kernel_rfl)))
    refine (KI.out _).mono ?_
    rintro e w9 ⟨rfl, bb⟩
    replace H3 := H3.below bb
    replace HB := Lib.hid (HB.out.call bb)
    replace Q10 := Lib.hid (Q10.out.below bb)
    clear bb
    go_wp2_with (refine guard_op (isLoad 27) ?_ ?_; (· rfl); (refine load_has rfl 27 _ rfl _ rfl ?_ 24 ?_ _ Try.underlying27 rfl ?_ ?_; rotate_left; (· (repeat (first | (with_reducible assumption) | ((with_reducible refine Has.box _ _ ?_ ?_) <;> (first | assumption | decide)) | (with_reducible refine Has.alloc ?_ _) | ((with_reducible refine Has.putOther ?_ _ _ ?_); rotate_left; omega; skip) | ((with_reducible refine Has.below ?_ ?_); rotate_left; assumption)))); (· kernel_rfl)))
    refine (KR.out _).mono ?_
    rintro e w10 ⟨v17, rfl, q, bb⟩
    replace H3 := H3.below bb
    replace HB := Lib.hid (HB.out.call bb)
    replace Q10 := Lib.hid (Q10.out.below bb)
    clear bb
    have Q17 := Lib.hid q
    clear q
    go_wp2_with (refine guard_op (isLoad 27) ?_ ?_; (· rfl); (refine load_has rfl 27 _ rfl _ rfl ?_ 24 ?_ _ Try.underlying27 rfl ?_ ?_; rotate_left; (· (repeat (first | (with_reducible assumption) | ((with_reducible refine Has.box _ _ ?_ ?_) <;> (first | assumption | decide)) | (with_reducible refine Has.alloc ?_ _) | ((with_reducible refine Has.putOther ?_ _ _ ?_); rotate_left; omega; skip) | ((with_reducible refine Has.below ?_ ?_); rotate_left; assumption)))); (· kernel_rfl)))
    refine (SR.out _).mono ?_
    rintro e w11 ⟨v19, rfl, q, bb⟩
    replace H3 := H3.below bb
    replace HB := Lib.hid (HB.out.call bb)
    replace Q10 := Lib.hid (Q10.out.below bb)
    replace Q17 := Lib.hid (Q17.out.below bb)
    clear bb
    have Q19 := Lib.hid q
    clear q
    go_wp2_with fail
    refine (rInts_same v17 v19 _ _ u rl _ (by omega) Q17.out Q19.out).mono ?_
    rintro e w12 ⟨rfl, bb⟩
    replace H3 := H3.below bb
    replace HB := Lib.hid (HB.out.call bb)
    replace Q10 := Lib.hid (Q10.out.below bb)
    replace Q17 := Lib.hid (Q17.out.below bb)
    replace Q19 := Lib.hid (Q19.out.below bb)
    clear bb
    clear Q19
    clear KP SP KL SL KI KR SR
    obtain ⟨B0, hB0⟩ : ∃ B0, Hid (Nu w12 B0 v17 u rl) := ⟨_, Q17⟩
    clear Q17
    rename Hid (Nu w12 B0 v17 u rl) => Q17
    obtain ⟨a10, c10, rfl⟩ := Q10.out.shape
    cases V
    case' false =>
      have l0 := EL.out
      rw [Bool.false_and] at l0
      subst l0
      clear EL FU
      obtain ⟨a17, c17, rfl⟩ := Q17.out.shape
      go_wp2_with fail
      go_ret
      exact ⟨rfl, HB.out⟩
    case' true =>
      by_cases hu : u = 0
      case' pos =>
        have l0 := EL.out
        rw [hu] at l0
        simp only [decide_true, Bool.and_true] at l0
        subst l0
        obtain ⟨ra, rcap, rfl⟩ := Q17.out.shape
        subst hu
        clear EL FU Q17 Q10
        go_wp2_with (refine guard_op (isLoad 27) ?_ ?_; (· rfl); (refine load_has rfl 27 _ rfl _ rfl ?_ 24 ?_ _ Try.underlying27 rfl ?_ ?_; rotate_left; (· (repeat (first | (with_reducible assumption) | ((with_reducible refine Has.box _ _ ?_ ?_) <;> (first | assumption | decide)) | (with_reducible refine Has.alloc ?_ _) | ((with_reducible refine Has.putOther ?_ _ _ ?_); rotate_left; omega; skip) | ((with_reducible refine Has.below ?_ ?_); rotate_left; assumption)))); (· kernel_rfl)))
        refine (KU.out _).mono ?_
        rintro e w13 ⟨v27, rfl, q27, bb⟩
        replace H3 := H3.below bb
        replace HB := Lib.hid (HB.out.call bb)
        clear bb
        obtain ⟨a27, c27, rfl⟩ := q27.rw.shape
        clear q27 KU
        go_wp2_with fail
        go_loop [29] (fun i => i = .int .i64 0) (fun _ => 0)
        case atStart => rfl
        case round =>
          obtain rfl := hrel
          go_wp2_with fail
          go_ret
          exact ⟨rfl, HB.out⟩
      case' neg =>
        have l0 := EL.out
        rw [decide_eq_false hu, Bool.and_false] at l0
        subst l0
        clear EL
        have e0 : ((u : Int) == 0) = false := by simp; omega
        have e1 : decide ((u : Int) = 0) = false := by simp; omega
        obtain ⟨rg, rcap, hrv, _, _⟩ := Q17.out.form (by omega)
        subst hrv
        have FY := Lib.hid (FU.out (by trivial))
        clear FU
        clear Q10
        go_wp2_with (refine guard_op (isLoad 27) ?_ ?_; (· rfl); (refine load_has rfl 27 _ rfl _ rfl ?_ 24 ?_ _ Try.underlying27 rfl ?_ ?_; rotate_left; (· (repeat (first | (with_reducible assumption) | ((with_reducible refine Has.box _ _ ?_ ?_) <;> (first | assumption | decide)) | (with_reducible refine Has.alloc ?_ _) | ((with_reducible refine Has.putOther ?_ _ _ ?_); rotate_left; omega; skip) | ((with_reducible refine Has.below ?_ ?_); rotate_left; assumption)))); (· kernel_rfl)))
        refine (KU.out _).mono ?_
        rintro e w14 ⟨v27, rfl, q27, bb⟩
        replace H3 := H3.below bb
        replace HB := Lib.hid (HB.out.call bb)
        replace Q17 := Lib.hid (Q17.out.below bb)
        clear bb
        have Q27 := Lib.hid q27.rw
        clear q27 KU
        obtain ⟨a27, c27, rfl⟩ := Q27.out.shape
        replace Q27 := Lib.hid (Q27.out.mono (b' := 0) (Nat.zero_le _))
        obtain ⟨pg, pcap, hpv, _, _⟩ := Q27.out.form (by omega)
        injection hpv with ha _ hcap
        subst ha
        subst hcap
        go_wp2_with fail
        go_loopw [29] (fun i wr => ∃ k : Nat, k ≤ u ∧ i = .int .i64 k ∧ Has wr B1 ns 24 ∧ Hid (Rw wr 0 (.slice (some ⟨pg, 0, none⟩) u c27) u uf) ∧ Hid (Nu wr B0 (.slice (some ⟨rg, 0, none⟩) u rcap) u rl) ∧ Hid (Kept w wr)) (fun i _ => u - (intOf i).toNat)
        case atStart => exact ⟨0, by omega, rfl, H3, Q27, Q17, HB⟩
        case round =>
          clear H3 Q27 Q17 HB
          obtain ⟨k, hk, rfl, H3, Q27, Q17, HB⟩ := hrel
          by_cases hkn : k < u
          case' pos =>
            have hki : (k : Int) < (u : Int) := by omega
            have hk0 : (0 : Int) ≤ (k : Int) := by omega
            obtain ⟨i, j, hx, hy, hpo, TL, hn2, hn3⟩ := FY.out k hkn
            have KP1 := Lib.hid (fun W => KO.out i j W)
            rw [hpo] at KP1
            clear hpo
            generalize pourA ns i j = am at *
            generalize pourR ns i j = T at *
            have HX := Lib.hid hx
            have HY := Lib.hid hy
            have hlT : (ints T).length = 24 := by rw [ints_len]; exact TL
            have HLT := Lib.hid hlT
            clear hx hy hlT
            have KF := Lib.hid (fun W => KT.out T TL W)
            unfold UsefPost at KF
            rw [hn2] at KF
            clear hn2
            have U30 := use30 T
            generalize usefFA T = tf at *
            generalize usefNA T = tu at *
            have HN3 := Lib.hid hn3
            clear hn3
            replace H3 := H3.drew
            replace Q27 := Lib.hid Q27.out.drew
            replace Q17 := Lib.hid (nuDrewE Q17.out)
            replace HB := Lib.hid (keptDrewE HB.out)
            go_wp2_with fail
            refine wp_region_held_drew (S := fun w' => Rw w' 0 (.slice (some ⟨pg, 0, none⟩) u c27) u uf ∧ Has w' B1 ns 24) (by kernel_rfl) ⟨Q27.out, H3⟩ (fun hHeld => ?_)
            generalize World.drew _ = V1 at *
            (refine wpAnyH_take (i := 1) (v := ?_) rfl (by kernel_rfl) (by kernel_rfl) (by kernel_rfl) (fun _ _ _ h => h) (Or.inl ⟨by rfl, ?_⟩) hHeld ?_; rotate_left; (· (intro w' hSw; go_simp; try with_reducible rfl)); (try simp only [List.getElem_toArray, List.getElem_cons_zero, List.getElem_cons_succ, Act.put, List.setIfInBounds_toArray, List.set_cons_zero, List.set_cons_succ])); (refine wpAnyH_take (i := 2) (v := ?_) rfl (by kernel_rfl) (by kernel_rfl) (by kernel_rfl) (fun _ _ _ h => h) (Or.inl ⟨by rfl, ?_⟩) hHeld ?_; rotate_left; (· (intro w' hSw; go_simp; try with_reducible rfl)); (try simp only [List.getElem_toArray, List.getElem_cons_zero, List.getElem_cons_succ, Act.put, List.setIfInBounds_toArray, List.set_cons_zero, List.set_cons_succ])); (refine wpAnyH_take (i := 3) (v := ?_) rfl (by kernel_rfl) (by kernel_rfl) (by kernel_rfl) (fun _ _ _ h => h) (Or.inl ⟨by rfl, ?_⟩) hHeld ?_; rotate_left; (· (intro w' hSw; go_simp; try with_reducible rfl)); (try simp only [List.getElem_toArray, List.getElem_cons_zero, List.getElem_cons_succ, Act.put, List.setIfInBounds_toArray, List.set_cons_zero, List.set_cons_succ])); (refine wpAnyH_take (i := 4) (v := ?_) rfl (by kernel_rfl) (by kernel_rfl) (by kernel_rfl) (fun _ _ _ h => h) (Or.inl ⟨by rfl, ?_⟩) hHeld ?_; rotate_left; (· (intro w' hSw; go_simp; try with_reducible rfl)); (try simp only [List.getElem_toArray, List.getElem_cons_zero, List.getElem_cons_succ, Act.put, List.setIfInBounds_toArray, List.set_cons_zero, List.set_cons_succ]))
            (refine wpAnyH_take (i := 0) (v := _) rfl (by kernel_rfl) (by kernel_rfl) (by kernel_rfl) (fun _ _ _ h => h) (yieldsIf_load_mid (by rfl) 27 _ rfl _ _ rfl (ints ns) _ (fun w' hSw => hSw.2.holds.range) Try.underlying27 rfl (hiR.out)) hHeld ?_; (try simp only [List.getElem_toArray, List.getElem_cons_zero, List.getElem_cons_succ, Act.put, List.setIfInBounds_toArray, List.set_cons_zero, List.set_cons_succ]))
            (refine wpAnyH_take (i := 5) (v := .int .i64 i) rfl (by kernel_rfl) (by kernel_rfl) (by kernel_rfl) (fun _ _ _ h => h) (Or.inl ⟨by rfl, ?_⟩) hHeld ?_; (· (intro w' hSw; have q := hSw.1.cellX (by omega) HX.out; clear hSw; go_simp; try with_reducible rfl)); (try simp only [List.getElem_toArray, List.getElem_cons_zero, List.getElem_cons_succ, Act.put, List.setIfInBounds_toArray, List.set_cons_zero, List.set_cons_succ]))
            (refine wpAnyH_take (i := 6) (v := ?_) rfl (by kernel_rfl) (by kernel_rfl) (by kernel_rfl) (fun _ _ _ h => h) (Or.inl ⟨by rfl, ?_⟩) hHeld ?_; rotate_left; (· (intro w' hSw; go_simp; try with_reducible rfl)); (try simp only [List.getElem_toArray, List.getElem_cons_zero, List.getElem_cons_succ, Act.put, List.setIfInBounds_toArray, List.set_cons_zero, List.set_cons_succ])); (refine wpAnyH_take (i := 7) (v := ?_) rfl (by kernel_rfl) (by kernel_rfl) (by kernel_rfl) (fun _ _ _ h => h) (Or.inl ⟨by rfl, ?_⟩) hHeld ?_; rotate_left; (· (intro w' hSw; go_simp; try with_reducible rfl)); (try simp only [List.getElem_toArray, List.getElem_cons_zero, List.getElem_cons_succ, Act.put, List.setIfInBounds_toArray, List.set_cons_zero, List.set_cons_succ])); (refine wpAnyH_take (i := 8) (v := ?_) rfl (by kernel_rfl) (by kernel_rfl) (by kernel_rfl) (fun _ _ _ h => h) (Or.inl ⟨by rfl, ?_⟩) hHeld ?_; rotate_left; (· (intro w' hSw; go_simp; try with_reducible rfl)); (try simp only [List.getElem_toArray, List.getElem_cons_zero, List.getElem_cons_succ, Act.put, List.setIfInBounds_toArray, List.set_cons_zero, List.set_cons_succ])); (refine wpAnyH_take (i := 9) (v := ?_) rfl (by kernel_rfl) (by kernel_rfl) (by kernel_rfl) (fun _ _ _ h => h) (Or.inl ⟨by rfl, ?_⟩) hHeld ?_; rotate_left; (· (intro w' hSw; go_simp; try with_reducible rfl)); (try simp only [List.getElem_toArray, List.getElem_cons_zero, List.getElem_cons_succ, Act.put, List.setIfInBounds_toArray, List.set_cons_zero, List.set_cons_succ]))
            (refine wpAnyH_take (i := 10) (v := .int .i64 j) rfl (by kernel_rfl) (by kernel_rfl) (by kernel_rfl) (fun _ _ _ h => h) (Or.inl ⟨by rfl, ?_⟩) hHeld ?_; (· (intro w' hSw; have q := hSw.1.cellX (by omega) HY.out; clear hSw; go_simp; try with_reducible rfl)); (try simp only [List.getElem_toArray, List.getElem_cons_zero, List.getElem_cons_succ, Act.put, List.setIfInBounds_toArray, List.set_cons_zero, List.set_cons_succ]))
            refine wpAnyH_ready (rs := [11, 16]) (by kernel_rfl) (by simp) ?_
            refine AllReadyH.cons (o := _) rfl (fun K hK => ?_) (AllReadyH.cons (o := _) rfl (fun K hK => ?_) AllReadyH.nil)
            rotate_left
            · (simp only [List.getElem_toArray, List.getElem_cons_zero, List.getElem_cons_succ, Region.wanted, if_true])
              go_simp
              have lo := Lib.hid (fun hn k hk => (Q27.out.ownlt hn k hk).2)
              have lo2 := Lib.hid (fun k hk => (Q17.out.own k hk).2)
              have l1 := H3.lt
              have l3 := HB.out.size
              have TZ := Has.zero24 V1 27
              have l4 : V1.heap.size < (V1.alloc (.cells #[.int .i64 0, .int .i64 0, .int .i64 0, .int .i64 0, .int .i64 0, .int .i64 0, .int .i64 0, .int .i64 0, .int .i64 0, .int .i64 0, .int .i64 0, .int .i64 0, .int .i64 0, .int .i64 0, .int .i64 0, .int .i64 0, .int .i64 0, .int .i64 0, .int .i64 0, .int .i64 0, .int .i64 0, .int .i64 0, .int .i64 0, .int .i64 0] 27)).heap.size := by rw [size1]; omega
              refine hK.out _ _ ⟨hHeld.1.alloc _, hHeld.2.alloc _⟩ (fun hHeld => ?_)
              clear hK K
              replace H3 := H3.alloc (.cells #[.int .i64 0, .int .i64 0, .int .i64 0, .int .i64 0, .int .i64 0, .int .i64 0, .int .i64 0, .int .i64 0, .int .i64 0, .int .i64 0, .int .i64 0, .int .i64 0, .int .i64 0, .int .i64 0, .int .i64 0, .int .i64 0, .int .i64 0, .int .i64 0, .int .i64 0, .int .i64 0, .int .i64 0, .int .i64 0, .int .i64 0, .int .i64 0] 27)
              replace Q27 := Lib.hid (Q27.out.alloc (.cells #[.int .i64 0, .int .i64 0, .int .i64 0, .int .i64 0, .int .i64 0, .int .i64 0, .int .i64 0, .int .i64 0, .int .i64 0, .int .i64 0, .int .i64 0, .int .i64 0, .int .i64 0, .int .i64 0, .int .i64 0, .int .i64 0, .int .i64 0, .int .i64 0, .int .i64 0, .int .i64 0, .int .i64 0, .int .i64 0, .int .i64 0, .int .i64 0] 27))
              replace Q17 := Lib.hid (Q17.out.alloc (.cells #[.int .i64 0, .int .i64 0, .int .i64 0, .int .i64 0, .int .i64 0, .int .i64 0, .int .i64 0, .int .i64 0, .int .i64 0, .int .i64 0, .int .i64 0, .int .i64 0, .int .i64 0, .int .i64 0, .int .i64 0, .int .i64 0, .int .i64 0, .int .i64 0, .int .i64 0, .int .i64 0, .int .i64 0, .int .i64 0, .int .i64 0, .int .i64 0] 27))
              replace HB := Lib.hid (HB.out.alloc (.cells #[.int .i64 0, .int .i64 0, .int .i64 0, .int .i64 0, .int .i64 0, .int .i64 0, .int .i64 0, .int .i64 0, .int .i64 0, .int .i64 0, .int .i64 0, .int .i64 0, .int .i64 0, .int .i64 0, .int .i64 0, .int .i64 0, .int .i64 0, .int .i64 0, .int .i64 0, .int .i64 0, .int .i64 0, .int .i64 0, .int .i64 0, .int .i64 0] 27))
              (refine wpAnyH_ready (rs := [11]) (by kernel_rfl) (by simp) ?_; refine AllReadyH.cons (o := _) rfl (fun K hK => ?_) AllReadyH.nil; (simp only [List.getElem_toArray, List.getElem_cons_zero, List.getElem_cons_succ, Region.wanted, if_true]))
              go_simp
              refine (KP1.out _).mono ?_
              rintro e w10 ⟨rfl, b10⟩
              dsimp only
              (try simp only [List.getElem_toArray, List.getElem_cons_zero, List.getElem_cons_succ, Act.put, List.setIfInBounds_toArray, List.set_cons_zero, List.set_cons_succ])
              refine hK.out _ _ ⟨hHeld.1.below b10, hHeld.2.below b10⟩ (fun hHeld => ?_)
              clear hK K
              replace TZ := TZ.below b10
              replace H3 := H3.below b10
              replace Q27 := Lib.hid (Q27.out.below b10)
              replace Q17 := Lib.hid (Q17.out.below b10)
              replace HB := Lib.hid (HB.out.call b10)
              clear b10 l4
              (refine wpAnyH_take (i := 12) (v := ?_) rfl (by kernel_rfl) (by kernel_rfl) (by kernel_rfl) (fun _ _ _ h => h) (Or.inl ⟨by rfl, ?_⟩) hHeld ?_; rotate_left; (· (intro w' hSw; go_simp; try with_reducible rfl)); (try simp only [List.getElem_toArray, List.getElem_cons_zero, List.getElem_cons_succ, Act.put, List.setIfInBounds_toArray, List.set_cons_zero, List.set_cons_succ])); (refine wpAnyH_take (i := 13) (v := ?_) rfl (by kernel_rfl) (by kernel_rfl) (by kernel_rfl) (fun _ _ _ h => h) (Or.inl ⟨by rfl, ?_⟩) hHeld ?_; rotate_left; (· (intro w' hSw; go_simp; try with_reducible rfl)); (try simp only [List.getElem_toArray, List.getElem_cons_zero, List.getElem_cons_succ, Act.put, List.setIfInBounds_toArray, List.set_cons_zero, List.set_cons_succ])); (refine wpAnyH_take (i := 14) (v := ?_) rfl (by kernel_rfl) (by kernel_rfl) (by kernel_rfl) (fun _ _ _ h => h) (Or.inl ⟨by rfl, ?_⟩) hHeld ?_; rotate_left; (· (intro w' hSw; go_simp; try with_reducible rfl)); (try simp only [List.getElem_toArray, List.getElem_cons_zero, List.getElem_cons_succ, Act.put, List.setIfInBounds_toArray, List.set_cons_zero, List.set_cons_succ])); (refine wpAnyH_take (i := 15) (v := ?_) rfl (by kernel_rfl) (by kernel_rfl) (by kernel_rfl) (fun _ _ _ h => h) (Or.inl ⟨by rfl, ?_⟩) hHeld ?_; rotate_left; (· (intro w' hSw; go_simp; try with_reducible rfl)); (try simp only [List.getElem_toArray, List.getElem_cons_zero, List.getElem_cons_succ, Act.put, List.setIfInBounds_toArray, List.set_cons_zero, List.set_cons_succ]))
              have SF := And.intro (hHeld.1.puts (V1.heap.size) 0 (ints T) (fun hi e => by have := lo.out hi _ e; omega)) (hHeld.2.putOther (b' := V1.heap.size) 0 (ints T) (by omega))
              (refine wpAnyH_ready (rs := [17]) (by kernel_rfl) (by simp) ?_; refine AllReadyH.cons (o := _) rfl (fun K hK => ?_) AllReadyH.nil; (simp only [List.getElem_toArray, List.getElem_cons_zero, List.getElem_cons_succ, Region.wanted, if_true]); refine wp_store_mid _ _ _ rfl _ _ (ints T).toArray rfl rfl (by simpa [HLT.out] using TZ.there) (by simpa [HLT.out] using HI24.out) (all_oneCell_toArray (ints_one _)) ?_; (try simp only [List.getElem_toArray, List.getElem_cons_zero, List.getElem_cons_succ, Act.put, List.setIfInBounds_toArray, List.set_cons_zero, List.set_cons_succ, List.toList_toArray]); refine hK.out _ _ (SF) (fun hHeld => ?_); clear hK K)
              replace TZ := TZ.putAll T TL
              replace H3 := H3.putOther (b' := V1.heap.size) 0 (ints T) (by omega)
              replace Q27 := Lib.hid (Q27.out.puts (V1.heap.size) 0 (ints T) (fun hi e => by have := lo.out hi _ e; omega))
              replace Q17 := Lib.hid (nuPutsE Q17.out (V1.heap.size) 0 (ints T) (fun z e => by have := lo2.out z e; omega))
              replace HB := Lib.hid (HB.out.puts (b := V1.heap.size) (by omega) 0 (ints T))
              (refine wpAnyH_take (i := 18) (v := ?_) rfl (by kernel_rfl) (by kernel_rfl) (by kernel_rfl) (fun _ _ _ h => h) (Or.inl ⟨by rfl, ?_⟩) hHeld ?_; rotate_left; (· (intro w' hSw; go_simp; try with_reducible rfl)); (try simp only [List.getElem_toArray, List.getElem_cons_zero, List.getElem_cons_succ, Act.put, List.setIfInBounds_toArray, List.set_cons_zero, List.set_cons_succ])); (refine wpAnyH_take (i := 19) (v := ?_) rfl (by kernel_rfl) (by kernel_rfl) (by kernel_rfl) (fun _ _ _ h => h) (Or.inl ⟨by rfl, ?_⟩) hHeld ?_; rotate_left; (· (intro w' hSw; go_simp; try with_reducible rfl)); (try simp only [List.getElem_toArray, List.getElem_cons_zero, List.getElem_cons_succ, Act.put, List.setIfInBounds_toArray, List.set_cons_zero, List.set_cons_succ]))
              refine wpAnyH_done (by kernel_rfl) ?_ _
              clear hHeld lo lo2 l1 l3 SF
              obtain ⟨B3, hB3⟩ : ∃ B3, V1.heap.size = B3 := ⟨_, rfl⟩
              rw [hB3] at TZ H3 Q27 Q17 HB ⊢
              generalize (w10).setCells B3 0 (ints T) = VF at *
              clear hB3
              go_wp2_with (refine guard_op (isLoad 27) ?_ ?_; (· rfl); (refine load_has rfl 27 _ rfl _ rfl ?_ 24 ?_ _ Try.underlying27 rfl ?_ ?_; rotate_left; (· (repeat (first | (with_reducible assumption) | ((with_reducible refine Has.box _ _ ?_ ?_) <;> (first | assumption | decide)) | (with_reducible refine Has.alloc ?_ _) | ((with_reducible refine Has.putOther ?_ _ _ ?_); rotate_left; omega; skip) | ((with_reducible refine Has.below ?_ ?_); rotate_left; assumption)))); (· kernel_rfl)))
              refine (KF.out _).mono ?_
              rintro e w11 ⟨v33, rfl, q33, b11⟩
              replace H3 := H3.below b11
              replace Q27 := Lib.hid (Q27.out.below b11)
              replace Q17 := Lib.hid (Q17.out.below b11)
              replace HB := Lib.hid (HB.out.call b11)
              obtain ⟨a33, c33, rfl⟩ := q33.rw.shape
              clear b11 TZ KF KP1 q33
              have c0 := Q17.out.cell k hkn
              rw [HN3.out] at c0
              go_wp2_with fail
              go_roundw
              case rel => exact ⟨k + 1, by omega, by go_num, H3, Q27, Q17, HB⟩
              case measure => simp [intOf]; omega
            · (simp only [List.getElem_toArray, List.getElem_cons_zero, List.getElem_cons_succ, Region.wanted, if_true])
              go_simp
              refine (KP1.out _).mono ?_
              rintro e w10 ⟨rfl, b10⟩
              dsimp only
              (try simp only [List.getElem_toArray, List.getElem_cons_zero, List.getElem_cons_succ, Act.put, List.setIfInBounds_toArray, List.set_cons_zero, List.set_cons_succ])
              refine hK.out _ _ ⟨hHeld.1.below b10, hHeld.2.below b10⟩ (fun hHeld => ?_)
              clear hK K
              replace H3 := H3.below b10
              replace Q27 := Lib.hid (Q27.out.below b10)
              replace Q17 := Lib.hid (Q17.out.below b10)
              replace HB := Lib.hid (HB.out.call b10)
              clear b10
              (refine wpAnyH_take (i := 12) (v := ?_) rfl (by kernel_rfl) (by kernel_rfl) (by kernel_rfl) (fun _ _ _ h => h) (Or.inl ⟨by rfl, ?_⟩) hHeld ?_; rotate_left; (· (intro w' hSw; go_simp; try with_reducible rfl)); (try simp only [List.getElem_toArray, List.getElem_cons_zero, List.getElem_cons_succ, Act.put, List.setIfInBounds_toArray, List.set_cons_zero, List.set_cons_succ])); (refine wpAnyH_take (i := 13) (v := ?_) rfl (by kernel_rfl) (by kernel_rfl) (by kernel_rfl) (fun _ _ _ h => h) (Or.inl ⟨by rfl, ?_⟩) hHeld ?_; rotate_left; (· (intro w' hSw; go_simp; try with_reducible rfl)); (try simp only [List.getElem_toArray, List.getElem_cons_zero, List.getElem_cons_succ, Act.put, List.setIfInBounds_toArray, List.set_cons_zero, List.set_cons_succ])); (refine wpAnyH_take (i := 14) (v := ?_) rfl (by kernel_rfl) (by kernel_rfl) (by kernel_rfl) (fun _ _ _ h => h) (Or.inl ⟨by rfl, ?_⟩) hHeld ?_; rotate_left; (· (intro w' hSw; go_simp; try with_reducible rfl)); (try simp only [List.getElem_toArray, List.getElem_cons_zero, List.getElem_cons_succ, Act.put, List.setIfInBounds_toArray, List.set_cons_zero, List.set_cons_succ])); (refine wpAnyH_take (i := 15) (v := ?_) rfl (by kernel_rfl) (by kernel_rfl) (by kernel_rfl) (fun _ _ _ h => h) (Or.inl ⟨by rfl, ?_⟩) hHeld ?_; rotate_left; (· (intro w' hSw; go_simp; try with_reducible rfl)); (try simp only [List.getElem_toArray, List.getElem_cons_zero, List.getElem_cons_succ, Act.put, List.setIfInBounds_toArray, List.set_cons_zero, List.set_cons_succ]))
              have lo := Lib.hid (fun hn k hk => (Q27.out.ownlt hn k hk).2)
              have lo2 := Lib.hid (fun k hk => (Q17.out.own k hk).2)
              have l1 := H3.lt
              have l3 := HB.out.size
              have TZ := Has.zero24 w10 27
              (refine wpAnyH_ready (rs := [16]) (by kernel_rfl) (by simp) ?_; refine AllReadyH.cons (o := _) rfl (fun K hK => ?_) AllReadyH.nil; (simp only [List.getElem_toArray, List.getElem_cons_zero, List.getElem_cons_succ, Region.wanted, if_true]))
              go_simp
              refine hK.out _ _ ⟨hHeld.1.alloc _, hHeld.2.alloc _⟩ (fun hHeld => ?_)
              clear hK K
              replace H3 := H3.alloc (.cells #[.int .i64 0, .int .i64 0, .int .i64 0, .int .i64 0, .int .i64 0, .int .i64 0, .int .i64 0, .int .i64 0, .int .i64 0, .int .i64 0, .int .i64 0, .int .i64 0, .int .i64 0, .int .i64 0, .int .i64 0, .int .i64 0, .int .i64 0, .int .i64 0, .int .i64 0, .int .i64 0, .int .i64 0, .int .i64 0, .int .i64 0, .int .i64 0] 27)
              replace Q27 := Lib.hid (Q27.out.alloc (.cells #[.int .i64 0, .int .i64 0, .int .i64 0, .int .i64 0, .int .i64 0, .int .i64 0, .int .i64 0, .int .i64 0, .int .i64 0, .int .i64 0, .int .i64 0, .int .i64 0, .int .i64 0, .int .i64 0, .int .i64 0, .int .i64 0, .int .i64 0, .int .i64 0, .int .i64 0, .int .i64 0, .int .i64 0, .int .i64 0, .int .i64 0, .int .i64 0] 27))
              replace Q17 := Lib.hid (Q17.out.alloc (.cells #[.int .i64 0, .int .i64 0, .int .i64 0, .int .i64 0, .int .i64 0, .int .i64 0, .int .i64 0, .int .i64 0, .int .i64 0, .int .i64 0, .int .i64 0, .int .i64 0, .int .i64 0, .int .i64 0, .int .i64 0, .int .i64 0, .int .i64 0, .int .i64 0, .int .i64 0, .int .i64 0, .int .i64 0, .int .i64 0, .int .i64 0, .int .i64 0] 27))
              replace HB := Lib.hid (HB.out.alloc (.cells #[.int .i64 0, .int .i64 0, .int .i64 0, .int .i64 0, .int .i64 0, .int .i64 0, .int .i64 0, .int .i64 0, .int .i64 0, .int .i64 0, .int .i64 0, .int .i64 0, .int .i64 0, .int .i64 0, .int .i64 0, .int .i64 0, .int .i64 0, .int .i64 0, .int .i64 0, .int .i64 0, .int .i64 0, .int .i64 0, .int .i64 0, .int .i64 0] 27))
              have SF := And.intro (hHeld.1.puts (w10.heap.size) 0 (ints T) (fun hi e => by have := lo.out hi _ e; omega)) (hHeld.2.putOther (b' := w10.heap.size) 0 (ints T) (by omega))
              (refine wpAnyH_ready (rs := [17]) (by kernel_rfl) (by simp) ?_; refine AllReadyH.cons (o := _) rfl (fun K hK => ?_) AllReadyH.nil; (simp only [List.getElem_toArray, List.getElem_cons_zero, List.getElem_cons_succ, Region.wanted, if_true]); refine wp_store_mid _ _ _ rfl _ _ (ints T).toArray rfl rfl (by simpa [HLT.out] using TZ.there) (by simpa [HLT.out] using HI24.out) (all_oneCell_toArray (ints_one _)) ?_; (try simp only [List.getElem_toArray, List.getElem_cons_zero, List.getElem_cons_succ, Act.put, List.setIfInBounds_toArray, List.set_cons_zero, List.set_cons_succ, List.toList_toArray]); refine hK.out _ _ (SF) (fun hHeld => ?_); clear hK K)
              replace TZ := TZ.putAll T TL
              replace H3 := H3.putOther (b' := w10.heap.size) 0 (ints T) (by omega)
              replace Q27 := Lib.hid (Q27.out.puts (w10.heap.size) 0 (ints T) (fun hi e => by have := lo.out hi _ e; omega))
              replace Q17 := Lib.hid (nuPutsE Q17.out (w10.heap.size) 0 (ints T) (fun z e => by have := lo2.out z e; omega))
              replace HB := Lib.hid (HB.out.puts (b := w10.heap.size) (by omega) 0 (ints T))
              (refine wpAnyH_take (i := 18) (v := ?_) rfl (by kernel_rfl) (by kernel_rfl) (by kernel_rfl) (fun _ _ _ h => h) (Or.inl ⟨by rfl, ?_⟩) hHeld ?_; rotate_left; (· (intro w' hSw; go_simp; try with_reducible rfl)); (try simp only [List.getElem_toArray, List.getElem_cons_zero, List.getElem_cons_succ, Act.put, List.setIfInBounds_toArray, List.set_cons_zero, List.set_cons_succ])); (refine wpAnyH_take (i := 19) (v := ?_) rfl (by kernel_rfl) (by kernel_rfl) (by kernel_rfl) (fun _ _ _ h => h) (Or.inl ⟨by rfl, ?_⟩) hHeld ?_; rotate_left; (· (intro w' hSw; go_simp; try with_reducible rfl)); (try simp only [List.getElem_toArray, List.getElem_cons_zero, List.getElem_cons_succ, Act.put, List.setIfInBounds_toArray, List.set_cons_zero, List.set_cons_succ]))
              refine wpAnyH_done (by kernel_rfl) ?_ _
              clear hHeld lo lo2 l1 l3 SF
              obtain ⟨B3, hB3⟩ : ∃ B3, w10.heap.size = B3 := ⟨_, rfl⟩
              rw [hB3] at TZ H3 Q27 Q17 HB ⊢
              generalize (w10.alloc (.cells #[.int .i64 0, .int .i64 0, .int .i64 0, .int .i64 0, .int .i64 0, .int .i64 0, .int .i64 0, .int .i64 0, .int .i64 0, .int .i64 0, .int .i64 0, .int .i64 0, .int .i64 0, .int .i64 0, .int .i64 0, .int .i64 0, .int .i64 0, .int .i64 0, .int .i64 0, .int .i64 0, .int .i64 0, .int .i64 0, .int .i64 0, .int .i64 0] 27)).setCells B3 0 (ints T) = VF at *
              clear hB3
              go_wp2_with (refine guard_op (isLoad 27) ?_ ?_; (· rfl); (refine load_has rfl 27 _ rfl _ rfl ?_ 24 ?_ _ Try.underlying27 rfl ?_ ?_; rotate_left; (· (repeat (first | (with_reducible assumption) | ((with_reducible refine Has.box _ _ ?_ ?_) <;> (first | assumption | decide)) | (with_reducible refine Has.alloc ?_ _) | ((with_reducible refine Has.putOther ?_ _ _ ?_); rotate_left; omega; skip) | ((with_reducible refine Has.below ?_ ?_); rotate_left; assumption)))); (· kernel_rfl)))
              refine (KF.out _).mono ?_
              rintro e w11 ⟨v33, rfl, q33, b11⟩
              replace H3 := H3.below b11
              replace Q27 := Lib.hid (Q27.out.below b11)
              replace Q17 := Lib.hid (Q17.out.below b11)
              replace HB := Lib.hid (HB.out.call b11)
              obtain ⟨a33, c33, rfl⟩ := q33.rw.shape
              clear b11 TZ KF KP1 q33
              have c0 := Q17.out.cell k hkn
              rw [HN3.out] at c0
              go_wp2_with fail
              go_roundw
              case rel => exact ⟨k + 1, by omega, by go_num, H3, Q27, Q17, HB⟩
              case measure => simp [intOf]; omega
          case' neg =>
            obtain rfl : k = u := by omega
            go_wp2_with fail
            go_ret
            exact ⟨rfl, HB.out⟩
  case' true =>
    obtain ⟨rfl, n0, n3⟩ := FM.out rfl
    clear FM
    go_wp2_with (refine guard_op (isLoad 27) ?_ ?_; (· rfl); (refine load_has rfl 27 _ rfl _ rfl ?_ 24 ?_ _ Try.underlying27 rfl ?_ ?_; rotate_left; (· (repeat (first | (with_reducible assumption) | ((with_reducible refine Has.box _ _ ?_ ?_) <;> (first | assumption | decide)) | (with_reducible refine Has.alloc ?_ _) | ((with_reducible refine Has.putOther ?_ _ _ ?_); rotate_left; omega; skip) | ((with_reducible refine Has.below ?_ ?_); rotate_left; assumption)))); (· kernel_rfl)))
    refine (KP.out _).mono ?_
    rintro e w4 ⟨v10, rfl, q, bb⟩
    replace H3 := H3.below bb
    replace HB := Lib.hid (HB.out.call bb)
    clear bb
    have Q10 := Lib.hid q.rw
    clear q
    go_wp2_with (refine guard_op (isLoad 27) ?_ ?_; (· rfl); (refine load_has rfl 27 _ rfl _ rfl ?_ 24 ?_ _ Try.underlying27 rfl ?_ ?_; rotate_left; (· (repeat (first | (with_reducible assumption) | ((with_reducible refine Has.box _ _ ?_ ?_) <;> (first | assumption | decide)) | (with_reducible refine Has.alloc ?_ _) | ((with_reducible refine Has.putOther ?_ _ _ ?_); rotate_left; omega; skip) | ((with_reducible refine Has.below ?_ ?_); rotate_left; assumption)))); (· kernel_rfl)))
    refine (SP.out _).mono ?_
    rintro e w5 ⟨v12, rfl, q, bb⟩
    replace H3 := H3.below bb
    replace HB := Lib.hid (HB.out.call bb)
    replace Q10 := Lib.hid (Q10.out.below bb)
    clear bb
    have Q12 := Lib.hid q.rw
    clear q
    go_wp2_with fail
    refine (rPairs_rw v10 v12 _ _ bn bf _ (by omega) Q10.out Q12.out).mono ?_
    rintro e w6 ⟨rfl, bb⟩
    replace H3 := H3.below bb
    replace HB := Lib.hid (HB.out.call bb)
    replace Q10 := Lib.hid (Q10.out.below bb)
    replace Q12 := Lib.hid (Q12.out.below bb)
    clear bb
    clear Q12
    go_wp2_with (refine guard_op (isLoad 27) ?_ ?_; (· rfl); (refine load_has rfl 27 _ rfl _ rfl ?_ 24 ?_ _ Try.underlying27 rfl ?_ ?_; rotate_left; (· (repeat (first | (with_reducible assumption) | ((with_reducible refine Has.box _ _ ?_ ?_) <;> (first | assumption | decide)) | (with_reducible refine Has.alloc ?_ _) | ((with_reducible refine Has.putOther ?_ _ _ ?_); rotate_left; omega; skip) | ((with_reducible refine Has.below ?_ ?_); rotate_left; assumption)))); (· kernel_rfl)))
    refine (KL.out _).mono ?_
    rintro e w7 ⟨rfl, bb⟩
    replace H3 := H3.below bb
    replace HB := Lib.hid (HB.out.call bb)
    replace Q10 := Lib.hid (Q10.out.below bb)
    clear bb
    go_wp2_with (refine guard_op (isLoad 27) ?_ ?_; (· rfl); (refine load_has rfl 27 _ rfl _ rfl ?_ 24 ?_ _ Try.underlying27 rfl ?_ ?_; rotate_left; (· (repeat (first | (with_reducible assumption) | ((with_reducible refine Has.box _ _ ?_ ?_) <;> (first | assumption | decide)) | (with_reducible refine Has.alloc ?_ _) | ((with_reducible refine Has.putOther ?_ _ _ ?_); rotate_left; omega; skip) | ((with_reducible refine Has.below ?_ ?_); rotate_left; assumption)))); (· kernel_rfl)))
    refine (SL.out _).mono ?_
    rintro e w8 ⟨rfl, bb⟩
    replace H3 := H3.below bb
    replace HB := Lib.hid (HB.out.call bb)
    replace Q10 := Lib.hid (Q10.out.below bb)
    clear bb
    go_wp2_with (refine guard_op (isLoad 27) ?_ ?_; (· rfl); (refine load_has rfl 27 _ rfl _ rfl ?_ 24 ?_ _ Try.underlying27 rfl ?_ ?_; rotate_left; (· (repeat (first | (with_reducible assumption) | ((with_reducible refine Has.box _ _ ?_ ?_) <;> (first | assumption | decide)) | (with_reducible refine Has.alloc ?_ _) | ((with_reducible refine Has.putOther ?_ _ _ ?_); rotate_left; omega; skip) | ((with_reducible refine Has.below ?_ ?_); rotate_left; assumption)))); (· kernel_rfl)))
    refine (KI.out _).mono ?_
    rintro e w9 ⟨rfl, bb⟩
    replace H3 := H3.below bb
    replace HB := Lib.hid (HB.out.call bb)
    replace Q10 := Lib.hid (Q10.out.below bb)
    clear bb
    go_wp2_with (refine guard_op (isLoad 27) ?_ ?_; (· rfl); (refine load_has rfl 27 _ rfl _ rfl ?_ 24 ?_ _ Try.underlying27 rfl ?_ ?_; rotate_left; (· (repeat (first | (with_reducible assumption) | ((with_reducible refine Has.box _ _ ?_ ?_) <;> (first | assumption | decide)) | (with_reducible refine Has.alloc ?_ _) | ((with_reducible refine Has.putOther ?_ _ _ ?_); rotate_left; omega; skip) | ((with_reducible refine Has.below ?_ ?_); rotate_left; assumption)))); (· kernel_rfl)))
    refine (KR.out _).mono ?_
    rintro e w10 ⟨v17, rfl, q, bb⟩
    replace H3 := H3.below bb
    replace HB := Lib.hid (HB.out.call bb)
    replace Q10 := Lib.hid (Q10.out.below bb)
    clear bb
    have Q17 := Lib.hid q
    clear q
    go_wp2_with (refine guard_op (isLoad 27) ?_ ?_; (· rfl); (refine load_has rfl 27 _ rfl _ rfl ?_ 24 ?_ _ Try.underlying27 rfl ?_ ?_; rotate_left; (· (repeat (first | (with_reducible assumption) | ((with_reducible refine Has.box _ _ ?_ ?_) <;> (first | assumption | decide)) | (with_reducible refine Has.alloc ?_ _) | ((with_reducible refine Has.putOther ?_ _ _ ?_); rotate_left; omega; skip) | ((with_reducible refine Has.below ?_ ?_); rotate_left; assumption)))); (· kernel_rfl)))
    refine (SR.out _).mono ?_
    rintro e w11 ⟨v19, rfl, q, bb⟩
    replace H3 := H3.below bb
    replace HB := Lib.hid (HB.out.call bb)
    replace Q10 := Lib.hid (Q10.out.below bb)
    replace Q17 := Lib.hid (Q17.out.below bb)
    clear bb
    have Q19 := Lib.hid q
    clear q
    go_wp2_with fail
    refine (rInts_same v17 v19 _ _ u rl _ (by omega) Q17.out Q19.out).mono ?_
    rintro e w12 ⟨rfl, bb⟩
    replace H3 := H3.below bb
    replace HB := Lib.hid (HB.out.call bb)
    replace Q10 := Lib.hid (Q10.out.below bb)
    replace Q17 := Lib.hid (Q17.out.below bb)
    replace Q19 := Lib.hid (Q19.out.below bb)
    clear bb
    clear Q19
    clear KP SP KL SL KI KR SR
    obtain ⟨B0, hB0⟩ : ∃ B0, Hid (Nu w12 B0 v17 u rl) := ⟨_, Q17⟩
    clear Q17
    rename Hid (Nu w12 B0 v17 u rl) => Q17
    obtain ⟨a10, c10, rfl⟩ := Q10.out.shape
    by_cases hz : n = 0
    case' pos =>
      have O0 := FB.out (Or.inr hz)
      subst O0
      have v0 := FZ.out hz
      subst hz
      subst v0
      clear FB FZ FL FV
      by_cases hu : u = 0
      case' pos =>
        have l0 := EL.out
        rw [hu] at l0
        simp only [decide_true, Bool.and_true] at l0
        subst l0
        obtain ⟨ra, rcap, rfl⟩ := Q17.out.shape
        subst hu
        clear EL FU Q17 Q10
        go_wp2_with (refine guard_op (isLoad 27) ?_ ?_; (· rfl); (refine load_has rfl 27 _ rfl _ rfl ?_ 24 ?_ _ Try.underlying27 rfl ?_ ?_; rotate_left; (· (repeat (first | (with_reducible assumption) | ((with_reducible refine Has.box _ _ ?_ ?_) <;> (first | assumption | decide)) | (with_reducible refine Has.alloc ?_ _) | ((with_reducible refine Has.putOther ?_ _ _ ?_); rotate_left; omega; skip) | ((with_reducible refine Has.below ?_ ?_); rotate_left; assumption)))); (· kernel_rfl)))
        refine (KU.out _).mono ?_
        rintro e w13 ⟨v27, rfl, q27, bb⟩
        replace H3 := H3.below bb
        replace HB := Lib.hid (HB.out.call bb)
        clear bb
        obtain ⟨a27, c27, rfl⟩ := q27.rw.shape
        clear q27 KU
        go_wp2_with fail
        go_loop [29] (fun i => i = .int .i64 0) (fun _ => 0)
        case atStart => rfl
        case round =>
          obtain rfl := hrel
          go_wp2_with fail
          go_ret
          exact ⟨rfl, HB.out⟩
      case' neg =>
        have l0 := EL.out
        rw [decide_eq_false hu, Bool.and_false] at l0
        subst l0
        clear EL
        have e0 : ((u : Int) == 0) = false := by simp; omega
        have e1 : decide ((u : Int) = 0) = false := by simp; omega
        obtain ⟨rg, rcap, hrv, _, _⟩ := Q17.out.form (by omega)
        subst hrv
        have FY := Lib.hid (FU.out (by trivial))
        clear FU
        clear Q10
        go_wp2_with (refine guard_op (isLoad 27) ?_ ?_; (· rfl); (refine load_has rfl 27 _ rfl _ rfl ?_ 24 ?_ _ Try.underlying27 rfl ?_ ?_; rotate_left; (· (repeat (first | (with_reducible assumption) | ((with_reducible refine Has.box _ _ ?_ ?_) <;> (first | assumption | decide)) | (with_reducible refine Has.alloc ?_ _) | ((with_reducible refine Has.putOther ?_ _ _ ?_); rotate_left; omega; skip) | ((with_reducible refine Has.below ?_ ?_); rotate_left; assumption)))); (· kernel_rfl)))
        refine (KU.out _).mono ?_
        rintro e w14 ⟨v27, rfl, q27, bb⟩
        replace H3 := H3.below bb
        replace HB := Lib.hid (HB.out.call bb)
        replace Q17 := Lib.hid (Q17.out.below bb)
        clear bb
        have Q27 := Lib.hid q27.rw
        clear q27 KU
        obtain ⟨a27, c27, rfl⟩ := Q27.out.shape
        replace Q27 := Lib.hid (Q27.out.mono (b' := 0) (Nat.zero_le _))
        obtain ⟨pg, pcap, hpv, _, _⟩ := Q27.out.form (by omega)
        injection hpv with ha _ hcap
        subst ha
        subst hcap
        go_wp2_with fail
        go_loopw [29] (fun i wr => ∃ k : Nat, k ≤ u ∧ i = .int .i64 k ∧ Has wr B1 ns 24 ∧ Hid (Rw wr 0 (.slice (some ⟨pg, 0, none⟩) u c27) u uf) ∧ Hid (Nu wr B0 (.slice (some ⟨rg, 0, none⟩) u rcap) u rl) ∧ Hid (Kept w wr)) (fun i _ => u - (intOf i).toNat)
        case atStart => exact ⟨0, by omega, rfl, H3, Q27, Q17, HB⟩
        case round =>
          clear H3 Q27 Q17 HB
          obtain ⟨k, hk, rfl, H3, Q27, Q17, HB⟩ := hrel
          by_cases hkn : k < u
          case' pos =>
            have hki : (k : Int) < (u : Int) := by omega
            have hk0 : (0 : Int) ≤ (k : Int) := by omega
            obtain ⟨i, j, hx, hy, hpo, TL, hn2, hn3⟩ := FY.out k hkn
            have KP1 := Lib.hid (fun W => KO.out i j W)
            rw [hpo] at KP1
            clear hpo
            generalize pourA ns i j = am at *
            generalize pourR ns i j = T at *
            have HX := Lib.hid hx
            have HY := Lib.hid hy
            have hlT : (ints T).length = 24 := by rw [ints_len]; exact TL
            have HLT := Lib.hid hlT
            clear hx hy hlT
            have KF := Lib.hid (fun W => KT.out T TL W)
            unfold UsefPost at KF
            rw [hn2] at KF
            clear hn2
            have U30 := use30 T
            generalize usefFA T = tf at *
            generalize usefNA T = tu at *
            have HN3 := Lib.hid hn3
            clear hn3
            replace H3 := H3.drew
            replace Q27 := Lib.hid Q27.out.drew
            replace Q17 := Lib.hid (nuDrewE Q17.out)
            replace HB := Lib.hid (keptDrewE HB.out)
            go_wp2_with fail
            refine wp_region_held_drew (S := fun w' => Rw w' 0 (.slice (some ⟨pg, 0, none⟩) u c27) u uf ∧ Has w' B1 ns 24) (by kernel_rfl) ⟨Q27.out, H3⟩ (fun hHeld => ?_)
            generalize World.drew _ = V1 at *
            (refine wpAnyH_take (i := 1) (v := ?_) rfl (by kernel_rfl) (by kernel_rfl) (by kernel_rfl) (fun _ _ _ h => h) (Or.inl ⟨by rfl, ?_⟩) hHeld ?_; rotate_left; (· (intro w' hSw; go_simp; try with_reducible rfl)); (try simp only [List.getElem_toArray, List.getElem_cons_zero, List.getElem_cons_succ, Act.put, List.setIfInBounds_toArray, List.set_cons_zero, List.set_cons_succ])); (refine wpAnyH_take (i := 2) (v := ?_) rfl (by kernel_rfl) (by kernel_rfl) (by kernel_rfl) (fun _ _ _ h => h) (Or.inl ⟨by rfl, ?_⟩) hHeld ?_; rotate_left; (· (intro w' hSw; go_simp; try with_reducible rfl)); (try simp only [List.getElem_toArray, List.getElem_cons_zero, List.getElem_cons_succ, Act.put, List.setIfInBounds_toArray, List.set_cons_zero, List.set_cons_succ])); (refine wpAnyH_take (i := 3) (v := ?_) rfl (by kernel_rfl) (by kernel_rfl) (by kernel_rfl) (fun _ _ _ h => h) (Or.inl ⟨by rfl, ?_⟩) hHeld ?_; rotate_left; (· (intro w' hSw; go_simp; try with_reducible rfl)); (try simp only [List.getElem_toArray, List.getElem_cons_zero, List.getElem_cons_succ, Act.put, List.setIfInBounds_toArray, List.set_cons_zero, List.set_cons_succ])); (refine wpAnyH_take (i := 4) (v := ?_) rfl (by kernel_rfl) (by kernel_rfl) (by kernel_rfl) (fun _ _ _ h => h) (Or.inl ⟨by rfl, ?_⟩) hHeld ?_; rotate_left; (· (intro w' hSw; go_simp; try with_reducible rfl)); (try simp only [List.getElem_toArray, List.getElem_cons_zero, List.getElem_cons_succ, Act.put, List.setIfInBounds_toArray, List.set_cons_zero, List.set_cons_succ]))
            (refine wpAnyH_take (i := 0) (v := _) rfl (by kernel_rfl) (by kernel_rfl) (by kernel_rfl) (fun _ _ _ h => h) (yieldsIf_load_mid (by rfl) 27 _ rfl _ _ rfl (ints ns) _ (fun w' hSw => hSw.2.holds.range) Try.underlying27 rfl (hiR.out)) hHeld ?_; (try simp only [List.getElem_toArray, List.getElem_cons_zero, List.getElem_cons_succ, Act.put, List.setIfInBounds_toArray, List.set_cons_zero, List.set_cons_succ]))
            (refine wpAnyH_take (i := 5) (v := .int .i64 i) rfl (by kernel_rfl) (by kernel_rfl) (by kernel_rfl) (fun _ _ _ h => h) (Or.inl ⟨by rfl, ?_⟩) hHeld ?_; (· (intro w' hSw; have q := hSw.1.cellX (by omega) HX.out; clear hSw; go_simp; try with_reducible rfl)); (try simp only [List.getElem_toArray, List.getElem_cons_zero, List.getElem_cons_succ, Act.put, List.setIfInBounds_toArray, List.set_cons_zero, List.set_cons_succ]))
            (refine wpAnyH_take (i := 6) (v := ?_) rfl (by kernel_rfl) (by kernel_rfl) (by kernel_rfl) (fun _ _ _ h => h) (Or.inl ⟨by rfl, ?_⟩) hHeld ?_; rotate_left; (· (intro w' hSw; go_simp; try with_reducible rfl)); (try simp only [List.getElem_toArray, List.getElem_cons_zero, List.getElem_cons_succ, Act.put, List.setIfInBounds_toArray, List.set_cons_zero, List.set_cons_succ])); (refine wpAnyH_take (i := 7) (v := ?_) rfl (by kernel_rfl) (by kernel_rfl) (by kernel_rfl) (fun _ _ _ h => h) (Or.inl ⟨by rfl, ?_⟩) hHeld ?_; rotate_left; (· (intro w' hSw; go_simp; try with_reducible rfl)); (try simp only [List.getElem_toArray, List.getElem_cons_zero, List.getElem_cons_succ, Act.put, List.setIfInBounds_toArray, List.set_cons_zero, List.set_cons_succ])); (refine wpAnyH_take (i := 8) (v := ?_) rfl (by kernel_rfl) (by kernel_rfl) (by kernel_rfl) (fun _ _ _ h => h) (Or.inl ⟨by rfl, ?_⟩) hHeld ?_; rotate_left; (· (intro w' hSw; go_simp; try with_reducible rfl)); (try simp only [List.getElem_toArray, List.getElem_cons_zero, List.getElem_cons_succ, Act.put, List.setIfInBounds_toArray, List.set_cons_zero, List.set_cons_succ])); (refine wpAnyH_take (i := 9) (v := ?_) rfl (by kernel_rfl) (by kernel_rfl) (by kernel_rfl) (fun _ _ _ h => h) (Or.inl ⟨by rfl, ?_⟩) hHeld ?_; rotate_left; (· (intro w' hSw; go_simp; try with_reducible rfl)); (try simp only [List.getElem_toArray, List.getElem_cons_zero, List.getElem_cons_succ, Act.put, List.setIfInBounds_toArray, List.set_cons_zero, List.set_cons_succ]))
            (refine wpAnyH_take (i := 10) (v := .int .i64 j) rfl (by kernel_rfl) (by kernel_rfl) (by kernel_rfl) (fun _ _ _ h => h) (Or.inl ⟨by rfl, ?_⟩) hHeld ?_; (· (intro w' hSw; have q := hSw.1.cellX (by omega) HY.out; clear hSw; go_simp; try with_reducible rfl)); (try simp only [List.getElem_toArray, List.getElem_cons_zero, List.getElem_cons_succ, Act.put, List.setIfInBounds_toArray, List.set_cons_zero, List.set_cons_succ]))
            refine wpAnyH_ready (rs := [11, 16]) (by kernel_rfl) (by simp) ?_
            refine AllReadyH.cons (o := _) rfl (fun K hK => ?_) (AllReadyH.cons (o := _) rfl (fun K hK => ?_) AllReadyH.nil)
            rotate_left
            · (simp only [List.getElem_toArray, List.getElem_cons_zero, List.getElem_cons_succ, Region.wanted, if_true])
              go_simp
              have lo := Lib.hid (fun hn k hk => (Q27.out.ownlt hn k hk).2)
              have lo2 := Lib.hid (fun k hk => (Q17.out.own k hk).2)
              have l1 := H3.lt
              have l3 := HB.out.size
              have TZ := Has.zero24 V1 27
              have l4 : V1.heap.size < (V1.alloc (.cells #[.int .i64 0, .int .i64 0, .int .i64 0, .int .i64 0, .int .i64 0, .int .i64 0, .int .i64 0, .int .i64 0, .int .i64 0, .int .i64 0, .int .i64 0, .int .i64 0, .int .i64 0, .int .i64 0, .int .i64 0, .int .i64 0, .int .i64 0, .int .i64 0, .int .i64 0, .int .i64 0, .int .i64 0, .int .i64 0, .int .i64 0, .int .i64 0] 27)).heap.size := by rw [size1]; omega
              refine hK.out _ _ ⟨hHeld.1.alloc _, hHeld.2.alloc _⟩ (fun hHeld => ?_)
              clear hK K
              replace H3 := H3.alloc (.cells #[.int .i64 0, .int .i64 0, .int .i64 0, .int .i64 0, .int .i64 0, .int .i64 0, .int .i64 0, .int .i64 0, .int .i64 0, .int .i64 0, .int .i64 0, .int .i64 0, .int .i64 0, .int .i64 0, .int .i64 0, .int .i64 0, .int .i64 0, .int .i64 0, .int .i64 0, .int .i64 0, .int .i64 0, .int .i64 0, .int .i64 0, .int .i64 0] 27)
              replace Q27 := Lib.hid (Q27.out.alloc (.cells #[.int .i64 0, .int .i64 0, .int .i64 0, .int .i64 0, .int .i64 0, .int .i64 0, .int .i64 0, .int .i64 0, .int .i64 0, .int .i64 0, .int .i64 0, .int .i64 0, .int .i64 0, .int .i64 0, .int .i64 0, .int .i64 0, .int .i64 0, .int .i64 0, .int .i64 0, .int .i64 0, .int .i64 0, .int .i64 0, .int .i64 0, .int .i64 0] 27))
              replace Q17 := Lib.hid (Q17.out.alloc (.cells #[.int .i64 0, .int .i64 0, .int .i64 0, .int .i64 0, .int .i64 0, .int .i64 0, .int .i64 0, .int .i64 0, .int .i64 0, .int .i64 0, .int .i64 0, .int .i64 0, .int .i64 0, .int .i64 0, .int .i64 0, .int .i64 0, .int .i64 0, .int .i64 0, .int .i64 0, .int .i64 0, .int .i64 0, .int .i64 0, .int .i64 0, .int .i64 0] 27))
              replace HB := Lib.hid (HB.out.alloc (.cells #[.int .i64 0, .int .i64 0, .int .i64 0, .int .i64 0, .int .i64 0, .int .i64 0, .int .i64 0, .int .i64 0, .int .i64 0, .int .i64 0, .int .i64 0, .int .i64 0, .int .i64 0, .int .i64 0, .int .i64 0, .int .i64 0, .int .i64 0, .int .i64 0, .int .i64 0, .int .i64 0, .int .i64 0, .int .i64 0, .int .i64 0, .int .i64 0] 27))
              (refine wpAnyH_ready (rs := [11]) (by kernel_rfl) (by simp) ?_; refine AllReadyH.cons (o := _) rfl (fun K hK => ?_) AllReadyH.nil; (simp only [List.getElem_toArray, List.getElem_cons_zero, List.getElem_cons_succ, Region.wanted, if_true]))
              go_simp
              refine (KP1.out _).mono ?_
              rintro e w10 ⟨rfl, b10⟩
              dsimp only
              (try simp only [List.getElem_toArray, List.getElem_cons_zero, List.getElem_cons_succ, Act.put, List.setIfInBounds_toArray, List.set_cons_zero, List.set_cons_succ])
              refine hK.out _ _ ⟨hHeld.1.below b10, hHeld.2.below b10⟩ (fun hHeld => ?_)
              clear hK K
              replace TZ := TZ.below b10
              replace H3 := H3.below b10
              replace Q27 := Lib.hid (Q27.out.below b10)
              replace Q17 := Lib.hid (Q17.out.below b10)
              replace HB := Lib.hid (HB.out.call b10)
              clear b10 l4
              (refine wpAnyH_take (i := 12) (v := ?_) rfl (by kernel_rfl) (by kernel_rfl) (by kernel_rfl) (fun _ _ _ h => h) (Or.inl ⟨by rfl, ?_⟩) hHeld ?_; rotate_left; (· (intro w' hSw; go_simp; try with_reducible rfl)); (try simp only [List.getElem_toArray, List.getElem_cons_zero, List.getElem_cons_succ, Act.put, List.setIfInBounds_toArray, List.set_cons_zero, List.set_cons_succ])); (refine wpAnyH_take (i := 13) (v := ?_) rfl (by kernel_rfl) (by kernel_rfl) (by kernel_rfl) (fun _ _ _ h => h) (Or.inl ⟨by rfl, ?_⟩) hHeld ?_; rotate_left; (· (intro w' hSw; go_simp; try with_reducible rfl)); (try simp only [List.getElem_toArray, List.getElem_cons_zero, List.getElem_cons_succ, Act.put, List.setIfInBounds_toArray, List.set_cons_zero, List.set_cons_succ])); (refine wpAnyH_take (i := 14) (v := ?_) rfl (by kernel_rfl) (by kernel_rfl) (by kernel_rfl) (fun _ _ _ h => h) (Or.inl ⟨by rfl, ?_⟩) hHeld ?_; rotate_left; (· (intro w' hSw; go_simp; try with_reducible rfl)); (try simp only [List.getElem_toArray, List.getElem_cons_zero, List.getElem_cons_succ, Act.put, List.setIfInBounds_toArray, List.set_cons_zero, List.set_cons_succ])); (refine wpAnyH_take (i := 15) (v := ?_) rfl (by kernel_rfl) (by kernel_rfl) (by kernel_rfl) (fun _ _ _ h => h) (Or.inl ⟨by rfl, ?_⟩) hHeld ?_; rotate_left; (· (intro w' hSw; go_simp; try with_reducible rfl)); (try simp only [List.getElem_toArray, List.getElem_cons_zero, List.getElem_cons_succ, Act.put, List.setIfInBounds_toArray, List.set_cons_zero, List.set_cons_succ]))
              have SF := And.intro (hHeld.1.puts (V1.heap.size) 0 (ints T) (fun hi e => by have := lo.out hi _ e; omega)) (hHeld.2.putOther (b' := V1.heap.size) 0 (ints T) (by omega))
              (refine wpAnyH_ready (rs := [17]) (by kernel_rfl) (by simp) ?_; refine AllReadyH.cons (o := _) rfl (fun K hK => ?_) AllReadyH.nil; (simp only [List.getElem_toArray, List.getElem_cons_zero, List.getElem_cons_succ, Region.wanted, if_true]); refine wp_store_mid _ _ _ rfl _ _ (ints T).toArray rfl rfl (by simpa [HLT.out] using TZ.there) (by simpa [HLT.out] using HI24.out) (all_oneCell_toArray (ints_one _)) ?_; (try simp only [List.getElem_toArray, List.getElem_cons_zero, List.getElem_cons_succ, Act.put, List.setIfInBounds_toArray, List.set_cons_zero, List.set_cons_succ, List.toList_toArray]); refine hK.out _ _ (SF) (fun hHeld => ?_); clear hK K)
              replace TZ := TZ.putAll T TL
              replace H3 := H3.putOther (b' := V1.heap.size) 0 (ints T) (by omega)
              replace Q27 := Lib.hid (Q27.out.puts (V1.heap.size) 0 (ints T) (fun hi e => by have := lo.out hi _ e; omega))
              replace Q17 := Lib.hid (nuPutsE Q17.out (V1.heap.size) 0 (ints T) (fun z e => by have := lo2.out z e; omega))
              replace HB := Lib.hid (HB.out.puts (b := V1.heap.size) (by omega) 0 (ints T))
              (refine wpAnyH_take (i := 18) (v := ?_) rfl (by kernel_rfl) (by kernel_rfl) (by kernel_rfl) (fun _ _ _ h => h) (Or.inl ⟨by rfl, ?_⟩) hHeld ?_; rotate_left; (· (intro w' hSw; go_simp; try with_reducible rfl)); (try simp only [List.getElem_toArray, List.getElem_cons_zero, List.getElem_cons_succ, Act.put, List.setIfInBounds_toArray, List.set_cons_zero, List.set_cons_succ])); (refine wpAnyH_take (i := 19) (v := ?_) rfl (by kernel_rfl) (by kernel_rfl) (by kernel_rfl) (fun _ _ _ h => h) (Or.inl ⟨by rfl, ?_⟩) hHeld ?_; rotate_left; (· (intro w' hSw; go_simp; try with_reducible rfl)); (try simp only [List.getElem_toArray, List.getElem_cons_zero, List.getElem_cons_succ, Act.put, List.setIfInBounds_toArray, List.set_cons_zero, List.set_cons_succ]))
              refine wpAnyH_done (by kernel_rfl) ?_ _
              clear hHeld lo lo2 l1 l3 SF
              obtain ⟨B3, hB3⟩ : ∃ B3, V1.heap.size = B3 := ⟨_, rfl⟩
              rw [hB3] at TZ H3 Q27 Q17 HB ⊢
              generalize (w10).setCells B3 0 (ints T) = VF at *
              clear hB3
              go_wp2_with (refine guard_op (isLoad 27) ?_ ?_; (· rfl); (refine load_has rfl 27 _ rfl _ rfl ?_ 24 ?_ _ Try.underlying27 rfl ?_ ?_; rotate_left; (· (repeat (first | (with_reducible assumption) | ((with_reducible refine Has.box _ _ ?_ ?_) <;> (first | assumption | decide)) | (with_reducible refine Has.alloc ?_ _) | ((with_reducible refine Has.putOther ?_ _ _ ?_); rotate_left; omega; skip) | ((with_reducible refine Has.below ?_ ?_); rotate_left; assumption)))); (· kernel_rfl)))
              refine (KF.out _).mono ?_
              rintro e w11 ⟨v33, rfl, q33, b11⟩
              replace H3 := H3.below b11
              replace Q27 := Lib.hid (Q27.out.below b11)
              replace Q17 := Lib.hid (Q17.out.below b11)
              replace HB := Lib.hid (HB.out.call b11)
              obtain ⟨a33, c33, rfl⟩ := q33.rw.shape
              clear b11 TZ KF KP1 q33
              have c0 := Q17.out.cell k hkn
              rw [HN3.out] at c0
              go_wp2_with fail
              go_roundw
              case rel => exact ⟨k + 1, by omega, by go_num, H3, Q27, Q17, HB⟩
              case measure => simp [intOf]; omega
            · (simp only [List.getElem_toArray, List.getElem_cons_zero, List.getElem_cons_succ, Region.wanted, if_true])
              go_simp
              refine (KP1.out _).mono ?_
              rintro e w10 ⟨rfl, b10⟩
              dsimp only
              (try simp only [List.getElem_toArray, List.getElem_cons_zero, List.getElem_cons_succ, Act.put, List.setIfInBounds_toArray, List.set_cons_zero, List.set_cons_succ])
              refine hK.out _ _ ⟨hHeld.1.below b10, hHeld.2.below b10⟩ (fun hHeld => ?_)
              clear hK K
              replace H3 := H3.below b10
              replace Q27 := Lib.hid (Q27.out.below b10)
              replace Q17 := Lib.hid (Q17.out.below b10)
              replace HB := Lib.hid (HB.out.call b10)
              clear b10
              (refine wpAnyH_take (i := 12) (v := ?_) rfl (by kernel_rfl) (by kernel_rfl) (by kernel_rfl) (fun _ _ _ h => h) (Or.inl ⟨by rfl, ?_⟩) hHeld ?_; rotate_left; (· (intro w' hSw; go_simp; try with_reducible rfl)); (try simp only [List.getElem_toArray, List.getElem_cons_zero, List.getElem_cons_succ, Act.put, List.setIfInBounds_toArray, List.set_cons_zero, List.set_cons_succ])); (refine wpAnyH_take (i := 13) (v := ?_) rfl (by kernel_rfl) (by kernel_rfl) (by kernel_rfl) (fun _ _ _ h => h) (Or.inl ⟨by rfl, ?_⟩) hHeld ?_; rotate_left; (· (intro w' hSw; go_simp; try with_reducible rfl)); (try simp only [List.getElem_toArray, List.getElem_cons_zero, List.getElem_cons_succ, Act.put, List.setIfInBounds_toArray, List.set_cons_zero, List.set_cons_succ])); (refine wpAnyH_take (i := 14) (v := ?_) rfl (by kernel_rfl) (by kernel_rfl) (by kernel_rfl) (fun _ _ _ h => h) (Or.inl ⟨by rfl, ?_⟩) hHeld ?_; rotate_left; (· (intro w' hSw; go_simp; try with_reducible rfl)); (try simp only [List.getElem_toArray, List.getElem_cons_zero, List.getElem_cons_succ, Act.put, List.setIfInBounds_toArray, List.set_cons_zero, List.set_cons_succ])); (refine wpAnyH_take (i := 15) (v := ?_) rfl (by kernel_rfl) (by kernel_rfl) (by kernel_rfl) (fun _ _ _ h => h) (Or.inl ⟨by rfl, ?_⟩) hHeld ?_; rotate_left; (· (intro w' hSw; go_simp; try with_reducible rfl)); (try simp only [List.getElem_toArray, List.getElem_cons_zero, List.getElem_cons_succ, Act.put, List.setIfInBounds_toArray, List.set_cons_zero, List.set_cons_succ]))
              have lo := Lib.hid (fun hn k hk => (Q27.out.ownlt hn k hk).2)
              have lo2 := Lib.hid (fun k hk => (Q17.out.own k hk).2)
              have l1 := H3.lt
              have l3 := HB.out.size
              have TZ := Has.zero24 w10 27
              (refine wpAnyH_ready (rs := [16]) (by kernel_rfl) (by simp) ?_; refine AllReadyH.cons (o := _) rfl (fun K hK => ?_) AllReadyH.nil; (simp only [List.getElem_toArray, List.getElem_cons_zero, List.getElem_cons_succ, Region.wanted, if_true]))
              go_simp
              refine hK.out _ _ ⟨hHeld.1.alloc _, hHeld.2.alloc _⟩ (fun hHeld => ?_)
              clear hK K
              replace H3 := H3.alloc (.cells #[.int .i64 0, .int .i64 0, .int .i64 0, .int .i64 0, .int .i64 0, .int .i64 0, .int .i64 0, .int .i64 0, .int .i64 0, .int .i64 0, .int .i64 0, .int .i64 0, .int .i64 0, .int .i64 0, .int .i64 0, .int .i64 0, .int .i64 0, .int .i64 0, .int .i64 0, .int .i64 0, .int .i64 0, .int .i64 0, .int .i64 0, .int .i64 0] 27)
              replace Q27 := Lib.hid (Q27.out.alloc (.cells #[.int .i64 0, .int .i64 0, .int .i64 0, .int .i64 0, .int .i64 0, .int .i64 0, .int .i64 0, .int .i64 0, .int .i64 0, .int .i64 0, .int .i64 0, .int .i64 0, .int .i64 0, .int .i64 0, .int .i64 0, .int .i64 0, .int .i64 0, .int .i64 0, .int .i64 0, .int .i64 0, .int .i64 0, .int .i64 0, .int .i64 0, .int .i64 0] 27))
              replace Q17 := Lib.hid (Q17.out.alloc (.cells #[.int .i64 0, .int .i64 0, .int .i64 0, .int .i64 0, .int .i64 0, .int .i64 0, .int .i64 0, .int .i64 0, .int .i64 0, .int .i64 0, .int .i64 0, .int .i64 0, .int .i64 0, .int .i64 0, .int .i64 0, .int .i64 0, .int .i64 0, .int .i64 0, .int .i64 0, .int .i64 0, .int .i64 0, .int .i64 0, .int .i64 0, .int .i64 0] 27))
              replace HB := Lib.hid (HB.out.alloc (.cells #[.int .i64 0, .int .i64 0, .int .i64 0, .int .i64 0, .int .i64 0, .int .i64 0, .int .i64 0, .int .i64 0, .int .i64 0, .int .i64 0, .int .i64 0, .int .i64 0, .int .i64 0, .int .i64 0, .int .i64 0, .int .i64 0, .int .i64 0, .int .i64 0, .int .i64 0, .int .i64 0, .int .i64 0, .int .i64 0, .int .i64 0, .int .i64 0] 27))
              have SF := And.intro (hHeld.1.puts (w10.heap.size) 0 (ints T) (fun hi e => by have := lo.out hi _ e; omega)) (hHeld.2.putOther (b' := w10.heap.size) 0 (ints T) (by omega))
              (refine wpAnyH_ready (rs := [17]) (by kernel_rfl) (by simp) ?_; refine AllReadyH.cons (o := _) rfl (fun K hK => ?_) AllReadyH.nil; (simp only [List.getElem_toArray, List.getElem_cons_zero, List.getElem_cons_succ, Region.wanted, if_true]); refine wp_store_mid _ _ _ rfl _ _ (ints T).toArray rfl rfl (by simpa [HLT.out] using TZ.there) (by simpa [HLT.out] using HI24.out) (all_oneCell_toArray (ints_one _)) ?_; (try simp only [List.getElem_toArray, List.getElem_cons_zero, List.getElem_cons_succ, Act.put, List.setIfInBounds_toArray, List.set_cons_zero, List.set_cons_succ, List.toList_toArray]); refine hK.out _ _ (SF) (fun hHeld => ?_); clear hK K)
              replace TZ := TZ.putAll T TL
              replace H3 := H3.putOther (b' := w10.heap.size) 0 (ints T) (by omega)
              replace Q27 := Lib.hid (Q27.out.puts (w10.heap.size) 0 (ints T) (fun hi e => by have := lo.out hi _ e; omega))
              replace Q17 := Lib.hid (nuPutsE Q17.out (w10.heap.size) 0 (ints T) (fun z e => by have := lo2.out z e; omega))
              replace HB := Lib.hid (HB.out.puts (b := w10.heap.size) (by omega) 0 (ints T))
              (refine wpAnyH_take (i := 18) (v := ?_) rfl (by kernel_rfl) (by kernel_rfl) (by kernel_rfl) (fun _ _ _ h => h) (Or.inl ⟨by rfl, ?_⟩) hHeld ?_; rotate_left; (· (intro w' hSw; go_simp; try with_reducible rfl)); (try simp only [List.getElem_toArray, List.getElem_cons_zero, List.getElem_cons_succ, Act.put, List.setIfInBounds_toArray, List.set_cons_zero, List.set_cons_succ])); (refine wpAnyH_take (i := 19) (v := ?_) rfl (by kernel_rfl) (by kernel_rfl) (by kernel_rfl) (fun _ _ _ h => h) (Or.inl ⟨by rfl, ?_⟩) hHeld ?_; rotate_left; (· (intro w' hSw; go_simp; try with_reducible rfl)); (try simp only [List.getElem_toArray, List.getElem_cons_zero, List.getElem_cons_succ, Act.put, List.setIfInBounds_toArray, List.set_cons_zero, List.set_cons_succ]))
              refine wpAnyH_done (by kernel_rfl) ?_ _
              clear hHeld lo lo2 l1 l3 SF
              obtain ⟨B3, hB3⟩ : ∃ B3, w10.heap.size = B3 := ⟨_, rfl⟩
              rw [hB3] at TZ H3 Q27 Q17 HB ⊢
              generalize (w10.alloc (.cells #[.int .i64 0, .int .i64 0, .int .i64 0, .int .i64 0, .int .i64 0, .int .i64 0, .int .i64 0, .int .i64 0, .int .i64 0, .int .i64 0, .int .i64 0, .int .i64 0, .int .i64 0, .int .i64 0, .int .i64 0, .int .i64 0, .int .i64 0, .int .i64 0, .int .i64 0, .int .i64 0, .int .i64 0, .int .i64 0, .int .i64 0, .int .i64 0] 27)).setCells B3 0 (ints T) = VF at *
              clear hB3
              go_wp2_with (refine guard_op (isLoad 27) ?_ ?_; (· rfl); (refine load_has rfl 27 _ rfl _ rfl ?_ 24 ?_ _ Try.underlying27 rfl ?_ ?_; rotate_left; (· (repeat (first | (with_reducible assumption) | ((with_reducible refine Has.box _ _ ?_ ?_) <;> (first | assumption | decide)) | (with_reducible refine Has.alloc ?_ _) | ((with_reducible refine Has.putOther ?_ _ _ ?_); rotate_left; omega; skip) | ((with_reducible refine Has.below ?_ ?_); rotate_left; assumption)))); (· kernel_rfl)))
              refine (KF.out _).mono ?_
              rintro e w11 ⟨v33, rfl, q33, b11⟩
              replace H3 := H3.below b11
              replace Q27 := Lib.hid (Q27.out.below b11)
              replace Q17 := Lib.hid (Q17.out.below b11)
              replace HB := Lib.hid (HB.out.call b11)
              obtain ⟨a33, c33, rfl⟩ := q33.rw.shape
              clear b11 TZ KF KP1 q33
              have c0 := Q17.out.cell k hkn
              rw [HN3.out] at c0
              go_wp2_with fail
              go_roundw
              case rel => exact ⟨k + 1, by omega, by go_num, H3, Q27, Q17, HB⟩
              case measure => simp [intOf]; omega
          case' neg =>
            obtain rfl : k = u := by omega
            go_wp2_with fail
            go_ret
            exact ⟨rfl, HB.out⟩
    case' neg =>
      have x0 : (n == 0) = false := by simp; omega
      have x1 : decide (0 < n) = true := by simp; omega
      have x2 : decide (n = 0) = false := by simp; omega
      clear FB FZ
      by_cases hu : u = 0
      case' pos =>
        have l0 := EL.out
        rw [hu] at l0
        simp only [decide_true, Bool.and_true] at l0
        subst l0
        obtain ⟨ra, rcap, rfl⟩ := Q17.out.shape
        obtain ⟨v1, O1, b1⟩ := FL.out (by trivial) (by omega) hu
        subst hu
        subst O1
        subst v1
        subst b1
        clear EL FU FL FV Q17 Q10
        go_wp2_with fail
        go_loop [21] (fun i => i = .int .i64 0) (fun _ => 0)
        case atStart => rfl
        case round =>
          obtain rfl := hrel
          go_wp2_with (refine guard_op (isLoad 27) ?_ ?_; (· rfl); (refine load_has rfl 27 _ rfl _ rfl ?_ 24 ?_ _ Try.underlying27 rfl ?_ ?_; rotate_left; (· (repeat (first | (with_reducible assumption) | ((with_reducible refine Has.box _ _ ?_ ?_) <;> (first | assumption | decide)) | (with_reducible refine Has.alloc ?_ _) | ((with_reducible refine Has.putOther ?_ _ _ ?_); rotate_left; omega; skip) | ((with_reducible refine Has.below ?_ ?_); rotate_left; assumption)))); (· kernel_rfl)))
          refine (KU.out _).mono ?_
          rintro e w15 ⟨v27, rfl, q27, bb⟩
          replace H3 := H3.below bb
          replace HB := Lib.hid (HB.out.call bb)
          clear bb
          obtain ⟨a27, c27, rfl⟩ := q27.rw.shape
          clear q27 KU
          go_wp2_with fail
          go_loop [29] (fun i => i = .int .i64 0) (fun _ => 0)
          case atStart => rfl
          case round =>
            obtain rfl := hrel
            go_wp2_with fail
            go_ret
            exact ⟨rfl, HB.out⟩
      case' neg =>
        have l0 := EL.out
        rw [decide_eq_false hu, Bool.and_false] at l0
        subst l0
        clear EL
        have e0 : ((u : Int) == 0) = false := by simp; omega
        have e1 : decide ((u : Int) = 0) = false := by simp; omega
        obtain ⟨rg, rcap, hrv, _, _⟩ := Q17.out.form (by omega)
        subst hrv
        have FY := Lib.hid (FU.out (by trivial))
        clear FU
        obtain ⟨O1, b1, FX⟩ := FV.out (by trivial) (by omega) hu
        subst O1
        replace FX := Lib.hid FX
        clear FL FV
        have f0 : ((bn : Int) == 0) = false := by simp; omega
        have f1 : decide ((bn : Int) = 0) = false := by simp; omega
        replace Q10 := Lib.hid (Q10.out.mono (b' := 0) (Nat.zero_le _))
        obtain ⟨pg, pcap, hpv, _, _⟩ := Q10.out.form (by omega)
        injection hpv with ha _ hcap
        subst ha
        subst hcap
        go_wp2_with fail
        go_loopw [21] (fun i wr => ∃ k : Nat, k ≤ bn ∧ i = .int .i64 k ∧ Has wr B1 ns 24 ∧ Hid (Rw wr 0 (.slice (some ⟨pg, 0, none⟩) bn c10) bn bf) ∧ Hid (Nu wr B0 (.slice (some ⟨rg, 0, none⟩) u rcap) u rl) ∧ Hid (Kept w wr)) (fun i _ => bn - (intOf i).toNat)
        case atStart => exact ⟨0, by omega, rfl, H3, Q10, Q17, HB⟩
        case round =>
          clear H3 Q10 Q17 HB
          obtain ⟨k, hk, rfl, H3, Q10, Q17, HB⟩ := hrel
          by_cases hkn : k < bn
          case' pos =>
            have hki : (k : Int) < (bn : Int) := by omega
            have hk0 : (0 : Int) ≤ (k : Int) := by omega
            obtain ⟨i, j, hx, hy, hpo, TL, hn2, hn3⟩ := FX.out k hkn
            have KP1 := Lib.hid (fun W => KO.out i j W)
            rw [hpo] at KP1
            clear hpo
            generalize pourA ns i j = am at *
            generalize pourR ns i j = T at *
            have HX := Lib.hid hx
            have HY := Lib.hid hy
            have hlT : (ints T).length = 24 := by rw [ints_len]; exact TL
            have HLT := Lib.hid hlT
            clear hx hy hlT
            have KF := Lib.hid (fun W => KE.out T TL W)
            rw [hn2] at KF
            clear hn2
            generalize gvA ptE (-1) T (n - 1) = z at *
            replace H3 := H3.drew
            replace Q10 := Lib.hid Q10.out.drew
            replace Q17 := Lib.hid (nuDrewE Q17.out)
            replace HB := Lib.hid (keptDrewE HB.out)
            go_wp2_with fail
            refine wp_region_held_drew (S := fun w' => Rw w' 0 (.slice (some ⟨pg, 0, none⟩) bn c10) bn bf ∧ Has w' B1 ns 24) (by kernel_rfl) ⟨Q10.out, H3⟩ (fun hHeld => ?_)
            generalize World.drew _ = V1 at *
            (refine wpAnyH_take (i := 1) (v := ?_) rfl (by kernel_rfl) (by kernel_rfl) (by kernel_rfl) (fun _ _ _ h => h) (Or.inl ⟨by rfl, ?_⟩) hHeld ?_; rotate_left; (· (intro w' hSw; go_simp; try with_reducible rfl)); (try simp only [List.getElem_toArray, List.getElem_cons_zero, List.getElem_cons_succ, Act.put, List.setIfInBounds_toArray, List.set_cons_zero, List.set_cons_succ])); (refine wpAnyH_take (i := 2) (v := ?_) rfl (by kernel_rfl) (by kernel_rfl) (by kernel_rfl) (fun _ _ _ h => h) (Or.inl ⟨by rfl, ?_⟩) hHeld ?_; rotate_left; (· (intro w' hSw; go_simp; try with_reducible rfl)); (try simp only [List.getElem_toArray, List.getElem_cons_zero, List.getElem_cons_succ, Act.put, List.setIfInBounds_toArray, List.set_cons_zero, List.set_cons_succ])); (refine wpAnyH_take (i := 3) (v := ?_) rfl (by kernel_rfl) (by kernel_rfl) (by kernel_rfl) (fun _ _ _ h => h) (Or.inl ⟨by rfl, ?_⟩) hHeld ?_; rotate_left; (· (intro w' hSw; go_simp; try with_reducible rfl)); (try simp only [List.getElem_toArray, List.getElem_cons_zero, List.getElem_cons_succ, Act.put, List.setIfInBounds_toArray, List.set_cons_zero, List.set_cons_succ])); (refine wpAnyH_take (i := 4) (v := ?_) rfl (by kernel_rfl) (by kernel_rfl) (by kernel_rfl) (fun _ _ _ h => h) (Or.inl ⟨by rfl, ?_⟩) hHeld ?_; rotate_left; (· (intro w' hSw; go_simp; try with_reducible rfl)); (try simp only [List.getElem_toArray, List.getElem_cons_zero, List.getElem_cons_succ, Act.put, List.setIfInBounds_toArray, List.set_cons_zero, List.set_cons_succ]))
            (refine wpAnyH_take (i := 0) (v := _) rfl (by kernel_rfl) (by kernel_rfl) (by kernel_rfl) (fun _ _ _ h => h) (yieldsIf_load_mid (by rfl) 27 _ rfl _ _ rfl (ints ns) _ (fun w' hSw => hSw.2.holds.range) Try.underlying27 rfl (hiR.out)) hHeld ?_; (try simp only [List.getElem_toArray, List.getElem_cons_zero, List.getElem_cons_succ, Act.put, List.setIfInBounds_toArray, List.set_cons_zero, List.set_cons_succ]))
            (refine wpAnyH_take (i := 5) (v := .int .i64 i) rfl (by kernel_rfl) (by kernel_rfl) (by kernel_rfl) (fun _ _ _ h => h) (Or.inl ⟨by rfl, ?_⟩) hHeld ?_; (· (intro w' hSw; have q := hSw.1.cellX (by omega) HX.out; clear hSw; go_simp; try with_reducible rfl)); (try simp only [List.getElem_toArray, List.getElem_cons_zero, List.getElem_cons_succ, Act.put, List.setIfInBounds_toArray, List.set_cons_zero, List.set_cons_succ]))
            (refine wpAnyH_take (i := 6) (v := ?_) rfl (by kernel_rfl) (by kernel_rfl) (by kernel_rfl) (fun _ _ _ h => h) (Or.inl ⟨by rfl, ?_⟩) hHeld ?_; rotate_left; (· (intro w' hSw; go_simp; try with_reducible rfl)); (try simp only [List.getElem_toArray, List.getElem_cons_zero, List.getElem_cons_succ, Act.put, List.setIfInBounds_toArray, List.set_cons_zero, List.set_cons_succ])); (refine wpAnyH_take (i := 7) (v := ?_) rfl (by kernel_rfl) (by kernel_rfl) (by kernel_rfl) (fun _ _ _ h => h) (Or.inl ⟨by rfl, ?_⟩) hHeld ?_; rotate_left; (· (intro w' hSw; go_simp; try with_reducible rfl)); (try simp only [List.getElem_toArray, List.getElem_cons_zero, List.getElem_cons_succ, Act.put, List.setIfInBounds_toArray, List.set_cons_zero, List.set_cons_succ])); (refine wpAnyH_take (i := 8) (v := ?_) rfl (by kernel_rfl) (by kernel_rfl) (by kernel_rfl) (fun _ _ _ h => h) (Or.inl ⟨by rfl, ?_⟩) hHeld ?_; rotate_left; (· (intro w' hSw; go_simp; try with_reducible rfl)); (try simp only [List.getElem_toArray, List.getElem_cons_zero, List.getElem_cons_succ, Act.put, List.setIfInBounds_toArray, List.set_cons_zero, List.set_cons_succ])); (refine wpAnyH_take (i := 9) (v := ?_) rfl (by kernel_rfl) (by kernel_rfl) (by kernel_rfl) (fun _ _ _ h => h) (Or.inl ⟨by rfl, ?_⟩) hHeld ?_; rotate_left; (· (intro w' hSw; go_simp; try with_reducible rfl)); (try simp only [List.getElem_toArray, List.getElem_cons_zero, List.getElem_cons_succ, Act.put, List.setIfInBounds_toArray, List.set_cons_zero, List.set_cons_succ]))
            (refine wpAnyH_take (i := 10) (v := .int .i64 j) rfl (by kernel_rfl) (by kernel_rfl) (by kernel_rfl) (fun _ _ _ h => h) (Or.inl ⟨by rfl, ?_⟩) hHeld ?_; (· (intro w' hSw; have q := hSw.1.cellX (by omega) HY.out; clear hSw; go_simp; try with_reducible rfl)); (try simp only [List.getElem_toArray, List.getElem_cons_zero, List.getElem_cons_succ, Act.put, List.setIfInBounds_toArray, List.set_cons_zero, List.set_cons_succ]))
            refine wpAnyH_ready (rs := [11, 16]) (by kernel_rfl) (by simp) ?_
            refine AllReadyH.cons (o := _) rfl (fun K hK => ?_) (AllReadyH.cons (o := _) rfl (fun K hK => ?_) AllReadyH.nil)
            rotate_left
            · (simp only [List.getElem_toArray, List.getElem_cons_zero, List.getElem_cons_succ, Region.wanted, if_true])
              go_simp
              have lo := Lib.hid (fun hn k hk => (Q10.out.ownlt hn k hk).2)
              have lo2 := Lib.hid (fun k hk => (Q17.out.own k hk).2)
              have l1 := H3.lt
              have l3 := HB.out.size
              have TZ := Has.zero24 V1 27
              have l4 : V1.heap.size < (V1.alloc (.cells #[.int .i64 0, .int .i64 0, .int .i64 0, .int .i64 0, .int .i64 0, .int .i64 0, .int .i64 0, .int .i64 0, .int .i64 0, .int .i64 0, .int .i64 0, .int .i64 0, .int .i64 0, .int .i64 0, .int .i64 0, .int .i64 0, .int .i64 0, .int .i64 0, .int .i64 0, .int .i64 0, .int .i64 0, .int .i64 0, .int .i64 0, .int .i64 0] 27)).heap.size := by rw [size1]; omega
              refine hK.out _ _ ⟨hHeld.1.alloc _, hHeld.2.alloc _⟩ (fun hHeld => ?_)
              clear hK K
              replace H3 := H3.alloc (.cells #[.int .i64 0, .int .i64 0, .int .i64 0, .int .i64 0, .int .i64 0, .int .i64 0, .int .i64 0, .int .i64 0, .int .i64 0, .int .i64 0, .int .i64 0, .int .i64 0, .int .i64 0, .int .i64 0, .int .i64 0, .int .i64 0, .int .i64 0, .int .i64 0, .int .i64 0, .int .i64 0, .int .i64 0, .int .i64 0, .int .i64 0, .int .i64 0] 27)
              replace Q10 := Lib.hid (Q10.out.alloc (.cells #[.int .i64 0, .int .i64 0, .int .i64 0, .int .i64 0, .int .i64 0, .int .i64 0, .int .i64 0, .int .i64 0, .int .i64 0, .int .i64 0, .int .i64 0, .int .i64 0, .int .i64 0, .int .i64 0, .int .i64 0, .int .i64 0, .int .i64 0, .int .i64 0, .int .i64 0, .int .i64 0, .int .i64 0, .int .i64 0, .int .i64 0, .int .i64 0] 27))
              replace Q17 := Lib.hid (Q17.out.alloc (.cells #[.int .i64 0, .int .i64 0, .int .i64 0, .int .i64 0, .int .i64 0, .int .i64 0, .int .i64 0, .int .i64 0, .int .i64 0, .int .i64 0, .int .i64 0, .int .i64 0, .int .i64 0, .int .i64 0, .int .i64 0, .int .i64 0, .int .i64 0, .int .i64 0, .int .i64 0, .int .i64 0, .int .i64 0, .int .i64 0, .int .i64 0, .int .i64 0] 27))
              replace HB := Lib.hid (HB.out.alloc (.cells #[.int .i64 0, .int .i64 0, .int .i64 0, .int .i64 0, .int .i64 0, .int .i64 0, .int .i64 0, .int .i64 0, .int .i64 0, .int .i64 0, .int .i64 0, .int .i64 0, .int .i64 0, .int .i64 0, .int .i64 0, .int .i64 0, .int .i64 0, .int .i64 0, .int .i64 0, .int .i64 0, .int .i64 0, .int .i64 0, .int .i64 0, .int .i64 0] 27))
              (refine wpAnyH_ready (rs := [11]) (by kernel_rfl) (by simp) ?_; refine AllReadyH.cons (o := _) rfl (fun K hK => ?_) AllReadyH.nil; (simp only [List.getElem_toArray, List.getElem_cons_zero, List.getElem_cons_succ, Region.wanted, if_true]))
              go_simp
              refine (KP1.out _).mono ?_
              rintro e w10 ⟨rfl, b10⟩
              dsimp only
              (try simp only [List.getElem_toArray, List.getElem_cons_zero, List.getElem_cons_succ, Act.put, List.setIfInBounds_toArray, List.set_cons_zero, List.set_cons_succ])
              refine hK.out _ _ ⟨hHeld.1.below b10, hHeld.2.below b10⟩ (fun hHeld => ?_)
              clear hK K
              replace TZ := TZ.below b10
              replace H3 := H3.below b10
              replace Q10 := Lib.hid (Q10.out.below b10)
              replace Q17 := Lib.hid (Q17.out.below b10)
              replace HB := Lib.hid (HB.out.call b10)
              clear b10 l4
              (refine wpAnyH_take (i := 12) (v := ?_) rfl (by kernel_rfl) (by kernel_rfl) (by kernel_rfl) (fun _ _ _ h => h) (Or.inl ⟨by rfl, ?_⟩) hHeld ?_; rotate_left; (· (intro w' hSw; go_simp; try with_reducible rfl)); (try simp only [List.getElem_toArray, List.getElem_cons_zero, List.getElem_cons_succ, Act.put, List.setIfInBounds_toArray, List.set_cons_zero, List.set_cons_succ])); (refine wpAnyH_take (i := 13) (v := ?_) rfl (by kernel_rfl) (by kernel_rfl) (by kernel_rfl) (fun _ _ _ h => h) (Or.inl ⟨by rfl, ?_⟩) hHeld ?_; rotate_left; (· (intro w' hSw; go_simp; try with_reducible rfl)); (try simp only [List.getElem_toArray, List.getElem_cons_zero, List.getElem_cons_succ, Act.put, List.setIfInBounds_toArray, List.set_cons_zero, List.set_cons_succ])); (refine wpAnyH_take (i := 14) (v := ?_) rfl (by kernel_rfl) (by kernel_rfl) (by kernel_rfl) (fun _ _ _ h => h) (Or.inl ⟨by rfl, ?_⟩) hHeld ?_; rotate_left; (· (intro w' hSw; go_simp; try with_reducible rfl)); (try simp only [List.getElem_toArray, List.getElem_cons_zero, List.getElem_cons_succ, Act.put, List.setIfInBounds_toArray, List.set_cons_zero, List.set_cons_succ])); (refine wpAnyH_take (i := 15) (v := ?_) rfl (by kernel_rfl) (by kernel_rfl) (by kernel_rfl) (fun _ _ _ h => h) (Or.inl ⟨by rfl, ?_⟩) hHeld ?_; rotate_left; (· (intro w' hSw; go_simp; try with_reducible rfl)); (try simp only [List.getElem_toArray, List.getElem_cons_zero, List.getElem_cons_succ, Act.put, List.setIfInBounds_toArray, List.set_cons_zero, List.set_cons_succ]))
              have SF := And.intro (hHeld.1.puts (V1.heap.size) 0 (ints T) (fun hi e => by have := lo.out hi _ e; omega)) (hHeld.2.putOther (b' := V1.heap.size) 0 (ints T) (by omega))
              (refine wpAnyH_ready (rs := [17]) (by kernel_rfl) (by simp) ?_; refine AllReadyH.cons (o := _) rfl (fun K hK => ?_) AllReadyH.nil; (simp only [List.getElem_toArray, List.getElem_cons_zero, List.getElem_cons_succ, Region.wanted, if_true]); refine wp_store_mid _ _ _ rfl _ _ (ints T).toArray rfl rfl (by simpa [HLT.out] using TZ.there) (by simpa [HLT.out] using HI24.out) (all_oneCell_toArray (ints_one _)) ?_; (try simp only [List.getElem_toArray, List.getElem_cons_zero, List.getElem_cons_succ, Act.put, List.setIfInBounds_toArray, List.set_cons_zero, List.set_cons_succ, List.toList_toArray]); refine hK.out _ _ (SF) (fun hHeld => ?_); clear hK K)
              replace TZ := TZ.putAll T TL
              replace H3 := H3.putOther (b' := V1.heap.size) 0 (ints T) (by omega)
              replace Q10 := Lib.hid (Q10.out.puts (V1.heap.size) 0 (ints T) (fun hi e => by have := lo.out hi _ e; omega))
              replace Q17 := Lib.hid (nuPutsE Q17.out (V1.heap.size) 0 (ints T) (fun z e => by have := lo2.out z e; omega))
              replace HB := Lib.hid (HB.out.puts (b := V1.heap.size) (by omega) 0 (ints T))
              (refine wpAnyH_take (i := 18) (v := ?_) rfl (by kernel_rfl) (by kernel_rfl) (by kernel_rfl) (fun _ _ _ h => h) (Or.inl ⟨by rfl, ?_⟩) hHeld ?_; rotate_left; (· (intro w' hSw; go_simp; try with_reducible rfl)); (try simp only [List.getElem_toArray, List.getElem_cons_zero, List.getElem_cons_succ, Act.put, List.setIfInBounds_toArray, List.set_cons_zero, List.set_cons_succ])); (refine wpAnyH_take (i := 19) (v := ?_) rfl (by kernel_rfl) (by kernel_rfl) (by kernel_rfl) (fun _ _ _ h => h) (Or.inl ⟨by rfl, ?_⟩) hHeld ?_; rotate_left; (· (intro w' hSw; go_simp; try with_reducible rfl)); (try simp only [List.getElem_toArray, List.getElem_cons_zero, List.getElem_cons_succ, Act.put, List.setIfInBounds_toArray, List.set_cons_zero, List.set_cons_succ]))
              refine wpAnyH_done (by kernel_rfl) ?_ _
              clear hHeld lo lo2 l1 l3 SF
              obtain ⟨B3, hB3⟩ : ∃ B3, V1.heap.size = B3 := ⟨_, rfl⟩
              rw [hB3] at TZ H3 Q10 Q17 HB ⊢
              generalize (w10).setCells B3 0 (ints T) = VF at *
              clear hB3
              go_wp2_with (refine guard_op (isLoad 27) ?_ ?_; (· rfl); (refine load_has rfl 27 _ rfl _ rfl ?_ 24 ?_ _ Try.underlying27 rfl ?_ ?_; rotate_left; (· (repeat (first | (with_reducible assumption) | ((with_reducible refine Has.box _ _ ?_ ?_) <;> (first | assumption | decide)) | (with_reducible refine Has.alloc ?_ _) | ((with_reducible refine Has.putOther ?_ _ _ ?_); rotate_left; omega; skip) | ((with_reducible refine Has.below ?_ ?_); rotate_left; assumption)))); (· kernel_rfl)))
              refine (KF.out _).mono ?_
              rintro e w11 ⟨rfl, b11⟩
              replace H3 := H3.below b11
              replace Q10 := Lib.hid (Q10.out.below b11)
              replace Q17 := Lib.hid (Q17.out.below b11)
              replace HB := Lib.hid (HB.out.call b11)
              clear b11 TZ KF KP1
              go_wp2_with fail
              go_roundw
              case rel => exact ⟨k + 1, by omega, by go_num, H3, Q10, Q17, HB⟩
              case measure => simp [intOf]; omega
            · (simp only [List.getElem_toArray, List.getElem_cons_zero, List.getElem_cons_succ, Region.wanted, if_true])
              go_simp
              refine (KP1.out _).mono ?_
              rintro e w10 ⟨rfl, b10⟩
              dsimp only
              (try simp only [List.getElem_toArray, List.getElem_cons_zero, List.getElem_cons_succ, Act.put, List.setIfInBounds_toArray, List.set_cons_zero, List.set_cons_succ])
              refine hK.out _ _ ⟨hHeld.1.below b10, hHeld.2.below b10⟩ (fun hHeld => ?_)
              clear hK K
              replace H3 := H3.below b10
              replace Q10 := Lib.hid (Q10.out.below b10)
              replace Q17 := Lib.hid (Q17.out.below b10)
              replace HB := Lib.hid (HB.out.call b10)
              clear b10
              (refine wpAnyH_take (i := 12) (v := ?_) rfl (by kernel_rfl) (by kernel_rfl) (by kernel_rfl) (fun _ _ _ h => h) (Or.inl ⟨by rfl, ?_⟩) hHeld ?_; rotate_left; (· (intro w' hSw; go_simp; try with_reducible rfl)); (try simp only [List.getElem_toArray, List.getElem_cons_zero, List.getElem_cons_succ, Act.put, List.setIfInBounds_toArray, List.set_cons_zero, List.set_cons_succ])); (refine wpAnyH_take (i := 13) (v := ?_) rfl (by kernel_rfl) (by kernel_rfl) (by kernel_rfl) (fun _ _ _ h => h) (Or.inl ⟨by rfl, ?_⟩) hHeld ?_; rotate_left; (· (intro w' hSw; go_simp; try with_reducible rfl)); (try simp only [List.getElem_toArray, List.getElem_cons_zero, List.getElem_cons_succ, Act.put, List.setIfInBounds_toArray, List.set_cons_zero, List.set_cons_succ])); (refine wpAnyH_take (i := 14) (v := ?_) rfl (by kernel_rfl) (by kernel_rfl) (by kernel_rfl) (fun _ _ _ h => h) (Or.inl ⟨by rfl, ?_⟩) hHeld ?_; rotate_left; (· (intro w' hSw; go_simp; try with_reducible rfl)); (try simp only [List.getElem_toArray, List.getElem_cons_zero, List.getElem_cons_succ, Act.put, List.setIfInBounds_toArray, List.set_cons_zero, List.set_cons_succ])); (refine wpAnyH_take (i := 15) (v := ?_) rfl (by kernel_rfl) (by kernel_rfl) (by kernel_rfl) (fun _ _ _ h => h) (Or.inl ⟨by rfl, ?_⟩) hHeld ?_; rotate_left; (· (intro w' hSw; go_simp; try with_reducible rfl)); (try simp only [List.getElem_toArray, List.getElem_cons_zero, List.getElem_cons_succ, Act.put, List.setIfInBounds_toArray, List.set_cons_zero, List.set_cons_succ]))
              have lo := Lib.hid (fun hn k hk => (Q10.out.ownlt hn k hk).2)
              have lo2 := Lib.hid (fun k hk => (Q17.out.own k hk).2)
              have l1 := H3.lt
              have l3 := HB.out.size
              have TZ := Has.zero24 w10 27
              (refine wpAnyH_ready (rs := [16]) (by kernel_rfl) (by simp) ?_; refine AllReadyH.cons (o := _) rfl (fun K hK => ?_) AllReadyH.nil; (simp only [List.getElem_toArray, List.getElem_cons_zero, List.getElem_cons_succ, Region.wanted, if_true]))
              go_simp
              refine hK.out _ _ ⟨hHeld.1.alloc _, hHeld.2.alloc _⟩ (fun hHeld => ?_)
              clear hK K
              replace H3 := H3.alloc (.cells #[.int .i64 0, .int .i64 0, .int .i64 0, .int .i64 0, .int .i64 0, .int .i64 0, .int .i64 0, .int .i64 0, .int .i64 0, .int .i64 0, .int .i64 0, .int .i64 0, .int .i64 0, .int .i64 0, .int .i64 0, .int .i64 0, .int .i64 0, .int .i64 0, .int .i64 0, .int .i64 0, .int .i64 0, .int .i64 0, .int .i64 0, .int .i64 0] 27)
              replace Q10 := Lib.hid (Q10.out.alloc (.cells #[.int .i64 0, .int .i64 0, .int .i64 0, .int .i64 0, .int .i64 0, .int .i64 0, .int .i64 0, .int .i64 0, .int .i64 0, .int .i64 0, .int .i64 0, .int .i64 0, .int .i64 0, .int .i64 0, .int .i64 0, .int .i64 0, .int .i64 0, .int .i64 0, .int .i64 0, .int .i64 0, .int .i64 0, .int .i64 0, .int .i64 0, .int .i64 0] 27))
              replace Q17 := Lib.hid (Q17.out.alloc (.cells #[.int .i64 0, .int .i64 0, .int .i64 0, .int .i64 0, .int .i64 0, .int .i64 0, .int .i64 0, .int .i64 0, .int .i64 0, .int .i64 0, .int .i64 0, .int .i64 0, .int .i64 0, .int .i64 0, .int .i64 0, .int .i64 0, .int .i64 0, .int .i64 0, .int .i64 0, .int .i64 0, .int .i64 0, .int .i64 0, .int .i64 0, .int .i64 0] 27))
              replace HB := Lib.hid (HB.out.alloc (.cells #[.int .i64 0, .int .i64 0, .int .i64 0, .int .i64 0, .int .i64 0, .int .i64 0, .int .i64 0, .int .i64 0, .int .i64 0, .int .i64 0, .int .i64 0, .int .i64 0, .int .i64 0, .int .i64 0, .int .i64 0, .int .i64 0, .int .i64 0, .int .i64 0, .int .i64 0, .int .i64 0, .int .i64 0, .int .i64 0, .int .i64 0, .int .i64 0] 27))
              have SF := And.intro (hHeld.1.puts (w10.heap.size) 0 (ints T) (fun hi e => by have := lo.out hi _ e; omega)) (hHeld.2.putOther (b' := w10.heap.size) 0 (ints T) (by omega))
              (refine wpAnyH_ready (rs := [17]) (by kernel_rfl) (by simp) ?_; refine AllReadyH.cons (o := _) rfl (fun K hK => ?_) AllReadyH.nil; (simp only [List.getElem_toArray, List.getElem_cons_zero, List.getElem_cons_succ, Region.wanted, if_true]); refine wp_store_mid _ _ _ rfl _ _ (ints T).toArray rfl rfl (by simpa [HLT.out] using TZ.there) (by simpa [HLT.out] using HI24.out) (all_oneCell_toArray (ints_one _)) ?_; (try simp only [List.getElem_toArray, List.getElem_cons_zero, List.getElem_cons_succ, Act.put, List.setIfInBounds_toArray, List.set_cons_zero, List.set_cons_succ, List.toList_toArray]); refine hK.out _ _ (SF) (fun hHeld => ?_); clear hK K)
              replace TZ := TZ.putAll T TL
              replace H3 := H3.putOther (b' := w10.heap.size) 0 (ints T) (by omega)
              replace Q10 := Lib.hid (Q10.out.puts (w10.heap.size) 0 (ints T) (fun hi e => by have := lo.out hi _ e; omega))
              replace Q17 := Lib.hid (nuPutsE Q17.out (w10.heap.size) 0 (ints T) (fun z e => by have := lo2.out z e; omega))
              replace HB := Lib.hid (HB.out.puts (b := w10.heap.size) (by omega) 0 (ints T))
              (refine wpAnyH_take (i := 18) (v := ?_) rfl (by kernel_rfl) (by kernel_rfl) (by kernel_rfl) (fun _ _ _ h => h) (Or.inl ⟨by rfl, ?_⟩) hHeld ?_; rotate_left; (· (intro w' hSw; go_simp; try with_reducible rfl)); (try simp only [List.getElem_toArray, List.getElem_cons_zero, List.getElem_cons_succ, Act.put, List.setIfInBounds_toArray, List.set_cons_zero, List.set_cons_succ])); (refine wpAnyH_take (i := 19) (v := ?_) rfl (by kernel_rfl) (by kernel_rfl) (by kernel_rfl) (fun _ _ _ h => h) (Or.inl ⟨by rfl, ?_⟩) hHeld ?_; rotate_left; (· (intro w' hSw; go_simp; try with_reducible rfl)); (try simp only [List.getElem_toArray, List.getElem_cons_zero, List.getElem_cons_succ, Act.put, List.setIfInBounds_toArray, List.set_cons_zero, List.set_cons_succ]))
              refine wpAnyH_done (by kernel_rfl) ?_ _
              clear hHeld lo lo2 l1 l3 SF
              obtain ⟨B3, hB3⟩ : ∃ B3, w10.heap.size = B3 := ⟨_, rfl⟩
              rw [hB3] at TZ H3 Q10 Q17 HB ⊢
              generalize (w10.alloc (.cells #[.int .i64 0, .int .i64 0, .int .i64 0, .int .i64 0, .int .i64 0, .int .i64 0, .int .i64 0, .int .i64 0, .int .i64 0, .int .i64 0, .int .i64 0, .int .i64 0, .int .i64 0, .int .i64 0, .int .i64 0, .int .i64 0, .int .i64 0, .int .i64 0, .int .i64 0, .int .i64 0, .int .i64 0, .int .i64 0, .int .i64 0, .int .i64 0] 27)).setCells B3 0 (ints T) = VF at *
              clear hB3
              go_wp2_with (refine guard_op (isLoad 27) ?_ ?_; (· rfl); (refine load_has rfl 27 _ rfl _ rfl ?_ 24 ?_ _ Try.underlying27 rfl ?_ ?_; rotate_left; (· (repeat (first | (with_reducible assumption) | ((with_reducible refine Has.box _ _ ?_ ?_) <;> (first | assumption | decide)) | (with_reducible refine Has.alloc ?_ _) | ((with_reducible refine Has.putOther ?_ _ _ ?_); rotate_left; omega; skip) | ((with_reducible refine Has.below ?_ ?_); rotate_left; assumption)))); (· kernel_rfl)))
              refine (KF.out _).mono ?_
              rintro e w11 ⟨rfl, b11⟩
              replace H3 := H3.below b11
              replace Q10 := Lib.hid (Q10.out.below b11)
              replace Q17 := Lib.hid (Q17.out.below b11)
              replace HB := Lib.hid (HB.out.call b11)
              clear b11 TZ KF KP1
              go_wp2_with fail
              go_roundw
              case rel => exact ⟨k + 1, by omega, by go_num, H3, Q10, Q17, HB⟩
              case measure => simp [intOf]; omega
          case' neg =>
            obtain rfl : k = bn := by omega
            clear Q10
            go_wp2_with (refine guard_op (isLoad 27) ?_ ?_; (· rfl); (refine load_has rfl 27 _ rfl _ rfl ?_ 24 ?_ _ Try.underlying27 rfl ?_ ?_; rotate_left; (· (repeat (first | (with_reducible assumption) | ((with_reducible refine Has.box _ _ ?_ ?_) <;> (first | assumption | decide)) | (with_reducible refine Has.alloc ?_ _) | ((with_reducible refine Has.putOther ?_ _ _ ?_); rotate_left; omega; skip) | ((with_reducible refine Has.below ?_ ?_); rotate_left; assumption)))); (· kernel_rfl)))
            refine (KU.out _).mono ?_
            rintro e w16 ⟨v27, rfl, q27, bb⟩
            replace H3 := H3.below bb
            replace HB := Lib.hid (HB.out.call bb)
            replace Q17 := Lib.hid (Q17.out.below bb)
            clear bb
            have Q27 := Lib.hid q27.rw
            clear q27 KU
            obtain ⟨a27, c27, rfl⟩ := Q27.out.shape
            replace Q27 := Lib.hid (Q27.out.mono (b' := 0) (Nat.zero_le _))
            obtain ⟨pg, pcap, hpv, _, _⟩ := Q27.out.form (by omega)
            injection hpv with ha _ hcap
            subst ha
            subst hcap
            go_wp2_with fail
            go_loopw [29] (fun i wr => ∃ k : Nat, k ≤ u ∧ i = .int .i64 k ∧ Has wr B1 ns 24 ∧ Hid (Rw wr 0 (.slice (some ⟨pg, 0, none⟩) u c27) u uf) ∧ Hid (Nu wr B0 (.slice (some ⟨rg, 0, none⟩) u rcap) u rl) ∧ Hid (Kept w wr)) (fun i _ => u - (intOf i).toNat)
            case atStart => exact ⟨0, by omega, rfl, H3, Q27, Q17, HB⟩
            case round =>
              clear H3 Q27 Q17 HB
              obtain ⟨k, hk, rfl, H3, Q27, Q17, HB⟩ := hrel
              by_cases hkn : k < u
              case' pos =>
                have hki : (k : Int) < (u : Int) := by omega
                have hk0 : (0 : Int) ≤ (k : Int) := by omega
                obtain ⟨i, j, hx, hy, hpo, TL, hn2, hn3⟩ := FY.out k hkn
                have KP1 := Lib.hid (fun W => KO.out i j W)
                rw [hpo] at KP1
                clear hpo
                generalize pourA ns i j = am at *
                generalize pourR ns i j = T at *
                have HX := Lib.hid hx
                have HY := Lib.hid hy
                have hlT : (ints T).length = 24 := by rw [ints_len]; exact TL
                have HLT := Lib.hid hlT
                clear hx hy hlT
                have KF := Lib.hid (fun W => KT.out T TL W)
                unfold UsefPost at KF
                rw [hn2] at KF
                clear hn2
                have U30 := use30 T
                generalize usefFA T = tf at *
                generalize usefNA T = tu at *
                have HN3 := Lib.hid hn3
                clear hn3
                replace H3 := H3.drew
                replace Q27 := Lib.hid Q27.out.drew
                replace Q17 := Lib.hid (nuDrewE Q17.out)
                replace HB := Lib.hid (keptDrewE HB.out)
                go_wp2_with fail
                refine wp_region_held_drew (S := fun w' => Rw w' 0 (.slice (some ⟨pg, 0, none⟩) u c27) u uf ∧ Has w' B1 ns 24) (by kernel_rfl) ⟨Q27.out, H3⟩ (fun hHeld => ?_)
                generalize World.drew _ = V1 at *
                (refine wpAnyH_take (i := 1) (v := ?_) rfl (by kernel_rfl) (by kernel_rfl) (by kernel_rfl) (fun _ _ _ h => h) (Or.inl ⟨by rfl, ?_⟩) hHeld ?_; rotate_left; (· (intro w' hSw; go_simp; try with_reducible rfl)); (try simp only [List.getElem_toArray, List.getElem_cons_zero, List.getElem_cons_succ, Act.put, List.setIfInBounds_toArray, List.set_cons_zero, List.set_cons_succ])); (refine wpAnyH_take (i := 2) (v := ?_) rfl (by kernel_rfl) (by kernel_rfl) (by kernel_rfl) (fun _ _ _ h => h) (Or.inl ⟨by rfl, ?_⟩) hHeld ?_; rotate_left; (· (intro w' hSw; go_simp; try with_reducible rfl)); (try simp only [List.getElem_toArray, List.getElem_cons_zero, List.getElem_cons_succ, Act.put, List.setIfInBounds_toArray, List.set_cons_zero, List.set_cons_succ])); (refine wpAnyH_take (i := 3) (v := ?_) rfl (by kernel_rfl) (by kernel_rfl) (by kernel_rfl) (fun _ _ _ h => h) (Or.inl ⟨by rfl, ?_⟩) hHeld ?_; rotate_left; (· (intro w' hSw; go_simp; try with_reducible rfl)); (try simp only [List.getElem_toArray, List.getElem_cons_zero, List.getElem_cons_succ, Act.put, List.setIfInBounds_toArray, List.set_cons_zero, List.set_cons_succ])); (refine wpAnyH_take (i := 4) (v := ?_) rfl (by kernel_rfl) (by kernel_rfl) (by kernel_rfl) (fun _ _ _ h => h) (Or.inl ⟨by rfl, ?_⟩) hHeld ?_; rotate_left; (· (intro w' hSw; go_simp; try with_reducible rfl)); (try simp only [List.getElem_toArray, List.getElem_cons_zero, List.getElem_cons_succ, Act.put, List.setIfInBounds_toArray, List.set_cons_zero, List.set_cons_succ]))
                (refine wpAnyH_take (i := 0) (v := _) rfl (by kernel_rfl) (by kernel_rfl) (by kernel_rfl) (fun _ _ _ h => h) (yieldsIf_load_mid (by rfl) 27 _ rfl _ _ rfl (ints ns) _ (fun w' hSw => hSw.2.holds.range) Try.underlying27 rfl (hiR.out)) hHeld ?_; (try simp only [List.getElem_toArray, List.getElem_cons_zero, List.getElem_cons_succ, Act.put, List.setIfInBounds_toArray, List.set_cons_zero, List.set_cons_succ]))
                (refine wpAnyH_take (i := 5) (v := .int .i64 i) rfl (by kernel_rfl) (by kernel_rfl) (by kernel_rfl) (fun _ _ _ h => h) (Or.inl ⟨by rfl, ?_⟩) hHeld ?_; (· (intro w' hSw; have q := hSw.1.cellX (by omega) HX.out; clear hSw; go_simp; try with_reducible rfl)); (try simp only [List.getElem_toArray, List.getElem_cons_zero, List.getElem_cons_succ, Act.put, List.setIfInBounds_toArray, List.set_cons_zero, List.set_cons_succ]))
                (refine wpAnyH_take (i := 6) (v := ?_) rfl (by kernel_rfl) (by kernel_rfl) (by kernel_rfl) (fun _ _ _ h => h) (Or.inl ⟨by rfl, ?_⟩) hHeld ?_; rotate_left; (· (intro w' hSw; go_simp; try with_reducible rfl)); (try simp only [List.getElem_toArray, List.getElem_cons_zero, List.getElem_cons_succ, Act.put, List.setIfInBounds_toArray, List.set_cons_zero, List.set_cons_succ])); (refine wpAnyH_take (i := 7) (v := ?_) rfl (by kernel_rfl) (by kernel_rfl) (by kernel_rfl) (fun _ _ _ h => h) (Or.inl ⟨by rfl, ?_⟩) hHeld ?_; rotate_left; (· (intro w' hSw; go_simp; try with_reducible rfl)); (try simp only [List.getElem_toArray, List.getElem_cons_zero, List.getElem_cons_succ, Act.put, List.setIfInBounds_toArray, List.set_cons_zero, List.set_cons_succ])); (refine wpAnyH_take (i := 8) (v := ?_) rfl (by kernel_rfl) (by kernel_rfl) (by kernel_rfl) (fun _ _ _ h => h) (Or.inl ⟨by rfl, ?_⟩) hHeld ?_; rotate_left; (· (intro w' hSw; go_simp; try with_reducible rfl)); (try simp only [List.getElem_toArray, List.getElem_cons_zero, List.getElem_cons_succ, Act.put, List.setIfInBounds_toArray, List.set_cons_zero, List.set_cons_succ])); (refine wpAnyH_take (i := 9) (v := ?_) rfl (by kernel_rfl) (by kernel_rfl) (by kernel_rfl) (fun _ _ _ h => h) (Or.inl ⟨by rfl, ?_⟩) hHeld ?_; rotate_left; (· (intro w' hSw; go_simp; try with_reducible rfl)); (try simp only [List.getElem_toArray, List.getElem_cons_zero, List.getElem_cons_succ, Act.put, List.setIfInBounds_toArray, List.set_cons_zero, List.set_cons_succ]))
                (refine wpAnyH_take (i := 10) (v := .int .i64 j) rfl (by kernel_rfl) (by kernel_rfl) (by kernel_rfl) (fun _ _ _ h => h) (Or.inl ⟨by rfl, ?_⟩) hHeld ?_; (· (intro w' hSw; have q := hSw.1.cellX (by omega) HY.out; clear hSw; go_simp; try with_reducible rfl)); (try simp only [List.getElem_toArray, List.getElem_cons_zero, List.getElem_cons_succ, Act.put, List.setIfInBounds_toArray, List.set_cons_zero, List.set_cons_succ]))
                refine wpAnyH_ready (rs := [11, 16]) (by kernel_rfl) (by simp) ?_
                refine AllReadyH.cons (o := _) rfl (fun K hK => ?_) (AllReadyH.cons (o := _) rfl (fun K hK => ?_) AllReadyH.nil)
                rotate_left
                · (simp only [List.getElem_toArray, List.getElem_cons_zero, List.getElem_cons_succ, Region.wanted, if_true])
                  go_simp
                  have lo := Lib.hid (fun hn k hk => (Q27.out.ownlt hn k hk).2)
                  have lo2 := Lib.hid (fun k hk => (Q17.out.own k hk).2)
                  have l1 := H3.lt
                  have l3 := HB.out.size
                  have TZ := Has.zero24 V1 27
                  have l4 : V1.heap.size < (V1.alloc (.cells #[.int .i64 0, .int .i64 0, .int .i64 0, .int .i64 0, .int .i64 0, .int .i64 0, .int .i64 0, .int .i64 0, .int .i64 0, .int .i64 0, .int .i64 0, .int .i64 0, .int .i64 0, .int .i64 0, .int .i64 0, .int .i64 0, .int .i64 0, .int .i64 0, .int .i64 0, .int .i64 0, .int .i64 0, .int .i64 0, .int .i64 0, .int .i64 0] 27)).heap.size := by rw [size1]; omega
                  refine hK.out _ _ ⟨hHeld.1.alloc _, hHeld.2.alloc _⟩ (fun hHeld => ?_)
                  clear hK K
                  replace H3 := H3.alloc (.cells #[.int .i64 0, .int .i64 0, .int .i64 0, .int .i64 0, .int .i64 0, .int .i64 0, .int .i64 0, .int .i64 0, .int .i64 0, .int .i64 0, .int .i64 0, .int .i64 0, .int .i64 0, .int .i64 0, .int .i64 0, .int .i64 0, .int .i64 0, .int .i64 0, .int .i64 0, .int .i64 0, .int .i64 0, .int .i64 0, .int .i64 0, .int .i64 0] 27)
                  replace Q27 := Lib.hid (Q27.out.alloc (.cells #[.int .i64 0, .int .i64 0, .int .i64 0, .int .i64 0, .int .i64 0, .int .i64 0, .int .i64 0, .int .i64 0, .int .i64 0, .int .i64 0, .int .i64 0, .int .i64 0, .int .i64 0, .int .i64 0, .int .i64 0, .int .i64 0, .int .i64 0, .int .i64 0, .int .i64 0, .int .i64 0, .int .i64 0, .int .i64 0, .int .i64 0, .int .i64 0] 27))
                  replace Q17 := Lib.hid (Q17.out.alloc (.cells #[.int .i64 0, .int .i64 0, .int .i64 0, .int .i64 0, .int .i64 0, .int .i64 0, .int .i64 0, .int .i64 0, .int .i64 0, .int .i64 0, .int .i64 0, .int .i64 0, .int .i64 0, .int .i64 0, .int .i64 0, .int .i64 0, .int .i64 0, .int .i64 0, .int .i64 0, .int .i64 0, .int .i64 0, .int .i64 0, .int .i64 0, .int .i64 0] 27))
                  replace HB := Lib.hid (HB.out.alloc (.cells #[.int .i64 0, .int .i64 0, .int .i64 0, .int .i64 0, .int .i64 0, .int .i64 0, .int .i64 0, .int .i64 0, .int .i64 0, .int .i64 0, .int .i64 0, .int .i64 0, .int .i64 0, .int .i64 0, .int .i64 0, .int .i64 0, .int .i64 0, .int .i64 0, .int .i64 0, .int .i64 0, .int .i64 0, .int .i64 0, .int .i64 0, .int .i64 0] 27))
                  (refine wpAnyH_ready (rs := [11]) (by kernel_rfl) (by simp) ?_; refine AllReadyH.cons (o := _) rfl (fun K hK => ?_) AllReadyH.nil; (simp only [List.getElem_toArray, List.getElem_cons_zero, List.getElem_cons_succ, Region.wanted, if_true]))
                  go_simp
                  refine (KP1.out _).mono ?_
                  rintro e w10 ⟨rfl, b10⟩
                  dsimp only
                  (try simp only [List.getElem_toArray, List.getElem_cons_zero, List.getElem_cons_succ, Act.put, List.setIfInBounds_toArray, List.set_cons_zero, List.set_cons_succ])
                  refine hK.out _ _ ⟨hHeld.1.below b10, hHeld.2.below b10⟩ (fun hHeld => ?_)
                  clear hK K
                  replace TZ := TZ.below b10
                  replace H3 := H3.below b10
                  replace Q27 := Lib.hid (Q27.out.below b10)
                  replace Q17 := Lib.hid (Q17.out.below b10)
                  replace HB := Lib.hid (HB.out.call b10)
                  clear b10 l4
                  (refine wpAnyH_take (i := 12) (v := ?_) rfl (by kernel_rfl) (by kernel_rfl) (by kernel_rfl) (fun _ _ _ h => h) (Or.inl ⟨by rfl, ?_⟩) hHeld ?_; rotate_left; (· (intro w' hSw; go_simp; try with_reducible rfl)); (try simp only [List.getElem_toArray, List.getElem_cons_zero, List.getElem_cons_succ, Act.put, List.setIfInBounds_toArray, List.set_cons_zero, List.set_cons_succ])); (refine wpAnyH_take (i := 13) (v := ?_) rfl (by kernel_rfl) (by kernel_rfl) (by kernel_rfl) (fun _ _ _ h => h) (Or.inl ⟨by rfl, ?_⟩) hHeld ?_; rotate_left; (· (intro w' hSw; go_simp; try with_reducible rfl)); (try simp only [List.getElem_toArray, List.getElem_cons_zero, List.getElem_cons_succ, Act.put, List.setIfInBounds_toArray, List.set_cons_zero, List.set_cons_succ])); (refine wpAnyH_take (i := 14) (v := ?_) rfl (by kernel_rfl) (by kernel_rfl) (by kernel_rfl) (fun _ _ _ h => h) (Or.inl ⟨by rfl, ?_⟩) hHeld ?_; rotate_left; (· (intro w' hSw; go_simp; try with_reducible rfl)); (try simp only [List.getElem_toArray, List.getElem_cons_zero, List.getElem_cons_succ, Act.put, List.setIfInBounds_toArray, List.set_cons_zero, List.set_cons_succ])); (refine wpAnyH_take (i := 15) (v := ?_) rfl (by kernel_rfl) (by kernel_rfl) (by kernel_rfl) (fun _ _ _ h => h) (Or.inl ⟨by rfl, ?_⟩) hHeld ?_; rotate_left; (· (intro w' hSw; go_simp; try with_reducible rfl)); (try simp only [List.getElem_toArray, List.getElem_cons_zero, List.getElem_cons_succ, Act.put, List.setIfInBounds_toArray, List.set_cons_zero, List.set_cons_succ]))
                  have SF := And.intro (hHeld.1.puts (V1.heap.size) 0 (ints T) (fun hi e => by have := lo.out hi _ e; omega)) (hHeld.2.putOther (b' := V1.heap.size) 0 (ints T) (by omega))
                  (refine wpAnyH_ready (rs := [17]) (by kernel_rfl) (by simp) ?_; refine AllReadyH.cons (o := _) rfl (fun K hK => ?_) AllReadyH.nil; (simp only [List.getElem_toArray, List.getElem_cons_zero, List.getElem_cons_succ, Region.wanted, if_true]); refine wp_store_mid _ _ _ rfl _ _ (ints T).toArray rfl rfl (by simpa [HLT.out] using TZ.there) (by simpa [HLT.out] using HI24.out) (all_oneCell_toArray (ints_one _)) ?_; (try simp only [List.getElem_toArray, List.getElem_cons_zero, List.getElem_cons_succ, Act.put, List.setIfInBounds_toArray, List.set_cons_zero, List.set_cons_succ, List.toList_toArray]); refine hK.out _ _ (SF) (fun hHeld => ?_); clear hK K)
                  replace TZ := TZ.putAll T TL
                  replace H3 := H3.putOther (b' := V1.heap.size) 0 (ints T) (by omega)
                  replace Q27 := Lib.hid (Q27.out.puts (V1.heap.size) 0 (ints T) (fun hi e => by have := lo.out hi _ e; omega))
                  replace Q17 := Lib.hid (nuPutsE Q17.out (V1.heap.size) 0 (ints T) (fun z e => by have := lo2.out z e; omega))
                  replace HB := Lib.hid (HB.out.puts (b := V1.heap.size) (by omega) 0 (ints T))
                  (refine wpAnyH_take (i := 18) (v := ?_) rfl (by kernel_rfl) (by kernel_rfl) (by kernel_rfl) (fun _ _ _ h => h) (Or.inl ⟨by rfl, ?_⟩) hHeld ?_; rotate_left; (· (intro w' hSw; go_simp; try with_reducible rfl)); (try simp only [List.getElem_toArray, List.getElem_cons_zero, List.getElem_cons_succ, Act.put, List.setIfInBounds_toArray, List.set_cons_zero, List.set_cons_succ])); (refine wpAnyH_take (i := 19) (v := ?_) rfl (by kernel_rfl) (by kernel_rfl) (by kernel_rfl) (fun _ _ _ h => h) (Or.inl ⟨by rfl, ?_⟩) hHeld ?_; rotate_left; (· (intro w' hSw; go_simp; try with_reducible rfl)); (try simp only [List.getElem_toArray, List.getElem_cons_zero, List.getElem_cons_succ, Act.put, List.setIfInBounds_toArray, List.set_cons_zero, List.set_cons_succ]))
                  refine wpAnyH_done (by kernel_rfl) ?_ _
                  clear hHeld lo lo2 l1 l3 SF
                  obtain ⟨B3, hB3⟩ : ∃ B3, V1.heap.size = B3 := ⟨_, rfl⟩
                  rw [hB3] at TZ H3 Q27 Q17 HB ⊢
                  generalize (w10).setCells B3 0 (ints T) = VF at *
                  clear hB3
                  go_wp2_with (refine guard_op (isLoad 27) ?_ ?_; (· rfl); (refine load_has rfl 27 _ rfl _ rfl ?_ 24 ?_ _ Try.underlying27 rfl ?_ ?_; rotate_left; (· (repeat (first | (with_reducible assumption) | ((with_reducible refine Has.box _ _ ?_ ?_) <;> (first | assumption | decide)) | (with_reducible refine Has.alloc ?_ _) | ((with_reducible refine Has.putOther ?_ _ _ ?_); rotate_left; omega; skip) | ((with_reducible refine Has.below ?_ ?_); rotate_left; assumption)))); (· kernel_rfl)))
                  refine (KF.out _).mono ?_
                  rintro e w11 ⟨v33, rfl, q33, b11⟩
                  replace H3 := H3.below b11
                  replace Q27 := Lib.hid (Q27.out.below b11)
                  replace Q17 := Lib.hid (Q17.out.below b11)
                  replace HB := Lib.hid (HB.out.call b11)
                  obtain ⟨a33, c33, rfl⟩ := q33.rw.shape
                  clear b11 TZ KF KP1 q33
                  have c0 := Q17.out.cell k hkn
                  rw [HN3.out] at c0
                  go_wp2_with fail
                  go_roundw
                  case rel => exact ⟨k + 1, by omega, by go_num, H3, Q27, Q17, HB⟩
                  case measure => simp [intOf]; omega
                · (simp only [List.getElem_toArray, List.getElem_cons_zero, List.getElem_cons_succ, Region.wanted, if_true])
                  go_simp
                  refine (KP1.out _).mono ?_
                  rintro e w10 ⟨rfl, b10⟩
                  dsimp only
                  (try simp only [List.getElem_toArray, List.getElem_cons_zero, List.getElem_cons_succ, Act.put, List.setIfInBounds_toArray, List.set_cons_zero, List.set_cons_succ])
                  refine hK.out _ _ ⟨hHeld.1.below b10, hHeld.2.below b10⟩ (fun hHeld => ?_)
                  clear hK K
                  replace H3 := H3.below b10
                  replace Q27 := Lib.hid (Q27.out.below b10)
                  replace Q17 := Lib.hid (Q17.out.below b10)
                  replace HB := Lib.hid (HB.out.call b10)
                  clear b10
                  (refine wpAnyH_take (i := 12) (v := ?_) rfl (by kernel_rfl) (by kernel_rfl) (by kernel_rfl) (fun _ _ _ h => h) (Or.inl ⟨by rfl, ?_⟩) hHeld ?_; rotate_left; (· (intro w' hSw; go_simp; try with_reducible rfl)); (try simp only [List.getElem_toArray, List.getElem_cons_zero, List.getElem_cons_succ, Act.put, List.setIfInBounds_toArray, List.set_cons_zero, List.set_cons_succ])); (refine wpAnyH_take (i := 13) (v := ?_) rfl (by kernel_rfl) (by kernel_rfl) (by kernel_rfl) (fun _ _ _ h => h) (Or.inl ⟨by rfl, ?_⟩) hHeld ?_; rotate_left; (· (intro w' hSw; go_simp; try with_reducible rfl)); (try simp only [List.getElem_toArray, List.getElem_cons_zero, List.getElem_cons_succ, Act.put, List.setIfInBounds_toArray, List.set_cons_zero, List.set_cons_succ])); (refine wpAnyH_take (i := 14) (v := ?_) rfl (by kernel_rfl) (by kernel_rfl) (by kernel_rfl) (fun _ _ _ h => h) (Or.inl ⟨by rfl, ?_⟩) hHeld ?_; rotate_left; (· (intro w' hSw; go_simp; try with_reducible rfl)); (try simp only [List.getElem_toArray, List.getElem_cons_zero, List.getElem_cons_succ, Act.put, List.setIfInBounds_toArray, List.set_cons_zero, List.set_cons_succ])); (refine wpAnyH_take (i := 15) (v := ?_) rfl (by kernel_rfl) (by kernel_rfl) (by kernel_rfl) (fun _ _ _ h => h) (Or.inl ⟨by rfl, ?_⟩) hHeld ?_; rotate_left; (· (intro w' hSw; go_simp; try with_reducible rfl)); (try simp only [List.getElem_toArray, List.getElem_cons_zero, List.getElem_cons_succ, Act.put, List.setIfInBounds_toArray, List.set_cons_zero, List.set_cons_succ]))
                  have lo := Lib.hid (fun hn k hk => (Q27.out.ownlt hn k hk).2)
                  have lo2 := Lib.hid (fun k hk => (Q17.out.own k hk).2)
                  have l1 := H3.lt
                  have l3 := HB.out.size
                  have TZ := Has.zero24 w10 27
                  (refine wpAnyH_ready (rs := [16]) (by kernel_rfl) (by simp) ?_; refine AllReadyH.cons (o := _) rfl (fun K hK => ?_) AllReadyH.nil; (simp only [List.getElem_toArray, List.getElem_cons_zero, List.getElem_cons_succ, Region.wanted, if_true]))
                  go_simp
                  refine hK.out _ _ ⟨hHeld.1.alloc _, hHeld.2.alloc _⟩ (fun hHeld => ?_)
                  clear hK K
                  replace H3 := H3.alloc (.cells #[.int .i64 0, .int .i64 0, .int .i64 0, .int .i64 0, .int .i64 0, .int .i64 0, .int .i64 0, .int .i64 0, .int .i64 0, .int .i64 0, .int .i64 0, .int .i64 0, .int .i64 0, .int .i64 0, .int .i64 0, .int .i64 0, .int .i64 0, .int .i64 0, .int .i64 0, .int .i64 0, .int .i64 0, .int .i64 0, .int .i64 0, .int .i64 0] 27)
                  replace Q27 := Lib.hid (Q27.out.alloc (.cells #[.int .i64 0, .int .i64 0, .int .i64 0, .int .i64 0, .int .i64 0, .int .i64 0, .int .i64 0, .int .i64 0, .int .i64 0, .int .i64 0, .int .i64 0, .int .i64 0, .int .i64 0, .int .i64 0, .int .i64 0, .int .i64 0, .int .i64 0, .int .i64 0, .int .i64 0, .int .i64 0, .int .i64 0, .int .i64 0, .int .i64 0, .int .i64 0] 27))
                  replace Q17 := Lib.hid (Q17.out.alloc (.cells #[.int .i64 0, .int .i64 0, .int .i64 0, .int .i64 0, .int .i64 0, .int .i64 0, .int .i64 0, .int .i64 0, .int .i64 0, .int .i64 0, .int .i64 0, .int .i64 0, .int .i64 0, .int .i64 0, .int .i64 0, .int .i64 0, .int .i64 0, .int .i64 0, .int .i64 0, .int .i64 0, .int .i64 0, .int .i64 0, .int .i64 0, .int .i64 0] 27))
                  replace HB := Lib.hid (HB.out.alloc (.cells #[.int .i64 0, .int .i64 0, .int .i64 0, .int .i64 0, .int .i64 0, .int .i64 0, .int .i64 0, .int .i64 0, .int .i64 0, .int .i64 0, .int .i64 0, .int .i64 0, .int .i64 0, .int .i64 0, .int .i64 0, .int .i64 0, .int .i64 0, .int .i64 0, .int .i64 0, .int .i64 0, .int .i64 0, .int .i64 0, .int .i64 0, .int .i64 0] 27))
                  have SF := And.intro (hHeld.1.puts (w10.heap.size) 0 (ints T) (fun hi e => by have := lo.out hi _ e; omega)) (hHeld.2.putOther (b' := w10.heap.size) 0 (ints T) (by omega))
                  (refine wpAnyH_ready (rs := [17]) (by kernel_rfl) (by simp) ?_; refine AllReadyH.cons (o := _) rfl (fun K hK => ?_) AllReadyH.nil; (simp only [List.getElem_toArray, List.getElem_cons_zero, List.getElem_cons_succ, Region.wanted, if_true]); refine wp_store_mid _ _ _ rfl _ _ (ints T).toArray rfl rfl (by simpa [HLT.out] using TZ.there) (by simpa [HLT.out] using HI24.out) (all_oneCell_toArray (ints_one _)) ?_; (try simp only [List.getElem_toArray, List.getElem_cons_zero, List.getElem_cons_succ, Act.put, List.setIfInBounds_toArray, List.set_cons_zero, List.set_cons_succ, List.toList_toArray]); refine hK.out _ _ (SF) (fun hHeld => ?_); clear hK K)
                  replace TZ := TZ.putAll T TL
                  replace H3 := H3.putOther (b' := w10.heap.size) 0 (ints T) (by omega)
                  replace Q27 := Lib.hid (Q27.out.puts (w10.heap.size) 0 (ints T) (fun hi e => by have := lo.out hi _ e; omega))
                  replace Q17 := Lib.hid (nuPutsE Q17.out (w10.heap.size) 0 (ints T) (fun z e => by have := lo2.out z e; omega))
                  replace HB := Lib.hid (HB.out.puts (b := w10.heap.size) (by omega) 0 (ints T))
                  (refine wpAnyH_take (i := 18) (v := ?_) rfl (by kernel_rfl) (by kernel_rfl) (by kernel_rfl) (fun _ _ _ h => h) (Or.inl ⟨by rfl, ?_⟩) hHeld ?_; rotate_left; (· (intro w' hSw; go_simp; try with_reducible rfl)); (try simp only [List.getElem_toArray, List.getElem_cons_zero, List.getElem_cons_succ, Act.put, List.setIfInBounds_toArray, List.set_cons_zero, List.set_cons_succ])); (refine wpAnyH_take (i := 19) (v := ?_) rfl (by kernel_rfl) (by kernel_rfl) (by kernel_rfl) (fun _ _ _ h => h) (Or.inl ⟨by rfl, ?_⟩) hHeld ?_; rotate_left; (· (intro w' hSw; go_simp; try with_reducible rfl)); (try simp only [List.getElem_toArray, List.getElem_cons_zero, List.getElem_cons_succ, Act.put, List.setIfInBounds_toArray, List.set_cons_zero, List.set_cons_succ]))
                  refine wpAnyH_done (by kernel_rfl) ?_ _
                  clear hHeld lo lo2 l1 l3 SF
                  obtain ⟨B3, hB3⟩ : ∃ B3, w10.heap.size = B3 := ⟨_, rfl⟩
                  rw [hB3] at TZ H3 Q27 Q17 HB ⊢
                  generalize (w10.alloc (.cells #[.int .i64 0, .int .i64 0, .int .i64 0, .int .i64 0, .int .i64 0, .int .i64 0, .int .i64 0, .int .i64 0, .int .i64 0, .int .i64 0, .int .i64 0, .int .i64 0, .int .i64 0, .int .i64 0, .int .i64 0, .int .i64 0, .int .i64 0, .int .i64 0, .int .i64 0, .int .i64 0, .int .i64 0, .int .i64 0, .int .i64 0, .int .i64 0] 27)).setCells B3 0 (ints T) = VF at *
                  clear hB3
                  go_wp2_with (refine guard_op (isLoad 27) ?_ ?_; (· rfl); (refine load_has rfl 27 _ rfl _ rfl ?_ 24 ?_ _ Try.underlying27 rfl ?_ ?_; rotate_left; (· (repeat (first | (with_reducible assumption) | ((with_reducible refine Has.box _ _ ?_ ?_) <;> (first | assumption | decide)) | (with_reducible refine Has.alloc ?_ _) | ((with_reducible refine Has.putOther ?_ _ _ ?_); rotate_left; omega; skip) | ((with_reducible refine Has.below ?_ ?_); rotate_left; assumption)))); (· kernel_rfl)))
                  refine (KF.out _).mono ?_
                  rintro e w11 ⟨v33, rfl, q33, b11⟩
                  replace H3 := H3.below b11
                  replace Q27 := Lib.hid (Q27.out.below b11)
                  replace Q17 := Lib.hid (Q17.out.below b11)
                  replace HB := Lib.hid (HB.out.call b11)
                  obtain ⟨a33, c33, rfl⟩ := q33.rw.shape
                  clear b11 TZ KF KP1 q33
                  have c0 := Q17.out.cell k hkn
                  rw [HN3.out] at c0
                  go_wp2_with fail
                  go_roundw
                  case rel => exact ⟨k + 1, by omega, by go_num, H3, Q27, Q17, HB⟩
                  case measure => simp [intOf]; omega
              case' neg =>
                obtain rfl : k = u := by omega
                go_wp2_with fail
                go_ret
                exact ⟨rfl, HB.out⟩
end Go.Proofs.Ytnldnjnnjfbhnaa.base
