/-
  The law of racks: what is drawn, what both sides answer, and what the law asks of the answers.
-/
import Derived.Test.YtlnbhopigjkkkaaDrawT
import Derived.Test.YtlnbhopigjkkkaaRMath
import Derived.Test.YtlnbhopigjkkkaaPairsQ
import Derived.Test.YtlnbhopigjkkkaaParseL
import Derived.Test.YtlnbhopigjkkkaaLessI
import Derived.Deep.Cut
import Derived.Deep.CutRange
namespace Go.Proofs.Ytlnbhopigjkkkaa.base
open Go.ChangeShapes Go.WideShapes Go.ChangeAt Go.RowKit
open Go.Proofs.Ytlnbhopigjkkkaa.cur
set_option linter.unusedVariables false
set_option linter.unusedSimpArgs false

theorem slice_of_prs {w : World} {b : Nat} {v : Value} {n : Nat} {fs : List Int} (h : Prs w b v n fs) : ∃ a cap, v = .slice a n cap := by
  rcases h.2 with ⟨h0, h1⟩ | ⟨g, cap, cur, h0, _⟩
  · exact ⟨_, _, by rw [h1]; exact h0⟩
  · exact ⟨_, _, h0⟩
section
variable {P : Program} {ops : Array Oper} {rest : List Oper} {op : Oper} {a : Act} {w : World} {Q : Exit → Act → World → Prop}
theorem eql_same (hw : Region.wanted op (yielded ops a.tmps) = true) (T T2 : TypeId) (x y : Operand) (ho : op.op = .binOp .eql T x y T2) (xs : List Int) (hx : a.eval x = .agg (ints xs).toArray) (hy : a.eval y = .agg (ints xs).toArray)
    (hm : P.eqGuardType P.depth T = false) (hq : ∀ w, (Op.equalIn 10000 T (.agg (ints xs).toArray) (.agg (ints xs).toArray)).run P w = .ok (decide (xs = xs)) w)
    (h : wpList P ops Q rest (a.put op.dst (.bool true)) w) : wpList P ops Q (op :: rest) a w :=
  eql_has hw T T2 x y ho xs xs hx hy hm hq (by rw [decide_eq_true rfl]; exact h)
theorem neq_law (hw : Region.wanted op (yielded ops a.tmps) = true) (T T2 : TypeId) (x y : Operand) (ho : op.op = .binOp .neq T x y T2) (xs ys : List Int) (hx : a.eval x = .agg (ints xs).toArray) (hy : a.eval y = .agg (ints ys).toArray)
    (hm : P.eqGuardType P.depth T = false) (hq : ∀ w, (Op.equalIn 10000 T (.agg (ints xs).toArray) (.agg (ints ys).toArray)).run P w = .ok (decide (xs = ys)) w) (b : Bool) (hb : (!decide (xs = ys)) = b)
    (h : wpList P ops Q rest (a.put op.dst (.bool b)) w) : wpList P ops Q (op :: rest) a w :=
  neq_has hw T T2 x y ho xs ys hx hy hm hq (by rw [hb]; exact h)
end
theorem Prs.apartR {w w' : World} {b : Nat} {v : Value} {n : Nat} {fs : List Int} (h : Prs w b v n fs) {r : Option Nat} (hg : w.grownBy w' r) (hr : ∀ k, r = some k → v.ownBlock ≠ some k) : Prs w' b v n fs := by
  refine World.ownsRow.kept (row := r) h hg ?_
  cases hv : v.ownBlock with
  | none => exact .inl rfl
  | some k => exact .inr (fun e => hr k e.symm hv)
theorem Prs.putsR {w : World} {b : Nat} {v : Value} {n : Nat} {fs : List Int} (h : Prs w b v n fs) (c o : Nat) (vs : List Value) (hne : ∀ k, v.ownBlock = some k → k ≠ c) : Prs (w.setCells c o vs) b v n fs :=
  h.apartR (have h := below_setCells (B := 0) c (Nat.zero_le _) vs o w w (Below.refl _ _)
    ⟨h.os, h.tape, h.output, Nat.le_of_eq (size_setCells c vs o w).symm, fun i hi hn => World.heap_setCells_other w c o vs hi (fun e => hn (by rw [e]))⟩) (fun k hk e => by injection hk with hk; subst hk; exact hne _ e rfl)
theorem load_pair {P : Program} {ops : Array Oper} {rest : List Oper} {op : Oper} {a : Act} {w : World} {Q : Exit → Act → World → Prop} (hw : Region.wanted op (yielded ops a.tmps) = true) (T : TypeId) (x : Operand) (ho : op.op = .load T x) (b o : Nat) (hx : a.eval x = .pointer (some ⟨b, o, Option.none⟩)) (ns : List Int) (H : w.rangeAt b o (ints ns))
    (d : TypeDesc) (hu : P.underlying T = some d) (hd : d.isRow = true) (hi : (P.info? T).map (·.size) = some (ints ns).length)
    (h : wpList P ops Q rest (a.put op.dst (.agg (ints ns).toArray)) w) : wpList P ops Q (op :: rest) a w :=
  wpList_wanted hw fun _ hK => wp_load_mid T x ho b o hx (ints ns) d H hu hd hi (hK _ _ h)
def isEql (T : TypeId) : Op → Bool
  | .binOp .eql t _ _ _ => t == T
  | _ => false
theorem text_parse {ns : List Int} (h24 : ns.length = 24) (hv : vR ns = true) : okR (mk (textA ns)).data.toList = true ∧ parseA (mk (textA ns)).data.toList = ns := by
  have e : textA ns = textL ns := by unfold textA; rw [if_pos hv]
  rw [mk_list, e]
  obtain ⟨k1, k2⟩ := okR_of h24 hv rfl
  exact ⟨k1, (parse_is k1).trans k2⟩
theorem text_small {ns : List Int} (h24 : ns.length = 24) : (mk (textA ns)).size ≤ 1000 := by
  rw [mk_size]
  unfold textA
  split
  · have := preT_len ns h24 6 (by omega)
    unfold textL; omega
  · simp

set_option maxHeartbeats 16000000 in
set_option maxRecDepth 200000 in
theorem racksLaw (a : Option Addr) (len cap : Nat) (zs : List Int) (w : World) (w0 : IsRow .u8 w a len cap zs) :
    Calls Try.prog 3 #[.slice a len cap] w fun e w' => e = .returned (.bool true) ∧ Below w.heap.size w w' := by
  have hml : len ≤ maxLen := by
    rcases w0 with ⟨_, h, _⟩ | ⟨_, _, hlc, hm, _⟩
    · rw [h]; exact Nat.zero_le _
    · exact Nat.le_trans hlc hm
  by_cases hbig : (65536 : Int) < (len : Int)
  · go_enter Try.func3, Try.ntmps3
    go_wp2_with fail
    refine (rBig_any a len cap w hml).mono ?_
    rintro e w' ⟨rfl, rfl⟩
    rw [decide_eq_true hbig]
    go_wp2_with fail
    go_ret
    exact ⟨rfl, Below.refl _ _⟩
  have CD := Lib.hid (code_of w0 (by omega))
  have HBG := Lib.hid (rBig_any a len cap w hml)
  rw [decide_eq_false hbig] at HBG
  have HMR : Hid (Try.prog.eqGuardType Try.prog.depth 27 = false) := Lib.hid (by kernel_rfl)
  have HM2 : Hid (Try.prog.eqGuardType Try.prog.depth 53 = false) := Lib.hid (by kernel_rfl)
  clear hbig w0 hml
  go_enter Try.func3, Try.ntmps3
  go_wp2_with fail
  refine HBG.out.mono ?_
  rintro e w' ⟨rfl, rfl⟩
  go_wp2_with fail
  refine (drawRuns a len cap w CD.out).mono ?_
  rintro e w1 ⟨ns, x, rfl, hl, b1⟩
  have H3 := Has.box w1 27 hl (by omega)
  have HB := Lib.hid (((kept_refl w).call b1).alloc (.cells (ints ns).toArray 27))
  clear b1 HBG
  have KR := Lib.hid (fun W => implRuns ns x W hl)
  have SR := Lib.hid (fun W => specRuns ns x W hl)
  have KL := Lib.hid (fun W => implLayersOf ns x W hl)
  have SL := Lib.hid (fun W => specLayersOf ns x W hl)
  have KT := Lib.hid (fun W => implTopOf ns x W hl)
  have ST := Lib.hid (fun W => specTopOf ns x W hl)
  have KX := Lib.hid (fun W => implText ns W hl)
  have SX := Lib.hid (fun W => specText ns W hl)
  have KV := Lib.hid (fun W => isRack_any ns W hl)
  have hts := text_small hl
  have KY := Lib.hid (fun W => implParse (mk (textA ns)) W (by unfold maxLen; omega))
  unfold RunsPost at KR SR
  have EY : Hid (vR ns = true → okR (mk (textA ns)).data.toList = true ∧ parseA (mk (textA ns)).data.toList = ns) := Lib.hid (fun h => text_parse hl h)
  have EV : Hid (inR ns x = true → vR ns = true) := Lib.hid (fun h => (inR_of h).1)
  have ER : Hid (inR ns x = true → RunsAll (runsFA ns x) (runsNA ns x) (layersA ns x) ∧ topOk ns x = decide (0 < layersA ns x) ∧ (topOk ns x = true → 0 < runsNA ns x ∧ (runsFA ns x).getD ((runsNA ns x - 1) * 2) 0 = topCA ns x ∧ (runsFA ns x).getD ((runsNA ns x - 1) * 2 + 1) 0 = topNA ns x)) := Lib.hid (fun h => runs_all hl h)
  have EN : Hid (inR ns x = false → topOk ns x = false) := Lib.hid (fun h => topOk_no h)
  have hrn : runsNA ns x ≤ 4 := by
    cases h : inR ns x with
    | true => exact (runs_all hl h).1.small
    | false => unfold runsNA; rw [if_neg (by rw [h]; decide)]; omega
  generalize parseA (mk (textA ns)).data.toList = PT at *
  generalize okR (mk (textA ns)).data.toList = OT at *
  generalize mk (textA ns) = TX at *
  generalize runsFA ns x = FA at *
  generalize runsNA ns x = RN at *
  generalize layersA ns x = LA at *
  generalize topCA ns x = TC at *
  generalize topNA ns x = TN at *
  generalize topOk ns x = TO at *
  generalize inR ns x = IR at *
  generalize vR ns = V at *
  go_wp2_with (first | (refine guard_at (isStore 27) ?_ ?_; (· rfl); (refine store_new rfl 27 _ _ rfl _ _ _ rfl _ rfl _ rfl rfl ?_ ?_ ?_; (· (first | assumption | rfl)); (· kernel_rfl))) | (refine guard_at (isLoad 27) ?_ ?_; (· rfl); (refine load_has rfl 27 _ rfl _ rfl ?_ 24 ?_ _ Try.underlying27 rfl ?_ ?_; rotate_left; (· (repeat (first | (with_reducible assumption) | ((with_reducible refine Has.box _ _ ?_ ?_) <;> (first | assumption | decide)) | (with_reducible refine Has.alloc ?_ _) | ((with_reducible refine Has.putOther ?_ _ _ ?_); rotate_left; omega; skip) | ((with_reducible refine Has.below ?_ ?_); rotate_left; assumption)))); (· kernel_rfl))))
  refine (KR.out _).mono ?_
  rintro e w2 ⟨v2, rfl, p2, bb⟩
  obtain ⟨a2, c2, rfl⟩ := slice_of_prs p2
  obtain ⟨BP, P5⟩ : ∃ B, Hid (Prs w2 B (.slice a2 RN c2) RN FA) := ⟨_, Lib.hid p2⟩
  clear p2
  replace H3 := H3.below bb
  replace HB := Lib.hid (HB.out.call bb)
  clear bb
  go_wp2_with (first | (refine guard_at (isLoad 27) ?_ ?_; (· rfl); (refine load_has rfl 27 _ rfl _ rfl ?_ 24 ?_ _ Try.underlying27 rfl ?_ ?_; rotate_left; (· (repeat (first | (with_reducible assumption) | ((with_reducible refine Has.box _ _ ?_ ?_) <;> (first | assumption | decide)) | (with_reducible refine Has.alloc ?_ _) | ((with_reducible refine Has.putOther ?_ _ _ ?_); rotate_left; omega; skip) | ((with_reducible refine Has.below ?_ ?_); rotate_left; assumption)))); (· kernel_rfl))))
  refine (SR.out _).mono ?_
  rintro e w3 ⟨v3, rfl, p3, bb⟩
  obtain ⟨a3, c3, rfl⟩ := slice_of_prs p3
  have P7 := Lib.hid p3
  clear p3
  replace H3 := H3.below bb
  replace P5 := Lib.hid (P5.out.below bb)
  replace HB := Lib.hid (HB.out.call bb)
  clear bb
  go_wp2_with fail
  refine (rPairs_same _ _ _ _ RN FA _ (by omega) P5.out P7.out).mono ?_
  rintro e w4 ⟨rfl, bb⟩
  clear P7 KR SR
  replace H3 := H3.below bb
  replace P5 := Lib.hid (P5.out.below bb)
  replace HB := Lib.hid (HB.out.call bb)
  clear bb
  go_wp2_with (first | (refine guard_at (isLoad 27) ?_ ?_; (· rfl); (refine load_has rfl 27 _ rfl _ rfl ?_ 24 ?_ _ Try.underlying27 rfl ?_ ?_; rotate_left; (· (repeat (first | (with_reducible assumption) | ((with_reducible refine Has.box _ _ ?_ ?_) <;> (first | assumption | decide)) | (with_reducible refine Has.alloc ?_ _) | ((with_reducible refine Has.putOther ?_ _ _ ?_); rotate_left; omega; skip) | ((with_reducible refine Has.below ?_ ?_); rotate_left; assumption)))); (· kernel_rfl))))
  refine (KL.out _).mono ?_
  rintro e w5 ⟨rfl, bb⟩
  replace H3 := H3.below bb
  replace P5 := Lib.hid (P5.out.below bb)
  replace HB := Lib.hid (HB.out.call bb)
  clear bb
  go_wp2_with (first | (refine guard_at (isLoad 27) ?_ ?_; (· rfl); (refine load_has rfl 27 _ rfl _ rfl ?_ 24 ?_ _ Try.underlying27 rfl ?_ ?_; rotate_left; (· (repeat (first | (with_reducible assumption) | ((with_reducible refine Has.box _ _ ?_ ?_) <;> (first | assumption | decide)) | (with_reducible refine Has.alloc ?_ _) | ((with_reducible refine Has.putOther ?_ _ _ ?_); rotate_left; omega; skip) | ((with_reducible refine Has.below ?_ ?_); rotate_left; assumption)))); (· kernel_rfl))))
  refine (SL.out _).mono ?_
  rintro e w6 ⟨rfl, bb⟩
  replace H3 := H3.below bb
  replace P5 := Lib.hid (P5.out.below bb)
  replace HB := Lib.hid (HB.out.call bb)
  clear bb
  clear KL SL
  go_wp2_with (first | (refine guard_at (isLoad 27) ?_ ?_; (· rfl); (refine load_has rfl 27 _ rfl _ rfl ?_ 24 ?_ _ Try.underlying27 rfl ?_ ?_; rotate_left; (· (repeat (first | (with_reducible assumption) | ((with_reducible refine Has.box _ _ ?_ ?_) <;> (first | assumption | decide)) | (with_reducible refine Has.alloc ?_ _) | ((with_reducible refine Has.putOther ?_ _ _ ?_); rotate_left; omega; skip) | ((with_reducible refine Has.below ?_ ?_); rotate_left; assumption)))); (· kernel_rfl))))
  refine (KT.out _).mono ?_
  rintro e w7 ⟨rfl, bb⟩
  replace H3 := H3.below bb
  replace P5 := Lib.hid (P5.out.below bb)
  replace HB := Lib.hid (HB.out.call bb)
  clear bb
  go_wp2_with (first | (refine guard_at (isLoad 27) ?_ ?_; (· rfl); (refine load_has rfl 27 _ rfl _ rfl ?_ 24 ?_ _ Try.underlying27 rfl ?_ ?_; rotate_left; (· (repeat (first | (with_reducible assumption) | ((with_reducible refine Has.box _ _ ?_ ?_) <;> (first | assumption | decide)) | (with_reducible refine Has.alloc ?_ _) | ((with_reducible refine Has.putOther ?_ _ _ ?_); rotate_left; omega; skip) | ((with_reducible refine Has.below ?_ ?_); rotate_left; assumption)))); (· kernel_rfl))))
  refine (ST.out _).mono ?_
  rintro e w8 ⟨rfl, bb⟩
  replace H3 := H3.below bb
  replace P5 := Lib.hid (P5.out.below bb)
  replace HB := Lib.hid (HB.out.call bb)
  clear bb
  clear KT ST
  have hIR : IR = false ∨ (IR = true ∧ TO = decide (0 < LA)) := by
    cases h : IR with
    | false => exact .inl rfl
    | true => exact .inr ⟨rfl, (ER.out h).2.1⟩
  have hcase : (IR = false ∧ TO = false) ∨ (IR = true ∧ TO = true ∧ 0 < LA) ∨ (IR = true ∧ TO = false ∧ ¬ 0 < LA) := by
    rcases hIR with h | ⟨h1, h2⟩
    · exact .inl ⟨h, EN.out h⟩
    · by_cases h0 : 0 < LA
      · rw [decide_eq_true h0] at h2; exact .inr (.inl ⟨h1, h2, h0⟩)
      · rw [decide_eq_false h0] at h2; exact .inr (.inr ⟨h1, h2, h0⟩)
  clear hIR EN
  have EF : Hid ((IR = false ∧ TO = false) ∨ (IR = true ∧ V = true ∧ RunsAll FA RN LA ∧ (TO = true → 0 < RN ∧ FA.getD ((RN - 1) * 2) 0 = TC ∧ FA.getD ((RN - 1) * 2 + 1) 0 = TN))) := Lib.hid (by
    rcases hcase with h | ⟨h, _⟩ | ⟨h, _⟩
    · exact .inl h
    · exact .inr ⟨h, EV.out h, (ER.out h).1, (ER.out h).2.2⟩
    · exact .inr ⟨h, EV.out h, (ER.out h).1, (ER.out h).2.2⟩)
  clear ER EV
  go_upto_region 14 with fail
  go_cut [155] from 134 to 156 (fun s155 wx => s155 = .bool false ∧ wx = w8)
  case first =>
    rcases hcase with ⟨hi, ht⟩ | ⟨hi, ht, h0⟩ | ⟨hi, ht, h0⟩
    · subst hi
      subst ht
      go_wp2_with fail
      go_meet
      case rel => exact ⟨rfl, rfl⟩
    · subst hi
      subst ht
      go_wp2_with fail
      go_meet
      case rel => exact ⟨rfl, rfl⟩
    · subst hi
      subst ht
      have h0' : decide (0 < LA) = false := by simpa using h0
      go_wp2_with fail
      go_meet
      case rel => exact ⟨rfl, rfl⟩
  obtain ⟨rfl, rfl⟩ := hcut
  clear hcase
  go_wp2_with (first | (refine guard_at (isLoad 27) ?_ ?_; (· rfl); (refine load_has rfl 27 _ rfl _ rfl ?_ 24 ?_ _ Try.underlying27 rfl ?_ ?_; rotate_left; (· (repeat (first | (with_reducible assumption) | ((with_reducible refine Has.box _ _ ?_ ?_) <;> (first | assumption | decide)) | (with_reducible refine Has.alloc ?_ _) | ((with_reducible refine Has.putOther ?_ _ _ ?_); rotate_left; omega; skip) | ((with_reducible refine Has.below ?_ ?_); rotate_left; assumption)))); (· kernel_rfl))))
  refine (drawPut a len cap _ (CD.out.below HB.out)).mono ?_
  rintro e w10 ⟨ps, k, c, rfl, hla, bb⟩
  replace H3 := H3.below bb
  replace P5 := Lib.hid (P5.out.below bb)
  replace HB := Lib.hid (HB.out.call bb)
  clear bb
  replace H3 := H3.alloc (.cells (ints ps).toArray 27)
  replace P5 := Lib.hid (P5.out.alloc (.cells (ints ps).toArray 27))
  replace HB := Lib.hid (HB.out.alloc (.cells (ints ps).toArray 27))
  have HA := Has.box w10 27 hla (by omega)
  have hlp : (putR ps k c).length = 24 := putR_len hla k c
  have KP := Lib.hid (fun W => implPutLayer ps k c W hla)
  have SP := Lib.hid (fun W => specPutLayer ps k c W hla)
  have KP2 := Lib.hid (fun W => implTakeLayer (putR ps k c) k W hlp)
  have EP : Hid (putOk ps k c = true → takeOk (putR ps k c) k = true ∧ takeR (putR ps k c) k = ps ∧ takeC (putR ps k c) k = c) := Lib.hid (fun h => put_take hla h)
  generalize takeOk (putR ps k c) k = PK at *
  generalize takeR (putR ps k c) k = PB at *
  generalize takeC (putR ps k c) k = PC at *
  generalize putR ps k c = PR at *
  generalize putOk ps k c = PO at *
  go_wp2_with (first | (refine guard_at (isStore 27) ?_ ?_; (· rfl); (refine store_new rfl 27 _ _ rfl _ _ _ rfl _ rfl _ rfl rfl ?_ ?_ ?_; (· (first | assumption | rfl)); (· kernel_rfl))) | (refine guard_at (isLoad 27) ?_ ?_; (· rfl); (refine load_has rfl 27 _ rfl _ rfl ?_ 24 ?_ _ Try.underlying27 rfl ?_ ?_; rotate_left; (· (repeat (first | (with_reducible assumption) | ((with_reducible refine Has.box _ _ ?_ ?_) <;> (first | assumption | decide)) | (with_reducible refine Has.alloc ?_ _) | ((with_reducible refine Has.putOther ?_ _ _ ?_); rotate_left; omega; skip) | ((with_reducible refine Has.below ?_ ?_); rotate_left; assumption)))); (· kernel_rfl))))
  refine (KP.out _).mono ?_
  rintro e w11 ⟨rfl, bb⟩
  replace H3 := H3.below bb
  replace HA := HA.below bb
  replace P5 := Lib.hid (P5.out.below bb)
  replace HB := Lib.hid (HB.out.call bb)
  clear bb
  replace H3 := H3.alloc (.cells (ints PR).toArray 27)
  replace HA := HA.alloc (.cells (ints PR).toArray 27)
  replace P5 := Lib.hid (P5.out.alloc (.cells (ints PR).toArray 27))
  replace HB := Lib.hid (HB.out.alloc (.cells (ints PR).toArray 27))
  have HP := Has.box w11 27 hlp (by omega)
  go_wp2_with (first | (refine guard_at (isStore 27) ?_ ?_; (· rfl); (refine store_new rfl 27 _ _ rfl _ _ _ rfl _ rfl _ rfl rfl ?_ ?_ ?_; (· (first | assumption | rfl)); (· kernel_rfl))) | (refine guard_at (isLoad 27) ?_ ?_; (· rfl); (refine load_has rfl 27 _ rfl _ rfl ?_ 24 ?_ _ Try.underlying27 rfl ?_ ?_; rotate_left; (· (repeat (first | (with_reducible assumption) | ((with_reducible refine Has.box _ _ ?_ ?_) <;> (first | assumption | decide)) | (with_reducible refine Has.alloc ?_ _) | ((with_reducible refine Has.putOther ?_ _ _ ?_); rotate_left; omega; skip) | ((with_reducible refine Has.below ?_ ?_); rotate_left; assumption)))); (· kernel_rfl))))
  refine (SP.out _).mono ?_
  rintro e w12 ⟨rfl, bb⟩
  replace H3 := H3.below bb
  replace HA := HA.below bb
  replace HP := HP.below bb
  replace P5 := Lib.hid (P5.out.below bb)
  replace HB := Lib.hid (HB.out.call bb)
  clear bb
  replace H3 := H3.alloc (.cells (ints PR).toArray 27)
  replace HA := HA.alloc (.cells (ints PR).toArray 27)
  replace HP := HP.alloc (.cells (ints PR).toArray 27)
  replace P5 := Lib.hid (P5.out.alloc (.cells (ints PR).toArray 27))
  replace HB := Lib.hid (HB.out.alloc (.cells (ints PR).toArray 27))
  have HQ := Has.box w12 27 hlp (by omega)
  clear KP SP
  go_wp2_with (first | (refine guard_at (isStore 27) ?_ ?_; (· rfl); (refine store_new rfl 27 _ _ rfl _ _ _ rfl _ rfl _ rfl rfl ?_ ?_ ?_; (· (first | assumption | rfl)); (· kernel_rfl))) | (refine guard_at (isLoad 27) ?_ ?_; (· rfl); (refine load_has rfl 27 _ rfl _ rfl ?_ 24 ?_ _ Try.underlying27 rfl ?_ ?_; rotate_left; (· (repeat (first | (with_reducible assumption) | ((with_reducible refine Has.box _ _ ?_ ?_) <;> (first | assumption | decide)) | (with_reducible refine Has.alloc ?_ _) | ((with_reducible refine Has.putOther ?_ _ _ ?_); rotate_left; omega; skip) | ((with_reducible refine Has.below ?_ ?_); rotate_left; assumption)))); (· kernel_rfl))) | (refine guard_at (isNeq 27) ?_ ?_; (· rfl); refine neq_same rfl 27 _ _ _ rfl PR ?_ ?_ HMR.out (eqRackT PR PR hlp hlp) ?_; (· kernel_rfl); (· kernel_rfl)))
  clear HQ
  refine (drawTake a len cap _ (CD.out.below HB.out)).mono ?_
  rintro e w13 ⟨bs, m, rfl, hlb, bb⟩
  replace H3 := H3.below bb
  replace HA := HA.below bb
  replace HP := HP.below bb
  replace P5 := Lib.hid (P5.out.below bb)
  replace HB := Lib.hid (HB.out.call bb)
  clear bb
  replace H3 := H3.alloc (.cells (ints bs).toArray 27)
  replace HA := HA.alloc (.cells (ints bs).toArray 27)
  replace HP := HP.alloc (.cells (ints bs).toArray 27)
  replace P5 := Lib.hid (P5.out.alloc (.cells (ints bs).toArray 27))
  replace HB := Lib.hid (HB.out.alloc (.cells (ints bs).toArray 27))
  have HT1 := Has.box w13 27 hlb (by omega)
  have hlt : (takeR bs m).length = 24 := takeR_len hlb m
  have KP := Lib.hid (fun W => implTakeLayer bs m W hlb)
  have SP := Lib.hid (fun W => specTakeLayer bs m W hlb)
  generalize takeOk bs m = TK at *
  generalize takeC bs m = TD at *
  generalize takeR bs m = TR at *
  go_wp2_with (first | (refine guard_at (isStore 27) ?_ ?_; (· rfl); (refine store_new rfl 27 _ _ rfl _ _ _ rfl _ rfl _ rfl rfl ?_ ?_ ?_; (· (first | assumption | rfl)); (· kernel_rfl))) | (refine guard_at (isLoad 27) ?_ ?_; (· rfl); (refine load_has rfl 27 _ rfl _ rfl ?_ 24 ?_ _ Try.underlying27 rfl ?_ ?_; rotate_left; (· (repeat (first | (with_reducible assumption) | ((with_reducible refine Has.box _ _ ?_ ?_) <;> (first | assumption | decide)) | (with_reducible refine Has.alloc ?_ _) | ((with_reducible refine Has.putOther ?_ _ _ ?_); rotate_left; omega; skip) | ((with_reducible refine Has.below ?_ ?_); rotate_left; assumption)))); (· kernel_rfl))))
  refine (KP.out _).mono ?_
  rintro e w14 ⟨rfl, bb⟩
  replace H3 := H3.below bb
  replace HA := HA.below bb
  replace HP := HP.below bb
  replace HT1 := HT1.below bb
  replace P5 := Lib.hid (P5.out.below bb)
  replace HB := Lib.hid (HB.out.call bb)
  clear bb
  replace H3 := H3.alloc (.cells (ints TR).toArray 27)
  replace HA := HA.alloc (.cells (ints TR).toArray 27)
  replace HP := HP.alloc (.cells (ints TR).toArray 27)
  replace HT1 := HT1.alloc (.cells (ints TR).toArray 27)
  replace P5 := Lib.hid (P5.out.alloc (.cells (ints TR).toArray 27))
  replace HB := Lib.hid (HB.out.alloc (.cells (ints TR).toArray 27))
  have HT2 := Has.box w14 27 hlt (by omega)
  go_wp2_with (first | (refine guard_at (isStore 27) ?_ ?_; (· rfl); (refine store_new rfl 27 _ _ rfl _ _ _ rfl _ rfl _ rfl rfl ?_ ?_ ?_; (· (first | assumption | rfl)); (· kernel_rfl))) | (refine guard_at (isLoad 27) ?_ ?_; (· rfl); (refine load_has rfl 27 _ rfl _ rfl ?_ 24 ?_ _ Try.underlying27 rfl ?_ ?_; rotate_left; (· (repeat (first | (with_reducible assumption) | ((with_reducible refine Has.box _ _ ?_ ?_) <;> (first | assumption | decide)) | (with_reducible refine Has.alloc ?_ _) | ((with_reducible refine Has.putOther ?_ _ _ ?_); rotate_left; omega; skip) | ((with_reducible refine Has.below ?_ ?_); rotate_left; assumption)))); (· kernel_rfl))))
  refine (SP.out _).mono ?_
  rintro e w15 ⟨rfl, bb⟩
  replace H3 := H3.below bb
  replace HA := HA.below bb
  replace HP := HP.below bb
  replace HT1 := HT1.below bb
  replace HT2 := HT2.below bb
  replace P5 := Lib.hid (P5.out.below bb)
  replace HB := Lib.hid (HB.out.call bb)
  clear bb
  replace H3 := H3.alloc (.cells (ints TR).toArray 27)
  replace HA := HA.alloc (.cells (ints TR).toArray 27)
  replace HP := HP.alloc (.cells (ints TR).toArray 27)
  replace HT1 := HT1.alloc (.cells (ints TR).toArray 27)
  replace HT2 := HT2.alloc (.cells (ints TR).toArray 27)
  replace P5 := Lib.hid (P5.out.alloc (.cells (ints TR).toArray 27))
  replace HB := Lib.hid (HB.out.alloc (.cells (ints TR).toArray 27))
  have HT3 := Has.box w15 27 hlt (by omega)
  clear KP SP
  go_wp2_with (first | (refine guard_at (isStore 27) ?_ ?_; (· rfl); (refine store_new rfl 27 _ _ rfl _ _ _ rfl _ rfl _ rfl rfl ?_ ?_ ?_; (· (first | assumption | rfl)); (· kernel_rfl))) | (refine guard_at (isLoad 27) ?_ ?_; (· rfl); (refine load_has rfl 27 _ rfl _ rfl ?_ 24 ?_ _ Try.underlying27 rfl ?_ ?_; rotate_left; (· (repeat (first | (with_reducible assumption) | ((with_reducible refine Has.box _ _ ?_ ?_) <;> (first | assumption | decide)) | (with_reducible refine Has.alloc ?_ _) | ((with_reducible refine Has.putOther ?_ _ _ ?_); rotate_left; omega; skip) | ((with_reducible refine Has.below ?_ ?_); rotate_left; assumption)))); (· kernel_rfl))) | (refine guard_at (isNeq 27) ?_ ?_; (· rfl); refine neq_same rfl 27 _ _ _ rfl TR ?_ ?_ HMR.out (eqRackT TR TR hlt hlt) ?_; (· kernel_rfl); (· kernel_rfl)))
  clear HT1 HT2 HT3
  refine (drawSwap a len cap _ (CD.out.below HB.out)).mono ?_
  rintro e w16 ⟨ds, p, q, rfl, hld, bb⟩
  replace H3 := H3.below bb
  replace HA := HA.below bb
  replace HP := HP.below bb
  replace P5 := Lib.hid (P5.out.below bb)
  replace HB := Lib.hid (HB.out.call bb)
  clear bb
  replace H3 := H3.alloc (.cells (ints ds).toArray 27)
  replace HA := HA.alloc (.cells (ints ds).toArray 27)
  replace HP := HP.alloc (.cells (ints ds).toArray 27)
  replace P5 := Lib.hid (P5.out.alloc (.cells (ints ds).toArray 27))
  replace HB := Lib.hid (HB.out.alloc (.cells (ints ds).toArray 27))
  have HD := Has.box w16 27 hld (by omega)
  have hls : (swapR ds p q).length = 24 := swapR_len hld p q
  have KP := Lib.hid (fun W => implSwapTubes ds p q W hld)
  have SP := Lib.hid (fun W => specSwapTubes ds p q W hld)
  have KS2 := Lib.hid (fun W => implSwapTubes (swapR ds p q) q p W hls)
  have ES : Hid (swapOk ds p q = true → swapOk (swapR ds p q) q p = true ∧ swapR (swapR ds p q) q p = ds) := Lib.hid (fun h => swap_back hld h)
  generalize swapOk (swapR ds p q) q p = SK at *
  generalize swapR (swapR ds p q) q p = SB at *
  generalize swapR ds p q = SW at *
  generalize swapOk ds p q = SO at *
  go_wp2_with (first | (refine guard_at (isStore 27) ?_ ?_; (· rfl); (refine store_new rfl 27 _ _ rfl _ _ _ rfl _ rfl _ rfl rfl ?_ ?_ ?_; (· (first | assumption | rfl)); (· kernel_rfl))) | (refine guard_at (isLoad 27) ?_ ?_; (· rfl); (refine load_has rfl 27 _ rfl _ rfl ?_ 24 ?_ _ Try.underlying27 rfl ?_ ?_; rotate_left; (· (repeat (first | (with_reducible assumption) | ((with_reducible refine Has.box _ _ ?_ ?_) <;> (first | assumption | decide)) | (with_reducible refine Has.alloc ?_ _) | ((with_reducible refine Has.putOther ?_ _ _ ?_); rotate_left; omega; skip) | ((with_reducible refine Has.below ?_ ?_); rotate_left; assumption)))); (· kernel_rfl))))
  refine (KP.out _).mono ?_
  rintro e w17 ⟨rfl, bb⟩
  replace H3 := H3.below bb
  replace HA := HA.below bb
  replace HP := HP.below bb
  replace HD := HD.below bb
  replace P5 := Lib.hid (P5.out.below bb)
  replace HB := Lib.hid (HB.out.call bb)
  clear bb
  replace H3 := H3.alloc (.cells (ints SW).toArray 27)
  replace HA := HA.alloc (.cells (ints SW).toArray 27)
  replace HP := HP.alloc (.cells (ints SW).toArray 27)
  replace HD := HD.alloc (.cells (ints SW).toArray 27)
  replace P5 := Lib.hid (P5.out.alloc (.cells (ints SW).toArray 27))
  replace HB := Lib.hid (HB.out.alloc (.cells (ints SW).toArray 27))
  have HS := Has.box w17 27 hls (by omega)
  go_wp2_with (first | (refine guard_at (isStore 27) ?_ ?_; (· rfl); (refine store_new rfl 27 _ _ rfl _ _ _ rfl _ rfl _ rfl rfl ?_ ?_ ?_; (· (first | assumption | rfl)); (· kernel_rfl))) | (refine guard_at (isLoad 27) ?_ ?_; (· rfl); (refine load_has rfl 27 _ rfl _ rfl ?_ 24 ?_ _ Try.underlying27 rfl ?_ ?_; rotate_left; (· (repeat (first | (with_reducible assumption) | ((with_reducible refine Has.box _ _ ?_ ?_) <;> (first | assumption | decide)) | (with_reducible refine Has.alloc ?_ _) | ((with_reducible refine Has.putOther ?_ _ _ ?_); rotate_left; omega; skip) | ((with_reducible refine Has.below ?_ ?_); rotate_left; assumption)))); (· kernel_rfl))))
  refine (SP.out _).mono ?_
  rintro e w18 ⟨rfl, bb⟩
  replace H3 := H3.below bb
  replace HA := HA.below bb
  replace HP := HP.below bb
  replace HD := HD.below bb
  replace HS := HS.below bb
  replace P5 := Lib.hid (P5.out.below bb)
  replace HB := Lib.hid (HB.out.call bb)
  clear bb
  replace H3 := H3.alloc (.cells (ints SW).toArray 27)
  replace HA := HA.alloc (.cells (ints SW).toArray 27)
  replace HP := HP.alloc (.cells (ints SW).toArray 27)
  replace HD := HD.alloc (.cells (ints SW).toArray 27)
  replace HS := HS.alloc (.cells (ints SW).toArray 27)
  replace P5 := Lib.hid (P5.out.alloc (.cells (ints SW).toArray 27))
  replace HB := Lib.hid (HB.out.alloc (.cells (ints SW).toArray 27))
  have HQ := Has.box w18 27 hls (by omega)
  clear KP SP
  go_wp2_with (first | (refine guard_at (isStore 27) ?_ ?_; (· rfl); (refine store_new rfl 27 _ _ rfl _ _ _ rfl _ rfl _ rfl rfl ?_ ?_ ?_; (· (first | assumption | rfl)); (· kernel_rfl))) | (refine guard_at (isLoad 27) ?_ ?_; (· rfl); (refine load_has rfl 27 _ rfl _ rfl ?_ 24 ?_ _ Try.underlying27 rfl ?_ ?_; rotate_left; (· (repeat (first | (with_reducible assumption) | ((with_reducible refine Has.box _ _ ?_ ?_) <;> (first | assumption | decide)) | (with_reducible refine Has.alloc ?_ _) | ((with_reducible refine Has.putOther ?_ _ _ ?_); rotate_left; omega; skip) | ((with_reducible refine Has.below ?_ ?_); rotate_left; assumption)))); (· kernel_rfl))) | (refine guard_at (isNeq 27) ?_ ?_; (· rfl); refine neq_same rfl 27 _ _ _ rfl SW ?_ ?_ HMR.out (eqRackT SW SW hls hls) ?_; (· kernel_rfl); (· kernel_rfl)))
  clear HQ
  refine (drawLess a len cap _ (CD.out.below HB.out)).mono ?_
  rintro e w19 ⟨fs, gs, rfl, hlf, hlg, bb⟩
  replace H3 := H3.below bb
  replace HA := HA.below bb
  replace HP := HP.below bb
  replace HD := HD.below bb
  replace HS := HS.below bb
  replace P5 := Lib.hid (P5.out.below bb)
  replace HB := Lib.hid (HB.out.call bb)
  clear bb
  have hsz : w.heap.size ≤ w19.heap.size := HB.out.size
  have AP := Lib.hid (fun k hk => (World.ownsRow.lt P5.out k hk).2)
  have lH3 := H3.lt
  have lHA := HA.lt
  have lHP := HP.lt
  have lHD := HD.lt
  have lHS := HS.lt
  have Z1 := (Has.zero24 w19 27).alloc (.cells #[.int .i64 0, .int .i64 0, .int .i64 0, .int .i64 0, .int .i64 0, .int .i64 0, .int .i64 0, .int .i64 0, .int .i64 0, .int .i64 0, .int .i64 0, .int .i64 0, .int .i64 0, .int .i64 0, .int .i64 0, .int .i64 0, .int .i64 0, .int .i64 0, .int .i64 0, .int .i64 0, .int .i64 0, .int .i64 0, .int .i64 0, .int .i64 0] 27)
  have Z2 := (Has.zero24 (w19.alloc (.cells #[.int .i64 0, .int .i64 0, .int .i64 0, .int .i64 0, .int .i64 0, .int .i64 0, .int .i64 0, .int .i64 0, .int .i64 0, .int .i64 0, .int .i64 0, .int .i64 0, .int .i64 0, .int .i64 0, .int .i64 0, .int .i64 0, .int .i64 0, .int .i64 0, .int .i64 0, .int .i64 0, .int .i64 0, .int .i64 0, .int .i64 0, .int .i64 0] 27)) 27).at (size1 _ _)
  have NH3 := ((H3.alloc (.cells #[.int .i64 0, .int .i64 0, .int .i64 0, .int .i64 0, .int .i64 0, .int .i64 0, .int .i64 0, .int .i64 0, .int .i64 0, .int .i64 0, .int .i64 0, .int .i64 0, .int .i64 0, .int .i64 0, .int .i64 0, .int .i64 0, .int .i64 0, .int .i64 0, .int .i64 0, .int .i64 0, .int .i64 0, .int .i64 0, .int .i64 0, .int .i64 0] 27)).alloc (.cells #[.int .i64 0, .int .i64 0, .int .i64 0, .int .i64 0, .int .i64 0, .int .i64 0, .int .i64 0, .int .i64 0, .int .i64 0, .int .i64 0, .int .i64 0, .int .i64 0, .int .i64 0, .int .i64 0, .int .i64 0, .int .i64 0, .int .i64 0, .int .i64 0, .int .i64 0, .int .i64 0, .int .i64 0, .int .i64 0, .int .i64 0, .int .i64 0] 27)).putOther (b' := w19.heap.size) 0 (ints fs) (by omega) |>.putOther (b' := w19.heap.size + 1) 0 (ints gs) (by omega)
  have NHA := ((HA.alloc (.cells #[.int .i64 0, .int .i64 0, .int .i64 0, .int .i64 0, .int .i64 0, .int .i64 0, .int .i64 0, .int .i64 0, .int .i64 0, .int .i64 0, .int .i64 0, .int .i64 0, .int .i64 0, .int .i64 0, .int .i64 0, .int .i64 0, .int .i64 0, .int .i64 0, .int .i64 0, .int .i64 0, .int .i64 0, .int .i64 0, .int .i64 0, .int .i64 0] 27)).alloc (.cells #[.int .i64 0, .int .i64 0, .int .i64 0, .int .i64 0, .int .i64 0, .int .i64 0, .int .i64 0, .int .i64 0, .int .i64 0, .int .i64 0, .int .i64 0, .int .i64 0, .int .i64 0, .int .i64 0, .int .i64 0, .int .i64 0, .int .i64 0, .int .i64 0, .int .i64 0, .int .i64 0, .int .i64 0, .int .i64 0, .int .i64 0, .int .i64 0] 27)).putOther (b' := w19.heap.size) 0 (ints fs) (by omega) |>.putOther (b' := w19.heap.size + 1) 0 (ints gs) (by omega)
  have NHP := ((HP.alloc (.cells #[.int .i64 0, .int .i64 0, .int .i64 0, .int .i64 0, .int .i64 0, .int .i64 0, .int .i64 0, .int .i64 0, .int .i64 0, .int .i64 0, .int .i64 0, .int .i64 0, .int .i64 0, .int .i64 0, .int .i64 0, .int .i64 0, .int .i64 0, .int .i64 0, .int .i64 0, .int .i64 0, .int .i64 0, .int .i64 0, .int .i64 0, .int .i64 0] 27)).alloc (.cells #[.int .i64 0, .int .i64 0, .int .i64 0, .int .i64 0, .int .i64 0, .int .i64 0, .int .i64 0, .int .i64 0, .int .i64 0, .int .i64 0, .int .i64 0, .int .i64 0, .int .i64 0, .int .i64 0, .int .i64 0, .int .i64 0, .int .i64 0, .int .i64 0, .int .i64 0, .int .i64 0, .int .i64 0, .int .i64 0, .int .i64 0, .int .i64 0] 27)).putOther (b' := w19.heap.size) 0 (ints fs) (by omega) |>.putOther (b' := w19.heap.size + 1) 0 (ints gs) (by omega)
  have NHD := ((HD.alloc (.cells #[.int .i64 0, .int .i64 0, .int .i64 0, .int .i64 0, .int .i64 0, .int .i64 0, .int .i64 0, .int .i64 0, .int .i64 0, .int .i64 0, .int .i64 0, .int .i64 0, .int .i64 0, .int .i64 0, .int .i64 0, .int .i64 0, .int .i64 0, .int .i64 0, .int .i64 0, .int .i64 0, .int .i64 0, .int .i64 0, .int .i64 0, .int .i64 0] 27)).alloc (.cells #[.int .i64 0, .int .i64 0, .int .i64 0, .int .i64 0, .int .i64 0, .int .i64 0, .int .i64 0, .int .i64 0, .int .i64 0, .int .i64 0, .int .i64 0, .int .i64 0, .int .i64 0, .int .i64 0, .int .i64 0, .int .i64 0, .int .i64 0, .int .i64 0, .int .i64 0, .int .i64 0, .int .i64 0, .int .i64 0, .int .i64 0, .int .i64 0] 27)).putOther (b' := w19.heap.size) 0 (ints fs) (by omega) |>.putOther (b' := w19.heap.size + 1) 0 (ints gs) (by omega)
  have NHS := ((HS.alloc (.cells #[.int .i64 0, .int .i64 0, .int .i64 0, .int .i64 0, .int .i64 0, .int .i64 0, .int .i64 0, .int .i64 0, .int .i64 0, .int .i64 0, .int .i64 0, .int .i64 0, .int .i64 0, .int .i64 0, .int .i64 0, .int .i64 0, .int .i64 0, .int .i64 0, .int .i64 0, .int .i64 0, .int .i64 0, .int .i64 0, .int .i64 0, .int .i64 0] 27)).alloc (.cells #[.int .i64 0, .int .i64 0, .int .i64 0, .int .i64 0, .int .i64 0, .int .i64 0, .int .i64 0, .int .i64 0, .int .i64 0, .int .i64 0, .int .i64 0, .int .i64 0, .int .i64 0, .int .i64 0, .int .i64 0, .int .i64 0, .int .i64 0, .int .i64 0, .int .i64 0, .int .i64 0, .int .i64 0, .int .i64 0, .int .i64 0, .int .i64 0] 27)).putOther (b' := w19.heap.size) 0 (ints fs) (by omega) |>.putOther (b' := w19.heap.size + 1) 0 (ints gs) (by omega)
  have HF := (Z1.putAll fs hlf).putOther (b' := w19.heap.size + 1) 0 (ints gs) (by omega)
  have HG := (Z2.putOther (b' := w19.heap.size) 0 (ints fs) (by omega)).putAll gs hlg
  replace HB := Lib.hid ((((HB.out.alloc (.cells #[.int .i64 0, .int .i64 0, .int .i64 0, .int .i64 0, .int .i64 0, .int .i64 0, .int .i64 0, .int .i64 0, .int .i64 0, .int .i64 0, .int .i64 0, .int .i64 0, .int .i64 0, .int .i64 0, .int .i64 0, .int .i64 0, .int .i64 0, .int .i64 0, .int .i64 0, .int .i64 0, .int .i64 0, .int .i64 0, .int .i64 0, .int .i64 0] 27)).alloc (.cells #[.int .i64 0, .int .i64 0, .int .i64 0, .int .i64 0, .int .i64 0, .int .i64 0, .int .i64 0, .int .i64 0, .int .i64 0, .int .i64 0, .int .i64 0, .int .i64 0, .int .i64 0, .int .i64 0, .int .i64 0, .int .i64 0, .int .i64 0, .int .i64 0, .int .i64 0, .int .i64 0, .int .i64 0, .int .i64 0, .int .i64 0, .int .i64 0] 27)).puts (b := w19.heap.size) (by omega) 0 (ints fs)).puts (b := w19.heap.size + 1) (by omega) 0 (ints gs))
  replace P5 := Lib.hid ((((P5.out.alloc (.cells #[.int .i64 0, .int .i64 0, .int .i64 0, .int .i64 0, .int .i64 0, .int .i64 0, .int .i64 0, .int .i64 0, .int .i64 0, .int .i64 0, .int .i64 0, .int .i64 0, .int .i64 0, .int .i64 0, .int .i64 0, .int .i64 0, .int .i64 0, .int .i64 0, .int .i64 0, .int .i64 0, .int .i64 0, .int .i64 0, .int .i64 0, .int .i64 0] 27)).alloc (.cells #[.int .i64 0, .int .i64 0, .int .i64 0, .int .i64 0, .int .i64 0, .int .i64 0, .int .i64 0, .int .i64 0, .int .i64 0, .int .i64 0, .int .i64 0, .int .i64 0, .int .i64 0, .int .i64 0, .int .i64 0, .int .i64 0, .int .i64 0, .int .i64 0, .int .i64 0, .int .i64 0, .int .i64 0, .int .i64 0, .int .i64 0, .int .i64 0] 27)).putsR w19.heap.size 0 (ints fs) (fun k hk => by have := AP.out k hk; omega)).putsR (w19.heap.size + 1) 0 (ints gs) (fun k hk => by have := AP.out k hk; omega))
  clear H3 HA HP HD HS lH3 lHA lHP lHD lHS AP hsz
  have H3 := NH3
  clear NH3
  have HA := NHA
  clear NHA
  have HP := NHP
  clear NHP
  have HD := NHD
  clear NHD
  have HS := NHS
  clear NHS
  have KP := Lib.hid (fun W => implLess fs gs W hlf hlg)
  have SP := Lib.hid (fun W => specLess fs gs W hlf hlg)
  have KL2 := Lib.hid (fun W => implLess gs fs W hlg hlf)
  have EL : Hid (lessOk fs gs = true → lessOk gs fs = true ∧ (lessA fs gs = true → lessA gs fs = false) ∧ (fs ≠ gs ↔ (lessA fs gs = true ∨ lessA gs fs = true))) := Lib.hid (fun h => less_facts hlf hlg h)
  generalize lessOk gs fs = LO2 at *
  generalize lessA gs fs = LS2 at *
  generalize lessOk fs gs = LO at *
  generalize lessA fs gs = LS at *
  go_wp2_with (first | (refine guard_at (isStore 27) ?_ ?_; (· rfl); (refine store_at rfl 27 _ _ rfl _ _ rfl rfl ?_ 24 ?_ ?_ ?_ ?_; rotate_left; (· (repeat (first | (with_reducible assumption) | ((with_reducible refine Has.box _ _ ?_ ?_) <;> (first | assumption | decide)) | (with_reducible refine Has.alloc ?_ _) | ((with_reducible refine Has.putOther ?_ _ _ ?_); rotate_left; omega; skip) | ((with_reducible refine Has.below ?_ ?_); rotate_left; assumption)))); (· (first | assumption | rfl)); (· kernel_rfl))) | (refine guard_at (isLoad 27) ?_ ?_; (· rfl); (refine load_has rfl 27 _ rfl _ rfl ?_ 24 ?_ _ Try.underlying27 rfl ?_ ?_; rotate_left; (· (repeat (first | (with_reducible assumption) | ((with_reducible refine Has.box _ _ ?_ ?_) <;> (first | assumption | decide)) | (with_reducible refine Has.alloc ?_ _) | ((with_reducible refine Has.putOther ?_ _ _ ?_); rotate_left; omega; skip) | ((with_reducible refine Has.below ?_ ?_); rotate_left; assumption)))); (· kernel_rfl))))
  refine (KP.out _).mono ?_
  rintro e w20 ⟨rfl, bb⟩
  replace H3 := H3.below bb
  replace HA := HA.below bb
  replace HP := HP.below bb
  replace HD := HD.below bb
  replace HS := HS.below bb
  replace HF := HF.below bb
  replace HG := HG.below bb
  replace P5 := Lib.hid (P5.out.below bb)
  replace HB := Lib.hid (HB.out.call bb)
  clear bb
  go_wp2_with (first | (refine guard_at (isLoad 27) ?_ ?_; (· rfl); (refine load_has rfl 27 _ rfl _ rfl ?_ 24 ?_ _ Try.underlying27 rfl ?_ ?_; rotate_left; (· (repeat (first | (with_reducible assumption) | ((with_reducible refine Has.box _ _ ?_ ?_) <;> (first | assumption | decide)) | (with_reducible refine Has.alloc ?_ _) | ((with_reducible refine Has.putOther ?_ _ _ ?_); rotate_left; omega; skip) | ((with_reducible refine Has.below ?_ ?_); rotate_left; assumption)))); (· kernel_rfl))))
  refine (SP.out _).mono ?_
  rintro e w21 ⟨rfl, bb⟩
  replace H3 := H3.below bb
  replace HA := HA.below bb
  replace HP := HP.below bb
  replace HD := HD.below bb
  replace HS := HS.below bb
  replace HF := HF.below bb
  replace HG := HG.below bb
  replace P5 := Lib.hid (P5.out.below bb)
  replace HB := Lib.hid (HB.out.call bb)
  clear bb
  clear KP SP
  go_wp2_with (first | (refine guard_at (isLoad 27) ?_ ?_; (· rfl); (refine load_has rfl 27 _ rfl _ rfl ?_ 24 ?_ _ Try.underlying27 rfl ?_ ?_; rotate_left; (· (repeat (first | (with_reducible assumption) | ((with_reducible refine Has.box _ _ ?_ ?_) <;> (first | assumption | decide)) | (with_reducible refine Has.alloc ?_ _) | ((with_reducible refine Has.putOther ?_ _ _ ?_); rotate_left; omega; skip) | ((with_reducible refine Has.below ?_ ?_); rotate_left; assumption)))); (· kernel_rfl))))
  refine (KX.out _).mono ?_
  rintro e w22 ⟨rfl, bb⟩
  replace H3 := H3.below bb
  replace HA := HA.below bb
  replace HP := HP.below bb
  replace HD := HD.below bb
  replace HS := HS.below bb
  replace HF := HF.below bb
  replace HG := HG.below bb
  replace P5 := Lib.hid (P5.out.below bb)
  replace HB := Lib.hid (HB.out.call bb)
  clear bb
  go_wp2_with (first | (refine guard_at (isLoad 27) ?_ ?_; (· rfl); (refine load_has rfl 27 _ rfl _ rfl ?_ 24 ?_ _ Try.underlying27 rfl ?_ ?_; rotate_left; (· (repeat (first | (with_reducible assumption) | ((with_reducible refine Has.box _ _ ?_ ?_) <;> (first | assumption | decide)) | (with_reducible refine Has.alloc ?_ _) | ((with_reducible refine Has.putOther ?_ _ _ ?_); rotate_left; omega; skip) | ((with_reducible refine Has.below ?_ ?_); rotate_left; assumption)))); (· kernel_rfl))))
  refine (SX.out _).mono ?_
  rintro e w23 ⟨rfl, bb⟩
  replace H3 := H3.below bb
  replace HA := HA.below bb
  replace HP := HP.below bb
  replace HD := HD.below bb
  replace HS := HS.below bb
  replace HF := HF.below bb
  replace HG := HG.below bb
  replace P5 := Lib.hid (P5.out.below bb)
  replace HB := Lib.hid (HB.out.call bb)
  clear bb
  clear KX SX
  go_wp2_with (first | (refine guard_at (isLoad 27) ?_ ?_; (· rfl); (refine load_has rfl 27 _ rfl _ rfl ?_ 24 ?_ _ Try.underlying27 rfl ?_ ?_; rotate_left; (· (repeat (first | (with_reducible assumption) | ((with_reducible refine Has.box _ _ ?_ ?_) <;> (first | assumption | decide)) | (with_reducible refine Has.alloc ?_ _) | ((with_reducible refine Has.putOther ?_ _ _ ?_); rotate_left; omega; skip) | ((with_reducible refine Has.below ?_ ?_); rotate_left; assumption)))); (· kernel_rfl))))
  refine (KV.out _).mono ?_
  rintro e w24 ⟨rfl, bb⟩
  replace H3 := H3.below bb
  replace HA := HA.below bb
  replace HP := HP.below bb
  replace HD := HD.below bb
  replace HS := HS.below bb
  replace HF := HF.below bb
  replace HG := HG.below bb
  replace P5 := Lib.hid (P5.out.below bb)
  replace HB := Lib.hid (HB.out.call bb)
  clear bb
  go_wp2_with (first | (refine guard_at (isLoad 27) ?_ ?_; (· rfl); (refine load_has rfl 27 _ rfl _ rfl ?_ 24 ?_ _ Try.underlying27 rfl ?_ ?_; rotate_left; (· (repeat (first | (with_reducible assumption) | ((with_reducible refine Has.box _ _ ?_ ?_) <;> (first | assumption | decide)) | (with_reducible refine Has.alloc ?_ _) | ((with_reducible refine Has.putOther ?_ _ _ ?_); rotate_left; omega; skip) | ((with_reducible refine Has.below ?_ ?_); rotate_left; assumption)))); (· kernel_rfl))))
  refine (drawParse a len cap _ (CD.out.below HB.out)).mono ?_
  rintro e w25 ⟨s, rfl, hss, bb⟩
  replace H3 := H3.below bb
  replace HA := HA.below bb
  replace HP := HP.below bb
  replace HD := HD.below bb
  replace HS := HS.below bb
  replace HF := HF.below bb
  replace HG := HG.below bb
  replace P5 := Lib.hid (P5.out.below bb)
  replace HB := Lib.hid (HB.out.call bb)
  clear bb
  have hlr : (parseA s.data.toList).length = 24 := parseA_len _
  have KP := Lib.hid (fun W => implParse s W (by unfold maxLen; omega))
  have SP := Lib.hid (fun W => specParse s W (by unfold maxLen; omega))
  generalize parseA s.data.toList = RR at *
  generalize okR s.data.toList = RO at *
  go_wp2_with fail
  refine (KP.out _).mono ?_
  rintro e w26 ⟨rfl, bb⟩
  replace H3 := H3.below bb
  replace HA := HA.below bb
  replace HP := HP.below bb
  replace HD := HD.below bb
  replace HS := HS.below bb
  replace HF := HF.below bb
  replace HG := HG.below bb
  replace P5 := Lib.hid (P5.out.below bb)
  replace HB := Lib.hid (HB.out.call bb)
  clear bb
  replace H3 := H3.alloc (.cells (ints RR).toArray 27)
  replace HA := HA.alloc (.cells (ints RR).toArray 27)
  replace HP := HP.alloc (.cells (ints RR).toArray 27)
  replace HD := HD.alloc (.cells (ints RR).toArray 27)
  replace HS := HS.alloc (.cells (ints RR).toArray 27)
  replace HF := HF.alloc (.cells (ints RR).toArray 27)
  replace HG := HG.alloc (.cells (ints RR).toArray 27)
  replace P5 := Lib.hid (P5.out.alloc (.cells (ints RR).toArray 27))
  replace HB := Lib.hid (HB.out.alloc (.cells (ints RR).toArray 27))
  have HR1 := Has.box w26 27 hlr (by omega)
  go_wp2_with (first | (refine guard_at (isStore 27) ?_ ?_; (· rfl); (refine store_new rfl 27 _ _ rfl _ _ _ rfl _ rfl _ rfl rfl ?_ ?_ ?_; (· (first | assumption | rfl)); (· kernel_rfl))) | (refine guard_at (isLoad 27) ?_ ?_; (· rfl); (refine load_has rfl 27 _ rfl _ rfl ?_ 24 ?_ _ Try.underlying27 rfl ?_ ?_; rotate_left; (· (repeat (first | (with_reducible assumption) | ((with_reducible refine Has.box _ _ ?_ ?_) <;> (first | assumption | decide)) | (with_reducible refine Has.alloc ?_ _) | ((with_reducible refine Has.putOther ?_ _ _ ?_); rotate_left; omega; skip) | ((with_reducible refine Has.below ?_ ?_); rotate_left; assumption)))); (· kernel_rfl))))
  refine (SP.out _).mono ?_
  rintro e w27 ⟨rfl, bb⟩
  replace H3 := H3.below bb
  replace HA := HA.below bb
  replace HP := HP.below bb
  replace HD := HD.below bb
  replace HS := HS.below bb
  replace HF := HF.below bb
  replace HG := HG.below bb
  replace HR1 := HR1.below bb
  replace P5 := Lib.hid (P5.out.below bb)
  replace HB := Lib.hid (HB.out.call bb)
  clear bb
  replace H3 := H3.alloc (.cells (ints RR).toArray 27)
  replace HA := HA.alloc (.cells (ints RR).toArray 27)
  replace HP := HP.alloc (.cells (ints RR).toArray 27)
  replace HD := HD.alloc (.cells (ints RR).toArray 27)
  replace HS := HS.alloc (.cells (ints RR).toArray 27)
  replace HF := HF.alloc (.cells (ints RR).toArray 27)
  replace HG := HG.alloc (.cells (ints RR).toArray 27)
  replace HR1 := HR1.alloc (.cells (ints RR).toArray 27)
  replace P5 := Lib.hid (P5.out.alloc (.cells (ints RR).toArray 27))
  replace HB := Lib.hid (HB.out.alloc (.cells (ints RR).toArray 27))
  have HR2 := Has.box w27 27 hlr (by omega)
  clear KP SP KV hss
  go_upto_if 313 with (first | (refine guard_at (isStore 27) ?_ ?_; (· rfl); (refine store_new rfl 27 _ _ rfl _ _ _ rfl _ rfl _ rfl rfl ?_ ?_ ?_; (· (first | assumption | rfl)); (· kernel_rfl))) | (refine guard_at (isLoad 27) ?_ ?_; (· rfl); (refine load_has rfl 27 _ rfl _ rfl ?_ 24 ?_ _ Try.underlying27 rfl ?_ ?_; rotate_left; (· (repeat (first | (with_reducible assumption) | ((with_reducible refine Has.box _ _ ?_ ?_) <;> (first | assumption | decide)) | (with_reducible refine Has.alloc ?_ _) | ((with_reducible refine Has.putOther ?_ _ _ ?_); rotate_left; omega; skip) | ((with_reducible refine Has.below ?_ ?_); rotate_left; assumption)))); (· kernel_rfl))) | (refine guard_at (isNeq 27) ?_ ?_; (· rfl); refine neq_same rfl 27 _ _ _ rfl RR ?_ ?_ HMR.out (eqRackT RR RR hlr hlr) ?_; (· kernel_rfl); (· kernel_rfl)))
  go_cut [56, 57, 58] from 313 to 332 (fun s56 s57 s58 wx => Has wx w1.heap.size ns 24 ∧ Has wx w16.heap.size ds 24 ∧ Has wx w17.heap.size SW 24 ∧ Has wx w19.heap.size fs 24 ∧ Has wx (w19.heap.size + 1) gs 24 ∧ Hid (Kept w wx) ∧ Hid (Prs wx BP (.slice a2 RN c2) RN FA))
  case first =>
    cases PO
    case' false =>
      go_wp2_with fail
      go_meet
      case rel => exact ⟨H3, HD, HS, HF, HG, HB, P5⟩
    case' true =>
      obtain ⟨rfl, rfl, rfl⟩ := EP.out rfl
      go_wp2_with (first | (refine guard_at (isLoad 27) ?_ ?_; (· rfl); (refine load_has rfl 27 _ rfl _ rfl ?_ 24 ?_ _ Try.underlying27 rfl ?_ ?_; rotate_left; (· (repeat (first | (with_reducible assumption) | ((with_reducible refine Has.box _ _ ?_ ?_) <;> (first | assumption | decide)) | (with_reducible refine Has.alloc ?_ _) | ((with_reducible refine Has.putOther ?_ _ _ ?_); rotate_left; omega; skip) | ((with_reducible refine Has.below ?_ ?_); rotate_left; assumption)))); (· kernel_rfl))))
      refine (KP2.out _).mono ?_
      rintro e w30 ⟨rfl, bb⟩
      replace H3 := H3.below bb
      replace HA := HA.below bb
      replace HP := HP.below bb
      replace HD := HD.below bb
      replace HS := HS.below bb
      replace HF := HF.below bb
      replace HG := HG.below bb
      replace P5 := Lib.hid (P5.out.below bb)
      replace HB := Lib.hid (HB.out.call bb)
      clear bb
      replace H3 := H3.alloc (.cells (ints PB).toArray 27)
      replace HA := HA.alloc (.cells (ints PB).toArray 27)
      replace HP := HP.alloc (.cells (ints PB).toArray 27)
      replace HD := HD.alloc (.cells (ints PB).toArray 27)
      replace HS := HS.alloc (.cells (ints PB).toArray 27)
      replace HF := HF.alloc (.cells (ints PB).toArray 27)
      replace HG := HG.alloc (.cells (ints PB).toArray 27)
      replace P5 := Lib.hid (P5.out.alloc (.cells (ints PB).toArray 27))
      replace HB := Lib.hid (HB.out.alloc (.cells (ints PB).toArray 27))
      have HQ := Has.box w30 27 hla (by omega)
      go_wp2_with (first | (refine guard_at (isStore 27) ?_ ?_; (· rfl); (refine store_new rfl 27 _ _ rfl _ _ _ rfl _ rfl _ rfl rfl ?_ ?_ ?_; (· (first | assumption | rfl)); (· kernel_rfl))) | (refine guard_at (isLoad 27) ?_ ?_; (· rfl); (refine load_has rfl 27 _ rfl _ rfl ?_ 24 ?_ _ Try.underlying27 rfl ?_ ?_; rotate_left; (· (repeat (first | (with_reducible assumption) | ((with_reducible refine Has.box _ _ ?_ ?_) <;> (first | assumption | decide)) | (with_reducible refine Has.alloc ?_ _) | ((with_reducible refine Has.putOther ?_ _ _ ?_); rotate_left; omega; skip) | ((with_reducible refine Has.below ?_ ?_); rotate_left; assumption)))); (· kernel_rfl))) | (refine guard_at (isNeq 27) ?_ ?_; (· rfl); refine neq_same rfl 27 _ _ _ rfl PB ?_ ?_ HMR.out (eqRackT PB PB hla hla) ?_; (· kernel_rfl); (· kernel_rfl)))
      go_meet
      case rel => exact ⟨H3, HD, HS, HF, HG, HB, P5⟩
  clear HB P5 H3 HA HP HD HS HF HG
  obtain ⟨H3, HD, HS, HF, HG, HB, P5⟩ := hcut
  clear EP KP2
  go_upto_if 333 with (first | (refine guard_at (isLoad 27) ?_ ?_; (· rfl); (refine load_has rfl 27 _ rfl _ rfl ?_ 24 ?_ _ Try.underlying27 rfl ?_ ?_; rotate_left; (· (repeat (first | (with_reducible assumption) | ((with_reducible refine Has.box _ _ ?_ ?_) <;> (first | assumption | decide)) | (with_reducible refine Has.alloc ?_ _) | ((with_reducible refine Has.putOther ?_ _ _ ?_); rotate_left; omega; skip) | ((with_reducible refine Has.below ?_ ?_); rotate_left; assumption)))); (· kernel_rfl))))
  go_cut [59, 60] from 333 to 347 (fun s59 s60 wx => Has wx w1.heap.size ns 24 ∧ Has wx w19.heap.size fs 24 ∧ Has wx (w19.heap.size + 1) gs 24 ∧ Hid (Kept w wx) ∧ Hid (Prs wx BP (.slice a2 RN c2) RN FA))
  case first =>
    cases SO
    case' false =>
      go_wp2_with fail
      go_meet
      case rel => exact ⟨H3, HF, HG, HB, P5⟩
    case' true =>
      obtain ⟨rfl, rfl⟩ := ES.out rfl
      go_wp2_with (first | (refine guard_at (isLoad 27) ?_ ?_; (· rfl); (refine load_has rfl 27 _ rfl _ rfl ?_ 24 ?_ _ Try.underlying27 rfl ?_ ?_; rotate_left; (· (repeat (first | (with_reducible assumption) | ((with_reducible refine Has.box _ _ ?_ ?_) <;> (first | assumption | decide)) | (with_reducible refine Has.alloc ?_ _) | ((with_reducible refine Has.putOther ?_ _ _ ?_); rotate_left; omega; skip) | ((with_reducible refine Has.below ?_ ?_); rotate_left; assumption)))); (· kernel_rfl))))
      refine (KS2.out _).mono ?_
      rintro e w31 ⟨rfl, bb⟩
      replace H3 := H3.below bb
      replace HD := HD.below bb
      replace HS := HS.below bb
      replace HF := HF.below bb
      replace HG := HG.below bb
      replace P5 := Lib.hid (P5.out.below bb)
      replace HB := Lib.hid (HB.out.call bb)
      clear bb
      replace H3 := H3.alloc (.cells (ints SB).toArray 27)
      replace HD := HD.alloc (.cells (ints SB).toArray 27)
      replace HS := HS.alloc (.cells (ints SB).toArray 27)
      replace HF := HF.alloc (.cells (ints SB).toArray 27)
      replace HG := HG.alloc (.cells (ints SB).toArray 27)
      replace P5 := Lib.hid (P5.out.alloc (.cells (ints SB).toArray 27))
      replace HB := Lib.hid (HB.out.alloc (.cells (ints SB).toArray 27))
      have HQ := Has.box w31 27 hld (by omega)
      go_wp2_with (first | (refine guard_at (isStore 27) ?_ ?_; (· rfl); (refine store_new rfl 27 _ _ rfl _ _ _ rfl _ rfl _ rfl rfl ?_ ?_ ?_; (· (first | assumption | rfl)); (· kernel_rfl))) | (refine guard_at (isLoad 27) ?_ ?_; (· rfl); (refine load_has rfl 27 _ rfl _ rfl ?_ 24 ?_ _ Try.underlying27 rfl ?_ ?_; rotate_left; (· (repeat (first | (with_reducible assumption) | ((with_reducible refine Has.box _ _ ?_ ?_) <;> (first | assumption | decide)) | (with_reducible refine Has.alloc ?_ _) | ((with_reducible refine Has.putOther ?_ _ _ ?_); rotate_left; omega; skip) | ((with_reducible refine Has.below ?_ ?_); rotate_left; assumption)))); (· kernel_rfl))) | (refine guard_at (isNeq 27) ?_ ?_; (· rfl); refine neq_same rfl 27 _ _ _ rfl SB ?_ ?_ HMR.out (eqRackT SB SB hld hld) ?_; (· kernel_rfl); (· kernel_rfl)))
      go_meet
      case rel => exact ⟨H3, HF, HG, HB, P5⟩
  clear HB P5 H3 HD HS HF HG
  obtain ⟨H3, HF, HG, HB, P5⟩ := hcut
  clear ES KS2
  go_upto_if 348 with (first | (refine guard_at (isLoad 27) ?_ ?_; (· rfl); (refine load_has rfl 27 _ rfl _ rfl ?_ 24 ?_ _ Try.underlying27 rfl ?_ ?_; rotate_left; (· (repeat (first | (with_reducible assumption) | ((with_reducible refine Has.box _ _ ?_ ?_) <;> (first | assumption | decide)) | (with_reducible refine Has.alloc ?_ _) | ((with_reducible refine Has.putOther ?_ _ _ ?_); rotate_left; omega; skip) | ((with_reducible refine Has.below ?_ ?_); rotate_left; assumption)))); (· kernel_rfl))))
  go_cut [61, 62] from 348 to 372 (fun s61 s62 wx => Has wx w1.heap.size ns 24 ∧ Hid (Kept w wx) ∧ Hid (Prs wx BP (.slice a2 RN c2) RN FA))
  case first =>
    cases LO
    case' false =>
      go_wp2_with fail
      go_meet
      case rel => exact ⟨H3, HB, P5⟩
    case' true =>
      obtain ⟨rfl, el1, el2⟩ := EL.out rfl
      have EL1 := Lib.hid el1
      have EL2 := Lib.hid el2
      clear el1 el2
      go_wp2_with (first | (refine guard_at (isLoad 27) ?_ ?_; (· rfl); (refine load_has rfl 27 _ rfl _ rfl ?_ 24 ?_ _ Try.underlying27 rfl ?_ ?_; rotate_left; (· (repeat (first | (with_reducible assumption) | ((with_reducible refine Has.box _ _ ?_ ?_) <;> (first | assumption | decide)) | (with_reducible refine Has.alloc ?_ _) | ((with_reducible refine Has.putOther ?_ _ _ ?_); rotate_left; omega; skip) | ((with_reducible refine Has.below ?_ ?_); rotate_left; assumption)))); (· kernel_rfl))))
      refine (KL2.out _).mono ?_
      rintro e w32 ⟨rfl, bb⟩
      replace H3 := H3.below bb
      replace HF := HF.below bb
      replace HG := HG.below bb
      replace P5 := Lib.hid (P5.out.below bb)
      replace HB := Lib.hid (HB.out.call bb)
      clear bb
      have hne : Hid ((!decide (fs = gs)) = (LS || LS2)) := Lib.hid (by
        have h := EL2.out
        by_cases e : fs = gs
        · have h1 : LS = false := by
            cases h2 : LS with
            | false => rfl
            | true => exact absurd e (h.2 (.inl h2))
          have h3 : LS2 = false := by
            cases h2 : LS2 with
            | false => rfl
            | true => exact absurd e (h.2 (.inr h2))
          rw [decide_eq_true e, h1, h3]; rfl
        · rw [decide_eq_false e]
          rcases h.1 e with h | h <;> simp [h])
      have h4 : (LS = false ∧ LS2 = false) ∨ (LS = true ∧ LS2 = false) ∨ (LS = false ∧ LS2 = true) := by
        have h := EL1.out
        cases LS <;> cases LS2 <;> simp at h ⊢
      clear EL1 EL2
      rcases h4 with ⟨rfl, rfl⟩ | ⟨rfl, rfl⟩ | ⟨rfl, rfl⟩
      · have HNE : Hid ((!decide (fs = gs)) = false) := Lib.hid hne.out
        clear hne
        go_wp2_with (first | (refine guard_at (isLoad 27) ?_ ?_; (· rfl); (refine load_has rfl 27 _ rfl _ rfl ?_ 24 ?_ _ Try.underlying27 rfl ?_ ?_; rotate_left; (· (repeat (first | (with_reducible assumption) | ((with_reducible refine Has.box _ _ ?_ ?_) <;> (first | assumption | decide)) | (with_reducible refine Has.alloc ?_ _) | ((with_reducible refine Has.putOther ?_ _ _ ?_); rotate_left; omega; skip) | ((with_reducible refine Has.below ?_ ?_); rotate_left; assumption)))); (· kernel_rfl))) | (refine guard_at (isNeq 27) ?_ ?_; (· rfl); refine neq_law rfl 27 _ _ _ rfl fs gs ?_ ?_ HMR.out (eqRackT fs gs hlf hlg) _ HNE.out ?_; (· kernel_rfl); (· kernel_rfl)))
        go_meet
        case rel => exact ⟨H3, HB, P5⟩
      · have HNE : Hid ((!decide (fs = gs)) = true) := Lib.hid hne.out
        clear hne
        go_wp2_with (first | (refine guard_at (isLoad 27) ?_ ?_; (· rfl); (refine load_has rfl 27 _ rfl _ rfl ?_ 24 ?_ _ Try.underlying27 rfl ?_ ?_; rotate_left; (· (repeat (first | (with_reducible assumption) | ((with_reducible refine Has.box _ _ ?_ ?_) <;> (first | assumption | decide)) | (with_reducible refine Has.alloc ?_ _) | ((with_reducible refine Has.putOther ?_ _ _ ?_); rotate_left; omega; skip) | ((with_reducible refine Has.below ?_ ?_); rotate_left; assumption)))); (· kernel_rfl))) | (refine guard_at (isNeq 27) ?_ ?_; (· rfl); refine neq_law rfl 27 _ _ _ rfl fs gs ?_ ?_ HMR.out (eqRackT fs gs hlf hlg) _ HNE.out ?_; (· kernel_rfl); (· kernel_rfl)))
        go_meet
        case rel => exact ⟨H3, HB, P5⟩
      · have HNE : Hid ((!decide (fs = gs)) = true) := Lib.hid hne.out
        clear hne
        go_wp2_with (first | (refine guard_at (isLoad 27) ?_ ?_; (· rfl); (refine load_has rfl 27 _ rfl _ rfl ?_ 24 ?_ _ Try.underlying27 rfl ?_ ?_; rotate_left; (· (repeat (first | (with_reducible assumption) | ((with_reducible refine Has.box _ _ ?_ ?_) <;> (first | assumption | decide)) | (with_reducible refine Has.alloc ?_ _) | ((with_reducible refine Has.putOther ?_ _ _ ?_); rotate_left; omega; skip) | ((with_reducible refine Has.below ?_ ?_); rotate_left; assumption)))); (· kernel_rfl))) | (refine guard_at (isNeq 27) ?_ ?_; (· rfl); refine neq_law rfl 27 _ _ _ rfl fs gs ?_ ?_ HMR.out (eqRackT fs gs hlf hlg) _ HNE.out ?_; (· kernel_rfl); (· kernel_rfl)))
        go_meet
        case rel => exact ⟨H3, HB, P5⟩
  clear HB P5 H3 HF HG
  obtain ⟨H3, HB, P5⟩ := hcut
  clear EL KL2
  go_upto_if 373 with (first | (refine guard_at (isLoad 27) ?_ ?_; (· rfl); (refine load_has rfl 27 _ rfl _ rfl ?_ 24 ?_ _ Try.underlying27 rfl ?_ ?_; rotate_left; (· (repeat (first | (with_reducible assumption) | ((with_reducible refine Has.box _ _ ?_ ?_) <;> (first | assumption | decide)) | (with_reducible refine Has.alloc ?_ _) | ((with_reducible refine Has.putOther ?_ _ _ ?_); rotate_left; omega; skip) | ((with_reducible refine Has.below ?_ ?_); rotate_left; assumption)))); (· kernel_rfl))))
  go_cut [63, 64] from 373 to 385 (fun s63 s64 wx => Has wx w1.heap.size ns 24 ∧ Hid (Kept w wx) ∧ Hid (Prs wx BP (.slice a2 RN c2) RN FA))
  case first =>
    cases V
    case' false =>
      go_wp2_with fail
      go_meet
      case rel => exact ⟨H3, HB, P5⟩
    case' true =>
      obtain ⟨rfl, rfl⟩ := EY.out rfl
      go_wp2_with (first | (refine guard_at (isLoad 27) ?_ ?_; (· rfl); (refine load_has rfl 27 _ rfl _ rfl ?_ 24 ?_ _ Try.underlying27 rfl ?_ ?_; rotate_left; (· (repeat (first | (with_reducible assumption) | ((with_reducible refine Has.box _ _ ?_ ?_) <;> (first | assumption | decide)) | (with_reducible refine Has.alloc ?_ _) | ((with_reducible refine Has.putOther ?_ _ _ ?_); rotate_left; omega; skip) | ((with_reducible refine Has.below ?_ ?_); rotate_left; assumption)))); (· kernel_rfl))))
      refine (KY.out _).mono ?_
      rintro e w33 ⟨rfl, bb⟩
      replace H3 := H3.below bb
      replace P5 := Lib.hid (P5.out.below bb)
      replace HB := Lib.hid (HB.out.call bb)
      clear bb
      replace H3 := H3.alloc (.cells (ints PT).toArray 27)
      replace P5 := Lib.hid (P5.out.alloc (.cells (ints PT).toArray 27))
      replace HB := Lib.hid (HB.out.alloc (.cells (ints PT).toArray 27))
      have HQ := Has.box w33 27 hl (by omega)
      go_wp2_with (first | (refine guard_at (isStore 27) ?_ ?_; (· rfl); (refine store_new rfl 27 _ _ rfl _ _ _ rfl _ rfl _ rfl rfl ?_ ?_ ?_; (· (first | assumption | rfl)); (· kernel_rfl))) | (refine guard_at (isLoad 27) ?_ ?_; (· rfl); (refine load_has rfl 27 _ rfl _ rfl ?_ 24 ?_ _ Try.underlying27 rfl ?_ ?_; rotate_left; (· (repeat (first | (with_reducible assumption) | ((with_reducible refine Has.box _ _ ?_ ?_) <;> (first | assumption | decide)) | (with_reducible refine Has.alloc ?_ _) | ((with_reducible refine Has.putOther ?_ _ _ ?_); rotate_left; omega; skip) | ((with_reducible refine Has.below ?_ ?_); rotate_left; assumption)))); (· kernel_rfl))) | (refine guard_at (isNeq 27) ?_ ?_; (· rfl); refine neq_same rfl 27 _ _ _ rfl PT ?_ ?_ HMR.out (eqRackT PT PT hl hl) ?_; (· kernel_rfl); (· kernel_rfl)))
      go_meet
      case rel => exact ⟨H3, HB, P5⟩
  clear HB P5 H3
  obtain ⟨H3, HB, P5⟩ := hcut
  clear EY KY
  rcases EF.out with ⟨rfl, rfl⟩ | ⟨rfl, rfl, ra, rt⟩
  · go_wp2_with fail
    go_ret
    exact ⟨rfl, HB.out⟩
  have RA := Lib.hid ra
  have RT := Lib.hid rt
  have hLA := ra.sum
  have RL := Lib.hid P5.out.flat
  clear ra rt EF H3
  rcases RN with _ | n
  · have hTO : TO = false := by
      cases h : TO with
      | false => rfl
      | true => have := (RT.out h).1; omega
    subst hTO
    have h0 : LA = 0 := hLA.symm
    subst h0
    clear RT hLA
    go_wp2_with fail
    go_loopw [65, 66] (fun sm i wr => i = .int .i64 0 ∧ sm = .int .i64 0 ∧ Hid (Kept w wr)) (fun _ _ _ => 0)
    case atStart => exact ⟨rfl, rfl, HB⟩
    case round =>
      obtain ⟨rfl, rfl, GB⟩ := hrel
      go_wp2_with fail
      go_ret
      exact ⟨rfl, GB.out⟩
  obtain ⟨g, cap2, hv, _, _⟩ := P5.out.form (by omega)
  injection hv with ha _ hcap
  subst ha
  subst hcap
  go_wp2_with fail
  go_loopw [65, 66] (fun sm i wr => ∃ q : Nat, q ≤ n + 1 ∧ i = .int .i64 q ∧ sm = .int .i64 (sumR FA q) ∧ Hid (Prs wr BP (.slice (some ⟨g, 0, none⟩) (n + 1) c2) (n + 1) FA) ∧ Hid (Kept w wr)) (fun _ i _ => n + 1 - (intOf i).toNat)
  case atStart => exact ⟨0, by omega, rfl, rfl, P5, HB⟩
  case round =>
    obtain ⟨q, hq, rfl, rfl, GP, GB⟩ := hrel
    by_cases hlt : q < n + 1
    · have hqi : (q : Int) < (n : Int) + 1 := by omega
      have hq0 : (0 : Int) ≤ (q : Int) := by omega
      obtain ⟨b1, b2, b3, b4⟩ := RA.out.part q (by omega)
      have SS := Lib.hid (show sumR FA (q + 1) = sumR FA q + FA.getD (q * 2 + 1) 0 from rfl)
      have NE := Lib.hid (RA.out.ne q)
      have cA := GP.out.cell (q * 2 + 1) (by omega)
      have cB := GP.out.cell (q * 2) (by omega)
      have hsum : IntKind.i64.wrap (sumR FA q + FA.getD (q * 2 + 1) 0) = sumR FA q + FA.getD (q * 2 + 1) 0 := IntWalk.i64_in _ (by omega)
      rw [← SS.out] at hsum
      by_cases h0 : q = 0
      · have hg : decide ((0 : Int) < (q : Int)) = false := by rw [h0]; rfl
        have hg2 : ¬ (0 : Int) < (q : Int) := by omega
        have hg3 : decide (0 < q) = false := by rw [h0]; rfl
        have hg4 : decide ((q : Int) > 0) = false := by rw [h0]; rfl
        have hg5 : (decide (0 < q)) = false ∧ ¬ 0 < q := ⟨hg3, by omega⟩
        have hg6 := hg5.2
        clear hg5
        clear b1 b2 b3 b4 NE cB h0
        rw [SS.out] at hsum
        generalize FA.getD (q * 2 + 1) 0 = z at *
        go_wp2_with fail
        go_quiet (fail)
        have GP2 := Lib.hid (GP.out.drewN nq)
        have GB2 := Lib.hid (GB.out.drewN nq)
        go_wp2_with fail
        go_roundw
        case rel => exact ⟨q + 1, by omega, by go_num, by rw [SS.out], GP2, GB2⟩
        case measure => simp [intOf]; omega
      · obtain ⟨p, rfl⟩ : ∃ p, q = p + 1 := ⟨q - 1, by omega⟩
        have cC := GP.out.cell (p * 2) (by omega)
        have e0 := NE.out (by omega) (by omega)
        rw [Nat.add_sub_cancel] at e0
        have e1 : (FA.getD ((p + 1) * 2) 0 == FA.getD (p * 2) 0) = false := by simpa using e0
        have e2 : decide (FA.getD ((p + 1) * 2) 0 = FA.getD (p * 2) 0) = false := by simpa using e0
        have w1 : IntKind.i64.wrap ((p : Int) + 1 - 1) = (p : Int) := by rw [Int.add_sub_cancel] <;> exact IntWalk.i64_in _ (by omega)
        have hp0 : (0 : Int) ≤ (p : Int) := by omega
        have hpn : (p : Int) < (n : Int) + 1 := by omega
        have hp1 : (0 : Int) < (p : Int) + 1 := by omega
        have hp2 : (p : Int) + 1 < (n : Int) + 1 := by omega
        have hp3 : (0 : Int) ≤ (p : Int) + 1 := by omega
        have hp4 : (p : Int) < (n : Int) := by omega
        clear b1 b2 b3 b4 NE e0 h0
        rw [SS.out] at hsum
        generalize FA.getD ((p + 1) * 2 + 1) 0 = z at *
        generalize FA.getD ((p + 1) * 2) 0 = x at *
        generalize FA.getD (p * 2) 0 = y at *
        go_wp2_with fail
        go_quiet (fail)
        have GP2 := Lib.hid (GP.out.drewN nq)
        have GB2 := Lib.hid (GB.out.drewN nq)
        go_wp2_with fail
        go_roundw
        case rel => exact ⟨p + 1 + 1, by omega, by go_num, by rw [SS.out], GP2, GB2⟩
        case measure => simp [intOf]; omega
    · obtain rfl : q = n + 1 := by omega
      rw [hLA]
      have w1 : IntKind.i64.wrap ((n : Int) + 1 - 1) = (n : Int) := by rw [Int.add_sub_cancel] <;> exact IntWalk.i64_in _ (by omega)
      cases TO
      case false =>
        go_wp2_with fail
        go_ret
        exact ⟨rfl, GB.out⟩
      obtain ⟨_, t1, t2⟩ := RT.out rfl
      rw [Nat.add_sub_cancel] at t1 t2
      have RG := GP.out.loadable n (by omega)
      rw [t1, t2] at RG
      have hn0 : (0 : Int) ≤ (n : Int) := by omega
      have hn1 : (n : Int) < (n : Int) + 1 := by omega
      clear RT t1 t2 hLA
      go_wp2_with (first | (refine guard_at (isLoad 53) ?_ ?_; (· rfl); refine load_pair rfl 53 _ rfl g (n * 2) rfl [TC, TN] RG _ Try.underlying53 rfl ?_ ?_; (· kernel_rfl)) | (refine guard_at (isEql 53) ?_ ?_; (· rfl); refine eql_same rfl 53 _ _ _ rfl [TC, TN] ?_ ?_ HM2.out (eqPair _ _ rfl rfl) ?_; (· kernel_rfl); (· kernel_rfl)))
      go_ret
      exact ⟨rfl, GB.out⟩
end Go.Proofs.Ytlnbhopigjkkkaa.base
