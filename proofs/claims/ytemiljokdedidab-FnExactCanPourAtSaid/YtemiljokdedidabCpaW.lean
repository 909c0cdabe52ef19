/-
  What can be poured by a view, on both sides, and its law, walked.
-/
import Derived.Test.YtemiljokdedidabMadV
import Derived.Test.YtemiljokdedidabCandW
import Derived.Test.YtemiljokdedidabCan2
namespace Go.Proofs.Ytemiljokdedidab.base
open Go.ChangeShapes Go.WideShapes Go.ChangeAt Go.RowKit
set_option linter.unusedVariables false
set_option linter.unusedSimpArgs false

def twoB (i j : Int) : Bool := decide (0 ≤ i ∧ i < 6) && decide (0 ≤ j ∧ j < 6) && decide (i ≠ j)
def cpaOk (vs : List Int) (i j : Int) : Bool := vV vs && twoB i j
def cpaA (vs : List Int) (i j : Int) : Bool := cpaOk vs i j && canV vs i.toNat j.toNat
theorem cand_col {vs : List Int} (h : vs.length = 18) (hv : vV vs = true) (r : Nat) (hr : r < ordA (hid vs)) : ColL (ordL (hid vs) r (offB vs 6)) (offB vs 6) := fun k hk => by
  obtain ⟨hS, _⟩ := cand_stk h hv
  have P := colAt_ok hS hr k hk
  rw [ordL_getD _ _ _ _ hk]
  have := P.lo
  have := P.hi
  omega
theorem first_valid {vs : List Int} (h : vs.length = 18) (hv : vV vs = true) : vR (firstR vs) = true ∧ ∀ i j, i < 6 → j < 6 → i ≠ j → decide (0 < canN (tub (firstR vs) i) (tub (firstR vs) j)) = canV vs i j := by
  have F := viewFacts h hv
  have hc := cand_col h hv 0 (cand_stk h hv).1.pos
  have e : firstR vs = madR vs (ordL (hid vs) 0 (offB vs 6)) 6 := by unfold firstR; rw [if_pos hv]; rfl
  rw [e]
  exact ⟨madR_valid F.tops hc, fun i j hi hj hne => can_mad F.tops hc i j hi hj hne⟩
theorem cpa_first {vs : List Int} (h : vs.length = 18) (hv : vV vs = true) (i j : Int) : canA (firstR vs) i j = cpaA vs i j ∧ twoOk (firstR vs) i j = cpaOk vs i j := by
  obtain ⟨h1, h2⟩ := first_valid h hv
  have e : twoOk (firstR vs) i j = cpaOk vs i j := by
    unfold twoOk cpaOk twoB
    rw [h1, hv]
    simp only [Bool.true_and]
  refine ⟨?_, e⟩
  unfold canA cpaA
  rw [e]
  by_cases ho : cpaOk vs i j = true
  · unfold cpaOk twoB at ho
    simp only [Bool.and_eq_true, decide_eq_true_eq] at ho
    rw [h2 i.toNat j.toNat (by omega) (by omega) (by omega)]
  · have hf : cpaOk vs i j = false := by simpa using ho
    rw [hf]; rfl
theorem cpa_not {vs : List Int} {i j : Int} (h : ¬ (vV vs = true ∧ (0 ≤ i ∧ i < 6) ∧ (0 ≤ j ∧ j < 6) ∧ i ≠ j)) : cpaOk vs i j = false ∧ cpaA vs i j = false := by
  have : cpaOk vs i j = false := by
    cases hb : cpaOk vs i j with
    | false => rfl
    | true =>
      unfold cpaOk twoB at hb
      simp only [Bool.and_eq_true, decide_eq_true_eq] at hb
      exact absurd ⟨hb.1, hb.2.1.1, hb.2.1.2, hb.2.2⟩ h
  refine ⟨this, ?_⟩
  unfold cpaA; rw [this]; rfl
theorem cpa_yes {vs : List Int} {p q : Nat} (hv : vV vs = true) (hp : p < 6) (hq : q < 6) (hne : p ≠ q) : cpaOk vs p q = true ∧ cpaA vs p q = canV vs p q := by
  have : cpaOk vs p q = true := by
    unfold cpaOk twoB
    simp only [Bool.and_eq_true, decide_eq_true_eq]
    exact ⟨hv, ⟨by omega, by omega⟩, by omega⟩
  refine ⟨this, ?_⟩
  unfold cpaA; rw [this, Int.toNat_natCast, Int.toNat_natCast]; rfl

set_option maxHeartbeats 800000 in
theorem implCpa (vs : List Int) (i j : Int) (w : World) (h : vs.length = 18) :
    Calls Try.prog 28 #[row vs, .int .i64 i, .int .i64 j] w fun e w' => e = .returned (.tuple #[.bool (cpaA vs i j), .bool (cpaOk vs i j)]) ∧ Kept w w' := by
  have H := Has.box w 31 h (by omega)
  have HB := Lib.hid ((kept_refl w).alloc (.cells (ints vs).toArray 31))
  rw [row_ints]
  go_enter Try.func28, Try.ntmps28
  go_wp2_with (refine load_has rfl 31 _ rfl _ rfl ?_ 18 ?_ _ Try.underlying31 rfl ?_ ?_; rotate_left; (· (repeat (first | (with_reducible assumption) | ((with_reducible refine Has.box _ _ ?_ ?_) <;> (first | assumption | decide)) | (with_reducible refine Has.alloc ?_ _) | ((with_reducible refine Has.putOther ?_ _ _ ?_); rotate_left; omega; skip) | ((with_reducible refine Has.below ?_ ?_); rotate_left; assumption)))); (· kernel_rfl))
  refine (implFirst vs _ h).mono ?_
  rintro e w1 ⟨rfl, b1⟩
  have lf := firstR_len h
  have R1 := Has.box w1 28 lf (by omega)
  have HB1 := Lib.hid ((HB.out.call b1).alloc (.cells (ints (firstR vs)).toArray 28))
  clear H HB b1
  by_cases hv : vV vs = true
  · have E := Lib.hid (cpa_first h hv i j)
    rw [hv]
    clear hv
    generalize hfr : firstR vs = fr at *
    go_wp2_with (first | (refine store_new rfl 28 _ _ rfl _ _ _ rfl _ rfl _ rfl rfl ?_ ?_ ?_; (· (first | assumption | rfl)); (· kernel_rfl)) | (refine load_has rfl 28 _ rfl _ rfl ?_ 24 ?_ _ Try.underlying28 rfl ?_ ?_; rotate_left; (· (repeat (first | (with_reducible assumption) | ((with_reducible refine Has.box _ _ ?_ ?_) <;> (first | assumption | decide)) | (with_reducible refine Has.alloc ?_ _) | ((with_reducible refine Has.putOther ?_ _ _ ?_); rotate_left; omega; skip) | ((with_reducible refine Has.below ?_ ?_); rotate_left; assumption)))); (· kernel_rfl)))
    refine (implCanPour fr i j _ lf).mono ?_
    rintro e w3 ⟨rfl, b3⟩
    have HB3 := Lib.hid (HB1.out.call b3)
    clear b3 R1 HB1
    go_wp2_with fail
    go_ret2
    exact ⟨by rw [← E.out.1, ← E.out.2]; rfl, HB3.out⟩
  · have hf : vV vs = false := by simpa using hv
    have O := Lib.hid (cpa_not (vs := vs) (i := i) (j := j) (fun hh => hv hh.1))
    rw [hf]
    clear hf hv
    generalize hfr : firstR vs = fr at *
    go_wp2_with (first | (refine store_new rfl 28 _ _ rfl _ _ _ rfl _ rfl _ rfl rfl ?_ ?_ ?_; (· (first | assumption | rfl)); (· kernel_rfl)))
    go_ret2
    exact ⟨by rw [O.out.1, O.out.2]; rfl, HB1.out⟩

set_option maxHeartbeats 1600000 in
theorem l7Can_any (vs : List Int) (i j : Nat) (w : World) (h : vs.length = 18) (hi : i < 6) (hj : j < 6) :
    Calls Try.prog 60 #[row vs, .int .i64 i, .int .i64 j] w fun e w' => e = .returned (.bool (canV vs i j)) ∧ Kept w w' := by
  have H := Has.box w 31 h (by omega)
  have HB := Lib.hid ((kept_refl w).alloc (.cells (ints vs).toArray 31))
  have EV : Hid (canV vs i j = (decide (i ≠ j) && decide (0 < vMany vs i) && decide (vMany vs j < 4) && (decide (vMany vs j = 0) || decide (vTop vs i = vTop vs j)))) := Lib.hid rfl
  have ci := H.mCellX i hi rfl
  have cj := H.mCellX j hj rfl
  have ti := H.tCell i hi
  have tj := H.tCell j hj
  have hii : (i : Int) < 6 := by omega
  have hjj : (j : Int) < 6 := by omega
  have hi0 : (0 : Int) ≤ (i : Int) := by omega
  have hj0 : (0 : Int) ≤ (j : Int) := by omega
  rw [row_ints]
  go_enter Try.func60, Try.ntmps60
  go_upto_region 1 with fail
  generalize w.alloc (.cells (ints vs).toArray 31) = W at *
  generalize vMany vs i = mi at *
  generalize vMany vs j = mj at *
  generalize vTop vs i = a at *
  generalize vTop vs j = b at *
  clear H h
  by_cases hij : i = j
  · have e0 := Lib.hid (decide_eq_false (show ¬ i ≠ j from fun h => h hij))
    have q1 : ((i : Int) == (j : Int)) = true := by simp; omega
    have q2 : ((i : Int) != (j : Int)) = false := by simp; omega
    clear hij
    go_quiet (fail)
    have HB2 := Lib.hid (HB.out.drewN nq)
    go_wp2_with fail
    go_ret
    exact ⟨by rw [EV.out, e0.out]; rfl, HB2.out⟩
  have e0 := Lib.hid (decide_eq_true (show i ≠ j from hij))
  have q1 : ((i : Int) == (j : Int)) = false := by simp; omega
  have q2 : ((i : Int) != (j : Int)) = true := by simp; omega
  have q3 : (i == j) = false := by simpa using hij
  have q4 : (i != j) = true := by simpa using hij
  clear hij
  by_cases h1 : 0 < mi
  rotate_left
  · have e1 := Lib.hid (decide_eq_false h1)
    have d1 : decide (0 < mi) = false := decide_eq_false h1
    clear h1
    go_quiet (fail)
    have HB2 := Lib.hid (HB.out.drewN nq)
    go_wp2_with fail
    go_ret
    exact ⟨by rw [EV.out, e0.out, e1.out]; rfl, HB2.out⟩
  have e1 := Lib.hid (decide_eq_true h1)
  have d1 : decide (0 < mi) = true := decide_eq_true h1
  clear h1
  by_cases h2 : mj < 4
  rotate_left
  · have e2 := Lib.hid (decide_eq_false h2)
    have d2 : decide (mj < 4) = false := decide_eq_false h2
    clear h2
    go_quiet (fail)
    have HB2 := Lib.hid (HB.out.drewN nq)
    go_wp2_with fail
    go_ret
    exact ⟨by rw [EV.out, e0.out, e1.out, e2.out]; rfl, HB2.out⟩
  have e2 := Lib.hid (decide_eq_true h2)
  have d2 : decide (mj < 4) = true := decide_eq_true h2
  clear h2
  by_cases h3 : mj = 0
  · have e3 := Lib.hid (decide_eq_true h3)
    have d3 : (mj == 0) = true := by simpa using h3
    clear h3
    go_quiet (fail)
    have HB2 := Lib.hid (HB.out.drewN nq)
    go_wp2_with fail
    go_ret
    exact ⟨by rw [EV.out, e0.out, e1.out, e2.out, e3.out]; rfl, HB2.out⟩
  have e3 := Lib.hid (decide_eq_false h3)
  have d3 : (mj == 0) = false := by simpa using h3
  clear h3
  by_cases h4 : a = b
  · have e4 := Lib.hid (decide_eq_true h4)
    have d4 : (a == b) = true := by simpa using h4
    clear h4
    go_quiet (fail)
    have HB2 := Lib.hid (HB.out.drewN nq)
    go_wp2_with fail
    go_ret
    exact ⟨by rw [EV.out, e0.out, e1.out, e2.out, e3.out, e4.out]; rfl, HB2.out⟩
  · have e4 := Lib.hid (decide_eq_false h4)
    have d4 : (a == b) = false := by simpa using h4
    clear h4
    go_quiet (fail)
    have HB2 := Lib.hid (HB.out.drewN nq)
    go_wp2_with fail
    go_ret
    exact ⟨by rw [EV.out, e0.out, e1.out, e2.out, e3.out, e4.out]; rfl, HB2.out⟩
set_option maxHeartbeats 800000 in
theorem specCpa (vs : List Int) (i j : Int) (w : World) (h : vs.length = 18) (hw : Wf vs) :
    Calls Try.prog 27 #[row vs, .int .i64 i, .int .i64 j] w fun e w' => e = .returned (.tuple #[.bool (cpaA vs i j), .bool (cpaOk vs i j)]) ∧ Kept w w' := by
  have H := Has.box w 31 h (by omega)
  have HB := Lib.hid ((kept_refl w).alloc (.cells (ints vs).toArray 31))
  rw [row_ints]
  go_enter Try.func27, Try.ntmps27
  go_wp2_with (refine load_has rfl 31 _ rfl _ rfl ?_ 18 ?_ _ Try.underlying31 rfl ?_ ?_; rotate_left; (· (repeat (first | (with_reducible assumption) | ((with_reducible refine Has.box _ _ ?_ ?_) <;> (first | assumption | decide)) | (with_reducible refine Has.alloc ?_ _) | ((with_reducible refine Has.putOther ?_ _ _ ?_); rotate_left; omega; skip) | ((with_reducible refine Has.below ?_ ?_); rotate_left; assumption)))); (· kernel_rfl))
  refine (l7Good_any vs _ h hw).mono ?_
  rintro e w1 ⟨rfl, b1⟩
  have H1 := H.below b1
  have HB1 := Lib.hid (HB.out.call b1)
  clear H HB b1
  by_cases hv : vV vs = true
  rotate_left
  · have hf : vV vs = false := by simpa using hv
    rw [hf]
    have O := Lib.hid (cpa_not (vs := vs) (i := i) (j := j) (fun hh => hv hh.1))
    clear hv hf
    go_wp2_with fail
    go_ret2
    exact ⟨by rw [O.out.1, O.out.2]; rfl, HB1.out⟩
  rw [hv]
  have HV := Lib.hid hv
  clear hv
  go_wp2_with fail
  refine (l2Place_any i _).mono ?_
  rintro e w' ⟨rfl, rfl⟩
  by_cases hp : 0 ≤ i ∧ i < 6
  rotate_left
  · rw [decide_eq_false hp]
    have O := Lib.hid (cpa_not (vs := vs) (i := i) (j := j) (fun hh => hp hh.2.1))
    clear hp
    go_wp2_with fail
    go_ret2
    exact ⟨by rw [O.out.1, O.out.2]; rfl, HB1.out⟩
  rw [decide_eq_true hp]
  go_wp2_with fail
  refine (l2Place_any j _).mono ?_
  rintro e w' ⟨rfl, rfl⟩
  by_cases hq : 0 ≤ j ∧ j < 6
  rotate_left
  · rw [decide_eq_false hq]
    have O := Lib.hid (cpa_not (vs := vs) (i := i) (j := j) (fun hh => hq hh.2.2.1))
    clear hq hp
    go_wp2_with fail
    go_ret2
    exact ⟨by rw [O.out.1, O.out.2]; rfl, HB1.out⟩
  rw [decide_eq_true hq]
  by_cases hij : i = j
  · have q1 : (i == j) = true := by simpa using hij
    have O := Lib.hid (cpa_not (vs := vs) (i := i) (j := j) (fun hh => hh.2.2.2 hij))
    clear hq hp hij
    go_wp2_with fail
    go_ret2
    exact ⟨by rw [O.out.1, O.out.2]; rfl, HB1.out⟩
  have q1 : (i == j) = false := by simpa using hij
  obtain ⟨a, rfl⟩ : ∃ a : Nat, i = (a : Int) := ⟨i.toNat, by omega⟩
  obtain ⟨b, rfl⟩ : ∃ b : Nat, j = (b : Int) := ⟨j.toNat, by omega⟩
  have OY := Lib.hid (cpa_yes (p := a) (q := b) HV.out (by omega) (by omega) (by omega))
  have K := Lib.hid (fun W => l7Can_any vs a b W h (by omega) (by omega))
  have q2 : (a == b) = false := by simp; omega
  clear hp hq hij
  go_wp2_with (refine load_has rfl 31 _ rfl _ rfl ?_ 18 ?_ _ Try.underlying31 rfl ?_ ?_; rotate_left; (· (repeat (first | (with_reducible assumption) | ((with_reducible refine Has.box _ _ ?_ ?_) <;> (first | assumption | decide)) | (with_reducible refine Has.alloc ?_ _) | ((with_reducible refine Has.putOther ?_ _ _ ?_); rotate_left; omega; skip) | ((with_reducible refine Has.below ?_ ?_); rotate_left; assumption)))); (· kernel_rfl))
  refine (K.out _).mono ?_
  rintro e w3 ⟨rfl, b3⟩
  have HB3 := Lib.hid (HB1.out.call b3)
  clear b3 H1 HB1
  go_wp2_with fail
  go_ret2
  exact ⟨by rw [OY.out.1, OY.out.2]; rfl, HB3.out⟩
set_option maxHeartbeats 400000 in
theorem lawCanPourAt (vs : List Int) (i : Int) (j : Int) (w : World) (h0 : vs.length = 18 ∧ ∀ n ∈ vs, (Lit.int .i64 n).wf = true) (fi : (Lit.int .i64 i).wf = true) (fj : (Lit.int .i64 j).wf = true) :
    Calls Try.prog 9 #[row vs, .int .i64 i, .int .i64 j] w fun e w' => e = .returned (.bool true) ∧ Kept w w' := by
  obtain ⟨h, hw⟩ := h0
  have wi := wf_in fi
  have wj := wf_in fj
  have HB := Lib.hid ((kept_refl w).alloc (.cells (ints vs).toArray 24))
  have H := Has.box w 24 h (by omega)
  have KS := Lib.hid (fun _W => specCpa vs i j _W h hw)
  have KI := Lib.hid (fun _W => implCpa vs i j _W h)
  clear hw fi fj
  rw [row_ints]
  go_enter Try.func9, Try.ntmps9
  go_wp2_with (refine load_has rfl 24 _ rfl _ rfl ?_ 18 ?_ _ Try.underlying24 rfl ?_ ?_; rotate_left; (· (repeat (first | (with_reducible assumption) | ((with_reducible refine Has.box _ _ ?_ ?_) <;> (first | assumption | decide)) | (with_reducible refine Has.alloc ?_ _) | ((with_reducible refine Has.putOther ?_ _ _ ?_); rotate_left; omega; skip) | ((with_reducible refine Has.below ?_ ?_); rotate_left; assumption)))); (· kernel_rfl))
  refine (toView_any vs _ h).mono ?_
  rintro e w1 ⟨rfl, b1⟩
  have H1 := H.below b1
  have HB1 := Lib.hid (HB.out.call b1)
  clear H HB b1
  go_wp2_with fail
  refine (KS.out _).mono ?_
  rintro e w2 ⟨rfl, b2⟩
  have H2 := H1.below b2
  have HB2 := Lib.hid (HB1.out.call b2)
  clear H1 HB1 b2
  go_wp2_with (refine load_has rfl 24 _ rfl _ rfl ?_ 18 ?_ _ Try.underlying24 rfl ?_ ?_; rotate_left; (· (repeat (first | (with_reducible assumption) | ((with_reducible refine Has.box _ _ ?_ ?_) <;> (first | assumption | decide)) | (with_reducible refine Has.alloc ?_ _) | ((with_reducible refine Has.putOther ?_ _ _ ?_); rotate_left; omega; skip) | ((with_reducible refine Has.below ?_ ?_); rotate_left; assumption)))); (· kernel_rfl))
  refine (toView_any vs _ h).mono ?_
  rintro e w3 ⟨rfl, b3⟩
  have HB3 := Lib.hid (HB2.out.call b3)
  clear H2 HB2 b3
  go_wp2_with fail
  refine (KI.out _).mono ?_
  rintro e w4 ⟨rfl, b4⟩
  have HB4 := Lib.hid (HB3.out.call b4)
  clear HB3 b4
  go_wp2_with fail
  go_ret
  exact ⟨rfl, HB4.out⟩
end Go.Proofs.Ytemiljokdedidab.base
