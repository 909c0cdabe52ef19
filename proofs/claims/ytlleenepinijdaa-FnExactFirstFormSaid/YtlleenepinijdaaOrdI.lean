/-
  The first order that takes a rack to another one, on the program's side, walked.
-/
import Derived.Test.YtlleenepinijdaaOrdM
import Derived.Test.YtlleenepinijdaaContains
import Derived.Test.YtlleenepinijdaaEqR
import Derived.Test.YtlleenepinijdaaSixW
namespace Go.Proofs.Ytlleenepinijdaa.base
open Go.ChangeShapes Go.WideShapes Go.ChangeAt Go.RowKit
set_option linter.unusedVariables false
set_option linter.unusedSimpArgs false

theorem build6o (w : World) : (Instr.build 31 #[]).run Try.prog w = .ok (.agg (ints z6x).toArray) w := by kernel_rfl
theorem neq_is_run {P : Program} (ev : Operand → Value) (o : Oper) (T T2 : TypeId) (x y : Operand) (ho : o.op = .binOp .neq T x y T2) (xs ys : List Int) (hx : ev x = .agg (ints xs).toArray) (hy : ev y = .agg (ints ys).toArray)
    (hm : P.eqGuardType P.depth T = false) (hq : ∀ w, (Op.equalIn 10000 T (.agg (ints xs).toArray) (.agg (ints ys).toArray)).run P w = .ok (decide (xs = ys)) w) (b : Bool) (hb : (!decide (xs = ys)) = b) {w : World} :
    (execOp ev o).run P w = .ok (.value (.bool b)) w := by
  rw [← hb]; exact neq_run ev o T T2 x y ho xs ys hx hy hm hq
section
variable {P : Program} {ops : Array Oper} {rest : List Oper} {op : Oper} {a : Act} {w : World} {Q : Exit → Act → World → Prop}
theorem arrayAt_law (hw : Region.wanted op (yielded ops a.tmps) = true) (T e : TypeId) (n : Nat) (x : Operand) (ho : op.op = .sliceToArrayPointer T x) (hT : P.underlying T = some (.array n e)) (ad : Option Addr) (cap : Nat) (hx : a.eval x = .slice ad n cap)
    (h : wpList P ops Q rest (a.put op.dst (.pointer ad)) w) : wpList P ops Q (op :: rest) a w :=
  wpList_wanted hw fun _ hK => by
    unfold Oper.wp execOp
    simp only [ho, hx, Instr.arrayAt, Sem.run_bind, run_underlying hT, Result.andThen_ok, Sem.run_pure, Nat.lt_irrefl, if_false]
    exact hK _ _ h
end
/-- Where the first place fits, it is the first. -/
theorem fstFrom_is (a : List Int) (os : List Nat) (t : List Int) (q : Nat) (hq : q < 6) (hf : fits a os t q = true) (hn : ∀ j, j < q → fits a os t j = false) : fstAt a os t = q := by
  rcases fstAt_spec a os t with ⟨h1, h2⟩ | ⟨h1, h2, h3⟩
  · have := h2 q hq
    rw [hf] at this; cases this
  · rcases Nat.lt_trichotomy (fstAt a os t) q with g | g | g
    · have := hn _ g
      rw [h2] at this; cases this
    · exact g
    · have := h3 q g
      rw [hf] at this; cases this
theorem fstFrom_none (a : List Int) (os : List Nat) (t : List Int) (hn : ∀ j, j < 6 → fits a os t j = false) : fstAt a os t = 6 := by
  rcases fstAt_spec a os t with ⟨h1, _⟩ | ⟨h1, h2, _⟩
  · exact h1
  · have := hn _ h1
    rw [h2] at this; cases this
theorem fits_yes {a : List Int} {os : List Nat} {t : List Int} {q : Nat} (h1 : tub a q = t) (h2 : ¬ q ∈ os) : fits a os t q = true := by
  unfold fits; rw [decide_eq_true h1, decide_eq_false h2]; rfl
theorem fits_no1 {a : List Int} {os : List Nat} {t : List Int} {q : Nat} (h1 : ¬ tub a q = t) : fits a os t q = false := by
  unfold fits; rw [decide_eq_false h1]; rfl
theorem fits_no2 {a : List Int} {os : List Nat} {t : List Int} {q : Nat} (h2 : q ∈ os) : fits a os t q = false := by
  unfold fits; rw [decide_eq_true h2]; simp
theorem below_succ {a : List Int} {os : List Nat} {t : List Int} {q : Nat} (h : ∀ j, j < q → fits a os t j = false) (hq : fits a os t q = false) : ∀ j, j < q + 1 → fits a os t j = false := fun j hj => by
  by_cases e : j = q
  · exact e ▸ hq
  · exact h j (by omega)
theorem ordTo_last {a b : List Int} {k : Nat} (hk : k < 6) {os : List Nat} (ho : ordTo a b k = some os) (h : fstAt a os (tub b k) = 6) : ordTo a b 6 = none := by
  have e : ordTo a b (k + 1) = none := by rw [ordTo_succ ho, if_pos h]
  have up : ∀ d, k + 1 + d ≤ 6 → ordTo a b (k + 1 + d) = none := by
    intro d
    induction d with
    | zero => intro _; exact e
    | succ d ih => intro hd; exact ordTo_none (ih (by omega))
  have := up (6 - (k + 1)) (by omega)
  rwa [show k + 1 + (6 - (k + 1)) = 6 by omega] at this
theorem toOk_none {a b : List Int} (ha : a.length = 24) (hb : b.length = 24) (h : ordTo a b 6 = none) : toOk a b = false := by
  cases hc : toOk a b with
  | false => rfl
  | true =>
    unfold toOk at hc
    have hf := of_decide_eq_true (Bool.and_eq_true_iff.1 hc).2
    obtain ⟨os, ho⟩ := ordTo_some ha hb hf 6 (Nat.le_refl _)
    rw [ho] at h; cases h
theorem toR_no {a b : List Int} (h : toOk a b = false) : toR a b = z6x := by unfold toR; rw [h]; rfl
theorem toOk_not {a b : List Int} (h : ¬ (vR a = true ∧ vR b = true)) : toOk a b = false := by
  cases hc : toOk a b with
  | false => rfl
  | true => unfold toOk at hc; exact absurd (Bool.and_eq_true_iff.1 (Bool.and_eq_true_iff.1 hc).1) h
theorem toOk_yes {a b : List Int} (ha : a.length = 24) (hb : b.length = 24) (va : vR a = true) (vb : vR b = true) {os : List Nat} (ho : ordTo a b 6 = some os) : toOk a b = true ∧ toR a b = ni os := by
  have h : toOk a b = true := by unfold toOk; rw [va, vb, decide_eq_true (ordTo_form ha hb ho)]; rfl
  exact ⟨h, by unfold toR; rw [if_pos h, ho]; rfl⟩

end Go.Proofs.Ytlleenepinijdaa.base
