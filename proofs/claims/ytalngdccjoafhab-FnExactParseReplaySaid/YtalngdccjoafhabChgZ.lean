/-
  By how much a pour changes the runs, the boundaries and the bound, on both sides, walked.
-/
/-
  Pairs of a row that are kept, and good pours: plain mathematics.
-/
import Derived.Test.YtalngdccjoafhabBndSZ
import Derived.Test.YtalngdccjoafhabPMath
import Derived.Test.YtalngdccjoafhabBackMZ
import Derived.BigRegion

section
namespace Go.Proofs.Ytalngdccjoafhab.base
open Go.ChangeShapes Go.WideShapes Go.ChangeAt Go.RowKit
set_option linter.unusedVariables false
set_option linter.unusedSimpArgs false

theorem meas_in {ns : List Int} (h24 : ns.length = 24) (hv : vR ns = true) : (0 ≤ runsA ns ∧ runsA ns ≤ 24) ∧ (-6 ≤ edgeA ns ∧ edgeA ns ≤ 24) ∧ (-6 ≤ bndA ns ∧ bndA ns ≤ 49) := by
  have h1 := runUp_le h24 hv 6 (Nat.le_refl _)
  have h2 := edge_in h24 hv
  have h3 := bnd_in h24 hv 5
  unfold runsA edgeA bndA bndN
  rw [if_pos hv, if_pos hv, if_pos hv]
  omega
def meas (ns : List Int) : List Int := [runsA ns, edgeA ns, bndA ns]
def z3 : List Int := [0, 0, 0]
/-- The measures of one rack less those of another one, the first k of them. -/
def chgUp (m l : List Int) (k : Nat) : List Int := [if 0 < k then m.getD 0 0 - l.getD 0 0 else m.getD 0 0, if 1 < k then m.getD 1 0 - l.getD 1 0 else m.getD 1 0, if 2 < k then m.getD 2 0 - l.getD 2 0 else m.getD 2 0]
theorem chg_at (m l : List Int) (k : Nat) (hk : k < 3) : (chgUp m l k).getD k 0 = m.getD k 0 ∧ (chgUp m l k).set k (m.getD k 0 - l.getD k 0) = chgUp m l (k + 1) := by
  match k, hk with
  | 0, _ => exact ⟨rfl, rfl⟩
  | 1, _ => exact ⟨rfl, rfl⟩
  | 2, _ => exact ⟨rfl, rfl⟩
def chgA (ns : List Int) (i j : Int) : List Int := if pourOk ns i j = true then chgUp (meas (pourR ns i j)) (meas ns) 3 else z3
theorem chgA_len (ns : List Int) (i j : Int) : (chgA ns i j).length = 3 := by unfold chgA; split <;> rfl
theorem chgA_bnd {ns : List Int} {i j : Int} (h : pourOk ns i j = true) : (chgA ns i j).getD 2 0 = bndA (pourR ns i j) - bndA ns := by unfold chgA; rw [if_pos h]; rfl
theorem pourOk_v {ns : List Int} {i j : Int} (h : pourOk ns i j = true) : vR ns = true := by
  unfold pourOk twoOk at h
  simp only [Bool.and_eq_true] at h
  exact h.1.1.1.1
theorem Has.trip0 (w : World) (T : TypeId) : Has (w.alloc (.cells #[.int .i64 0, .int .i64 0, .int .i64 0] T)) w.heap.size z3 3 := Has.box (ns := z3) w T rfl (by decide)
theorem l6Runs_A (ns : List Int) (w : World) (h24 : ns.length = 24) (hv : vR ns = true) :
    Calls Try.prog 102 #[row ns] w fun e w' => e = .returned (.int .i64 (runsA ns)) ∧ Kept w w' :=
  (l6Runs_any ns w h24 hv).mono fun e w' h => ⟨by rw [h.1]; unfold runsA; rw [if_pos hv], h.2⟩
theorem l6Boundaries_A (ns : List Int) (w : World) (h24 : ns.length = 24) (hv : vR ns = true) :
    Calls Try.prog 84 #[row ns] w fun e w' => e = .returned (.int .i64 (edgeA ns)) ∧ Kept w w' :=
  (l6Boundaries_any ns w h24 hv).mono fun e w' h => ⟨by rw [h.1]; unfold edgeA; rw [if_pos hv], h.2⟩
theorem l6Bound_A (ns : List Int) (w : World) (h24 : ns.length = 24) (hv : vR ns = true) :
    Calls Try.prog 55 #[row ns] w fun e w' => e = .returned (.int .i64 (bndA ns)) ∧ Kept w w' :=
  (l6Bound_any ns w h24 hv).mono fun e w' h => ⟨by rw [h.1]; unfold bndA; rw [if_pos hv], h.2⟩

end Go.Proofs.Ytalngdccjoafhab.base
end

section
namespace Go.Proofs.Ytalngdccjoafhab.base
set_option linter.unusedVariables false
set_option linter.unusedSimpArgs false

/-- The pairs among the first k of a flat row of which P holds. -/
def filtF (P : Int → Int → Bool) (fs : List Int) : Nat → List Int
  | 0 => []
  | k + 1 => if P (fs.getD (k * 2) 0) (fs.getD (k * 2 + 1) 0) = true then filtF P fs k ++ [fs.getD (k * 2) 0, fs.getD (k * 2 + 1) 0] else filtF P fs k
def filtN (P : Int → Int → Bool) (fs : List Int) (k : Nat) : Nat := (filtF P fs k).length / 2
section
variable {P : Int → Int → Bool} {fs : List Int}
theorem filt_len : ∀ k, (filtF P fs k).length = filtN P fs k * 2
  | 0 => by unfold filtN; rw [filtF]; rfl
  | k + 1 => by
    have ih := filt_len k
    unfold filtN
    rw [filtF]
    split
    · rw [List.length_append]; simp; omega
    · unfold filtN at ih; exact ih
theorem filt_yes {k : Nat} (h : P (fs.getD (k * 2) 0) (fs.getD (k * 2 + 1) 0) = true) : filtF P fs (k + 1) = filtF P fs k ++ [fs.getD (k * 2) 0, fs.getD (k * 2 + 1) 0] ∧ filtN P fs (k + 1) = filtN P fs k + 1 := by
  have e : filtF P fs (k + 1) = filtF P fs k ++ [fs.getD (k * 2) 0, fs.getD (k * 2 + 1) 0] := by rw [filtF, if_pos h]
  refine ⟨e, ?_⟩
  have h1 := filt_len (P := P) (fs := fs) (k + 1)
  rw [e, List.length_append, filt_len] at h1
  simp at h1; omega
theorem filt_no {k : Nat} (h : P (fs.getD (k * 2) 0) (fs.getD (k * 2 + 1) 0) = false) : filtF P fs (k + 1) = filtF P fs k ∧ filtN P fs (k + 1) = filtN P fs k := by
  have e : filtF P fs (k + 1) = filtF P fs k := by rw [filtF, if_neg (by rw [h]; decide)]
  exact ⟨e, by unfold filtN; rw [e]⟩
theorem filtN_le : ∀ k, filtN P fs k ≤ k
  | 0 => by unfold filtN; rw [filtF]; simp
  | k + 1 => by
    have ih := filtN_le k
    cases h : P (fs.getD (k * 2) 0) (fs.getD (k * 2 + 1) 0) with
    | true => rw [(filt_yes h).2]; omega
    | false => rw [(filt_no h).2]; omega
/-- Where all are kept so far, the row is as it was. -/
theorem filt_all : ∀ k, k * 2 ≤ fs.length → (∀ j, j < k → P (fs.getD (j * 2) 0) (fs.getD (j * 2 + 1) 0) = true) → filtF P fs k = fs.take (k * 2) ∧ filtN P fs k = k
  | 0, _, _ => ⟨by rw [filtF]; simp, by unfold filtN; rw [filtF]; rfl⟩
  | k + 1, hk, h => by
    have ih := filt_all k (by omega) (fun j hj => h j (by omega))
    have y := filt_yes (h k (by omega))
    refine ⟨?_, by rw [y.2, ih.2]⟩
    rw [y.1, ih.1, show (k + 1) * 2 = k * 2 + 1 + 1 by omega, List.take_succ_eq_append_getElem (by omega : k * 2 + 1 < fs.length), List.take_succ_eq_append_getElem (by omega : k * 2 < fs.length), List.append_assoc,
      List.getD_eq_getElem?_getD, List.getD_eq_getElem?_getD, List.getElem?_eq_getElem (by omega : k * 2 < fs.length), List.getElem?_eq_getElem (by omega : k * 2 + 1 < fs.length)]
    rfl
theorem filt0 : filtF P fs 0 = [] ∧ filtN P fs 0 = 0 := ⟨rfl, by unfold filtN; rw [filtF]; rfl⟩
/-- What a row holds while it is filtered in place. -/
structure Half (P : Int → Int → Bool) (fs gs : List Int) (n q : Nat) : Prop where
  len : gs.length = n * 2
  less : filtN P fs q < q
  done : ∀ j, j < filtN P fs q * 2 → gs.getD j 0 = (filtF P fs q).getD j 0
  rest : ∀ j, q * 2 ≤ j → gs.getD j 0 = fs.getD j 0
theorem Half.skip {gs : List Int} {n q : Nat} (h : Half P fs gs n q) (hq : P (fs.getD (q * 2) 0) (fs.getD (q * 2 + 1) 0) = false) : Half P fs gs n (q + 1) := by
  have e := filt_no hq
  refine ⟨h.len, by rw [e.2]; have := h.less; omega, fun j hj => ?_, fun j hj => h.rest j (by omega)⟩
  rw [e.1]; rw [e.2] at hj; exact h.done j hj
theorem getD_set2 (gs : List Int) (k : Nat) (x y : Int) (j : Nat) (hk : k * 2 + 1 < gs.length) : ((gs.set (k * 2) x).set (k * 2 + 1) y).getD j 0 = if j = k * 2 then x else if j = k * 2 + 1 then y else gs.getD j 0 := by
  rw [List.getD_eq_getElem?_getD, List.getElem?_set, List.getElem?_set]
  by_cases h1 : k * 2 + 1 = j
  · subst h1
    rw [if_pos rfl, if_pos (by rw [List.length_set]; exact hk), if_neg (by omega), if_pos rfl]; rfl
  · rw [if_neg h1]
    by_cases h2 : k * 2 = j
    · subst h2
      rw [if_pos rfl, if_pos (by omega), if_pos rfl]; rfl
    · rw [if_neg h2, if_neg (fun e => h2 e.symm), if_neg (fun e => h1 e.symm), ← List.getD_eq_getElem?_getD]
theorem Half.keep {gs : List Int} {n q : Nat} (h : Half P fs gs n q) (hn : q < n) (hq : P (fs.getD (q * 2) 0) (fs.getD (q * 2 + 1) 0) = true) :
    Half P fs ((gs.set (filtN P fs q * 2) (fs.getD (q * 2) 0)).set (filtN P fs q * 2 + 1) (fs.getD (q * 2 + 1) 0)) n (q + 1) := by
  have e := filt_yes hq
  have hl := h.less
  have hlen := h.len
  have hF := filt_len (P := P) (fs := fs) q
  refine ⟨by rw [List.length_set, List.length_set]; exact h.len, by rw [e.2]; omega, fun j hj => ?_, fun j hj => ?_⟩
  · rw [getD_set2 _ _ _ _ _ (by omega), e.1]
    rw [e.2] at hj
    by_cases h1 : j = filtN P fs q * 2
    · subst h1
      rw [if_pos rfl, List.getD_eq_getElem?_getD (l := filtF P fs q ++ _), List.getElem?_append_right (by omega), hF, Nat.sub_self]; rfl
    · rw [if_neg h1]
      by_cases h2 : j = filtN P fs q * 2 + 1
      · subst h2
        rw [if_pos rfl, List.getD_eq_getElem?_getD (l := filtF P fs q ++ _), List.getElem?_append_right (by omega), hF, Nat.add_sub_cancel_left]; rfl
      · rw [if_neg h2, h.done j (by omega), List.getD_eq_getElem?_getD, List.getD_eq_getElem?_getD, List.getElem?_append_left (by omega)]
  · rw [getD_set2 _ _ _ _ _ (by omega), if_neg (by omega), if_neg (by omega)]
    exact h.rest j (by omega)
/-- The first pair that is not kept. -/
theorem Half.start {n k : Nat} (hl : fs.length = n * 2) (hk : k < n) (ha : ∀ j, j < k → P (fs.getD (j * 2) 0) (fs.getD (j * 2 + 1) 0) = true) (hb : P (fs.getD (k * 2) 0) (fs.getD (k * 2 + 1) 0) = false) : Half P fs fs n (k + 1) ∧ filtN P fs (k + 1) = k := by
  have e := filt_all k (by omega) ha
  have d := filt_no hb
  refine ⟨⟨hl, by rw [d.2, e.2]; omega, fun j hj => ?_, fun _ _ => rfl⟩, by rw [d.2, e.2]⟩
  rw [d.1, e.1]
  rw [d.2, e.2] at hj
  rw [List.getD_eq_getElem?_getD, List.getD_eq_getElem?_getD, List.getElem?_take, if_pos hj]
end

/-- A pour is good. -/
def goodP (ns : List Int) (x y : Int) : Bool := pourOk ns x y && decide (bndA (pourR ns x y) < bndA ns)
def goodF (ns : List Int) : List Int := filtF (goodP ns) (poursFA ns) (poursNA ns)
def goodN (ns : List Int) : Nat := filtN (goodP ns) (poursFA ns) (poursNA ns)
theorem goodN_le (ns : List Int) : goodN ns ≤ 36 := by
  have h1 := filtN_le (P := goodP ns) (fs := poursFA ns) (poursNA ns)
  have h2 := poursNA_le ns
  unfold goodN; omega
theorem good_len (ns : List Int) : (goodF ns).length = goodN ns * 2 := filt_len _
theorem good_not {ns : List Int} (h : vR ns = false) : goodN ns = 0 ∧ goodF ns = [] := by
  unfold goodN goodF poursNA poursFA
  rw [h]; exact ⟨filt0.2, filt0.1⟩
/-- The pours that are listed can be poured. -/
theorem pourk_ok {ns : List Int} (hv : vR ns = true) {k : Nat} (hk : k < poursN ns 36) : pourOk ns ((poursF ns 36).getD (k * 2) 0) ((poursF ns 36).getD (k * 2 + 1) 0) = true ∧
    fstP ns k ≠ sndP ns k := by
  have hl := poursF_len ns 36
  obtain ⟨k', _, hc, h1, h2⟩ := (in_poursF ns _ _ 36).1 ⟨k, by omega, rfl, rfl⟩
  have hp : fstP ns k = k' / 6 := by unfold fstP; rw [h1]; rfl
  have hq : sndP ns k = k' % 6 := by unfold sndP; rw [h2]; rfl
  have hlt := pour_k ns k hk
  rw [hp, hq] at hlt
  refine ⟨?_, by rw [hp, hq]; exact hc.1⟩
  rw [h1, h2]
  have hpi : ((k' / 6 : Nat) : Int) < 6 := by omega
  have hqi : ((k' % 6 : Nat) : Int) < 6 := by omega
  have hne : ((k' / 6 : Nat) : Int) ≠ ((k' % 6 : Nat) : Int) := fun e => hc.1 (by omega)
  unfold pourOk twoOk
  rw [hv, decide_eq_true (show (0 : Int) ≤ ((k' / 6 : Nat) : Int) ∧ ((k' / 6 : Nat) : Int) < 6 from ⟨by omega, hpi⟩), decide_eq_true (show (0 : Int) ≤ ((k' % 6 : Nat) : Int) ∧ ((k' % 6 : Nat) : Int) < 6 from ⟨by omega, hqi⟩), decide_eq_true hne]
  rw [Int.toNat_natCast, Int.toNat_natCast]
  simp only [Bool.true_and]
  exact decide_eq_true hc.2
end Go.Proofs.Ytalngdccjoafhab.base
end
