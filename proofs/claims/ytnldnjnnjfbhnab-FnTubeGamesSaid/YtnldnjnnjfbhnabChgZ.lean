/-
  By how much a pour changes the runs, the boundaries and the bound, on both sides, walked.
-/
/-
  Pairs of a row that are kept, and good pours: plain mathematics.
-/
/-
  Pours of a list, one behind the other: plain mathematics.
-/
/-
  Paths of pours: plain mathematics.
-/
import Derived.Test.YtnldnjnnjfbhnabCountZ
import Derived.Test.YtnldnjnnjfbhnabPMath
import Derived.Test.YtnldnjnnjfbhnabBackMZ
import Derived.BigRegion
import Derived.Test.YtnldnjnnjfbhnabPourMZ

section
namespace Go.Proofs.Ytnldnjnnjfbhnab.base
open Go.ChangeShapes Go.WideShapes Go.ChangeAt Go.RowKit
set_option linter.unusedVariables false
set_option linter.unusedSimpArgs false

theorem meas_in {ns : List Int} (h24 : ns.length = 24) (hv : vR ns = true) : (0 ≤ runsA ns ∧ runsA ns ≤ 24) ∧ (-6 ≤ edgeA ns ∧ edgeA ns ≤ 24) ∧ (-6 ≤ bndA ns ∧ bndA ns ≤ 49) := by
  have h1 := runUp_le h24 hv 6 (Nat.le_refl _)
  have h2 := edge_in h24 hv
  have h3 := bnd_in h24 hv 5
  unfold runsA edgeA bndA bndN
  rw [if_pos hv, if_pos hv, if_pos hv]
  omega
def meas (ns : List Int) : List Int := [runsA ns, edgeA ns, bndA ns]
def z3 : List Int := [0, 0, 0]
/-- The measures of one rack less those of another one, the first k of them. -/
def chgUp (m l : List Int) (k : Nat) : List Int := [if 0 < k then m.getD 0 0 - l.getD 0 0 else m.getD 0 0, if 1 < k then m.getD 1 0 - l.getD 1 0 else m.getD 1 0, if 2 < k then m.getD 2 0 - l.getD 2 0 else m.getD 2 0]
theorem chg_at (m l : List Int) (k : Nat) (hk : k < 3) : (chgUp m l k).getD k 0 = m.getD k 0 ∧ (chgUp m l k).set k (m.getD k 0 - l.getD k 0) = chgUp m l (k + 1) := by
  match k, hk with
  | 0, _ => exact ⟨rfl, rfl⟩
  | 1, _ => exact ⟨rfl, rfl⟩
  | 2, _ => exact ⟨rfl, rfl⟩
def chgA (ns : List Int) (i j : Int) : List Int := if pourOk ns i j = true then chgUp (meas (pourR ns i j)) (meas ns) 3 else z3
theorem chgA_len (ns : List Int) (i j : Int) : (chgA ns i j).length = 3 := by unfold chgA; split <;> rfl
theorem chgA_bnd {ns : List Int} {i j : Int} (h : pourOk ns i j = true) : (chgA ns i j).getD 2 0 = bndA (pourR ns i j) - bndA ns := by unfold chgA; rw [if_pos h]; rfl
theorem pourOk_v {ns : List Int} {i j : Int} (h : pourOk ns i j = true) : vR ns = true := by
  unfold pourOk twoOk at h
  simp only [Bool.and_eq_true] at h
  exact h.1.1.1.1
theorem Has.trip0 (w : World) (T : TypeId) : Has (w.alloc (.cells #[.int .i64 0, .int .i64 0, .int .i64 0] T)) w.heap.size z3 3 := Has.box (ns := z3) w T rfl (by decide)
theorem l6Runs_A (ns : List Int) (w : World) (h24 : ns.length = 24) (hv : vR ns = true) :
    Calls Try.prog 92 #[row ns] w fun e w' => e = .returned (.int .i64 (runsA ns)) ∧ Kept w w' :=
  (l6Runs_any ns w h24 hv).mono fun e w' h => ⟨by rw [h.1]; unfold runsA; rw [if_pos hv], h.2⟩
theorem l6Boundaries_A (ns : List Int) (w : World) (h24 : ns.length = 24) (hv : vR ns = true) :
    Calls Try.prog 90 #[row ns] w fun e w' => e = .returned (.int .i64 (edgeA ns)) ∧ Kept w w' :=
  (l6Boundaries_any ns w h24 hv).mono fun e w' h => ⟨by rw [h.1]; unfold edgeA; rw [if_pos hv], h.2⟩
theorem l6Bound_A (ns : List Int) (w : World) (h24 : ns.length = 24) (hv : vR ns = true) :
    Calls Try.prog 88 #[row ns] w fun e w' => e = .returned (.int .i64 (bndA ns)) ∧ Kept w w' :=
  (l6Bound_any ns w h24 hv).mono fun e w' h => ⟨by rw [h.1]; unfold bndA; rw [if_pos hv], h.2⟩

end Go.Proofs.Ytnldnjnnjfbhnab.base
end

section
namespace Go.Proofs.Ytnldnjnnjfbhnab.base
set_option linter.unusedVariables false
set_option linter.unusedSimpArgs false

/-- The pairs among the first k of a flat row of which P holds. -/
def filtF (P : Int → Int → Bool) (fs : List Int) : Nat → List Int
  | 0 => []
  | k + 1 => if P (fs.getD (k * 2) 0) (fs.getD (k * 2 + 1) 0) = true then filtF P fs k ++ [fs.getD (k * 2) 0, fs.getD (k * 2 + 1) 0] else filtF P fs k
def filtN (P : Int → Int → Bool) (fs : List Int) (k : Nat) : Nat := (filtF P fs k).length / 2
section
variable {P : Int → Int → Bool} {fs : List Int}
theorem filt_len : ∀ k, (filtF P fs k).length = filtN P fs k * 2
  | 0 => by unfold filtN; rw [filtF]; rfl
  | k + 1 => by
    have ih := filt_len k
    unfold filtN
    rw [filtF]
    split
    · rw [List.length_append]; simp; omega
    · unfold filtN at ih; exact ih
theorem filt_yes {k : Nat} (h : P (fs.getD (k * 2) 0) (fs.getD (k * 2 + 1) 0) = true) : filtF P fs (k + 1) = filtF P fs k ++ [fs.getD (k * 2) 0, fs.getD (k * 2 + 1) 0] ∧ filtN P fs (k + 1) = filtN P fs k + 1 := by
  have e : filtF P fs (k + 1) = filtF P fs k ++ [fs.getD (k * 2) 0, fs.getD (k * 2 + 1) 0] := by rw [filtF, if_pos h]
  refine ⟨e, ?_⟩
  have h1 := filt_len (P := P) (fs := fs) (k + 1)
  rw [e, List.length_append, filt_len] at h1
  simp at h1; omega
theorem filt_no {k : Nat} (h : P (fs.getD (k * 2) 0) (fs.getD (k * 2 + 1) 0) = false) : filtF P fs (k + 1) = filtF P fs k ∧ filtN P fs (k + 1) = filtN P fs k := by
  have e : filtF P fs (k + 1) = filtF P fs k := by rw [filtF, if_neg (by rw [h]; decide)]
  exact ⟨e, by unfold filtN; rw [e]⟩
theorem filtN_le : ∀ k, filtN P fs k ≤ k
  | 0 => by unfold filtN; rw [filtF]; simp
  | k + 1 => by
    have ih := filtN_le k
    cases h : P (fs.getD (k * 2) 0) (fs.getD (k * 2 + 1) 0) with
    | true => rw [(filt_yes h).2]; omega
    | false => rw [(filt_no h).2]; omega
/-- Where all are kept so far, the row is as it was. -/
theorem filt_all : ∀ k, k * 2 ≤ fs.length → (∀ j, j < k → P (fs.getD (j * 2) 0) (fs.getD (j * 2 + 1) 0) = true) → filtF P fs k = fs.take (k * 2) ∧ filtN P fs k = k
  | 0, _, _ => ⟨by rw [filtF]; simp, by unfold filtN; rw [filtF]; rfl⟩
  | k + 1, hk, h => by
    have ih := filt_all k (by omega) (fun j hj => h j (by omega))
    have y := filt_yes (h k (by omega))
    refine ⟨?_, by rw [y.2, ih.2]⟩
    rw [y.1, ih.1, show (k + 1) * 2 = k * 2 + 1 + 1 by omega, List.take_succ_eq_append_getElem (by omega : k * 2 + 1 < fs.length), List.take_succ_eq_append_getElem (by omega : k * 2 < fs.length), List.append_assoc,
      List.getD_eq_getElem?_getD, List.getD_eq_getElem?_getD, List.getElem?_eq_getElem (by omega : k * 2 < fs.length), List.getElem?_eq_getElem (by omega : k * 2 + 1 < fs.length)]
    rfl
theorem filt0 : filtF P fs 0 = [] ∧ filtN P fs 0 = 0 := ⟨rfl, by unfold filtN; rw [filtF]; rfl⟩
/-- What a row holds while it is filtered in place. -/
structure Half (P : Int → Int → Bool) (fs gs : List Int) (n q : Nat) : Prop where
  len : gs.length = n * 2
  less : filtN P fs q < q
  done : ∀ j, j < filtN P fs q * 2 → gs.getD j 0 = (filtF P fs q).getD j 0
  rest : ∀ j, q * 2 ≤ j → gs.getD j 0 = fs.getD j 0
theorem Half.skip {gs : List Int} {n q : Nat} (h : Half P fs gs n q) (hq : P (fs.getD (q * 2) 0) (fs.getD (q * 2 + 1) 0) = false) : Half P fs gs n (q + 1) := by
  have e := filt_no hq
  refine ⟨h.len, by rw [e.2]; have := h.less; omega, fun j hj => ?_, fun j hj => h.rest j (by omega)⟩
  rw [e.1]; rw [e.2] at hj; exact h.done j hj
theorem getD_set2 (gs : List Int) (k : Nat) (x y : Int) (j : Nat) (hk : k * 2 + 1 < gs.length) : ((gs.set (k * 2) x).set (k * 2 + 1) y).getD j 0 = if j = k * 2 then x else if j = k * 2 + 1 then y else gs.getD j 0 := by
  rw [List.getD_eq_getElem?_getD, List.getElem?_set, List.getElem?_set]
  by_cases h1 : k * 2 + 1 = j
  · subst h1
    rw [if_pos rfl, if_pos (by rw [List.length_set]; exact hk), if_neg (by omega), if_pos rfl]; rfl
  · rw [if_neg h1]
    by_cases h2 : k * 2 = j
    · subst h2
      rw [if_pos rfl, if_pos (by omega), if_pos rfl]; rfl
    · rw [if_neg h2, if_neg (fun e => h2 e.symm), if_neg (fun e => h1 e.symm), ← List.getD_eq_getElem?_getD]
theorem Half.keep {gs : List Int} {n q : Nat} (h : Half P fs gs n q) (hn : q < n) (hq : P (fs.getD (q * 2) 0) (fs.getD (q * 2 + 1) 0) = true) :
    Half P fs ((gs.set (filtN P fs q * 2) (fs.getD (q * 2) 0)).set (filtN P fs q * 2 + 1) (fs.getD (q * 2 + 1) 0)) n (q + 1) := by
  have e := filt_yes hq
  have hl := h.less
  have hlen := h.len
  have hF := filt_len (P := P) (fs := fs) q
  refine ⟨by rw [List.length_set, List.length_set]; exact h.len, by rw [e.2]; omega, fun j hj => ?_, fun j hj => ?_⟩
  · rw [getD_set2 _ _ _ _ _ (by omega), e.1]
    rw [e.2] at hj
    by_cases h1 : j = filtN P fs q * 2
    · subst h1
      rw [if_pos rfl, List.getD_eq_getElem?_getD (l := filtF P fs q ++ _), List.getElem?_append_right (by omega), hF, Nat.sub_self]; rfl
    · rw [if_neg h1]
      by_cases h2 : j = filtN P fs q * 2 + 1
      · subst h2
        rw [if_pos rfl, List.getD_eq_getElem?_getD (l := filtF P fs q ++ _), List.getElem?_append_right (by omega), hF, Nat.add_sub_cancel_left]; rfl
      · rw [if_neg h2, h.done j (by omega), List.getD_eq_getElem?_getD, List.getD_eq_getElem?_getD, List.getElem?_append_left (by omega)]
  · rw [getD_set2 _ _ _ _ _ (by omega), if_neg (by omega), if_neg (by omega)]
    exact h.rest j (by omega)
/-- The first pair that is not kept. -/
theorem Half.start {n k : Nat} (hl : fs.length = n * 2) (hk : k < n) (ha : ∀ j, j < k → P (fs.getD (j * 2) 0) (fs.getD (j * 2 + 1) 0) = true) (hb : P (fs.getD (k * 2) 0) (fs.getD (k * 2 + 1) 0) = false) : Half P fs fs n (k + 1) ∧ filtN P fs (k + 1) = k := by
  have e := filt_all k (by omega) ha
  have d := filt_no hb
  refine ⟨⟨hl, by rw [d.2, e.2]; omega, fun j hj => ?_, fun _ _ => rfl⟩, by rw [d.2, e.2]⟩
  rw [d.1, e.1]
  rw [d.2, e.2] at hj
  rw [List.getD_eq_getElem?_getD, List.getD_eq_getElem?_getD, List.getElem?_take, if_pos hj]
end

/-- A pour is good. -/
def goodP (ns : List Int) (x y : Int) : Bool := pourOk ns x y && decide (bndA (pourR ns x y) < bndA ns)
def goodF (ns : List Int) : List Int := filtF (goodP ns) (poursFA ns) (poursNA ns)
def goodN (ns : List Int) : Nat := filtN (goodP ns) (poursFA ns) (poursNA ns)
theorem goodN_le (ns : List Int) : goodN ns ≤ 36 := by
  have h1 := filtN_le (P := goodP ns) (fs := poursFA ns) (poursNA ns)
  have h2 := poursNA_le ns
  unfold goodN; omega
theorem good_len (ns : List Int) : (goodF ns).length = goodN ns * 2 := filt_len _
theorem good_not {ns : List Int} (h : vR ns = false) : goodN ns = 0 ∧ goodF ns = [] := by
  unfold goodN goodF poursNA poursFA
  rw [h]; exact ⟨filt0.2, filt0.1⟩
/-- The pours that are listed can be poured. -/
theorem pourk_ok {ns : List Int} (hv : vR ns = true) {k : Nat} (hk : k < poursN ns 36) : pourOk ns ((poursF ns 36).getD (k * 2) 0) ((poursF ns 36).getD (k * 2 + 1) 0) = true ∧
    fstP ns k ≠ sndP ns k := by
  have hl := poursF_len ns 36
  obtain ⟨k', _, hc, h1, h2⟩ := (in_poursF ns _ _ 36).1 ⟨k, by omega, rfl, rfl⟩
  have hp : fstP ns k = k' / 6 := by unfold fstP; rw [h1]; rfl
  have hq : sndP ns k = k' % 6 := by unfold sndP; rw [h2]; rfl
  have hlt := pour_k ns k hk
  rw [hp, hq] at hlt
  refine ⟨?_, by rw [hp, hq]; exact hc.1⟩
  rw [h1, h2]
  have hpi : ((k' / 6 : Nat) : Int) < 6 := by omega
  have hqi : ((k' % 6 : Nat) : Int) < 6 := by omega
  have hne : ((k' / 6 : Nat) : Int) ≠ ((k' % 6 : Nat) : Int) := fun e => hc.1 (by omega)
  unfold pourOk twoOk
  rw [hv, decide_eq_true (show (0 : Int) ≤ ((k' / 6 : Nat) : Int) ∧ ((k' / 6 : Nat) : Int) < 6 from ⟨by omega, hpi⟩), decide_eq_true (show (0 : Int) ≤ ((k' % 6 : Nat) : Int) ∧ ((k' % 6 : Nat) : Int) < 6 from ⟨by omega, hqi⟩), decide_eq_true hne]
  rw [Int.toNat_natCast, Int.toNat_natCast]
  simp only [Bool.true_and]
  exact decide_eq_true hc.2
end Go.Proofs.Ytnldnjnnjfbhnab.base
end

section
namespace Go.Proofs.Ytnldnjnnjfbhnab.base
set_option linter.unusedVariables false
set_option linter.unusedSimpArgs false

def doR (ns fs : List Int) : Nat → List Int
  | 0 => ns
  | k + 1 => pourR (doR ns fs k) (fs.getD (k * 2) 0) (fs.getD (k * 2 + 1) 0)
def doM (ns fs : List Int) : Nat → Int
  | 0 => 0
  | k + 1 => doM ns fs k + pourA (doR ns fs k) (fs.getD (k * 2) 0) (fs.getD (k * 2 + 1) 0)
/-- All of the first k can be poured. -/
def doOk (ns fs : List Int) : Nat → Bool
  | 0 => vR ns
  | k + 1 => doOk ns fs k && pourOk (doR ns fs k) (fs.getD (k * 2) 0) (fs.getD (k * 2 + 1) 0)
def doRA (ns fs : List Int) (n : Nat) : List Int := if doOk ns fs n = true then doR ns fs n else z24
def doMA (ns fs : List Int) (n : Nat) : Int := if doOk ns fs n = true then doM ns fs n else 0
theorem doR_len {ns : List Int} (h : ns.length = 24) (fs : List Int) : ∀ k, (doR ns fs k).length = 24
  | 0 => h
  | k + 1 => pourR_len (doR_len h fs k) _ _
theorem doRA_len {ns : List Int} (h : ns.length = 24) (fs : List Int) (n : Nat) : (doRA ns fs n).length = 24 := by
  unfold doRA
  split
  · exact doR_len h fs n
  · rfl
theorem doOk_stop {ns fs : List Int} {k : Nat} (h : doOk ns fs k = false) : ∀ n, k ≤ n → doOk ns fs n = false
  | 0, hn => by
    obtain rfl : k = 0 := by omega
    exact h
  | n + 1, hn => by
    by_cases e : k = n + 1
    · subst e; exact h
    · rw [doOk, doOk_stop h n (by omega)]; rfl
theorem do_no {ns fs : List Int} {k n : Nat} (h : doOk ns fs k = false) (hn : k ≤ n) : doRA ns fs n = z24 ∧ doMA ns fs n = 0 ∧ doOk ns fs n = false := by
  have := doOk_stop h n hn
  unfold doRA doMA
  rw [this]; exact ⟨rfl, rfl, rfl⟩
theorem do_yes {ns fs : List Int} {n : Nat} (h : doOk ns fs n = true) : doRA ns fs n = doR ns fs n ∧ doMA ns fs n = doM ns fs n := by
  unfold doRA doMA
  rw [h]; exact ⟨rfl, rfl⟩
theorem pourA_small (ns : List Int) (i j : Int) : 0 ≤ pourA ns i j ∧ pourA ns i j ≤ 4 := by
  unfold pourA
  split
  · unfold canN
    split <;> omega
  · omega
theorem doM_small (ns fs : List Int) : ∀ k, 0 ≤ doM ns fs k ∧ doM ns fs k ≤ 4 * k
  | 0 => by rw [doM]; omega
  | k + 1 => by
    have := doM_small ns fs k
    have := pourA_small (doR ns fs k) (fs.getD (k * 2) 0) (fs.getD (k * 2 + 1) 0)
    rw [doM]; omega
end Go.Proofs.Ytnldnjnnjfbhnab.base
end

section
namespace Go.Proofs.Ytnldnjnnjfbhnab.base
set_option linter.unusedVariables false
set_option linter.unusedSimpArgs false

/-- How far one goes while something holds. -/
def stopW (p : Nat → Bool) : Nat → Nat
  | 0 => 0
  | k + 1 => if stopW p k = k ∧ p k = true then k + 1 else stopW p k
theorem stop_le (p : Nat → Bool) : ∀ k, stopW p k ≤ k
  | 0 => Nat.le_refl _
  | k + 1 => by
    have := stop_le p k
    rw [stopW]; split <;> omega
theorem stop_go {p : Nat → Bool} {k : Nat} (h : stopW p k = k) (hp : p k = true) : stopW p (k + 1) = k + 1 := by rw [stopW, if_pos ⟨h, hp⟩]
theorem stop_end {p : Nat → Bool} {k : Nat} (h : stopW p k = k) (hp : p k = false) : ∀ n, k ≤ n → stopW p n = k
  | 0, hn => by
    obtain rfl : k = 0 := by omega
    rfl
  | n + 1, hn => by
    by_cases e : k = n + 1
    · subst e; exact h
    · have ih := stop_end h hp n (by omega)
      rw [stopW, ih, if_neg]
      rintro ⟨h1, h2⟩
      subst h1
      rw [hp] at h2; cases h2
/-- All pours of a path are good. -/
def pathUp (ns fs : List Int) : Nat → Bool
  | 0 => true
  | k + 1 => pathUp ns fs k && goodP (doR ns fs k) (fs.getD (k * 2) 0) (fs.getD (k * 2 + 1) 0)
theorem path_no {ns fs : List Int} {k : Nat} (h : pathUp ns fs k = false) : ∀ n, k ≤ n → pathUp ns fs n = false
  | 0, hn => by
    obtain rfl : k = 0 := by omega
    exact h
  | n + 1, hn => by
    by_cases e : k = n + 1
    · subst e; exact h
    · rw [pathUp, path_no h n (by omega)]; rfl
def pathOk (ns : List Int) (n : Nat) : Bool := vR ns && decide (n ≤ 60)
def pathA (ns fs : List Int) (n : Nat) : Bool := pathOk ns n && pathUp ns fs n
theorem goodP_ok {ns : List Int} {x y : Int} (h : goodP ns x y = true) : pourOk ns x y = true := by unfold goodP at h; exact (Bool.and_eq_true_iff.1 h).1
theorem doR_next {ns fs : List Int} (k : Nat) : doR ns fs (k + 1) = pourR (doR ns fs k) (fs.getD (k * 2) 0) (fs.getD (k * 2 + 1) 0) := rfl
/-- A pour of a valid rack in places and whether it can be poured. -/
theorem pourOk_iff {ns : List Int} (hv : vR ns = true) (x y : Int) : pourOk ns x y = (decide (0 ≤ x ∧ x < 6) && decide (0 ≤ y ∧ y < 6) && decide (x ≠ y ∧ 0 < canN (tub ns x.toNat) (tub ns y.toNat))) := by
  unfold pourOk twoOk
  rw [hv, Bool.true_and, Bool.eq_iff_iff]
  simp only [Bool.and_eq_true, decide_eq_true_eq]
  constructor
  · rintro ⟨⟨⟨h1, h2⟩, h3⟩, h4⟩; exact ⟨⟨h1, h2⟩, h3, h4⟩
  · rintro ⟨⟨h1, h2⟩, h3, h4⟩; exact ⟨⟨⟨h1, h2⟩, h3⟩, h4⟩
theorem pourOk_parts {ns : List Int} {x y : Int} (h : pourOk ns x y = true) : ∃ p q : Nat, x = (p : Int) ∧ y = (q : Int) ∧ p < 6 ∧ q < 6 ∧ p ≠ q ∧ 0 < canN (tub ns p) (tub ns q) := by
  have h2 : twoOk ns x y = true := by unfold pourOk at h; exact (Bool.and_eq_true_iff.1 h).1
  obtain ⟨hv, p, q, rfl, rfl, hp, hq, hne⟩ := twoOk_of h2
  refine ⟨p, q, rfl, rfl, hp, hq, hne, ?_⟩
  unfold pourOk at h
  simpa using (Bool.and_eq_true_iff.1 h).2
/-- The bounds along a path. -/
def alUp (ns fs : List Int) : Nat → List Int
  | 0 => [bndA ns]
  | k + 1 => alUp ns fs k ++ [bndA (doR ns fs (k + 1))]
theorem alUp_len (ns fs : List Int) : ∀ k, (alUp ns fs k).length = k + 1
  | 0 => rfl
  | k + 1 => by rw [alUp, List.length_append, alUp_len ns fs k]; rfl
def canAt (ns fs : List Int) (k : Nat) : Bool := pourOk (doR ns fs k) (fs.getD (k * 2) 0) (fs.getD (k * 2 + 1) 0)
def alongF (ns fs : List Int) (n : Nat) : List Int := if pathOk ns n = true then alUp ns fs (stopW (canAt ns fs) n) else []
def alongN (ns fs : List Int) (n : Nat) : Nat := if pathOk ns n = true then stopW (canAt ns fs) n + 1 else 0
theorem along_len (ns fs : List Int) (n : Nat) : (alongF ns fs n).length = alongN ns fs n := by
  unfold alongF alongN
  split
  · exact alUp_len ns fs _
  · rfl
theorem alongN_le (ns fs : List Int) (n : Nat) : alongN ns fs n ≤ 61 := by
  unfold alongN
  split
  · rename_i h
    unfold pathOk at h
    have := stop_le (canAt ns fs) n
    simp at h; omega
  · omega
/-- The greatest number of layers that a listed pour moves, and which pour it is. -/
def mostUp (ns fs : List Int) : Nat → Int × Int × Int
  | 0 => (0, 0, 0)
  | k + 1 => if (mostUp ns fs k).1 < pourA ns (fs.getD (k * 2) 0) (fs.getD (k * 2 + 1) 0) then (pourA ns (fs.getD (k * 2) 0) (fs.getD (k * 2 + 1) 0), fs.getD (k * 2) 0, fs.getD (k * 2 + 1) 0) else mostUp ns fs k
def mostA (ns : List Int) : Int × Int × Int := mostUp ns (poursFA ns) (poursNA ns)
theorem most_in (ns fs : List Int) : ∀ k, 0 ≤ (mostUp ns fs k).1 ∧ (mostUp ns fs k).1 ≤ 4
  | 0 => ⟨Int.le_refl _, show (0 : Int) ≤ 4 by decide⟩
  | k + 1 => by
    have h1 := most_in ns fs k
    have h2 := pourA_small ns (fs.getD (k * 2) 0) (fs.getD (k * 2 + 1) 0)
    rw [mostUp]
    split
    · exact h2
    · exact h1
theorem most_yes {ns fs : List Int} {k : Nat} (h : (mostUp ns fs k).1 < pourA ns (fs.getD (k * 2) 0) (fs.getD (k * 2 + 1) 0)) : mostUp ns fs (k + 1) = (pourA ns (fs.getD (k * 2) 0) (fs.getD (k * 2 + 1) 0), fs.getD (k * 2) 0, fs.getD (k * 2 + 1) 0) := by rw [mostUp, if_pos h]
theorem most_no {ns fs : List Int} {k : Nat} (h : ¬ (mostUp ns fs k).1 < pourA ns (fs.getD (k * 2) 0) (fs.getD (k * 2 + 1) 0)) : mostUp ns fs (k + 1) = mostUp ns fs k := by rw [mostUp, if_neg h]
theorem most_not {ns : List Int} (h : vR ns = false) : mostA ns = (0, 0, 0) := by
  unfold mostA poursNA; rw [h]; rfl
/-- The path in which each pour is the first good one. -/
def gpX (ns : List Int) : Int := (goodF ns).getD 0 0
def gpY (ns : List Int) : Int := (goodF ns).getD 1 0
def gpR (ns : List Int) : Nat → List Int
  | 0 => ns
  | k + 1 => pourR (gpR ns k) (gpX (gpR ns k)) (gpY (gpR ns k))
def gpF (ns : List Int) : Nat → List Int
  | 0 => []
  | k + 1 => gpF ns k ++ [gpX (gpR ns k), gpY (gpR ns k)]
def gpMore (ns : List Int) (k : Nat) : Bool := decide (0 < goodN (gpR ns k))
def gpN (ns : List Int) : Nat := stopW (gpMore ns) 60
theorem gpF_len (ns : List Int) : ∀ k, (gpF ns k).length = k * 2
  | 0 => rfl
  | k + 1 => by rw [gpF, List.length_append, gpF_len ns k]; simp; omega
theorem getD_left (l r : List Int) (j : Nat) (h : j < l.length) : (l ++ r).getD j 0 = l.getD j 0 := by
  rw [List.getD_eq_getElem?_getD, List.getD_eq_getElem?_getD, List.getElem?_append_left h]
/-- The first good pour is good. -/
theorem filt_first {P : Int → Int → Bool} {fs : List Int} : ∀ k, 0 < filtN P fs k → P ((filtF P fs k).getD 0 0) ((filtF P fs k).getD 1 0) = true
  | 0, h => by rw [filt0.2] at h; omega
  | k + 1, h => by
    cases hp : P (fs.getD (k * 2) 0) (fs.getD (k * 2 + 1) 0) with
    | false =>
      have e := filt_no hp
      rw [e.1]; rw [e.2] at h; exact filt_first k h
    | true =>
      have e := filt_yes hp
      have hl := filt_len (P := P) (fs := fs) k
      rw [e.1]
      by_cases h0 : 0 < filtN P fs k
      · have ih := filt_first k h0
        rw [getD_left _ _ _ (by omega), getD_left _ _ _ (by omega)]
        exact ih
      · have hz : filtF P fs k = [] := List.length_eq_zero_iff.1 (by omega)
        rw [hz]; exact hp
theorem gp_good {ns : List Int} {k : Nat} (h : gpMore ns k = true) : goodP (gpR ns k) (gpX (gpR ns k)) (gpY (gpR ns k)) = true :=
  filt_first (P := goodP (gpR ns k)) (fs := poursFA (gpR ns k)) (poursNA (gpR ns k)) (by unfold gpMore at h; exact of_decide_eq_true h)
/-- Each step of such a path lowers the bound: it ends. -/
theorem gp_facts {ns : List Int} (h24 : ns.length = 24) (hv : vR ns = true) : ∀ k, stopW (gpMore ns) k = k → (gpR ns k).length = 24 ∧ vR (gpR ns k) = true ∧ bndA (gpR ns k) + k ≤ bndA ns
  | 0, _ => ⟨h24, hv, by simp [gpR]⟩
  | k + 1, h => by
    have hk : stopW (gpMore ns) k = k ∧ gpMore ns k = true := by
      rw [stopW] at h
      split at h
      · assumption
      · have := stop_le (gpMore ns) k; omega
    obtain ⟨h1, h2, h3⟩ := gp_facts h24 hv k hk.1
    have g := gp_good hk.2
    have ok := goodP_ok g
    have g2 : bndA (pourR (gpR ns k) (gpX (gpR ns k)) (gpY (gpR ns k))) < bndA (gpR ns k) := by unfold goodP at g; simpa using (Bool.and_eq_true_iff.1 g).2
    refine ⟨pourR_len h1 _ _, (pour_facts h1 ok).valid, ?_⟩
    rw [gpR]; omega
theorem gp_short {ns : List Int} (h24 : ns.length = 24) (hv : vR ns = true) {k : Nat} (h : stopW (gpMore ns) k = k) : k ≤ 55 := by
  obtain ⟨h1, h2, h3⟩ := gp_facts h24 hv k h
  have m1 := (meas_in h24 hv).2.2
  have m2 := (meas_in h1 h2).2.2
  omega
end Go.Proofs.Ytnldnjnnjfbhnab.base
end
