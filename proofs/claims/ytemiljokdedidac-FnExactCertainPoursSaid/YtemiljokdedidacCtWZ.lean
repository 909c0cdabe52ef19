/-
  The chance of a top, on both sides, and its law, walked.
-/
/-
  The certain pours, on the model's side, walked.
-/
import Derived.Test.YtemiljokdedidacTopW
import Derived.Test.YtemiljokdedidacCerI
import Derived.Test.YtemiljokdedidacEqRZ
import Derived.Deep.Cut

section
namespace Go.Proofs.Ytemiljokdedidac.base
open Go.ChangeShapes Go.WideShapes Go.ChangeAt Go.RowKit
set_option linter.unusedVariables false
set_option linter.unusedSimpArgs false

def ctOk (vs : List Int) (i r : Int) : Bool := vV vs && decide (0 ≤ i ∧ i < 6) && decide (vMany vs i.toNat ≠ 0) && decide (1 ≤ r ∧ r ≤ 4)
def ctA (vs : List Int) (i r : Int) : List Int := if ctOk vs i r = true then topF vs i.toNat r.toNat else z2
theorem ctA_len (vs : List Int) (i r : Int) : (ctA vs i r).length = 2 := by
  unfold ctA; split <;> rfl
theorem ctOk_not {vs : List Int} {i r : Int} (h : ¬ (vV vs = true ∧ (0 ≤ i ∧ i < 6) ∧ vMany vs i.toNat ≠ 0 ∧ (1 ≤ r ∧ r ≤ 4))) : ctOk vs i r = false ∧ ctA vs i r = z2 := by
  have : ctOk vs i r = false := by
    cases hb : ctOk vs i r with
    | false => rfl
    | true =>
      unfold ctOk at hb
      simp only [Bool.and_eq_true, decide_eq_true_eq] at hb
      exact absurd ⟨hb.1.1.1, hb.1.1.2, hb.1.2, hb.2⟩ h
  refine ⟨this, ?_⟩
  unfold ctA; rw [this]; rfl
theorem ctOk_yes {vs : List Int} {p q : Nat} (hv : vV vs = true) (hp : p < 6) (hm : vMany vs p ≠ 0) (h1 : 1 ≤ q) (h4 : q ≤ 4) : ctOk vs p q = true ∧ ctA vs p q = topF vs p q := by
  have : ctOk vs p q = true := by
    unfold ctOk
    simp only [Bool.and_eq_true, decide_eq_true_eq, Int.toNat_natCast]
    exact ⟨⟨⟨hv, by omega, by omega⟩, hm⟩, by omega, by omega⟩
  refine ⟨this, ?_⟩
  unfold ctA
  rw [if_pos this, Int.toNat_natCast, Int.toNat_natCast]
/-- What the program reckons with. -/
theorem top_nums {vs : List Int} {i m c r : Nat} (h : vs.length = 18) (hv : vV vs = true) (T : TopFacts vs i m c) (h1 : 1 ≤ r) :
    longN vs i (r + 1) ≤ longN vs i r ∧ longN vs i r ≤ ordA (hid vs) ∧ longN vs i 1 = ordA (hid vs) ∧ ordA (hid vs) ≤ 101559956668416 ∧ 0 < ordA (hid vs) :=
  ⟨long_mono h hv T r h1, long_le h hv T r h1, long_one h T, (hid_stk h hv).big (viewFacts h hv).small, (hid_stk h hv).pos⟩
end Go.Proofs.Ytemiljokdedidac.base
end

section
namespace Go.Proofs.Ytemiljokdedidac.base
open Go.ChangeShapes Go.WideShapes Go.ChangeAt Go.RowKit
set_option linter.unusedVariables false
set_option linter.unusedSimpArgs false

theorem pours_pF (fr : List Int) : ∀ m, poursF fr m = pF (fun p q => decide (p ≠ q ∧ 0 < canN (tub fr p) (tub fr q))) m
  | 0 => rfl
  | m + 1 => by
    have ih := pours_pF fr m
    rw [poursF, pF, ih]
    by_cases h : m / 6 ≠ m % 6 ∧ 0 < canN (tub fr (m / 6)) (tub fr (m % 6))
    · rw [if_pos h, if_pos (decide_eq_true h)]
    · rw [if_neg h, if_neg (by rw [decide_eq_false h]; decide)]
theorem pours_pN (fr : List Int) (m : Nat) : poursN fr m = pN (fun p q => decide (p ≠ q ∧ 0 < canN (tub fr p) (tub fr q))) m := by unfold poursN pN; rw [pours_pF]
/-- A pour that is possible and certain, by its places. -/
def cerC (vs : List Int) (p q : Nat) : Bool := canV vs p q && cerP vs (p : Int) (q : Int)
theorem cer_pF {vs : List Int} (h : vs.length = 18) (hv : vV vs = true) : cerF vs = pF (cerC vs) 36 ∧ cerN vs = pN (cerC vs) 36 := by
  obtain ⟨h1, h2⟩ := first_valid h hv
  have ea : poursFA (firstR vs) = poursF (firstR vs) 36 := by unfold poursFA; rw [if_pos h1]
  have en : poursNA (firstR vs) = poursN (firstR vs) 36 := by unfold poursNA; rw [if_pos h1]
  have ex : ∀ p q, p < 6 → q < 6 → ((decide (p ≠ q ∧ 0 < canN (tub (firstR vs) p) (tub (firstR vs) q))) && cerP vs (p : Int) (q : Int)) = cerC vs p q := fun p q hp hq => by
    unfold cerC
    congr 1
    by_cases e : p = q
    · subst e
      unfold canV; simp
    · rw [← h2 p q hp hq e, decide_eq_decide]
      exact ⟨fun x => x.2, fun x => ⟨e, x⟩⟩
  unfold cerF cerN
  rw [if_pos hv, if_pos hv, ea, en, pours_pF, pours_pN, filtN_pN, filt_pF]
  exact ⟨pF_ext ex 36 (Nat.le_refl _), pN_ext ex⟩
theorem lmT_le (T : Nat → Nat) (n : Nat) (hn : n ≤ 4) : ∀ k, (lmT T n k).1 ≤ 4 ∧ (lmT T n k).2 ≤ 4
  | 0 => by rw [lmT]; exact ⟨Nat.le_refl 4, Nat.zero_le 4⟩
  | k + 1 => by
    have ih := lmT_le T n hn k
    rw [lmT]
    split
    · show min (lmT T n k).1 (min (k + 1) n) ≤ 4 ∧ max (lmT T n k).2 (min (k + 1) n) ≤ 4
      omega
    · exact ih

set_option maxHeartbeats 3200000 in
set_option maxRecDepth 100000 in
theorem specCer (vs : List Int) (w : World) (h : vs.length = 18) (hw : Wf vs) :
    Calls Try.prog 10 #[row vs] w (CerPost vs w) := by
  obtain ⟨i0, hi, hz0, hz1, hz2⟩ := info_parts infoPair
  have HB := Lib.hid (((kept_refl w).alloc (.cells (ints vs).toArray 28)).alloc (.cells #[] 33))
  have H := (Has.box w 28 h (by omega)).alloc (.cells #[] 33)
  have P0 := Prs.none (w.alloc (.cells (ints vs).toArray 28)) (w.heap.size + 1) (by simp)
  rw [size1] at P0
  have P1 := Lib.hid P0
  clear P0
  rw [row_ints]
  go_enter Try.func10, Try.ntmps10
  go_wp2_with (refine load_has rfl 28 _ rfl _ rfl ?_ 18 ?_ _ Try.underlying28 rfl ?_ ?_; rotate_left; (· (repeat (first | (with_reducible assumption) | ((with_reducible refine Has.box _ _ ?_ ?_) <;> (first | assumption | decide)) | (with_reducible refine Has.alloc ?_ _) | ((with_reducible refine Has.putOther ?_ _ _ ?_); rotate_left; omega; skip) | ((with_reducible refine Has.below ?_ ?_); rotate_left; assumption)))); (· kernel_rfl))
  refine (l7Good_any vs _ h hw).mono ?_
  rintro e w1 ⟨rfl, b1⟩
  replace H := H.below b1
  replace P1 := Lib.hid (P1.out.below b1)
  replace HB := Lib.hid (HB.out.call b1)
  clear b1
  by_cases hv : vV vs = true
  · have HV := Lib.hid hv
    have HH := Lib.hid h
    have HW := Lib.hid hw
    have E := Lib.hid (cer_pF h hv)
    have M0 := (hid_stk h hv).pos
    have HM0 := Lib.hid M0
    obtain ⟨P, hP⟩ : ∃ P, cerC vs = P := ⟨_, rfl⟩
    have EC := Lib.hid (show ∀ p q, P p q = (canV vs p q && cerP vs (p : Int) (q : Int)) from fun p q => by rw [← hP]; rfl)
    rw [hP] at E
    have P2 : Hid (Prs w1 (w.heap.size + 1) (.slice (some ⟨w.heap.size + 1, 0, none⟩) 0 0) (pN P (0 * 6)) (pF P (0 * 6))) := Lib.hid (by rw [Nat.zero_mul, (p0 P).1, (p0 P).2]; exact P1.out)
    rw [hv]
    clear hv h hw hP M0 P1
    go_wp2_with fail
    go_loopg [4, 5, 6] 6 (fun gk v i j wr => ∃ p : Nat, gk = 6 - p ∧ p ≤ 6 ∧ i = .int .i64 p ∧ Has wr w.heap.size vs 18 ∧ Hid (Prs wr (w.heap.size + 1) v (pN P (p * 6)) (pF P (p * 6))) ∧ Hid (Kept w wr))
    case atStart => exact ⟨0, rfl, by omega, rfl, H, P2, HB⟩
    case round =>
      obtain ⟨p, rfl, hp, rfl, GH, GP, GB⟩ := hrel
      by_cases hp6 : p < 6
      · have hpi : (p : Int) < 6 := by omega
        go_wp2_with fail
        go_loopg [4, 6] 6 (fun gk v j wr => ∃ q : Nat, gk = 6 - q ∧ q ≤ 6 ∧ j = .int .i64 q ∧ Has wr w.heap.size vs 18 ∧ Hid (Prs wr (w.heap.size + 1) v (pN P (p * 6 + q)) (pF P (p * 6 + q))) ∧ Hid (Kept w wr))
        case atStart => exact ⟨0, rfl, by omega, rfl, GH, GP, GB⟩
        case round =>
          obtain ⟨q, rfl, hq, rfl, KH, KP, KB⟩ := hrel
          by_cases hq6 : q < 6
          · have hqi : (q : Int) < 6 := by omega
            go_wp2_with (refine load_has rfl 28 _ rfl _ rfl ?_ 18 ?_ _ Try.underlying28 rfl ?_ ?_; rotate_left; (· (repeat (first | (with_reducible assumption) | ((with_reducible refine Has.box _ _ ?_ ?_) <;> (first | assumption | decide)) | (with_reducible refine Has.alloc ?_ _) | ((with_reducible refine Has.putOther ?_ _ _ ?_); rotate_left; omega; skip) | ((with_reducible refine Has.below ?_ ?_); rotate_left; assumption)))); (· kernel_rfl))
            refine (l7Can_any vs p q _ HH.out hp6 hq6).mono ?_
            rintro e w2 ⟨rfl, b2⟩
            replace KH := KH.below b2
            replace KP := Lib.hid (KP.out.below b2)
            replace KB := Lib.hid (KB.out.call b2)
            clear b2
            have hN := pN_le P (p * 6 + q)
            cases hc : canV vs p q with
            | false =>
              have PT := Lib.hid (show P p q = false by rw [EC.out, hc]; rfl)
              have Y := Lib.hid (pF_no P p q hq6 PT.out)
              have Y2 := Lib.hid (pN_no P p q hq6 PT.out)
              have B2 := Lib.hid (show Prs w2 (w.heap.size + 1) u4 (pN P (p * 6 + (q + 1))) (pF P (p * 6 + (q + 1))) by rw [Y.out, Y2.out]; exact KP.out)
              clear hc
              go_wp2_with fail
              go_roundg (6 - (q + 1))
              case rel => exact ⟨q + 1, rfl, by omega, by go_num, KH, B2, KB⟩
              case measure => omega
            | true =>
              have PT := Lib.hid (show P p q = cerP vs (p : Int) (q : Int) by rw [EC.out, hc]; rfl)
              have cv := hc
              unfold canV at cv
              simp only [Bool.and_eq_true, decide_eq_true_eq] at cv
              obtain ⟨m, c, T⟩ := topFacts HH.out HV.out p hp6 (by omega)
              have tq := topV_at (viewFacts HH.out HV.out).tops q hq6
              obtain ⟨mj, hmj⟩ : ∃ mj : Nat, vMany vs q = (mj : Int) := ⟨(vMany vs q).toNat, by omega⟩
              obtain ⟨n, hn⟩ : ∃ n : Nat, n + mj = 4 := ⟨4 - mj, by omega⟩
              have n1 : 1 ≤ n := by omega
              have n4 : n ≤ 4 := by omega
              have mj4 : mj ≤ 4 := by omega
              have m4 := T.m4
              have m1 := T.m1
              have HM := Lib.hid T.many
              have HJ := Lib.hid hmj
              have KT := Lib.hid (fun r W h1 h4 => l7Top_any vs p r m c W HH.out HV.out HW.out hp6 T h1 h4)
              have LU := Lib.hid (show decide ((lmT (longN vs p) n m).1 = (lmT (longN vs p) n m).2) = cerP vs (p : Int) (q : Int) by
                rw [lm_unc (longN vs p) n m n1 n4 m1 m4 (by rw [long_one HH.out T]; exact HM0.out) (long_mono HH.out HV.out T 1 (by omega)) (long_mono HH.out HV.out T 2 (by omega)) (long_mono HH.out HV.out T 3 (by omega)) (fun l hl => long_no T hl)]
                unfold cerP
                rw [Int.toNat_natCast, Int.toNat_natCast, hmj, show (4 - (mj : Int)).toNat = n by omega])
              have LE := Lib.hid (lmT_le (longN vs p) n n4)
              clear hc cv T tq hmj
              go_wp2_with fail
              go_loopg [7, 8, 9] m (fun gk le mo rr wx => ∃ (k a b : Nat), gk = m - k ∧ k ≤ m ∧ rr = .int .i64 ((k : Int) + 1) ∧ le = .int .i64 (a : Nat) ∧ mo = .int .i64 (b : Nat) ∧ Hid (lmT (longN vs p) n k = (a, b)) ∧ Has wx w.heap.size vs 18 ∧ Hid (Prs wx (w.heap.size + 1) u4 (pN P (p * 6 + q)) (pF P (p * 6 + q))) ∧ Hid (Kept w wx))
              case atStart => exact ⟨0, 4, 0, rfl, by omega, rfl, rfl, rfl, Lib.hid rfl, KH, KP, KB⟩
              case round =>
                clear KH KP KB
                obtain ⟨k, a, b, rfl, hk, rfl, rfl, rfl, HLM, KH, KP, KB⟩ := hrel
                have c1 := KH.mCellX p hp6 HM.out
                obtain ⟨l, hl⟩ : ∃ l : Nat, l = k + 1 := ⟨_, rfl⟩
                have el : (k : Int) + 1 = (l : Int) := by omega
                rw [el]
                have HL := Lib.hid hl
                clear el
                have LA := LE.out k
                rw [HLM.out] at LA
                have la : a ≤ 4 := LA.1
                have lb : b ≤ 4 := LA.2
                clear LA
                by_cases hlt : k < m
                · have dl : decide ((l : Int) ≤ (m : Int)) = true := decide_eq_true (by omega)
                  have dn : decide (l ≤ m) = true := decide_eq_true (by omega)
                  have l1 : 1 ≤ l := by omega
                  have l4 : l ≤ 4 := by omega
                  have DK := Lib.hid (show m - (k + 1) < m - k by omega)
                  have HK := Lib.hid (show k + 1 ≤ m from hlt)
                  have EK := Lib.hid (show ((l : Int) + 1) = (((k + 1 : Nat) : Int)) + 1 by omega)
                  have K1 := Lib.hid (fun W => KT.out l W l1 l4)
                  have ET := Lib.hid (show topF vs p l = frac (longN vs p l - longN vs p (l + 1)) (ordA (hid vs)) from rfl)
                  have LS := Lib.hid (show lmT (longN vs p) n (k + 1) = if 0 < longN vs p l - longN vs p (l + 1) then (min a (min l n), max b (min l n)) else (a, b) by
                    rw [lmT, HLM.out, hl])
                  clear hl hlt
                  go_wp2_with (refine load_has rfl 28 _ rfl _ rfl ?_ 18 ?_ _ Try.underlying28 rfl ?_ ?_; rotate_left; (· (repeat (first | (with_reducible assumption) | ((with_reducible refine Has.box _ _ ?_ ?_) <;> (first | assumption | decide)) | (with_reducible refine Has.alloc ?_ _) | ((with_reducible refine Has.putOther ?_ _ _ ?_); rotate_left; omega; skip) | ((with_reducible refine Has.below ?_ ?_); rotate_left; assumption)))); (· kernel_rfl))
                  refine (K1.out _).mono ?_
                  rintro e w5 ⟨rfl, b5⟩
                  rw [ET.out]
                  generalize longN vs p l - longN vs p (l + 1) = Q at *
                  have CPO := Lib.hid (cutN_pos Q (ordA (hid vs)) HM0.out)
                  have lf := frac_len Q (ordA (hid vs))
                  replace KH := (KH.below b5).alloc (.cells (ints (frac Q (ordA (hid vs)))).toArray 33)
                  have GD6 := Has.box w5 33 lf (by omega)
                  replace KP := Lib.hid ((KP.out.below b5).alloc (.cells (ints (frac Q (ordA (hid vs)))).toArray 33))
                  replace KB := Lib.hid ((KB.out.call b5).alloc (.cells (ints (frac Q (ordA (hid vs)))).toArray 33))
                  have c5 := GD6.cellE (k := 0) (x := ((cutN Q (ordA (hid vs)) : Nat) : Int)) (by omega) rfl
                  have c2 := KH.mCellX q hq6 HJ.out
                  clear b5 c1 GD6
                  go_upto_region 16 with (refine store_new rfl 33 _ _ rfl _ _ _ rfl _ rfl _ rfl rfl ?_ ?_ ?_; (· (first | assumption | rfl)); (· kernel_rfl))
                  generalize w5.alloc (.cells (ints (frac Q (ordA (hid vs)))).toArray 33) = W6 at *
                  generalize w5.heap.size = b6 at *
                  generalize cutN Q (ordA (hid vs)) = cq at *
                  by_cases hQ : 0 < Q
                  · have q1 : 0 < cq := CPO.out.2 hQ
                    have q2 : decide ((0 : Int) < (cq : Int)) = true := decide_eq_true (by omega)
                    have q3 : decide (0 < cq) = true := decide_eq_true q1
                    have LS2 := Lib.hid (show lmT (longN vs p) n (k + 1) = (min a (min l n), max b (min l n)) by rw [LS.out, if_pos hQ])
                    have e1 : (4 : Int) - (mj : Int) = (n : Int) := by omega
                    have wn : IntKind.i64.wrap ((4 : Int) - (mj : Int)) = (n : Int) := by rw [e1]; exact IntWalk.i64_in _ (by omega)
                    clear hQ q1 e1
                    go_wp2_with fail
                    refine (fLeast_any _ _ _).mono ?_
                    rintro e w' ⟨rfl, rfl⟩
                    have m1e : min (l : Int) (n : Int) = ((min l n : Nat) : Int) := by omega
                    rw [m1e]
                    obtain ⟨x, hx⟩ : ∃ x : Nat, min l n = x := ⟨_, rfl⟩
                    rw [hx] at LS2 ⊢
                    have x4 : x ≤ 4 := by omega
                    clear m1e hx wn
                    go_wp2_with fail
                    refine (fLeast_any _ _ _).mono ?_
                    rintro e w' ⟨rfl, rfl⟩
                    have m2e : min (a : Int) (x : Int) = ((min a x : Nat) : Int) := by omega
                    rw [m2e]
                    have a4 : min a x ≤ 4 := by omega
                    clear m2e
                    generalize min a x = a' at *
                    go_wp2_with fail
                    refine (fMost_any _ _ _).mono ?_
                    rintro e w' ⟨rfl, rfl⟩
                    have m3e : max (b : Int) (x : Int) = ((max b x : Nat) : Int) := by omega
                    rw [m3e]
                    have a5 : max b x ≤ 4 := by omega
                    clear m3e
                    generalize max b x = b' at *
                    clear c5 c2 q2 q3 dl dn
                    go_wp2_with fail
                    go_roundg (m - (k + 1))
                    case rel => exact ⟨k + 1, a', b', rfl, HK.out, by rw [← EK.out], rfl, rfl, LS2, KH, KP, KB⟩
                    case measure => exact DK.out
                  · have q1 : ¬ 0 < cq := fun e => hQ (CPO.out.1 e)
                    have q2 : decide ((0 : Int) < (cq : Int)) = false := decide_eq_false (by omega)
                    have q3 : decide (0 < cq) = false := decide_eq_false q1
                    have LS2 := Lib.hid (show lmT (longN vs p) n (k + 1) = (a, b) by rw [LS.out, if_neg hQ])
                    obtain rfl : cq = 0 := by omega
                    clear hQ q1 c2 dl dn
                    go_wp2_with fail
                    go_roundg (m - (k + 1))
                    case rel => exact ⟨k + 1, a, b, rfl, HK.out, by rw [← EK.out], rfl, rfl, LS2, KH, KP, KB⟩
                    case measure => exact DK.out
                · obtain rfl : k = m := by omega
                  have dl : decide ((l : Int) ≤ (k : Int)) = false := decide_eq_false (by omega)
                  have dn : decide (l ≤ k) = false := decide_eq_false (by omega)
                  have hbs := KB.out.size
                  have LU2 := Lib.hid (show decide (a = b) = P p q by rw [PT.out, ← LU.out, HLM.out])
                  have hlt2 := KH.lt
                  clear hl hlt
                  by_cases hab : a = b
                  · have PT2 := Lib.hid (show P p q = true by rw [← LU2.out, decide_eq_true hab])
                    have Y := Lib.hid (pF_yes P p q hq6 PT2.out)
                    have Y2 := Lib.hid (pN_yes P p q hq6 PT2.out)
                    subst hab
                    go_wp2_with (first | (at_builtin; refine wpList_append_own _ rfl _ _ 25 rfl (w.heap.size + 1) 33 i0 (.agg #[.int .i64 0, .int .i64 0]) 2 16 Try.underlying25 hi hz0 hz1 hz2 rfl (by decide) _ (pN P (p * 6 + q)) (ints (pF P (p * 6 + q))) rfl (World.ownsRow.alloc KP.out _) ⟨wr.heap.size, 0, none⟩ 1 1 [.int .i64 (p : Int), .int .i64 (q : Int)] rfl rfl (cell_two_new _ _ _ _) (fun x hx => by simp at hx; rcases hx with rfl | rfl <;> rfl) (by unfold maxLen; omega) (by omega) (by simp; omega) ?_; intro v' w3 hown' hgrow3 hnil3))
                    obtain ⟨A2, A3⟩ := prs_app KP.out KB.out (by omega) hown' hgrow3
                    have A1 := (KH.alloc (.cells #[.int .i64 (p : Int), .int .i64 (q : Int)] 33)).grown hgrow3 (fun j hj => by have := Prs.own KP.out j hj; omega)
                    rw [← Y.out, ← Y2.out] at A2
                    have B2 := Lib.hid A2
                    have B3 : Hid (Kept w w3) := Lib.hid A3
                    clear hown' hgrow3 hnil3 A2 A3
                    go_wp2_with fail
                    go_roundg (6 - (q + 1))
                    case rel => exact ⟨q + 1, rfl, by omega, by go_num, A1, B2, B3⟩
                    case measure => omega
                  · have PT2 := Lib.hid (show P p q = false by rw [← LU2.out, decide_eq_false hab])
                    have Y := Lib.hid (pF_no P p q hq6 PT2.out)
                    have Y2 := Lib.hid (pN_no P p q hq6 PT2.out)
                    have B2 := Lib.hid (show Prs wr (w.heap.size + 1) u4 (pN P (p * 6 + (q + 1))) (pF P (p * 6 + (q + 1))) by rw [Y.out, Y2.out]; exact KP.out)
                    have g1 : ((a : Int) == (b : Int)) = false := by simp; omega
                    have g2 : (a == b) = false := by simp; omega
                    have g3 : decide (a = b) = false := decide_eq_false hab
                    clear hab
                    go_wp2_with fail
                    go_roundg (6 - (q + 1))
                    case rel => exact ⟨q + 1, rfl, by omega, by go_num, KH, B2, KB⟩
                    case measure => omega
          · obtain rfl : q = 6 := by omega
            have E6 : p * 6 + 6 = (p + 1) * 6 := by omega
            rw [E6] at KP
            clear E6
            go_wp2_with fail
            go_roundg (6 - (p + 1))
            case rel => exact ⟨p + 1, rfl, by omega, by go_num, KH, KP, KB⟩
            case measure => omega
      · obtain rfl : p = 6 := by omega
        go_wp2_with fail
        go_ret2
        exact ⟨_, by rw [HV.out]; rfl, by rw [E.out.1, E.out.2]; exact GP.out.rw, GB.out⟩
  · have hf : vV vs = false := by simpa using hv
    have EN := Lib.hid (show cerN vs = 0 by unfold cerN; rw [if_neg hv])
    have EF := Lib.hid (show cerF vs = [] by unfold cerF; rw [if_neg hv])
    have HV := Lib.hid hf
    rw [hf]
    clear hf hv
    go_wp2_with fail
    go_ret2
    exact ⟨_, by rw [HV.out]; rfl, by rw [EN.out, EF.out]; exact P1.out.rw, HB.out⟩
end Go.Proofs.Ytemiljokdedidac.base
end
