/-
  Pours that move a top of one layer, on the program's side, walked.
-/
import Derived.Test.YtcedpjjfcfeokabInP
import Derived.Test.YtcedpjjfcfeokabByI
import Derived.Test.YtcedpjjfcfeokabOthW
import Derived.Test.YtcedpjjfcfeokabRwL
import Derived.Test.YtcedpjjfcfeokabEqR
import Derived.Test.YtcedpjjfcfeokabSamS
import Derived.Deep.Cut
namespace Go.Proofs.Ytcedpjjfcfeokab.base
open Go.ChangeShapes Go.WideShapes Go.ChangeAt Go.RowKit
set_option linter.unusedVariables false
set_option linter.unusedSimpArgs false

theorem move_ne {ns : List Int} {p q m m' : Nat} (h : MoveOk ns p q m) (h' : MoveOk ns p q m') (hne : m ≠ m') : moveT ns p q m ≠ moveT ns p q m' := fun e => by
  have a := h.layP
  have b := h'.layP
  rw [e] at a
  have c := h.hm
  have d := h'.hm
  omega
/-- By the first three rules: if one is possible, how many layers each moves. -/
theorem mv123 {ns ds : List Int} {p q : Nat} (hpos : 0 < mvN ns ds 1 p q) : mvN ns ds 2 p q = 1 ∧ (mvN ns ds 3 p q = 0 ∨ mvN ns ds 3 p q = mvN ns ds 1 p q) := by
  unfold mvN at hpos ⊢
  by_cases e : p = q
  · rw [if_pos e] at hpos; omega
  · rw [if_neg e] at hpos
    rw [if_neg e, if_neg e, if_neg e]
    unfold mvT at hpos ⊢
    by_cases h : topN (tub ns p) = 0 ∨ roomD ns ds q = 0 ∨ ((1 : Int) ≠ 4 ∧ topC (tub ns q) ≠ 0 ∧ topC (tub ns q) ≠ topC (tub ns p))
    · rw [if_pos h] at hpos; omega
    · have h2 : ¬ (topN (tub ns p) = 0 ∨ roomD ns ds q = 0 ∨ ((2 : Int) ≠ 4 ∧ topC (tub ns q) ≠ 0 ∧ topC (tub ns q) ≠ topC (tub ns p))) := fun x => h (by
        rcases x with x | x | x
        · exact .inl x
        · exact .inr (.inl x)
        · exact .inr (.inr ⟨by decide, x.2⟩))
      have h3 : ¬ (topN (tub ns p) = 0 ∨ roomD ns ds q = 0 ∨ ((3 : Int) ≠ 4 ∧ topC (tub ns q) ≠ 0 ∧ topC (tub ns q) ≠ topC (tub ns p))) := fun x => h (by
        rcases x with x | x | x
        · exact .inl x
        · exact .inr (.inl x)
        · exact .inr (.inr ⟨by decide, x.2⟩))
      rw [if_neg h, if_pos rfl] at hpos
      rw [if_neg h, if_pos rfl, if_neg h2, if_neg (by decide), if_neg (by decide), if_neg h3, if_neg (by decide), if_pos rfl]
      refine ⟨rfl, ?_⟩
      split
      · exact .inl rfl
      · right; omega
theorem sa_eq {ns ds : List Int} {p q : Nat} (h24 : ns.length = 24) (hf : fitA ns ds = true) (hp : p < 6) (hq : q < 6) (hpos : 0 < mvN ns ds 1 p q) :
    (pbOk ns ds 3 (p : Int) (q : Int) && decide (pbR ns ds 1 (p : Int) (q : Int) = pbR ns ds 2 (p : Int) (q : Int)) && decide (pbR ns ds 1 (p : Int) (q : Int) = pbR ns ds 3 (p : Int) (q : Int))) = saP ns ds p q := by
  obtain ⟨h2, h3⟩ := mv123 hpos
  have M1 := mv_moveOk h24 hf hp hq hpos
  have O1 : pbOk ns ds 1 (p : Int) (q : Int) = true := by rw [pb_nat hf rfl hp hq]; exact decide_eq_true hpos
  have O2 : pbOk ns ds 2 (p : Int) (q : Int) = true := by rw [pb_nat hf rfl hp hq]; exact decide_eq_true (by omega)
  have M2 := mv_moveOk h24 hf hp hq (show 0 < mvN ns ds 2 p q by omega)
  rw [h2] at M2
  rw [(pb_yes O1).1, (pb_yes O2).1, h2]
  unfold saP
  rcases h3 with h3 | h3
  · have O3 : pbOk ns ds 3 (p : Int) (q : Int) = false := by rw [pb_nat hf rfl hp hq]; exact decide_eq_false (by omega)
    rw [O3, h3]; simp
  · have O3 : pbOk ns ds 3 (p : Int) (q : Int) = true := by rw [pb_nat hf rfl hp hq]; exact decide_eq_true (by omega)
    rw [O3, (pb_yes O3).1, h3]
    by_cases e : mvN ns ds 1 p q = 1
    · rw [e]; simp
    · rw [decide_eq_false e, decide_eq_false (move_ne M1 M2 e)]; simp

set_option maxHeartbeats 6400000 in
set_option maxRecDepth 100000 in
theorem implSame (ns ds : List Int) (w : World) (h24 : ns.length = 24) (h6 : ds.length = 6) :
    Calls Try.prog 16 #[row ns, row ds] w (SamPost ns ds w) := by
  obtain ⟨i0, hi, hz0, hz1, hz2⟩ := info_parts infoPair
  have HB := Lib.hid ((((kept_refl w).alloc (.cells (ints ns).toArray 30)).alloc (.cells (ints ds).toArray 26)).alloc (.cells #[] 50))
  have H := ((Has.box w 30 h24 (by omega)).alloc (.cells (ints ds).toArray 26)).alloc (.cells #[] 50)
  have D := ((Has.box (w.alloc (.cells (ints ns).toArray 30)) 26 h6 (by omega)).at (size1 _ _)).alloc (.cells #[] 50)
  have P0 := Prs.none ((w.alloc (.cells (ints ns).toArray 30)).alloc (.cells (ints ds).toArray 26)) (w.heap.size + 1 + 1) (by simp)
  rw [size1, size1] at P0
  have P1 := Lib.hid P0
  have hW3 : w.heap.size + 1 + 1 < (((w.alloc (.cells (ints ns).toArray 30)).alloc (.cells (ints ds).toArray 26)).alloc (.cells #[] 50)).heap.size := by simp
  clear P0
  rw [row_ints, row_ints]
  go_enter Try.func16, Try.ntmps16
  go_wp2_with (first | (refine load_has rfl 30 _ rfl _ rfl ?_ 24 ?_ _ Try.underlying30 rfl ?_ ?_; rotate_left; (· (repeat (first | (with_reducible assumption) | ((with_reducible refine Has.box _ _ ?_ ?_) <;> (first | assumption | decide)) | (with_reducible refine Has.alloc ?_ _) | ((with_reducible refine Has.putOther ?_ _ _ ?_); rotate_left; omega; skip) | ((with_reducible refine Has.below ?_ ?_); rotate_left; assumption)))); (· kernel_rfl)) | (refine load_has rfl 26 _ rfl _ rfl ?_ 6 ?_ _ Try.underlying26 rfl ?_ ?_; rotate_left; (· (repeat (first | (with_reducible assumption) | ((with_reducible refine Has.box _ _ ?_ ?_) <;> (first | assumption | decide)) | (with_reducible refine Has.alloc ?_ _) | ((with_reducible refine Has.putOther ?_ _ _ ?_); rotate_left; omega; skip) | ((with_reducible refine Has.below ?_ ?_); rotate_left; assumption)))); (· kernel_rfl)))
  generalize (((w.alloc (.cells (ints ns).toArray 30)).alloc (.cells (ints ds).toArray 26)).alloc (.cells #[] 50)) = W at *
  refine (implPoursBy ns ds 1 _ h24 h6).mono ?_
  rintro e w2 ⟨va, rfl, q2, b2⟩
  have FE : byOk ns ds 1 = fitA ns ds := by unfold byOk; rw [show ruleV 1 = true from rfl, Bool.and_true]
  rw [FE]
  replace H := H.below b2
  replace D := D.below b2
  replace P1 := Lib.hid (P1.out.below b2)
  replace HB := Lib.hid (HB.out.call b2)
  clear b2
  by_cases hf : fitA ns ds = true
  · have HF := Lib.hid hf
    have H24 := Lib.hid h24
    have H6 := Lib.hid h6
    have E1 := Lib.hid (show saNA ns ds = pN (saP ns ds) 36 by unfold saNA; rw [if_pos hf])
    have E2 := Lib.hid (show saFA ns ds = pF (saP ns ds) 36 by unfold saFA; rw [if_pos hf])
    have a1 : byNA ns ds 1 = pN (byP ns ds 1) 36 := by unfold byNA; rw [FE, if_pos hf]
    have a2 : byFA ns ds 1 = pF (byP ns ds 1) 36 := by unfold byFA; rw [FE, if_pos hf]
    rw [a1, a2] at q2
    rw [hf]
    clear h24 h6 hf a1 a2 FE
    have IN := Lib.hid (in_pF (byP ns ds 1) 36 (Nat.le_refl _))
    have hN := pN_le (byP ns ds 1) 36
    have FL := Lib.hid (show filtN (fun x y : Int => saP ns ds x.toNat y.toNat) (pF (byP ns ds 1) 36) (pN (byP ns ds 1) 36) = pN (saP ns ds) 36 ∧ filtF (fun x y : Int => saP ns ds x.toNat y.toNat) (pF (byP ns ds 1) 36) (pN (byP ns ds 1) 36) = pF (saP ns ds) 36 by
      rw [filtN_pN, filt_pF]
      have ex : ∀ p q, p < 6 → q < 6 → (byP ns ds 1 p q && (fun x y : Int => saP ns ds x.toNat y.toNat) (p : Int) (q : Int)) = (saP ns ds) p q := fun p q hp hq => by exact sa_by p q
      rw [pF_ext ex 36 (Nat.le_refl _), pN_ext ex]
      exact ⟨rfl, rfl⟩)
    obtain ⟨F, hF⟩ : ∃ F, pF (byP ns ds 1) 36 = F := ⟨_, rfl⟩
    obtain ⟨N, hNN⟩ : ∃ N, pN (byP ns ds 1) 36 = N := ⟨_, rfl⟩
    rw [hF, hNN] at q2 IN FL
    rw [hNN] at hN
    obtain ⟨aa, acap, hva⟩ := q2.shape
    subst hva
    have RA := Lib.hid q2
    have OA : Hid (0 < N → ∀ k, (Value.slice aa N acap).ownBlock = some k → W.heap.size ≤ k) := Lib.hid (fun hn k hk => (q2.ownlt hn k hk).1)
    clear q2 hF hNN
    have Q0 : Hid (Prs w2 (w.heap.size + 1 + 1) (.slice (some ⟨w.heap.size + 1 + 1, 0, none⟩) 0 0) (filtN (fun x y : Int => saP ns ds x.toNat y.toNat) F 0) (filtF (fun x y : Int => saP ns ds x.toNat y.toNat) F 0)) := Lib.hid (by rw [filt0.1, filt0.2]; exact P1.out)
    have KN0 : Hid (0 < N → ∀ k, (Value.slice (some ⟨w.heap.size + 1 + 1, 0, none⟩) 0 0).ownBlock = some k → (Value.slice aa N acap).ownBlock ≠ some k) := Lib.hid (fun hn k hk e => by
      have := OA.out hn k e
      simp only [Value.ownBlock, Option.some.injEq] at hk
      omega)
    clear P1
    go_wp2_with fail
    go_loopw [6, 32] (fun v i wr => ∃ k : Nat, k ≤ N ∧ i = .int .i64 k ∧ Has wr w.heap.size ns 24 ∧ Has wr (w.heap.size + 1) ds 6 ∧ Hid (Rw wr W.heap.size (.slice aa N acap) N F) ∧ Hid (Prs wr (w.heap.size + 1 + 1) v (filtN (fun x y : Int => saP ns ds x.toNat y.toNat) F k) (filtF (fun x y : Int => saP ns ds x.toNat y.toNat) F k)) ∧ Hid (Kept w wr) ∧ Hid (0 < N → ∀ k, v.ownBlock = some k → (Value.slice aa N acap).ownBlock ≠ some k)) (fun _ i _ => N - (intOf i).toNat)
    case atStart => exact ⟨0, by omega, rfl, H, D, RA, Q0, HB, KN0⟩
    case round =>
      obtain ⟨k, hk, rfl, GH, GD, GA, GP, GB, KN⟩ := hrel
      clear H D RA Q0 HB KN0
      by_cases hkn : k < N
      · have hki : (k : Int) < (N : Int) := by omega
        have hk0 : (0 : Int) ≤ (k : Int) := by omega
        have hN0 : 0 < N := by omega
        obtain ⟨g, cap2, hv', hg1, hg2⟩ := GA.out.form (by omega)
        injection hv' with ha _ hcap
        subst ha
        subst hcap
        obtain ⟨p, q, hp6, hq6, hPP, hx, hy⟩ := IN.out k hkn
        have HX := Lib.hid hx
        have HY := Lib.hid hy
        have KY := Lib.hid (fun h => filt_yes (P := fun x y : Int => saP ns ds x.toNat y.toNat) (fs := F) (k := k) h)
        have KNO := Lib.hid (fun h => filt_no (P := fun x y : Int => saP ns ds x.toNat y.toNat) (fs := F) (k := k) h)
        have hfl := filtN_le (P := fun x y : Int => saP ns ds x.toNat y.toNat) (fs := F) k
        rw [hx, hy] at KY KNO
        have KPQ := Lib.hid (show (fun x y : Int => saP ns ds x.toNat y.toNat) (p : Int) (q : Int) = saP ns ds p q by simp)
        have hpos : 0 < mvN ns ds 1 p q := of_decide_eq_true hPP
        have SE := Lib.hid (sa_eq H24.out HF.out hp6 hq6 hpos)
        have NG : Hid (∀ k, u6.ownBlock = some k → k ≠ g) := Lib.hid (fun k hk e => KN.out hN0 k hk (by rw [e]; rfl))
        have RG0 := Lib.hid (range_prP GA.out k hkn HX.out HY.out)
        clear hx hy hPP hg1 hg2 KN hpos
        obtain ⟨m, hm⟩ : ∃ m : Nat, filtN (fun x y : Int => saP ns ds x.toNat y.toNat) F k = m := ⟨_, rfl⟩
        have HMF := Lib.hid hm
        rw [hm] at GP KY KNO hfl
        clear hm
        have lA : (pbR ns ds 1 (p : Int) (q : Int)).length = 24 := pbR_len H24.out _ _ _
        have lB : (pbR ns ds 2 (p : Int) (q : Int)).length = 24 := pbR_len H24.out _ _ _
        have lC : (pbR ns ds 3 (p : Int) (q : Int)).length = 24 := pbR_len H24.out _ _ _
        have K1 := Lib.hid (fun V => implPourBy ns ds 1 (p : Int) (q : Int) V H24.out H6.out)
        have K2 := Lib.hid (fun V => implPourBy ns ds 2 (p : Int) (q : Int) V H24.out H6.out)
        have K3 := Lib.hid (fun V => implPourBy ns ds 3 (p : Int) (q : Int) V H24.out H6.out)
        obtain ⟨A, hA⟩ : ∃ A, pbR ns ds 1 (p : Int) (q : Int) = A := ⟨_, rfl⟩
        obtain ⟨B, hB⟩ : ∃ B, pbR ns ds 2 (p : Int) (q : Int) = B := ⟨_, rfl⟩
        obtain ⟨C, hC⟩ : ∃ C, pbR ns ds 3 (p : Int) (q : Int) = C := ⟨_, rfl⟩
        obtain ⟨S, hS⟩ : ∃ S, pbOk ns ds 3 (p : Int) (q : Int) = S := ⟨_, rfl⟩
        rw [hA] at lA K1 SE
        rw [hB] at lB K2 SE
        rw [hC, hS] at K3 SE
        rw [hC] at lC
        clear hA hB hC hS
        generalize pbN ns ds 1 (p : Int) (q : Int) = n1 at K1
        generalize pbN ns ds 2 (p : Int) (q : Int) = n2 at K2
        generalize pbN ns ds 3 (p : Int) (q : Int) = n3 at K3
        generalize pbOk ns ds 1 (p : Int) (q : Int) = o1 at K1
        generalize pbOk ns ds 2 (p : Int) (q : Int) = o2 at K2
        have BP := Has.box (ns := [(p : Int), (q : Int)]) (n := 2) wr 50 rfl (by omega)
        have ob := GD.lt
        replace GH := GH.alloc (.cells (ints [(p : Int), (q : Int)]).toArray 50)
        replace GD := GD.alloc (.cells (ints [(p : Int), (q : Int)]).toArray 50)
        replace GA := Lib.hid (GA.out.alloc (.cells (ints [(p : Int), (q : Int)]).toArray 50))
        replace GP := Lib.hid (GP.out.alloc (.cells (ints [(p : Int), (q : Int)]).toArray 50))
        replace GB := Lib.hid (GB.out.alloc (.cells (ints [(p : Int), (q : Int)]).toArray 50))
        have cc0 := BP.cellE (k := 0) (x := (p : Int)) (by omega) rfl
        have cc1 := BP.cellE (k := 1) (x := (q : Int)) (by omega) rfl
        obtain ⟨bp, hbp⟩ : ∃ bp, bp = wr.heap.size := ⟨_, rfl⟩
        go_wp2_with (first | (refine wpList_load_mid rfl 50 _ rfl g (k * 2) rfl (ints [(p : Int), (q : Int)]) _ RG0.out Try.underlying50 rfl (by kernel_rfl) ?_) | (refine store_new rfl 50 _ _ rfl _ _ _ rfl _ rfl _ rfl rfl ?_ ?_ ?_; (· (first | assumption | rfl)); (· kernel_rfl)) | (refine load_has rfl 30 _ rfl _ rfl ?_ 24 ?_ _ Try.underlying30 rfl ?_ ?_; rotate_left; (· (repeat (first | (with_reducible assumption) | ((with_reducible refine Has.box _ _ ?_ ?_) <;> (first | assumption | decide)) | (with_reducible refine Has.alloc ?_ _) | ((with_reducible refine Has.putOther ?_ _ _ ?_); rotate_left; omega; skip) | ((with_reducible refine Has.below ?_ ?_); rotate_left; assumption)))); (· kernel_rfl)) | (refine load_has rfl 26 _ rfl _ rfl ?_ 6 ?_ _ Try.underlying26 rfl ?_ ?_; rotate_left; (· (repeat (first | (with_reducible assumption) | ((with_reducible refine Has.box _ _ ?_ ?_) <;> (first | assumption | decide)) | (with_reducible refine Has.alloc ?_ _) | ((with_reducible refine Has.putOther ?_ _ _ ?_); rotate_left; omega; skip) | ((with_reducible refine Has.below ?_ ?_); rotate_left; assumption)))); (· kernel_rfl)))
        refine (K1.out _).mono ?_
        rintro e v1 ⟨rfl, b1⟩
        replace GH := (GH.below b1).alloc (.cells (ints A).toArray 30)
        replace GD := (GD.below b1).alloc (.cells (ints A).toArray 30)
        replace GA := Lib.hid ((GA.out.below b1).alloc (.cells (ints A).toArray 30))
        replace GP := Lib.hid ((GP.out.below b1).alloc (.cells (ints A).toArray 30))
        replace GB := Lib.hid ((GB.out.call b1).alloc (.cells (ints A).toArray 30))
        replace BP := (BP.below b1).alloc (.cells (ints A).toArray 30)
        have R1 := Has.box v1 30 lA (by omega)
        clear b1 K1 cc0 cc1
        have cc0 := BP.cellE (k := 0) (x := (p : Int)) (by omega) rfl
        have cc1 := BP.cellE (k := 1) (x := (q : Int)) (by omega) rfl
        go_wp2_with (first | (refine store_new rfl 30 _ _ rfl _ _ _ rfl _ rfl _ rfl rfl ?_ ?_ ?_; (· (first | assumption | rfl)); (· kernel_rfl)) | (refine load_has rfl 30 _ rfl _ rfl ?_ 24 ?_ _ Try.underlying30 rfl ?_ ?_; rotate_left; (· (repeat (first | (with_reducible assumption) | ((with_reducible refine Has.box _ _ ?_ ?_) <;> (first | assumption | decide)) | (with_reducible refine Has.alloc ?_ _) | ((with_reducible refine Has.putOther ?_ _ _ ?_); rotate_left; omega; skip) | ((with_reducible refine Has.below ?_ ?_); rotate_left; assumption)))); (· kernel_rfl)) | (refine load_has rfl 26 _ rfl _ rfl ?_ 6 ?_ _ Try.underlying26 rfl ?_ ?_; rotate_left; (· (repeat (first | (with_reducible assumption) | ((with_reducible refine Has.box _ _ ?_ ?_) <;> (first | assumption | decide)) | (with_reducible refine Has.alloc ?_ _) | ((with_reducible refine Has.putOther ?_ _ _ ?_); rotate_left; omega; skip) | ((with_reducible refine Has.below ?_ ?_); rotate_left; assumption)))); (· kernel_rfl)))
        refine (K2.out _).mono ?_
        rintro e v2 ⟨rfl, b2⟩
        replace GH := (GH.below b2).alloc (.cells (ints B).toArray 30)
        replace GD := (GD.below b2).alloc (.cells (ints B).toArray 30)
        replace GA := Lib.hid ((GA.out.below b2).alloc (.cells (ints B).toArray 30))
        replace GP := Lib.hid ((GP.out.below b2).alloc (.cells (ints B).toArray 30))
        replace GB := Lib.hid ((GB.out.call b2).alloc (.cells (ints B).toArray 30))
        replace BP := (BP.below b2).alloc (.cells (ints B).toArray 30)
        replace R1 := (R1.below b2).alloc (.cells (ints B).toArray 30)
        have R2 := Has.box v2 30 lB (by omega)
        clear b2 K2 cc0 cc1
        have cc0 := BP.cellE (k := 0) (x := (p : Int)) (by omega) rfl
        have cc1 := BP.cellE (k := 1) (x := (q : Int)) (by omega) rfl
        go_wp2_with (first | (refine store_new rfl 30 _ _ rfl _ _ _ rfl _ rfl _ rfl rfl ?_ ?_ ?_; (· (first | assumption | rfl)); (· kernel_rfl)) | (refine load_has rfl 30 _ rfl _ rfl ?_ 24 ?_ _ Try.underlying30 rfl ?_ ?_; rotate_left; (· (repeat (first | (with_reducible assumption) | ((with_reducible refine Has.box _ _ ?_ ?_) <;> (first | assumption | decide)) | (with_reducible refine Has.alloc ?_ _) | ((with_reducible refine Has.putOther ?_ _ _ ?_); rotate_left; omega; skip) | ((with_reducible refine Has.below ?_ ?_); rotate_left; assumption)))); (· kernel_rfl)) | (refine load_has rfl 26 _ rfl _ rfl ?_ 6 ?_ _ Try.underlying26 rfl ?_ ?_; rotate_left; (· (repeat (first | (with_reducible assumption) | ((with_reducible refine Has.box _ _ ?_ ?_) <;> (first | assumption | decide)) | (with_reducible refine Has.alloc ?_ _) | ((with_reducible refine Has.putOther ?_ _ _ ?_); rotate_left; omega; skip) | ((with_reducible refine Has.below ?_ ?_); rotate_left; assumption)))); (· kernel_rfl)))
        refine (K3.out _).mono ?_
        rintro e v3 ⟨rfl, b3⟩
        replace GH := (GH.below b3).alloc (.cells (ints C).toArray 30)
        replace GD := (GD.below b3).alloc (.cells (ints C).toArray 30)
        replace GA := Lib.hid ((GA.out.below b3).alloc (.cells (ints C).toArray 30))
        replace GP := Lib.hid ((GP.out.below b3).alloc (.cells (ints C).toArray 30))
        replace GB := Lib.hid ((GB.out.call b3).alloc (.cells (ints C).toArray 30))
        replace BP := (BP.below b3).alloc (.cells (ints C).toArray 30)
        replace R1 := (R1.below b3).alloc (.cells (ints C).toArray 30)
        replace R2 := (R2.below b3).alloc (.cells (ints C).toArray 30)
        have R3 := Has.box v3 30 lC (by omega)
        clear b3 K3 cc0 cc1
        have cc0 := BP.cellE (k := 0) (x := (p : Int)) (by omega) rfl
        have cc1 := BP.cellE (k := 1) (x := (q : Int)) (by omega) rfl
        have EQM := Lib.hid (show Try.prog.eqGuardType Try.prog.depth 30 = false by kernel_rfl)
        clear cc0 cc1 ob
        go_upto_region 11 with (first | (refine store_new rfl 30 _ _ rfl _ _ _ rfl _ rfl _ rfl rfl ?_ ?_ ?_; (· (first | assumption | rfl)); (· kernel_rfl)) | (refine load_has rfl 30 _ rfl _ rfl ?_ 24 ?_ _ Try.underlying30 rfl ?_ ?_; rotate_left; (· (repeat (first | (with_reducible assumption) | ((with_reducible refine Has.box _ _ ?_ ?_) <;> (first | assumption | decide)) | (with_reducible refine Has.alloc ?_ _) | ((with_reducible refine Has.putOther ?_ _ _ ?_); rotate_left; omega; skip) | ((with_reducible refine Has.below ?_ ?_); rotate_left; assumption)))); (· kernel_rfl)) | (refine load_has rfl 26 _ rfl _ rfl ?_ 6 ?_ _ Try.underlying26 rfl ?_ ?_; rotate_left; (· (repeat (first | (with_reducible assumption) | ((with_reducible refine Has.box _ _ ?_ ?_) <;> (first | assumption | decide)) | (with_reducible refine Has.alloc ?_ _) | ((with_reducible refine Has.putOther ?_ _ _ ?_); rotate_left; omega; skip) | ((with_reducible refine Has.below ?_ ?_); rotate_left; assumption)))); (· kernel_rfl)))
        generalize v3.alloc (.cells (ints C).toArray 30) = V4 at *
        cases hS : S with
        | false =>
          have KN2 := Lib.hid (KNO.out (by rw [KPQ.out, ← SE.out, hS]; rfl))
          clear KY KNO SE
          subst hS
          have B2 : Hid (Prs V4 (w.heap.size + 1 + 1) u6 (filtN (fun x y : Int => saP ns ds x.toNat y.toNat) F (k + 1)) (filtF (fun x y : Int => saP ns ds x.toNat y.toNat) F (k + 1))) := Lib.hid (by rw [KN2.out.1, KN2.out.2]; exact GP.out)
          have KN3 : Hid (0 < N → ∀ j, u6.ownBlock = some j → (Value.slice (some ⟨g, 0, none⟩) N acap).ownBlock ≠ some j) := Lib.hid (fun hn j hj e => by
            simp only [Value.ownBlock, Option.some.injEq] at e
            exact NG.out j hj e.symm)
          clear BP
          go_wp2_with fail
          go_roundw
          case rel => exact ⟨k + 1, by omega, by go_num, GH, GD, GA, B2, GB, KN3⟩
          case measure => simp [intOf]; omega
        | true =>
          subst hS
          by_cases hAB : A = B
          · subst hAB
            have q1 : decide (A = A) = true := decide_eq_true rfl
            by_cases hAC : A = C
            · subst hAC
              have KY2 := Lib.hid (KY.out (by rw [KPQ.out, ← SE.out]; simp))
              have hbs := GB.out.size
              have hlt := GD.lt
              clear KY KNO SE
              go_wp2_with (first | (refine wpList_load_mid rfl 50 _ rfl wr.heap.size 0 rfl [.int .i64 (p : Int), .int .i64 (q : Int)] _ BP.holds.range Try.underlying50 rfl (by kernel_rfl) ?_) | (refine load_has rfl 30 _ rfl _ rfl ?_ 24 ?_ _ Try.underlying30 rfl ?_ ?_; rotate_left; (· (repeat (first | (with_reducible assumption) | ((with_reducible refine Has.box _ _ ?_ ?_) <;> (first | assumption | decide)) | (with_reducible refine Has.alloc ?_ _) | ((with_reducible refine Has.putOther ?_ _ _ ?_); rotate_left; omega; skip) | ((with_reducible refine Has.below ?_ ?_); rotate_left; assumption)))); (· kernel_rfl)) | (refine eql_has rfl 30 30 _ _ rfl A A rfl rfl EQM.out (eqRackT A A lA lA) ?_; rw [q1]) | (at_builtin; refine wpList_append_lies _ rfl _ _ 27 rfl (w.heap.size + 1 + 1) 50 i0 (.agg #[.int .i64 0, .int .i64 0]) 2 16 Try.underlying27 hi hz0 hz1 hz2 rfl (by decide) _ m (ints (filtF (fun x y : Int => saP ns ds x.toNat y.toNat) F k)) rfl (World.ownsRow.alloc GP.out _) ⟨V4.heap.size, 0, none⟩ 1 1 [.int .i64 (p : Int), .int .i64 (q : Int)] rfl rfl (cell_two_new _ _ _ _) (fun x hx => by simp at hx; rcases hx with rfl | rfl <;> rfl) (by decide) (by unfold maxLen; omega) (by omega) (by simp; omega) _ rfl ?_; intro g' cap' w3 hown' hgrow3 hlie hlt3))
              obtain ⟨A2, A3⟩ := prs_app GP.out GB.out (by omega) hown' hgrow3
              rw [← KY2.out.1, ← KY2.out.2] at A2
              replace GH := (GH.alloc (.cells #[.int .i64 (p : Int), .int .i64 (q : Int)] 50)).grown hgrow3 (fun j hj => by have := Prs.own GP.out j hj; omega)
              replace GD := (GD.alloc (.cells #[.int .i64 (p : Int), .int .i64 (q : Int)] 50)).grown hgrow3 (fun j hj => by have := Prs.own GP.out j hj; omega)
              have hgl := (GA.out.lt hN0).2
              replace GA := Lib.hid ((GA.out.alloc (.cells #[.int .i64 (p : Int), .int .i64 (q : Int)] 50)).grownP hgrow3 (fun hn j hj => .inr (fun e => by
                simp only [Value.ownBlock, Option.some.injEq] at e
                exact NG.out j hj e.symm)))
              have KN2 : Hid (0 < N → ∀ j, (Value.slice (some ⟨g', 0, none⟩) (m + 1) cap').ownBlock = some j → (Value.slice (some ⟨g, 0, none⟩) N acap).ownBlock ≠ some j) := Lib.hid (fun hn j hj e => by
                simp only [Value.ownBlock, Option.some.injEq] at hj e
                subst hj
                rcases hlie with h1 | h1
                · exact NG.out _ h1 e.symm
                · rw [size1] at h1; omega)
              have B2 := Lib.hid A2
              have B3 : Hid (Kept w w3) := Lib.hid A3
              have EM : Hid (m + 1 = filtN (fun x y : Int => saP ns ds x.toNat y.toNat) F (k + 1)) := Lib.hid KY2.out.2.symm
              clear hown' hgrow3 hlie hlt3 A2 A3 GP GB hgl BP R1 R2 R3
              go_wp2_with fail
              go_roundw
              case rel => exact ⟨k + 1, by omega, by go_num, GH, GD, GA, by rw [← EM.out] at B2 ⊢; exact B2, B3, KN2⟩
              case measure => simp [intOf]; omega
            · have KN2 := Lib.hid (KNO.out (by rw [KPQ.out, ← SE.out, decide_eq_false hAC, Bool.and_false]))
              have q2 : decide (A = C) = false := decide_eq_false hAC
              clear KY KNO SE hAC
              have B2 : Hid (Prs V4 (w.heap.size + 1 + 1) u6 (filtN (fun x y : Int => saP ns ds x.toNat y.toNat) F (k + 1)) (filtF (fun x y : Int => saP ns ds x.toNat y.toNat) F (k + 1))) := Lib.hid (by rw [KN2.out.1, KN2.out.2]; exact GP.out)
              have KN3 : Hid (0 < N → ∀ j, u6.ownBlock = some j → (Value.slice (some ⟨g, 0, none⟩) N acap).ownBlock ≠ some j) := Lib.hid (fun hn j hj e => by
                simp only [Value.ownBlock, Option.some.injEq] at e
                exact NG.out j hj e.symm)
              clear BP
              go_wp2_with (first | (refine load_has rfl 30 _ rfl _ rfl ?_ 24 ?_ _ Try.underlying30 rfl ?_ ?_; rotate_left; (· (repeat (first | (with_reducible assumption) | ((with_reducible refine Has.box _ _ ?_ ?_) <;> (first | assumption | decide)) | (with_reducible refine Has.alloc ?_ _) | ((with_reducible refine Has.putOther ?_ _ _ ?_); rotate_left; omega; skip) | ((with_reducible refine Has.below ?_ ?_); rotate_left; assumption)))); (· kernel_rfl)) | (refine eql_has rfl 30 30 _ _ rfl A A rfl rfl EQM.out (eqRackT A A lA lA) ?_; rw [q1]) | (refine eql_has rfl 30 30 _ _ rfl A C rfl rfl EQM.out (eqRackT A C lA lC) ?_; rw [q2]))
              go_roundw
              case rel => exact ⟨k + 1, by omega, by go_num, GH, GD, GA, B2, GB, KN3⟩
              case measure => simp [intOf]; omega
          · have KN2 := Lib.hid (KNO.out (by rw [KPQ.out, ← SE.out, decide_eq_false hAB]; rfl))
            have q1 : decide (A = B) = false := decide_eq_false hAB
            clear KY KNO SE hAB
            have B2 : Hid (Prs V4 (w.heap.size + 1 + 1) u6 (filtN (fun x y : Int => saP ns ds x.toNat y.toNat) F (k + 1)) (filtF (fun x y : Int => saP ns ds x.toNat y.toNat) F (k + 1))) := Lib.hid (by rw [KN2.out.1, KN2.out.2]; exact GP.out)
            have KN3 : Hid (0 < N → ∀ j, u6.ownBlock = some j → (Value.slice (some ⟨g, 0, none⟩) N acap).ownBlock ≠ some j) := Lib.hid (fun hn j hj e => by
              simp only [Value.ownBlock, Option.some.injEq] at e
              exact NG.out j hj e.symm)
            clear BP
            go_wp2_with (first | (refine load_has rfl 30 _ rfl _ rfl ?_ 24 ?_ _ Try.underlying30 rfl ?_ ?_; rotate_left; (· (repeat (first | (with_reducible assumption) | ((with_reducible refine Has.box _ _ ?_ ?_) <;> (first | assumption | decide)) | (with_reducible refine Has.alloc ?_ _) | ((with_reducible refine Has.putOther ?_ _ _ ?_); rotate_left; omega; skip) | ((with_reducible refine Has.below ?_ ?_); rotate_left; assumption)))); (· kernel_rfl)) | (refine eql_has rfl 30 30 _ _ rfl A B rfl rfl EQM.out (eqRackT A B lA lB) ?_; rw [q1]))
            go_roundw
            case rel => exact ⟨k + 1, by omega, by go_num, GH, GD, GA, B2, GB, KN3⟩
            case measure => simp [intOf]; omega
      · obtain rfl : k = N := by omega
        go_wp2_with fail
        go_ret2
        exact ⟨_, by rw [HF.out]; rfl, by rw [E1.out, E2.out, ← FL.out.1, ← FL.out.2]; exact GP.out.rw.mono (by omega), GB.out⟩
  · have hff : fitA ns ds = false := by simpa using hf
    have E1 := Lib.hid (show saNA ns ds = 0 by unfold saNA; rw [hff]; rfl)
    have E2 := Lib.hid (show saFA ns ds = [] by unfold saFA; rw [hff]; rfl)
    have HF := Lib.hid hff
    rw [hff]
    clear hf hff
    go_wp2_with fail
    go_ret2
    exact ⟨_, by rw [HF.out]; rfl, by rw [E1.out, E2.out]; exact P1.out.rw.mono (by omega), HB.out⟩
end Go.Proofs.Ytcedpjjfcfeokab.base
