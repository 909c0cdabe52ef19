/-
  Pours that move a top of one layer, on the model's side, walked.
-/
import Derived.Test.YtcedpjjfcfeokabComM
import Derived.Test.YtcedpjjfcfeokabByS
import Derived.Test.YtcedpjjfcfeokabRwL
import Derived.Test.YtcedpjjfcfeokabInP
namespace Go.Proofs.Ytcedpjjfcfeokab.base
open Go.ChangeShapes Go.WideShapes Go.ChangeAt Go.RowKit
set_option linter.unusedVariables false
set_option linter.unusedSimpArgs false

def SamPost (ns ds : List Int) (w : World) (e : Ending) (w' : World) : Prop := ∃ v : Value, e = .returned (.tuple #[v, .bool (fitA ns ds)]) ∧ Rw w' w.heap.size v (saNA ns ds) (saFA ns ds) ∧ Kept w w'

set_option maxHeartbeats 3200000 in
set_option maxRecDepth 100000 in
theorem specSame (ns ds : List Int) (w : World) (h24 : ns.length = 24) (h6 : ds.length = 6) :
    Calls Try.prog 15 #[row ns, row ds] w (SamPost ns ds w) := by
  obtain ⟨i0, hi, hz0, hz1, hz2⟩ := info_parts infoPair
  have HB := Lib.hid ((((kept_refl w).alloc (.cells (ints ns).toArray 30)).alloc (.cells (ints ds).toArray 26)).alloc (.cells #[] 50))
  have H := ((Has.box w 30 h24 (by omega)).alloc (.cells (ints ds).toArray 26)).alloc (.cells #[] 50)
  have D := ((Has.box (w.alloc (.cells (ints ns).toArray 30)) 26 h6 (by omega)).at (size1 _ _)).alloc (.cells #[] 50)
  have P0 := Prs.none ((w.alloc (.cells (ints ns).toArray 30)).alloc (.cells (ints ds).toArray 26)) (w.heap.size + 1 + 1) (by simp)
  rw [size1, size1] at P0
  have P1 := Lib.hid P0
  clear P0
  have hiR : (Try.prog.info? 30).map (·.size) = some (ints ns).length := by rw [ints_len, h24]; kernel_rfl
  have hiD : (Try.prog.info? 26).map (·.size) = some (ints ds).length := by rw [ints_len, h6]; kernel_rfl
  have HIR := Lib.hid hiR
  have HID := Lib.hid hiD
  clear hiR hiD
  rw [row_ints, row_ints]
  go_enter Try.func15, Try.ntmps15
  go_wp2_with (first | (refine load_has rfl 30 _ rfl _ rfl ?_ 24 ?_ _ Try.underlying30 rfl ?_ ?_; rotate_left; (· (repeat (first | (with_reducible assumption) | ((with_reducible refine Has.box _ _ ?_ ?_) <;> (first | assumption | decide)) | (with_reducible refine Has.alloc ?_ _) | ((with_reducible refine Has.putOther ?_ _ _ ?_); rotate_left; omega; skip) | ((with_reducible refine Has.below ?_ ?_); rotate_left; assumption)))); (· kernel_rfl)) | (refine load_has rfl 26 _ rfl _ rfl ?_ 6 ?_ _ Try.underlying26 rfl ?_ ?_; rotate_left; (· (repeat (first | (with_reducible assumption) | ((with_reducible refine Has.box _ _ ?_ ?_) <;> (first | assumption | decide)) | (with_reducible refine Has.alloc ?_ _) | ((with_reducible refine Has.putOther ?_ _ _ ?_); rotate_left; omega; skip) | ((with_reducible refine Has.below ?_ ?_); rotate_left; assumption)))); (· kernel_rfl)))
  generalize (((w.alloc (.cells (ints ns).toArray 30)).alloc (.cells (ints ds).toArray 26)).alloc (.cells #[] 50)) = W at *
  refine (l8Fits_any ns ds _ h24 h6).mono ?_
  rintro e w1 ⟨rfl, b1⟩
  replace H := H.below b1
  replace D := D.below b1
  replace P1 := Lib.hid (P1.out.below b1)
  replace HB := Lib.hid (HB.out.call b1)
  have h0L : w.heap.size + 1 + 1 < w1.heap.size := (World.ownsRow.lt P1.out _ rfl).2
  clear b1
  by_cases hf : fitA ns ds = true
  · have HF := Lib.hid hf
    have H24 := Lib.hid h24
    have H6 := Lib.hid h6
    have E1 := Lib.hid (show saNA ns ds = pN (saP ns ds) 36 by unfold saNA; rw [if_pos hf])
    have E2 := Lib.hid (show saFA ns ds = pF (saP ns ds) 36 by unfold saFA; rw [if_pos hf])
    rw [hf]
    clear h24 h6 hf
    go_wp2_with (first | (refine load_has rfl 30 _ rfl _ rfl ?_ 24 ?_ _ Try.underlying30 rfl ?_ ?_; rotate_left; (· (repeat (first | (with_reducible assumption) | ((with_reducible refine Has.box _ _ ?_ ?_) <;> (first | assumption | decide)) | (with_reducible refine Has.alloc ?_ _) | ((with_reducible refine Has.putOther ?_ _ _ ?_); rotate_left; omega; skip) | ((with_reducible refine Has.below ?_ ?_); rotate_left; assumption)))); (· kernel_rfl)) | (refine load_has rfl 26 _ rfl _ rfl ?_ 6 ?_ _ Try.underlying26 rfl ?_ ?_; rotate_left; (· (repeat (first | (with_reducible assumption) | ((with_reducible refine Has.box _ _ ?_ ?_) <;> (first | assumption | decide)) | (with_reducible refine Has.alloc ?_ _) | ((with_reducible refine Has.putOther ?_ _ _ ?_); rotate_left; omega; skip) | ((with_reducible refine Has.below ?_ ?_); rotate_left; assumption)))); (· kernel_rfl)))
    refine (l8Pours_any ns ds 1 _ H24.out H6.out HF.out rfl).mono ?_
    rintro e w2 ⟨va, rfl, q2, b2⟩
    have IN := Lib.hid (in_pF (byP ns ds 1) 36 (Nat.le_refl _))
    have hN := pN_le (byP ns ds 1) 36
    have FL := Lib.hid (show filtN (fun x y : Int => saP ns ds x.toNat y.toNat) (pF (byP ns ds 1) 36) (pN (byP ns ds 1) 36) = pN (saP ns ds) 36 ∧ filtF (fun x y : Int => saP ns ds x.toNat y.toNat) (pF (byP ns ds 1) 36) (pN (byP ns ds 1) 36) = pF (saP ns ds) 36 by
      rw [filtN_pN, filt_pF]
      have ex : ∀ p q, p < 6 → q < 6 → (byP ns ds 1 p q && (fun x y : Int => saP ns ds x.toNat y.toNat) (p : Int) (q : Int)) = (saP ns ds) p q := fun p q hp hq => by exact sa_by p q
      rw [pF_ext ex 36 (Nat.le_refl _), pN_ext ex]
      exact ⟨rfl, rfl⟩)
    obtain ⟨F, hF⟩ : ∃ F, pF (byP ns ds 1) 36 = F := ⟨_, rfl⟩
    obtain ⟨N, hNN⟩ : ∃ N, pN (byP ns ds 1) 36 = N := ⟨_, rfl⟩
    rw [hF, hNN] at q2 IN FL
    rw [hNN] at hN
    obtain ⟨aa, acap, hva⟩ := q2.rw.shape
    subst hva
    have RA := Lib.hid q2.rw
    have OA : Hid (0 < N → ∀ k, (Value.slice aa N acap).ownBlock = some k → w1.heap.size ≤ k) := Lib.hid (fun hn k hk => (q2.rw.ownlt hn k hk).1)
    replace H := H.below b2
    replace D := D.below b2
    replace P1 := Lib.hid (P1.out.below b2)
    replace HB := Lib.hid (HB.out.call b2)
    clear b2 q2 hF hNN
    have Q0 : Hid (Prs w2 (w.heap.size + 1 + 1) (.slice (some ⟨w.heap.size + 1 + 1, 0, none⟩) 0 0) (filtN (fun x y : Int => saP ns ds x.toNat y.toNat) F 0) (filtF (fun x y : Int => saP ns ds x.toNat y.toNat) F 0)) := Lib.hid (by rw [filt0.1, filt0.2]; exact P1.out)
    have KN0 : Hid (0 < N → ∀ k, (Value.slice (some ⟨w.heap.size + 1 + 1, 0, none⟩) 0 0).ownBlock = some k → (Value.slice aa N acap).ownBlock ≠ some k) := Lib.hid (fun hn k hk e => by
      have := OA.out hn k e
      simp only [Value.ownBlock, Option.some.injEq] at hk
      omega)
    clear P1
    go_wp2_with fail
    go_loopw [6, 8] (fun v i wr => ∃ k : Nat, k ≤ N ∧ i = .int .i64 k ∧ Has wr w.heap.size ns 24 ∧ Has wr (w.heap.size + 1) ds 6 ∧ Hid (Rw wr w1.heap.size (.slice aa N acap) N F) ∧ Hid (Prs wr (w.heap.size + 1 + 1) v (filtN (fun x y : Int => saP ns ds x.toNat y.toNat) F k) (filtF (fun x y : Int => saP ns ds x.toNat y.toNat) F k)) ∧ Hid (Kept w wr) ∧ Hid (0 < N → ∀ k, v.ownBlock = some k → (Value.slice aa N acap).ownBlock ≠ some k)) (fun _ i _ => N - (intOf i).toNat)
    case atStart => exact ⟨0, by omega, rfl, H, D, RA, Q0, HB, KN0⟩
    case round =>
      obtain ⟨k, hk, rfl, GH, GD, GA, GP, GB, KN⟩ := hrel
      clear H D RA Q0 HB KN0
      by_cases hkn : k < N
      · have hki : (k : Int) < (N : Int) := by omega
        have hk0 : (0 : Int) ≤ (k : Int) := by omega
        have hN0 : 0 < N := by omega
        obtain ⟨g, cap2, hv', hg1, hg2⟩ := GA.out.form (by omega)
        injection hv' with ha _ hcap
        subst ha
        subst hcap
        obtain ⟨p, q, hp6, hq6, hPP, hx, hy⟩ := IN.out k hkn
        have HX := Lib.hid hx
        have HY := Lib.hid hy
        have KY := Lib.hid (fun h => filt_yes (P := fun x y : Int => saP ns ds x.toNat y.toNat) (fs := F) (k := k) h)
        have KNO := Lib.hid (fun h => filt_no (P := fun x y : Int => saP ns ds x.toNat y.toNat) (fs := F) (k := k) h)
        have hfl := filtN_le (P := fun x y : Int => saP ns ds x.toNat y.toNat) (fs := F) k
        rw [hx, hy] at KY KNO
        have KPQ := Lib.hid (show (fun x y : Int => saP ns ds x.toNat y.toNat) (p : Int) (q : Int) =  saP ns ds p q by simp)
        have hpi : (p : Int) < 6 := by omega
        have hqi : (q : Int) < 6 := by omega
        have NG : Hid (∀ k, u6.ownBlock = some k → k ≠ g) := Lib.hid (fun k hk e => KN.out hN0 k hk (by rw [e]; rfl))
        clear hx hy hPP hg1 hg2 KN
        obtain ⟨m, hm⟩ : ∃ m : Nat, filtN (fun x y : Int => saP ns ds x.toNat y.toNat) F k = m := ⟨_, rfl⟩
        have HMF := Lib.hid hm
        rw [hm] at GP KY KNO hfl
        clear hm
        replace GH := GH.drew
        replace GD := GD.drew
        replace GA := Lib.hid GA.out.drew
        replace GP : Hid (Prs _ (w.heap.size + 1 + 1) u6 m (filtF (fun x y : Int => saP ns ds x.toNat y.toNat) F k)) := Lib.hid GP.out.drew
        replace GB := Lib.hid (keptDrew8 GB.out)
        go_wp2_with fail
        refine wp_region_held_drew (S := fun w' => Rw w' w1.heap.size (.slice (some ⟨g, 0, none⟩) N acap) N F) (by kernel_rfl) GA.out (fun hHeld => ?_)
        (refine wpAnyH_take (i := 0) (v := ?_) rfl (by kernel_rfl) (by kernel_rfl) (by kernel_rfl) (fun _ _ _ h => h) (Or.inl ⟨by rfl, ?_⟩) hHeld ?_; rotate_left; (· (intro w' hSw; go_simp; try with_reducible rfl)); (try simp only [List.getElem_toArray, List.getElem_cons_zero, List.getElem_cons_succ, Act.put, List.setIfInBounds_toArray, List.set_cons_zero, List.set_cons_succ])); (refine wpAnyH_take (i := 1) (v := ?_) rfl (by kernel_rfl) (by kernel_rfl) (by kernel_rfl) (fun _ _ _ h => h) (Or.inl ⟨by rfl, ?_⟩) hHeld ?_; rotate_left; (· (intro w' hSw; go_simp; try with_reducible rfl)); (try simp only [List.getElem_toArray, List.getElem_cons_zero, List.getElem_cons_succ, Act.put, List.setIfInBounds_toArray, List.set_cons_zero, List.set_cons_succ])); (refine wpAnyH_take (i := 2) (v := ?_) rfl (by kernel_rfl) (by kernel_rfl) (by kernel_rfl) (fun _ _ _ h => h) (Or.inl ⟨by rfl, ?_⟩) hHeld ?_; rotate_left; (· (intro w' hSw; go_simp; try with_reducible rfl)); (try simp only [List.getElem_toArray, List.getElem_cons_zero, List.getElem_cons_succ, Act.put, List.setIfInBounds_toArray, List.set_cons_zero, List.set_cons_succ])); (refine wpAnyH_take (i := 3) (v := ?_) rfl (by kernel_rfl) (by kernel_rfl) (by kernel_rfl) (fun _ _ _ h => h) (Or.inl ⟨by rfl, ?_⟩) hHeld ?_; rotate_left; (· (intro w' hSw; go_simp; try with_reducible rfl)); (try simp only [List.getElem_toArray, List.getElem_cons_zero, List.getElem_cons_succ, Act.put, List.setIfInBounds_toArray, List.set_cons_zero, List.set_cons_succ]))
        (refine wpAnyH_take (i := 4) (v := .int .i64 (p : Int)) rfl (by kernel_rfl) (by kernel_rfl) (by kernel_rfl) (fun _ _ _ h => h) (Or.inl ⟨by rfl, ?_⟩) hHeld ?_; (· (intro w' hSw; have q := hSw.cellX (by omega) HX.out; clear hSw; go_simp; try with_reducible rfl)); (try simp only [List.getElem_toArray, List.getElem_cons_zero, List.getElem_cons_succ, Act.put, List.setIfInBounds_toArray, List.set_cons_zero, List.set_cons_succ]))
        (refine wpAnyH_take (i := 5) (v := ?_) rfl (by kernel_rfl) (by kernel_rfl) (by kernel_rfl) (fun _ _ _ h => h) (Or.inl ⟨by rfl, ?_⟩) hHeld ?_; rotate_left; (· (intro w' hSw; go_simp; try with_reducible rfl)); (try simp only [List.getElem_toArray, List.getElem_cons_zero, List.getElem_cons_succ, Act.put, List.setIfInBounds_toArray, List.set_cons_zero, List.set_cons_succ])); (refine wpAnyH_take (i := 6) (v := ?_) rfl (by kernel_rfl) (by kernel_rfl) (by kernel_rfl) (fun _ _ _ h => h) (Or.inl ⟨by rfl, ?_⟩) hHeld ?_; rotate_left; (· (intro w' hSw; go_simp; try with_reducible rfl)); (try simp only [List.getElem_toArray, List.getElem_cons_zero, List.getElem_cons_succ, Act.put, List.setIfInBounds_toArray, List.set_cons_zero, List.set_cons_succ])); (refine wpAnyH_take (i := 7) (v := ?_) rfl (by kernel_rfl) (by kernel_rfl) (by kernel_rfl) (fun _ _ _ h => h) (Or.inl ⟨by rfl, ?_⟩) hHeld ?_; rotate_left; (· (intro w' hSw; go_simp; try with_reducible rfl)); (try simp only [List.getElem_toArray, List.getElem_cons_zero, List.getElem_cons_succ, Act.put, List.setIfInBounds_toArray, List.set_cons_zero, List.set_cons_succ])); (refine wpAnyH_take (i := 8) (v := ?_) rfl (by kernel_rfl) (by kernel_rfl) (by kernel_rfl) (fun _ _ _ h => h) (Or.inl ⟨by rfl, ?_⟩) hHeld ?_; rotate_left; (· (intro w' hSw; go_simp; try with_reducible rfl)); (try simp only [List.getElem_toArray, List.getElem_cons_zero, List.getElem_cons_succ, Act.put, List.setIfInBounds_toArray, List.set_cons_zero, List.set_cons_succ]))
        (refine wpAnyH_take (i := 9) (v := .int .i64 (q : Int)) rfl (by kernel_rfl) (by kernel_rfl) (by kernel_rfl) (fun _ _ _ h => h) (Or.inl ⟨by rfl, ?_⟩) hHeld ?_; (· (intro w' hSw; have q := hSw.cellX (by omega) HY.out; clear hSw; go_simp; try with_reducible rfl)); (try simp only [List.getElem_toArray, List.getElem_cons_zero, List.getElem_cons_succ, Act.put, List.setIfInBounds_toArray, List.set_cons_zero, List.set_cons_succ]))
        (refine wpAnyH_take (i := 10) (v := ?_) rfl (by kernel_rfl) (by kernel_rfl) (by kernel_rfl) (fun _ _ _ h => h) (Or.inl ⟨by rfl, ?_⟩) hHeld ?_; rotate_left; (· (intro w' hSw; go_simp; try with_reducible rfl)); (try simp only [List.getElem_toArray, List.getElem_cons_zero, List.getElem_cons_succ, Act.put, List.setIfInBounds_toArray, List.set_cons_zero, List.set_cons_succ])); (refine wpAnyH_take (i := 11) (v := ?_) rfl (by kernel_rfl) (by kernel_rfl) (by kernel_rfl) (fun _ _ _ h => h) (Or.inl ⟨by rfl, ?_⟩) hHeld ?_; rotate_left; (· (intro w' hSw; go_simp; try with_reducible rfl)); (try simp only [List.getElem_toArray, List.getElem_cons_zero, List.getElem_cons_succ, Act.put, List.setIfInBounds_toArray, List.set_cons_zero, List.set_cons_succ]))
        refine wpAnyH_done (by kernel_rfl) ?_ _
        clear hHeld
        have ES := Lib.hid (show saP ns ds p q = (decide (mvN ns ds 1 p q = 1) && decide (mvN ns ds 3 p q = 1)) from rfl)
        go_wp2_with (first | (refine load_has rfl 30 _ rfl _ rfl ?_ 24 ?_ _ Try.underlying30 rfl ?_ ?_; rotate_left; (· (repeat (first | (with_reducible assumption) | ((with_reducible refine Has.box _ _ ?_ ?_) <;> (first | assumption | decide)) | (with_reducible refine Has.alloc ?_ _) | ((with_reducible refine Has.putOther ?_ _ _ ?_); rotate_left; omega; skip) | ((with_reducible refine Has.below ?_ ?_); rotate_left; assumption)))); (· kernel_rfl)) | (refine load_has rfl 26 _ rfl _ rfl ?_ 6 ?_ _ Try.underlying26 rfl ?_ ?_; rotate_left; (· (repeat (first | (with_reducible assumption) | ((with_reducible refine Has.box _ _ ?_ ?_) <;> (first | assumption | decide)) | (with_reducible refine Has.alloc ?_ _) | ((with_reducible refine Has.putOther ?_ _ _ ?_); rotate_left; omega; skip) | ((with_reducible refine Has.below ?_ ?_); rotate_left; assumption)))); (· kernel_rfl)))
        refine (l8Moves_any ns ds 1 p q _ H24.out H6.out HF.out rfl hp6 hq6).mono ?_
        rintro e wa ⟨rfl, b5⟩
        replace GH := GH.below b5
        replace GD := GD.below b5
        replace GA := Lib.hid (GA.out.below b5)
        replace GP := Lib.hid (GP.out.below b5)
        replace GB := Lib.hid (GB.out.call b5)
        clear b5
        obtain ⟨m1, hm1⟩ : ∃ m1 : Nat, mvN ns ds 1 p q = m1 := ⟨_, rfl⟩
        rw [hm1] at ES ⊢
        clear hm1
        by_cases h1 : m1 = 1
        · have ES2 := Lib.hid (show saP ns ds p q = decide (mvN ns ds 3 p q = 1) by rw [ES.out, decide_eq_true h1, Bool.true_and])
          subst h1
          go_wp2_with (first | (refine load_has rfl 30 _ rfl _ rfl ?_ 24 ?_ _ Try.underlying30 rfl ?_ ?_; rotate_left; (· (repeat (first | (with_reducible assumption) | ((with_reducible refine Has.box _ _ ?_ ?_) <;> (first | assumption | decide)) | (with_reducible refine Has.alloc ?_ _) | ((with_reducible refine Has.putOther ?_ _ _ ?_); rotate_left; omega; skip) | ((with_reducible refine Has.below ?_ ?_); rotate_left; assumption)))); (· kernel_rfl)) | (refine load_has rfl 26 _ rfl _ rfl ?_ 6 ?_ _ Try.underlying26 rfl ?_ ?_; rotate_left; (· (repeat (first | (with_reducible assumption) | ((with_reducible refine Has.box _ _ ?_ ?_) <;> (first | assumption | decide)) | (with_reducible refine Has.alloc ?_ _) | ((with_reducible refine Has.putOther ?_ _ _ ?_); rotate_left; omega; skip) | ((with_reducible refine Has.below ?_ ?_); rotate_left; assumption)))); (· kernel_rfl)))
          refine (l8Moves_any ns ds 3 p q _ H24.out H6.out HF.out rfl hp6 hq6).mono ?_
          rintro e wb ⟨rfl, b5⟩
          replace GH := GH.below b5
          replace GD := GD.below b5
          replace GA := Lib.hid (GA.out.below b5)
          replace GP := Lib.hid (GP.out.below b5)
          replace GB := Lib.hid (GB.out.call b5)
          clear b5
          obtain ⟨m3, hm3⟩ : ∃ m3 : Nat, mvN ns ds 3 p q = m3 := ⟨_, rfl⟩
          rw [hm3] at ES2 ⊢
          clear hm3
          by_cases h3 : m3 = 1
          · have KY2 := Lib.hid (KY.out (by rw [KPQ.out, ES2.out, decide_eq_true h3]))
            have RG := Lib.hid (range_prP GA.out k hkn HX.out HY.out)
            have hbs := GB.out.size
            have hlt := GD.lt
            subst h3
            clear KY KNO
            go_wp2_with (first | (refine wpList_load_mid rfl 50 _ rfl g (k * 2) rfl [.int .i64 (p : Int), .int .i64 (q : Int)] _ RG.out Try.underlying50 rfl (by kernel_rfl) ?_) | (at_builtin; refine wpList_append_lies _ rfl _ _ 27 rfl (w.heap.size + 1 + 1) 50 i0 (.agg #[.int .i64 0, .int .i64 0]) 2 16 Try.underlying27 hi hz0 hz1 hz2 rfl (by decide) _ m (ints (filtF (fun x y : Int => saP ns ds x.toNat y.toNat) F k)) rfl (World.ownsRow.alloc GP.out _) ⟨wb.heap.size, 0, none⟩ 1 1 [.int .i64 (p : Int), .int .i64 (q : Int)] rfl rfl (cell_two_new _ _ _ _) (fun x hx => by simp at hx; rcases hx with rfl | rfl <;> rfl) (by decide) (by unfold maxLen; omega) (by omega) (by simp; omega) _ rfl ?_; intro g' cap' w3 hown' hgrow3 hlie hlt3))
            obtain ⟨A2, A3⟩ := prs_app GP.out GB.out (by omega) hown' hgrow3
            rw [← KY2.out.1, ← KY2.out.2] at A2
            replace GH := (GH.alloc (.cells #[.int .i64 (p : Int), .int .i64 (q : Int)] 50)).grown hgrow3 (fun j hj => by have := Prs.own GP.out j hj; omega)
            replace GD := (GD.alloc (.cells #[.int .i64 (p : Int), .int .i64 (q : Int)] 50)).grown hgrow3 (fun j hj => by have := Prs.own GP.out j hj; omega)
            have hgl := (GA.out.lt hN0).2
            replace GA := Lib.hid ((GA.out.alloc (.cells #[.int .i64 (p : Int), .int .i64 (q : Int)] 50)).grownP hgrow3 (fun hn j hj => .inr (fun e => by
              simp only [Value.ownBlock, Option.some.injEq] at e
              exact NG.out j hj e.symm)))
            have KN2 : Hid (0 < N → ∀ j, (Value.slice (some ⟨g', 0, none⟩) (m + 1) cap').ownBlock = some j → (Value.slice (some ⟨g, 0, none⟩) N acap).ownBlock ≠ some j) := Lib.hid (fun hn j hj e => by
              simp only [Value.ownBlock, Option.some.injEq] at hj e
              subst hj
              rcases hlie with h1 | h1
              · exact NG.out _ h1 e.symm
              · rw [size1] at h1; omega)
            have B2 := Lib.hid A2
            have B3 : Hid (Kept w w3) := Lib.hid A3
            have EM : Hid (m + 1 = filtN (fun x y : Int => saP ns ds x.toNat y.toNat) F (k + 1)) := Lib.hid KY2.out.2.symm
            clear hown' hgrow3 hlie hlt3 A2 A3 GP GB RG hgl
            go_wp2_with fail
            go_roundw
            case rel => exact ⟨k + 1, by omega, by go_num, GH, GD, GA, by rw [← EM.out] at B2 ⊢; exact B2, B3, KN2⟩
            case measure => simp [intOf]; omega
          · have KN2 := Lib.hid (KNO.out (by rw [KPQ.out, ES2.out, decide_eq_false h3]))
            have n1 : ((m3 : Int) == 1) = false := by simp; omega
            have n2 : (m3 == 1) = false := by simp; omega
            have n3 : decide (m3 = 1) = false := decide_eq_false h3
            clear KY KNO h3
            have B2 : Hid (Prs wb (w.heap.size + 1 + 1) u6 (filtN (fun x y : Int => saP ns ds x.toNat y.toNat) F (k + 1)) (filtF (fun x y : Int => saP ns ds x.toNat y.toNat) F (k + 1))) := Lib.hid (by rw [KN2.out.1, KN2.out.2]; exact GP.out)
            have KN3 : Hid (0 < N → ∀ j, u6.ownBlock = some j → (Value.slice (some ⟨g, 0, none⟩) N acap).ownBlock ≠ some j) := Lib.hid (fun hn j hj e => by
              simp only [Value.ownBlock, Option.some.injEq] at e
              exact NG.out j hj e.symm)
            go_wp2_with fail
            go_roundw
            case rel => exact ⟨k + 1, by omega, by go_num, GH, GD, GA, B2, GB, KN3⟩
            case measure => simp [intOf]; omega
        · have KN2 := Lib.hid (KNO.out (by rw [KPQ.out, ES.out, decide_eq_false h1, Bool.false_and]))
          have n1 : ((m1 : Int) == 1) = false := by simp; omega
          have n2 : (m1 == 1) = false := by simp; omega
          have n3 : decide (m1 = 1) = false := decide_eq_false h1
          clear KY KNO h1
          have B2 : Hid (Prs wa (w.heap.size + 1 + 1) u6 (filtN (fun x y : Int => saP ns ds x.toNat y.toNat) F (k + 1)) (filtF (fun x y : Int => saP ns ds x.toNat y.toNat) F (k + 1))) := Lib.hid (by rw [KN2.out.1, KN2.out.2]; exact GP.out)
          have KN3 : Hid (0 < N → ∀ j, u6.ownBlock = some j → (Value.slice (some ⟨g, 0, none⟩) N acap).ownBlock ≠ some j) := Lib.hid (fun hn j hj e => by
            simp only [Value.ownBlock, Option.some.injEq] at e
            exact NG.out j hj e.symm)
          go_wp2_with fail
          go_roundw
          case rel => exact ⟨k + 1, by omega, by go_num, GH, GD, GA, B2, GB, KN3⟩
          case measure => simp [intOf]; omega
      · obtain rfl : k = N := by omega
        go_wp2_with fail
        go_ret2
        exact ⟨_, by rw [HF.out]; rfl, by rw [E1.out, E2.out, ← FL.out.1, ← FL.out.2]; exact GP.out.rw.mono (by omega), GB.out⟩
  · have hff : fitA ns ds = false := by simpa using hf
    have E1 := Lib.hid (show saNA ns ds = 0 by unfold saNA; rw [hff]; rfl)
    have E2 := Lib.hid (show saFA ns ds = [] by unfold saFA; rw [hff]; rfl)
    have HF := Lib.hid hff
    rw [hff]
    clear hf hff
    go_wp2_with fail
    go_ret2
    exact ⟨_, by rw [HF.out]; rfl, by rw [E1.out, E2.out]; exact P1.out.rw.mono (by omega), HB.out⟩
end Go.Proofs.Ytcedpjjfcfeokab.base
