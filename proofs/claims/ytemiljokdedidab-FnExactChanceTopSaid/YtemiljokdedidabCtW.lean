/-
  The chance of a top, on both sides, and its law, walked.
-/
import Derived.Test.YtemiljokdedidabTopW
namespace Go.Proofs.Ytemiljokdedidab.base
open Go.ChangeShapes Go.WideShapes Go.ChangeAt Go.RowKit
set_option linter.unusedVariables false
set_option linter.unusedSimpArgs false

def ctOk (vs : List Int) (i r : Int) : Bool := vV vs && decide (0 ≤ i ∧ i < 6) && decide (vMany vs i.toNat ≠ 0) && decide (1 ≤ r ∧ r ≤ 4)
def ctA (vs : List Int) (i r : Int) : List Int := if ctOk vs i r = true then topF vs i.toNat r.toNat else z2
theorem ctA_len (vs : List Int) (i r : Int) : (ctA vs i r).length = 2 := by
  unfold ctA; split <;> rfl
theorem ctOk_not {vs : List Int} {i r : Int} (h : ¬ (vV vs = true ∧ (0 ≤ i ∧ i < 6) ∧ vMany vs i.toNat ≠ 0 ∧ (1 ≤ r ∧ r ≤ 4))) : ctOk vs i r = false ∧ ctA vs i r = z2 := by
  have : ctOk vs i r = false := by
    cases hb : ctOk vs i r with
    | false => rfl
    | true =>
      unfold ctOk at hb
      simp only [Bool.and_eq_true, decide_eq_true_eq] at hb
      exact absurd ⟨hb.1.1.1, hb.1.1.2, hb.1.2, hb.2⟩ h
  refine ⟨this, ?_⟩
  unfold ctA; rw [this]; rfl
theorem ctOk_yes {vs : List Int} {p q : Nat} (hv : vV vs = true) (hp : p < 6) (hm : vMany vs p ≠ 0) (h1 : 1 ≤ q) (h4 : q ≤ 4) : ctOk vs p q = true ∧ ctA vs p q = topF vs p q := by
  have : ctOk vs p q = true := by
    unfold ctOk
    simp only [Bool.and_eq_true, decide_eq_true_eq, Int.toNat_natCast]
    exact ⟨⟨⟨hv, by omega, by omega⟩, hm⟩, by omega, by omega⟩
  refine ⟨this, ?_⟩
  unfold ctA
  rw [if_pos this, Int.toNat_natCast, Int.toNat_natCast]
/-- What the program reckons with. -/
theorem top_nums {vs : List Int} {i m c r : Nat} (h : vs.length = 18) (hv : vV vs = true) (T : TopFacts vs i m c) (h1 : 1 ≤ r) :
    longN vs i (r + 1) ≤ longN vs i r ∧ longN vs i r ≤ ordA (hid vs) ∧ longN vs i 1 = ordA (hid vs) ∧ ordA (hid vs) ≤ 101559956668416 ∧ 0 < ordA (hid vs) :=
  ⟨long_mono h hv T r h1, long_le h hv T r h1, long_one h T, (hid_stk h hv).big (viewFacts h hv).small, (hid_stk h hv).pos⟩
set_option maxHeartbeats 1600000 in
set_option maxRecDepth 100000 in
theorem implCT (vs : List Int) (i r : Int) (w : World) (h : vs.length = 18) (hr : -9223372036854775808 ≤ r ∧ r ≤ 9223372036854775807) :
    Calls Try.prog 24 #[row vs, .int .i64 i, .int .i64 r] w fun e w' => e = .returned (.tuple #[.agg (ints (ctA vs i r)).toArray, .bool (ctOk vs i r)]) ∧ Kept w w' := by
  have H := (Has.box w 31 h (by omega)).alloc (.cells #[.int .i64 0, .int .i64 0] 42)
  have Z := (Has.zero2v (w.alloc (.cells (ints vs).toArray 31)) 42).at (size1 _ _)
  have HB := Lib.hid (((kept_refl w).alloc (.cells (ints vs).toArray 31)).alloc (.cells #[.int .i64 0, .int .i64 0] 42))
  have hz : z2.length = 2 := rfl
  rw [row_ints]
  go_enter Try.func24, Try.ntmps24
  go_wp2_with (refine load_has rfl 31 _ rfl _ rfl ?_ 18 ?_ _ Try.underlying31 rfl ?_ ?_; rotate_left; (· (repeat (first | (with_reducible assumption) | ((with_reducible refine Has.box _ _ ?_ ?_) <;> (first | assumption | decide)) | (with_reducible refine Has.alloc ?_ _) | ((with_reducible refine Has.putOther ?_ _ _ ?_); rotate_left; omega; skip) | ((with_reducible refine Has.below ?_ ?_); rotate_left; assumption)))); (· kernel_rfl))
  refine (implIsView vs _ h).mono ?_
  rintro e w1 ⟨rfl, b1⟩
  have H1 := H.below b1
  have Z1 := Z.below b1
  have HB1 := Lib.hid (HB.out.call b1)
  clear H Z HB b1
  by_cases hv : vV vs = true
  rotate_left
  · have hf : vV vs = false := by simpa using hv
    rw [hf]
    have O := Lib.hid (ctOk_not (vs := vs) (i := i) (r := r) (fun hh => hv hh.1))
    have S1 := Lib.hid (Z1.putAll z2 rfl)
    have S2 := Lib.hid (HB1.out.puts (b := w.heap.size + 1) (by omega) 0 (ints z2))
    clear hv hf
    go_wp2_with (first | (refine build_law rfl 42 rfl _ build2z ?_) | (refine store_at rfl 42 _ _ rfl _ _ rfl rfl ?_ 2 ?_ ?_ ?_ ?_; rotate_left; (· (repeat (first | (with_reducible assumption) | ((with_reducible refine Has.box _ _ ?_ ?_) <;> (first | assumption | decide)) | (with_reducible refine Has.alloc ?_ _) | ((with_reducible refine Has.putOther ?_ _ _ ?_); rotate_left; omega; skip) | ((with_reducible refine Has.below ?_ ?_); rotate_left; assumption)))); (· (first | assumption | rfl)); (· kernel_rfl)))
    exact bodyPost_ret (res_has1 rfl _ _ (w.heap.size + 1) z2 2 _ (.bool false) rfl rfl S1.out Try.underlying42 rfl (by kernel_rfl)) rfl ⟨by rw [O.out.1, O.out.2], S2.out⟩
  rw [hv]
  go_wp2_with fail
  refine (isPlace_any i _).mono ?_
  rintro e w' ⟨rfl, rfl⟩
  by_cases hp : 0 ≤ i ∧ i < 6
  rotate_left
  · rw [decide_eq_false hp]
    have O := Lib.hid (ctOk_not (vs := vs) (i := i) (r := r) (fun hh => hp hh.2.1))
    have S1 := Lib.hid (Z1.putAll z2 rfl)
    have S2 := Lib.hid (HB1.out.puts (b := w.heap.size + 1) (by omega) 0 (ints z2))
    clear hp hv
    go_wp2_with (first | (refine build_law rfl 42 rfl _ build2z ?_) | (refine store_at rfl 42 _ _ rfl _ _ rfl rfl ?_ 2 ?_ ?_ ?_ ?_; rotate_left; (· (repeat (first | (with_reducible assumption) | ((with_reducible refine Has.box _ _ ?_ ?_) <;> (first | assumption | decide)) | (with_reducible refine Has.alloc ?_ _) | ((with_reducible refine Has.putOther ?_ _ _ ?_); rotate_left; omega; skip) | ((with_reducible refine Has.below ?_ ?_); rotate_left; assumption)))); (· (first | assumption | rfl)); (· kernel_rfl)))
    exact bodyPost_ret (res_has1 rfl _ _ (w.heap.size + 1) z2 2 _ (.bool false) rfl rfl S1.out Try.underlying42 rfl (by kernel_rfl)) rfl ⟨by rw [O.out.1, O.out.2], S2.out⟩
  rw [decide_eq_true hp]
  obtain ⟨p, rfl⟩ : ∃ p : Nat, i = (p : Int) := ⟨i.toNat, by omega⟩
  have hp6 : p < 6 := by omega
  have hpi : (p : Int) < 6 := by omega
  clear hp
  have c1 := H1.vCell 1 p (by omega) hp6
  have e1 : (prt vs 1).getD p 0 = vMany vs p := rfl
  rw [e1] at c1
  simp only [Nat.one_mul] at c1
  clear e1
  have HV := Lib.hid hv
  by_cases hm : vMany vs p = 0
  · have O0 := Lib.hid hm
    rw [hm] at c1
    clear hm
    have O := Lib.hid (ctOk_not (vs := vs) (i := (p : Int)) (r := r) (fun hh => hh.2.2.1 (by rw [Int.toNat_natCast]; exact O0.out)))
    have S1 := Lib.hid (Z1.putAll z2 rfl)
    have S2 := Lib.hid (HB1.out.puts (b := w.heap.size + 1) (by omega) 0 (ints z2))
    clear hv
    go_wp2_with (first | (refine build_law rfl 42 rfl _ build2z ?_) | (refine store_at rfl 42 _ _ rfl _ _ rfl rfl ?_ 2 ?_ ?_ ?_ ?_; rotate_left; (· (repeat (first | (with_reducible assumption) | ((with_reducible refine Has.box _ _ ?_ ?_) <;> (first | assumption | decide)) | (with_reducible refine Has.alloc ?_ _) | ((with_reducible refine Has.putOther ?_ _ _ ?_); rotate_left; omega; skip) | ((with_reducible refine Has.below ?_ ?_); rotate_left; assumption)))); (· (first | assumption | rfl)); (· kernel_rfl)))
    exact bodyPost_ret (res_has1 rfl _ _ (w.heap.size + 1) z2 2 _ (.bool false) rfl rfl S1.out Try.underlying42 rfl (by kernel_rfl)) rfl ⟨by rw [O.out.1, O.out.2], S2.out⟩
  obtain ⟨m, c, T⟩ := topFacts h hv p hp6 hm
  have OY := Lib.hid (fun q (h1 : 1 ≤ q) (h4 : q ≤ 4) => ctOk_yes hv hp6 hm h1 h4)
  rw [T.many] at c1
  have mp := T.m1
  have m0 : ((m : Int) == 0) = false := by simp; omega
  have TT := Lib.hid T
  clear hm hv T
  by_cases hr1 : r < 1
  · have d1 : decide (r < 1) = true := decide_eq_true hr1
    have O := Lib.hid (ctOk_not (vs := vs) (i := (p : Int)) (r := r) (fun hh => by have := hh.2.2.2; omega))
    have S1 := Lib.hid (Z1.putAll z2 rfl)
    have S2 := Lib.hid (HB1.out.puts (b := w.heap.size + 1) (by omega) 0 (ints z2))
    clear hr1
    go_wp2_with (first | (refine build_law rfl 42 rfl _ build2z ?_) | (refine store_at rfl 42 _ _ rfl _ _ rfl rfl ?_ 2 ?_ ?_ ?_ ?_; rotate_left; (· (repeat (first | (with_reducible assumption) | ((with_reducible refine Has.box _ _ ?_ ?_) <;> (first | assumption | decide)) | (with_reducible refine Has.alloc ?_ _) | ((with_reducible refine Has.putOther ?_ _ _ ?_); rotate_left; omega; skip) | ((with_reducible refine Has.below ?_ ?_); rotate_left; assumption)))); (· (first | assumption | rfl)); (· kernel_rfl)))
    exact bodyPost_ret (res_has1 rfl _ _ (w.heap.size + 1) z2 2 _ (.bool false) rfl rfl S1.out Try.underlying42 rfl (by kernel_rfl)) rfl ⟨by rw [O.out.1, O.out.2], S2.out⟩
  have d1 : decide (r < 1) = false := decide_eq_false hr1
  by_cases hr4 : 4 < r
  · have d4 : decide (4 < r) = true := decide_eq_true hr4
    have O := Lib.hid (ctOk_not (vs := vs) (i := (p : Int)) (r := r) (fun hh => by have := hh.2.2.2; omega))
    have S1 := Lib.hid (Z1.putAll z2 rfl)
    have S2 := Lib.hid (HB1.out.puts (b := w.heap.size + 1) (by omega) 0 (ints z2))
    clear hr1 hr4
    go_wp2_with (first | (refine build_law rfl 42 rfl _ build2z ?_) | (refine store_at rfl 42 _ _ rfl _ _ rfl rfl ?_ 2 ?_ ?_ ?_ ?_; rotate_left; (· (repeat (first | (with_reducible assumption) | ((with_reducible refine Has.box _ _ ?_ ?_) <;> (first | assumption | decide)) | (with_reducible refine Has.alloc ?_ _) | ((with_reducible refine Has.putOther ?_ _ _ ?_); rotate_left; omega; skip) | ((with_reducible refine Has.below ?_ ?_); rotate_left; assumption)))); (· (first | assumption | rfl)); (· kernel_rfl)))
    exact bodyPost_ret (res_has1 rfl _ _ (w.heap.size + 1) z2 2 _ (.bool false) rfl rfl S1.out Try.underlying42 rfl (by kernel_rfl)) rfl ⟨by rw [O.out.1, O.out.2], S2.out⟩
  have d4 : decide (4 < r) = false := decide_eq_false hr4
  obtain ⟨q, rfl⟩ : ∃ q : Nat, r = (q : Int) := ⟨r.toNat, by omega⟩
  have hq1 : 1 ≤ q := by omega
  have hq4 : q ≤ 4 := by omega
  clear hr1 hr4 hr
  have E4 := Lib.hid (OY.out q hq1 hq4)
  have fl := topF_len vs p q
  clear OY
  obtain ⟨n1, n2, n3, n4, n5⟩ := top_nums h HV.out TT.out hq1
  have K1 := Lib.hid (fun W => longTops_any vs p q m c W h HV.out hp6 TT.out hq1 (by omega))
  have K2 := Lib.hid (fun W => longTops_any vs p (q + 1) m c W h HV.out hp6 TT.out (by omega) (by omega))
  obtain ⟨q1, hqq⟩ : ∃ q1, q1 = q + 1 := ⟨_, rfl⟩
  rw [← hqq] at K2 n1
  have wq : IntKind.i64.wrap ((q : Int) + 1) = (q1 : Int) := by rw [hqq, IntWalk.i64_in _ (by omega)]; rfl
  have K3 := Lib.hid (fun W => longTops_any vs p 1 m c W h HV.out hp6 TT.out (by omega) (by omega))
  rw [n3] at K3
  have KF := Lib.hid (fun W => fraction_any (longN vs p q - longN vs p q1) (ordA (hid vs)) W n5 (by omega) (by omega))
  have EF : Hid (topF vs p q = frac (longN vs p q - longN vs p q1) (ordA (hid vs))) := Lib.hid (by rw [hqq]; rfl)
  rw [← EF.out] at KF
  generalize topF vs p q = R at *
  obtain ⟨d, hd⟩ : ∃ d, d = longN vs p q - longN vs p q1 := ⟨_, rfl⟩
  rw [← hd] at KF
  generalize longN vs p q = x at *
  generalize longN vs p q1 = y at *
  clear hqq
  generalize ordA (hid vs) = z at *
  have wd : IntKind.i64.wrap ((x : Int) - (y : Int)) = (d : Int) := by rw [hd]; rw [IntWalk.i64_in _ (by omega)]; omega
  have li : (ints vs).length = 18 := by rw [ints_len]; exact h
  have hi1 : (Try.prog.info? 31).map (·.size) = some (ints vs).length := by rw [li]; kernel_rfl
  have lf : (ints R).length = 2 := by rw [ints_len]; exact fl
  have hi2 : (Try.prog.info? 42).map (·.size) = some (ints R).length := by rw [lf]; kernel_rfl
  clear hd n1 n2 n3 n4 n5
  go_wp2_with fail
  clear c1
  refine wp_region_held_drew (S := fun w' => Has w' w.heap.size vs 18 ∧ (∃ zs, Has w' (w.heap.size + 1) zs 2) ∧ Kept w w') (by kernel_rfl) ⟨H1.drew, ⟨_, Z1.drew⟩, HB1.out.drewN 1⟩ (fun hHeld => ?_)
  clear H1 Z1 HB1
  generalize World.drew _ = WD at *
  (refine wpAnyH_take (i := 0) (v := _) rfl (by kernel_rfl) (by kernel_rfl) (by kernel_rfl) (fun _ _ _ h => h) (yieldsIf_load_mid (by rfl) 31 _ rfl _ _ rfl (ints vs) _ (fun w' hSw => hSw.1.holds.range) Try.underlying31 rfl (hi1)) hHeld ?_; (try simp only [List.getElem_toArray, List.getElem_cons_zero, List.getElem_cons_succ, Act.put, List.setIfInBounds_toArray, List.set_cons_zero, List.set_cons_succ]))
  (refine wpAnyH_take (i := 1) (v := ?_) rfl (by kernel_rfl) (by kernel_rfl) (by kernel_rfl) (fun _ _ _ h => h) (Or.inl ⟨by rfl, ?_⟩) hHeld ?_; rotate_left; (· (intro w' hSw; go_simp; try with_reducible rfl)); (try simp only [List.getElem_toArray, List.getElem_cons_zero, List.getElem_cons_succ, Act.put, List.setIfInBounds_toArray, List.set_cons_zero, List.set_cons_succ])); (refine wpAnyH_take (i := 2) (v := ?_) rfl (by kernel_rfl) (by kernel_rfl) (by kernel_rfl) (fun _ _ _ h => h) (Or.inl ⟨by rfl, ?_⟩) hHeld ?_; rotate_left; (· (intro w' hSw; go_simp; try with_reducible rfl)); (try simp only [List.getElem_toArray, List.getElem_cons_zero, List.getElem_cons_succ, Act.put, List.setIfInBounds_toArray, List.set_cons_zero, List.set_cons_succ]))
  (refine wpAnyH_take (i := 4) (v := _) rfl (by kernel_rfl) (by kernel_rfl) (by kernel_rfl) (fun _ _ _ h => h) (yieldsIf_load_mid (by rfl) 31 _ rfl _ _ rfl (ints vs) _ (fun w' hSw => hSw.1.holds.range) Try.underlying31 rfl (hi1)) hHeld ?_; (try simp only [List.getElem_toArray, List.getElem_cons_zero, List.getElem_cons_succ, Act.put, List.setIfInBounds_toArray, List.set_cons_zero, List.set_cons_succ]))
  (refine wpAnyH_take (i := 5) (v := ?_) rfl (by kernel_rfl) (by kernel_rfl) (by kernel_rfl) (fun _ _ _ h => h) (Or.inl ⟨by rfl, ?_⟩) hHeld ?_; rotate_left; (· (intro w' hSw; go_simp; try with_reducible rfl)); (try simp only [List.getElem_toArray, List.getElem_cons_zero, List.getElem_cons_succ, Act.put, List.setIfInBounds_toArray, List.set_cons_zero, List.set_cons_succ])); (refine wpAnyH_take (i := 6) (v := ?_) rfl (by kernel_rfl) (by kernel_rfl) (by kernel_rfl) (fun _ _ _ h => h) (Or.inl ⟨by rfl, ?_⟩) hHeld ?_; rotate_left; (· (intro w' hSw; go_simp; try with_reducible rfl)); (try simp only [List.getElem_toArray, List.getElem_cons_zero, List.getElem_cons_succ, Act.put, List.setIfInBounds_toArray, List.set_cons_zero, List.set_cons_succ])); (refine wpAnyH_take (i := 7) (v := ?_) rfl (by kernel_rfl) (by kernel_rfl) (by kernel_rfl) (fun _ _ _ h => h) (Or.inl ⟨by rfl, ?_⟩) hHeld ?_; rotate_left; (· (intro w' hSw; go_simp; try with_reducible rfl)); (try simp only [List.getElem_toArray, List.getElem_cons_zero, List.getElem_cons_succ, Act.put, List.setIfInBounds_toArray, List.set_cons_zero, List.set_cons_succ]))
  (refine wpAnyH_take (i := 10) (v := _) rfl (by kernel_rfl) (by kernel_rfl) (by kernel_rfl) (fun _ _ _ h => h) (yieldsIf_load_mid (by rfl) 31 _ rfl _ _ rfl (ints vs) _ (fun w' hSw => hSw.1.holds.range) Try.underlying31 rfl (hi1)) hHeld ?_; (try simp only [List.getElem_toArray, List.getElem_cons_zero, List.getElem_cons_succ, Act.put, List.setIfInBounds_toArray, List.set_cons_zero, List.set_cons_succ]))
  (refine wpAnyH_take (i := 11) (v := ?_) rfl (by kernel_rfl) (by kernel_rfl) (by kernel_rfl) (fun _ _ _ h => h) (Or.inl ⟨by rfl, ?_⟩) hHeld ?_; rotate_left; (· (intro w' hSw; go_simp; try with_reducible rfl)); (try simp only [List.getElem_toArray, List.getElem_cons_zero, List.getElem_cons_succ, Act.put, List.setIfInBounds_toArray, List.set_cons_zero, List.set_cons_succ]))
  (refine wpAnyH_ready (rs := [3]) (by kernel_rfl) (by simp) ?_; refine AllReadyH.cons (o := _) rfl (fun K hK => ?_) AllReadyH.nil; (simp only [List.getElem_toArray, List.getElem_cons_zero, List.getElem_cons_succ, Region.wanted, if_true]))
  go_simp
  refine (K1.out _).mono ?_
  rintro e w3 ⟨rfl, bq⟩
  dsimp only
  (try simp only [List.getElem_toArray, List.getElem_cons_zero, List.getElem_cons_succ, Act.put, List.setIfInBounds_toArray, List.set_cons_zero, List.set_cons_succ])
  refine hK.out _ _ ⟨hHeld.1.below bq, ⟨_, hHeld.2.1.choose_spec.below bq⟩, hHeld.2.2.call bq⟩ (fun hHeld => ?_)
  clear hK K bq
  (refine wpAnyH_ready (rs := [8]) (by kernel_rfl) (by simp) ?_; refine AllReadyH.cons (o := _) rfl (fun K hK => ?_) AllReadyH.nil; (simp only [List.getElem_toArray, List.getElem_cons_zero, List.getElem_cons_succ, Region.wanted, if_true]))
  go_simp
  refine (K2.out _).mono ?_
  rintro e w8 ⟨rfl, bq⟩
  dsimp only
  (try simp only [List.getElem_toArray, List.getElem_cons_zero, List.getElem_cons_succ, Act.put, List.setIfInBounds_toArray, List.set_cons_zero, List.set_cons_succ])
  refine hK.out _ _ ⟨hHeld.1.below bq, ⟨_, hHeld.2.1.choose_spec.below bq⟩, hHeld.2.2.call bq⟩ (fun hHeld => ?_)
  clear hK K bq
  (refine wpAnyH_take (i := 9) (v := ?_) rfl (by kernel_rfl) (by kernel_rfl) (by kernel_rfl) (fun _ _ _ h => h) (Or.inl ⟨by rfl, ?_⟩) hHeld ?_; rotate_left; (· (intro w' hSw; go_simp; try with_reducible rfl)); (try simp only [List.getElem_toArray, List.getElem_cons_zero, List.getElem_cons_succ, Act.put, List.setIfInBounds_toArray, List.set_cons_zero, List.set_cons_succ]))
  (refine wpAnyH_ready (rs := [12]) (by kernel_rfl) (by simp) ?_; refine AllReadyH.cons (o := _) rfl (fun K hK => ?_) AllReadyH.nil; (simp only [List.getElem_toArray, List.getElem_cons_zero, List.getElem_cons_succ, Region.wanted, if_true]))
  go_simp
  refine (K3.out _).mono ?_
  rintro e w12 ⟨rfl, bq⟩
  dsimp only
  (try simp only [List.getElem_toArray, List.getElem_cons_zero, List.getElem_cons_succ, Act.put, List.setIfInBounds_toArray, List.set_cons_zero, List.set_cons_succ])
  refine hK.out _ _ ⟨hHeld.1.below bq, ⟨_, hHeld.2.1.choose_spec.below bq⟩, hHeld.2.2.call bq⟩ (fun hHeld => ?_)
  clear hK K bq
  (refine wpAnyH_ready (rs := [13]) (by kernel_rfl) (by simp) ?_; refine AllReadyH.cons (o := _) rfl (fun K hK => ?_) AllReadyH.nil; (simp only [List.getElem_toArray, List.getElem_cons_zero, List.getElem_cons_succ, Region.wanted, if_true]))
  go_simp
  refine (KF.out _).mono ?_
  rintro e w13 ⟨rfl, bq⟩
  dsimp only
  (try simp only [List.getElem_toArray, List.getElem_cons_zero, List.getElem_cons_succ, Act.put, List.setIfInBounds_toArray, List.set_cons_zero, List.set_cons_succ])
  refine hK.out _ _ ⟨hHeld.1.below bq, ⟨_, hHeld.2.1.choose_spec.below bq⟩, hHeld.2.2.call bq⟩ (fun hHeld => ?_)
  clear hK K bq
  have S0 := hHeld.2.1.choose_spec
  have S1 := S0.putAll R fl
  have S2 := hHeld.2.2.puts (b := w.heap.size + 1) (by omega) 0 (ints R)
  (refine wpAnyH_ready (rs := [14]) (by kernel_rfl) (by simp) ?_; refine AllReadyH.cons (o := _) rfl (fun K hK => ?_) AllReadyH.nil; (simp only [List.getElem_toArray, List.getElem_cons_zero, List.getElem_cons_succ, Region.wanted, if_true]); refine wp_store_mid _ _ _ rfl _ _ (ints R).toArray rfl rfl (by simpa [lf] using S0.there) (by simpa [lf] using hi2) (all_oneCell_toArray (ints_one _)) ?_; (try simp only [List.getElem_toArray, List.getElem_cons_zero, List.getElem_cons_succ, Act.put, List.setIfInBounds_toArray, List.set_cons_zero, List.set_cons_succ, List.toList_toArray]); refine hK.out _ _ (⟨hHeld.1.putOther _ _ (by omega), ⟨_, S1⟩, S2⟩) (fun hHeld => ?_); clear hK K)
  (refine wpAnyH_take (i := 15) (v := ?_) rfl (by kernel_rfl) (by kernel_rfl) (by kernel_rfl) (fun _ _ _ h => h) (Or.inl ⟨by rfl, ?_⟩) hHeld ?_; rotate_left; (· (intro w' hSw; go_simp; try with_reducible rfl)); (try simp only [List.getElem_toArray, List.getElem_cons_zero, List.getElem_cons_succ, Act.put, List.setIfInBounds_toArray, List.set_cons_zero, List.set_cons_succ]))
  refine wpAnyH_done (by kernel_rfl) ?_ _
  clear hHeld
  go_wp2_with fail
  exact bodyPost_ret (res_has1 rfl _ _ (w.heap.size + 1) R 2 _ (.bool true) rfl rfl S1 Try.underlying42 rfl (by kernel_rfl)) rfl ⟨by rw [E4.out.1, E4.out.2], S2⟩
set_option maxHeartbeats 1600000 in
set_option maxRecDepth 100000 in
theorem specCT (vs : List Int) (i r : Int) (w : World) (h : vs.length = 18) (hw : Wf vs) (hr : -9223372036854775808 ≤ r ∧ r ≤ 9223372036854775807) :
    Calls Try.prog 23 #[row vs, .int .i64 i, .int .i64 r] w fun e w' => e = .returned (.tuple #[.agg (ints (ctA vs i r)).toArray, .bool (ctOk vs i r)]) ∧ Kept w w' := by
  have H := (Has.box w 31 h (by omega)).alloc (.cells #[.int .i64 0, .int .i64 0] 42)
  have Z := (Has.zero2v (w.alloc (.cells (ints vs).toArray 31)) 42).at (size1 _ _)
  have HB := Lib.hid (((kept_refl w).alloc (.cells (ints vs).toArray 31)).alloc (.cells #[.int .i64 0, .int .i64 0] 42))
  have hz : z2.length = 2 := rfl
  rw [row_ints]
  go_enter Try.func23, Try.ntmps23
  go_wp2_with (refine load_has rfl 31 _ rfl _ rfl ?_ 18 ?_ _ Try.underlying31 rfl ?_ ?_; rotate_left; (· (repeat (first | (with_reducible assumption) | ((with_reducible refine Has.box _ _ ?_ ?_) <;> (first | assumption | decide)) | (with_reducible refine Has.alloc ?_ _) | ((with_reducible refine Has.putOther ?_ _ _ ?_); rotate_left; omega; skip) | ((with_reducible refine Has.below ?_ ?_); rotate_left; assumption)))); (· kernel_rfl))
  refine (l7Good_any vs _ h hw).mono ?_
  rintro e w1 ⟨rfl, b1⟩
  have H1 := H.below b1
  have Z1 := Z.below b1
  have HB1 := Lib.hid (HB.out.call b1)
  clear H Z HB b1
  by_cases hv : vV vs = true
  rotate_left
  · have hf : vV vs = false := by simpa using hv
    rw [hf]
    have O := Lib.hid (ctOk_not (vs := vs) (i := i) (r := r) (fun hh => hv hh.1))
    have S1 := Lib.hid (Z1.putAll z2 rfl)
    have S2 := Lib.hid (HB1.out.puts (b := w.heap.size + 1) (by omega) 0 (ints z2))
    clear hv hf
    go_wp2_with (first | (refine build_law rfl 42 rfl _ build2z ?_) | (refine store_at rfl 42 _ _ rfl _ _ rfl rfl ?_ 2 ?_ ?_ ?_ ?_; rotate_left; (· (repeat (first | (with_reducible assumption) | ((with_reducible refine Has.box _ _ ?_ ?_) <;> (first | assumption | decide)) | (with_reducible refine Has.alloc ?_ _) | ((with_reducible refine Has.putOther ?_ _ _ ?_); rotate_left; omega; skip) | ((with_reducible refine Has.below ?_ ?_); rotate_left; assumption)))); (· (first | assumption | rfl)); (· kernel_rfl)))
    exact bodyPost_ret (res_has1 rfl _ _ (w.heap.size + 1) z2 2 _ (.bool false) rfl rfl S1.out Try.underlying42 rfl (by kernel_rfl)) rfl ⟨by rw [O.out.1, O.out.2], S2.out⟩
  rw [hv]
  go_wp2_with fail
  refine (l2Place_any i _).mono ?_
  rintro e w' ⟨rfl, rfl⟩
  by_cases hp : 0 ≤ i ∧ i < 6
  rotate_left
  · rw [decide_eq_false hp]
    have O := Lib.hid (ctOk_not (vs := vs) (i := i) (r := r) (fun hh => hp hh.2.1))
    have S1 := Lib.hid (Z1.putAll z2 rfl)
    have S2 := Lib.hid (HB1.out.puts (b := w.heap.size + 1) (by omega) 0 (ints z2))
    clear hp hv
    go_wp2_with (first | (refine build_law rfl 42 rfl _ build2z ?_) | (refine store_at rfl 42 _ _ rfl _ _ rfl rfl ?_ 2 ?_ ?_ ?_ ?_; rotate_left; (· (repeat (first | (with_reducible assumption) | ((with_reducible refine Has.box _ _ ?_ ?_) <;> (first | assumption | decide)) | (with_reducible refine Has.alloc ?_ _) | ((with_reducible refine Has.putOther ?_ _ _ ?_); rotate_left; omega; skip) | ((with_reducible refine Has.below ?_ ?_); rotate_left; assumption)))); (· (first | assumption | rfl)); (· kernel_rfl)))
    exact bodyPost_ret (res_has1 rfl _ _ (w.heap.size + 1) z2 2 _ (.bool false) rfl rfl S1.out Try.underlying42 rfl (by kernel_rfl)) rfl ⟨by rw [O.out.1, O.out.2], S2.out⟩
  rw [decide_eq_true hp]
  obtain ⟨p, rfl⟩ : ∃ p : Nat, i = (p : Int) := ⟨i.toNat, by omega⟩
  have hp6 : p < 6 := by omega
  have hpi : (p : Int) < 6 := by omega
  clear hp
  have c1 := H1.vCell 1 p (by omega) hp6
  have e1 : (prt vs 1).getD p 0 = vMany vs p := rfl
  rw [e1] at c1
  simp only [Nat.one_mul] at c1
  clear e1
  have HV := Lib.hid hv
  by_cases hm : vMany vs p = 0
  · have O0 := Lib.hid hm
    rw [hm] at c1
    clear hm
    have O := Lib.hid (ctOk_not (vs := vs) (i := (p : Int)) (r := r) (fun hh => hh.2.2.1 (by rw [Int.toNat_natCast]; exact O0.out)))
    have S1 := Lib.hid (Z1.putAll z2 rfl)
    have S2 := Lib.hid (HB1.out.puts (b := w.heap.size + 1) (by omega) 0 (ints z2))
    clear hv
    go_wp2_with (first | (refine build_law rfl 42 rfl _ build2z ?_) | (refine store_at rfl 42 _ _ rfl _ _ rfl rfl ?_ 2 ?_ ?_ ?_ ?_; rotate_left; (· (repeat (first | (with_reducible assumption) | ((with_reducible refine Has.box _ _ ?_ ?_) <;> (first | assumption | decide)) | (with_reducible refine Has.alloc ?_ _) | ((with_reducible refine Has.putOther ?_ _ _ ?_); rotate_left; omega; skip) | ((with_reducible refine Has.below ?_ ?_); rotate_left; assumption)))); (· (first | assumption | rfl)); (· kernel_rfl)))
    exact bodyPost_ret (res_has1 rfl _ _ (w.heap.size + 1) z2 2 _ (.bool false) rfl rfl S1.out Try.underlying42 rfl (by kernel_rfl)) rfl ⟨by rw [O.out.1, O.out.2], S2.out⟩
  obtain ⟨m, c, T⟩ := topFacts h hv p hp6 hm
  have OY := Lib.hid (fun q (h1 : 1 ≤ q) (h4 : q ≤ 4) => ctOk_yes hv hp6 hm h1 h4)
  rw [T.many] at c1
  have mp := T.m1
  have m0 : ((m : Int) == 0) = false := by simp; omega
  have TT := Lib.hid T
  clear hm hv T
  have HI := Lib.hid (fun W => l1In_any r 1 4 W)
  go_wp2_with fail
  refine (HI.out _).mono ?_
  rintro e w' ⟨rfl, rfl⟩
  by_cases hc : 1 ≤ r ∧ r ≤ 4
  rotate_left
  · rw [decide_eq_false hc]
    have O := Lib.hid (ctOk_not (vs := vs) (i := (p : Int)) (r := r) (fun hh => hc hh.2.2.2))
    have S1 := Lib.hid (Z1.putAll z2 rfl)
    have S2 := Lib.hid (HB1.out.puts (b := w.heap.size + 1) (by omega) 0 (ints z2))
    clear hc
    go_wp2_with (first | (refine build_law rfl 42 rfl _ build2z ?_) | (refine store_at rfl 42 _ _ rfl _ _ rfl rfl ?_ 2 ?_ ?_ ?_ ?_; rotate_left; (· (repeat (first | (with_reducible assumption) | ((with_reducible refine Has.box _ _ ?_ ?_) <;> (first | assumption | decide)) | (with_reducible refine Has.alloc ?_ _) | ((with_reducible refine Has.putOther ?_ _ _ ?_); rotate_left; omega; skip) | ((with_reducible refine Has.below ?_ ?_); rotate_left; assumption)))); (· (first | assumption | rfl)); (· kernel_rfl)))
    exact bodyPost_ret (res_has1 rfl _ _ (w.heap.size + 1) z2 2 _ (.bool false) rfl rfl S1.out Try.underlying42 rfl (by kernel_rfl)) rfl ⟨by rw [O.out.1, O.out.2], S2.out⟩
  rw [decide_eq_true hc]
  obtain ⟨q, rfl⟩ : ∃ q : Nat, r = (q : Int) := ⟨r.toNat, by omega⟩
  have hq1 : 1 ≤ q := by omega
  have hq4 : q ≤ 4 := by omega
  clear hc hr
  have E4 := Lib.hid (OY.out q hq1 hq4)
  have fl := topF_len vs p q
  clear OY
  go_wp2_with (refine load_has rfl 31 _ rfl _ rfl ?_ 18 ?_ _ Try.underlying31 rfl ?_ ?_; rotate_left; (· (repeat (first | (with_reducible assumption) | ((with_reducible refine Has.box _ _ ?_ ?_) <;> (first | assumption | decide)) | (with_reducible refine Has.alloc ?_ _) | ((with_reducible refine Has.putOther ?_ _ _ ?_); rotate_left; omega; skip) | ((with_reducible refine Has.below ?_ ?_); rotate_left; assumption)))); (· kernel_rfl))
  refine (l7Top_any vs p q m c _ h HV.out hw hp6 TT.out hq1 hq4).mono ?_
  rintro e w5 ⟨rfl, b5⟩
  have Z5 := Z1.below b5
  have S1 := Lib.hid (Z5.putAll (topF vs p q) fl)
  have S2 := Lib.hid ((HB1.out.call b5).puts (b := w.heap.size + 1) (by omega) 0 (ints (topF vs p q)))
  clear b5 H1 HB1 Z1
  go_wp2_with (refine store_at rfl 42 _ _ rfl _ _ rfl rfl ?_ 2 ?_ ?_ ?_ ?_; rotate_left; (· (repeat (first | (with_reducible assumption) | ((with_reducible refine Has.box _ _ ?_ ?_) <;> (first | assumption | decide)) | (with_reducible refine Has.alloc ?_ _) | ((with_reducible refine Has.putOther ?_ _ _ ?_); rotate_left; omega; skip) | ((with_reducible refine Has.below ?_ ?_); rotate_left; assumption)))); (· (first | assumption | rfl)); (· kernel_rfl))
  exact bodyPost_ret (res_has1 rfl _ _ (w.heap.size + 1) (topF vs p q) 2 _ (.bool true) rfl rfl S1.out Try.underlying42 rfl (by kernel_rfl)) rfl ⟨by rw [E4.out.1, E4.out.2], S2.out⟩
set_option maxHeartbeats 400000 in
theorem lawChanceTop (vs : List Int) (i : Int) (r : Int) (w : World) (h0 : vs.length = 18 ∧ ∀ n ∈ vs, (Lit.int .i64 n).wf = true) (fi : (Lit.int .i64 i).wf = true) (fr : (Lit.int .i64 r).wf = true) :
    Calls Try.prog 7 #[row vs, .int .i64 i, .int .i64 r] w fun e w' => e = .returned (.bool true) ∧ Kept w w' := by
  obtain ⟨h, hw⟩ := h0
  have wi := wf_in fi
  have wr := wf_in fr
  have hl : (ctA vs i r).length = 2 := ctA_len vs i r
  have HB := Lib.hid ((kept_refl w).alloc (.cells (ints vs).toArray 24))
  have H := Has.box w 24 h (by omega)
  have KS := Lib.hid (fun _W => specCT vs i r _W h hw wr)
  have KI := Lib.hid (fun _W => implCT vs i r _W h wr)
  clear hw fi fr
  rw [row_ints]
  go_enter Try.func7, Try.ntmps7
  go_wp2_with (refine load_has rfl 24 _ rfl _ rfl ?_ 18 ?_ _ Try.underlying24 rfl ?_ ?_; rotate_left; (· (repeat (first | (with_reducible assumption) | ((with_reducible refine Has.box _ _ ?_ ?_) <;> (first | assumption | decide)) | (with_reducible refine Has.alloc ?_ _) | ((with_reducible refine Has.putOther ?_ _ _ ?_); rotate_left; omega; skip) | ((with_reducible refine Has.below ?_ ?_); rotate_left; assumption)))); (· kernel_rfl))
  refine (toView_any vs _ h).mono ?_
  rintro e w1 ⟨rfl, b1⟩
  have H1 := H.below b1
  have HB1 := Lib.hid (HB.out.call b1)
  clear H HB b1
  go_wp2_with fail
  refine (KS.out _).mono ?_
  rintro e w2 ⟨rfl, b2⟩
  have H2 := (H1.below b2).alloc (.cells (ints (ctA vs i r)).toArray 42)
  have R2 := Has.box w2 42 hl (by omega)
  have HB2 := Lib.hid ((HB1.out.call b2).alloc (.cells (ints (ctA vs i r)).toArray 42))
  clear H1 HB1 b2
  go_wp2_with (first | (refine store_new rfl 42 _ _ rfl _ _ _ rfl _ rfl _ rfl rfl ?_ ?_ ?_; (· (first | assumption | rfl)); (· kernel_rfl)) | (refine load_has rfl 24 _ rfl _ rfl ?_ 18 ?_ _ Try.underlying24 rfl ?_ ?_; rotate_left; (· (repeat (first | (with_reducible assumption) | ((with_reducible refine Has.box _ _ ?_ ?_) <;> (first | assumption | decide)) | (with_reducible refine Has.alloc ?_ _) | ((with_reducible refine Has.putOther ?_ _ _ ?_); rotate_left; omega; skip) | ((with_reducible refine Has.below ?_ ?_); rotate_left; assumption)))); (· kernel_rfl)))
  refine (toView_any vs _ h).mono ?_
  rintro e w3 ⟨rfl, b3⟩
  have R3 := R2.below b3
  have HB3 := Lib.hid (HB2.out.call b3)
  clear H2 R2 HB2 b3
  go_wp2_with fail
  refine (KI.out _).mono ?_
  rintro e w4 ⟨rfl, b4⟩
  have R4 := (R3.below b4).alloc (.cells (ints (ctA vs i r)).toArray 42)
  have Q4 := Has.box w4 42 hl (by omega)
  have HB4 := Lib.hid ((HB3.out.call b4).alloc (.cells (ints (ctA vs i r)).toArray 42))
  clear R3 HB3 b4
  go_wp2_with (first | (refine store_new rfl 42 _ _ rfl _ _ _ rfl _ rfl _ rfl rfl ?_ ?_ ?_; (· (first | assumption | rfl)); (· kernel_rfl)) | (refine load_has rfl 42 _ rfl _ rfl ?_ 2 ?_ _ Try.underlying42 rfl ?_ ?_; rotate_left; (· (repeat (first | (with_reducible assumption) | ((with_reducible refine Has.box _ _ ?_ ?_) <;> (first | assumption | decide)) | (with_reducible refine Has.alloc ?_ _) | ((with_reducible refine Has.putOther ?_ _ _ ?_); rotate_left; omega; skip) | ((with_reducible refine Has.below ?_ ?_); rotate_left; assumption)))); (· kernel_rfl)))
  refine (eqIntA2v (ctA vs i r) _ hl).mono ?_
  rintro e w5 ⟨rfl, b5⟩
  have HB5 := Lib.hid (HB4.out.call b5)
  clear R4 Q4 HB4 b5
  go_wp2_with fail
  go_ret
  exact ⟨rfl, HB5.out⟩
end Go.Proofs.Ytemiljokdedidab.base
