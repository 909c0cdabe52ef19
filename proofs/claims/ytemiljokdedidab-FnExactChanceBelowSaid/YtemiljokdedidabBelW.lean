/-
  The chance of a color below a top, on both sides, walked.
-/
import Derived.Test.YtemiljokdedidabFracW
import Derived.Test.YtemiljokdedidabVwS3
namespace Go.Proofs.Ytemiljokdedidab.base
open Go.ChangeShapes Go.WideShapes Go.ChangeAt Go.RowKit
set_option linter.unusedVariables false
set_option linter.unusedSimpArgs false

def belowOk (vs : List Int) (i c : Int) : Bool := vV vs && decide (0 ≤ i ∧ i < 6) && decide (2 ≤ vMany vs i.toNat) && decide (1 ≤ c ∧ c ≤ 5)
def belowA (vs : List Int) (i c : Int) : List Int := if belowOk vs i c = true then frac ((hid vs).getD c.toNat 0).toNat (plUp (hid vs) 6) else z2
theorem belowA_len (vs : List Int) (i c : Int) : (belowA vs i c).length = 2 := by
  unfold belowA; split <;> rfl
theorem belowOk_not {vs : List Int} {i c : Int} (h : ¬ (vV vs = true ∧ (0 ≤ i ∧ i < 6) ∧ 2 ≤ vMany vs i.toNat ∧ (1 ≤ c ∧ c ≤ 5))) : belowOk vs i c = false ∧ belowA vs i c = z2 := by
  have : belowOk vs i c = false := by
    cases hb : belowOk vs i c with
    | false => rfl
    | true =>
      unfold belowOk at hb
      simp only [Bool.and_eq_true, decide_eq_true_eq] at hb
      exact absurd ⟨hb.1.1.1, hb.1.1.2, hb.1.2, hb.2⟩ h
  refine ⟨this, ?_⟩
  unfold belowA; rw [this]; rfl
/-- What is reckoned where it is asked rightly. -/
theorem below_nums {vs : List Int} (h : vs.length = 18) (hv : vV vs = true) (p c : Nat) (hp : p < 6) (hc : 1 ≤ c ∧ c < 6) (hm : 2 ≤ vMany vs p) :
    ∃ a n : Nat, (hid vs).getD c 0 = (a : Int) ∧ belUp vs 6 = (n : Int) ∧ sumUp (hid vs) 6 = (n : Int) ∧ 0 < n ∧ a ≤ 18 ∧ n ≤ 18 ∧ belowOk vs p c = true ∧ belowA vs p c = frac a n := by
  have F := viewFacts h hv
  have h1 := F.nat c hc.2
  have h2 := F.each c hc.2
  have h3 := F.pl
  have h4 := F.small
  have h5 := F.sum
  have h6 : 0 < belUp vs 6 := by
    have key : ∀ i, i ≤ 6 → p < i → 0 < belUp vs i := by
      intro i
      induction i with
      | zero => intro _ h; omega
      | succ i ih =>
        intro hi hpi
        have hb := belUp_in F.tops i (by omega)
        have hT := topV_at F.tops i (by omega)
        rw [belUp]
        by_cases e : p = i
        · subst e; rw [if_neg (by omega)]; omega
        · have := ih (by omega) (by omega)
          split <;> omega
    exact key 6 (by omega) hp
  have ho : belowOk vs p c = true := by
    unfold belowOk
    simp only [Bool.and_eq_true, decide_eq_true_eq, Int.toNat_natCast]
    exact ⟨⟨⟨hv, by omega, by omega⟩, hm⟩, by omega, by omega⟩
  refine ⟨((hid vs).getD c 0).toNat, plUp (hid vs) 6, by omega, h3.symm, by rw [h5, ← h3], by omega, by omega, h4, ho, ?_⟩
  unfold belowA
  rw [if_pos ho, Int.toNat_natCast]
set_option maxHeartbeats 1600000 in
set_option maxRecDepth 100000 in
theorem implBelow (vs : List Int) (i c : Int) (w : World) (h : vs.length = 18) :
    Calls Try.prog 21 #[row vs, .int .i64 i, .int .i64 c] w fun e w' => e = .returned (.tuple #[.agg (ints (belowA vs i c)).toArray, .bool (belowOk vs i c)]) ∧ Kept w w' := by
  have H := (Has.box w 31 h (by omega)).alloc (.cells #[.int .i64 0, .int .i64 0] 42)
  have Z := (Has.zero2v (w.alloc (.cells (ints vs).toArray 31)) 42).at (size1 _ _)
  have HB := Lib.hid (((kept_refl w).alloc (.cells (ints vs).toArray 31)).alloc (.cells #[.int .i64 0, .int .i64 0] 42))
  have hz : z2.length = 2 := rfl
  rw [row_ints]
  go_enter Try.func21, Try.ntmps21
  go_wp2_with (refine load_has rfl 31 _ rfl _ rfl ?_ 18 ?_ _ Try.underlying31 rfl ?_ ?_; rotate_left; (· (repeat (first | (with_reducible assumption) | ((with_reducible refine Has.box _ _ ?_ ?_) <;> (first | assumption | decide)) | (with_reducible refine Has.alloc ?_ _) | ((with_reducible refine Has.putOther ?_ _ _ ?_); rotate_left; omega; skip) | ((with_reducible refine Has.below ?_ ?_); rotate_left; assumption)))); (· kernel_rfl))
  refine (implIsView vs _ h).mono ?_
  rintro e w1 ⟨rfl, b1⟩
  have H1 := H.below b1
  have Z1 := Z.below b1
  have HB1 := Lib.hid (HB.out.call b1)
  clear H Z HB b1
  by_cases hv : vV vs = true
  rotate_left
  · have hf : vV vs = false := by simpa using hv
    rw [hf]
    have O := Lib.hid (belowOk_not (vs := vs) (i := i) (c := c) (fun hh => hv hh.1))
    have S1 := Lib.hid (Z1.putAll z2 rfl)
    have S2 := Lib.hid (HB1.out.puts (b := w.heap.size + 1) (by omega) 0 (ints z2))
    clear hv hf
    go_wp2_with (first | (refine build_law rfl 42 rfl _ build2z ?_) | (refine store_at rfl 42 _ _ rfl _ _ rfl rfl ?_ 2 ?_ ?_ ?_ ?_; rotate_left; (· (repeat (first | (with_reducible assumption) | ((with_reducible refine Has.box _ _ ?_ ?_) <;> (first | assumption | decide)) | (with_reducible refine Has.alloc ?_ _) | ((with_reducible refine Has.putOther ?_ _ _ ?_); rotate_left; omega; skip) | ((with_reducible refine Has.below ?_ ?_); rotate_left; assumption)))); (· (first | assumption | rfl)); (· kernel_rfl)))
    exact bodyPost_ret (res_has1 rfl _ _ (w.heap.size + 1) z2 2 _ (.bool false) rfl rfl S1.out Try.underlying42 rfl (by kernel_rfl)) rfl ⟨by rw [O.out.1, O.out.2], S2.out⟩
  rw [hv]
  go_wp2_with fail
  refine (isPlace_any i _).mono ?_
  rintro e w' ⟨rfl, rfl⟩
  by_cases hp : 0 ≤ i ∧ i < 6
  rotate_left
  · rw [decide_eq_false hp]
    have O := Lib.hid (belowOk_not (vs := vs) (i := i) (c := c) (fun hh => hp hh.2.1))
    have S1 := Lib.hid (Z1.putAll z2 rfl)
    have S2 := Lib.hid (HB1.out.puts (b := w.heap.size + 1) (by omega) 0 (ints z2))
    clear hp hv
    go_wp2_with (first | (refine build_law rfl 42 rfl _ build2z ?_) | (refine store_at rfl 42 _ _ rfl _ _ rfl rfl ?_ 2 ?_ ?_ ?_ ?_; rotate_left; (· (repeat (first | (with_reducible assumption) | ((with_reducible refine Has.box _ _ ?_ ?_) <;> (first | assumption | decide)) | (with_reducible refine Has.alloc ?_ _) | ((with_reducible refine Has.putOther ?_ _ _ ?_); rotate_left; omega; skip) | ((with_reducible refine Has.below ?_ ?_); rotate_left; assumption)))); (· (first | assumption | rfl)); (· kernel_rfl)))
    exact bodyPost_ret (res_has1 rfl _ _ (w.heap.size + 1) z2 2 _ (.bool false) rfl rfl S1.out Try.underlying42 rfl (by kernel_rfl)) rfl ⟨by rw [O.out.1, O.out.2], S2.out⟩
  rw [decide_eq_true hp]
  obtain ⟨p, rfl⟩ : ∃ p : Nat, i = (p : Int) := ⟨i.toNat, by omega⟩
  have hp6 : p < 6 := by omega
  have hpi : (p : Int) < 6 := by omega
  clear hp
  have c1 := H1.vCell 1 p (by omega) hp6
  have e1 : (prt vs 1).getD p 0 = vMany vs p := rfl
  rw [e1] at c1
  simp only [Nat.one_mul] at c1
  clear e1
  have HV := Lib.hid hv
  by_cases hm : 2 ≤ vMany vs p
  rotate_left
  · have m2 : decide (vMany vs p < 2) = true := decide_eq_true (by omega)
    have HM := Lib.hid hm
    generalize hmm : vMany vs p = m at *
    have HMM := Lib.hid hmm
    have O := Lib.hid (belowOk_not (vs := vs) (i := (p : Int)) (c := c) (fun hh => HM.out (by have := hh.2.2.1; rw [Int.toNat_natCast, HMM.out] at this; exact this)))
    have S1 := Lib.hid (Z1.putAll z2 rfl)
    have S2 := Lib.hid (HB1.out.puts (b := w.heap.size + 1) (by omega) 0 (ints z2))
    clear hv hm hmm
    go_wp2_with (first | (refine build_law rfl 42 rfl _ build2z ?_) | (refine store_at rfl 42 _ _ rfl _ _ rfl rfl ?_ 2 ?_ ?_ ?_ ?_; rotate_left; (· (repeat (first | (with_reducible assumption) | ((with_reducible refine Has.box _ _ ?_ ?_) <;> (first | assumption | decide)) | (with_reducible refine Has.alloc ?_ _) | ((with_reducible refine Has.putOther ?_ _ _ ?_); rotate_left; omega; skip) | ((with_reducible refine Has.below ?_ ?_); rotate_left; assumption)))); (· (first | assumption | rfl)); (· kernel_rfl)))
    exact bodyPost_ret (res_has1 rfl _ _ (w.heap.size + 1) z2 2 _ (.bool false) rfl rfl S1.out Try.underlying42 rfl (by kernel_rfl)) rfl ⟨by rw [O.out.1, O.out.2], S2.out⟩
  have m2 : decide (vMany vs p < 2) = false := decide_eq_false (by omega)
  have HM := Lib.hid hm
  clear hv hm
  go_wp2_with fail
  refine (isColor_any c _).mono ?_
  rintro e w' ⟨rfl, rfl⟩
  by_cases hc : 1 ≤ c ∧ c ≤ 5
  rotate_left
  · rw [decide_eq_false hc]
    have O := Lib.hid (belowOk_not (vs := vs) (i := (p : Int)) (c := c) (fun hh => hc hh.2.2.2))
    have S1 := Lib.hid (Z1.putAll z2 rfl)
    have S2 := Lib.hid (HB1.out.puts (b := w.heap.size + 1) (by omega) 0 (ints z2))
    clear hc
    go_wp2_with (first | (refine build_law rfl 42 rfl _ build2z ?_) | (refine store_at rfl 42 _ _ rfl _ _ rfl rfl ?_ 2 ?_ ?_ ?_ ?_; rotate_left; (· (repeat (first | (with_reducible assumption) | ((with_reducible refine Has.box _ _ ?_ ?_) <;> (first | assumption | decide)) | (with_reducible refine Has.alloc ?_ _) | ((with_reducible refine Has.putOther ?_ _ _ ?_); rotate_left; omega; skip) | ((with_reducible refine Has.below ?_ ?_); rotate_left; assumption)))); (· (first | assumption | rfl)); (· kernel_rfl)))
    exact bodyPost_ret (res_has1 rfl _ _ (w.heap.size + 1) z2 2 _ (.bool false) rfl rfl S1.out Try.underlying42 rfl (by kernel_rfl)) rfl ⟨by rw [O.out.1, O.out.2], S2.out⟩
  rw [decide_eq_true hc]
  obtain ⟨q, rfl⟩ : ∃ q : Nat, c = (q : Int) := ⟨c.toNat, by omega⟩
  have hq6 : q < 6 := by omega
  have hqi : (q : Int) < 6 := by omega
  have NU := below_nums h HV.out p q hp6 (by omega) HM.out
  clear hc
  obtain ⟨a, n, e1, e2, e3, n0, a18, n18, e4, e5⟩ := NU
  have E1 := Lib.hid e1
  have E2 := Lib.hid e2
  have E3 := Lib.hid e3
  have E4 := Lib.hid e4
  have E5 := Lib.hid e5
  clear e1 e2 e3 e4 e5
  have F := Lib.hid (viewFacts h HV.out)
  have h6 := hid_len h
  have fl := frac_len a n
  generalize vMany vs p = m at *
  have hb := vV_bounds h HV.out
  have hs : ∀ j, j < 6 → -1000 ≤ (hid vs).getD j 0 ∧ (hid vs).getD j 0 ≤ 1000 := fun j hj => by
    have := F.out.nat j hj
    have := F.out.each j hj
    omega
  go_wp2_with (refine load_has rfl 31 _ rfl _ rfl ?_ 18 ?_ _ Try.underlying31 rfl ?_ ?_; rotate_left; (· (repeat (first | (with_reducible assumption) | ((with_reducible refine Has.box _ _ ?_ ?_) <;> (first | assumption | decide)) | (with_reducible refine Has.alloc ?_ _) | ((with_reducible refine Has.putOther ?_ _ _ ?_); rotate_left; omega; skip) | ((with_reducible refine Has.below ?_ ?_); rotate_left; assumption)))); (· kernel_rfl))
  refine (hidden_any vs _ h F.out.tops hb).mono ?_
  rintro e w3 ⟨rfl, b3⟩
  have Z3 := (Z1.below b3).alloc (.cells (ints (hid vs)).toArray 66)
  have HB3 := Lib.hid ((HB1.out.call b3).alloc (.cells (ints (hid vs)).toArray 66))
  have Y := Has.box w3 66 h6 (by omega)
  have lz := b3.size
  have l1 := Z1.lt
  clear H1 HB1 b3 hb Z1 c1
  rw [row_ints]
  go_wp2_with (refine store_new rfl 66 _ _ rfl _ _ _ rfl _ rfl _ rfl rfl ?_ ?_ ?_; (· (first | assumption | rfl)); (· kernel_rfl))
  have li : (ints (hid vs)).length = 6 := by rw [ints_len]; exact h6
  have hi1 : (Try.prog.info? 66).map (·.size) = some (ints (hid vs)).length := by rw [li]; kernel_rfl
  have lf : (ints (frac a n)).length = 2 := rfl
  have hi2 : (Try.prog.info? 42).map (·.size) = some (ints (frac a n)).length := by rw [lf]; kernel_rfl
  have hne : w.heap.size + 1 < w3.heap.size := by omega
  clear lz l1
  generalize w3.alloc (.cells (ints (hid vs)).toArray 66) = W3 at *
  generalize w3.heap.size = b at *
  have KZ := Lib.hid (fun W => size_any (hid vs) W h6 hs)
  rw [E3.out] at KZ
  have KF := Lib.hid (fun W => fraction_any a n W n0 (by omega) (by omega))
  refine wp_region_held_drew (S := fun w' => Has w' b (hid vs) 6 ∧ (∃ zs, Has w' (w.heap.size + 1) zs 2) ∧ Kept w w') (by kernel_rfl) ⟨Y.drew, ⟨_, Z3.drew⟩, HB3.out.drewN 1⟩ (fun hHeld => ?_)
  clear Y Z3 HB3
  generalize World.drew _ = WD at *
  (refine wpAnyH_take (i := 0) (v := ?_) rfl (by kernel_rfl) (by kernel_rfl) (by kernel_rfl) (fun _ _ _ h => h) (Or.inl ⟨by rfl, ?_⟩) hHeld ?_; rotate_left; (· (intro w' hSw; go_simp; try with_reducible rfl)); (try simp only [List.getElem_toArray, List.getElem_cons_zero, List.getElem_cons_succ, Act.put, List.setIfInBounds_toArray, List.set_cons_zero, List.set_cons_succ])); (refine wpAnyH_take (i := 1) (v := ?_) rfl (by kernel_rfl) (by kernel_rfl) (by kernel_rfl) (fun _ _ _ h => h) (Or.inl ⟨by rfl, ?_⟩) hHeld ?_; rotate_left; (· (intro w' hSw; go_simp; try with_reducible rfl)); (try simp only [List.getElem_toArray, List.getElem_cons_zero, List.getElem_cons_succ, Act.put, List.setIfInBounds_toArray, List.set_cons_zero, List.set_cons_succ]))
  (refine wpAnyH_take (i := 2) (v := .int .i64 (a : Int)) rfl (by kernel_rfl) (by kernel_rfl) (by kernel_rfl) (fun _ _ _ h => h) (Or.inl ⟨by rfl, ?_⟩) hHeld ?_; (· (intro w' hSw; have q := hSw.1.cellX hq6 E1.out; clear hSw; go_simp; try with_reducible rfl)); (try simp only [List.getElem_toArray, List.getElem_cons_zero, List.getElem_cons_succ, Act.put, List.setIfInBounds_toArray, List.set_cons_zero, List.set_cons_succ]))
  (refine wpAnyH_take (i := 3) (v := _) rfl (by kernel_rfl) (by kernel_rfl) (by kernel_rfl) (fun _ _ _ h => h) (yieldsIf_load_mid (by rfl) 66 _ rfl _ _ rfl (ints (hid vs)) _ (fun w' hSw => hSw.1.holds.range) Try.underlying66 rfl (hi1)) hHeld ?_; (try simp only [List.getElem_toArray, List.getElem_cons_zero, List.getElem_cons_succ, Act.put, List.setIfInBounds_toArray, List.set_cons_zero, List.set_cons_succ]))
  (refine wpAnyH_ready (rs := [4]) (by kernel_rfl) (by simp) ?_; refine AllReadyH.cons (o := _) rfl (fun K hK => ?_) AllReadyH.nil; (simp only [List.getElem_toArray, List.getElem_cons_zero, List.getElem_cons_succ, Region.wanted, if_true]))
  go_simp
  refine (KZ.out _).mono ?_
  rintro e wA ⟨rfl, bq⟩
  dsimp only
  (try simp only [List.getElem_toArray, List.getElem_cons_zero, List.getElem_cons_succ, Act.put, List.setIfInBounds_toArray, List.set_cons_zero, List.set_cons_succ])
  refine hK.out _ _ ⟨hHeld.1.below bq, ⟨_, hHeld.2.1.choose_spec.below bq⟩, hHeld.2.2.call bq⟩ (fun hHeld => ?_)
  clear hK K bq
  (refine wpAnyH_ready (rs := [5]) (by kernel_rfl) (by simp) ?_; refine AllReadyH.cons (o := _) rfl (fun K hK => ?_) AllReadyH.nil; (simp only [List.getElem_toArray, List.getElem_cons_zero, List.getElem_cons_succ, Region.wanted, if_true]))
  go_simp
  refine (KF.out _).mono ?_
  rintro e wB ⟨rfl, bq⟩
  dsimp only
  (try simp only [List.getElem_toArray, List.getElem_cons_zero, List.getElem_cons_succ, Act.put, List.setIfInBounds_toArray, List.set_cons_zero, List.set_cons_succ])
  refine hK.out _ _ ⟨hHeld.1.below bq, ⟨_, hHeld.2.1.choose_spec.below bq⟩, hHeld.2.2.call bq⟩ (fun hHeld => ?_)
  clear hK K bq
  have S0 := hHeld.2.1.choose_spec
  have S1 := S0.putAll (frac a n) fl
  have S2 := hHeld.2.2.puts (b := w.heap.size + 1) (by omega) 0 (ints (frac a n))
  (refine wpAnyH_ready (rs := [6]) (by kernel_rfl) (by simp) ?_; refine AllReadyH.cons (o := _) rfl (fun K hK => ?_) AllReadyH.nil; (simp only [List.getElem_toArray, List.getElem_cons_zero, List.getElem_cons_succ, Region.wanted, if_true]); refine wp_store_mid _ _ _ rfl _ _ (ints (frac a n)).toArray rfl rfl (by simpa [lf] using S0.there) (by simpa [lf] using hi2) (all_oneCell_toArray (ints_one _)) ?_; (try simp only [List.getElem_toArray, List.getElem_cons_zero, List.getElem_cons_succ, Act.put, List.setIfInBounds_toArray, List.set_cons_zero, List.set_cons_succ, List.toList_toArray]); refine hK.out _ _ (⟨hHeld.1.putOther _ _ (by omega), ⟨_, S1⟩, S2⟩) (fun hHeld => ?_); clear hK K)
  (refine wpAnyH_take (i := 7) (v := ?_) rfl (by kernel_rfl) (by kernel_rfl) (by kernel_rfl) (fun _ _ _ h => h) (Or.inl ⟨by rfl, ?_⟩) hHeld ?_; rotate_left; (· (intro w' hSw; go_simp; try with_reducible rfl)); (try simp only [List.getElem_toArray, List.getElem_cons_zero, List.getElem_cons_succ, Act.put, List.setIfInBounds_toArray, List.set_cons_zero, List.set_cons_succ]))
  refine wpAnyH_done (by kernel_rfl) ?_ _
  clear hHeld
  go_wp2_with fail
  exact bodyPost_ret (res_has1 rfl _ _ (w.heap.size + 1) (frac a n) 2 _ (.bool true) rfl rfl S1 Try.underlying42 rfl (by kernel_rfl)) rfl ⟨by rw [E4.out, E5.out], S2⟩
set_option maxHeartbeats 1600000 in
set_option maxRecDepth 100000 in
theorem specBelow (vs : List Int) (i c : Int) (w : World) (h : vs.length = 18) (hw : Wf vs) :
    Calls Try.prog 20 #[row vs, .int .i64 i, .int .i64 c] w fun e w' => e = .returned (.tuple #[.agg (ints (belowA vs i c)).toArray, .bool (belowOk vs i c)]) ∧ Kept w w' := by
  have H := (Has.box w 31 h (by omega)).alloc (.cells #[.int .i64 0, .int .i64 0] 42)
  have Z := (Has.zero2v (w.alloc (.cells (ints vs).toArray 31)) 42).at (size1 _ _)
  have HB := Lib.hid (((kept_refl w).alloc (.cells (ints vs).toArray 31)).alloc (.cells #[.int .i64 0, .int .i64 0] 42))
  have hz : z2.length = 2 := rfl
  rw [row_ints]
  go_enter Try.func20, Try.ntmps20
  go_wp2_with (refine load_has rfl 31 _ rfl _ rfl ?_ 18 ?_ _ Try.underlying31 rfl ?_ ?_; rotate_left; (· (repeat (first | (with_reducible assumption) | ((with_reducible refine Has.box _ _ ?_ ?_) <;> (first | assumption | decide)) | (with_reducible refine Has.alloc ?_ _) | ((with_reducible refine Has.putOther ?_ _ _ ?_); rotate_left; omega; skip) | ((with_reducible refine Has.below ?_ ?_); rotate_left; assumption)))); (· kernel_rfl))
  refine (l7Good_any vs _ h hw).mono ?_
  rintro e w1 ⟨rfl, b1⟩
  have H1 := H.below b1
  have Z1 := Z.below b1
  have HB1 := Lib.hid (HB.out.call b1)
  clear H Z HB b1
  by_cases hv : vV vs = true
  rotate_left
  · have hf : vV vs = false := by simpa using hv
    rw [hf]
    have O := Lib.hid (belowOk_not (vs := vs) (i := i) (c := c) (fun hh => hv hh.1))
    have S1 := Lib.hid (Z1.putAll z2 rfl)
    have S2 := Lib.hid (HB1.out.puts (b := w.heap.size + 1) (by omega) 0 (ints z2))
    clear hv hf
    go_wp2_with (first | (refine build_law rfl 42 rfl _ build2z ?_) | (refine store_at rfl 42 _ _ rfl _ _ rfl rfl ?_ 2 ?_ ?_ ?_ ?_; rotate_left; (· (repeat (first | (with_reducible assumption) | ((with_reducible refine Has.box _ _ ?_ ?_) <;> (first | assumption | decide)) | (with_reducible refine Has.alloc ?_ _) | ((with_reducible refine Has.putOther ?_ _ _ ?_); rotate_left; omega; skip) | ((with_reducible refine Has.below ?_ ?_); rotate_left; assumption)))); (· (first | assumption | rfl)); (· kernel_rfl)))
    exact bodyPost_ret (res_has1 rfl _ _ (w.heap.size + 1) z2 2 _ (.bool false) rfl rfl S1.out Try.underlying42 rfl (by kernel_rfl)) rfl ⟨by rw [O.out.1, O.out.2], S2.out⟩
  rw [hv]
  go_wp2_with fail
  refine (l2Place_any i _).mono ?_
  rintro e w' ⟨rfl, rfl⟩
  by_cases hp : 0 ≤ i ∧ i < 6
  rotate_left
  · rw [decide_eq_false hp]
    have O := Lib.hid (belowOk_not (vs := vs) (i := i) (c := c) (fun hh => hp hh.2.1))
    have S1 := Lib.hid (Z1.putAll z2 rfl)
    have S2 := Lib.hid (HB1.out.puts (b := w.heap.size + 1) (by omega) 0 (ints z2))
    clear hp hv
    go_wp2_with (first | (refine build_law rfl 42 rfl _ build2z ?_) | (refine store_at rfl 42 _ _ rfl _ _ rfl rfl ?_ 2 ?_ ?_ ?_ ?_; rotate_left; (· (repeat (first | (with_reducible assumption) | ((with_reducible refine Has.box _ _ ?_ ?_) <;> (first | assumption | decide)) | (with_reducible refine Has.alloc ?_ _) | ((with_reducible refine Has.putOther ?_ _ _ ?_); rotate_left; omega; skip) | ((with_reducible refine Has.below ?_ ?_); rotate_left; assumption)))); (· (first | assumption | rfl)); (· kernel_rfl)))
    exact bodyPost_ret (res_has1 rfl _ _ (w.heap.size + 1) z2 2 _ (.bool false) rfl rfl S1.out Try.underlying42 rfl (by kernel_rfl)) rfl ⟨by rw [O.out.1, O.out.2], S2.out⟩
  rw [decide_eq_true hp]
  obtain ⟨p, rfl⟩ : ∃ p : Nat, i = (p : Int) := ⟨i.toNat, by omega⟩
  have hp6 : p < 6 := by omega
  have hpi : (p : Int) < 6 := by omega
  clear hp
  have c1 := H1.vCell 1 p (by omega) hp6
  have e1 : (prt vs 1).getD p 0 = vMany vs p := rfl
  rw [e1] at c1
  simp only [Nat.one_mul] at c1
  clear e1
  have HV := Lib.hid hv
  clear hv
  have HI := Lib.hid (fun W => l1In_any c 1 5 W)
  go_wp2_with fail
  refine (HI.out _).mono ?_
  rintro e w' ⟨rfl, rfl⟩
  by_cases hc : 1 ≤ c ∧ c ≤ 5
  rotate_left
  · rw [decide_eq_false hc]
    have O := Lib.hid (belowOk_not (vs := vs) (i := (p : Int)) (c := c) (fun hh => hc hh.2.2.2))
    have S1 := Lib.hid (Z1.putAll z2 rfl)
    have S2 := Lib.hid (HB1.out.puts (b := w.heap.size + 1) (by omega) 0 (ints z2))
    clear hc
    go_wp2_with (first | (refine build_law rfl 42 rfl _ build2z ?_) | (refine store_at rfl 42 _ _ rfl _ _ rfl rfl ?_ 2 ?_ ?_ ?_ ?_; rotate_left; (· (repeat (first | (with_reducible assumption) | ((with_reducible refine Has.box _ _ ?_ ?_) <;> (first | assumption | decide)) | (with_reducible refine Has.alloc ?_ _) | ((with_reducible refine Has.putOther ?_ _ _ ?_); rotate_left; omega; skip) | ((with_reducible refine Has.below ?_ ?_); rotate_left; assumption)))); (· (first | assumption | rfl)); (· kernel_rfl)))
    exact bodyPost_ret (res_has1 rfl _ _ (w.heap.size + 1) z2 2 _ (.bool false) rfl rfl S1.out Try.underlying42 rfl (by kernel_rfl)) rfl ⟨by rw [O.out.1, O.out.2], S2.out⟩
  rw [decide_eq_true hc]
  by_cases hm : 2 ≤ vMany vs p
  rotate_left
  · have m2 : decide (vMany vs p < 2) = true := decide_eq_true (by omega)
    have HM := Lib.hid hm
    generalize hmm : vMany vs p = m at *
    have HMM := Lib.hid hmm
    have O := Lib.hid (belowOk_not (vs := vs) (i := (p : Int)) (c := c) (fun hh => HM.out (by have := hh.2.2.1; rw [Int.toNat_natCast, HMM.out] at this; exact this)))
    have S1 := Lib.hid (Z1.putAll z2 rfl)
    have S2 := Lib.hid (HB1.out.puts (b := w.heap.size + 1) (by omega) 0 (ints z2))
    clear hm hmm hc
    go_wp2_with (first | (refine build_law rfl 42 rfl _ build2z ?_) | (refine store_at rfl 42 _ _ rfl _ _ rfl rfl ?_ 2 ?_ ?_ ?_ ?_; rotate_left; (· (repeat (first | (with_reducible assumption) | ((with_reducible refine Has.box _ _ ?_ ?_) <;> (first | assumption | decide)) | (with_reducible refine Has.alloc ?_ _) | ((with_reducible refine Has.putOther ?_ _ _ ?_); rotate_left; omega; skip) | ((with_reducible refine Has.below ?_ ?_); rotate_left; assumption)))); (· (first | assumption | rfl)); (· kernel_rfl)))
    exact bodyPost_ret (res_has1 rfl _ _ (w.heap.size + 1) z2 2 _ (.bool false) rfl rfl S1.out Try.underlying42 rfl (by kernel_rfl)) rfl ⟨by rw [O.out.1, O.out.2], S2.out⟩
  have m2 : decide (vMany vs p < 2) = false := decide_eq_false (by omega)
  have HM := Lib.hid hm
  clear hm
  obtain ⟨q, rfl⟩ : ∃ q : Nat, c = (q : Int) := ⟨c.toNat, by omega⟩
  have hq6 : q < 6 := by omega
  have hqi : (q : Int) < 6 := by omega
  have NU := below_nums h HV.out p q hp6 (by omega) HM.out
  clear hc
  obtain ⟨a, n, e1, e2, e3, n0, a18, n18, e4, e5⟩ := NU
  have E1 := Lib.hid e1
  have E2 := Lib.hid e2
  have E3 := Lib.hid e3
  have E4 := Lib.hid e4
  have E5 := Lib.hid e5
  clear e1 e2 e3 e4 e5
  have F := Lib.hid (viewFacts h HV.out)
  have h6 := hid_len h
  have fl := frac_len a n
  generalize vMany vs p = m at *
  have ES := hid_same h HV.out
  go_wp2_with (refine load_has rfl 31 _ rfl _ rfl ?_ 18 ?_ _ Try.underlying31 rfl ?_ ?_; rotate_left; (· (repeat (first | (with_reducible assumption) | ((with_reducible refine Has.box _ _ ?_ ?_) <;> (first | assumption | decide)) | (with_reducible refine Has.alloc ?_ _) | ((with_reducible refine Has.putOther ?_ _ _ ?_); rotate_left; omega; skip) | ((with_reducible refine Has.below ?_ ?_); rotate_left; assumption)))); (· kernel_rfl))
  refine (l7Hidden_any vs _ h F.out.tops hw).mono ?_
  rintro e w3 ⟨rfl, b3⟩
  rw [ES]
  have Z3 := (Z1.below b3).alloc (.cells (ints (hid vs)).toArray 22)
  have HB3 := Lib.hid ((HB1.out.call b3).alloc (.cells (ints (hid vs)).toArray 22))
  have Y := Has.box w3 22 h6 (by omega)
  have lz := b3.size
  have l1 := Z1.lt
  clear H1 HB1 b3 Z1 c1 ES
  rw [E2.out]
  go_upto_region 4 with (refine store_new rfl 22 _ _ rfl _ _ _ rfl _ rfl _ rfl rfl ?_ ?_ ?_; (· (first | assumption | rfl)); (· kernel_rfl))
  have hne : w.heap.size + 1 < w3.heap.size := by omega
  clear lz l1
  generalize w3.alloc (.cells (ints (hid vs)).toArray 22) = W3 at *
  generalize w3.heap.size = b at *
  have KF := Lib.hid (fun W => l7Cut_any a n W n0 (by omega) (by omega))
  have c2 := Y.cellX hq6 E1.out
  go_wp2_with fail
  refine (KF.out _).mono ?_
  rintro e w5 ⟨rfl, b5⟩
  have Z5 := Z3.below b5
  have S1 := Lib.hid (Z5.putAll (frac a n) fl)
  have S2 := Lib.hid ((HB3.out.call b5).puts (b := w.heap.size + 1) (by omega) 0 (ints (frac a n)))
  clear b5 Z3 HB3 Y
  go_wp2_with (refine store_at rfl 42 _ _ rfl _ _ rfl rfl ?_ 2 ?_ ?_ ?_ ?_; rotate_left; (· (repeat (first | (with_reducible assumption) | ((with_reducible refine Has.box _ _ ?_ ?_) <;> (first | assumption | decide)) | (with_reducible refine Has.alloc ?_ _) | ((with_reducible refine Has.putOther ?_ _ _ ?_); rotate_left; omega; skip) | ((with_reducible refine Has.below ?_ ?_); rotate_left; assumption)))); (· (first | assumption | rfl)); (· kernel_rfl))
  exact bodyPost_ret (res_has1 rfl _ _ (w.heap.size + 1) (frac a n) 2 _ (.bool true) rfl rfl S1.out Try.underlying42 rfl (by kernel_rfl)) rfl ⟨by rw [E4.out, E5.out], S2.out⟩
end Go.Proofs.Ytemiljokdedidab.base
