/-
  The chance that a rack is sorted, on the model's side, and its law, walked.
-/
import Derived.Test.YtemiljokdedidacPlnW
import Derived.Test.YtemiljokdedidacVwS3
import Derived.Test.YtemiljokdedidacStkW
import Derived.Test.YtemiljokdedidacTopW
namespace Go.Proofs.Ytemiljokdedidac.base
open Go.ChangeShapes Go.WideShapes Go.ChangeAt Go.RowKit
set_option linter.unusedVariables false
set_option linter.unusedSimpArgs false
theorem empUp_step (vs : List Int) (h : vs.length = 18) (c : Nat) : (empUp vs c).set 0 ((empUp vs c).getD 0 0 - vCnt vs c) = empUp vs (c + 1) := by
  unfold empUp
  rw [List.set_set, set_getD _ _ _ _ (by rw [prt_len vs 2 h (by omega)]; omega), if_pos rfl]
  congr 1
  unfold vCnt sumUp
  cases c <;> simp [sumUp] <;> omega
set_option maxHeartbeats 1600000 in
set_option maxRecDepth 100000 in
theorem l7Empty_any (vs : List Int) (w : World) (h : vs.length = 18) (hs : ∀ c, c ≤ 6 → -1000000 ≤ 24 - sumUp (prt vs 2) c ∧ 24 - sumUp (prt vs 2) c ≤ 1000000) (hc : ∀ c, c < 6 → 0 ≤ vCnt vs c ∧ vCnt vs c ≤ 1000000) (h0 : vCnt vs 0 = 0) :
    Calls Try.prog 42 #[row vs] w fun e w' => e = .returned (.agg (ints (empL vs)).toArray) ∧ Kept w w' := by
  have l2 := prt_len vs 2 h (by omega)
  have hi6 : (Try.prog.info? 22).map (·.size) = some (ints (prt vs 2)).length := by rw [ints_len, l2]; kernel_rfl
  have H := ((Has.box w 28 h (by omega)).alloc (.cells #[.int .i64 0, .int .i64 0, .int .i64 0, .int .i64 0, .int .i64 0, .int .i64 0] 22)).alloc (.cells (ints (prt vs 2)).toArray 22)
  have Z := ((Has.zero6 (w.alloc (.cells (ints vs).toArray 28)) 22).at (size1 _ _)).alloc (.cells (ints (prt vs 2)).toArray 22)
  have Y := (Has.box ((w.alloc (.cells (ints vs).toArray 28)).alloc (.cells #[.int .i64 0, .int .i64 0, .int .i64 0, .int .i64 0, .int .i64 0, .int .i64 0] 22)) 22 l2 (by omega)).at (c := w.heap.size + 1 + 1) (by simp)
  have HB := Lib.hid ((((kept_refl w).alloc (.cells (ints vs).toArray 28)).alloc (.cells #[.int .i64 0, .int .i64 0, .int .i64 0, .int .i64 0, .int .i64 0, .int .i64 0] 22)).alloc (.cells (ints (prt vs 2)).toArray 22))
  rw [row_ints]
  go_enter Try.func42, Try.ntmps42
  go_upto_region 2 with (first | (refine load_prt rfl 22 _ rfl _ (2) _ rfl ?_ ?_ ?_ ?_ _ Try.underlying22 rfl ?_ ?_; (· (first | rfl | omega)); rotate_left; (· (repeat (first | (with_reducible assumption) | ((with_reducible refine Has.box _ _ ?_ ?_) <;> (first | assumption | decide)) | (with_reducible refine Has.alloc ?_ _) | ((with_reducible refine Has.putOther ?_ _ _ ?_); rotate_left; omega; skip) | ((with_reducible refine Has.below ?_ ?_); rotate_left; assumption)))); (· omega); (· kernel_rfl)) | (refine store_new rfl 22 _ _ rfl _ _ _ rfl _ (by simp) (prt vs 2) rfl rfl ?_ ?_ ?_; (· (first | assumption | rfl)); (· kernel_rfl)))
  generalize (((w.alloc (.cells (ints vs).toArray 28)).alloc (.cells #[.int .i64 0, .int .i64 0, .int .i64 0, .int .i64 0, .int .i64 0, .int .i64 0] 22)).alloc (.cells (ints (prt vs 2)).toArray 22)) = W at *
  have c0 := Y.cell 0 (by omega)
  have f0 := Y.free 0 (by omega)
  have s1 : sumUp (prt vs 2) 1 = 0 := by show 0 + (prt vs 2).getD 0 0 = 0; have : (prt vs 2).getD 0 0 = 0 := h0; omega
  have Y2 := (Y.set 0 24 (by omega)).asV (show (prt vs 2).set 0 24 = empUp vs 1 by unfold empUp; rw [s1]; rfl)
  have H2 := H.setOther (b' := w.heap.size + 1 + 1) 0 (.int .i64 24) (by omega)
  have Z2 := Z.setOther (b' := w.heap.size + 1 + 1) 0 (.int .i64 24) (by omega)
  have HB2 := Lib.hid (HB.out.set (b := w.heap.size + 1 + 1) (by omega) 0 (.int .i64 24))
  have HH := Lib.hid h
  have HS := Lib.hid hs
  have HC := Lib.hid hc
  clear H Z Y HB hi6 s1 h0 hs hc
  generalize (prt vs 2).getD 0 0 = x0 at *
  go_upto_region 3 with fail
  generalize W.setCell ⟨w.heap.size + 1 + 1, 0, none⟩ (.int .i64 24) = W2 at *
  clear c0 f0
  go_wp2_with fail
  go_loopg [4] 5 (fun gk cc wr => ∃ c : Nat, gk = 6 - c ∧ 1 ≤ c ∧ c ≤ 6 ∧ cc = .int .i64 c ∧ Has wr w.heap.size vs 18 ∧ Has wr (w.heap.size + 1) z6 6 ∧ Has wr (w.heap.size + 1 + 1) (empUp vs c) 6 ∧ Hid (Kept w wr))
  case atStart => exact ⟨1, rfl, by omega, by omega, rfl, H2, Z2, Y2, HB2⟩
  case round =>
    clear H2 Z2 Y2 HB2
    obtain ⟨c, rfl, hc1, hc, rfl, GH, GZ, GY, GB⟩ := hrel
    by_cases hc6 : c < 6
    · have hci : (c : Int) ≤ 5 := by omega
      have hci6 : (c : Int) < 6 := by omega
      have DI := Lib.hid (show 6 - (c + 1) < 6 - c by omega)
      have e0 : (empUp vs c).getD 0 0 = 24 - sumUp (prt vs 2) c := by unfold empUp; rw [set_getD _ _ _ _ (by omega), if_pos rfl]
      have b0 := HS.out c (by omega)
      rw [← e0] at b0
      have bc := HC.out c hc6
      have ST := Lib.hid (empUp_step vs HH.out c)
      have y0 := GY.cell 0 (by omega)
      have g0 := GH.vCell 2 c (by omega) hc6
      have eg : (prt vs 2).getD c 0 = vCnt vs c := rfl
      rw [eg] at g0
      simp only [Nat.reduceMul] at g0
      clear e0 eg
      have hne2 : w.heap.size + 1 + 1 ≠ w.heap.size := by omega
      generalize hx : (empUp vs c).getD 0 0 = x at *
      have HX := Lib.hid hx
      generalize hy : vCnt vs c = y at *
      have VC := Lib.hid hy
      have wx : IntKind.i64.wrap (x - y) = x - y := IntWalk.i64_in _ (by omega)
      clear y0 g0 hx hy bc b0
      go_upto_region 6 with fail
      refine wp_region_held_drew (S := fun w' => Has w' w.heap.size vs 18 ∧ (∃ zs, Has w' (w.heap.size + 1 + 1) zs 6)) (by kernel_rfl) ⟨GH.drew, ⟨_, GY.drew⟩⟩ (fun hHeld => ?_)
      have D1 := GZ.drew
      have D2 := GY.drew
      have D4 := Lib.hid (GB.out.drewN 1)
      change Hid (Kept _ (World.drew wr)) at D4
      clear GZ GY GB GH
      generalize World.drew wr = WD at *
      (refine wpAnyH_take (i := 0) (v := ?_) rfl (by kernel_rfl) (by kernel_rfl) (by kernel_rfl) (fun _ _ _ h => h) (Or.inl ⟨by rfl, ?_⟩) hHeld ?_; rotate_left; (· (intro w' hSw; go_simp; try with_reducible rfl)); (try simp only [List.getElem_toArray, List.getElem_cons_zero, List.getElem_cons_succ, Act.put, List.setIfInBounds_toArray, List.set_cons_zero, List.set_cons_succ])); (refine wpAnyH_take (i := 2) (v := ?_) rfl (by kernel_rfl) (by kernel_rfl) (by kernel_rfl) (fun _ _ _ h => h) (Or.inl ⟨by rfl, ?_⟩) hHeld ?_; rotate_left; (· (intro w' hSw; go_simp; try with_reducible rfl)); (try simp only [List.getElem_toArray, List.getElem_cons_zero, List.getElem_cons_succ, Act.put, List.setIfInBounds_toArray, List.set_cons_zero, List.set_cons_succ])); (refine wpAnyH_take (i := 3) (v := ?_) rfl (by kernel_rfl) (by kernel_rfl) (by kernel_rfl) (fun _ _ _ h => h) (Or.inl ⟨by rfl, ?_⟩) hHeld ?_; rotate_left; (· (intro w' hSw; go_simp; try with_reducible rfl)); (try simp only [List.getElem_toArray, List.getElem_cons_zero, List.getElem_cons_succ, Act.put, List.setIfInBounds_toArray, List.set_cons_zero, List.set_cons_succ])); (refine wpAnyH_take (i := 4) (v := ?_) rfl (by kernel_rfl) (by kernel_rfl) (by kernel_rfl) (fun _ _ _ h => h) (Or.inl ⟨by rfl, ?_⟩) hHeld ?_; rotate_left; (· (intro w' hSw; go_simp; try with_reducible rfl)); (try simp only [List.getElem_toArray, List.getElem_cons_zero, List.getElem_cons_succ, Act.put, List.setIfInBounds_toArray, List.set_cons_zero, List.set_cons_succ]))
      (refine wpAnyH_take (i := 5) (v := .int .i64 y) rfl (by kernel_rfl) (by kernel_rfl) (by kernel_rfl) (fun _ _ _ h => h) (Or.inl ⟨by rfl, ?_⟩) hHeld ?_; (· (intro w' hSw; have q := hSw.1.cCellX c hc6 VC.out; clear hSw; go_simp; try with_reducible rfl)); (try simp only [List.getElem_toArray, List.getElem_cons_zero, List.getElem_cons_succ, Act.put, List.setIfInBounds_toArray, List.set_cons_zero, List.set_cons_succ]))
      have y2 := D2.cell 0 (by omega)
      rw [HX.out] at y2
      (refine wpAnyH_ready (rs := [1]) (by kernel_rfl) (by simp) ?_; refine AllReadyH.cons (o := _) rfl (fun K hK => ?_) AllReadyH.nil; (simp only [List.getElem_toArray, List.getElem_cons_zero, List.getElem_cons_succ, Region.wanted, if_true]))
      go_simp
      (try simp only [List.getElem_toArray, List.getElem_cons_zero, List.getElem_cons_succ, Act.put, List.setIfInBounds_toArray, List.set_cons_zero, List.set_cons_succ])
      refine hK.out _ _ ⟨hHeld.1, hHeld.2⟩ (fun hHeld => ?_)
      clear hK K
      (refine wpAnyH_take (i := 6) (v := .int .i64 (x - y)) rfl (by kernel_rfl) (by kernel_rfl) (by kernel_rfl) (fun _ _ _ h => h) (Or.inl ⟨by rfl, ?_⟩) hHeld ?_; (· (intro w' hSw; have q := wx; clear hSw; go_simp; try with_reducible rfl)); (try simp only [List.getElem_toArray, List.getElem_cons_zero, List.getElem_cons_succ, Act.put, List.setIfInBounds_toArray, List.set_cons_zero, List.set_cons_succ]))
      (refine wpAnyH_take (i := 7) (v := ?_) rfl (by kernel_rfl) (by kernel_rfl) (by kernel_rfl) (fun _ _ _ h => h) (Or.inl ⟨by rfl, ?_⟩) hHeld ?_; rotate_left; (· (intro w' hSw; go_simp; try with_reducible rfl)); (try simp only [List.getElem_toArray, List.getElem_cons_zero, List.getElem_cons_succ, Act.put, List.setIfInBounds_toArray, List.set_cons_zero, List.set_cons_succ]))
      have f2 := D2.free 0 (by omega)
      have M2 := (D2.set 0 (x - y) (by omega)).asV ST.out
      have M0 := hHeld.1.setOther (b' := w.heap.size + 1 + 1) 0 (.int .i64 (x - y)) (by omega)
      have M1 := Lib.hid (D1.setOther (b' := w.heap.size + 1 + 1) 0 (.int .i64 (x - y)) (by omega))
      have M4 := Lib.hid (D4.out.set (b := w.heap.size + 1 + 1) (by omega) 0 (.int .i64 (x - y)))
      (refine wpAnyH_ready (rs := [8]) (by kernel_rfl) (by simp) ?_; refine AllReadyH.cons (o := _) rfl (fun K hK => ?_) AllReadyH.nil; (simp only [List.getElem_toArray, List.getElem_cons_zero, List.getElem_cons_succ, Region.wanted, if_true]))
      go_simp
      (try simp only [List.getElem_toArray, List.getElem_cons_zero, List.getElem_cons_succ, Act.put, List.setIfInBounds_toArray, List.set_cons_zero, List.set_cons_succ])
      refine hK.out _ _ ⟨M0, ⟨_, M2⟩⟩ (fun hHeld => ?_)
      clear hK K
      refine wpAnyH_done (by kernel_rfl) ?_ _
      have M0 := Lib.hid M0
      have M2 := Lib.hid M2
      clear hHeld D1 D2 D4 y2 f2
      go_wp2_with fail
      go_roundg (6 - (c + 1))
      case rel => exact ⟨c + 1, rfl, by omega, by omega, by go_num, M0.out, M1.out, M2.out, M4⟩
      case measure => exact DI.out
    · obtain rfl : c = 6 := by omega
      have hl := empUp_len vs HH.out 6
      have S1 := Lib.hid (GZ.putAll (empL vs) hl)
      have S2 := Lib.hid (GB.out.puts (b := w.heap.size + 1) (by omega) 0 (ints (empL vs)))
      have er : empUp vs 6 = empL vs := rfl
      rw [er] at GY
      clear er
      go_wp2_with (first | (refine load_has rfl 22 _ rfl _ rfl ?_ 6 ?_ _ Try.underlying22 rfl ?_ ?_; rotate_left; (· (repeat (first | (with_reducible assumption) | ((with_reducible refine Has.box _ _ ?_ ?_) <;> (first | assumption | decide)) | (with_reducible refine Has.alloc ?_ _) | ((with_reducible refine Has.putOther ?_ _ _ ?_); rotate_left; omega; skip) | ((with_reducible refine Has.below ?_ ?_); rotate_left; assumption)))); (· kernel_rfl)) | (refine store_at rfl 22 _ _ rfl _ _ rfl rfl ?_ 6 ?_ ?_ ?_ ?_; rotate_left; (· (repeat (first | (with_reducible assumption) | ((with_reducible refine Has.box _ _ ?_ ?_) <;> (first | assumption | decide)) | (with_reducible refine Has.alloc ?_ _) | ((with_reducible refine Has.putOther ?_ _ _ ?_); rotate_left; omega; skip) | ((with_reducible refine Has.below ?_ ?_); rotate_left; assumption)))); (· (first | assumption | rfl)); (· kernel_rfl)))
      exact bodyPost_ret (res_has rfl _ _ (w.heap.size + 1) (empL vs) 6 _ rfl S1.out Try.underlying22 rfl (by kernel_rfl)) rfl ⟨rfl, S2.out⟩
theorem csOk_spec (vs : List Int) (h : vs.length = 18) (ht : topV vs = true) (h0 : vCnt vs 0 = 0) : csOk vs = (sortedA (plain vs) && decide (cntUp (plain vs) 24 = empL vs)) := by
  have e : decide (vwR (plain vs) = vs) = decide (cntUp (plain vs) 24 = empL vs) := decide_eq_decide.2 (plain_view h ht h0)
  show (sortedA (plain vs) && decide (vwR (plain vs) = vs)) = _
  rw [e]
theorem frac_one (b : Nat) : frac 1 b = [1, (b : Int)] := by
  unfold frac cutN cutD
  rw [Nat.gcd_one_left, Nat.div_one, Nat.div_one]; rfl
theorem vcnt_bounds (vs : List Int) (h : vs.length = 18) (hv : vV vs = true) : ∀ c, c < 6 → 0 ≤ vCnt vs c ∧ vCnt vs c ≤ 24 := fun c hc => by
  have F := viewFacts h hv
  have e := hid_get h F.tops c hc
  have o := occT_in vs c 6
  have n := F.nat c hc
  have m := F.each c hc
  omega
theorem vsum_bounds (vs : List Int) (hc : ∀ c, c < 6 → 0 ≤ vCnt vs c ∧ vCnt vs c ≤ 24) : ∀ c, c ≤ 6 → 0 ≤ sumUp (prt vs 2) c ∧ sumUp (prt vs 2) c ≤ 24 * (c : Int)
  | 0, _ => by simp [sumUp]
  | c + 1, h => by
    have ih := vsum_bounds vs hc c (by omega)
    have b := hc c (by omega)
    unfold vCnt at b
    unfold sumUp
    omega
set_option maxHeartbeats 3200000 in
set_option maxRecDepth 100000 in
theorem specCs (vs : List Int) (w : World) (h : vs.length = 18) (hw : Wf vs) :
    Calls Try.prog 16 #[row vs] w fun e w' => e = .returned (.tuple #[.agg (ints (csA vs)).toArray, .bool (vV vs)]) ∧ Kept w w' := by
  have H := (Has.box w 28 h (by omega)).alloc (.cells #[.int .i64 0, .int .i64 0] 33)
  have Z := (Has.zero2v (w.alloc (.cells (ints vs).toArray 28)) 33).at (size1 _ _)
  have HB := Lib.hid (((kept_refl w).alloc (.cells (ints vs).toArray 28)).alloc (.cells #[.int .i64 0, .int .i64 0] 33))
  have hz : z2.length = 2 := rfl
  rw [row_ints]
  go_enter Try.func16, Try.ntmps16
  go_wp2_with (refine load_has rfl 28 _ rfl _ rfl ?_ 18 ?_ _ Try.underlying28 rfl ?_ ?_; rotate_left; (· (repeat (first | (with_reducible assumption) | ((with_reducible refine Has.box _ _ ?_ ?_) <;> (first | assumption | decide)) | (with_reducible refine Has.alloc ?_ _) | ((with_reducible refine Has.putOther ?_ _ _ ?_); rotate_left; omega; skip) | ((with_reducible refine Has.below ?_ ?_); rotate_left; assumption)))); (· kernel_rfl))
  refine (l7Good_any vs _ h hw).mono ?_
  rintro e w1 ⟨rfl, b1⟩
  have H1 := H.below b1
  have Z1 := Z.below b1
  have HB1 := Lib.hid (HB.out.call b1)
  clear H Z HB b1
  by_cases hv : vV vs = true
  rotate_left
  · have hf : vV vs = false := by simpa using hv
    have EA := Lib.hid (show csA vs = z2 by unfold csA; rw [if_neg hv])
    have HF := Lib.hid hf
    rw [hf]
    have S1 := Lib.hid (Z1.putAll z2 rfl)
    have S2 := Lib.hid (HB1.out.puts (b := w.heap.size + 1) (by omega) 0 (ints z2))
    clear hv hf
    go_wp2_with (first | (refine build_law rfl 33 rfl _ build2z ?_) | (refine store_at rfl 33 _ _ rfl _ _ rfl rfl ?_ 2 ?_ ?_ ?_ ?_; rotate_left; (· (repeat (first | (with_reducible assumption) | ((with_reducible refine Has.box _ _ ?_ ?_) <;> (first | assumption | decide)) | (with_reducible refine Has.alloc ?_ _) | ((with_reducible refine Has.putOther ?_ _ _ ?_); rotate_left; omega; skip) | ((with_reducible refine Has.below ?_ ?_); rotate_left; assumption)))); (· (first | assumption | rfl)); (· kernel_rfl)))
    exact bodyPost_ret (res_has1 rfl _ _ (w.heap.size + 1) z2 2 _ (.bool false) rfl rfl S1.out Try.underlying33 rfl (by kernel_rfl)) rfl ⟨by rw [EA.out, HF.out], S2.out⟩
  have F := viewFacts h hv
  have ht := F.tops
  have cb := vcnt_bounds vs h hv
  have sb := vsum_bounds vs cb
  have PV := Lib.hid (plain_valid ht)
  have HV := Lib.hid hv
  have pl := plain_len vs
  have EA := Lib.hid (show csA vs = if csOk vs = true then [1, ((ordA (hid vs) : Nat) : Int)] else [0, 1] by unfold csA; rw [if_pos hv])
  have CO := Lib.hid (show csOk vs = (sortedA (plain vs) && decide (cntUp (plain vs) 24 = empL vs)) from csOk_spec vs h ht F.cnt0)
  have KE := Lib.hid (fun W => l7Empty_any vs W h (fun c hc => by have := sb c hc; omega) (fun c hc => by have := cb c hc; omega) F.cnt0)
  have KH := Lib.hid (fun W => l7Hidden_any vs W h ht hw)
  have KW := Lib.hid (fun W => l7Ways_any (hid vs) W (hid_len h) F.nat F.zero F.small)
  have KC := Lib.hid (fun W => l7Cut_any 1 (ordA (hid vs)) W (hid_stk h hv).pos (by omega) (by have := (hid_stk h hv).big F.small; omega))
  have ES := Lib.hid (hid_same h hv)
  have h6 := Lib.hid (hid_len h)
  have HT := Lib.hid (fun i hi => topV_at ht i hi)
  rw [hv]
  have Y1 := (Has.box w1 42 (ns := z24) (n := 24) rfl (by decide)).asV (plR_zero vs).symm
  have H2 := H1.alloc (.cells (ints z24).toArray 42)
  have Z2 := Z1.alloc (.cells (ints z24).toArray 42)
  have HB2 := Lib.hid (HB1.out.alloc (.cells (ints z24).toArray 42))
  have hne : w.heap.size + 1 < w1.heap.size := by have := Z1.lt; omega
  have hz24 : z24.length = 24 := rfl
  have hhw := HB1.out.size
  clear F ht cb sb hw hv H1 Z1 HB1 h
  go_upto_region 4 with (first | (refine build_law rfl 42 rfl _ buildRack ?_) | (refine store_new rfl 42 _ _ rfl _ _ _ rfl _ rfl _ rfl rfl ?_ ?_ ?_; (· (first | assumption | rfl)); (· kernel_rfl)))
  generalize w1.alloc (.cells (ints z24).toArray 42) = W1 at *
  generalize w1.heap.size = b at *
  go_wp2_with fail
  go_loopg [5] 6 (fun gk ii wr => ∃ i : Nat, gk = 6 - i ∧ i ≤ 6 ∧ ii = .int .i64 i ∧ Has wr w.heap.size vs 18 ∧ Has wr (w.heap.size + 1) z2 2 ∧ Has wr b (plR vs (i * 4)) 24 ∧ Hid (Kept w wr))
  case atStart => exact ⟨0, rfl, by omega, rfl, H2, Z2, Y1, HB2⟩
  case round =>
    clear H2 Z2 Y1 HB2
    obtain ⟨i, rfl, hi, rfl, GH, GZ, GY, GB⟩ := hrel
    by_cases hi6 : i < 6
    · have hii : (i : Int) < 6 := by omega
      have tk := HT.out i hi6
      obtain ⟨m, hm⟩ : ∃ m : Nat, vMany vs i = (m : Int) := ⟨(vMany vs i).toNat, by omega⟩
      have hm4 : m ≤ 4 := by omega
      have HM := Lib.hid hm
      have PE := Lib.hid (plR_end vs i m hm hm4)
      have PA := Lib.hid (show ∀ q, q < m → plAt vs i q = vTop vs i from fun q hq => by unfold plAt; rw [hm, if_pos (by omega)])
      have DI := Lib.hid (show 6 - (i + 1) < 6 - i by omega)
      clear tk hm
      go_wp2_with fail
      go_loopg [6] m (fun gk kk wr => ∃ k : Nat, gk = m - k ∧ k ≤ m ∧ kk = .int .i64 k ∧ Has wr w.heap.size vs 18 ∧ Has wr (w.heap.size + 1) z2 2 ∧ Has wr b (plR vs (i * 4 + k)) 24 ∧ Hid (Kept w wr))
      case atStart => exact ⟨0, rfl, by omega, rfl, GH, GZ, GY, GB⟩
      case round =>
        clear GH GZ GY GB
        obtain ⟨k, rfl, hk, rfl, KH1, KZ, KY, KB⟩ := hrel
        have c1 := KH1.mCellX i hi6 HM.out
        by_cases hkl : k < m
        · have dk : decide ((k : Int) < (m : Int)) = true := decide_eq_true (by omega)
          have hk4 : (k : Int) < 4 := by omega
          have k4 : k < 4 := by omega
          have MSH := Lib.hid (show (plR vs (i * 4 + k)).set (i * 4 + k) (vTop vs i) = plR vs (i * 4 + (k + 1)) by rw [← PA.out k hkl]; exact plR_set vs i k k4)
          have DK := Lib.hid (show m - (k + 1) < m - k by omega)
          have HK1 := Lib.hid (show k + 1 ≤ m from hkl)
          have hii4 : i * 4 + k < 24 := by omega
          have hne2 : b ≠ w.heap.size := by omega
          clear hkl
          go_wp2_with fail
          clear c1
          refine wp_region_held_drew (S := fun w' => Has w' w.heap.size vs 18 ∧ (∃ zs, Has w' b zs 24)) (by kernel_rfl) ⟨KH1.drew, ⟨_, KY.drew⟩⟩ (fun hHeld => ?_)
          have D1 := KZ.drew
          have D2 := KY.drew
          have D4 := Lib.hid (KB.out.drewN 1)
          change Hid (Kept _ (World.drew wr)) at D4
          clear KZ KY KB KH1
          generalize World.drew wr = WD at *
          (refine wpAnyH_take (i := 0) (v := ?_) rfl (by kernel_rfl) (by kernel_rfl) (by kernel_rfl) (fun _ _ _ h => h) (Or.inl ⟨by rfl, ?_⟩) hHeld ?_; rotate_left; (· (intro w' hSw; go_simp; try with_reducible rfl)); (try simp only [List.getElem_toArray, List.getElem_cons_zero, List.getElem_cons_succ, Act.put, List.setIfInBounds_toArray, List.set_cons_zero, List.set_cons_succ])); (refine wpAnyH_take (i := 1) (v := ?_) rfl (by kernel_rfl) (by kernel_rfl) (by kernel_rfl) (fun _ _ _ h => h) (Or.inl ⟨by rfl, ?_⟩) hHeld ?_; rotate_left; (· (intro w' hSw; go_simp; try with_reducible rfl)); (try simp only [List.getElem_toArray, List.getElem_cons_zero, List.getElem_cons_succ, Act.put, List.setIfInBounds_toArray, List.set_cons_zero, List.set_cons_succ])); (refine wpAnyH_take (i := 2) (v := ?_) rfl (by kernel_rfl) (by kernel_rfl) (by kernel_rfl) (fun _ _ _ h => h) (Or.inl ⟨by rfl, ?_⟩) hHeld ?_; rotate_left; (· (intro w' hSw; go_simp; try with_reducible rfl)); (try simp only [List.getElem_toArray, List.getElem_cons_zero, List.getElem_cons_succ, Act.put, List.setIfInBounds_toArray, List.set_cons_zero, List.set_cons_succ])); (refine wpAnyH_take (i := 3) (v := ?_) rfl (by kernel_rfl) (by kernel_rfl) (by kernel_rfl) (fun _ _ _ h => h) (Or.inl ⟨by rfl, ?_⟩) hHeld ?_; rotate_left; (· (intro w' hSw; go_simp; try with_reducible rfl)); (try simp only [List.getElem_toArray, List.getElem_cons_zero, List.getElem_cons_succ, Act.put, List.setIfInBounds_toArray, List.set_cons_zero, List.set_cons_succ])); (refine wpAnyH_take (i := 4) (v := ?_) rfl (by kernel_rfl) (by kernel_rfl) (by kernel_rfl) (fun _ _ _ h => h) (Or.inl ⟨by rfl, ?_⟩) hHeld ?_; rotate_left; (· (intro w' hSw; go_simp; try with_reducible rfl)); (try simp only [List.getElem_toArray, List.getElem_cons_zero, List.getElem_cons_succ, Act.put, List.setIfInBounds_toArray, List.set_cons_zero, List.set_cons_succ])); (refine wpAnyH_take (i := 6) (v := ?_) rfl (by kernel_rfl) (by kernel_rfl) (by kernel_rfl) (fun _ _ _ h => h) (Or.inl ⟨by rfl, ?_⟩) hHeld ?_; rotate_left; (· (intro w' hSw; go_simp; try with_reducible rfl)); (try simp only [List.getElem_toArray, List.getElem_cons_zero, List.getElem_cons_succ, Act.put, List.setIfInBounds_toArray, List.set_cons_zero, List.set_cons_succ])); (refine wpAnyH_take (i := 7) (v := ?_) rfl (by kernel_rfl) (by kernel_rfl) (by kernel_rfl) (fun _ _ _ h => h) (Or.inl ⟨by rfl, ?_⟩) hHeld ?_; rotate_left; (· (intro w' hSw; go_simp; try with_reducible rfl)); (try simp only [List.getElem_toArray, List.getElem_cons_zero, List.getElem_cons_succ, Act.put, List.setIfInBounds_toArray, List.set_cons_zero, List.set_cons_succ]))
          (refine wpAnyH_take (i := 5) (v := .int .i64 (vTop vs i)) rfl (by kernel_rfl) (by kernel_rfl) (by kernel_rfl) (fun _ _ _ h => h) (Or.inl ⟨by rfl, ?_⟩) hHeld ?_; (· (intro w' hSw; have q := hSw.1.tCell i hi6; clear hSw; go_simp; try with_reducible rfl)); (try simp only [List.getElem_toArray, List.getElem_cons_zero, List.getElem_cons_succ, Act.put, List.setIfInBounds_toArray, List.set_cons_zero, List.set_cons_succ]))
          (refine wpAnyH_take (i := 8) (v := ?_) rfl (by kernel_rfl) (by kernel_rfl) (by kernel_rfl) (fun _ _ _ h => h) (Or.inl ⟨by rfl, ?_⟩) hHeld ?_; rotate_left; (· (intro w' hSw; go_simp; try with_reducible rfl)); (try simp only [List.getElem_toArray, List.getElem_cons_zero, List.getElem_cons_succ, Act.put, List.setIfInBounds_toArray, List.set_cons_zero, List.set_cons_succ]))
          have y2 := D2.cell (i * 4 + k) hii4
          have f2 := D2.free (i * 4 + k) hii4
          have M2 := (D2.set (i * 4 + k) (vTop vs i) hii4).asV MSH.out
          have M0 := hHeld.1.setOther (b' := b) (i * 4 + k) (.int .i64 (vTop vs i)) (by omega)
          have M1 := Lib.hid (D1.setOther (b' := b) (i * 4 + k) (.int .i64 (vTop vs i)) (by omega))
          have M4 := Lib.hid (D4.out.set (b := b) (by omega) (i * 4 + k) (.int .i64 (vTop vs i)))
          (refine wpAnyH_ready (rs := [9]) (by kernel_rfl) (by simp) ?_; refine AllReadyH.cons (o := _) rfl (fun K hK => ?_) AllReadyH.nil; (simp only [List.getElem_toArray, List.getElem_cons_zero, List.getElem_cons_succ, Region.wanted, if_true]))
          go_simp
          (try simp only [List.getElem_toArray, List.getElem_cons_zero, List.getElem_cons_succ, Act.put, List.setIfInBounds_toArray, List.set_cons_zero, List.set_cons_succ])
          refine hK.out _ _ ⟨M0, ⟨_, M2⟩⟩ (fun hHeld => ?_)
          clear hK K
          refine wpAnyH_done (by kernel_rfl) ?_ _
          have M0 := Lib.hid M0
          have M2 := Lib.hid M2
          clear hHeld D1 D2 D4 y2 f2
          go_wp2_with fail
          go_roundg (m - (k + 1))
          case rel => exact ⟨k + 1, rfl, HK1.out, by go_num, M0.out, M1.out, M2.out, M4⟩
          case measure => exact DK.out
        · have hke : k = m := by omega
          subst hke
          have KY2 := KY.asV PE.out
          go_wp2_with fail
          go_roundg (6 - (i + 1))
          case rel => exact ⟨i + 1, rfl, by omega, by go_num, KH1, KZ, KY2, KB⟩
          case measure => exact DI.out
    · obtain rfl : i = 6 := by omega
      have er : plR vs (6 * 4) = plain vs := rfl
      rw [er] at GY
      clear er
      go_upto_region 11 with fail
      generalize plain vs = P at *
      have hia : (Try.prog.info? 42).map (·.size) = some (ints P).length := by rw [ints_len, pl]; kernel_rfl
      have hib : (Try.prog.info? 28).map (·.size) = some (ints vs).length := by rw [ints_len, GH.len]; kernel_rfl
      have HL18 := Lib.hid GH.len
      have EQ := Lib.hid (fun w => eqSixV (cntUp P 24) (empL vs) (cnt_all P 24).1 (empUp_len vs HL18.out 6) w)
      have hm6 : Hid (Try.prog.eqGuardType Try.prog.depth 22 = false) := Lib.hid (by kernel_rfl)
      refine wp_region_held_drew (S := fun w' => Has w' w.heap.size vs 18 ∧ Has w' (w.heap.size + 1) z2 2 ∧ Has w' b P 24 ∧ Kept w w') (by kernel_rfl) ⟨GH.drew, GZ.drew, GY.drew, GB.out.drewN 1⟩ (fun hHeld => ?_)
      clear GH GZ GY GB
      generalize World.drew wr = WD at *
      (refine wpAnyH_take (i := 0) (v := _) rfl (by kernel_rfl) (by kernel_rfl) (by kernel_rfl) (fun _ _ _ h => h) (yieldsIf_load_mid (by rfl) 42 _ rfl _ _ rfl (ints P) _ (fun w' hSw => hSw.2.2.1.holds.range) Try.underlying42 rfl (hia)) hHeld ?_; (try simp only [List.getElem_toArray, List.getElem_cons_zero, List.getElem_cons_succ, Act.put, List.setIfInBounds_toArray, List.set_cons_zero, List.set_cons_succ]))
      (refine wpAnyH_ready (rs := [1]) (by kernel_rfl) (by simp) ?_; refine AllReadyH.cons (o := _) rfl (fun K hK => ?_) AllReadyH.nil; (simp only [List.getElem_toArray, List.getElem_cons_zero, List.getElem_cons_succ, Region.wanted, if_true]))
      go_simp
      refine (l2Sorted_any P _ pl PV.out).mono ?_
      rintro e w3 ⟨rfl, b3⟩
      dsimp only
      (try simp only [List.getElem_toArray, List.getElem_cons_zero, List.getElem_cons_succ, Act.put, List.setIfInBounds_toArray, List.set_cons_zero, List.set_cons_succ])
      refine hK.out _ _ ⟨hHeld.1.below b3, hHeld.2.1.below b3, hHeld.2.2.1.below b3, hHeld.2.2.2.call b3⟩ (fun hHeld => ?_)
      clear hK K b3
      by_cases hs : sortedA P = true
      · rw [hs]
        (refine wpAnyH_take (i := 2) (v := ?_) rfl (by kernel_rfl) (by kernel_rfl) (by kernel_rfl) (fun _ _ _ h => h) (Or.inl ⟨by rfl, ?_⟩) hHeld ?_; rotate_left; (· (intro w' hSw; go_simp; try with_reducible rfl)); (try simp only [List.getElem_toArray, List.getElem_cons_zero, List.getElem_cons_succ, Act.put, List.setIfInBounds_toArray, List.set_cons_zero, List.set_cons_succ])); (refine wpAnyH_take (i := 3) (v := ?_) rfl (by kernel_rfl) (by kernel_rfl) (by kernel_rfl) (fun _ _ _ h => h) (Or.inl ⟨by rfl, ?_⟩) hHeld ?_; rotate_left; (· (intro w' hSw; go_simp; try with_reducible rfl)); (try simp only [List.getElem_toArray, List.getElem_cons_zero, List.getElem_cons_succ, Act.put, List.setIfInBounds_toArray, List.set_cons_zero, List.set_cons_succ]))
        (refine wpAnyH_take (i := 4) (v := _) rfl (by kernel_rfl) (by kernel_rfl) (by kernel_rfl) (fun _ _ _ h => h) (yieldsIf_load_mid (by rfl) 42 _ rfl _ _ rfl (ints P) _ (fun w' hSw => hSw.2.2.1.holds.range) Try.underlying42 rfl (hia)) hHeld ?_; (try simp only [List.getElem_toArray, List.getElem_cons_zero, List.getElem_cons_succ, Act.put, List.setIfInBounds_toArray, List.set_cons_zero, List.set_cons_succ]))
        (refine wpAnyH_take (i := 6) (v := _) rfl (by kernel_rfl) (by kernel_rfl) (by kernel_rfl) (fun _ _ _ h => h) (yieldsIf_load_mid (by rfl) 28 _ rfl _ _ rfl (ints vs) _ (fun w' hSw => hSw.1.holds.range) Try.underlying28 rfl (hib)) hHeld ?_; (try simp only [List.getElem_toArray, List.getElem_cons_zero, List.getElem_cons_succ, Act.put, List.setIfInBounds_toArray, List.set_cons_zero, List.set_cons_succ]))
        (refine wpAnyH_ready (rs := [5]) (by kernel_rfl) (by simp) ?_; refine AllReadyH.cons (o := _) rfl (fun K hK => ?_) AllReadyH.nil; (simp only [List.getElem_toArray, List.getElem_cons_zero, List.getElem_cons_succ, Region.wanted, if_true]))
        go_simp
        refine (l2Counts_any P _ pl PV.out).mono ?_
        rintro e w4 ⟨rfl, b4⟩
        dsimp only
        (try simp only [List.getElem_toArray, List.getElem_cons_zero, List.getElem_cons_succ, Act.put, List.setIfInBounds_toArray, List.set_cons_zero, List.set_cons_succ])
        refine hK.out _ _ ⟨hHeld.1.below b4, hHeld.2.1.below b4, hHeld.2.2.1.below b4, hHeld.2.2.2.call b4⟩ (fun hHeld => ?_)
        clear hK K b4
        (refine wpAnyH_ready (rs := [7]) (by kernel_rfl) (by simp) ?_; refine AllReadyH.cons (o := _) rfl (fun K hK => ?_) AllReadyH.nil; (simp only [List.getElem_toArray, List.getElem_cons_zero, List.getElem_cons_succ, Region.wanted, if_true]))
        go_simp
        refine (KE.out _).mono ?_
        rintro e w5 ⟨rfl, b5⟩
        dsimp only
        (try simp only [List.getElem_toArray, List.getElem_cons_zero, List.getElem_cons_succ, Act.put, List.setIfInBounds_toArray, List.set_cons_zero, List.set_cons_succ])
        refine hK.out _ _ ⟨hHeld.1.below b5, hHeld.2.1.below b5, hHeld.2.2.1.below b5, hHeld.2.2.2.call b5⟩ (fun hHeld => ?_)
        clear hK K b5
        by_cases he : cntUp P 24 = empL vs
        · have E := Lib.hid (show (!decide (cntUp P 24 = empL vs)) = false by rw [decide_eq_true he]; rfl)
          have C := Lib.hid (show csA vs = [1, ((ordA (hid vs) : Nat) : Int)] by rw [EA.out, CO.out, hs, decide_eq_true he]; rfl)
          refine wpAnyH_take (i := 8) (v := .bool false) rfl (by kernel_rfl) (by kernel_rfl) (by kernel_rfl) (fun _ _ _ h => h) (Or.inl ⟨by rfl, fun w' hSw => neqv_run _ _ _ _ _ _ rfl _ _ rfl rfl hm6.out EQ.out false E.out⟩) hHeld ?_
          (try simp only [List.getElem_toArray, List.getElem_cons_zero, List.getElem_cons_succ, Act.put, List.setIfInBounds_toArray, List.set_cons_zero, List.set_cons_succ])
          (refine wpAnyH_take (i := 9) (v := ?_) rfl (by kernel_rfl) (by kernel_rfl) (by kernel_rfl) (fun _ _ _ h => h) (Or.inl ⟨by rfl, ?_⟩) hHeld ?_; rotate_left; (· (intro w' hSw; go_simp; try with_reducible rfl)); (try simp only [List.getElem_toArray, List.getElem_cons_zero, List.getElem_cons_succ, Act.put, List.setIfInBounds_toArray, List.set_cons_zero, List.set_cons_succ]))
          refine wpAnyH_done (by kernel_rfl) ?_ _
          obtain ⟨A1, A2, A3, A4⟩ := hHeld
          replace A4 := Lib.hid A4
          have LH := h6.out
          clear hs he EQ E
          go_wp2_with (refine load_has rfl 28 _ rfl _ rfl ?_ 18 ?_ _ Try.underlying28 rfl ?_ ?_; rotate_left; (· (repeat (first | (with_reducible assumption) | ((with_reducible refine Has.box _ _ ?_ ?_) <;> (first | assumption | decide)) | (with_reducible refine Has.alloc ?_ _) | ((with_reducible refine Has.putOther ?_ _ _ ?_); rotate_left; omega; skip) | ((with_reducible refine Has.below ?_ ?_); rotate_left; assumption)))); (· kernel_rfl))
          refine (KH.out _).mono ?_
          rintro e w6 ⟨rfl, b6⟩
          rw [ES.out]
          have A5 := (A2.below b6).alloc (.cells (ints (hid vs)).toArray 22)
          have A6 := Lib.hid ((A4.out.call b6).alloc (.cells (ints (hid vs)).toArray 22))
          have A7 := Has.box w6 22 LH (by omega)
          clear A1 A2 A3 A4 b6
          go_wp2_with (first | (refine store_new rfl 22 _ _ rfl _ _ _ rfl _ rfl _ rfl rfl ?_ ?_ ?_; (· (first | assumption | rfl)); (· kernel_rfl)) | (refine load_has rfl 22 _ rfl _ rfl ?_ 6 ?_ _ Try.underlying22 rfl ?_ ?_; rotate_left; (· (repeat (first | (with_reducible assumption) | ((with_reducible refine Has.box _ _ ?_ ?_) <;> (first | assumption | decide)) | (with_reducible refine Has.alloc ?_ _) | ((with_reducible refine Has.putOther ?_ _ _ ?_); rotate_left; omega; skip) | ((with_reducible refine Has.below ?_ ?_); rotate_left; assumption)))); (· kernel_rfl)))
          refine (KW.out _).mono ?_
          rintro e w7 ⟨rfl, b7⟩
          have A8 := A5.below b7
          have A9 := Lib.hid (A6.out.call b7)
          clear A5 A6 A7 b7
          go_wp2_with fail
          refine (KC.out _).mono ?_
          rintro e w8 ⟨rfl, b8⟩
          rw [frac_one]
          have B8 := A8.below b8
          have B9 := Lib.hid (A9.out.call b8)
          have S1 := Lib.hid (B8.putAll [1, ((ordA (hid vs) : Nat) : Int)] rfl)
          have S2 := Lib.hid (B9.out.puts (b := w.heap.size + 1) (by omega) 0 (ints [1, ((ordA (hid vs) : Nat) : Int)]))
          have hl2 : ([1, ((ordA (hid vs) : Nat) : Int)] : List Int).length = 2 := rfl
          clear A8 A9 b8
          go_wp2_with (refine store_at rfl 33 _ _ rfl _ _ rfl rfl ?_ 2 ?_ ?_ ?_ ?_; rotate_left; (· (repeat (first | (with_reducible assumption) | ((with_reducible refine Has.box _ _ ?_ ?_) <;> (first | assumption | decide)) | (with_reducible refine Has.alloc ?_ _) | ((with_reducible refine Has.putOther ?_ _ _ ?_); rotate_left; omega; skip) | ((with_reducible refine Has.below ?_ ?_); rotate_left; assumption)))); (· (first | assumption | rfl)); (· kernel_rfl))
          exact bodyPost_ret (res_has1 rfl _ _ (w.heap.size + 1) [1, ((ordA (hid vs) : Nat) : Int)] 2 _ (.bool true) rfl rfl S1.out Try.underlying33 rfl (by kernel_rfl)) rfl ⟨by rw [C.out, HV.out], S2.out⟩
        · have E := Lib.hid (show (!decide (cntUp P 24 = empL vs)) = true by rw [decide_eq_false he]; rfl)
          have C := Lib.hid (show csA vs = [0, 1] by rw [EA.out, CO.out, hs, decide_eq_false he]; rfl)
          refine wpAnyH_take (i := 8) (v := .bool true) rfl (by kernel_rfl) (by kernel_rfl) (by kernel_rfl) (fun _ _ _ h => h) (Or.inl ⟨by rfl, fun w' hSw => neqv_run _ _ _ _ _ _ rfl _ _ rfl rfl hm6.out EQ.out true E.out⟩) hHeld ?_
          (try simp only [List.getElem_toArray, List.getElem_cons_zero, List.getElem_cons_succ, Act.put, List.setIfInBounds_toArray, List.set_cons_zero, List.set_cons_succ])
          (refine wpAnyH_take (i := 9) (v := ?_) rfl (by kernel_rfl) (by kernel_rfl) (by kernel_rfl) (fun _ _ _ h => h) (Or.inl ⟨by rfl, ?_⟩) hHeld ?_; rotate_left; (· (intro w' hSw; go_simp; try with_reducible rfl)); (try simp only [List.getElem_toArray, List.getElem_cons_zero, List.getElem_cons_succ, Act.put, List.setIfInBounds_toArray, List.set_cons_zero, List.set_cons_succ]))
          refine wpAnyH_done (by kernel_rfl) ?_ _
          obtain ⟨A1, A2, A3, A4⟩ := hHeld
          have S1 := Lib.hid (A2.putAll [0, 1] rfl)
          have S2 := Lib.hid (A4.puts (b := w.heap.size + 1) (by omega) 0 (ints [0, 1]))
          have hl2 : ([0, 1] : List Int).length = 2 := rfl
          clear hs he EQ E
          go_wp2_with (refine store_at rfl 33 _ _ rfl _ [0, 1] rfl rfl ?_ 2 ?_ rfl ?_ ?_; rotate_left; (· (repeat (first | (with_reducible assumption) | ((with_reducible refine Has.box _ _ ?_ ?_) <;> (first | assumption | decide)) | (with_reducible refine Has.alloc ?_ _) | ((with_reducible refine Has.putOther ?_ _ _ ?_); rotate_left; omega; skip) | ((with_reducible refine Has.below ?_ ?_); rotate_left; assumption)))); (· kernel_rfl))
          exact bodyPost_ret (res_has1 rfl _ _ (w.heap.size + 1) [0, 1] 2 _ (.bool true) rfl rfl S1.out Try.underlying33 rfl (by kernel_rfl)) rfl ⟨by rw [C.out, HV.out], S2.out⟩
      · have hf : sortedA P = false := by simpa using hs
        rw [hf]
        have C := Lib.hid (show csA vs = [0, 1] by rw [EA.out, CO.out, hf]; rfl)
        (refine wpAnyH_take (i := 2) (v := ?_) rfl (by kernel_rfl) (by kernel_rfl) (by kernel_rfl) (fun _ _ _ h => h) (Or.inl ⟨by rfl, ?_⟩) hHeld ?_; rotate_left; (· (intro w' hSw; go_simp; try with_reducible rfl)); (try simp only [List.getElem_toArray, List.getElem_cons_zero, List.getElem_cons_succ, Act.put, List.setIfInBounds_toArray, List.set_cons_zero, List.set_cons_succ])); (refine wpAnyH_take (i := 3) (v := ?_) rfl (by kernel_rfl) (by kernel_rfl) (by kernel_rfl) (fun _ _ _ h => h) (Or.inl ⟨by rfl, ?_⟩) hHeld ?_; rotate_left; (· (intro w' hSw; go_simp; try with_reducible rfl)); (try simp only [List.getElem_toArray, List.getElem_cons_zero, List.getElem_cons_succ, Act.put, List.setIfInBounds_toArray, List.set_cons_zero, List.set_cons_succ]))
        (refine wpAnyH_take (i := 4) (v := undef) rfl (by kernel_rfl) (by kernel_rfl) (by kernel_rfl) (fun _ _ _ h => h) (Or.inr ⟨by rfl, rfl⟩) hHeld ?_; (try simp only [List.getElem_toArray, List.getElem_cons_zero, List.getElem_cons_succ, Act.put, List.setIfInBounds_toArray, List.set_cons_zero, List.set_cons_succ])); (refine wpAnyH_take (i := 5) (v := undef) rfl (by kernel_rfl) (by kernel_rfl) (by kernel_rfl) (fun _ _ _ h => h) (Or.inr ⟨by rfl, rfl⟩) hHeld ?_; (try simp only [List.getElem_toArray, List.getElem_cons_zero, List.getElem_cons_succ, Act.put, List.setIfInBounds_toArray, List.set_cons_zero, List.set_cons_succ])); (refine wpAnyH_take (i := 6) (v := undef) rfl (by kernel_rfl) (by kernel_rfl) (by kernel_rfl) (fun _ _ _ h => h) (Or.inr ⟨by rfl, rfl⟩) hHeld ?_; (try simp only [List.getElem_toArray, List.getElem_cons_zero, List.getElem_cons_succ, Act.put, List.setIfInBounds_toArray, List.set_cons_zero, List.set_cons_succ])); (refine wpAnyH_take (i := 7) (v := undef) rfl (by kernel_rfl) (by kernel_rfl) (by kernel_rfl) (fun _ _ _ h => h) (Or.inr ⟨by rfl, rfl⟩) hHeld ?_; (try simp only [List.getElem_toArray, List.getElem_cons_zero, List.getElem_cons_succ, Act.put, List.setIfInBounds_toArray, List.set_cons_zero, List.set_cons_succ])); (refine wpAnyH_take (i := 8) (v := undef) rfl (by kernel_rfl) (by kernel_rfl) (by kernel_rfl) (fun _ _ _ h => h) (Or.inr ⟨by rfl, rfl⟩) hHeld ?_; (try simp only [List.getElem_toArray, List.getElem_cons_zero, List.getElem_cons_succ, Act.put, List.setIfInBounds_toArray, List.set_cons_zero, List.set_cons_succ]))
        (refine wpAnyH_take (i := 9) (v := ?_) rfl (by kernel_rfl) (by kernel_rfl) (by kernel_rfl) (fun _ _ _ h => h) (Or.inl ⟨by rfl, ?_⟩) hHeld ?_; rotate_left; (· (intro w' hSw; go_simp; try with_reducible rfl)); (try simp only [List.getElem_toArray, List.getElem_cons_zero, List.getElem_cons_succ, Act.put, List.setIfInBounds_toArray, List.set_cons_zero, List.set_cons_succ]))
        refine wpAnyH_done (by kernel_rfl) ?_ _
        obtain ⟨A1, A2, A3, A4⟩ := hHeld
        have S1 := Lib.hid (A2.putAll [0, 1] rfl)
        have S2 := Lib.hid (A4.puts (b := w.heap.size + 1) (by omega) 0 (ints [0, 1]))
        have hl2 : ([0, 1] : List Int).length = 2 := rfl
        clear hs hf EQ
        go_wp2_with (refine store_at rfl 33 _ _ rfl _ [0, 1] rfl rfl ?_ 2 ?_ rfl ?_ ?_; rotate_left; (· (repeat (first | (with_reducible assumption) | ((with_reducible refine Has.box _ _ ?_ ?_) <;> (first | assumption | decide)) | (with_reducible refine Has.alloc ?_ _) | ((with_reducible refine Has.putOther ?_ _ _ ?_); rotate_left; omega; skip) | ((with_reducible refine Has.below ?_ ?_); rotate_left; assumption)))); (· kernel_rfl))
        exact bodyPost_ret (res_has1 rfl _ _ (w.heap.size + 1) [0, 1] 2 _ (.bool true) rfl rfl S1.out Try.underlying33 rfl (by kernel_rfl)) rfl ⟨by rw [C.out, HV.out], S2.out⟩
set_option maxHeartbeats 400000 in
theorem lawChanceSorted (vs : List Int) (w : World) (h0 : vs.length = 18 ∧ ∀ n ∈ vs, (Lit.int .i64 n).wf = true) :
    Calls Try.prog 4 #[row vs] w fun e w' => e = .returned (.bool true) ∧ Kept w w' := by
  obtain ⟨h, hw⟩ := h0
  have hl : (csA vs).length = 2 := csA_len vs
  have HB := Lib.hid ((kept_refl w).alloc (.cells (ints vs).toArray 24))
  have H := Has.box w 24 h (by omega)
  have KS := Lib.hid (fun _W => specCs vs _W h hw)
  have KI := Lib.hid (fun _W => implCs vs _W h)
  clear hw
  rw [row_ints]
  go_enter Try.func4, Try.ntmps4
  go_wp2_with (refine load_has rfl 24 _ rfl _ rfl ?_ 18 ?_ _ Try.underlying24 rfl ?_ ?_; rotate_left; (· (repeat (first | (with_reducible assumption) | ((with_reducible refine Has.box _ _ ?_ ?_) <;> (first | assumption | decide)) | (with_reducible refine Has.alloc ?_ _) | ((with_reducible refine Has.putOther ?_ _ _ ?_); rotate_left; omega; skip) | ((with_reducible refine Has.below ?_ ?_); rotate_left; assumption)))); (· kernel_rfl))
  refine (toView_any vs _ h).mono ?_
  rintro e w1 ⟨rfl, b1⟩
  have H1 := H.below b1
  have HB1 := Lib.hid (HB.out.call b1)
  clear H HB b1
  go_wp2_with fail
  refine (KS.out _).mono ?_
  rintro e w2 ⟨rfl, b2⟩
  have H2 := (H1.below b2).alloc (.cells (ints (csA vs)).toArray 33)
  have R2 := Has.box w2 33 hl (by omega)
  have HB2 := Lib.hid ((HB1.out.call b2).alloc (.cells (ints (csA vs)).toArray 33))
  clear H1 HB1 b2
  go_wp2_with (first | (refine store_new rfl 33 _ _ rfl _ _ _ rfl _ rfl _ rfl rfl ?_ ?_ ?_; (· (first | assumption | rfl)); (· kernel_rfl)) | (refine load_has rfl 24 _ rfl _ rfl ?_ 18 ?_ _ Try.underlying24 rfl ?_ ?_; rotate_left; (· (repeat (first | (with_reducible assumption) | ((with_reducible refine Has.box _ _ ?_ ?_) <;> (first | assumption | decide)) | (with_reducible refine Has.alloc ?_ _) | ((with_reducible refine Has.putOther ?_ _ _ ?_); rotate_left; omega; skip) | ((with_reducible refine Has.below ?_ ?_); rotate_left; assumption)))); (· kernel_rfl)))
  refine (toView_any vs _ h).mono ?_
  rintro e w3 ⟨rfl, b3⟩
  have R3 := R2.below b3
  have HB3 := Lib.hid (HB2.out.call b3)
  clear H2 R2 HB2 b3
  go_wp2_with fail
  refine (KI.out _).mono ?_
  rintro e w4 ⟨rfl, b4⟩
  have R4 := (R3.below b4).alloc (.cells (ints (csA vs)).toArray 33)
  have Q4 := Has.box w4 33 hl (by omega)
  have HB4 := Lib.hid ((HB3.out.call b4).alloc (.cells (ints (csA vs)).toArray 33))
  clear R3 HB3 b4
  go_wp2_with (first | (refine store_new rfl 33 _ _ rfl _ _ _ rfl _ rfl _ rfl rfl ?_ ?_ ?_; (· (first | assumption | rfl)); (· kernel_rfl)) | (refine load_has rfl 33 _ rfl _ rfl ?_ 2 ?_ _ Try.underlying33 rfl ?_ ?_; rotate_left; (· (repeat (first | (with_reducible assumption) | ((with_reducible refine Has.box _ _ ?_ ?_) <;> (first | assumption | decide)) | (with_reducible refine Has.alloc ?_ _) | ((with_reducible refine Has.putOther ?_ _ _ ?_); rotate_left; omega; skip) | ((with_reducible refine Has.below ?_ ?_); rotate_left; assumption)))); (· kernel_rfl)))
  refine (eqIntA2v (csA vs) _ hl).mono ?_
  rintro e w5 ⟨rfl, b5⟩
  have HB5 := Lib.hid (HB4.out.call b5)
  clear R4 Q4 HB4 b5
  go_wp2_with fail
  go_ret
  exact ⟨rfl, HB5.out⟩
end Go.Proofs.Ytemiljokdedidac.base
