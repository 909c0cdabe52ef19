/-
  The rank of a rack, on both sides, and its law, walked.
-/
import Derived.Test.YtemiljokdedidabRkW
import Derived.Test.YtemiljokdedidabVwS2
import Derived.Test.YtemiljokdedidabVwS3
namespace Go.Proofs.Ytemiljokdedidab.base
open Go.ChangeShapes Go.WideShapes Go.ChangeAt Go.RowKit
set_option linter.unusedVariables false
set_option linter.unusedSimpArgs false

set_option maxHeartbeats 1600000 in
set_option maxRecDepth 100000 in
theorem implRank (ns : List Int) (w : World) (h24 : ns.length = 24) :
    Calls Try.prog 17 #[row ns] w fun e w' => e = .returned (.tuple #[.int .i64 (rankA ns : Nat), .bool (vR ns)]) ∧ Kept w w' := by
  have H := Has.box w 28 h24 (by omega)
  have HB := Lib.hid ((kept_refl w).alloc (.cells (ints ns).toArray 28))
  rw [row_ints]
  go_enter Try.func17, Try.ntmps17
  go_wp2_with (refine load_has rfl 28 _ rfl _ rfl ?_ 24 ?_ _ Try.underlying28 rfl ?_ ?_; rotate_left; (· (repeat (first | (with_reducible assumption) | ((with_reducible refine Has.box _ _ ?_ ?_) <;> (first | assumption | decide)) | (with_reducible refine Has.alloc ?_ _) | ((with_reducible refine Has.putOther ?_ _ _ ?_); rotate_left; omega; skip) | ((with_reducible refine Has.below ?_ ?_); rotate_left; assumption)))); (· kernel_rfl))
  refine (implViewOf ns _ h24).mono ?_
  rintro e w1 ⟨rfl, b1⟩
  have hl := viewA_len ns
  have H1 := (H.below b1).alloc (.cells (ints (viewA ns)).toArray 31)
  have Y1 := Has.box w1 31 hl (by omega)
  have HB1 := Lib.hid ((HB.out.call b1).alloc (.cells (ints (viewA ns)).toArray 31))
  have hne : w.heap.size < w1.heap.size := by have := (H.below b1).lt; omega
  clear H HB b1
  go_upto_region 2 with (refine store_new rfl 31 _ _ rfl _ _ _ rfl _ rfl _ rfl rfl ?_ ?_ ?_; (· (first | assumption | rfl)); (· kernel_rfl))
  generalize w1.alloc (.cells (ints (viewA ns)).toArray 31) = W1 at *
  generalize w1.heap.size = b at *
  by_cases hv : vR ns = true
  rotate_left
  · have hf : vR ns = false := by simpa using hv
    have EA := Lib.hid (show rankA ns = 0 by unfold rankA; rw [if_neg hv])
    have HV := Lib.hid hf
    rw [hf]
    clear hf hv
    generalize viewA ns = va at *
    go_wp2_with fail
    go_ret2
    exact ⟨by rw [EA.out, HV.out]; rfl, HB1.out⟩
  have EA := Lib.hid (show rankA ns = rankN ns by unfold rankA; rw [if_pos hv])
  have EV : viewA ns = vwR ns := by unfold viewA; rw [if_pos hv]
  have HV := Lib.hid hv
  rw [hv]
  rw [EV]
  rw [EV] at Y1 hl
  have hva := vwR_valid h24 hv
  have F := viewFacts hl hva
  have ST := Lib.hid (vwR_stk h24 hv)
  have FT := Lib.hid (ord_fits h24 hv)
  have L18 : (Go.Proofs.Ytemiljokdedidab.base.hl ns).length ≤ 18 := (hlUp_len h24 hv 6 (by omega)).2
  have FE := Lib.hid (show ∀ k, k < (Go.Proofs.Ytemiljokdedidab.base.hl ns).length → (Go.Proofs.Ytemiljokdedidab.base.hl ns).getD k 0 = (fOrd ns k : Int) from fun k hk => by
    have := hl_each h24 hv 6 (by omega) ((Go.Proofs.Ytemiljokdedidab.base.hl ns).getD k 0) (by rw [List.getD_eq_getElem?_getD, List.getElem?_eq_getElem hk]; exact List.getElem_mem _)
    unfold fOrd; omega)
  have K1 := Lib.hid (fun W => hidden_any (vwR ns) W hl F.tops (vV_bounds hl hva))
  have K2 := Lib.hid (fun W => hiddenLayers_any ns W h24 hv)
  have K3 := Lib.hid (fun (b : Nat) (v : Value) (W : World) hN => rankOf_any (hid (vwR ns)) (fOrd ns) (Go.Proofs.Ytemiljokdedidab.base.hl ns).length b v (Go.Proofs.Ytemiljokdedidab.base.hl ns) W ST.out L18 FT.out FE.out hN)
  have li1 : (ints (vwR ns)).length = 18 := by rw [ints_len]; exact hl
  have li2 : (ints ns).length = 24 := by rw [ints_len]; exact h24
  have hi1 : (Try.prog.info? 31).map (·.size) = some (ints (vwR ns)).length := by rw [li1]; kernel_rfl
  have hi2 : (Try.prog.info? 28).map (·.size) = some (ints ns).length := by rw [li2]; kernel_rfl
  have ER : Hid (rankN ns = (rk (hid (vwR ns)) (fOrd ns) (Go.Proofs.Ytemiljokdedidab.base.hl ns).length).2) := Lib.hid rfl
  clear hva F EV L18 hv li1 li2
  generalize (Go.Proofs.Ytemiljokdedidab.base.hl ns).length = n at *
  generalize Go.Proofs.Ytemiljokdedidab.base.hl ns = hs at *
  generalize fOrd ns = f at *
  generalize hid (vwR ns) = s at *
  generalize (rk s f n).2 = rr at *
  generalize vwR ns = vs at *
  go_wp2_with fail
  refine wp_region_held_drew (S := fun w' => Has w' b vs 18 ∧ Has w' w.heap.size ns 24 ∧ Kept w w') (by kernel_rfl) ⟨Y1.drew, H1.drew, HB1.out.drewN 1⟩ (fun hHeld => ?_)
  clear Y1 H1 HB1
  generalize World.drew _ = WD at *
  (refine wpAnyH_take (i := 0) (v := _) rfl (by kernel_rfl) (by kernel_rfl) (by kernel_rfl) (fun _ _ _ h => h) (yieldsIf_load_mid (by rfl) 31 _ rfl _ _ rfl (ints vs) _ (fun w' hSw => hSw.1.holds.range) Try.underlying31 rfl (hi1)) hHeld ?_; (try simp only [List.getElem_toArray, List.getElem_cons_zero, List.getElem_cons_succ, Act.put, List.setIfInBounds_toArray, List.set_cons_zero, List.set_cons_succ]))
  (refine wpAnyH_take (i := 2) (v := _) rfl (by kernel_rfl) (by kernel_rfl) (by kernel_rfl) (fun _ _ _ h => h) (yieldsIf_load_mid (by rfl) 28 _ rfl _ _ rfl (ints ns) _ (fun w' hSw => hSw.2.1.holds.range) Try.underlying28 rfl (hi2)) hHeld ?_; (try simp only [List.getElem_toArray, List.getElem_cons_zero, List.getElem_cons_succ, Act.put, List.setIfInBounds_toArray, List.set_cons_zero, List.set_cons_succ]))
  (refine wpAnyH_ready (rs := [1]) (by kernel_rfl) (by simp) ?_; refine AllReadyH.cons (o := _) rfl (fun K hK => ?_) AllReadyH.nil; (simp only [List.getElem_toArray, List.getElem_cons_zero, List.getElem_cons_succ, Region.wanted, if_true]))
  go_simp
  refine (K1.out _).mono ?_
  rintro e wA ⟨rfl, bq⟩
  dsimp only
  (try simp only [List.getElem_toArray, List.getElem_cons_zero, List.getElem_cons_succ, Act.put, List.setIfInBounds_toArray, List.set_cons_zero, List.set_cons_succ])
  refine hK.out _ _ ⟨hHeld.1.below bq, hHeld.2.1.below bq, hHeld.2.2.call bq⟩ (fun hHeld => ?_)
  clear hK K
  clear bq
  (refine wpAnyH_ready (rs := [3]) (by kernel_rfl) (by simp) ?_; refine AllReadyH.cons (o := _) rfl (fun K hK => ?_) AllReadyH.nil; (simp only [List.getElem_toArray, List.getElem_cons_zero, List.getElem_cons_succ, Region.wanted, if_true]))
  go_simp
  refine (K2.out _).mono ?_
  rintro e wB ⟨v, rfl, NV, bq⟩
  dsimp only
  (try simp only [List.getElem_toArray, List.getElem_cons_zero, List.getElem_cons_succ, Act.put, List.setIfInBounds_toArray, List.set_cons_zero, List.set_cons_succ])
  refine hK.out _ _ ⟨hHeld.1.below bq, hHeld.2.1.below bq, hHeld.2.2.call bq⟩ (fun hHeld => ?_)
  clear hK K
  clear bq
  (refine wpAnyH_ready (rs := [4]) (by kernel_rfl) (by simp) ?_; refine AllReadyH.cons (o := _) rfl (fun K hK => ?_) AllReadyH.nil; (simp only [List.getElem_toArray, List.getElem_cons_zero, List.getElem_cons_succ, Region.wanted, if_true]))
  go_simp
  refine (K3.out _ _ _ NV).mono ?_
  rintro e wC ⟨rfl, bq⟩
  dsimp only
  (try simp only [List.getElem_toArray, List.getElem_cons_zero, List.getElem_cons_succ, Act.put, List.setIfInBounds_toArray, List.set_cons_zero, List.set_cons_succ])
  refine hK.out _ _ ⟨hHeld.1.below bq, hHeld.2.1.below bq, hHeld.2.2.call bq⟩ (fun hHeld => ?_)
  clear hK K
  clear bq
  (refine wpAnyH_take (i := 5) (v := ?_) rfl (by kernel_rfl) (by kernel_rfl) (by kernel_rfl) (fun _ _ _ h => h) (Or.inl ⟨by rfl, ?_⟩) hHeld ?_; rotate_left; (· (intro w' hSw; go_simp; try with_reducible rfl)); (try simp only [List.getElem_toArray, List.getElem_cons_zero, List.getElem_cons_succ, Act.put, List.setIfInBounds_toArray, List.set_cons_zero, List.set_cons_succ])); (refine wpAnyH_take (i := 6) (v := ?_) rfl (by kernel_rfl) (by kernel_rfl) (by kernel_rfl) (fun _ _ _ h => h) (Or.inl ⟨by rfl, ?_⟩) hHeld ?_; rotate_left; (· (intro w' hSw; go_simp; try with_reducible rfl)); (try simp only [List.getElem_toArray, List.getElem_cons_zero, List.getElem_cons_succ, Act.put, List.setIfInBounds_toArray, List.set_cons_zero, List.set_cons_succ]))
  refine wpAnyH_done (by kernel_rfl) ?_ _
  have S2 := hHeld.2.2
  clear hHeld NV
  go_wp2_with fail
  go_ret2
  exact ⟨by rw [EA.out, ER.out, HV.out]; rfl, S2⟩
theorem back1 (s : List Int) (c : Nat) (h : c < s.length) : (less1 s c).set c (s.getD c 0 - 1 + 1) = s := by
  unfold less1
  rw [List.set_set, show s.getD c 0 - 1 + 1 = s.getD c 0 by omega]
  apply List.ext_getElem?
  intro j
  rw [List.getElem?_set]
  split
  · rename_i e; subst e
    rw [List.getD_eq_getElem?_getD, List.getElem?_eq_getElem h]; rfl
  · rfl
/-- Where the model stands in a rack: so many layers are behind it. -/
def offN (ns : List Int) (i : Nat) : Nat := (hlUp ns i).length

set_option maxHeartbeats 1600000 in
set_option maxRecDepth 100000 in
theorem specRank (ns : List Int) (w : World) (h24 : ns.length = 24) :
    Calls Try.prog 15 #[row ns] w fun e w' => e = .returned (.tuple #[.int .i64 (rankA ns : Nat), .bool (vR ns)]) ∧ Kept w w' := by
  have H := Has.box w 28 h24 (by omega)
  have HB := Lib.hid ((kept_refl w).alloc (.cells (ints ns).toArray 28))
  rw [row_ints]
  go_enter Try.func15, Try.ntmps15
  go_wp2_with (refine load_has rfl 28 _ rfl _ rfl ?_ 24 ?_ _ Try.underlying28 rfl ?_ ?_; rotate_left; (· (repeat (first | (with_reducible assumption) | ((with_reducible refine Has.box _ _ ?_ ?_) <;> (first | assumption | decide)) | (with_reducible refine Has.alloc ?_ _) | ((with_reducible refine Has.putOther ?_ _ _ ?_); rotate_left; omega; skip) | ((with_reducible refine Has.below ?_ ?_); rotate_left; assumption)))); (· kernel_rfl))
  refine (l2Rack_any ns _ h24).mono ?_
  rintro e w1 ⟨rfl, b1⟩
  have H1 := H.below b1
  have HB1 := Lib.hid (HB.out.call b1)
  clear H HB b1
  by_cases hv : vR ns = true
  rotate_left
  · have hf : vR ns = false := by simpa using hv
    have EA := Lib.hid (show rankA ns = 0 by unfold rankA; rw [if_neg hv])
    have HV := Lib.hid hf
    rw [hf]
    clear hf hv
    go_wp2_with fail
    go_ret2
    exact ⟨by rw [EA.out, HV.out]; rfl, HB1.out⟩
  have EA := Lib.hid (show rankA ns = rankN ns by unfold rankA; rw [if_pos hv])
  have HV := Lib.hid hv
  rw [hv]
  have hl18 := vwR_len ns
  have hva := vwR_valid h24 hv
  have F := viewFacts hl18 hva
  have ES := hid_same hl18 hva
  have wf := vwR_wf h24 hv
  have hT := F.tops
  have ST := Lib.hid (vwR_stk h24 hv)
  have FT := Lib.hid (ord_fits h24 hv)
  have L18 : (hl ns).length ≤ 18 := (hlUp_len h24 hv 6 (by omega)).2
  have OK := Lib.hid (fun k hk => rk_ok ST.out FT.out k hk)
  have BO := Lib.hid (ST.out.le18 L18)
  have SL := Lib.hid (fun i hi => hlUp_succ_len h24 hv i hi)
  have AT := Lib.hid (fun i k hi hk => hl_at h24 hv i k hi hk)
  have LE := Lib.hid (show ∀ i, i ≤ 6 → offN ns i ≤ (hl ns).length from fun i hi => by
    have key : ∀ m, i ≤ m → m ≤ 6 → (hlUp ns i).length ≤ (hlUp ns m).length := by
      intro m
      induction m with
      | zero => intro h1 _; obtain rfl : i = 0 := by omega
                exact Nat.le_refl _
      | succ m ih =>
        intro h1 h2
        by_cases e : i = m + 1
        · subst e; exact Nat.le_refl _
        · have := ih (by omega) (by omega)
          rw [hlUp_succ_len h24 hv m (by omega)]; omega
    exact key 6 hi (by omega))
  have HL := Lib.hid h24
  have L18' := Lib.hid L18
  clear hva F L18 hv
  go_wp2_with (refine load_has rfl 28 _ rfl _ rfl ?_ 24 ?_ _ Try.underlying28 rfl ?_ ?_; rotate_left; (· (repeat (first | (with_reducible assumption) | ((with_reducible refine Has.box _ _ ?_ ?_) <;> (first | assumption | decide)) | (with_reducible refine Has.alloc ?_ _) | ((with_reducible refine Has.putOther ?_ _ _ ?_); rotate_left; omega; skip) | ((with_reducible refine Has.below ?_ ?_); rotate_left; assumption)))); (· kernel_rfl))
  refine (l7View_any ns _ h24 HV.out).mono ?_
  rintro e w2 ⟨rfl, b2⟩
  have H2 := H1.below b2
  have HB2 := Lib.hid (HB1.out.call b2)
  clear H1 HB1 b2
  go_wp2_with fail
  refine (l7Hidden_any (vwR ns) _ hl18 hT wf).mono ?_
  rintro e w3 ⟨rfl, b3⟩
  rw [ES]
  have h6 := hid_len hl18
  have Y3 := Has.box w3 22 h6 (by omega)
  have H3 := (H2.below b3).alloc (.cells (ints (hid (vwR ns))).toArray 22)
  have HB3 := Lib.hid ((HB2.out.call b3).alloc (.cells (ints (hid (vwR ns))).toArray 22))
  have hne : w.heap.size < w3.heap.size := by have := (H2.below b3).lt; omega
  clear H2 HB2 b3 ES wf hT h24
  go_upto_region 5 with (refine store_new rfl 22 _ _ rfl _ _ _ rfl _ rfl _ rfl rfl ?_ ?_ ?_; (· (first | assumption | rfl)); (· kernel_rfl))
  have ER : Hid (rankN ns = (rk (hid (vwR ns)) (fOrd ns) (hl ns).length).2) := Lib.hid rfl
  have Y3' : Has _ w3.heap.size (rk (hid (vwR ns)) (fOrd ns) (offN ns 0)).1 6 := Y3
  clear Y3 hl18
  generalize belUp (vwR ns) 6 = bu at *
  generalize w3.alloc (.cells (ints (hid (vwR ns))).toArray 22) = W3 at *
  generalize w3.heap.size = b at *
  generalize hid (vwR ns) = s at *
  go_wp2_with fail
  go_loopg [4, 7] 6 (fun gk m i wr => ∃ k : Nat, gk = 6 - k ∧ k ≤ 6 ∧ i = .int .i64 k ∧ m = .int .i64 ((rk s (fOrd ns) (offN ns k)).2 : Nat) ∧ Has wr w.heap.size ns 24 ∧ Has wr b (rk s (fOrd ns) (offN ns k)).1 6 ∧ Hid (Kept w wr))
  case atStart => exact ⟨0, rfl, by omega, rfl, rfl, H3, Y3', HB3⟩
  case round =>
    obtain ⟨i, rfl, hi, rfl, rfl, GH, GY, GB⟩ := hrel
    by_cases hi6 : i < 6
    · have hii : (i : Int) < 6 := by omega
      have h4 := tub_len ns i HL.out hi6
      have hvt := vR_tub HV.out i hi6
      have T := tubeFacts h4 hvt
      have l4 := T.lay4
      have hO : offN ns i + (lay (tub ns i) - 1) ≤ (hl ns).length := by
        have h1 := LE.out (i + 1) (by omega)
        unfold offN at h1 ⊢
        rw [SL.out i hi6] at h1
        exact h1
      have EO := Lib.hid (show offN ns (i + 1) = offN ns i + (lay (tub ns i) - 1) from SL.out i hi6)
      have ATI := Lib.hid (fun k hk => AT.out i k hi6 hk)
      have TF := Lib.hid (show ∀ k, k < lay (tub ns i) → 1 ≤ (tub ns i).getD k 0 ∧ (tub ns i).getD k 0 ≤ 5 from fun k hk => by
        have hk4 : k < 4 := by omega
        have h1 := (T.pos k hk4).2 hk
        have h2 := (known_iff h4).1 (by have := hvt; unfold vT at this; exact (Bool.and_eq_true_iff.1 this).1) k hk4
        omega)
      clear T
      go_wp2_with fail
      go_loopg [4, 8] (lay (tub ns i)) (fun gk m kk wr => ∃ k : Nat, gk = lay (tub ns i) - k ∧ k ≤ lay (tub ns i) - 1 ∧ kk = .int .i64 k ∧ m = .int .i64 ((rk s (fOrd ns) (offN ns i + k)).2 : Nat) ∧ Has wr w.heap.size ns 24 ∧ Has wr b (rk s (fOrd ns) (offN ns i + k)).1 6 ∧ Hid (Kept w wr))
      case atStart => exact ⟨0, rfl, by omega, rfl, rfl, GH, GY, GB⟩
      case round =>
        clear GH GY GB
        obtain ⟨k, rfl, hk, rfl, rfl, KH, KY, KB⟩ := hrel
        go_wp2_with (refine load_tub rfl 25 _ rfl _ (i) _ rfl ?_ ?_ ?_ ?_ _ Try.underlying25 rfl ?_ ?_; (· (first | rfl | omega)); rotate_left; (· (repeat (first | (with_reducible assumption) | ((with_reducible refine Has.box _ _ ?_ ?_) <;> (first | assumption | decide)) | (with_reducible refine Has.alloc ?_ _) | ((with_reducible refine Has.putOther ?_ _ _ ?_); rotate_left; omega; skip) | ((with_reducible refine Has.below ?_ ?_); rotate_left; assumption)))); (· omega); (· kernel_rfl))
        refine (l2Many_any (tub ns i) _ h4 hvt).mono ?_
        rintro e w5 ⟨rfl, b5⟩
        replace KH := KH.below b5
        replace KY := KY.below b5
        replace KB := Lib.hid (KB.out.call b5)
        clear b5
        by_cases hkl : k < lay (tub ns i) - 1
        · have dk : decide ((k : Int) < ((lay (tub ns i) : Nat) : Int) - 1) = true := decide_eq_true (by omega)
          have ef := ATI.out k hkl
          have tf := TF.out k (by omega)
          have c0 := KH.rackCell i k hi6 (by omega)
          have EF : Hid (fOrd ns (offN ns i + k) = ((tub ns i).getD k 0).toNat) := Lib.hid (by unfold fOrd offN; rw [ef])
          obtain ⟨t, ht, ht1, ht5⟩ : ∃ t : Nat, (tub ns i).getD k 0 = (t : Int) ∧ 1 ≤ t ∧ t ≤ 5 := ⟨((tub ns i).getD k 0).toNat, by omega, by omega, by omega⟩
          have EF2 := Lib.hid (show fOrd ns (offN ns i + k) = t by rw [EF.out, ht]; rfl)
          rw [ht] at c0
          have hp : offN ns i + k < (hl ns).length := by omega
          obtain ⟨o1, o2⟩ := OK.out (offN ns i + k) (by omega)
          obtain ⟨o3, o4⟩ := OK.out (offN ns i + k + 1) (by omega)
          have ES : Hid ((rk s (fOrd ns) (offN ns i + k + 1)).1 = less1 (rk s (fOrd ns) (offN ns i + k)).1 (fOrd ns (offN ns i + k))) := Lib.hid rfl
          have ER2 : Hid ((rk s (fOrd ns) (offN ns i + k + 1)).2 = (rk s (fOrd ns) (offN ns i + k)).2 + bef (rk s (fOrd ns) (offN ns i + k)).1 (fOrd ns (offN ns i + k))) := Lib.hid rfl
          rw [EF2.out] at ES ER2
          have O1 := Lib.hid o1
          have x1 : (rk s (fOrd ns) (offN ns i + k)).2 + ordA (rk s (fOrd ns) (offN ns i + k)).1 ≤ 101559956668416 := Nat.le_trans o2 BO.out
          have EJ : offN ns i + (k + 1) = offN ns i + k + 1 := by omega
          have EJ2 := Lib.hid EJ
          have l6 := o1.len
          have DK := Lib.hid (show lay (tub ns i) - (k + 1) < lay (tub ns i) - k by omega)
          have HK1 := Lib.hid (show k + 1 ≤ lay (tub ns i) - 1 by omega)
          have hki : (k : Int) < 4 := by omega
          have n18 : (hl ns).length - (offN ns i + k) ≤ 18 := by have := L18'.out; omega
          clear o1 o2 o3 o4 ef tf hkl EJ
          generalize hR1 : rk s (fOrd ns) (offN ns i + k + 1) = R1 at *
          generalize rk s (fOrd ns) (offN ns i + k) = R0 at *
          have HR1 := Lib.hid hR1
          clear hR1
          generalize (hl ns).length - (offN ns i + k) = n at *
          have B1 := Lib.hid (bef_one R0.1)
          have BL := Lib.hid (fun c hc => O1.out.bef_le c hc)
          go_wp2_with fail
          go_loopg [4, 9] (t - 1) (fun gk m cc wr => ∃ c : Nat, gk = t - c ∧ 1 ≤ c ∧ c ≤ t ∧ cc = .int .i64 c ∧ m = .int .i64 (R0.2 + bef R0.1 c : Nat) ∧ Has wr w.heap.size ns 24 ∧ Has wr b R0.1 6 ∧ Hid (Kept w wr))
          case atStart => exact ⟨1, rfl, by omega, by omega, rfl, by rw [B1.out, Nat.add_zero], KH, KY, KB⟩
          case round =>
            clear KH KY KB c0
            obtain ⟨c, rfl, hc1, hct, rfl, rfl, JH, JY, JB⟩ := hrel
            have c0 := JH.rackCell i k hi6 (by omega)
            rw [ht] at c0
            by_cases hcl : c < t
            · have hci : (c : Int) < (t : Int) := by omega
              have hc6 : c < 6 := by omega
              have hci6 : (c : Int) < 6 := by omega
              have ES2 := Lib.hid (bef_succ R0.1 c hc1)
              have bb := BL.out (c + 1) (by omega)
              rw [ES2.out] at bb
              have d0 := JY.cell c hc6
              have g1 := O1.out.nat c hc6
              have g2 := O1.out.each c hc6
              have DK2 := Lib.hid (show t - (c + 1) < t - c by omega)
              have HC1 := Lib.hid (show c + 1 ≤ t by omega)
              by_cases hx : R0.1.getD c 0 = 0
              · have ez := Lib.hid (show ordA (less1 R0.1 c) = 0 from ordA_not (j := c) hc6 (by unfold less1; rw [set_getD _ _ _ _ (by omega), if_pos rfl]; omega))
                rw [hx] at d0
                have eb := Lib.hid (show R0.2 + bef R0.1 (c + 1) = R0.2 + bef R0.1 c by rw [ES2.out, ez.out, Nat.add_zero])
                clear hx g1 g2 bb hct hcl
                generalize R0.2 + bef R0.1 c = y at *
                go_wp2_with fail
                go_roundg (t - (c + 1))
                case rel => exact ⟨c + 1, rfl, by omega, HC1.out, by go_num, by rw [eb.out], JH, JY, JB⟩
                case measure => exact DK2.out
              · have xp : 0 < R0.1.getD c 0 := by omega
                obtain ⟨n1, hn1⟩ : ∃ n1, n = n1 + 1 := ⟨n - 1, by omega⟩
                subst hn1
                have O2 := O1.out.less hc1 hc6 xp
                have l62 := O2.len
                have n2 := O2.nat
                have z2' := O2.zero
                have p2 : plUp (less1 R0.1 c) 6 ≤ 18 := by rw [O2.pl]; omega
                have BK := Lib.hid (back1 R0.1 c (by omega))
                have EL1 : less1 R0.1 c = R0.1.set c (R0.1.getD c 0 - 1) := rfl
                have G1 := Lib.hid (show (less1 R0.1 c).getD c 0 = R0.1.getD c 0 - 1 by rw [EL1, set_getD _ _ _ _ (by omega), if_pos rfl])
                have f0 := JY.free c hc6
                have JY2 := (JY.set c (R0.1.getD c 0 - 1) hc6).asV EL1.symm
                have JH2 := JH.setOther (b' := b) c (.int .i64 (R0.1.getD c 0 - 1)) (by omega)
                have JB2 := Lib.hid (JB.out.set (b := b) (by omega) c (.int .i64 (R0.1.getD c 0 - 1)))
                have xr : R0.1.getD c 0 ≤ 100 := by omega
                have xq : decide (0 < R0.1.getD c 0) = true := decide_eq_true xp
                have KW := Lib.hid (fun W => l7Ways_any (less1 R0.1 c) W l62 n2 z2' p2)
                clear hx g1 g2 O2 n2 z2' p2 JH JY JB EL1 hct
                generalize hgx : R0.1.getD c 0 = x at *
                have HGX := Lib.hid hgx
                clear hgx
                have eb := Lib.hid (show R0.2 + bef R0.1 (c + 1) = R0.2 + bef R0.1 c + ordA (less1 R0.1 c) by rw [ES2.out, Nat.add_assoc])
                have hy : R0.2 + bef R0.1 c < 1000000000000000 := by omega
                have hz : ordA (less1 R0.1 c) < 1000000000000000 := by omega
                clear bb x1
                generalize R0.2 + bef R0.1 c = y at *
                generalize ordA (less1 R0.1 c) = z at *
                go_upto_region 16 with fail
                generalize wr.setCell ⟨b, c, none⟩ (.int .i64 (x - 1)) = W4 at *
                clear c0 d0 f0
                go_wp2_with (refine load_has rfl 22 _ rfl _ rfl ?_ 6 ?_ _ Try.underlying22 rfl ?_ ?_; rotate_left; (· (repeat (first | (with_reducible assumption) | ((with_reducible refine Has.box _ _ ?_ ?_) <;> (first | assumption | decide)) | (with_reducible refine Has.alloc ?_ _) | ((with_reducible refine Has.putOther ?_ _ _ ?_); rotate_left; omega; skip) | ((with_reducible refine Has.below ?_ ?_); rotate_left; assumption)))); (· kernel_rfl))
                refine (KW.out _).mono ?_
                rintro e w7 ⟨rfl, b7⟩
                have JH3 := JH2.below b7
                have JY3 := JY2.below b7
                have JB3 := Lib.hid (JB2.out.call b7)
                clear JH2 JY2 JB2 b7
                have d1 := JY3.cell c hc6
                rw [G1.out] at d1
                have f1 := JY3.free c hc6
                have JY4 := Lib.hid ((JY3.set c (x - 1 + 1) hc6).asV BK.out)
                have JH4 := Lib.hid (JH3.setOther (b' := b) c (.int .i64 (x - 1 + 1)) (by omega))
                have JB4 := Lib.hid (JB3.out.set (b := b) (by omega) c (.int .i64 (x - 1 + 1)))
                have xx : x - 1 + 1 = x := by omega
                rw [xx] at JY4 JH4 JB4
                clear JH3 JY3 JB3 xx
                go_wp2_with fail
                go_roundg (t - (c + 1))
                case rel => exact ⟨c + 1, rfl, by omega, HC1.out, by go_num, by rw [eb.out]; go_num, JH4.out, JY4.out, JB4⟩
                case measure => exact DK2.out
            · obtain rfl : c = t := by omega
              have d0 := JY.cell c (by omega)
              have f0 := JY.free c (by omega)
              have hci6 : (c : Int) < 6 := by omega
              have hg := O1.out.each c (by omega)
              have hg1 := O1.out.nat c (by omega)
              have JY2 := Lib.hid ((JY.set c (R0.1.getD c 0 - 1) (by omega)).asV (show R0.1.set c (R0.1.getD c 0 - 1) = R1.1 by rw [ES.out]; rfl))
              have JH2 := Lib.hid (JH.setOther (b' := b) c (.int .i64 (R0.1.getD c 0 - 1)) (by omega))
              have JB2 := Lib.hid (JB.out.set (b := b) (by omega) c (.int .i64 (R0.1.getD c 0 - 1)))
              have x0 : -100 ≤ R0.1.getD c 0 := by omega
              have x9 : R0.1.getD c 0 ≤ 100 := by omega
              clear JH JY JB hg hg1 hct
              generalize R0.1.getD c 0 = x at *
              rw [← ER2.out]
              go_wp2_with fail
              go_roundg (lay (tub ns i) - (k + 1))
              case rel => exact ⟨k + 1, rfl, HK1.out, by go_num, by rw [EJ2.out, HR1.out], JH2.out, by rw [EJ2.out, HR1.out]; exact JY2.out, JB2⟩
              case measure => exact DK.out
        · have hke : k = lay (tub ns i) - 1 := by omega
          have dk : decide ((k : Int) < ((lay (tub ns i) : Nat) : Int) - 1) = false := decide_eq_false (by omega)
          subst hke
          rw [← EO.out] at KY ⊢
          go_wp2_with fail
          go_roundg (6 - (i + 1))
          case rel => exact ⟨i + 1, rfl, by omega, by go_num, rfl, KH, KY, KB⟩
          case measure => omega
    · obtain rfl : i = 6 := by omega
      have e6 : offN ns 6 = (hl ns).length := rfl
      rw [e6]
      go_wp2_with fail
      go_ret2
      exact ⟨by rw [EA.out, ER.out, HV.out]; rfl, GB.out⟩
set_option maxHeartbeats 400000 in
theorem lawRankOfRack (vs : List Int) (w : World) (h0 : vs.length = 24 ∧ ∀ n ∈ vs, (Lit.int .i64 n).wf = true) :
    Calls Try.prog 4 #[row vs] w fun e w' => e = .returned (.bool true) ∧ Kept w w' := by
  obtain ⟨h, hw⟩ := h0
  have HB := Lib.hid ((kept_refl w).alloc (.cells (ints vs).toArray 35))
  have H := Has.box w 35 h (by omega)
  have KS := Lib.hid (fun _W => specRank vs _W h)
  have KI := Lib.hid (fun _W => implRank vs _W h)
  clear hw
  rw [row_ints]
  go_enter Try.func4, Try.ntmps4
  go_wp2_with (refine load_has rfl 35 _ rfl _ rfl ?_ 24 ?_ _ Try.underlying35 rfl ?_ ?_; rotate_left; (· (repeat (first | (with_reducible assumption) | ((with_reducible refine Has.box _ _ ?_ ?_) <;> (first | assumption | decide)) | (with_reducible refine Has.alloc ?_ _) | ((with_reducible refine Has.putOther ?_ _ _ ?_); rotate_left; omega; skip) | ((with_reducible refine Has.below ?_ ?_); rotate_left; assumption)))); (· kernel_rfl))
  refine (toRack_any vs _ h).mono ?_
  rintro e w1 ⟨rfl, b1⟩
  have H1 := H.below b1
  have HB1 := Lib.hid (HB.out.call b1)
  clear H HB b1
  go_wp2_with fail
  refine (KS.out _).mono ?_
  rintro e w2 ⟨rfl, b2⟩
  have H2 := H1.below b2
  have HB2 := Lib.hid (HB1.out.call b2)
  clear H1 HB1 b2
  go_wp2_with (refine load_has rfl 35 _ rfl _ rfl ?_ 24 ?_ _ Try.underlying35 rfl ?_ ?_; rotate_left; (· (repeat (first | (with_reducible assumption) | ((with_reducible refine Has.box _ _ ?_ ?_) <;> (first | assumption | decide)) | (with_reducible refine Has.alloc ?_ _) | ((with_reducible refine Has.putOther ?_ _ _ ?_); rotate_left; omega; skip) | ((with_reducible refine Has.below ?_ ?_); rotate_left; assumption)))); (· kernel_rfl))
  refine (toRack_any vs _ h).mono ?_
  rintro e w3 ⟨rfl, b3⟩
  have HB3 := Lib.hid (HB2.out.call b3)
  clear H2 HB2 b3
  go_wp2_with fail
  refine (KI.out _).mono ?_
  rintro e w4 ⟨rfl, b4⟩
  have HB4 := Lib.hid (HB3.out.call b4)
  clear HB3 b4
  go_wp2_with fail
  go_ret
  exact ⟨rfl, HB4.out⟩
end Go.Proofs.Ytemiljokdedidab.base
