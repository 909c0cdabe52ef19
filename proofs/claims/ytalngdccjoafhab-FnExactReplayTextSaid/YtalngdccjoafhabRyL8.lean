/-
  Exact laws over a replay, walked: ReplayText.
-/
import Derived.Test.YtalngdccjoafhabRyTx
import Derived.Test.YtalngdccjoafhabRyB
namespace Go.Proofs.Ytalngdccjoafhab.base
open Go.ChangeShapes Go.WideShapes Go.ChangeAt Go.RowKit
set_option linter.unusedVariables false
set_option linter.unusedSimpArgs false

set_option maxHeartbeats 6400000 in
set_option maxRecDepth 100000 in
theorem lawReplayText (ns : List Int) (a : Option Addr) (len cap : Nat) (zs : List Int) (w : World) (h0 : ns.length = 24 ∧ ∀ n ∈ ns, (Lit.int .i64 n).wf = true) (hp : IsPairs w a len zs) :
    Calls Try.prog 6 #[.agg (rpC ns (.slice a len cap)).toArray] w fun e w' => e = .returned (.bool true) ∧ Kept w w' := by
  have h24 := h0.1
  clear h0
  have hml := hp.1
  have H := Ry.box (v := .slice a len cap) w 28 h24
  have HB := Lib.hid ((kept_refl w).alloc (.cells (rpC ns (.slice a len cap)).toArray 28))
  have HP := Lib.hid hp
  clear hp
  go_enter Try.func6, Try.ntmps6
  go_wp2_with (refine guardY (isLdY 28) ?_ ?_; (· rfl); refine load_ry rfl 28 _ rfl w.heap.size rfl _ _ _ H _ Try.underlying28 rfl ?_ ?_; (· kernel_rfl))
  refine (szReplay_any ns a len cap _ h24 hml).mono ?_
  rintro e w0 ⟨⟨r, rfl, hr⟩, b0⟩
  replace H := H.below b0
  replace HB := Lib.hid (HB.out.call b0)
  clear b0
  by_cases hneg : r < 0
  · clear hr
    go_wp2_with fail
    go_ret
    exact ⟨rfl, HB.out⟩
  have hlen : len ≤ 1048576 := by omega
  have hneg2 : decide (r < 0) = false := by simpa using hneg
  clear hr
  have KS := Lib.hid (fun v W (q : Rw W 0 v len zs) => specText11 ns zs v len 0 W h24 hlen q)
  have KI := Lib.hid (fun v W (q : Rw W 0 v len zs) => implText11 ns zs v len 0 W h24 hlen q)
  obtain ⟨TT, eTT⟩ : ∃ x, txA ns zs len = x := ⟨_, rfl⟩
  rw [eTT] at KS KI
  obtain ⟨OK, eOK⟩ : ∃ x, rpOk ns zs len = x := ⟨_, rfl⟩
  rw [eOK] at KS KI
  clear eTT eOK
  go_wp2_with (refine guardY (isLdY 28) ?_ ?_; (· rfl); refine load_ry rfl 28 _ rfl w.heap.size rfl _ _ _ H _ Try.underlying28 rfl ?_ ?_; (· kernel_rfl))
  refine (toReplay_any ns a len cap zs _ h24 (HP.out.below HB.out) hlen).mono ?_
  rintro e w1 ⟨v1, rfl, q1, b1⟩
  replace H := H.below b1
  replace HB := Lib.hid (HB.out.call b1)
  have Q1 := Lib.hid (q1.rw.mono (b' := 0) (Nat.zero_le _))
  have hs1 : w.heap.size < w1.heap.size := H.lt
  clear q1 b1
  go_wp2_with fail
  refine (KS.out v1 _ Q1.out).mono ?_
  rintro e w2 ⟨rfl, b2⟩
  replace H := H.below b2
  replace HB := Lib.hid (HB.out.call b2)
  clear Q1 KS
  clear b2
  go_wp2_with (refine guardY (isLdY 28) ?_ ?_; (· rfl); refine load_ry rfl 28 _ rfl w.heap.size rfl _ _ _ H _ Try.underlying28 rfl ?_ ?_; (· kernel_rfl))
  refine (toReplay_any ns a len cap zs _ h24 (HP.out.below HB.out) hlen).mono ?_
  rintro e w3 ⟨v3, rfl, q3, b3⟩
  replace H := H.below b3
  replace HB := Lib.hid (HB.out.call b3)
  have Q3 := Lib.hid q3.rw
  obtain ⟨va3, vc3, rfl⟩ := q3.rw.shape
  clear q3 b3
  have X := Ry.box (v := .slice va3 len vc3) w3 32 h24
  replace H := H.alloc (.cells (rpC ns (.slice va3 len vc3)).toArray 32)
  replace Q3 := Lib.hid (Q3.out.alloc (.cells (rpC ns (.slice va3 len vc3)).toArray 32))
  replace HB := Lib.hid (HB.out.alloc (.cells (rpC ns (.slice va3 len vc3)).toArray 32))
  go_upto_region 7 with (refine guardY (isStY 32) ?_ ?_; (· rfl); refine store_newry rfl 32 _ _ rfl w3 _ _ rfl _ rfl ns (.slice va3 len vc3) rfl rfl rfl h24 rfl ?_ ?_; (· kernel_rfl))
  have hlt3 := X.lt
  obtain ⟨A3, hA3⟩ : ∃ s, w3.heap.size = s := ⟨_, rfl⟩
  rw [hA3] at X hlt3 ⊢
  generalize w3.alloc (.cells (rpC ns (.slice va3 len vc3)).toArray 32) = W3 at *
  clear hA3
  go_wp2_with (refine guardY (isLdY 32) ?_ ?_; (· rfl); refine load_ry rfl 32 _ rfl A3 rfl _ _ _ X _ Try.underlying32 rfl ?_ ?_; (· kernel_rfl))
  refine (KI.out _ _ (Q3.out.mono (b' := 0) (Nat.zero_le _))).mono ?_
  rintro e w4 ⟨rfl, b4⟩
  replace H := H.below b4
  replace X := X.below b4
  replace Q3 := Lib.hid (Q3.out.below b4)
  replace HB := Lib.hid (HB.out.call b4)
  clear b4
  go_wp2_with fail
  have hiX : (Try.prog.info? 32).map (·.size) = some (rpC ns (.slice va3 len vc3)).length := by rw [rpC_len h24]; kernel_rfl
  have hiH : (Try.prog.info? 28).map (·.size) = some (rpC ns (.slice a len cap)).length := by rw [rpC_len h24]; kernel_rfl
  refine wp_region_held_drew (S := fun w' => Kept w4 w') (by kernel_rfl) ((kept_refl w4).drewN 1) (fun hHeld => ?_)
  (refine wpAnyH_take (i := 0) (v := _) rfl (by kernel_rfl) (by kernel_rfl) (by kernel_rfl) (fun _ _ _ h => h) (yieldsIf_load_mid (by rfl) 32 _ rfl _ _ rfl (rpC ns (.slice va3 len vc3)) _ (fun w' hSw => (X.below hSw).1.range) Try.underlying32 rfl (hiX)) hHeld ?_; (try simp only [List.getElem_toArray, List.getElem_cons_zero, List.getElem_cons_succ, Act.put, List.setIfInBounds_toArray, List.set_cons_zero, List.set_cons_succ]))
  (refine wpAnyH_take (i := 1) (v := _) rfl (by kernel_rfl) (by kernel_rfl) (by kernel_rfl) (fun _ _ _ h => h) (yieldsIf_load_mid (by rfl) 28 _ rfl _ _ rfl (rpC ns (.slice a len cap)) _ (fun w' hSw => (H.below hSw).1.range) Try.underlying28 rfl (hiH)) hHeld ?_; (try simp only [List.getElem_toArray, List.getElem_cons_zero, List.getElem_cons_succ, Act.put, List.setIfInBounds_toArray, List.set_cons_zero, List.set_cons_succ]))
  (refine wpAnyH_ready (rs := [2]) (by kernel_rfl) (by simp) ?_; refine AllReadyH.cons (o := _) rfl (fun K hK => ?_) AllReadyH.nil; (simp only [List.getElem_toArray, List.getElem_cons_zero, List.getElem_cons_succ, Region.wanted, if_true]))
  go_simp
  refine (toReplay_any ns a len cap zs _ h24 (HP.out.below (HB.out.call hHeld)) hlen).mono ?_
  rintro e w6 ⟨v6, rfl, q6, b6⟩
  dsimp only
  (try simp only [List.getElem_toArray, List.getElem_cons_zero, List.getElem_cons_succ, Act.put, List.setIfInBounds_toArray, List.set_cons_zero, List.set_cons_succ])
  have K6 := Kept.call hHeld b6
  have Q6 := Lib.hid q6.rw
  refine hK.out _ _ K6 (fun hHeld => ?_)
  clear hK K b6 q6 hHeld
  have hHeld := K6
  (refine wpAnyH_ready (rs := [3]) (by kernel_rfl) (by simp) ?_; refine AllReadyH.cons (o := _) rfl (fun K hK => ?_) AllReadyH.nil; (simp only [List.getElem_toArray, List.getElem_cons_zero, List.getElem_cons_succ, Region.wanted, if_true]))
  go_simp
  refine (eqReplay_same ns zs _ v6 _ _ len _ h24 hlen (Q3.out.below K6) Q6.out).mono ?_
  rintro e w7 ⟨rfl, b7⟩
  dsimp only
  (try simp only [List.getElem_toArray, List.getElem_cons_zero, List.getElem_cons_succ, Act.put, List.setIfInBounds_toArray, List.set_cons_zero, List.set_cons_succ])
  have K7 := Kept.call K6 b7
  refine hK.out _ _ K7 (fun hHeld => ?_)
  clear hK K b7 K6 Q6
  (refine wpAnyH_take (i := 4) (v := ?_) rfl (by kernel_rfl) (by kernel_rfl) (by kernel_rfl) (fun _ _ _ h => h) (Or.inl ⟨by rfl, ?_⟩) hHeld ?_; rotate_left; (· (intro w' hSw; go_simp; try with_reducible rfl)); (try simp only [List.getElem_toArray, List.getElem_cons_zero, List.getElem_cons_succ, Act.put, List.setIfInBounds_toArray, List.set_cons_zero, List.set_cons_succ]))
  refine wpAnyH_done (by kernel_rfl) ?_ _
  clear hHeld
  replace H := H.below K7
  replace X := X.below K7
  replace Q3 := Lib.hid (Q3.out.below K7)
  replace HB := Lib.hid (HB.out.call K7)
  clear K7 hiX hiH
  go_wp2_with fail
  go_ret
  exact ⟨rfl, HB.out⟩
end Go.Proofs.Ytalngdccjoafhab.base
