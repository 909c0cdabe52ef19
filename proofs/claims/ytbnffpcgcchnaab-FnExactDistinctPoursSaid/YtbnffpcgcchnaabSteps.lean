/-
  The useful pours of a rack and the forms behind them, on the program's side, walked.
-/
import Derived.Test.YtbnffpcgcchnaabStepM
import Derived.Test.YtbnffpcgcchnaabFill
import Derived.Test.YtbnffpcgcchnaabPourI
import Derived.Test.YtbnffpcgcchnaabUseI
import Derived.Test.YtbnffpcgcchnaabFormI
namespace Go.Proofs.Ytbnffpcgcchnaab.base
open Go.ChangeShapes Go.WideShapes Go.ChangeAt Go.RowKit
set_option linter.unusedVariables false
set_option linter.unusedSimpArgs false

/-- A step: the pour and the form. -/
def stp (ns : List Int) (x : Pr) : List Int := pr2 x ++ behForm ns x
def stL (ns : List Int) : List (List Int) := (usL ns).map (stp ns)
theorem stL_len (ns : List Int) : (stL ns).length = (usL ns).length := List.length_map _
theorem stp_len {ns : List Int} {x : Pr} (h24 : ns.length = 24) (hv : vR ns = true) (h : PrOk ns x) : (stp ns x).length = 26 := by
  unfold stp; rw [List.length_append, behForm_len h24 hv h]; rfl
theorem stL_take (ns : List Int) {k : Nat} (h : k < (usL ns).length) : (stL ns).take (k + 1) = (stL ns).take k ++ [stp ns ((usL ns).getD k (0, 0))] := by
  unfold stL
  rw [← List.map_take, ← List.map_take, List.take_succ_eq_append_getElem h, List.map_append, List.getD_eq_getElem?_getD, List.getElem?_eq_getElem h]; rfl
theorem list24s {ns : List Int} (h : ns.length = 24) : ∃ a0 a1 a2 a3 a4 a5 a6 a7 a8 a9 a10 a11 a12 a13 a14 a15 a16 a17 a18 a19 a20 a21 a22 a23, ns = [a0, a1, a2, a3, a4, a5, a6, a7, a8, a9, a10, a11, a12, a13, a14, a15, a16, a17, a18, a19, a20, a21, a22, a23] := by
  match ns, h with
  | [a0, a1, a2, a3, a4, a5, a6, a7, a8, a9, a10, a11, a12, a13, a14, a15, a16, a17, a18, a19, a20, a21, a22, a23], _ => exact ⟨a0, a1, a2, a3, a4, a5, a6, a7, a8, a9, a10, a11, a12, a13, a14, a15, a16, a17, a18, a19, a20, a21, a22, a23, rfl⟩
set_option maxRecDepth 100000 in
theorem buildStep (x : Pr) (f : List Int) (h : f.length = 24) (w : World) : (Instr.build 77 #[(0, .agg (ints (pr2 x)).toArray), (1, .agg (ints f).toArray)]).run Try.prog w = .ok (.agg (ints (pr2 x ++ f)).toArray) w := by
  obtain ⟨a0, a1, a2, a3, a4, a5, a6, a7, a8, a9, a10, a11, a12, a13, a14, a15, a16, a17, a18, a19, a20, a21, a22, a23, rfl⟩ := list24s h
  exact run_build w _ _ _ (by kernel_rfl)
theorem build2_run {P : Program} (ev : Operand → Value) (o : Oper) (T : TypeId) (x y : Operand) (ho : o.op = .build T #[(0, x), (1, y)]) (u u2 v : Value) (hx : ev x = u) (hy : ev y = u2) (hq : ∀ w, (Instr.build T #[(0, u), (1, u2)]).run P w = .ok v w) {w : World} :
    (execOp ev o).run P w = .ok (.value v) w := by
  unfold execOp
  simp only [ho, hx, hy, Sem.run_bind, List.map_toArray, List.map_cons, List.map_nil, hq, Result.andThen_ok, Sem.run_pure]
theorem pourR_beh {ns : List Int} {x : Pr} (hv : vR ns = true) (h : PrOk ns x) : pourR ns (x.1 : Int) (x.2 : Int) = behN ns x := by
  have hok : pourOk ns (x.1 : Int) (x.2 : Int) = true := by
    have := h.can; have := h.q6; have := h.ne; have := h.p6
    unfold pourOk twoOk
    rw [hv]
    simp; omega
  unfold pourR
  rw [if_pos hok]; rfl

set_option maxHeartbeats 1600000 in
set_option maxRecDepth 100000 in
theorem stepsOf_any (ns : List Int) (w : World) (h24 : ns.length = 24) (hv : vR ns = true) :
    Calls Try.prog 40 #[row ns] w fun e w' => ∃ v : Value, e = .returned v ∧ Gr w' w.heap.size 77 26 v (stL ns) ∧ Kept w w' := by
  have HB := Lib.hid (((kept_refl w).alloc (.cells (ints ns).toArray 29)).alloc (.cells #[] 77))
  have H := (Has.box w 29 h24 (by omega)).alloc (.cells #[] 77)
  have R0 := Lib.hid (Gr.none (w.alloc (.cells (ints ns).toArray 29)) (w.heap.size + 1) 77 26 (by simp))
  rw [size1] at R0
  rw [row_ints]
  go_enter Try.func40, Try.ntmps40
  go_wp2_with (refine load_has rfl 29 _ rfl _ rfl ?_ 24 ?_ _ Try.underlying29 rfl ?_ ?_; rotate_left; (· (repeat (first | (with_reducible assumption) | ((with_reducible refine Has.box _ _ ?_ ?_) <;> (first | assumption | decide)) | (with_reducible refine Has.alloc ?_ _) | ((with_reducible refine Has.putOther ?_ _ _ ?_); rotate_left; omega; skip) | ((with_reducible refine Has.below ?_ ?_); rotate_left; assumption)))); (· kernel_rfl))
  refine (implUseful ns _ h24).mono ?_
  rintro e w1 ⟨pv, rfl, q1, b1⟩
  replace H := H.below b1
  replace R0 := Lib.hid (R0.out.below b1)
  have hbig := HB.out.size
  have hps := q1.own
  replace HB := Lib.hid (HB.out.call b1)
  clear b1
  rw [show usefNA ns = (usL ns).length by unfold usefNA; rw [if_pos hv, (usef_us ns).2], show usefFA ns = flatP (usL ns) by unfold usefFA; rw [if_pos hv, (usef_us ns).1]] at q1
  obtain ⟨a, cap, rfl⟩ := prs_slice2 q1
  have GP := Lib.hid ((q1.toGr rfl).mono hbig)
  have hUL := usL_le ns
  have AP : Hid (∀ z, (Value.slice a (usL ns).length cap).ownBlock = some z → w.heap.size + 1 + 1 ≤ z) := Lib.hid (fun z hz => by have := hps z hz; simp at this; omega)
  have UO := Lib.hid (fun k hk => usL_at ns (k := k) hk)
  have UT := Lib.hid (fun k hk => stL_take ns (k := k) hk)
  have HV := Lib.hid hv
  have HL := Lib.hid h24
  have hsl := stL_len ns
  have R1 : Hid (Gr w1 (w.heap.size + 1) 77 26 (.slice (some ⟨w.heap.size + 1, 0, none⟩) 0 0) ((stL ns).take 0)) := R0
  rw [hv]
  clear q1 hps hv h24 R0
  generalize hN : (usL ns).length = N at *
  go_wp2_with fail
  go_loopg [3, 19] N (fun gk u i wr => ∃ (k g cu : Nat), gk = N - k ∧ k ≤ N ∧ i = .int .i64 k ∧ u = .slice (some ⟨g, 0, none⟩) k cu ∧ Has wr w.heap.size ns 24 ∧ Hid (Gr wr (w.heap.size + 1) 77 26 (.slice (some ⟨g, 0, none⟩) k cu) ((stL ns).take k)) ∧ Hid (Gr wr w.heap.size 53 2 (.slice a N cap) ((usL ns).map pr2)) ∧ Hid ((Value.slice a N cap).ownBlock ≠ some g) ∧ Hid (Kept w wr))
  case atStart => exact ⟨0, w.heap.size + 1, 0, rfl, by omega, rfl, rfl, H, R1, GP, Lib.hid (fun e => by have := AP.out _ e; omega), HB⟩
  case round =>
    obtain ⟨k, g, cu, rfl, hk, rfl, rfl, GH, GR, GQ, GA, GB⟩ := hrel
    by_cases hkN : k < N
    · have hki : (k : Int) < (N : Int) := by omega
      have hlen : ((usL ns).map pr2).length = N := by rw [List.length_map]; exact hN
      obtain ⟨gp, cap2, hv', _, hgp⟩ := GQ.out.form (by omega)
      rw [hlen] at hv'
      injection hv' with ha _ hcap
      subst ha
      subst hcap
      have P := UO.out k hkN
      have hbe := pourT_len2 HL.out HV.out P
      have hbf := behForm_len HL.out HV.out P
      have hst := stp_len HL.out HV.out P
      have RG := GQ.out.range hlen.symm k hkN
      rw [pr2_at _ (by omega)] at RG
      have PB := Lib.hid (pourR_beh HV.out P)
      have UK := Lib.hid (UT.out k hkN)
      have FB : behForm ns ((usL ns).getD k (0, 0)) = formL (behN ns ((usL ns).getD k (0, 0))) := rfl
      have SB : stp ns ((usL ns).getD k (0, 0)) = pr2 ((usL ns).getD k (0, 0)) ++ behForm ns ((usL ns).getD k (0, 0)) := rfl
      generalize (usL ns).getD k (0, 0) = x at *
      have hp6 := P.p6
      have hq6 := P.q6
      have hpi : (x.1 : Int) < 6 := by omega
      have hqi : (x.2 : Int) < 6 := by omega
      have h2 : (pr2 x).length = 2 := rfl
      have RG2 := Lib.hid RG
      have G2 := GH.alloc (.cells (ints (pr2 x)).toArray 53)
      have GR2 := Lib.hid (GR.out.alloc (.cells (ints (pr2 x)).toArray 53))
      have GQ2 := Lib.hid (GQ.out.alloc (.cells (ints (pr2 x)).toArray 53))
      have GB2 := Lib.hid (GB.out.alloc (.cells (ints (pr2 x)).toArray 53))
      have BX := Has.box wr 53 h2 (by omega)
      have c0 : (wr.alloc (.cells (ints (pr2 x)).toArray 53)).cell? ⟨wr.heap.size, 0, none⟩ = some (.int .i64 (x.1 : Int)) := BX.cell 0 (by omega)
      have c1 : (wr.alloc (.cells (ints (pr2 x)).toArray 53)).cell? ⟨wr.heap.size, 1, none⟩ = some (.int .i64 (x.2 : Int)) := BX.cell 1 (by omega)
      have hgs := (GR.out.own g rfl).2
      clear GH GR GQ GB RG P
      go_wp2_with (first | (refine wpList_load_mid rfl 53 _ rfl gp (k * 2) rfl (ints (pr2 x)) _ RG2.out Try.underlying53 rfl (by kernel_rfl) ?_) | (refine store_new rfl 53 _ _ rfl _ _ _ rfl _ rfl _ rfl rfl ?_ ?_ ?_; (· (first | assumption | rfl)); (· kernel_rfl)) | (refine load_has rfl 29 _ rfl _ rfl ?_ 24 ?_ _ Try.underlying29 rfl ?_ ?_; rotate_left; (· (repeat (first | (with_reducible assumption) | ((with_reducible refine Has.box _ _ ?_ ?_) <;> (first | assumption | decide)) | (with_reducible refine Has.alloc ?_ _) | ((with_reducible refine Has.putOther ?_ _ _ ?_); rotate_left; omega; skip) | ((with_reducible refine Has.below ?_ ?_); rotate_left; assumption)))); (· kernel_rfl)))
      clear c0 c1 RG2
      generalize wr.alloc (.cells (ints (pr2 x)).toArray 53) = W2 at *
      generalize wr.heap.size = b8 at *
      refine (implPour ns x.1 x.2 _ HL.out).mono ?_
      rintro e w2 ⟨rfl, b2⟩
      rw [PB.out]
      have hb8 := BX.lt
      have hb2 := b2.size
      have hgp2 := (GQ2.out.own gp rfl).2
      have E1 := (G2.below b2).alloc (.cells (ints (behN ns x)).toArray 29)
      have E2 := Lib.hid ((GR2.out.below b2).alloc (.cells (ints (behN ns x)).toArray 29))
      have E3 := Lib.hid ((GQ2.out.below b2).alloc (.cells (ints (behN ns x)).toArray 29))
      have E4 := Lib.hid ((GB2.out.call b2).alloc (.cells (ints (behN ns x)).toArray 29))
      have E5 := (BX.below b2).alloc (.cells (ints (behN ns x)).toArray 29)
      have E6 := Has.box w2 29 hbe (by omega)
      clear G2 GR2 GQ2 GB2 BX b2 PB
      go_wp2_with (refine store_new rfl 29 _ _ rfl _ _ _ rfl _ rfl _ rfl rfl ?_ ?_ ?_; (· (first | assumption | rfl)); (· kernel_rfl))
      generalize w2.alloc (.cells (ints (behN ns x)).toArray 29) = W3 at *
      generalize w2.heap.size = b9 at *
      have hi9 : (Try.prog.info? 29).map (·.size) = some (ints (behN ns x)).length := by rw [ints_len, hbe]; kernel_rfl
      have hi2 : (Try.prog.info? 53).map (·.size) = some (ints (pr2 x)).length := by kernel_rfl
      have F1 := E1.drew
      have F2 := Lib.hid E2.out.drew
      have F3 := Lib.hid E3.out.drew
      have F4 : Hid (Kept w W3.drew) := Lib.hid (E4.out.drewN 1)
      have hsz : W3.drew.heap.size = W3.heap.size := rfl
      have hb9 := E6.lt
      go_wp2_with fail
      refine wp_region_held_drew (S := fun w' => Has w' b8 (pr2 x) 2 ∧ Has w' b9 (behN ns x) 24) (by kernel_rfl) ⟨E5.drew, E6.drew⟩ (fun hHeld => ?_)
      clear E1 E2 E3 E4 E5 E6
      generalize hWD : World.drew W3 = W4 at *
      clear hWD
      (refine wpAnyH_take (i := 0) (v := ?_) rfl (by kernel_rfl) (by kernel_rfl) (by kernel_rfl) (fun _ _ _ h => h) (Or.inl ⟨by rfl, ?_⟩) hHeld ?_; rotate_left; (· (intro w' hSw; go_simp; try with_reducible rfl)); (try simp only [List.getElem_toArray, List.getElem_cons_zero, List.getElem_cons_succ, Act.put, List.setIfInBounds_toArray, List.set_cons_zero, List.set_cons_succ]))
      (refine wpAnyH_take (i := 1) (v := _) rfl (by kernel_rfl) (by kernel_rfl) (by kernel_rfl) (fun _ _ _ h => h) (yieldsIf_load_mid (by rfl) 53 _ rfl _ _ rfl (ints (pr2 x)) _ (fun w' hSw => hSw.1.holds.range) Try.underlying53 rfl (hi2)) hHeld ?_; (try simp only [List.getElem_toArray, List.getElem_cons_zero, List.getElem_cons_succ, Act.put, List.setIfInBounds_toArray, List.set_cons_zero, List.set_cons_succ]))
      (refine wpAnyH_take (i := 2) (v := _) rfl (by kernel_rfl) (by kernel_rfl) (by kernel_rfl) (fun _ _ _ h => h) (yieldsIf_load_mid (by rfl) 29 _ rfl _ _ rfl (ints (behN ns x)) _ (fun w' hSw => hSw.2.holds.range) Try.underlying29 rfl (hi9)) hHeld ?_; (try simp only [List.getElem_toArray, List.getElem_cons_zero, List.getElem_cons_succ, Act.put, List.setIfInBounds_toArray, List.set_cons_zero, List.set_cons_succ]))
      (refine wpAnyH_ready (rs := [3]) (by kernel_rfl) (by simp) ?_; refine AllReadyH.cons (o := _) rfl (fun K hK => ?_) AllReadyH.nil; (simp only [List.getElem_toArray, List.getElem_cons_zero, List.getElem_cons_succ, Region.wanted, if_true]))
      go_simp
      refine (formOf_any (behN ns x) _ hbe).mono ?_
      rintro e w5 ⟨rfl, b5⟩
      dsimp only
      (try simp only [List.getElem_toArray, List.getElem_cons_zero, List.getElem_cons_succ, Act.put, List.setIfInBounds_toArray, List.set_cons_zero, List.set_cons_succ])
      refine hK.out _ _ ⟨hHeld.1.below b5, hHeld.2.below b5⟩ (fun hHeld => ?_)
      clear hK K
      have hs5 := b5.size
      replace F1 := F1.below b5
      replace F2 := Lib.hid (F2.out.below b5)
      replace F3 := Lib.hid (F3.out.below b5)
      replace F4 := Lib.hid (F4.out.call b5)
      clear b5
      refine wpAnyH_take (i := 4) (v := .agg (ints (stp ns x)).toArray) rfl (by kernel_rfl) (by kernel_rfl) (by kernel_rfl) (fun _ _ _ h => h) (Or.inl ⟨by rfl, fun w' hSw => build2_run _ _ 77 _ _ rfl (.agg (ints (pr2 x)).toArray) (.agg (ints (behForm ns x)).toArray) _ rfl rfl (buildStep x _ hbf)⟩) hHeld ?_
      (try simp only [List.getElem_toArray, List.getElem_cons_zero, List.getElem_cons_succ, Act.put, List.setIfInBounds_toArray, List.set_cons_zero, List.set_cons_succ])
      (refine wpAnyH_ready (rs := [5]) (by kernel_rfl) (by simp) ?_; refine AllReadyH.cons (o := _) rfl (fun K hK => ?_) AllReadyH.nil; (simp only [List.getElem_toArray, List.getElem_cons_zero, List.getElem_cons_succ, Region.wanted, if_true]))
      refine wp_slice1 73 77 _ rfl 26 208 Try.underlying73 (by kernel_rfl) (by omega) (by omega) (stp ns x) rfl hst ?_
      (try simp only [List.getElem_toArray, List.getElem_cons_zero, List.getElem_cons_succ, Act.put, List.setIfInBounds_toArray, List.set_cons_zero, List.set_cons_succ])
      refine hK.out _ _ ⟨hHeld.1.alloc _, hHeld.2.alloc _⟩ (fun hHeld => ?_)
      clear hK K
      have BS := Has.box w5 77 hst (by omega)
      replace F1 := F1.alloc (.cells (ints (stp ns x)).toArray 77)
      replace F2 := Lib.hid (F2.out.alloc (.cells (ints (stp ns x)).toArray 77))
      replace F3 := Lib.hid (F3.out.alloc (.cells (ints (stp ns x)).toArray 77))
      replace F4 := Lib.hid (F4.out.alloc (.cells (ints (stp ns x)).toArray 77))
      have hsz5 : (w5.alloc (.cells (ints (stp ns x)).toArray 77)).heap.size = w5.heap.size + 1 := by simp
      have hF4 := F4.out.size
      generalize w5.alloc (.cells (ints (stp ns x)).toArray 77) = W6 at *
      (refine wpAnyH_ready (rs := [6]) (by kernel_rfl) (by simp) ?_; refine AllReadyH.cons (o := _) rfl (fun K hK => ?_) AllReadyH.nil; (simp only [List.getElem_toArray, List.getElem_cons_zero, List.getElem_cons_succ, Region.wanted, if_true]))
      refine wp_append_gr _ _ 73 rfl (w.heap.size + 1) 77 26 208 Try.underlying73 (by kernel_rfl) (by omega) (by omega) _ k ((stL ns).take k) (by rw [List.length_take]; omega) rfl F2.out w5.heap.size 1 rfl (stp ns x) BS (by have := F1.lt; omega) (by omega) ?_
      intro g' cap' w7 hG hgrow hlie hlt
      (try simp only [List.getElem_toArray, List.getElem_cons_zero, List.getElem_cons_succ, Act.put, List.setIfInBounds_toArray, List.set_cons_zero, List.set_cons_succ])
      refine hK.out _ _ ⟨hHeld.1.grownNo hgrow (fun e => by have e := Option.some.inj (show some b8 = some g from e); omega), hHeld.2.grownNo hgrow (fun e => by have e := Option.some.inj (show some b9 = some g from e); omega)⟩ (fun hHeld => ?_)
      clear hK K
      (refine wpAnyH_take (i := 7) (v := ?_) rfl (by kernel_rfl) (by kernel_rfl) (by kernel_rfl) (fun _ _ _ h => h) (Or.inl ⟨by rfl, ?_⟩) hHeld ?_; rotate_left; (· (intro w' hSw; go_simp; try with_reducible rfl)); (try simp only [List.getElem_toArray, List.getElem_cons_zero, List.getElem_cons_succ, Act.put, List.setIfInBounds_toArray, List.set_cons_zero, List.set_cons_succ]))
      refine wpAnyH_done (by kernel_rfl) ?_ _
      have hgo := (F2.out.own g rfl).1
      have K1 := F1.grownNo hgrow (fun e => by have e := Option.some.inj (show some w.heap.size = some g from e); omega)
      have K2 := Lib.hid (hG.as UK.out.symm)
      have K3 := Lib.hid (F3.out.kept hgrow (fun z hz e => GA.out (by rw [hz]; exact e.symm)))
      have K4 := Lib.hid (F4.out.grown hgrow hF4 (fun j hj => by have hj := Option.some.inj (show some g = some j from hj); omega))
      have K5 : Hid ((Value.slice (some ⟨gp, 0, none⟩) N cap).ownBlock ≠ some g') := Lib.hid (fun e => by
        have e := Option.some.inj (show some gp = some g' from e)
        rcases hlie with h1 | h1
        · have h1 := Option.some.inj (show some g = some g' from h1)
          exact GA.out (by rw [h1, ← e]; rfl)
        · omega)
      clear hHeld F1 F2 F3 F4 hG hgrow hlie BS hi9 hi2
      go_wp2_with fail
      go_roundg (N - (k + 1))
      case rel => exact ⟨k + 1, g', cap', rfl, by omega, by go_num, rfl, K1, K2, K3, K5, K4⟩
      case measure => omega
    · obtain rfl : k = N := by omega
      have e : (stL ns).take k = stL ns := List.take_of_length_le (by omega)
      go_wp2_with fail
      go_ret
      exact ⟨_, rfl, (GR.out.as e).mono (by omega), GB.out⟩
end Go.Proofs.Ytbnffpcgcchnaab.base
