/-
  Which pours lead to new forms, on the model's side, walked.
-/
import Derived.Test.YtbnffpcgcchnaabStepV
import Derived.Test.YtbnffpcgcchnaabFill
import Derived.Test.YtbnffpcgcchnaabPourS
import Derived.Test.YtbnffpcgcchnaabUseS
import Derived.Test.YtbnffpcgcchnaabFormS
import Derived.Test.YtbnffpcgcchnaabEqR
import Derived.Deep.Cut
import Derived.Deep.CutRange
import Derived.Deep.RegionHeld3
namespace Go.Proofs.Ytbnffpcgcchnaab.base
open Go.ChangeShapes Go.WideShapes Go.ChangeAt Go.RowKit
set_option linter.unusedVariables false
set_option linter.unusedSimpArgs false

theorem eqRackRun {P : Program} (ev : Operand → Value) (o : Oper) (T T2 : TypeId) (x y : Operand) (ho : o.op = .binOp .eql T x y T2) (xs ys : List Int) (hx : ev x = .agg (ints xs).toArray) (hy : ev y = .agg (ints ys).toArray)
    (hm : P.eqGuardType P.depth T = false) (hq : ∀ w, (Op.equalIn 10000 T (.agg (ints xs).toArray) (.agg (ints ys).toArray)).run P w = .ok (decide (xs = ys)) w) (b : Bool) (hb : decide (xs = ys) = b) {w : World} :
    (execOp ev o).run P w = .ok (.value (.bool b)) w := by
  rw [← hb]; exact eql_run ev o T T2 x y ho xs ys hx hy hm hq
/-- Whether one of the first m is f. -/
def anyUp (fs : List (List Int)) (f : List Int) (m : Nat) : Bool := decide (f ∈ fs.take m)
theorem anyUp_succ {fs : List (List Int)} (f : List Int) {m : Nat} (h : m < fs.length) : anyUp fs f (m + 1) = (anyUp fs f m || decide (fs.getD m [] = f)) := by
  unfold anyUp
  rw [List.take_succ_eq_append_getElem h, List.getD_eq_getElem?_getD, List.getElem?_eq_getElem h, Option.getD_some, Bool.eq_iff_iff]
  simp only [List.mem_append, List.mem_singleton, decide_eq_true_eq, Bool.or_eq_true]
  exact or_congr Iff.rfl eq_comm
theorem anyUp_all (fs : List (List Int)) (f : List Int) : anyUp fs f fs.length = decide (f ∈ fs) := by unfold anyUp; rw [List.take_length]
theorem anyUp_0 (fs : List (List Int)) (f : List Int) : anyUp fs f 0 = false := by unfold anyUp; simp
theorem getD_fs {ns : List Int} {k m : Nat} (hk : k ≤ (usL ns).length) (hm : m < (dstUp ns k).1.length) (h24 : ns.length = 24) (hv : vR ns = true) : ((dstUp ns k).1.getD m []).length = 24 := by
  obtain ⟨x, hx, e⟩ := (dst_len ns k hk).2.2 _ (getD_mem hm)
  rw [e]; exact behForm_len h24 hv (usL_ok ns x hx)

set_option maxHeartbeats 1600000 in
set_option maxRecDepth 100000 in
theorem specDistinct (ns : List Int) (w : World) (h24 : ns.length = 24) :
    Calls Try.prog 20 #[row ns] w (DistPost ns w) := by
  have HB := Lib.hid ((((kept_refl w).alloc (.cells (ints ns).toArray 29)).alloc (.cells #[] 53)).alloc (.cells #[] 29))
  have H := ((Has.box w 29 h24 (by omega)).alloc (.cells #[] 53)).alloc (.cells #[] 29)
  have R0 := Lib.hid ((Gr.none (w.alloc (.cells (ints ns).toArray 29)) (w.heap.size + 1) 53 2 (by simp)).alloc (.cells #[] 29))
  rw [size1] at R0
  have F0 := Lib.hid (Gr.none ((w.alloc (.cells (ints ns).toArray 29)).alloc (.cells #[] 53)) (w.heap.size + 1) 29 24 (by simp))
  rw [size1, size1] at F0
  rw [row_ints]
  go_enter Try.func20, Try.ntmps20
  go_wp2_with (refine load_has rfl 29 _ rfl _ rfl ?_ 24 ?_ _ Try.underlying29 rfl ?_ ?_; rotate_left; (· (repeat (first | (with_reducible assumption) | ((with_reducible refine Has.box _ _ ?_ ?_) <;> (first | assumption | decide)) | (with_reducible refine Has.alloc ?_ _) | ((with_reducible refine Has.putOther ?_ _ _ ?_); rotate_left; omega; skip) | ((with_reducible refine Has.below ?_ ?_); rotate_left; assumption)))); (· kernel_rfl))
  refine (l2Rack_any ns _ h24).mono ?_
  rintro e w1 ⟨rfl, b1⟩
  replace H := H.below b1
  replace R0 := Lib.hid (R0.out.below b1)
  replace F0 := Lib.hid (F0.out.below b1)
  have hr1 := (F0.out.own _ rfl).2
  replace HB := Lib.hid (HB.out.call b1)
  clear b1
  by_cases hv : vR ns = true
  · rw [hv]
    have HV := Lib.hid hv
    have HL := Lib.hid h24
    go_wp2_with (refine load_has rfl 29 _ rfl _ rfl ?_ 24 ?_ _ Try.underlying29 rfl ?_ ?_; rotate_left; (· (repeat (first | (with_reducible assumption) | ((with_reducible refine Has.box _ _ ?_ ?_) <;> (first | assumption | decide)) | (with_reducible refine Has.alloc ?_ _) | ((with_reducible refine Has.putOther ?_ _ _ ?_); rotate_left; omega; skip) | ((with_reducible refine Has.below ?_ ?_); rotate_left; assumption)))); (· kernel_rfl))
    refine (l2Useful_any ns _ h24 hv).mono ?_
    rintro e w2 ⟨sv, rfl, q1, b2⟩
    have hso := q1.own
    replace H := H.below b2
    replace F0 := Lib.hid (F0.out.below b2)
    replace R0 := Lib.hid (R0.out.below b2)
    replace HB := Lib.hid (HB.out.call b2)
    rw [(usef_us ns).1, (usef_us ns).2] at q1
    obtain ⟨a, cap, rfl⟩ := prs_slice2 q1
    have GS := Lib.hid ((q1.toGr rfl).mono (b' := w.heap.size) (by omega))
    have hUL := usL_le ns
    have UO := Lib.hid (fun k hk => usL_at ns (k := k) hk)
    have DS := Lib.hid (fun k hk => dst_succ ns (k := k) hk)
    have DL := Lib.hid (fun k hk => dst_len ns k hk)
    have FL := Lib.hid (fun k m hk hm => getD_fs (ns := ns) (k := k) (m := m) hk hm h24 hv)
    have E1 := Lib.hid (show dstN ns = (dstUp ns (usL ns).length).2.length by unfold dstN dstP; rw [if_pos hv])
    have E2 := Lib.hid (show dstFl ns = flatP (dstUp ns (usL ns).length).2 by unfold dstFl dstP; rw [if_pos hv])
    have AP : Hid (∀ z, (Value.slice a (usL ns).length cap).ownBlock = some z → w1.heap.size ≤ z) := Lib.hid hso
    have hlen2 : ((usL ns).map pr2).length = (usL ns).length := List.length_map _
    have AT := Lib.hid (fun k (hk : k < (usL ns).length) => pr2_at (usL ns) hk)
    have HMR : Hid (Try.prog.eqGuardType Try.prog.depth 29 = false) := Lib.hid (by kernel_rfl)
    clear hv h24 b2 q1 hso
    generalize (usL ns).length = N at *
    generalize w1.heap.size = g0 at *
    go_wp2_with fail
    go_loopg [4, 5, 7] N (fun gk u s i wr => ∃ (k g cu f cf : Nat), gk = N - k ∧ k ≤ N ∧ i = .int .i64 k ∧ u = .slice (some ⟨g, 0, none⟩) (dstUp ns k).2.length cu ∧ s = .slice (some ⟨f, 0, none⟩) (dstUp ns k).1.length cf ∧ Has wr w.heap.size ns 24 ∧ Hid (Gr wr (w.heap.size + 1) 53 2 (.slice (some ⟨g, 0, none⟩) (dstUp ns k).2.length cu) ((dstUp ns k).2.map pr2)) ∧ Hid (Gr wr (w.heap.size + 1) 29 24 (.slice (some ⟨f, 0, none⟩) (dstUp ns k).1.length cf) (dstUp ns k).1) ∧ Hid (Gr wr w.heap.size 53 2 (.slice a N cap) ((usL ns).map pr2)) ∧ Hid ((Value.slice a N cap).ownBlock ≠ some g ∧ (Value.slice a N cap).ownBlock ≠ some f ∧ g ≠ f) ∧ Hid (Kept w wr))
    case atStart => exact ⟨0, w.heap.size + 1, 0, w.heap.size + 1 + 1, 0, rfl, by omega, rfl, rfl, rfl, H, R0, F0, GS, Lib.hid ⟨fun e => by have := AP.out _ e; omega, fun e => by have := AP.out _ e; omega, by omega⟩, HB⟩
    case round =>
      obtain ⟨k, g, cu, f, cf, rfl, hk, rfl, rfl, rfl, GH, GR, GF, GQ, GA, GB⟩ := hrel
      by_cases hkN : k < N
      · have hki : (k : Int) < (N : Int) := by omega
        obtain ⟨gp, cap2, hv', hbp, hgp⟩ := GQ.out.form (by omega)
        rw [hlen2] at hv'
        injection hv' with ha _ hcap
        subst ha
        subst hcap
        -- ROUND
        have P := UO.out k hkN
        have hbe := pourT_len2 HL.out HV.out P
        have hbf := behForm_len HL.out HV.out P
        have D := DS.out k hkN
        have DLk := DL.out k hk
        have FLk := fun m hm => FL.out k m hk hm
        have GC0 : Hid (∀ W, Gr W w.heap.size 53 2 (.slice (some ⟨gp, 0, none⟩) N cap) ((usL ns).map pr2) → W.cell? ⟨gp, k * 2, none⟩ = some (.int .i64 (((usL ns).getD k (0, 0)).1 : Int))) := Lib.hid (fun W h => by
          have := h.cell hlen2.symm k 0 hkN (by omega)
          rw [AT.out k hkN] at this; exact this)
        have GC1 : Hid (∀ W, Gr W w.heap.size 53 2 (.slice (some ⟨gp, 0, none⟩) N cap) ((usL ns).map pr2) → W.cell? ⟨gp, k * 2 + 1, none⟩ = some (.int .i64 (((usL ns).getD k (0, 0)).2 : Int))) := Lib.hid (fun W h => by
          have := h.cell hlen2.symm k 1 hkN (by omega)
          rw [AT.out k hkN] at this; exact this)
        have ATk := AT.out k hkN
        generalize (usL ns).getD k (0, 0) = x at *
        have hpi : (x.1 : Int) < 6 := by have := P.p6; omega
        have hqi : (x.2 : Int) < 6 := by have := P.q6; omega
        have l9 : (ints (behN ns x)).length = 24 := by rw [ints_len]; exact hbe
        have hi9 : (Try.prog.info? 29).map (·.size) = some (ints (behN ns x)).length := by rw [l9]; kernel_rfl
        have hin : (Try.prog.info? 29).map (·.size) = some (ints ns).length := by rw [ints_len, HL.out]; kernel_rfl
        have M1 := DLk.1
        have M2 := DLk.2.1
        generalize hfs : (dstUp ns k).1 = fs at *
        go_wp2_with fail
        go_cut [8, 9] from 27 to 41 (fun s8 s9 wx => ∃ c : Nat, s8 = .pointer (some ⟨c, 0, none⟩) ∧ s9 = .int .i64 (canN (tub ns x.1) (tub ns x.2) : Nat) ∧ Has wx c (behN ns x) 24 ∧ Has wx w.heap.size ns 24 ∧ Hid (Gr wx (w.heap.size + 1) 53 2 (.slice (some ⟨g, 0, none⟩) (dstUp ns k).2.length cu) ((dstUp ns k).2.map pr2)) ∧ Hid (Gr wx (w.heap.size + 1) 29 24 (.slice (some ⟨f, 0, none⟩) fs.length cf) fs) ∧ Hid (Gr wx w.heap.size 53 2 (.slice (some ⟨gp, 0, none⟩) N cap) ((usL ns).map pr2)) ∧ Hid (Kept w wx))
        case first =>
          have D1 := GH.drew
          have D2 := Lib.hid GR.out.drew
          have D3 := Lib.hid GF.out.drew
          have D4 := Lib.hid GQ.out.drew
          have D5 : Hid (Kept w wr.drew) := Lib.hid (GB.out.drewN 1)
          refine wp_region_held_drew (S := fun w' => Has w' w.heap.size ns 24 ∧ Gr w' w.heap.size 53 2 (.slice (some ⟨gp, 0, none⟩) N cap) ((usL ns).map pr2)) (by kernel_rfl) ⟨D1, D4.out⟩ (fun hHeld => ?_)
          generalize hWD : World.drew wr = WD at *
          clear hWD
          (refine wpAnyH_take (i := 0) (v := _) rfl (by kernel_rfl) (by kernel_rfl) (by kernel_rfl) (fun _ _ _ h => h) (yieldsIf_load_mid (by rfl) 29 _ rfl _ _ rfl (ints ns) _ (fun w' hSw => hSw.1.holds.range) Try.underlying29 rfl (hin)) hHeld ?_; (try simp only [List.getElem_toArray, List.getElem_cons_zero, List.getElem_cons_succ, Act.put, List.setIfInBounds_toArray, List.set_cons_zero, List.set_cons_succ]))
          (refine wpAnyH_take (i := 1) (v := ?_) rfl (by kernel_rfl) (by kernel_rfl) (by kernel_rfl) (fun _ _ _ h => h) (Or.inl ⟨by rfl, ?_⟩) hHeld ?_; rotate_left; (· (intro w' hSw; go_simp; try with_reducible rfl)); (try simp only [List.getElem_toArray, List.getElem_cons_zero, List.getElem_cons_succ, Act.put, List.setIfInBounds_toArray, List.set_cons_zero, List.set_cons_succ])); (refine wpAnyH_take (i := 2) (v := ?_) rfl (by kernel_rfl) (by kernel_rfl) (by kernel_rfl) (fun _ _ _ h => h) (Or.inl ⟨by rfl, ?_⟩) hHeld ?_; rotate_left; (· (intro w' hSw; go_simp; try with_reducible rfl)); (try simp only [List.getElem_toArray, List.getElem_cons_zero, List.getElem_cons_succ, Act.put, List.setIfInBounds_toArray, List.set_cons_zero, List.set_cons_succ])); (refine wpAnyH_take (i := 3) (v := ?_) rfl (by kernel_rfl) (by kernel_rfl) (by kernel_rfl) (fun _ _ _ h => h) (Or.inl ⟨by rfl, ?_⟩) hHeld ?_; rotate_left; (· (intro w' hSw; go_simp; try with_reducible rfl)); (try simp only [List.getElem_toArray, List.getElem_cons_zero, List.getElem_cons_succ, Act.put, List.setIfInBounds_toArray, List.set_cons_zero, List.set_cons_succ])); (refine wpAnyH_take (i := 4) (v := ?_) rfl (by kernel_rfl) (by kernel_rfl) (by kernel_rfl) (fun _ _ _ h => h) (Or.inl ⟨by rfl, ?_⟩) hHeld ?_; rotate_left; (· (intro w' hSw; go_simp; try with_reducible rfl)); (try simp only [List.getElem_toArray, List.getElem_cons_zero, List.getElem_cons_succ, Act.put, List.setIfInBounds_toArray, List.set_cons_zero, List.set_cons_succ]))
          refine wpAnyH_take (i := 5) (v := .int .i64 (x.1 : Int)) rfl (by kernel_rfl) (by kernel_rfl) (by kernel_rfl) (fun _ _ _ h => h) (Or.inl ⟨by rfl, ?_⟩) hHeld ?_
          · intro w' hSw
            have cc := GC0.out w' hSw.2
            go_simp
          (try simp only [List.getElem_toArray, List.getElem_cons_zero, List.getElem_cons_succ, Act.put, List.setIfInBounds_toArray, List.set_cons_zero, List.set_cons_succ])
          (refine wpAnyH_take (i := 6) (v := ?_) rfl (by kernel_rfl) (by kernel_rfl) (by kernel_rfl) (fun _ _ _ h => h) (Or.inl ⟨by rfl, ?_⟩) hHeld ?_; rotate_left; (· (intro w' hSw; go_simp; try with_reducible rfl)); (try simp only [List.getElem_toArray, List.getElem_cons_zero, List.getElem_cons_succ, Act.put, List.setIfInBounds_toArray, List.set_cons_zero, List.set_cons_succ])); (refine wpAnyH_take (i := 7) (v := ?_) rfl (by kernel_rfl) (by kernel_rfl) (by kernel_rfl) (fun _ _ _ h => h) (Or.inl ⟨by rfl, ?_⟩) hHeld ?_; rotate_left; (· (intro w' hSw; go_simp; try with_reducible rfl)); (try simp only [List.getElem_toArray, List.getElem_cons_zero, List.getElem_cons_succ, Act.put, List.setIfInBounds_toArray, List.set_cons_zero, List.set_cons_succ])); (refine wpAnyH_take (i := 8) (v := ?_) rfl (by kernel_rfl) (by kernel_rfl) (by kernel_rfl) (fun _ _ _ h => h) (Or.inl ⟨by rfl, ?_⟩) hHeld ?_; rotate_left; (· (intro w' hSw; go_simp; try with_reducible rfl)); (try simp only [List.getElem_toArray, List.getElem_cons_zero, List.getElem_cons_succ, Act.put, List.setIfInBounds_toArray, List.set_cons_zero, List.set_cons_succ])); (refine wpAnyH_take (i := 9) (v := ?_) rfl (by kernel_rfl) (by kernel_rfl) (by kernel_rfl) (fun _ _ _ h => h) (Or.inl ⟨by rfl, ?_⟩) hHeld ?_; rotate_left; (· (intro w' hSw; go_simp; try with_reducible rfl)); (try simp only [List.getElem_toArray, List.getElem_cons_zero, List.getElem_cons_succ, Act.put, List.setIfInBounds_toArray, List.set_cons_zero, List.set_cons_succ]))
          refine wpAnyH_take (i := 10) (v := .int .i64 (x.2 : Int)) rfl (by kernel_rfl) (by kernel_rfl) (by kernel_rfl) (fun _ _ _ h => h) (Or.inl ⟨by rfl, ?_⟩) hHeld ?_
          · intro w' hSw
            have cc := GC1.out w' hSw.2
            go_simp
          (try simp only [List.getElem_toArray, List.getElem_cons_zero, List.getElem_cons_succ, Act.put, List.setIfInBounds_toArray, List.set_cons_zero, List.set_cons_succ])
          refine wpAnyH_ready (rs := [11, 15]) (by kernel_rfl) (by simp) ?_
          refine AllReadyH.cons (o := _) rfl (fun K hK => ?_) (AllReadyH.cons (o := _) rfl (fun K hK => ?_) AllReadyH.nil)
          · (simp only [List.getElem_toArray, List.getElem_cons_zero, List.getElem_cons_succ, Region.wanted, if_true])
            go_simp
            refine (l2Pour_any ns x.1 x.2 _ HL.out HV.out P.p6 P.q6 P.ne P.can).mono ?_
            rintro e w5 ⟨rfl, b5⟩
            dsimp only
            (try simp only [List.getElem_toArray, List.getElem_cons_zero, List.getElem_cons_succ, Act.put, List.setIfInBounds_toArray, List.set_cons_zero, List.set_cons_succ])
            refine hK.out _ _ ⟨hHeld.1.below b5, hHeld.2.below b5⟩ (fun hHeld => ?_)
            clear hK K
            replace D1 := D1.below b5
            replace D2 := Lib.hid (D2.out.below b5)
            replace D3 := Lib.hid (D3.out.below b5)
            replace D4 := Lib.hid (D4.out.below b5)
            replace D5 := Lib.hid (D5.out.call b5)
            clear b5
            (refine wpAnyH_take (i := 12) (v := ?_) rfl (by kernel_rfl) (by kernel_rfl) (by kernel_rfl) (fun _ _ _ h => h) (Or.inl ⟨by rfl, ?_⟩) hHeld ?_; rotate_left; (· (intro w' hSw; go_simp; try with_reducible rfl)); (try simp only [List.getElem_toArray, List.getElem_cons_zero, List.getElem_cons_succ, Act.put, List.setIfInBounds_toArray, List.set_cons_zero, List.set_cons_succ])); (refine wpAnyH_take (i := 13) (v := ?_) rfl (by kernel_rfl) (by kernel_rfl) (by kernel_rfl) (fun _ _ _ h => h) (Or.inl ⟨by rfl, ?_⟩) hHeld ?_; rotate_left; (· (intro w' hSw; go_simp; try with_reducible rfl)); (try simp only [List.getElem_toArray, List.getElem_cons_zero, List.getElem_cons_succ, Act.put, List.setIfInBounds_toArray, List.set_cons_zero, List.set_cons_succ])); (refine wpAnyH_take (i := 14) (v := ?_) rfl (by kernel_rfl) (by kernel_rfl) (by kernel_rfl) (fun _ _ _ h => h) (Or.inl ⟨by rfl, ?_⟩) hHeld ?_; rotate_left; (· (intro w' hSw; go_simp; try with_reducible rfl)); (try simp only [List.getElem_toArray, List.getElem_cons_zero, List.getElem_cons_succ, Act.put, List.setIfInBounds_toArray, List.set_cons_zero, List.set_cons_succ]))
            (refine wpAnyH_ready (rs := [15]) (by kernel_rfl) (by simp) ?_; refine AllReadyH.cons (o := _) rfl (fun K hK => ?_) AllReadyH.nil; (simp only [List.getElem_toArray, List.getElem_cons_zero, List.getElem_cons_succ, Region.wanted, if_true]))
            go_simp
            refine hK.out _ _ ⟨hHeld.1.alloc _, hHeld.2.alloc _⟩ (fun hHeld => ?_)
            clear hK K
            have lt1 := D1.lt
            have ltf := (D3.out.own f rfl).2
            have ltg := (D2.out.own g rfl).2
            have ltp := (D4.out.own gp rfl).2
            have ltB := D5.out.size
            have Z : Has (w5.alloc (.cells #[.int .i64 0, .int .i64 0, .int .i64 0, .int .i64 0, .int .i64 0, .int .i64 0, .int .i64 0, .int .i64 0, .int .i64 0, .int .i64 0, .int .i64 0, .int .i64 0, .int .i64 0, .int .i64 0, .int .i64 0, .int .i64 0, .int .i64 0, .int .i64 0, .int .i64 0, .int .i64 0, .int .i64 0, .int .i64 0, .int .i64 0, .int .i64 0] 29)) w5.heap.size z24 24 := Has.box (ns := z24) w5 29 rfl (by omega)
            replace D1 := D1.alloc (.cells #[.int .i64 0, .int .i64 0, .int .i64 0, .int .i64 0, .int .i64 0, .int .i64 0, .int .i64 0, .int .i64 0, .int .i64 0, .int .i64 0, .int .i64 0, .int .i64 0, .int .i64 0, .int .i64 0, .int .i64 0, .int .i64 0, .int .i64 0, .int .i64 0, .int .i64 0, .int .i64 0, .int .i64 0, .int .i64 0, .int .i64 0, .int .i64 0] 29)
            replace D2 := Lib.hid (D2.out.alloc (.cells #[.int .i64 0, .int .i64 0, .int .i64 0, .int .i64 0, .int .i64 0, .int .i64 0, .int .i64 0, .int .i64 0, .int .i64 0, .int .i64 0, .int .i64 0, .int .i64 0, .int .i64 0, .int .i64 0, .int .i64 0, .int .i64 0, .int .i64 0, .int .i64 0, .int .i64 0, .int .i64 0, .int .i64 0, .int .i64 0, .int .i64 0, .int .i64 0] 29))
            replace D3 := Lib.hid (D3.out.alloc (.cells #[.int .i64 0, .int .i64 0, .int .i64 0, .int .i64 0, .int .i64 0, .int .i64 0, .int .i64 0, .int .i64 0, .int .i64 0, .int .i64 0, .int .i64 0, .int .i64 0, .int .i64 0, .int .i64 0, .int .i64 0, .int .i64 0, .int .i64 0, .int .i64 0, .int .i64 0, .int .i64 0, .int .i64 0, .int .i64 0, .int .i64 0, .int .i64 0] 29))
            replace D4 := Lib.hid (D4.out.alloc (.cells #[.int .i64 0, .int .i64 0, .int .i64 0, .int .i64 0, .int .i64 0, .int .i64 0, .int .i64 0, .int .i64 0, .int .i64 0, .int .i64 0, .int .i64 0, .int .i64 0, .int .i64 0, .int .i64 0, .int .i64 0, .int .i64 0, .int .i64 0, .int .i64 0, .int .i64 0, .int .i64 0, .int .i64 0, .int .i64 0, .int .i64 0, .int .i64 0] 29))
            replace D5 := Lib.hid (D5.out.alloc (.cells #[.int .i64 0, .int .i64 0, .int .i64 0, .int .i64 0, .int .i64 0, .int .i64 0, .int .i64 0, .int .i64 0, .int .i64 0, .int .i64 0, .int .i64 0, .int .i64 0, .int .i64 0, .int .i64 0, .int .i64 0, .int .i64 0, .int .i64 0, .int .i64 0, .int .i64 0, .int .i64 0, .int .i64 0, .int .i64 0, .int .i64 0, .int .i64 0] 29))
            generalize hcc : w5.heap.size = cc at *
            clear hcc
            generalize w5.alloc (.cells #[.int .i64 0, .int .i64 0, .int .i64 0, .int .i64 0, .int .i64 0, .int .i64 0, .int .i64 0, .int .i64 0, .int .i64 0, .int .i64 0, .int .i64 0, .int .i64 0, .int .i64 0, .int .i64 0, .int .i64 0, .int .i64 0, .int .i64 0, .int .i64 0, .int .i64 0, .int .i64 0, .int .i64 0, .int .i64 0, .int .i64 0, .int .i64 0] 29) = W7 at *
            have HSP := fun (W : World) (h : Gr W w.heap.size 53 2 (.slice (some ⟨gp, 0, none⟩) N cap) ((usL ns).map pr2)) => h.puts cc 0 (ints (behN ns x)) (fun z hz e => by have hz := Option.some.inj (show some gp = some z from hz); omega)
            (refine wpAnyH_ready (rs := [16]) (by kernel_rfl) (by simp) ?_; refine AllReadyH.cons (o := _) rfl (fun K hK => ?_) AllReadyH.nil; (simp only [List.getElem_toArray, List.getElem_cons_zero, List.getElem_cons_succ, Region.wanted, if_true]); refine wp_store_mid _ _ _ rfl _ _ (ints (behN ns x)).toArray rfl rfl (by simpa [l9] using Z.there) (by simpa [l9] using hi9) (all_oneCell_toArray (ints_one _)) ?_; (try simp only [List.getElem_toArray, List.getElem_cons_zero, List.getElem_cons_succ, Act.put, List.setIfInBounds_toArray, List.set_cons_zero, List.set_cons_succ, List.toList_toArray]); refine hK.out _ _ (⟨hHeld.1.putOther _ _ (by omega), HSP _ hHeld.2⟩) (fun hHeld => ?_); clear hK K)
            (refine wpAnyH_take (i := 17) (v := ?_) rfl (by kernel_rfl) (by kernel_rfl) (by kernel_rfl) (fun _ _ _ h => h) (Or.inl ⟨by rfl, ?_⟩) hHeld ?_; rotate_left; (· (intro w' hSw; go_simp; try with_reducible rfl)); (try simp only [List.getElem_toArray, List.getElem_cons_zero, List.getElem_cons_succ, Act.put, List.setIfInBounds_toArray, List.set_cons_zero, List.set_cons_succ]))
            refine wpAnyH_done (by kernel_rfl) ?_ _
            have R := Z.putAll (behN ns x) hbe
            replace D1 := D1.putOther (b' := cc) 0 (ints (behN ns x)) (by omega)
            replace D2 := Lib.hid (D2.out.puts cc 0 (ints (behN ns x)) (fun z hz e => by have hz := Option.some.inj (show some g = some z from hz); omega))
            replace D3 := Lib.hid (D3.out.puts cc 0 (ints (behN ns x)) (fun z hz e => by have hz := Option.some.inj (show some f = some z from hz); omega))
            replace D4 := Lib.hid (D4.out.puts cc 0 (ints (behN ns x)) (fun z hz e => by have hz := Option.some.inj (show some gp = some z from hz); omega))
            replace D5 := Lib.hid (D5.out.puts (b := cc) (by omega) 0 (ints (behN ns x)))
            go_wp2_with fail
            go_meet
            case rel => exact ⟨cc, rfl, rfl, R, D1, D2, D3, D4, D5⟩
          · (simp only [List.getElem_toArray, List.getElem_cons_zero, List.getElem_cons_succ, Region.wanted, if_true])
            go_simp
            refine hK.out _ _ ⟨hHeld.1.alloc _, hHeld.2.alloc _⟩ (fun hHeld => ?_)
            clear hK K
            have lt1 := D1.lt
            have ltf := (D3.out.own f rfl).2
            have ltg := (D2.out.own g rfl).2
            have ltp := (D4.out.own gp rfl).2
            have ltB := D5.out.size
            have Z : Has (WD.alloc (.cells #[.int .i64 0, .int .i64 0, .int .i64 0, .int .i64 0, .int .i64 0, .int .i64 0, .int .i64 0, .int .i64 0, .int .i64 0, .int .i64 0, .int .i64 0, .int .i64 0, .int .i64 0, .int .i64 0, .int .i64 0, .int .i64 0, .int .i64 0, .int .i64 0, .int .i64 0, .int .i64 0, .int .i64 0, .int .i64 0, .int .i64 0, .int .i64 0] 29)) WD.heap.size z24 24 := Has.box (ns := z24) WD 29 rfl (by omega)
            replace D1 := D1.alloc (.cells #[.int .i64 0, .int .i64 0, .int .i64 0, .int .i64 0, .int .i64 0, .int .i64 0, .int .i64 0, .int .i64 0, .int .i64 0, .int .i64 0, .int .i64 0, .int .i64 0, .int .i64 0, .int .i64 0, .int .i64 0, .int .i64 0, .int .i64 0, .int .i64 0, .int .i64 0, .int .i64 0, .int .i64 0, .int .i64 0, .int .i64 0, .int .i64 0] 29)
            replace D2 := Lib.hid (D2.out.alloc (.cells #[.int .i64 0, .int .i64 0, .int .i64 0, .int .i64 0, .int .i64 0, .int .i64 0, .int .i64 0, .int .i64 0, .int .i64 0, .int .i64 0, .int .i64 0, .int .i64 0, .int .i64 0, .int .i64 0, .int .i64 0, .int .i64 0, .int .i64 0, .int .i64 0, .int .i64 0, .int .i64 0, .int .i64 0, .int .i64 0, .int .i64 0, .int .i64 0] 29))
            replace D3 := Lib.hid (D3.out.alloc (.cells #[.int .i64 0, .int .i64 0, .int .i64 0, .int .i64 0, .int .i64 0, .int .i64 0, .int .i64 0, .int .i64 0, .int .i64 0, .int .i64 0, .int .i64 0, .int .i64 0, .int .i64 0, .int .i64 0, .int .i64 0, .int .i64 0, .int .i64 0, .int .i64 0, .int .i64 0, .int .i64 0, .int .i64 0, .int .i64 0, .int .i64 0, .int .i64 0] 29))
            replace D4 := Lib.hid (D4.out.alloc (.cells #[.int .i64 0, .int .i64 0, .int .i64 0, .int .i64 0, .int .i64 0, .int .i64 0, .int .i64 0, .int .i64 0, .int .i64 0, .int .i64 0, .int .i64 0, .int .i64 0, .int .i64 0, .int .i64 0, .int .i64 0, .int .i64 0, .int .i64 0, .int .i64 0, .int .i64 0, .int .i64 0, .int .i64 0, .int .i64 0, .int .i64 0, .int .i64 0] 29))
            replace D5 := Lib.hid (D5.out.alloc (.cells #[.int .i64 0, .int .i64 0, .int .i64 0, .int .i64 0, .int .i64 0, .int .i64 0, .int .i64 0, .int .i64 0, .int .i64 0, .int .i64 0, .int .i64 0, .int .i64 0, .int .i64 0, .int .i64 0, .int .i64 0, .int .i64 0, .int .i64 0, .int .i64 0, .int .i64 0, .int .i64 0, .int .i64 0, .int .i64 0, .int .i64 0, .int .i64 0] 29))
            generalize hcc : WD.heap.size = cc at *
            clear hcc
            generalize WD.alloc (.cells #[.int .i64 0, .int .i64 0, .int .i64 0, .int .i64 0, .int .i64 0, .int .i64 0, .int .i64 0, .int .i64 0, .int .i64 0, .int .i64 0, .int .i64 0, .int .i64 0, .int .i64 0, .int .i64 0, .int .i64 0, .int .i64 0, .int .i64 0, .int .i64 0, .int .i64 0, .int .i64 0, .int .i64 0, .int .i64 0, .int .i64 0, .int .i64 0] 29) = W7 at *
            (refine wpAnyH_ready (rs := [11]) (by kernel_rfl) (by simp) ?_; refine AllReadyH.cons (o := _) rfl (fun K hK => ?_) AllReadyH.nil; (simp only [List.getElem_toArray, List.getElem_cons_zero, List.getElem_cons_succ, Region.wanted, if_true]))
            go_simp
            refine (l2Pour_any ns x.1 x.2 _ HL.out HV.out P.p6 P.q6 P.ne P.can).mono ?_
            rintro e w5 ⟨rfl, b5⟩
            dsimp only
            (try simp only [List.getElem_toArray, List.getElem_cons_zero, List.getElem_cons_succ, Act.put, List.setIfInBounds_toArray, List.set_cons_zero, List.set_cons_succ])
            refine hK.out _ _ ⟨hHeld.1.below b5, hHeld.2.below b5⟩ (fun hHeld => ?_)
            clear hK K
            replace Z := Z.below b5
            replace D1 := D1.below b5
            replace D2 := Lib.hid (D2.out.below b5)
            replace D3 := Lib.hid (D3.out.below b5)
            replace D4 := Lib.hid (D4.out.below b5)
            replace D5 := Lib.hid (D5.out.call b5)
            clear b5
            (refine wpAnyH_take (i := 12) (v := ?_) rfl (by kernel_rfl) (by kernel_rfl) (by kernel_rfl) (fun _ _ _ h => h) (Or.inl ⟨by rfl, ?_⟩) hHeld ?_; rotate_left; (· (intro w' hSw; go_simp; try with_reducible rfl)); (try simp only [List.getElem_toArray, List.getElem_cons_zero, List.getElem_cons_succ, Act.put, List.setIfInBounds_toArray, List.set_cons_zero, List.set_cons_succ])); (refine wpAnyH_take (i := 13) (v := ?_) rfl (by kernel_rfl) (by kernel_rfl) (by kernel_rfl) (fun _ _ _ h => h) (Or.inl ⟨by rfl, ?_⟩) hHeld ?_; rotate_left; (· (intro w' hSw; go_simp; try with_reducible rfl)); (try simp only [List.getElem_toArray, List.getElem_cons_zero, List.getElem_cons_succ, Act.put, List.setIfInBounds_toArray, List.set_cons_zero, List.set_cons_succ])); (refine wpAnyH_take (i := 14) (v := ?_) rfl (by kernel_rfl) (by kernel_rfl) (by kernel_rfl) (fun _ _ _ h => h) (Or.inl ⟨by rfl, ?_⟩) hHeld ?_; rotate_left; (· (intro w' hSw; go_simp; try with_reducible rfl)); (try simp only [List.getElem_toArray, List.getElem_cons_zero, List.getElem_cons_succ, Act.put, List.setIfInBounds_toArray, List.set_cons_zero, List.set_cons_succ]))
            have HSP := fun (W : World) (h : Gr W w.heap.size 53 2 (.slice (some ⟨gp, 0, none⟩) N cap) ((usL ns).map pr2)) => h.puts cc 0 (ints (behN ns x)) (fun z hz e => by have hz := Option.some.inj (show some gp = some z from hz); omega)
            (refine wpAnyH_ready (rs := [16]) (by kernel_rfl) (by simp) ?_; refine AllReadyH.cons (o := _) rfl (fun K hK => ?_) AllReadyH.nil; (simp only [List.getElem_toArray, List.getElem_cons_zero, List.getElem_cons_succ, Region.wanted, if_true]); refine wp_store_mid _ _ _ rfl _ _ (ints (behN ns x)).toArray rfl rfl (by simpa [l9] using Z.there) (by simpa [l9] using hi9) (all_oneCell_toArray (ints_one _)) ?_; (try simp only [List.getElem_toArray, List.getElem_cons_zero, List.getElem_cons_succ, Act.put, List.setIfInBounds_toArray, List.set_cons_zero, List.set_cons_succ, List.toList_toArray]); refine hK.out _ _ (⟨hHeld.1.putOther _ _ (by omega), HSP _ hHeld.2⟩) (fun hHeld => ?_); clear hK K)
            (refine wpAnyH_take (i := 17) (v := ?_) rfl (by kernel_rfl) (by kernel_rfl) (by kernel_rfl) (fun _ _ _ h => h) (Or.inl ⟨by rfl, ?_⟩) hHeld ?_; rotate_left; (· (intro w' hSw; go_simp; try with_reducible rfl)); (try simp only [List.getElem_toArray, List.getElem_cons_zero, List.getElem_cons_succ, Act.put, List.setIfInBounds_toArray, List.set_cons_zero, List.set_cons_succ]))
            refine wpAnyH_done (by kernel_rfl) ?_ _
            have R := Z.putAll (behN ns x) hbe
            replace D1 := D1.putOther (b' := cc) 0 (ints (behN ns x)) (by omega)
            replace D2 := Lib.hid (D2.out.puts cc 0 (ints (behN ns x)) (fun z hz e => by have hz := Option.some.inj (show some g = some z from hz); omega))
            replace D3 := Lib.hid (D3.out.puts cc 0 (ints (behN ns x)) (fun z hz e => by have hz := Option.some.inj (show some f = some z from hz); omega))
            replace D4 := Lib.hid (D4.out.puts cc 0 (ints (behN ns x)) (fun z hz e => by have hz := Option.some.inj (show some gp = some z from hz); omega))
            replace D5 := Lib.hid (D5.out.puts (b := cc) (by omega) 0 (ints (behN ns x)))
            go_wp2_with fail
            go_meet
            case rel => exact ⟨cc, rfl, rfl, R, D1, D2, D3, D4, D5⟩
        clear GH GR GF GQ GB
        obtain ⟨c, rfl, rfl, HX, GH, GR, GF, GQ, GB⟩ := hcut
        generalize canN (tub ns x.1) (tub ns x.2) = mv at *
        go_wp2_with (first | (refine load_has rfl 29 _ rfl _ rfl ?_ 24 ?_ _ Try.underlying29 rfl ?_ ?_; rotate_left; (· (repeat (first | (with_reducible assumption) | ((with_reducible refine Has.box _ _ ?_ ?_) <;> (first | assumption | decide)) | (with_reducible refine Has.alloc ?_ _) | ((with_reducible refine Has.putOther ?_ _ _ ?_); rotate_left; omega; skip) | ((with_reducible refine Has.below ?_ ?_); rotate_left; assumption)))); (· kernel_rfl)))
        refine (l3Form_any (behN ns x) _ hbe).mono ?_
        rintro e w5 ⟨rfl, b5⟩
        rw [show formL (behN ns x) = behForm ns x from rfl]
        have hnf := (GF.out.own f rfl)
        have hng := (GR.out.own g rfl)
        have hnp := (GQ.out.own gp rfl)
        have hs5 := b5.size
        replace GH := (GH.below b5).alloc (.cells (ints (behForm ns x)).toArray 29)
        replace GR := Lib.hid ((GR.out.below b5).alloc (.cells (ints (behForm ns x)).toArray 29))
        replace GF := Lib.hid ((GF.out.below b5).alloc (.cells (ints (behForm ns x)).toArray 29))
        replace GQ := Lib.hid ((GQ.out.below b5).alloc (.cells (ints (behForm ns x)).toArray 29))
        replace GB := Lib.hid ((GB.out.call b5).alloc (.cells (ints (behForm ns x)).toArray 29))
        have HF := Has.box w5 29 hbf (by omega)
        clear HX b5 l9 hi9 hin
        go_wp2_with (refine store_new rfl 29 _ _ rfl _ _ _ rfl _ rfl _ rfl rfl ?_ ?_ ?_; (· (first | assumption | rfl)); (· kernel_rfl))
        generalize w5.alloc (.cells (ints (behForm ns x)).toArray 29) = W6 at *
        generalize w5.heap.size = c10 at *
        have hi6 : (Try.prog.info? 29).map (·.size) = some (ints (behForm ns x)).length := by rw [ints_len, hbf]; kernel_rfl
        go_loopg [11, 12] fs.length (fun gk old kk wq => ∃ m : Nat, gk = fs.length - m ∧ m ≤ fs.length ∧ kk = .int .i64 m ∧ old = .bool (anyUp fs (behForm ns x) m) ∧ Has wq w.heap.size ns 24 ∧ Has wq c10 (behForm ns x) 24 ∧ Hid (Gr wq (w.heap.size + 1) 53 2 (.slice (some ⟨g, 0, none⟩) (dstUp ns k).2.length cu) ((dstUp ns k).2.map pr2)) ∧ Hid (Gr wq (w.heap.size + 1) 29 24 (.slice (some ⟨f, 0, none⟩) fs.length cf) fs) ∧ Hid (Gr wq w.heap.size 53 2 (.slice (some ⟨gp, 0, none⟩) N cap) ((usL ns).map pr2)) ∧ Hid (Kept w wq))
        case atStart => exact ⟨0, rfl, by omega, rfl, by rw [anyUp_0], GH, HF, GR, GF, GQ, GB⟩
        case round =>
          obtain ⟨m, rfl, hm, rfl, rfl, QH, QF, QR, QS, QQ, QB⟩ := hrel
          by_cases hml : m < fs.length
          · have hmi : (m : Int) < (fs.length : Int) := by omega
            have fl := FLk m hml
            have AU := anyUp_succ (behForm ns x) hml
            have EQ := Lib.hid (eqRackT (fs.getD m []) (behForm ns x) fl hbf)
            have hif : (Try.prog.info? 29).map (·.size) = some (ints (fs.getD m [])).length := by rw [ints_len, fl]; kernel_rfl
            go_wp2_with fail
            refine wp_region_held_drew (S := fun w' => Has w' w.heap.size ns 24 ∧ Has w' c10 (behForm ns x) 24 ∧ Gr w' (w.heap.size + 1) 53 2 (.slice (some ⟨g, 0, none⟩) (dstUp ns k).2.length cu) ((dstUp ns k).2.map pr2) ∧ Gr w' (w.heap.size + 1) 29 24 (.slice (some ⟨f, 0, none⟩) fs.length cf) fs ∧ Gr w' w.heap.size 53 2 (.slice (some ⟨gp, 0, none⟩) N cap) ((usL ns).map pr2) ∧ Kept w w') (by kernel_rfl) ⟨QH.drew, QF.drew, QR.out.drew, QS.out.drew, QQ.out.drew, QB.out.drewN 1⟩ (fun hHeld => ?_)
            generalize hWD : World.drew wr = WD at *
            clear hWD QH QF QR QS QQ QB
            by_cases ho : anyUp fs (behForm ns x) m = true
            · rw [ho, Bool.true_or] at AU
              rw [ho]
              (refine wpAnyH_take (i := 0) (v := ?_) rfl (by kernel_rfl) (by kernel_rfl) (by kernel_rfl) (fun _ _ _ h => h) (Or.inl ⟨by rfl, ?_⟩) hHeld ?_; rotate_left; (· (intro w' hSw; go_simp; try with_reducible rfl)); (try simp only [List.getElem_toArray, List.getElem_cons_zero, List.getElem_cons_succ, Act.put, List.setIfInBounds_toArray, List.set_cons_zero, List.set_cons_succ])); (refine wpAnyH_take (i := 1) (v := ?_) rfl (by kernel_rfl) (by kernel_rfl) (by kernel_rfl) (fun _ _ _ h => h) (Or.inl ⟨by rfl, ?_⟩) hHeld ?_; rotate_left; (· (intro w' hSw; go_simp; try with_reducible rfl)); (try simp only [List.getElem_toArray, List.getElem_cons_zero, List.getElem_cons_succ, Act.put, List.setIfInBounds_toArray, List.set_cons_zero, List.set_cons_succ]))
              (refine wpAnyH_take (i := 2) (v := undef) rfl (by kernel_rfl) (by kernel_rfl) (by kernel_rfl) (fun _ _ _ h => h) (Or.inr ⟨by rfl, rfl⟩) hHeld ?_; (try simp only [List.getElem_toArray, List.getElem_cons_zero, List.getElem_cons_succ, Act.put, List.setIfInBounds_toArray, List.set_cons_zero, List.set_cons_succ])); (refine wpAnyH_take (i := 3) (v := undef) rfl (by kernel_rfl) (by kernel_rfl) (by kernel_rfl) (fun _ _ _ h => h) (Or.inr ⟨by rfl, rfl⟩) hHeld ?_; (try simp only [List.getElem_toArray, List.getElem_cons_zero, List.getElem_cons_succ, Act.put, List.setIfInBounds_toArray, List.set_cons_zero, List.set_cons_succ])); (refine wpAnyH_take (i := 4) (v := undef) rfl (by kernel_rfl) (by kernel_rfl) (by kernel_rfl) (fun _ _ _ h => h) (Or.inr ⟨by rfl, rfl⟩) hHeld ?_; (try simp only [List.getElem_toArray, List.getElem_cons_zero, List.getElem_cons_succ, Act.put, List.setIfInBounds_toArray, List.set_cons_zero, List.set_cons_succ])); (refine wpAnyH_take (i := 5) (v := undef) rfl (by kernel_rfl) (by kernel_rfl) (by kernel_rfl) (fun _ _ _ h => h) (Or.inr ⟨by rfl, rfl⟩) hHeld ?_; (try simp only [List.getElem_toArray, List.getElem_cons_zero, List.getElem_cons_succ, Act.put, List.setIfInBounds_toArray, List.set_cons_zero, List.set_cons_succ])); (refine wpAnyH_take (i := 6) (v := undef) rfl (by kernel_rfl) (by kernel_rfl) (by kernel_rfl) (fun _ _ _ h => h) (Or.inr ⟨by rfl, rfl⟩) hHeld ?_; (try simp only [List.getElem_toArray, List.getElem_cons_zero, List.getElem_cons_succ, Act.put, List.setIfInBounds_toArray, List.set_cons_zero, List.set_cons_succ])); (refine wpAnyH_take (i := 7) (v := undef) rfl (by kernel_rfl) (by kernel_rfl) (by kernel_rfl) (fun _ _ _ h => h) (Or.inr ⟨by rfl, rfl⟩) hHeld ?_; (try simp only [List.getElem_toArray, List.getElem_cons_zero, List.getElem_cons_succ, Act.put, List.setIfInBounds_toArray, List.set_cons_zero, List.set_cons_succ]))
              (refine wpAnyH_take (i := 8) (v := ?_) rfl (by kernel_rfl) (by kernel_rfl) (by kernel_rfl) (fun _ _ _ h => h) (Or.inl ⟨by rfl, ?_⟩) hHeld ?_; rotate_left; (· (intro w' hSw; go_simp; try with_reducible rfl)); (try simp only [List.getElem_toArray, List.getElem_cons_zero, List.getElem_cons_succ, Act.put, List.setIfInBounds_toArray, List.set_cons_zero, List.set_cons_succ])); (refine wpAnyH_take (i := 9) (v := ?_) rfl (by kernel_rfl) (by kernel_rfl) (by kernel_rfl) (fun _ _ _ h => h) (Or.inl ⟨by rfl, ?_⟩) hHeld ?_; rotate_left; (· (intro w' hSw; go_simp; try with_reducible rfl)); (try simp only [List.getElem_toArray, List.getElem_cons_zero, List.getElem_cons_succ, Act.put, List.setIfInBounds_toArray, List.set_cons_zero, List.set_cons_succ]))
              refine wpAnyH_done (by kernel_rfl) ?_ _
              obtain ⟨D1, D2, D3, D4, D5, D6⟩ := hHeld
              replace D3 := Lib.hid D3
              replace D4 := Lib.hid D4
              replace D5 := Lib.hid D5
              replace D6 := Lib.hid D6
              clear ho EQ hif
              go_wp2_with fail
              go_roundg (fs.length - (m + 1))
              case rel => exact ⟨m + 1, rfl, by omega, by go_num, by rw [AU], D1, D2, D3, D4, D5, D6⟩
              case measure => omega
            · have ho' : anyUp fs (behForm ns x) m = false := by simpa using ho
              rw [ho', Bool.false_or] at AU
              rw [ho']
              (refine wpAnyH_take (i := 0) (v := ?_) rfl (by kernel_rfl) (by kernel_rfl) (by kernel_rfl) (fun _ _ _ h => h) (Or.inl ⟨by rfl, ?_⟩) hHeld ?_; rotate_left; (· (intro w' hSw; go_simp; try with_reducible rfl)); (try simp only [List.getElem_toArray, List.getElem_cons_zero, List.getElem_cons_succ, Act.put, List.setIfInBounds_toArray, List.set_cons_zero, List.set_cons_succ])); (refine wpAnyH_take (i := 1) (v := ?_) rfl (by kernel_rfl) (by kernel_rfl) (by kernel_rfl) (fun _ _ _ h => h) (Or.inl ⟨by rfl, ?_⟩) hHeld ?_; rotate_left; (· (intro w' hSw; go_simp; try with_reducible rfl)); (try simp only [List.getElem_toArray, List.getElem_cons_zero, List.getElem_cons_succ, Act.put, List.setIfInBounds_toArray, List.set_cons_zero, List.set_cons_succ])); (refine wpAnyH_take (i := 2) (v := ?_) rfl (by kernel_rfl) (by kernel_rfl) (by kernel_rfl) (fun _ _ _ h => h) (Or.inl ⟨by rfl, ?_⟩) hHeld ?_; rotate_left; (· (intro w' hSw; go_simp; try with_reducible rfl)); (try simp only [List.getElem_toArray, List.getElem_cons_zero, List.getElem_cons_succ, Act.put, List.setIfInBounds_toArray, List.set_cons_zero, List.set_cons_succ])); (refine wpAnyH_take (i := 3) (v := ?_) rfl (by kernel_rfl) (by kernel_rfl) (by kernel_rfl) (fun _ _ _ h => h) (Or.inl ⟨by rfl, ?_⟩) hHeld ?_; rotate_left; (· (intro w' hSw; go_simp; try with_reducible rfl)); (try simp only [List.getElem_toArray, List.getElem_cons_zero, List.getElem_cons_succ, Act.put, List.setIfInBounds_toArray, List.set_cons_zero, List.set_cons_succ])); (refine wpAnyH_take (i := 4) (v := ?_) rfl (by kernel_rfl) (by kernel_rfl) (by kernel_rfl) (fun _ _ _ h => h) (Or.inl ⟨by rfl, ?_⟩) hHeld ?_; rotate_left; (· (intro w' hSw; go_simp; try with_reducible rfl)); (try simp only [List.getElem_toArray, List.getElem_cons_zero, List.getElem_cons_succ, Act.put, List.setIfInBounds_toArray, List.set_cons_zero, List.set_cons_succ]))
              (refine wpAnyH_take (i := 5) (v := _) rfl (by kernel_rfl) (by kernel_rfl) (by kernel_rfl) (fun _ _ _ h => h) (yieldsIf_load_mid (by rfl) 29 _ rfl _ _ rfl (ints (fs.getD m [])) _ (fun w' hSw => hSw.2.2.2.1.range rfl m hml) Try.underlying29 rfl (hif)) hHeld ?_; (try simp only [List.getElem_toArray, List.getElem_cons_zero, List.getElem_cons_succ, Act.put, List.setIfInBounds_toArray, List.set_cons_zero, List.set_cons_succ]))
              (refine wpAnyH_take (i := 6) (v := _) rfl (by kernel_rfl) (by kernel_rfl) (by kernel_rfl) (fun _ _ _ h => h) (yieldsIf_load_mid (by rfl) 29 _ rfl _ _ rfl (ints (behForm ns x)) _ (fun w' hSw => hSw.2.1.holds.range) Try.underlying29 rfl (hi6)) hHeld ?_; (try simp only [List.getElem_toArray, List.getElem_cons_zero, List.getElem_cons_succ, Act.put, List.setIfInBounds_toArray, List.set_cons_zero, List.set_cons_succ]))
              obtain ⟨av, hav⟩ : ∃ av, anyUp fs (behForm ns x) (m + 1) = av := ⟨_, rfl⟩
              have E := Lib.hid (AU.symm.trans hav)
              have HAV := Lib.hid hav
              clear hav
              refine wpAnyH_take (i := 7) (v := .bool av) rfl (by kernel_rfl) (by kernel_rfl) (by kernel_rfl) (fun _ _ _ h => h) (Or.inl ⟨by rfl, fun w' hSw => eqRackRun _ _ _ _ _ _ rfl _ _ rfl rfl HMR.out EQ.out av E.out⟩) hHeld ?_
              (try simp only [List.getElem_toArray, List.getElem_cons_zero, List.getElem_cons_succ, Act.put, List.setIfInBounds_toArray, List.set_cons_zero, List.set_cons_succ])
              (refine wpAnyH_take (i := 8) (v := ?_) rfl (by kernel_rfl) (by kernel_rfl) (by kernel_rfl) (fun _ _ _ h => h) (Or.inl ⟨by rfl, ?_⟩) hHeld ?_; rotate_left; (· (intro w' hSw; go_simp; try with_reducible rfl)); (try simp only [List.getElem_toArray, List.getElem_cons_zero, List.getElem_cons_succ, Act.put, List.setIfInBounds_toArray, List.set_cons_zero, List.set_cons_succ])); (refine wpAnyH_take (i := 9) (v := ?_) rfl (by kernel_rfl) (by kernel_rfl) (by kernel_rfl) (fun _ _ _ h => h) (Or.inl ⟨by rfl, ?_⟩) hHeld ?_; rotate_left; (· (intro w' hSw; go_simp; try with_reducible rfl)); (try simp only [List.getElem_toArray, List.getElem_cons_zero, List.getElem_cons_succ, Act.put, List.setIfInBounds_toArray, List.set_cons_zero, List.set_cons_succ]))
              refine wpAnyH_done (by kernel_rfl) ?_ _
              obtain ⟨D1, D2, D3, D4, D5, D6⟩ := hHeld
              replace D3 := Lib.hid D3
              replace D4 := Lib.hid D4
              replace D5 := Lib.hid D5
              replace D6 := Lib.hid D6
              clear ho EQ hif AU
              go_wp2_with fail
              go_roundg (fs.length - (m + 1))
              case rel => exact ⟨m + 1, rfl, by omega, by go_num, by rw [HAV.out], D1, D2, D3, D4, D5, D6⟩
              case measure => omega
          · obtain rfl : m = fs.length := by omega
            rw [anyUp_all]
            by_cases hmem : behForm ns x ∈ fs
            · rw [decide_eq_true hmem]
              rw [if_pos hmem] at D
              have DH := Lib.hid D
              have HFS := Lib.hid hfs
              have KR := Lib.hid (show Gr wr (w.heap.size + 1) 53 2 (.slice (some ⟨g, 0, none⟩) (dstUp ns (k + 1)).2.length cu) ((dstUp ns (k + 1)).2.map pr2) by rw [D]; exact QR.out)
              have KF := Lib.hid (show Gr wr (w.heap.size + 1) 29 24 (.slice (some ⟨f, 0, none⟩) (dstUp ns (k + 1)).1.length cf) (dstUp ns (k + 1)).1 by rw [D, hfs]; exact QS.out)
              clear D hmem QR QS
              go_wp2_with fail
              go_roundg (N - (k + 1))
              case rel => exact ⟨k + 1, g, cu, f, cf, rfl, by omega, by go_num, by rw [DH.out], by rw [DH.out, HFS.out], QH, KR, KF, QQ, GA, QB⟩
              case measure => omega
            · rw [decide_eq_false hmem]
              rw [if_neg hmem] at D
              have D1 : (dstUp ns (k + 1)).1 = fs ++ [behForm ns x] := by rw [D]
              have D2 : (dstUp ns (k + 1)).2 = (dstUp ns k).2 ++ [x] := by rw [D]
              have DH1 := Lib.hid D1
              have DH2 := Lib.hid D2
              have wlt := QH.lt
              clear D D1 D2 hmem hfs
              go_upto_region 16 with (first | (refine load_has rfl 29 _ rfl _ rfl ?_ 24 ?_ _ Try.underlying29 rfl ?_ ?_; rotate_left; (· (repeat (first | (with_reducible assumption) | ((with_reducible refine Has.box _ _ ?_ ?_) <;> (first | assumption | decide)) | (with_reducible refine Has.alloc ?_ _) | ((with_reducible refine Has.putOther ?_ _ _ ?_); rotate_left; omega; skip) | ((with_reducible refine Has.below ?_ ?_); rotate_left; assumption)))); (· kernel_rfl)) | (refine wpList_slice1 rfl 36 29 _ rfl 24 192 Try.underlying36 (by kernel_rfl) (by omega) (by omega) (behForm ns x) rfl hbf ?_) | (at_builtin; refine append_gr rfl _ _ 36 rfl (w.heap.size + 1) 29 24 192 Try.underlying36 (by kernel_rfl) (by omega) (by omega) _ fs.length fs rfl rfl (QS.out.alloc _) wr.heap.size 1 rfl (behForm ns x) (Has.box wr 29 hbf (by omega)) (by rw [size1]; omega) (by omega) ?_; intro f' cf' w7 hG hgrow hlie hlt))
              have hA1 := GA.out.1
              have hA2 := GA.out.2.1
              have hA3 := GA.out.2.2
              have JS := Lib.hid hG
              have hs7 := hgrow.size
              rw [size1] at hs7
              have JH := (QH.alloc (.cells (ints (behForm ns x)).toArray 29)).grownNo hgrow (fun e => by have e := Option.some.inj (show some w.heap.size = some f from e); omega)
              have JR := Lib.hid ((QR.out.alloc (.cells (ints (behForm ns x)).toArray 29)).kept hgrow (fun z hz e => by
                have hz := Option.some.inj (show some g = some z from hz)
                have e := Option.some.inj (show some f = some z from e)
                exact hA3 (by omega)))
              have JQ := Lib.hid ((QQ.out.alloc (.cells (ints (behForm ns x)).toArray 29)).kept hgrow (fun z hz e => hA2 (by rw [hz]; exact e.symm)))
              have JB : Hid (Kept w w7) := Lib.hid ((QB.out.alloc (.cells (ints (behForm ns x)).toArray 29)).grown hgrow (QB.out.alloc (.cells (ints (behForm ns x)).toArray 29)).size (fun j hj => by have hj := Option.some.inj (show some f = some j from hj); omega))
              have hQp := (QQ.out.own gp rfl).2
              have hQg := (QR.out.own g rfl)
              have hQf := (QS.out.own f rfl)
              have hf' : f' = f ∨ f' = wr.heap.size + 1 := by
                rcases hlie with h1 | h1
                · exact .inl (Option.some.inj (show some f = some f' from h1)).symm
                · rw [size1] at h1; exact .inr h1
              have RG7 := Lib.hid (by have := JQ.out.range hlen2.symm k hkN; rw [ATk] at this; exact this)
              have hA1' : gp ≠ g := fun e => hA1 (by rw [e]; rfl)
              have hA2' : gp ≠ f := fun e => hA2 (by rw [e]; rfl)
              clear hG hgrow hlie QH QF QR QS QQ QB
              go_wp2_with (first | (refine wpList_load_mid rfl 53 _ rfl gp (k * 2) rfl [.int .i64 (x.1 : Int), .int .i64 (x.2 : Int)] _ RG7.out Try.underlying53 rfl (by kernel_rfl) ?_) | (at_builtin; refine append_gr rfl _ _ 26 rfl (w.heap.size + 1) 53 2 16 Try.underlying26 (by kernel_rfl) (by omega) (by omega) _ (dstUp ns k).2.length ((dstUp ns k).2.map pr2) (by rw [List.length_map]) rfl (JR.out.alloc _) w7.heap.size 1 rfl (pr2 x) (Has.box (ns := pr2 x) (n := 2) w7 53 rfl (by omega)) (by rw [size1]; omega) (by omega) ?_; intro g' cu' w8 hG hgrow hlie hlt8))
              have hle1 : (dstUp ns (k + 1)).1.length = fs.length + 1 := by rw [DH1.out]; simp
              have hle2 : (dstUp ns (k + 1)).2.length = (dstUp ns k).2.length + 1 := by rw [DH2.out]; simp
              have LR := Lib.hid (show Gr w8 (w.heap.size + 1) 53 2 (.slice (some ⟨g', 0, none⟩) (dstUp ns (k + 1)).2.length cu') ((dstUp ns (k + 1)).2.map pr2) by rw [hle2, DH2.out, List.map_append]; exact hG)
              have LF0 := (JS.out.alloc (.cells (ints (pr2 x)).toArray 53)).kept hgrow (fun z hz e => by
                have hz := Option.some.inj (show some f' = some z from hz)
                have e := Option.some.inj (show some g = some z from e)
                rcases hf' with h1 | h1
                · exact hA3 (by omega)
                · omega)
              have LF := Lib.hid (show Gr w8 (w.heap.size + 1) 29 24 (.slice (some ⟨f', 0, none⟩) (dstUp ns (k + 1)).1.length cf') (dstUp ns (k + 1)).1 by rw [hle1, DH1.out]; exact LF0)
              have LH := (JH.alloc (.cells (ints (pr2 x)).toArray 53)).grownNo hgrow (fun e => by have e := Option.some.inj (show some w.heap.size = some g from e); omega)
              have LQ := Lib.hid ((JQ.out.alloc (.cells (ints (pr2 x)).toArray 53)).kept hgrow (fun z hz e => by
                have hz := Option.some.inj (show some gp = some z from hz)
                have e := Option.some.inj (show some g = some z from e)
                exact hA1' (by omega)))
              have LB : Hid (Kept w w8) := Lib.hid ((JB.out.alloc (.cells (ints (pr2 x)).toArray 53)).grown hgrow (JB.out.alloc (.cells (ints (pr2 x)).toArray 53)).size (fun j hj => by have hj := Option.some.inj (show some g = some j from hj); omega))
              have hg' : g' = g ∨ g' = w7.heap.size + 1 := by
                rcases hlie with h1 | h1
                · exact .inl (Option.some.inj (show some g = some g' from h1)).symm
                · rw [size1] at h1; exact .inr h1
              have LA : Hid ((Value.slice (some ⟨gp, 0, none⟩) N cap).ownBlock ≠ some g' ∧ (Value.slice (some ⟨gp, 0, none⟩) N cap).ownBlock ≠ some f' ∧ g' ≠ f') := Lib.hid ⟨fun e => by
                  have e := Option.some.inj (show some gp = some g' from e)
                  rcases hg' with h1 | h1 <;> omega, fun e => by
                  have e := Option.some.inj (show some gp = some f' from e)
                  rcases hf' with h1 | h1 <;> omega, fun e => by
                  rcases hg' with h1 | h1 <;> rcases hf' with h2 | h2 <;> omega⟩
              clear hG hgrow hlie LF0 JS JH JR JQ JB
              go_wp2_with fail
              go_roundg (N - (k + 1))
              case rel => exact ⟨k + 1, g', cu', f', cf', rfl, by omega, by go_num, by rw [hle2], by rw [hle1], LH, LR, LF, LQ, LA, LB⟩
              case measure => omega
        -- ROUNDEND
      · obtain rfl : k = N := by omega
        go_wp2_with fail
        go_ret2
        refine ⟨_, by rw [HV.out]; rfl, ?_, GB.out⟩
        rw [E1.out, E2.out]
        exact (GR.out.mono (by omega)).toPrs
  · have hf : vR ns = false := by simpa using hv
    have E1 := Lib.hid (show dstN ns = 0 by unfold dstN; rw [if_neg hv])
    have E2 := Lib.hid (show dstFl ns = [] by unfold dstFl; rw [if_neg hv])
    rw [hf]
    have HV := Lib.hid hf
    clear hf hv
    go_wp2_with fail
    go_ret2
    exact ⟨.slice (some ⟨w.heap.size + 1, 0, none⟩) 0 0, by rw [HV.out]; rfl, by rw [E1.out, E2.out]; exact (Gr.toPrs (l := []) (R0.out.mono (by omega))), HB.out⟩
end Go.Proofs.Ytbnffpcgcchnaab.base
