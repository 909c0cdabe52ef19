/-
  The five functions of deals on the model's side, walked.
-/
import Derived.Test.YtemiljokdedidaaDelS
namespace Go.Proofs.Ytemiljokdedidaa.base
open Go.ChangeShapes Go.WideShapes Go.ChangeAt Go.RowKit
set_option linter.unusedVariables false
set_option linter.unusedSimpArgs false
set_option maxHeartbeats 3200000 in
set_option maxRecDepth 100000 in
theorem l9Same_any (ms : List Int) (hm : ms.length = 6) (hmm : ∀ i, i < 6 → 0 ≤ ms.getD i 0 ∧ ms.getD i 0 ≤ 4) : ∀ (n k : Nat) (s : List Int) (w : World), k + n = 6 → s.length = 6 → (∀ j, j < 6 → 0 ≤ s.getD j 0 ∧ s.getD j 0 ≤ 24) →
    Calls Try.prog 38 #[row ms, row s, .int .i64 (k : Nat)] w fun e w' => e = .returned (.int .i64 (sm ms k s : Nat)) ∧ Kept w w' := by
  intro n
  induction n with
  | zero =>
    intro k s w hk h6 hs
    obtain rfl : k = 6 := by omega
    have HB := Lib.hid (((kept_refl w).alloc (.cells (ints ms).toArray 22)).alloc (.cells (ints s).toArray 22))
    have E := Lib.hid (sm_end ms s hm)
    rw [row_ints, row_ints]
    go_enter Try.func38, Try.ntmps38
    go_wp2_with fail
    go_ret
    exact ⟨by rw [E.out]; rfl, HB.out⟩
  | succ n ih =>
    intro k s w hk h6 hs
    have hk6 : k < 6 := by omega
    have hki : (k : Int) < 6 := by omega
    have ke : ((k : Int) == 6) = false := by simp; omega
    have HB := Lib.hid (((kept_refl w).alloc (.cells (ints ms).toArray 22)).alloc (.cells (ints s).toArray 22))
    have G := (Has.box w 22 hm (by omega)).alloc (.cells (ints s).toArray 22)
    have H := (Has.box (w.alloc (.cells (ints ms).toArray 22)) 22 h6 (by omega)).at (size1 _ _)
    have c0 := G.cell k hk6
    have mo := hmm k hk6
    have STEP := Lib.hid (sm_step ms s k hm hk6)
    have HS := Lib.hid hs
    have H6 := Lib.hid h6
    have HM := Lib.hid hm
    have IH := Lib.hid (show ∀ (t : List Int) (V : World), t.length = 6 → (∀ j, j < 6 → 0 ≤ t.getD j 0 ∧ t.getD j 0 ≤ 24) → Calls Try.prog 38 #[row ms, row t, .int .i64 ((k : Int) + 1)] V fun e w' => e = .returned (.int .i64 (sm ms (k + 1) t : Nat)) ∧ Kept V w' from
      fun t V h1 h2 => ih (k + 1) t V (by omega) h1 h2)
    have wk : IntKind.i64.wrap ((k : Int) + 1) = (k : Int) + 1 := IntWalk.i64_in _ (by omega)
    clear ih hk hs
    rw [row_ints, row_ints]
    generalize hx : ms.getD k 0 = x at *
    by_cases h0 : x = 0
    · subst h0
      have ER := Lib.hid (show sm ms k s = sm ms (k + 1) s by rw [STEP.out, if_pos rfl])
      clear STEP
      go_enter Try.func38, Try.ntmps38
      go_wp2_with (refine load_has rfl 22 _ rfl _ rfl ?_ 6 ?_ _ Try.underlying22 rfl ?_ ?_; rotate_left; (· (repeat (first | (with_reducible assumption) | ((with_reducible refine Has.box _ _ ?_ ?_) <;> (first | assumption | decide)) | (with_reducible refine Has.alloc ?_ _) | ((with_reducible refine Has.putOther ?_ _ _ ?_); rotate_left; omega; skip) | ((with_reducible refine Has.below ?_ ?_); rotate_left; assumption)))); (· kernel_rfl))
      refine (IH.out s _ H6.out HS.out).mono ?_
      rintro e w3 ⟨rfl, bq⟩
      have HB2 := Lib.hid (HB.out.call bq)
      go_wp2_with fail
      go_ret
      exact ⟨by rw [ER.out]; rfl, HB2.out⟩
    · have x0 : (x == 0) = false := by simpa using h0
      obtain ⟨f, hf⟩ : ∃ f : Nat → Nat, f = fun c => if x ≤ s.getD c 0 then sm ms (k + 1) (s.set c (s.getD c 0 - x)) else 0 := ⟨_, rfl⟩
      have ER := Lib.hid (show sm ms k s = fiveSum f 5 by rw [STEP.out, if_neg h0, hf])
      have FY := Lib.hid (show ∀ c, x ≤ s.getD c 0 → f c = sm ms (k + 1) (s.set c (s.getD c 0 - x)) from fun c h => by rw [hf]; exact if_pos h)
      have FN := Lib.hid (show ∀ c, ¬ x ≤ s.getD c 0 → f c = 0 from fun c h => by rw [hf]; exact if_neg h)
      have FB := Lib.hid (show ∀ c, c ≤ 5 → fiveSum f c ≤ 78125 from fun c hc => fiveSum_in f (fun d => by rw [hf]; dsimp only; split; exact sm_le ms _ _ hm; omega) c hc)
      have FC := Lib.hid (show ∀ c, f c ≤ 15625 from fun d => by rw [hf]; dsimp only; split; exact sm_le ms _ _ hm; omega)
      have HX := Lib.hid hx
      clear STEP hf h0 hx
      go_enter Try.func38, Try.ntmps38
      go_wp2_with fail
      clear c0
      generalize (w.alloc (.cells (ints ms).toArray 22)).alloc (.cells (ints s).toArray 22) = W at *
      go_loopw [7, 8] (fun y z wr => ∃ d : Nat, 1 ≤ d ∧ d ≤ 6 ∧ z = .int .i64 d ∧ y = .int .i64 (fiveSum f (d - 1) : Nat) ∧ Has wr (w.heap.size + 1) s 6 ∧ Has wr w.heap.size ms 6 ∧ Hid (Kept w wr)) (fun _ z _ => 7 - (intOf z).toNat)
      case atStart => exact ⟨1, by omega, by omega, rfl, rfl, H, G, HB⟩
      case round =>
        clear H G HB
        obtain ⟨d, hd1, hd, rfl, rfl, H, G, HB⟩ := hrel
        by_cases hlt : d < 6
        · have hci : decide ((d : Int) ≤ 5) = true := decide_eq_true (by omega)
          have hdi : (d : Int) < 6 := by omega
          have ES := Lib.hid (show fiveSum f (d + 1 - 1) = fiveSum f (d - 1) + f d by
            obtain ⟨e, rfl⟩ : ∃ e, d = e + 1 := ⟨d - 1, by omega⟩
            rfl)
          have fb := FB.out (d - 1) (by omega)
          have fc := FC.out d
          have hs1 := HS.out d hlt
          obtain ⟨y, hy⟩ : ∃ y, s.getD d 0 = y := ⟨_, rfl⟩
          rw [hy] at hs1
          have HY := Lib.hid hy
          have c0 := H.cellX (k := d) (x := y) (by omega) HY.out
          have c1 := G.cellX (k := k) (x := x) hk6 HX.out
          generalize fiveSum f (d - 1) = z at *
          clear hy
          by_cases hxy : x ≤ y
          · have g1 : decide (x ≤ y) = true := decide_eq_true hxy
            have K9 := Lib.hid (sub_keep (m := x) H6.out HS.out mo.1 d hlt (by rw [HY.out]; exact hxy))
            rw [HY.out] at K9
            have fy := FY.out d (by rw [HY.out]; exact hxy)
            rw [HY.out] at fy
            rw [fy] at ES fc
            clear fy
            go_wp2_with fail
            go_quiet (fail)
            have HD := H.drewN nq
            have GD := G.drewN nq
            have BD := Lib.hid (HB.out.drewN nq)
            clear H G HB c0 c1
            generalize hWQ : wr.drewN nq = wq at *
            clear hWQ
            have R := Has.box wq 22 h6 (by omega)
            have H2 := HD.alloc (.cells (ints s).toArray 22)
            have G2 := GD.alloc (.cells (ints s).toArray 22)
            have HB2 := Lib.hid (BD.out.alloc (.cells (ints s).toArray 22))
            have hww := BD.out.size
            have hwl := HD.lt
            have hbl := GD.lt
            go_wp2_with (first | (refine store_new rfl 22 _ _ rfl _ _ _ rfl _ rfl _ rfl rfl ?_ ?_ ?_; (· (first | assumption | rfl)); (· kernel_rfl)) | (refine load_has rfl 22 _ rfl _ rfl ?_ 6 ?_ _ Try.underlying22 rfl ?_ ?_; rotate_left; (· (repeat (first | (with_reducible assumption) | ((with_reducible refine Has.box _ _ ?_ ?_) <;> (first | assumption | decide)) | (with_reducible refine Has.alloc ?_ _) | ((with_reducible refine Has.putOther ?_ _ _ ?_); rotate_left; omega; skip) | ((with_reducible refine Has.below ?_ ?_); rotate_left; assumption)))); (· kernel_rfl)))
            clear HD GD BD
            generalize wq.alloc (.cells (ints s).toArray 22) = V at *
            obtain ⟨rb, hrb⟩ : ∃ rb, wq.heap.size = rb := ⟨_, rfl⟩
            rw [hrb] at R hww hwl hbl ⊢
            clear hrb
            refine wp_region_still_tail 9 (by kernel_rfl) (by kernel_rfl) ?_
            simp only [List.take_succ_cons, List.take_zero, List.drop_succ_cons, List.drop_zero]
            generalize hW : ({ heap := V.heap, tape := V.tape, drawn := V.drawn + 1, os := V.os, output := V.output } : World) = wd
            have DR : Has wd rb s 6 := by rw [← hW]; exact R.drew
            have DH : Has wd (w.heap.size + 1) s 6 := by rw [← hW]; exact H2.drew
            have DG : Has wd w.heap.size ms 6 := by rw [← hW]; exact G2.drew
            have DB : Kept w wd := by rw [← hW]; exact HB2.out.drewN 1
            clear hW R H2 G2 HB2
            have c0 := DR.cellX (k := d) (x := y) (by omega) HY.out
            have c1 := DG.cellX (k := k) (x := x) hk6 HX.out
            have f0 := DR.free d (by omega)
            have S1 := DR.set d (y - x) (by omega)
            have S2 := DH.setOther (b' := rb) d (.int .i64 (y - x)) (by omega)
            have S3 := DG.setOther (b' := rb) d (.int .i64 (y - x)) (by omega)
            have S4 := Lib.hid (DB.set (b := rb) (by omega) d (.int .i64 (y - x)))
            have l6 : (s.set d (y - x)).length = 6 := by rw [List.length_set]; exact H6.out
            have wy : IntKind.i64.wrap (y - x) = y - x := IntWalk.i64_in _ (by omega)
            clear DR DH DG DB
            obtain ⟨t, ht⟩ : ∃ t, s.set d (y - x) = t := ⟨_, rfl⟩
            rw [ht] at S1 l6 ES fc K9
            clear ht
            repeat still_step
            refine wpStill_nil ?_
            go_wp2_with (refine load_has rfl 22 _ rfl _ rfl ?_ 6 ?_ _ Try.underlying22 rfl ?_ ?_; rotate_left; (· (repeat (first | (with_reducible assumption) | ((with_reducible refine Has.box _ _ ?_ ?_) <;> (first | assumption | decide)) | (with_reducible refine Has.alloc ?_ _) | ((with_reducible refine Has.putOther ?_ _ _ ?_); rotate_left; omega; skip) | ((with_reducible refine Has.below ?_ ?_); rotate_left; assumption)))); (· kernel_rfl))
            refine (IH.out t _ l6 K9.out).mono ?_
            rintro e w3 ⟨rfl, bq⟩
            replace S2 := S2.below bq
            replace S3 := S3.below bq
            replace S4 := Lib.hid (S4.out.call bq)
            clear S1 bq c0 c1 f0
            generalize sm ms (k + 1) t = v at *
            have wz : IntKind.i64.wrap ((z : Int) + (v : Int)) = ((z + v : Nat) : Int) := by rw [IntWalk.i64_in _ (by omega)]; omega
            obtain ⟨u, hu⟩ : ∃ u, u = z + v := ⟨_, rfl⟩
            rw [← hu] at wz ES
            clear hu
            go_wp2_with fail
            go_roundw
            case rel => exact ⟨d + 1, by omega, by omega, by go_num, by rw [ES.out], S2, S3, S4⟩
            case measure => simp [intOf]; omega
          · have g1 : decide (x ≤ y) = false := decide_eq_false hxy
            have fn := FN.out d (by rw [HY.out]; omega)
            rw [fn, Nat.add_zero] at ES
            clear fn
            go_wp2_with fail
            go_quiet (fail)
            have HD := H.drewN nq
            have GD := G.drewN nq
            have BD := Lib.hid (HB.out.drewN nq)
            go_wp2_with fail
            go_roundw
            case rel => exact ⟨d + 1, by omega, by omega, by go_num, by rw [ES.out]; rfl, HD, GD, BD⟩
            case measure => simp [intOf]; omega
        · obtain rfl : d = 6 := by omega
          go_wp2_with fail
          go_ret
          exact ⟨by rw [ER.out]; rfl, HB.out⟩

set_option maxHeartbeats 800000 in
set_option maxRecDepth 100000 in
theorem specCountDeals (ms cs : List Int) (w : World) (h1 : ms.length = 6) (h2 : cs.length = 6) :
    Calls Try.prog 21 #[row ms, row cs] w fun e w' => e = .returned (.tuple #[.int .i64 (dealsA ms cs : Nat), .bool (dV ms cs)]) ∧ Kept w w' := by
  have H1 := (Has.box w 22 h1 (by omega)).alloc (.cells (ints cs).toArray 22)
  have H2 := (Has.box (w.alloc (.cells (ints ms).toArray 22)) 22 h2 (by omega)).at (size1 _ _)
  have HB := Lib.hid (((kept_refl w).alloc (.cells (ints ms).toArray 22)).alloc (.cells (ints cs).toArray 22))
  rw [row_ints, row_ints]
  go_enter Try.func21, Try.ntmps21
  go_wp2_with (refine load_has rfl 22 _ rfl _ rfl ?_ 6 ?_ _ Try.underlying22 rfl ?_ ?_; rotate_left; (· (repeat (first | (with_reducible assumption) | ((with_reducible refine Has.box _ _ ?_ ?_) <;> (first | assumption | decide)) | (with_reducible refine Has.alloc ?_ _) | ((with_reducible refine Has.putOther ?_ _ _ ?_); rotate_left; omega; skip) | ((with_reducible refine Has.below ?_ ?_); rotate_left; assumption)))); (· kernel_rfl))
  refine (l9Deal_any ms cs _ h1 h2).mono ?_
  rintro e w1 ⟨z, rfl, hz, b1⟩
  have H3 := H2.below b1
  have HB1 := Lib.hid (HB.out.call b1)
  clear H1 H2 HB b1
  by_cases hv : dV ms cs = true
  · obtain ⟨L, F⟩ := dealFacts hv
    have E := Lib.hid (show dealsA ms cs = ordA cs ∧ dV ms cs = true from ⟨by unfold dealsA; rw [if_pos hv], hv⟩)
    have cp := F.cpl
    have ls := F.small
    have KW := Lib.hid (fun W => l7Ways_core cs W h2 (fun j hj => (F.cnt j hj).1) F.zero (step24 cs h2 (fun j hj => (F.cnt j hj).1) F.zero (by omega)) (by omega))
    rw [hv]
    clear hv hz F cp ls
    go_wp2_with (refine load_has rfl 22 _ rfl _ rfl ?_ 6 ?_ _ Try.underlying22 rfl ?_ ?_; rotate_left; (· (repeat (first | (with_reducible assumption) | ((with_reducible refine Has.box _ _ ?_ ?_) <;> (first | assumption | decide)) | (with_reducible refine Has.alloc ?_ _) | ((with_reducible refine Has.putOther ?_ _ _ ?_); rotate_left; omega; skip) | ((with_reducible refine Has.below ?_ ?_); rotate_left; assumption)))); (· kernel_rfl))
    refine (KW.out _).mono ?_
    rintro e w2 ⟨rfl, b2⟩
    have HB2 := Lib.hid (HB1.out.call b2)
    go_wp2_with fail
    go_ret2
    exact ⟨by rw [E.out.1, E.out.2]; rfl, HB2.out⟩
  · have hf : dV ms cs = false := by simpa using hv
    have E := Lib.hid (show dealsA ms cs = 0 ∧ dV ms cs = false from ⟨by unfold dealsA; rw [if_neg hv], hf⟩)
    rw [hf]
    clear hf hv hz
    go_wp2_with fail
    go_ret2
    exact ⟨by rw [E.out.1, E.out.2]; rfl, HB1.out⟩

set_option maxHeartbeats 1600000 in
set_option maxRecDepth 100000 in
theorem specDealSame (ms cs : List Int) (w : World) (h1 : ms.length = 6) (h2 : cs.length = 6) :
    Calls Try.prog 15 #[row ms, row cs] w fun e w' => e = .returned (.tuple #[.agg (ints (sameA ms cs)).toArray, .bool (dV ms cs)]) ∧ Kept w w' := by
  have H1 := ((Has.box w 22 h1 (by omega)).alloc (.cells (ints cs).toArray 22)).alloc (.cells #[.int .i64 0, .int .i64 0] 23)
  have H2 := ((Has.box (w.alloc (.cells (ints ms).toArray 22)) 22 h2 (by omega)).at (size1 _ _)).alloc (.cells #[.int .i64 0, .int .i64 0] 23)
  have Z := (Has.zero2v ((w.alloc (.cells (ints ms).toArray 22)).alloc (.cells (ints cs).toArray 22)) 23).at (c := w.heap.size + 1 + 1) (by simp)
  have HB := Lib.hid ((((kept_refl w).alloc (.cells (ints ms).toArray 22)).alloc (.cells (ints cs).toArray 22)).alloc (.cells #[.int .i64 0, .int .i64 0] 23))
  rw [row_ints, row_ints]
  go_enter Try.func15, Try.ntmps15
  go_wp2_with (refine load_has rfl 22 _ rfl _ rfl ?_ 6 ?_ _ Try.underlying22 rfl ?_ ?_; rotate_left; (· (repeat (first | (with_reducible assumption) | ((with_reducible refine Has.box _ _ ?_ ?_) <;> (first | assumption | decide)) | (with_reducible refine Has.alloc ?_ _) | ((with_reducible refine Has.putOther ?_ _ _ ?_); rotate_left; omega; skip) | ((with_reducible refine Has.below ?_ ?_); rotate_left; assumption)))); (· kernel_rfl))
  refine (l9Deal_any ms cs _ h1 h2).mono ?_
  rintro e w1 ⟨zz, rfl, hzz, b1⟩
  have H3 := H1.below b1
  have H4 := H2.below b1
  have Z1 := Z.below b1
  have HB1 := Lib.hid (HB.out.call b1)
  clear H1 H2 Z HB b1 hzz
  by_cases hv : dV ms cs = true
  rotate_left
  · have O := Lib.hid (sameA_not hv)
    have hf : dV ms cs = false := by simpa using hv
    rw [hf]
    clear hv hf
    have S1 := Lib.hid (Z1.putAll z2 rfl)
    have S2 := Lib.hid (HB1.out.puts (b := w.heap.size + 1 + 1) (by omega) 0 (ints z2))
    clear HB1
    go_wp2_with (first | (refine build_law rfl 23 rfl _ build2z ?_) | (refine store_at rfl 23 _ _ rfl _ _ rfl rfl ?_ 2 ?_ ?_ ?_ ?_; rotate_left; (· (repeat (first | (with_reducible assumption) | ((with_reducible refine Has.box _ _ ?_ ?_) <;> (first | assumption | decide)) | (with_reducible refine Has.alloc ?_ _) | ((with_reducible refine Has.putOther ?_ _ _ ?_); rotate_left; omega; skip) | ((with_reducible refine Has.below ?_ ?_); rotate_left; assumption)))); (· (first | assumption | rfl)); (· kernel_rfl)))
    exact bodyPost_ret (res_has1 rfl _ _ (w.heap.size + 1 + 1) z2 2 _ (.bool false) rfl rfl S1.out Try.underlying23 rfl (by kernel_rfl)) rfl ⟨by rw [O.out.1, O.out.2], S2.out⟩
  obtain ⟨L, F⟩ := dealFacts hv
  have O := Lib.hid (show dV ms cs = true ∧ sameA ms cs = frac (sm ms 0 cs) (ordA cs) from ⟨hv, by unfold sameA sm; rw [if_pos hv]; rfl⟩)
  have o1 := ordA_24 h2 (fun j hj => (F.cnt j hj).1) F.zero (by have := F.cpl; have := F.small; omega)
  have o2 : 0 < ordA cs := ordA_pos (fun j hj => (F.cnt j hj).1)
  have o3 := sm_le ms cs 0 h1
  have p24 : plUp cs 6 ≤ 24 := by have := F.cpl; have := F.small; omega
  have KP := Lib.hid (show ∀ V : World, Calls Try.prog 38 #[row ms, row cs, .int .i64 0] V fun e w' => e = .returned (.int .i64 (sm ms 0 cs : Nat)) ∧ Kept V w' from fun V => l9Same_any ms h1 F.many 6 0 cs V (by omega) h2 F.cnt)
  have KW := Lib.hid (fun W => l7Ways_core cs W h2 (fun j hj => (F.cnt j hj).1) F.zero (step24 cs h2 (fun j hj => (F.cnt j hj).1) F.zero p24) p24)
  have KF := Lib.hid (fun W => l7Cut_any (sm ms 0 cs) (ordA cs) W o2 (by omega) (by omega))
  have fl := frac_len (sm ms 0 cs) (ordA cs)
  have li : (ints cs).length = 6 := by rw [ints_len]; exact h2
  have hi1 : (Try.prog.info? 22).map (·.size) = some (ints cs).length := by rw [li]; kernel_rfl
  have lm : (ints ms).length = 6 := by rw [ints_len]; exact h1
  have hi3 : (Try.prog.info? 22).map (·.size) = some (ints ms).length := by rw [lm]; kernel_rfl
  have lf : (ints (frac (sm ms 0 cs) (ordA cs))).length = 2 := rfl
  have hi2 : (Try.prog.info? 23).map (·.size) = some (ints (frac (sm ms 0 cs) (ordA cs))).length := by rw [lf]; kernel_rfl
  rw [hv]
  clear hv F o1 o2 o3 p24
  generalize sm ms 0 cs = x at *
  generalize ordA cs = y at *
  go_wp2_with fail
  refine wp_region_held_drew (S := fun w' => Has w' w.heap.size ms 6 ∧ Has w' (w.heap.size + 1) cs 6 ∧ (∃ zs, Has w' (w.heap.size + 1 + 1) zs 2) ∧ Kept w w') (by kernel_rfl) ⟨H3.drew, H4.drew, ⟨_, Z1.drew⟩, HB1.out.drewN 1⟩ (fun hHeld => ?_)
  clear H3 H4 Z1 HB1
  generalize World.drew _ = WD at *
  (refine wpAnyH_take (i := 0) (v := _) rfl (by kernel_rfl) (by kernel_rfl) (by kernel_rfl) (fun _ _ _ h => h) (yieldsIf_load_mid (by rfl) 22 _ rfl _ _ rfl (ints ms) _ (fun w' hSw => hSw.1.holds.range) Try.underlying22 rfl (hi3)) hHeld ?_; (try simp only [List.getElem_toArray, List.getElem_cons_zero, List.getElem_cons_succ, Act.put, List.setIfInBounds_toArray, List.set_cons_zero, List.set_cons_succ]))
  (refine wpAnyH_take (i := 1) (v := _) rfl (by kernel_rfl) (by kernel_rfl) (by kernel_rfl) (fun _ _ _ h => h) (yieldsIf_load_mid (by rfl) 22 _ rfl _ _ rfl (ints cs) _ (fun w' hSw => hSw.2.1.holds.range) Try.underlying22 rfl (hi1)) hHeld ?_; (try simp only [List.getElem_toArray, List.getElem_cons_zero, List.getElem_cons_succ, Act.put, List.setIfInBounds_toArray, List.set_cons_zero, List.set_cons_succ]))
  (refine wpAnyH_take (i := 3) (v := _) rfl (by kernel_rfl) (by kernel_rfl) (by kernel_rfl) (fun _ _ _ h => h) (yieldsIf_load_mid (by rfl) 22 _ rfl _ _ rfl (ints cs) _ (fun w' hSw => hSw.2.1.holds.range) Try.underlying22 rfl (hi1)) hHeld ?_; (try simp only [List.getElem_toArray, List.getElem_cons_zero, List.getElem_cons_succ, Act.put, List.setIfInBounds_toArray, List.set_cons_zero, List.set_cons_succ]))
  (refine wpAnyH_ready (rs := [2]) (by kernel_rfl) (by simp) ?_; refine AllReadyH.cons (o := _) rfl (fun K hK => ?_) AllReadyH.nil; (simp only [List.getElem_toArray, List.getElem_cons_zero, List.getElem_cons_succ, Region.wanted, if_true]))
  go_simp
  refine (KP.out _).mono ?_
  rintro e w3 ⟨rfl, bq⟩
  dsimp only
  (try simp only [List.getElem_toArray, List.getElem_cons_zero, List.getElem_cons_succ, Act.put, List.setIfInBounds_toArray, List.set_cons_zero, List.set_cons_succ])
  refine hK.out _ _ ⟨hHeld.1.below bq, hHeld.2.1.below bq, ⟨_, hHeld.2.2.1.choose_spec.below bq⟩, hHeld.2.2.2.call bq⟩ (fun hHeld => ?_)
  clear hK K bq
  (refine wpAnyH_ready (rs := [4]) (by kernel_rfl) (by simp) ?_; refine AllReadyH.cons (o := _) rfl (fun K hK => ?_) AllReadyH.nil; (simp only [List.getElem_toArray, List.getElem_cons_zero, List.getElem_cons_succ, Region.wanted, if_true]))
  go_simp
  refine (KW.out _).mono ?_
  rintro e w4 ⟨rfl, bq⟩
  dsimp only
  (try simp only [List.getElem_toArray, List.getElem_cons_zero, List.getElem_cons_succ, Act.put, List.setIfInBounds_toArray, List.set_cons_zero, List.set_cons_succ])
  refine hK.out _ _ ⟨hHeld.1.below bq, hHeld.2.1.below bq, ⟨_, hHeld.2.2.1.choose_spec.below bq⟩, hHeld.2.2.2.call bq⟩ (fun hHeld => ?_)
  clear hK K bq
  (refine wpAnyH_ready (rs := [5]) (by kernel_rfl) (by simp) ?_; refine AllReadyH.cons (o := _) rfl (fun K hK => ?_) AllReadyH.nil; (simp only [List.getElem_toArray, List.getElem_cons_zero, List.getElem_cons_succ, Region.wanted, if_true]))
  go_simp
  refine (KF.out _).mono ?_
  rintro e w5 ⟨rfl, bq⟩
  dsimp only
  (try simp only [List.getElem_toArray, List.getElem_cons_zero, List.getElem_cons_succ, Act.put, List.setIfInBounds_toArray, List.set_cons_zero, List.set_cons_succ])
  refine hK.out _ _ ⟨hHeld.1.below bq, hHeld.2.1.below bq, ⟨_, hHeld.2.2.1.choose_spec.below bq⟩, hHeld.2.2.2.call bq⟩ (fun hHeld => ?_)
  clear hK K bq
  have S0 := hHeld.2.2.1.choose_spec
  have S1 := S0.putAll (frac x y) fl
  have S2 := hHeld.2.2.2.puts (b := w.heap.size + 1 + 1) (by omega) 0 (ints (frac x y))
  have S3 := hHeld.1.putOther (b' := w.heap.size + 1 + 1) 0 (ints (frac x y)) (by omega)
  have S4 := hHeld.2.1.putOther (b' := w.heap.size + 1 + 1) 0 (ints (frac x y)) (by omega)
  (refine wpAnyH_ready (rs := [6]) (by kernel_rfl) (by simp) ?_; refine AllReadyH.cons (o := _) rfl (fun K hK => ?_) AllReadyH.nil; (simp only [List.getElem_toArray, List.getElem_cons_zero, List.getElem_cons_succ, Region.wanted, if_true]); refine wp_store_mid _ _ _ rfl _ _ (ints (frac x y)).toArray rfl rfl (by simpa [lf] using S0.there) (by simpa [lf] using hi2) (all_oneCell_toArray (ints_one _)) ?_; (try simp only [List.getElem_toArray, List.getElem_cons_zero, List.getElem_cons_succ, Act.put, List.setIfInBounds_toArray, List.set_cons_zero, List.set_cons_succ, List.toList_toArray]); refine hK.out _ _ (⟨S3, S4, ⟨_, S1⟩, S2⟩) (fun hHeld => ?_); clear hK K)
  (refine wpAnyH_take (i := 7) (v := ?_) rfl (by kernel_rfl) (by kernel_rfl) (by kernel_rfl) (fun _ _ _ h => h) (Or.inl ⟨by rfl, ?_⟩) hHeld ?_; rotate_left; (· (intro w' hSw; go_simp; try with_reducible rfl)); (try simp only [List.getElem_toArray, List.getElem_cons_zero, List.getElem_cons_succ, Act.put, List.setIfInBounds_toArray, List.set_cons_zero, List.set_cons_succ]))
  refine wpAnyH_done (by kernel_rfl) ?_ _
  clear hHeld
  go_wp2_with fail
  exact bodyPost_ret (res_has1 rfl _ _ (w.heap.size + 1 + 1) (frac x y) 2 _ (.bool true) rfl rfl S1 Try.underlying23 rfl (by kernel_rfl)) rfl ⟨by rw [O.out.1, O.out.2], S2⟩

set_option maxHeartbeats 1600000 in
set_option maxRecDepth 100000 in
theorem specDealTop (ms cs : List Int) (i c : Int) (w : World) (h1 : ms.length = 6) (h2 : cs.length = 6) :
    Calls Try.prog 17 #[row ms, row cs, .int .i64 i, .int .i64 c] w fun e w' => e = .returned (.tuple #[.agg (ints (dtopA ms cs i c)).toArray, .bool (dtopOk ms cs i c)]) ∧ Kept w w' := by
  have H1 := ((Has.box w 22 h1 (by omega)).alloc (.cells (ints cs).toArray 22)).alloc (.cells #[.int .i64 0, .int .i64 0] 23)
  have H2 := ((Has.box (w.alloc (.cells (ints ms).toArray 22)) 22 h2 (by omega)).at (size1 _ _)).alloc (.cells #[.int .i64 0, .int .i64 0] 23)
  have Z := (Has.zero2v ((w.alloc (.cells (ints ms).toArray 22)).alloc (.cells (ints cs).toArray 22)) 23).at (c := w.heap.size + 1 + 1) (by simp)
  have HB := Lib.hid ((((kept_refl w).alloc (.cells (ints ms).toArray 22)).alloc (.cells (ints cs).toArray 22)).alloc (.cells #[.int .i64 0, .int .i64 0] 23))
  rw [row_ints, row_ints]
  go_enter Try.func17, Try.ntmps17
  go_wp2_with (refine load_has rfl 22 _ rfl _ rfl ?_ 6 ?_ _ Try.underlying22 rfl ?_ ?_; rotate_left; (· (repeat (first | (with_reducible assumption) | ((with_reducible refine Has.box _ _ ?_ ?_) <;> (first | assumption | decide)) | (with_reducible refine Has.alloc ?_ _) | ((with_reducible refine Has.putOther ?_ _ _ ?_); rotate_left; omega; skip) | ((with_reducible refine Has.below ?_ ?_); rotate_left; assumption)))); (· kernel_rfl))
  refine (l9Deal_any ms cs _ h1 h2).mono ?_
  rintro e w1 ⟨zz, rfl, hzz, b1⟩
  have H3 := H1.below b1
  have H4 := H2.below b1
  have Z1 := Z.below b1
  have HB1 := Lib.hid (HB.out.call b1)
  clear H1 H2 Z HB b1
  by_cases hv : dV ms cs = true
  rotate_left
  · have O := Lib.hid (dtopA_not (ms := ms) (cs := cs) (i := i) (c := c) (fun hh => hv hh.1))
    have hf : dV ms cs = false := by simpa using hv
    rw [hf]
    clear hv hf hzz
    have S1 := Lib.hid (Z1.putAll z2 rfl)
    have S2 := Lib.hid (HB1.out.puts (b := w.heap.size + 1 + 1) (by omega) 0 (ints z2))
    clear HB1
    go_wp2_with (first | (refine build_law rfl 23 rfl _ build2z ?_) | (refine store_at rfl 23 _ _ rfl _ _ rfl rfl ?_ 2 ?_ ?_ ?_ ?_; rotate_left; (· (repeat (first | (with_reducible assumption) | ((with_reducible refine Has.box _ _ ?_ ?_) <;> (first | assumption | decide)) | (with_reducible refine Has.alloc ?_ _) | ((with_reducible refine Has.putOther ?_ _ _ ?_); rotate_left; omega; skip) | ((with_reducible refine Has.below ?_ ?_); rotate_left; assumption)))); (· (first | assumption | rfl)); (· kernel_rfl)))
    exact bodyPost_ret (res_has1 rfl _ _ (w.heap.size + 1 + 1) z2 2 _ (.bool false) rfl rfl S1.out Try.underlying23 rfl (by kernel_rfl)) rfl ⟨by rw [O.out.1, O.out.2], S2.out⟩
  obtain ⟨L, F⟩ := dealFacts hv
  have hz2 := hzz hv
  rw [F.mpl] at hz2
  rw [hv, hz2]
  clear hzz hz2
  go_wp2_with fail
  refine (l2Place_any i _).mono ?_
  rintro e w' ⟨rfl, rfl⟩
  by_cases hp : 0 ≤ i ∧ i < 6
  rotate_left
  · rw [decide_eq_false hp]
    have O := Lib.hid (dtopA_not (ms := ms) (cs := cs) (i := i) (c := c) (fun hh => hp hh.2.1))
    clear hp hv F
    have S1 := Lib.hid (Z1.putAll z2 rfl)
    have S2 := Lib.hid (HB1.out.puts (b := w.heap.size + 1 + 1) (by omega) 0 (ints z2))
    clear HB1
    go_wp2_with (first | (refine build_law rfl 23 rfl _ build2z ?_) | (refine store_at rfl 23 _ _ rfl _ _ rfl rfl ?_ 2 ?_ ?_ ?_ ?_; rotate_left; (· (repeat (first | (with_reducible assumption) | ((with_reducible refine Has.box _ _ ?_ ?_) <;> (first | assumption | decide)) | (with_reducible refine Has.alloc ?_ _) | ((with_reducible refine Has.putOther ?_ _ _ ?_); rotate_left; omega; skip) | ((with_reducible refine Has.below ?_ ?_); rotate_left; assumption)))); (· (first | assumption | rfl)); (· kernel_rfl)))
    exact bodyPost_ret (res_has1 rfl _ _ (w.heap.size + 1 + 1) z2 2 _ (.bool false) rfl rfl S1.out Try.underlying23 rfl (by kernel_rfl)) rfl ⟨by rw [O.out.1, O.out.2], S2.out⟩
  rw [decide_eq_true hp]
  go_wp2_with fail
  refine (l1In_any c 1 5 _).mono ?_
  rintro e w' ⟨rfl, rfl⟩
  by_cases hc : 1 ≤ c ∧ c ≤ 5
  rotate_left
  · rw [decide_eq_false hc]
    have O := Lib.hid (dtopA_not (ms := ms) (cs := cs) (i := i) (c := c) (fun hh => hc hh.2.2))
    clear hp hv hc F
    have S1 := Lib.hid (Z1.putAll z2 rfl)
    have S2 := Lib.hid (HB1.out.puts (b := w.heap.size + 1 + 1) (by omega) 0 (ints z2))
    clear HB1
    go_wp2_with (first | (refine build_law rfl 23 rfl _ build2z ?_) | (refine store_at rfl 23 _ _ rfl _ _ rfl rfl ?_ 2 ?_ ?_ ?_ ?_; rotate_left; (· (repeat (first | (with_reducible assumption) | ((with_reducible refine Has.box _ _ ?_ ?_) <;> (first | assumption | decide)) | (with_reducible refine Has.alloc ?_ _) | ((with_reducible refine Has.putOther ?_ _ _ ?_); rotate_left; omega; skip) | ((with_reducible refine Has.below ?_ ?_); rotate_left; assumption)))); (· (first | assumption | rfl)); (· kernel_rfl)))
    exact bodyPost_ret (res_has1 rfl _ _ (w.heap.size + 1 + 1) z2 2 _ (.bool false) rfl rfl S1.out Try.underlying23 rfl (by kernel_rfl)) rfl ⟨by rw [O.out.1, O.out.2], S2.out⟩
  rw [decide_eq_true hc]
  have OK := Lib.hid (dtopA_yes (ms := ms) (cs := cs) hv hp hc)
  have EV := Lib.hid (show dtopA ms cs i c = (if ms.getD i.toNat 0 = 0 then z01 else frac (cs.getD c.toNat 0).toNat (plUp cs 6)) by unfold dtopA; rw [if_pos OK.out])
  obtain ⟨p, rfl⟩ : ∃ p : Nat, i = (p : Int) := ⟨i.toNat, by omega⟩
  obtain ⟨q, rfl⟩ : ∃ q : Nat, c = (q : Int) := ⟨c.toNat, by omega⟩
  rw [Int.toNat_natCast, Int.toNat_natCast] at EV
  have hp6 : p < 6 := by omega
  have hq6 : q < 6 := by omega
  have hpi : (p : Int) < 6 := by omega
  have hqi : (q : Int) < 6 := by omega
  have c0 := H3.cell p hp6
  clear hp hc hv
  by_cases hm : ms.getD p 0 = 0
  · rw [hm] at c0
    have O := Lib.hid (show dtopOk ms cs (p : Int) (q : Int) = true ∧ dtopA ms cs (p : Int) (q : Int) = z01 from ⟨OK.out, by rw [EV.out, if_pos hm]⟩)
    clear hm F
    have S1 := Lib.hid (Z1.putAll z01 rfl)
    have S2 := Lib.hid (HB1.out.puts (b := w.heap.size + 1 + 1) (by omega) 0 (ints z01))
    clear HB1
    go_wp2_with (first | (refine store_at rfl 23 _ _ rfl _ [0, 1] rfl rfl ?_ 2 ?_ ?_ ?_ ?_; rotate_left; (· (repeat (first | (with_reducible assumption) | ((with_reducible refine Has.box _ _ ?_ ?_) <;> (first | assumption | decide)) | (with_reducible refine Has.alloc ?_ _) | ((with_reducible refine Has.putOther ?_ _ _ ?_); rotate_left; omega; skip) | ((with_reducible refine Has.below ?_ ?_); rotate_left; assumption)))); (· (first | assumption | rfl)); (· kernel_rfl)))
    exact bodyPost_ret (res_has1 rfl _ _ (w.heap.size + 1 + 1) z01 2 _ (.bool true) rfl rfl S1.out Try.underlying23 rfl (by kernel_rfl)) rfl ⟨by rw [O.out.1, O.out.2], S2.out⟩
  have l0 := many_pos F p hp6 hm
  have l24 := F.small
  have qn := cnt_le F q hq6
  have cn := F.cnt q hq6
  obtain ⟨k, hk⟩ : ∃ k : Nat, cs.getD q 0 = (k : Int) := ⟨(cs.getD q 0).toNat, by omega⟩
  rw [hk, Int.toNat_natCast] at qn
  have O := Lib.hid (show dtopOk ms cs (p : Int) (q : Int) = true ∧ dtopA ms cs (p : Int) (q : Int) = frac k L from ⟨OK.out, by rw [EV.out, if_neg hm, hk, Int.toNat_natCast, F.cpl]⟩)
  have KF := Lib.hid (fun W => l7Cut_any k L W l0 (by omega) (by omega))
  have q0 : (ms.getD p 0 == 0) = false := by simpa using hm
  have fl := frac_len k L
  have c1 := H4.cellX (k := q) (x := (k : Int)) hq6 hk
  clear l0 l24 qn cn F hm EV OK hk
  generalize ms.getD p 0 = x at *
  go_wp2_with fail
  refine (KF.out _).mono ?_
  rintro e w3 ⟨rfl, b3⟩
  have Z3 := Z1.below b3
  have S1 := Lib.hid (Z3.putAll (frac k L) fl)
  have S2 := Lib.hid ((HB1.out.call b3).puts (b := w.heap.size + 1 + 1) (by omega) 0 (ints (frac k L)))
  clear H3 H4 Z1 HB1 b3 c0 c1
  go_wp2_with (refine store_at rfl 23 _ _ rfl _ _ rfl rfl ?_ 2 ?_ ?_ ?_ ?_; rotate_left; (· (repeat (first | (with_reducible assumption) | ((with_reducible refine Has.box _ _ ?_ ?_) <;> (first | assumption | decide)) | (with_reducible refine Has.alloc ?_ _) | ((with_reducible refine Has.putOther ?_ _ _ ?_); rotate_left; omega; skip) | ((with_reducible refine Has.below ?_ ?_); rotate_left; assumption)))); (· (first | assumption | rfl)); (· kernel_rfl))
  exact bodyPost_ret (res_has1 rfl _ _ (w.heap.size + 1 + 1) (frac k L) 2 _ (.bool true) rfl rfl S1.out Try.underlying23 rfl (by kernel_rfl)) rfl ⟨by rw [O.out.1, O.out.2], S2.out⟩

set_option maxHeartbeats 1600000 in
set_option maxRecDepth 100000 in
theorem specDealAlike (ms cs : List Int) (i j : Int) (w : World) (h1 : ms.length = 6) (h2 : cs.length = 6) :
    Calls Try.prog 19 #[row ms, row cs, .int .i64 i, .int .i64 j] w fun e w' => e = .returned (.tuple #[.agg (ints (alA ms cs i j)).toArray, .bool (alOk ms cs i j)]) ∧ Kept w w' := by
  have H1 := ((Has.box w 22 h1 (by omega)).alloc (.cells (ints cs).toArray 22)).alloc (.cells #[.int .i64 0, .int .i64 0] 23)
  have H2 := ((Has.box (w.alloc (.cells (ints ms).toArray 22)) 22 h2 (by omega)).at (size1 _ _)).alloc (.cells #[.int .i64 0, .int .i64 0] 23)
  have Z := (Has.zero2v ((w.alloc (.cells (ints ms).toArray 22)).alloc (.cells (ints cs).toArray 22)) 23).at (c := w.heap.size + 1 + 1) (by simp)
  have HB := Lib.hid ((((kept_refl w).alloc (.cells (ints ms).toArray 22)).alloc (.cells (ints cs).toArray 22)).alloc (.cells #[.int .i64 0, .int .i64 0] 23))
  rw [row_ints, row_ints]
  go_enter Try.func19, Try.ntmps19
  go_wp2_with (refine load_has rfl 22 _ rfl _ rfl ?_ 6 ?_ _ Try.underlying22 rfl ?_ ?_; rotate_left; (· (repeat (first | (with_reducible assumption) | ((with_reducible refine Has.box _ _ ?_ ?_) <;> (first | assumption | decide)) | (with_reducible refine Has.alloc ?_ _) | ((with_reducible refine Has.putOther ?_ _ _ ?_); rotate_left; omega; skip) | ((with_reducible refine Has.below ?_ ?_); rotate_left; assumption)))); (· kernel_rfl))
  refine (l9Deal_any ms cs _ h1 h2).mono ?_
  rintro e w1 ⟨zz, rfl, hzz, b1⟩
  have H3 := H1.below b1
  have H4 := H2.below b1
  have Z1 := Z.below b1
  have HB1 := Lib.hid (HB.out.call b1)
  clear H1 H2 Z HB b1
  by_cases hv : dV ms cs = true
  rotate_left
  · have O := Lib.hid (alA_not (ms := ms) (cs := cs) (i := i) (j := j) (fun hh => hv hh.1))
    have hf : dV ms cs = false := by simpa using hv
    rw [hf]
    clear hv hf hzz
    have S1 := Lib.hid (Z1.putAll z2 rfl)
    have S2 := Lib.hid (HB1.out.puts (b := w.heap.size + 1 + 1) (by omega) 0 (ints z2))
    clear HB1
    go_wp2_with (first | (refine build_law rfl 23 rfl _ build2z ?_) | (refine store_at rfl 23 _ _ rfl _ _ rfl rfl ?_ 2 ?_ ?_ ?_ ?_; rotate_left; (· (repeat (first | (with_reducible assumption) | ((with_reducible refine Has.box _ _ ?_ ?_) <;> (first | assumption | decide)) | (with_reducible refine Has.alloc ?_ _) | ((with_reducible refine Has.putOther ?_ _ _ ?_); rotate_left; omega; skip) | ((with_reducible refine Has.below ?_ ?_); rotate_left; assumption)))); (· (first | assumption | rfl)); (· kernel_rfl)))
    exact bodyPost_ret (res_has1 rfl _ _ (w.heap.size + 1 + 1) z2 2 _ (.bool false) rfl rfl S1.out Try.underlying23 rfl (by kernel_rfl)) rfl ⟨by rw [O.out.1, O.out.2], S2.out⟩
  obtain ⟨L, F⟩ := dealFacts hv
  have hz2 := hzz hv
  rw [F.mpl] at hz2
  rw [hv, hz2]
  clear hzz hz2
  go_wp2_with fail
  refine (l2Place_any i _).mono ?_
  rintro e w' ⟨rfl, rfl⟩
  by_cases hp : 0 ≤ i ∧ i < 6
  rotate_left
  · rw [decide_eq_false hp]
    have O := Lib.hid (alA_not (ms := ms) (cs := cs) (i := i) (j := j) (fun hh => hp hh.2.1))
    clear hp hv F
    have S1 := Lib.hid (Z1.putAll z2 rfl)
    have S2 := Lib.hid (HB1.out.puts (b := w.heap.size + 1 + 1) (by omega) 0 (ints z2))
    clear HB1
    go_wp2_with (first | (refine build_law rfl 23 rfl _ build2z ?_) | (refine store_at rfl 23 _ _ rfl _ _ rfl rfl ?_ 2 ?_ ?_ ?_ ?_; rotate_left; (· (repeat (first | (with_reducible assumption) | ((with_reducible refine Has.box _ _ ?_ ?_) <;> (first | assumption | decide)) | (with_reducible refine Has.alloc ?_ _) | ((with_reducible refine Has.putOther ?_ _ _ ?_); rotate_left; omega; skip) | ((with_reducible refine Has.below ?_ ?_); rotate_left; assumption)))); (· (first | assumption | rfl)); (· kernel_rfl)))
    exact bodyPost_ret (res_has1 rfl _ _ (w.heap.size + 1 + 1) z2 2 _ (.bool false) rfl rfl S1.out Try.underlying23 rfl (by kernel_rfl)) rfl ⟨by rw [O.out.1, O.out.2], S2.out⟩
  rw [decide_eq_true hp]
  go_wp2_with fail
  refine (l2Place_any j _).mono ?_
  rintro e w' ⟨rfl, rfl⟩
  by_cases hc : 0 ≤ j ∧ j < 6
  rotate_left
  · rw [decide_eq_false hc]
    have O := Lib.hid (alA_not (ms := ms) (cs := cs) (i := i) (j := j) (fun hh => hc hh.2.2.1))
    clear hp hv hc F
    have S1 := Lib.hid (Z1.putAll z2 rfl)
    have S2 := Lib.hid (HB1.out.puts (b := w.heap.size + 1 + 1) (by omega) 0 (ints z2))
    clear HB1
    go_wp2_with (first | (refine build_law rfl 23 rfl _ build2z ?_) | (refine store_at rfl 23 _ _ rfl _ _ rfl rfl ?_ 2 ?_ ?_ ?_ ?_; rotate_left; (· (repeat (first | (with_reducible assumption) | ((with_reducible refine Has.box _ _ ?_ ?_) <;> (first | assumption | decide)) | (with_reducible refine Has.alloc ?_ _) | ((with_reducible refine Has.putOther ?_ _ _ ?_); rotate_left; omega; skip) | ((with_reducible refine Has.below ?_ ?_); rotate_left; assumption)))); (· (first | assumption | rfl)); (· kernel_rfl)))
    exact bodyPost_ret (res_has1 rfl _ _ (w.heap.size + 1 + 1) z2 2 _ (.bool false) rfl rfl S1.out Try.underlying23 rfl (by kernel_rfl)) rfl ⟨by rw [O.out.1, O.out.2], S2.out⟩
  rw [decide_eq_true hc]
  obtain ⟨p, rfl⟩ : ∃ p : Nat, i = (p : Int) := ⟨i.toNat, by omega⟩
  obtain ⟨q, rfl⟩ : ∃ q : Nat, j = (q : Int) := ⟨j.toNat, by omega⟩
  have hp6 : p < 6 := by omega
  have hq6 : q < 6 := by omega
  have hpi : (p : Int) < 6 := by omega
  have hqi : (q : Int) < 6 := by omega
  by_cases hn : p = q
  · subst hn
    have O := Lib.hid (alA_not (ms := ms) (cs := cs) (i := (p : Int)) (j := (p : Int)) (fun hh => hh.2.2.2.1 rfl))
    clear hp hv hc F
    have S1 := Lib.hid (Z1.putAll z2 rfl)
    have S2 := Lib.hid (HB1.out.puts (b := w.heap.size + 1 + 1) (by omega) 0 (ints z2))
    clear HB1
    go_wp2_with (first | (refine build_law rfl 23 rfl _ build2z ?_) | (refine store_at rfl 23 _ _ rfl _ _ rfl rfl ?_ 2 ?_ ?_ ?_ ?_; rotate_left; (· (repeat (first | (with_reducible assumption) | ((with_reducible refine Has.box _ _ ?_ ?_) <;> (first | assumption | decide)) | (with_reducible refine Has.alloc ?_ _) | ((with_reducible refine Has.putOther ?_ _ _ ?_); rotate_left; omega; skip) | ((with_reducible refine Has.below ?_ ?_); rotate_left; assumption)))); (· (first | assumption | rfl)); (· kernel_rfl)))
    exact bodyPost_ret (res_has1 rfl _ _ (w.heap.size + 1 + 1) z2 2 _ (.bool false) rfl rfl S1.out Try.underlying23 rfl (by kernel_rfl)) rfl ⟨by rw [O.out.1, O.out.2], S2.out⟩
  have n0 : ((p : Int) == (q : Int)) = false := by simp; omega
  have c0 := H3.cell p hp6
  have c1 := H3.cell q hq6
  by_cases hm : ms.getD p 0 = 0
  · have O := Lib.hid (alA_not (ms := ms) (cs := cs) (i := (p : Int)) (j := (q : Int)) (fun hh => hh.2.2.2.2.1 (by rw [Int.toNat_natCast]; exact hm)))
    rw [hm] at c0
    clear hp hv hc hm c1 F
    have S1 := Lib.hid (Z1.putAll z2 rfl)
    have S2 := Lib.hid (HB1.out.puts (b := w.heap.size + 1 + 1) (by omega) 0 (ints z2))
    clear HB1
    go_wp2_with (first | (refine build_law rfl 23 rfl _ build2z ?_) | (refine store_at rfl 23 _ _ rfl _ _ rfl rfl ?_ 2 ?_ ?_ ?_ ?_; rotate_left; (· (repeat (first | (with_reducible assumption) | ((with_reducible refine Has.box _ _ ?_ ?_) <;> (first | assumption | decide)) | (with_reducible refine Has.alloc ?_ _) | ((with_reducible refine Has.putOther ?_ _ _ ?_); rotate_left; omega; skip) | ((with_reducible refine Has.below ?_ ?_); rotate_left; assumption)))); (· (first | assumption | rfl)); (· kernel_rfl)))
    exact bodyPost_ret (res_has1 rfl _ _ (w.heap.size + 1 + 1) z2 2 _ (.bool false) rfl rfl S1.out Try.underlying23 rfl (by kernel_rfl)) rfl ⟨by rw [O.out.1, O.out.2], S2.out⟩
  by_cases hk : ms.getD q 0 = 0
  · have O := Lib.hid (alA_not (ms := ms) (cs := cs) (i := (p : Int)) (j := (q : Int)) (fun hh => hh.2.2.2.2.2 (by rw [Int.toNat_natCast]; exact hk)))
    rw [hk] at c1
    have q0 : (ms.getD p 0 == 0) = false := by simpa using hm
    clear hp hv hc hm hk F
    generalize ms.getD p 0 = x at *
    have S1 := Lib.hid (Z1.putAll z2 rfl)
    have S2 := Lib.hid (HB1.out.puts (b := w.heap.size + 1 + 1) (by omega) 0 (ints z2))
    clear HB1
    go_wp2_with (first | (refine build_law rfl 23 rfl _ build2z ?_) | (refine store_at rfl 23 _ _ rfl _ _ rfl rfl ?_ 2 ?_ ?_ ?_ ?_; rotate_left; (· (repeat (first | (with_reducible assumption) | ((with_reducible refine Has.box _ _ ?_ ?_) <;> (first | assumption | decide)) | (with_reducible refine Has.alloc ?_ _) | ((with_reducible refine Has.putOther ?_ _ _ ?_); rotate_left; omega; skip) | ((with_reducible refine Has.below ?_ ?_); rotate_left; assumption)))); (· (first | assumption | rfl)); (· kernel_rfl)))
    exact bodyPost_ret (res_has1 rfl _ _ (w.heap.size + 1 + 1) z2 2 _ (.bool false) rfl rfl S1.out Try.underlying23 rfl (by kernel_rfl)) rfl ⟨by rw [O.out.1, O.out.2], S2.out⟩
  have OK := Lib.hid (alA_yes (ms := ms) (cs := cs) hv hp hc (by omega) (by rw [Int.toNat_natCast]; exact hm) (by rw [Int.toNat_natCast]; exact hk))
  have L2 := many_two F p q hp6 hq6 hn hm hk
  have eo := onePl_of L2
  have hD := onePl_le F.small
  have hD0 := onePl_pos L
  have hP := pr_le_one F.cpl
  have O := Lib.hid (show alOk ms cs (p : Int) (q : Int) = true ∧ alA ms cs (p : Int) (q : Int) = frac (prUp cs 6) (onePl L) from ⟨OK.out, by unfold alA; rw [if_pos OK.out, F.cpl]⟩)
  have KP := Lib.hid (fun W => l9Pairs_any cs W h2 F.cnt F.zero (by omega))
  have KF := Lib.hid (fun W => l7Cut_any (prUp cs 6) (onePl L) W hD0 (by omega) (by omega))
  have q0 : (ms.getD p 0 == 0) = false := by simpa using hm
  have q1 : (ms.getD q 0 == 0) = false := by simpa using hk
  have fl := frac_len (prUp cs 6) (onePl L)
  have w2 : IntKind.i64.wrap ((L : Int) - 1) = (L : Int) - 1 := IntWalk.i64_in _ (by have := F.small; omega)
  have w3 : IntKind.i64.wrap ((L : Int) * ((L : Int) - 1)) = (onePl L : Int) := by
    have e : (L : Int) * ((L : Int) - 1) = ((L * (L - 1) : Nat) : Int) := by rw [Int.natCast_mul]; congr 1; omega
    rw [e, ← eo]; exact IntWalk.i64_in _ (by omega)
  clear hp hv hc hm hk OK F L2 eo hD hD0 hP
  generalize ms.getD p 0 = x at *
  generalize ms.getD q 0 = y at *
  generalize onePl L = D at *
  generalize prUp cs 6 = P at *
  go_wp2_with (refine load_has rfl 22 _ rfl _ rfl ?_ 6 ?_ _ Try.underlying22 rfl ?_ ?_; rotate_left; (· (repeat (first | (with_reducible assumption) | ((with_reducible refine Has.box _ _ ?_ ?_) <;> (first | assumption | decide)) | (with_reducible refine Has.alloc ?_ _) | ((with_reducible refine Has.putOther ?_ _ _ ?_); rotate_left; omega; skip) | ((with_reducible refine Has.below ?_ ?_); rotate_left; assumption)))); (· kernel_rfl))
  refine (KP.out _).mono ?_
  rintro e w3 ⟨rfl, b3⟩
  have Z3 := Z1.below b3
  have HB3 := Lib.hid (HB1.out.call b3)
  clear H3 H4 Z1 HB1 b3 c0 c1
  go_wp2_with fail
  refine (KF.out _).mono ?_
  rintro e w4 ⟨rfl, b4⟩
  have Z4 := Z3.below b4
  have S1 := Lib.hid (Z4.putAll _ fl)
  have S2 := Lib.hid ((HB3.out.call b4).puts (b := w.heap.size + 1 + 1) (by omega) 0 (ints (frac P D)))
  clear b4 Z3 HB3
  go_wp2_with (refine store_at rfl 23 _ _ rfl _ _ rfl rfl ?_ 2 ?_ ?_ ?_ ?_; rotate_left; (· (repeat (first | (with_reducible assumption) | ((with_reducible refine Has.box _ _ ?_ ?_) <;> (first | assumption | decide)) | (with_reducible refine Has.alloc ?_ _) | ((with_reducible refine Has.putOther ?_ _ _ ?_); rotate_left; omega; skip) | ((with_reducible refine Has.below ?_ ?_); rotate_left; assumption)))); (· (first | assumption | rfl)); (· kernel_rfl))
  exact bodyPost_ret (res_has1 rfl _ _ (w.heap.size + 1 + 1) _ 2 _ (.bool true) rfl rfl S1.out Try.underlying23 rfl (by kernel_rfl)) rfl ⟨by rw [O.out.1, O.out.2], S2.out⟩
end Go.Proofs.Ytemiljokdedidaa.base
