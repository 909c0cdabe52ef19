/-
  Tubes that are filled with one color each, on the program's side, walked.
-/
import Derived.Test.YtemiljokdedidaaDelI
import Derived.StillTailTactics
import Derived.Laws.IdiomCopy
namespace Go.Proofs.Ytemiljokdedidaa.base
open Go.ChangeShapes Go.WideShapes Go.ChangeAt Go.RowKit
set_option linter.unusedVariables false
set_option linter.unusedSimpArgs false

def sm (ms : List Int) (k : Nat) (s : List Int) : Nat := sameL (ms.drop k) s
theorem sm_end (ms s : List Int) (h : ms.length = 6) : sm ms 6 s = 1 := by
  unfold sm; rw [List.drop_of_length_le (by omega)]; rfl
theorem sm_step (ms s : List Int) (k : Nat) (h : ms.length = 6) (hk : k < 6) : sm ms k s = if ms.getD k 0 = 0 then sm ms (k + 1) s else fiveSum (fun c => if ms.getD k 0 ≤ s.getD c 0 then sm ms (k + 1) (s.set c (s.getD c 0 - ms.getD k 0)) else 0) 5 := by
  unfold sm
  have e : ms.drop k = ms.getD k 0 :: ms.drop (k + 1) := by
    rw [List.drop_eq_getElem_cons (by omega), List.getD_eq_getElem?_getD, List.getElem?_eq_getElem (by omega)]; rfl
  rw [e, sameL]
theorem sm_le (ms s : List Int) (k : Nat) (h : ms.length = 6) : sm ms k s ≤ 15625 := by
  have h1 := sameL_le (ms.drop k) s
  have h2 : (ms.drop k).length ≤ 6 := by rw [List.length_drop]; omega
  have h3 : (5 : Nat) ^ (ms.drop k).length ≤ 5 ^ 6 := Nat.pow_le_pow_right (by omega) h2
  have h4 : (5 : Nat) ^ 6 = 15625 := by decide
  unfold sm; omega
theorem fiveSum_in (f : Nat → Nat) (h : ∀ c, f c ≤ 15625) (c : Nat) (hc : c ≤ 5) : fiveSum f c ≤ 78125 := by
  have h1 := fiveSum_le f 15625 h c
  have h2 : c * 15625 ≤ 5 * 15625 := Nat.mul_le_mul_right _ hc
  omega
theorem sub_keep {s : List Int} {m : Int} (h6 : s.length = 6) (hs : ∀ j, j < 6 → 0 ≤ s.getD j 0 ∧ s.getD j 0 ≤ 24) (hm : 0 ≤ m) (c : Nat) (hc : c < 6) (h : m ≤ s.getD c 0) : ∀ j, j < 6 → 0 ≤ (s.set c (s.getD c 0 - m)).getD j 0 ∧ (s.set c (s.getD c 0 - m)).getD j 0 ≤ 24 := fun j hj => by
  rw [set_getD s c j _ (by omega)]
  have := hs c hc
  have := hs j hj
  split <;> omega
theorem elemD : Try.prog.underlying 49 = some (.slice (Try.prog.elem 49)) := by kernel_rfl
theorem sizeD (w : World) : (sizeOf (Try.prog.elem 49)).run Try.prog w = .ok 1 w := by kernel_rfl
theorem run_loD (g o len : Nat) (hq : 1 ≤ len) : ∃ o2, (len = 1 ∨ o2 = o + 1) ∧ ∀ w : World, (Instr.sliceAt 49 (.slice (some ⟨g, o, none⟩) len len) (some (.int .i64 1)) none none).run Try.prog w = .ok (.slice (some ⟨g, o2, none⟩) (len - 1) (len - 1)) w := by
  by_cases h : len = 1
  · refine ⟨o, Or.inl h, fun w => ?_⟩
    rw [run_sliceAt_slice w 49 _ _ _ _ elemD, run_slice_l w 49 (some ⟨g, o, none⟩) len len elemD .i64 (1 : Int) (by omega) (by omega), sizeD]
    simp only [Result.andThen_ok, sliced, Option.map_some]
    have e : len = Int.toNat 1 := by rw [h]; rfl
    rw [if_pos e]; rfl
  · refine ⟨o + 1, Or.inr rfl, fun w => ?_⟩
    rw [run_sliceAt_slice w 49 _ _ _ _ elemD, run_slice_l w 49 (some ⟨g, o, none⟩) len len elemD .i64 (1 : Int) (by omega) (by omega), sizeD]
    simp only [Result.andThen_ok, sliced, Option.map_some]
    have e : ¬ len = Int.toNat 1 := by intro hh; exact h (by rw [hh]; rfl)
    rw [if_neg e]; rfl

set_option maxHeartbeats 3200000 in
set_option maxRecDepth 100000 in
theorem plain_any (ms : List Int) (b : Nat) (hm : ms.length = 6) (hmm : ∀ i, i < 6 → 0 ≤ ms.getD i 0 ∧ ms.getD i 0 ≤ 4) : ∀ (n k o : Nat) (s : List Int) (w : World), k + n = 6 → (n = 0 ∨ o = k) → s.length = 6 → (∀ j, j < 6 → 0 ≤ s.getD j 0 ∧ s.getD j 0 ≤ 24) → Has w b ms 6 →
    Calls Try.prog 40 #[row s, .slice (some ⟨b, o, none⟩) n n] w fun e w' => e = .returned (.int .i64 (sm ms k s : Nat)) ∧ Kept w w' := by
  intro n
  induction n with
  | zero =>
    intro k o s w hk ho h6 hs HM
    obtain rfl : k = 6 := by omega
    have HB := Lib.hid ((kept_refl w).alloc (.cells (ints s).toArray 45))
    have E := Lib.hid (sm_end ms s hm)
    rw [row_ints]
    go_enter Try.func40, Try.ntmps40
    go_wp2_with fail
    go_ret
    exact ⟨by rw [E.out]; rfl, HB.out⟩
  | succ n ih =>
    intro k o s w hk ho h6 hs HM
    obtain rfl : o = k := by omega
    have hk6 : o < 6 := by omega
    have IH := Lib.hid ih
    have HB := Lib.hid ((kept_refl w).alloc (.cells (ints s).toArray 45))
    have H := Has.box w 45 h6 (by omega)
    have G := HM.alloc (.cells (ints s).toArray 45)
    have hbw := HM.lt
    have c0 := G.cell o hk6
    have mo := hmm o hk6
    have STEP := Lib.hid (sm_step ms s o hm hk6)
    obtain ⟨o2, ho2, hsl⟩ := run_loD b o (n + 1) (by omega)
    have e2 : n + 1 - 1 = n := by omega
    rw [e2] at hsl
    have HO := Lib.hid (show n = 0 ∨ o2 = o + 1 by omega)
    have SL := Lib.hid hsl
    have HK := Lib.hid (show o + 1 + n = 6 by omega)
    have li : (ints s).length = 6 := by rw [ints_len]; exact h6
    have hi1 : (Try.prog.info? 45).map (·.size) = some (ints s).length := by rw [li]; kernel_rfl
    have HS := Lib.hid hs
    have H6 := Lib.hid h6
    have e1 : (((n + 1 : Nat) : Int) == 0) = false := by simp; omega
    have hn0 : (0 : Int) < ((n + 1 : Nat) : Int) := by omega
    clear ih ho2 hsl HM e2 ho hk hs
    rw [row_ints]
    generalize hx : ms.getD o 0 = x at *
    by_cases h0 : x = 0
    · subst h0
      have ER := Lib.hid (show sm ms o s = sm ms (o + 1) s by rw [STEP.out, if_pos rfl])
      have KI := Lib.hid (fun (V : World) (h : Has V b ms 6) => IH.out (o + 1) o2 s V HK.out HO.out H6.out HS.out h)
      have hsl := SL.out
      clear STEP IH
      go_enter Try.func40, Try.ntmps40
      go_wp2_with fail
      refine wp_region_held_drew (S := fun w' => Has w' w.heap.size s 6 ∧ Has w' b ms 6 ∧ Kept w w') (by kernel_rfl) ⟨H.drew, G.drew, HB.out.drewN 1⟩ (fun hHeld => ?_)
      clear H G HB c0
      generalize World.drew _ = WD at *
      (refine wpAnyH_take (i := 1) (v := ?_) rfl (by kernel_rfl) (by kernel_rfl) (by kernel_rfl) (fun _ _ _ h => h) (Or.inl ⟨by rfl, ?_⟩) hHeld ?_; rotate_left; (· (intro w' hSw; go_simp; try with_reducible rfl)); (try simp only [List.getElem_toArray, List.getElem_cons_zero, List.getElem_cons_succ, Act.put, List.setIfInBounds_toArray, List.set_cons_zero, List.set_cons_succ]))
      (refine wpAnyH_take (i := 0) (v := _) rfl (by kernel_rfl) (by kernel_rfl) (by kernel_rfl) (fun _ _ _ h => h) (yieldsIf_load_mid (by rfl) 45 _ rfl _ _ rfl (ints s) _ (fun w' hSw => hSw.1.holds.range) Try.underlying45 rfl (hi1)) hHeld ?_; (try simp only [List.getElem_toArray, List.getElem_cons_zero, List.getElem_cons_succ, Act.put, List.setIfInBounds_toArray, List.set_cons_zero, List.set_cons_succ]))
      (refine wpAnyH_take (i := 2) (v := ?_) rfl (by kernel_rfl) (by kernel_rfl) (by kernel_rfl) (fun _ _ _ h => h) (Or.inl ⟨by rfl, ?_⟩) hHeld ?_; rotate_left; (· (intro w' hSw; go_simp; try with_reducible rfl)); (try simp only [List.getElem_toArray, List.getElem_cons_zero, List.getElem_cons_succ, Act.put, List.setIfInBounds_toArray, List.set_cons_zero, List.set_cons_succ]))
      (refine wpAnyH_ready (rs := [3]) (by kernel_rfl) (by simp) ?_; refine AllReadyH.cons (o := _) rfl (fun K hK => ?_) AllReadyH.nil; (simp only [List.getElem_toArray, List.getElem_cons_zero, List.getElem_cons_succ, Region.wanted, if_true]))
      go_simp
      refine (KI.out _ hHeld.2.1).mono ?_
      rintro e w3 ⟨rfl, bq⟩
      dsimp only
      (try simp only [List.getElem_toArray, List.getElem_cons_zero, List.getElem_cons_succ, Act.put, List.setIfInBounds_toArray, List.set_cons_zero, List.set_cons_succ])
      refine hK.out _ _ ⟨hHeld.1.below bq, hHeld.2.1.below bq, hHeld.2.2.call bq⟩ (fun hHeld => ?_)
      clear hK K bq
      (refine wpAnyH_take (i := 4) (v := ?_) rfl (by kernel_rfl) (by kernel_rfl) (by kernel_rfl) (fun _ _ _ h => h) (Or.inl ⟨by rfl, ?_⟩) hHeld ?_; rotate_left; (· (intro w' hSw; go_simp; try with_reducible rfl)); (try simp only [List.getElem_toArray, List.getElem_cons_zero, List.getElem_cons_succ, Act.put, List.setIfInBounds_toArray, List.set_cons_zero, List.set_cons_succ]))
      refine wpAnyH_done (by kernel_rfl) ?_ _
      have BB := Lib.hid hHeld.2.2
      clear hHeld
      go_wp2_with fail
      go_ret
      exact ⟨by rw [ER.out]; rfl, BB.out⟩
    · have x0 : (x == 0) = false := by simpa using h0
      have KI := Lib.hid (fun (t : List Int) (V : World) (h1 : t.length = 6) (h2 : ∀ j, j < 6 → 0 ≤ t.getD j 0 ∧ t.getD j 0 ≤ 24) (h : Has V b ms 6) => IH.out (o + 1) o2 t V HK.out HO.out h1 h2 h)
      obtain ⟨f, hf⟩ : ∃ f : Nat → Nat, f = fun c => if x ≤ s.getD c 0 then sm ms (o + 1) (s.set c (s.getD c 0 - x)) else 0 := ⟨_, rfl⟩
      have ER := Lib.hid (show sm ms o s = fiveSum f 5 by rw [STEP.out, if_neg h0, hf])
      have FY := Lib.hid (show ∀ c, x ≤ s.getD c 0 → f c = sm ms (o + 1) (s.set c (s.getD c 0 - x)) from fun c h => by rw [hf]; exact if_pos h)
      have FN := Lib.hid (show ∀ c, ¬ x ≤ s.getD c 0 → f c = 0 from fun c h => by rw [hf]; exact if_neg h)
      have FB := Lib.hid (show ∀ c, c ≤ 5 → fiveSum f c ≤ 78125 from fun c hc => fiveSum_in f (fun d => by rw [hf]; dsimp only; split; exact sm_le ms _ _ hm; omega) c hc)
      have FC := Lib.hid (show ∀ c, f c ≤ 15625 from fun d => by rw [hf]; dsimp only; split; exact sm_le ms _ _ hm; omega)
      have HX := Lib.hid hx
      clear STEP IH hf h0 hx
      go_enter Try.func40, Try.ntmps40
      go_wp2_with fail
      clear c0
      generalize w.alloc (.cells (ints s).toArray 45) = W at *
      go_loopw [5, 6] (fun y z wr => ∃ d : Nat, 1 ≤ d ∧ d ≤ 6 ∧ z = .int .i64 d ∧ y = .int .i64 (fiveSum f (d - 1) : Nat) ∧ Has wr w.heap.size s 6 ∧ Has wr b ms 6 ∧ Hid (Kept w wr)) (fun _ z _ => 7 - (intOf z).toNat)
      case atStart => exact ⟨1, by omega, by omega, rfl, rfl, H, G, HB⟩
      case round =>
        clear H G HB
        obtain ⟨d, hd1, hd, rfl, rfl, H, G, HB⟩ := hrel
        by_cases hlt : d < 6
        · have hci : decide ((d : Int) ≤ 5) = true := decide_eq_true (by omega)
          have hdi : (d : Int) < 6 := by omega
          have ES := Lib.hid (show fiveSum f (d + 1 - 1) = fiveSum f (d - 1) + f d by
            obtain ⟨e, rfl⟩ : ∃ e, d = e + 1 := ⟨d - 1, by omega⟩
            rfl)
          have fb := FB.out (d - 1) (by omega)
          have fc := FC.out d
          have hs1 := HS.out d hlt
          obtain ⟨y, hy⟩ : ∃ y, s.getD d 0 = y := ⟨_, rfl⟩
          rw [hy] at hs1
          have HY := Lib.hid hy
          have R := Has.box wr 45 h6 (by omega)
          have H2 := H.alloc (.cells (ints s).toArray 45)
          have G2 := G.alloc (.cells (ints s).toArray 45)
          have HB2 := Lib.hid (HB.out.alloc (.cells (ints s).toArray 45))
          have hww := HB.out.size
          have hwl := H.lt
          have hbl := G.lt
          generalize fiveSum f (d - 1) = z at *
          go_wp2_with (first | (refine store_new rfl 45 _ _ rfl _ _ _ rfl _ rfl _ rfl rfl ?_ ?_ ?_; (· (first | assumption | rfl)); (· kernel_rfl)) | (refine load_has rfl 45 _ rfl _ rfl ?_ 6 ?_ _ Try.underlying45 rfl ?_ ?_; rotate_left; (· (repeat (first | (with_reducible assumption) | ((with_reducible refine Has.box _ _ ?_ ?_) <;> (first | assumption | decide)) | (with_reducible refine Has.alloc ?_ _) | ((with_reducible refine Has.putOther ?_ _ _ ?_); rotate_left; omega; skip) | ((with_reducible refine Has.below ?_ ?_); rotate_left; assumption)))); (· kernel_rfl)))
          clear H G HB
          generalize wr.alloc (.cells (ints s).toArray 45) = V at *
          obtain ⟨rb, hrb⟩ : ∃ rb, wr.heap.size = rb := ⟨_, rfl⟩
          rw [hrb] at R hww hwl hbl ⊢
          clear hrb hy
          refine wp_region_still_tail 8 (by kernel_rfl) (by kernel_rfl) ?_
          simp only [List.take_succ_cons, List.take_zero, List.drop_succ_cons, List.drop_zero]
          generalize hW : ({ heap := V.heap, tape := V.tape, drawn := V.drawn + 1, os := V.os, output := V.output } : World) = wd
          have DR : Has wd rb s 6 := by rw [← hW]; exact R.drew
          have DH : Has wd w.heap.size s 6 := by rw [← hW]; exact H2.drew
          have DG : Has wd b ms 6 := by rw [← hW]; exact G2.drew
          have DB : Kept w wd := by rw [← hW]; exact HB2.out.drewN 1
          clear hW R H2 G2 HB2
          have c0 := DR.cellX (k := d) (x := y) (by omega) HY.out
          have c1 := DG.cellX (k := o) (x := x) hk6 HX.out
          have f0 := DR.free d (by omega)
          have S1 := DR.set d (y - x) (by omega)
          have S2 := DH.setOther (b' := rb) d (.int .i64 (y - x)) (by omega)
          have S3 := DG.setOther (b' := rb) d (.int .i64 (y - x)) (by omega)
          have S4 := Lib.hid (DB.set (b := rb) (by omega) d (.int .i64 (y - x)))
          have hsy : (s.set d (y - x)).getD d 0 = y - x := by rw [set_getD s d d _ (by omega), if_pos rfl]
          have c2 := S1.cellX (k := d) (x := y - x) (by omega) hsy
          have l6 : (s.set d (y - x)).length = 6 := by rw [List.length_set]; exact H6.out
          have wy : IntKind.i64.wrap (y - x) = y - x := IntWalk.i64_in _ (by omega)
          clear DR DH DG DB hsy
          repeat still_step
          refine wpStill_nil ?_
          by_cases hxy : x ≤ y
          · have g0 : decide (0 ≤ y - x) = true := decide_eq_true (by omega)
            have K9 := Lib.hid (sub_keep (m := x) H6.out HS.out mo.1 d hlt (by rw [HY.out]; exact hxy))
            rw [HY.out] at K9
            have fy := FY.out d (by rw [HY.out]; exact hxy)
            rw [HY.out] at fy
            rw [fy] at ES fc
            clear fy
            obtain ⟨t, ht⟩ : ∃ t, s.set d (y - x) = t := ⟨_, rfl⟩
            rw [ht] at S1 l6 ES fc K9
            have hsl := SL.out
            have lt6 : (ints t).length = 6 := by rw [ints_len]; exact l6
            have hi2 : (Try.prog.info? 45).map (·.size) = some (ints t).length := by rw [lt6]; kernel_rfl
            have L6 := Lib.hid l6
            have g1 : decide (x ≤ y) = true := decide_eq_true hxy
            clear ht
            go_wp2_with fail
            generalize hV2 : (wd.setCell ⟨rb, d, none⟩ (.int .i64 (y - x))) = V2 at *
            clear hV2
            refine wp_region_held_drew (S := fun w' => Has w' rb t 6 ∧ Has w' w.heap.size s 6 ∧ Has w' b ms 6 ∧ Kept w w') (by kernel_rfl) ⟨S1.drew, S2.drew, S3.drew, S4.out.drewN 1⟩ (fun hHeld => ?_)
            clear S1 S2 S3 S4 c0 c1 f0 c2
            generalize World.drew _ = WD at *
            (refine wpAnyH_take (i := 0) (v := ?_) rfl (by kernel_rfl) (by kernel_rfl) (by kernel_rfl) (fun _ _ _ h => h) (Or.inl ⟨by rfl, ?_⟩) hHeld ?_; rotate_left; (· (intro w' hSw; go_simp; try with_reducible rfl)); (try simp only [List.getElem_toArray, List.getElem_cons_zero, List.getElem_cons_succ, Act.put, List.setIfInBounds_toArray, List.set_cons_zero, List.set_cons_succ])); (refine wpAnyH_take (i := 2) (v := ?_) rfl (by kernel_rfl) (by kernel_rfl) (by kernel_rfl) (fun _ _ _ h => h) (Or.inl ⟨by rfl, ?_⟩) hHeld ?_; rotate_left; (· (intro w' hSw; go_simp; try with_reducible rfl)); (try simp only [List.getElem_toArray, List.getElem_cons_zero, List.getElem_cons_succ, Act.put, List.setIfInBounds_toArray, List.set_cons_zero, List.set_cons_succ]))
            (refine wpAnyH_take (i := 1) (v := _) rfl (by kernel_rfl) (by kernel_rfl) (by kernel_rfl) (fun _ _ _ h => h) (yieldsIf_load_mid (by rfl) 45 _ rfl _ _ rfl (ints t) _ (fun w' hSw => hSw.1.holds.range) Try.underlying45 rfl (hi2)) hHeld ?_; (try simp only [List.getElem_toArray, List.getElem_cons_zero, List.getElem_cons_succ, Act.put, List.setIfInBounds_toArray, List.set_cons_zero, List.set_cons_succ]))
            (refine wpAnyH_take (i := 3) (v := ?_) rfl (by kernel_rfl) (by kernel_rfl) (by kernel_rfl) (fun _ _ _ h => h) (Or.inl ⟨by rfl, ?_⟩) hHeld ?_; rotate_left; (· (intro w' hSw; go_simp; try with_reducible rfl)); (try simp only [List.getElem_toArray, List.getElem_cons_zero, List.getElem_cons_succ, Act.put, List.setIfInBounds_toArray, List.set_cons_zero, List.set_cons_succ]))
            (refine wpAnyH_ready (rs := [4]) (by kernel_rfl) (by simp) ?_; refine AllReadyH.cons (o := _) rfl (fun K hK => ?_) AllReadyH.nil; (simp only [List.getElem_toArray, List.getElem_cons_zero, List.getElem_cons_succ, Region.wanted, if_true]))
            go_simp
            refine (KI.out t _ L6.out K9.out hHeld.2.2.1).mono ?_
            rintro e w3 ⟨rfl, bq⟩
            dsimp only
            (try simp only [List.getElem_toArray, List.getElem_cons_zero, List.getElem_cons_succ, Act.put, List.setIfInBounds_toArray, List.set_cons_zero, List.set_cons_succ])
            refine hK.out _ _ ⟨hHeld.1.below bq, hHeld.2.1.below bq, hHeld.2.2.1.below bq, hHeld.2.2.2.call bq⟩ (fun hHeld => ?_)
            clear hK K bq
            generalize sm ms (o + 1) t = v at *
            have wz : IntKind.i64.wrap ((z : Int) + (v : Int)) = ((z + v : Nat) : Int) := by rw [IntWalk.i64_in _ (by omega)]; omega
            obtain ⟨u, hu⟩ : ∃ u, u = z + v := ⟨_, rfl⟩
            rw [← hu] at wz ES
            clear hu
            (refine wpAnyH_take (i := 5) (v := ?_) rfl (by kernel_rfl) (by kernel_rfl) (by kernel_rfl) (fun _ _ _ h => h) (Or.inl ⟨by rfl, ?_⟩) hHeld ?_; rotate_left; (· (intro w' hSw; go_simp; try with_reducible rfl)); (try simp only [List.getElem_toArray, List.getElem_cons_zero, List.getElem_cons_succ, Act.put, List.setIfInBounds_toArray, List.set_cons_zero, List.set_cons_succ])); (refine wpAnyH_take (i := 6) (v := ?_) rfl (by kernel_rfl) (by kernel_rfl) (by kernel_rfl) (fun _ _ _ h => h) (Or.inl ⟨by rfl, ?_⟩) hHeld ?_; rotate_left; (· (intro w' hSw; go_simp; try with_reducible rfl)); (try simp only [List.getElem_toArray, List.getElem_cons_zero, List.getElem_cons_succ, Act.put, List.setIfInBounds_toArray, List.set_cons_zero, List.set_cons_succ]))
            refine wpAnyH_done (by kernel_rfl) ?_ _
            have GH := hHeld.2.1
            have GG := hHeld.2.2.1
            have BB := Lib.hid hHeld.2.2.2
            clear hHeld
            go_wp2_with fail
            go_roundw
            case rel => exact ⟨d + 1, by omega, by omega, by go_num, by rw [ES.out], GH, GG, BB⟩
            case measure => simp [intOf]; omega
          · have g0 : decide (0 ≤ y - x) = false := decide_eq_false (by omega)
            have fn := FN.out d (by rw [HY.out]; omega)
            rw [fn, Nat.add_zero] at ES
            have S5 := Lib.hid S2
            have S6 := Lib.hid S3
            have g1 : decide (x ≤ y) = false := decide_eq_false hxy
            clear fn S1 S2 S3
            go_wp2_with fail
            go_roundw
            case rel => exact ⟨d + 1, by omega, by omega, by go_num, by rw [ES.out]; rfl, S5.out, S6.out, S4⟩
            case measure => simp [intOf]; omega
        · obtain rfl : d = 6 := by omega
          go_wp2_with fail
          go_ret
          exact ⟨by rw [ER.out]; rfl, HB.out⟩

set_option maxHeartbeats 1600000 in
set_option maxRecDepth 100000 in
theorem implDealSame (ms cs : List Int) (w : World) (h1 : ms.length = 6) (h2 : cs.length = 6) :
    Calls Try.prog 16 #[row ms, row cs] w fun e w' => e = .returned (.tuple #[.agg (ints (sameA ms cs)).toArray, .bool (dV ms cs)]) ∧ Kept w w' := by
  have H1 := ((Has.box w 22 h1 (by omega)).alloc (.cells (ints cs).toArray 22)).alloc (.cells #[.int .i64 0, .int .i64 0] 23)
  have H2 := ((Has.box (w.alloc (.cells (ints ms).toArray 22)) 22 h2 (by omega)).at (size1 _ _)).alloc (.cells #[.int .i64 0, .int .i64 0] 23)
  have Z := (Has.zero2v ((w.alloc (.cells (ints ms).toArray 22)).alloc (.cells (ints cs).toArray 22)) 23).at (c := w.heap.size + 1 + 1) (by simp)
  have HB := Lib.hid ((((kept_refl w).alloc (.cells (ints ms).toArray 22)).alloc (.cells (ints cs).toArray 22)).alloc (.cells #[.int .i64 0, .int .i64 0] 23))
  rw [row_ints, row_ints]
  have KD := Lib.hid (fun W => implCountDeals ms cs W h1 h2)
  go_enter Try.func16, Try.ntmps16
  go_wp2_with (refine load_has rfl 22 _ rfl _ rfl ?_ 6 ?_ _ Try.underlying22 rfl ?_ ?_; rotate_left; (· (repeat (first | (with_reducible assumption) | ((with_reducible refine Has.box _ _ ?_ ?_) <;> (first | assumption | decide)) | (with_reducible refine Has.alloc ?_ _) | ((with_reducible refine Has.putOther ?_ _ _ ?_); rotate_left; omega; skip) | ((with_reducible refine Has.below ?_ ?_); rotate_left; assumption)))); (· kernel_rfl))
  refine (KD.out _).mono ?_
  rintro e w1 ⟨rfl, b1⟩
  have H3 := H1.below b1
  have H4 := H2.below b1
  have Z1 := Z.below b1
  have HB1 := Lib.hid (HB.out.call b1)
  clear H1 H2 Z HB b1
  by_cases hv : dV ms cs = true
  rotate_left
  · have O := Lib.hid (sameA_not hv)
    have hf : dV ms cs = false := by simpa using hv
    rw [hf]
    clear hv hf KD
    generalize dealsA ms cs = D at *
    have S1 := Lib.hid (Z1.putAll z2 rfl)
    have S2 := Lib.hid (HB1.out.puts (b := w.heap.size + 1 + 1) (by omega) 0 (ints z2))
    clear HB1
    go_wp2_with (first | (refine build_law rfl 23 rfl _ build2z ?_) | (refine store_at rfl 23 _ _ rfl _ _ rfl rfl ?_ 2 ?_ ?_ ?_ ?_; rotate_left; (· (repeat (first | (with_reducible assumption) | ((with_reducible refine Has.box _ _ ?_ ?_) <;> (first | assumption | decide)) | (with_reducible refine Has.alloc ?_ _) | ((with_reducible refine Has.putOther ?_ _ _ ?_); rotate_left; omega; skip) | ((with_reducible refine Has.below ?_ ?_); rotate_left; assumption)))); (· (first | assumption | rfl)); (· kernel_rfl)))
    exact bodyPost_ret (res_has1 rfl _ _ (w.heap.size + 1 + 1) z2 2 _ (.bool false) rfl rfl S1.out Try.underlying23 rfl (by kernel_rfl)) rfl ⟨by rw [O.out.1, O.out.2], S2.out⟩
  obtain ⟨L, F⟩ := dealFacts hv
  have O := Lib.hid (show dV ms cs = true ∧ sameA ms cs = frac (sm ms 0 cs) (ordA cs) from ⟨hv, by unfold sameA sm; rw [if_pos hv]; rfl⟩)
  have hd : dealsA ms cs = ordA cs := by unfold dealsA; rw [if_pos hv]
  have o1 := ordA_24 h2 (fun j hj => (F.cnt j hj).1) F.zero (by have := F.cpl; have := F.small; omega)
  have o2 : 0 < ordA cs := ordA_pos (fun j hj => (F.cnt j hj).1)
  have o3 := sm_le ms cs 0 h1
  have KP := Lib.hid (fun (V : World) (h : Has V w.heap.size ms 6) => plain_any ms w.heap.size h1 F.many 6 0 0 cs V (by omega) (by omega) h2 F.cnt h)
  have KF := Lib.hid (fun W => fraction_any (sm ms 0 cs) (ordA cs) W o2 (by omega) (by omega))
  have fl := frac_len (sm ms 0 cs) (ordA cs)
  have li : (ints cs).length = 6 := by rw [ints_len]; exact h2
  have hi1 : (Try.prog.info? 22).map (·.size) = some (ints cs).length := by rw [li]; kernel_rfl
  have lf : (ints (frac (sm ms 0 cs) (ordA cs))).length = 2 := rfl
  have hi2 : (Try.prog.info? 23).map (·.size) = some (ints (frac (sm ms 0 cs) (ordA cs))).length := by rw [lf]; kernel_rfl
  rw [hv, hd]
  clear hv hd F o1 o2 o3 KD
  generalize sm ms 0 cs = x at *
  generalize ordA cs = y at *
  go_wp2_with fail
  refine wp_region_held_drew (S := fun w' => Has w' w.heap.size ms 6 ∧ Has w' (w.heap.size + 1) cs 6 ∧ (∃ zs, Has w' (w.heap.size + 1 + 1) zs 2) ∧ Kept w w') (by kernel_rfl) ⟨H3.drew, H4.drew, ⟨_, Z1.drew⟩, HB1.out.drewN 1⟩ (fun hHeld => ?_)
  clear H3 H4 Z1 HB1
  generalize World.drew _ = WD at *
  (refine wpAnyH_take (i := 0) (v := _) rfl (by kernel_rfl) (by kernel_rfl) (by kernel_rfl) (fun _ _ _ h => h) (yieldsIf_load_mid (by rfl) 22 _ rfl _ _ rfl (ints cs) _ (fun w' hSw => hSw.2.1.holds.range) Try.underlying22 rfl (hi1)) hHeld ?_; (try simp only [List.getElem_toArray, List.getElem_cons_zero, List.getElem_cons_succ, Act.put, List.setIfInBounds_toArray, List.set_cons_zero, List.set_cons_succ]))
  (refine wpAnyH_take (i := 1) (v := ?_) rfl (by kernel_rfl) (by kernel_rfl) (by kernel_rfl) (fun _ _ _ h => h) (Or.inl ⟨by rfl, ?_⟩) hHeld ?_; rotate_left; (· (intro w' hSw; go_simp; try with_reducible rfl)); (try simp only [List.getElem_toArray, List.getElem_cons_zero, List.getElem_cons_succ, Act.put, List.setIfInBounds_toArray, List.set_cons_zero, List.set_cons_succ])); (refine wpAnyH_take (i := 3) (v := ?_) rfl (by kernel_rfl) (by kernel_rfl) (by kernel_rfl) (fun _ _ _ h => h) (Or.inl ⟨by rfl, ?_⟩) hHeld ?_; rotate_left; (· (intro w' hSw; go_simp; try with_reducible rfl)); (try simp only [List.getElem_toArray, List.getElem_cons_zero, List.getElem_cons_succ, Act.put, List.setIfInBounds_toArray, List.set_cons_zero, List.set_cons_succ]))
  (refine wpAnyH_ready (rs := [2]) (by kernel_rfl) (by simp) ?_; refine AllReadyH.cons (o := _) rfl (fun K hK => ?_) AllReadyH.nil; (simp only [List.getElem_toArray, List.getElem_cons_zero, List.getElem_cons_succ, Region.wanted, if_true]))
  go_simp
  refine (KP.out _ hHeld.1).mono ?_
  rintro e w3 ⟨rfl, bq⟩
  dsimp only
  (try simp only [List.getElem_toArray, List.getElem_cons_zero, List.getElem_cons_succ, Act.put, List.setIfInBounds_toArray, List.set_cons_zero, List.set_cons_succ])
  refine hK.out _ _ ⟨hHeld.1.below bq, hHeld.2.1.below bq, ⟨_, hHeld.2.2.1.choose_spec.below bq⟩, hHeld.2.2.2.call bq⟩ (fun hHeld => ?_)
  clear hK K bq
  (refine wpAnyH_ready (rs := [4]) (by kernel_rfl) (by simp) ?_; refine AllReadyH.cons (o := _) rfl (fun K hK => ?_) AllReadyH.nil; (simp only [List.getElem_toArray, List.getElem_cons_zero, List.getElem_cons_succ, Region.wanted, if_true]))
  go_simp
  refine (KF.out _).mono ?_
  rintro e w4 ⟨rfl, bq⟩
  dsimp only
  (try simp only [List.getElem_toArray, List.getElem_cons_zero, List.getElem_cons_succ, Act.put, List.setIfInBounds_toArray, List.set_cons_zero, List.set_cons_succ])
  refine hK.out _ _ ⟨hHeld.1.below bq, hHeld.2.1.below bq, ⟨_, hHeld.2.2.1.choose_spec.below bq⟩, hHeld.2.2.2.call bq⟩ (fun hHeld => ?_)
  clear hK K bq
  have S0 := hHeld.2.2.1.choose_spec
  have S1 := S0.putAll (frac x y) fl
  have S2 := hHeld.2.2.2.puts (b := w.heap.size + 1 + 1) (by omega) 0 (ints (frac x y))
  have S3 := hHeld.1.putOther (b' := w.heap.size + 1 + 1) 0 (ints (frac x y)) (by omega)
  have S4 := hHeld.2.1.putOther (b' := w.heap.size + 1 + 1) 0 (ints (frac x y)) (by omega)
  (refine wpAnyH_ready (rs := [5]) (by kernel_rfl) (by simp) ?_; refine AllReadyH.cons (o := _) rfl (fun K hK => ?_) AllReadyH.nil; (simp only [List.getElem_toArray, List.getElem_cons_zero, List.getElem_cons_succ, Region.wanted, if_true]); refine wp_store_mid _ _ _ rfl _ _ (ints (frac x y)).toArray rfl rfl (by simpa [lf] using S0.there) (by simpa [lf] using hi2) (all_oneCell_toArray (ints_one _)) ?_; (try simp only [List.getElem_toArray, List.getElem_cons_zero, List.getElem_cons_succ, Act.put, List.setIfInBounds_toArray, List.set_cons_zero, List.set_cons_succ, List.toList_toArray]); refine hK.out _ _ (⟨S3, S4, ⟨_, S1⟩, S2⟩) (fun hHeld => ?_); clear hK K)
  (refine wpAnyH_take (i := 6) (v := ?_) rfl (by kernel_rfl) (by kernel_rfl) (by kernel_rfl) (fun _ _ _ h => h) (Or.inl ⟨by rfl, ?_⟩) hHeld ?_; rotate_left; (· (intro w' hSw; go_simp; try with_reducible rfl)); (try simp only [List.getElem_toArray, List.getElem_cons_zero, List.getElem_cons_succ, Act.put, List.setIfInBounds_toArray, List.set_cons_zero, List.set_cons_succ]))
  refine wpAnyH_done (by kernel_rfl) ?_ _
  clear hHeld
  go_wp2_with fail
  exact bodyPost_ret (res_has1 rfl _ _ (w.heap.size + 1 + 1) (frac x y) 2 _ (.bool true) rfl rfl S1 Try.underlying23 rfl (by kernel_rfl)) rfl ⟨by rw [O.out.1, O.out.2], S2⟩
end Go.Proofs.Ytemiljokdedidaa.base
