/-
  The first form of a rack, on the model's side, walked.
-/
import Derived.Test.YtlleenepinijdaaClsS
import Derived.Test.YtlleenepinijdaaFstM
namespace Go.Proofs.Ytlleenepinijdaa.base
open Go.ChangeShapes Go.WideShapes Go.ChangeAt Go.RowKit
set_option linter.unusedVariables false
set_option linter.unusedSimpArgs false

set_option maxHeartbeats 3200000 in
set_option maxRecDepth 100000 in
theorem l4First_any (ns : List Int) (w : World) (h24 : ns.length = 24) (hv : vR ns = true) :
    Calls Try.prog 37 #[row ns] w fun e w' => e = .returned (.agg (ints (firstUp ns 120)).toArray) ∧ Kept w w' := by
  have HB := Lib.hid (((kept_refl w).alloc (.cells (ints ns).toArray 28)).alloc (.cells #[.int .i64 0, .int .i64 0, .int .i64 0, .int .i64 0, .int .i64 0, .int .i64 0, .int .i64 0, .int .i64 0, .int .i64 0, .int .i64 0, .int .i64 0, .int .i64 0, .int .i64 0, .int .i64 0, .int .i64 0, .int .i64 0, .int .i64 0, .int .i64 0, .int .i64 0, .int .i64 0, .int .i64 0, .int .i64 0, .int .i64 0, .int .i64 0] 28))
  have H := (Has.box w 28 h24 (by omega)).alloc (.cells #[.int .i64 0, .int .i64 0, .int .i64 0, .int .i64 0, .int .i64 0, .int .i64 0, .int .i64 0, .int .i64 0, .int .i64 0, .int .i64 0, .int .i64 0, .int .i64 0, .int .i64 0, .int .i64 0, .int .i64 0, .int .i64 0, .int .i64 0, .int .i64 0, .int .i64 0, .int .i64 0, .int .i64 0, .int .i64 0, .int .i64 0, .int .i64 0] 28)
  have Z0 := (Has.zero24 (w.alloc (.cells (ints ns).toArray 28)) 28).at (size1 _ _)
  have hz : z24.length = 24 := rfl
  have hi1 : (Try.prog.info? 28).map (·.size) = some (ints ns).length := by rw [ints_len, h24]; kernel_rfl
  have hfl : (formL ns).length = 24 := formL_len ns h24
  rw [row_ints]
  go_enter Try.func37, Try.ntmps37
  go_wp2_with (refine load_has rfl 28 _ rfl _ rfl ?_ 24 ?_ _ Try.underlying28 rfl ?_ ?_; rotate_left; (· (repeat (first | (with_reducible assumption) | ((with_reducible refine Has.box _ _ ?_ ?_) <;> (first | assumption | decide)) | (with_reducible refine Has.alloc ?_ _) | ((with_reducible refine Has.putOther ?_ _ _ ?_); rotate_left; omega; skip) | ((with_reducible refine Has.below ?_ ?_); rotate_left; assumption)))); (· kernel_rfl))
  refine (l3Form_any ns _ h24).mono ?_
  rintro e w1 ⟨rfl, b1⟩
  replace H := H.below b1
  replace Z0 := Z0.below b1
  replace HB := Lib.hid (HB.out.call b1)
  clear b1
  go_wp2_with fail
  refine (l4AllNames_any _).mono ?_
  rintro e w2 ⟨v, rfl, q1, b2⟩
  have hw1 := HB.out.size
  have hZlt := (Z0.below b2).lt
  replace H := (H.below b2).alloc (.cells (ints (formL ns)).toArray 28)
  replace Z0 := (Z0.below b2).alloc (.cells (ints (formL ns)).toArray 28)
  replace HB := Lib.hid ((HB.out.call b2).alloc (.cells (ints (formL ns)).toArray 28))
  have F := Has.box w2 28 hfl (by omega)
  obtain ⟨a0, cap0, rfl⟩ := q1.shape
  obtain ⟨gp, cap, hv', hbp, hgp⟩ := q1.form (by rw [allN_len]; omega)
  injection hv' with h1 _ h3
  subst h1
  subst h3
  have hlt2 := b2.size
  have Q := Lib.hid ((q1.mono (b' := w.heap.size) (by omega)).alloc (.cells (ints (formL ns)).toArray 28))
  rw [allN_len] at Q ⊢
  clear q1 b2
  have HL := Lib.hid h24
  have HV := Lib.hid hv
  have FL := Lib.hid (firstUp_len h24)
  have F0 : Hid (firstUp ns 0 = formL ns) := Lib.hid rfl
  have FS : Hid (∀ k, firstUp ns (k + 1) = if ltL (rf ns (ag k)) (firstUp ns k) = true then rf ns (ag k) else firstUp ns k) := Lib.hid (fun _ => rfl)
  clear h24 hv
  replace F := F.asL F0.out.symm
  have hne0 : gp ≠ w2.heap.size := by omega
  go_wp2_with (refine store_new rfl 28 _ _ rfl _ _ _ rfl _ rfl _ rfl rfl ?_ ?_ ?_; (· (first | assumption | rfl)); (· kernel_rfl))
  generalize w2.alloc (.cells (ints (formL ns)).toArray 28) = W at *
  generalize w2.heap.size = c3 at *
  go_loopg [5] 120 (fun gk i wr => ∃ k : Nat, gk = 120 - k ∧ k ≤ 120 ∧ i = .int .i64 k ∧ Has wr w.heap.size ns 24 ∧ Has wr (w.heap.size + 1) z24 24 ∧ Has wr c3 (firstUp ns k) 24 ∧ Hid (Gr wr w.heap.size 31 6 (.slice (some ⟨gp, 0, none⟩) 120 cap0) allN) ∧ Hid (Kept w wr))
  case atStart => exact ⟨0, rfl, by omega, rfl, H, Z0, F, Q, HB⟩
  case round =>
    obtain ⟨k, rfl, hk, rfl, GH, GZ, GF, GQ, GB⟩ := hrel
    by_cases hk1 : k < 120
    · have hki : (k : Int) < 120 := by omega
      have hk0 : (0 : Int) ≤ (k : Int) := by omega
      have hgm := ag_mem hk1
      have hg6 := (allN_names hgm).2
      have FSk := Lib.hid (FS.out k)
      have HRG := Lib.hid (fun (W : World) (h : Gr W w.heap.size 31 6 (.slice (some ⟨gp, 0, none⟩) 120 cap0) allN) => (show W.rangeAt gp (k * 6) (ints (ag k)) from h.range allN_len.symm k hk1))
      have hrl := renR_len ns (ag k)
      have hrf : (rf ns (ag k)).length = 24 := formL_len _ hrl
      have hfk := FL.out k
      have HRF := Lib.hid (show formL (renR ns (ag k)) = rf ns (ag k) from rfl)
      clear hgm
      generalize ag k = g at *
      have hi6 : (Try.prog.info? 31).map (·.size) = some (ints g).length := by rw [ints_len, hg6]; kernel_rfl
      have l3 : (ints (rf ns g)).length = 24 := by rw [ints_len]; exact hrf
      have hi3 : (Try.prog.info? 28).map (·.size) = some (ints (rf ns g)).length := by rw [l3]; kernel_rfl
      go_wp2_with fail
      go_cut [6] from 10 to 26 (fun s6 wx => ∃ c : Nat, s6 = .pointer (some ⟨c, 0, none⟩) ∧ c ≠ c3 ∧ w.heap.size + 1 < c ∧ gp ≠ c ∧ Has wx c (rf ns g) 24 ∧ Has wx w.heap.size ns 24 ∧ Has wx (w.heap.size + 1) z24 24 ∧ Has wx c3 (firstUp ns k) 24 ∧ Hid (Gr wx w.heap.size 31 6 (.slice (some ⟨gp, 0, none⟩) 120 cap0) allN) ∧ Hid (Kept w wx))
      case first =>
        have DZ := GZ.drew
        have DF := GF.drew
        have DH := GH.drew
        have DQ := Lib.hid (GQ.out.drewN 1)
        change Hid (Gr (World.drew wr) _ _ _ _ _) at DQ
        have DB := Lib.hid (keptDrewS GB.out)
        refine wp_region_held_drew (S := fun w' => Has w' w.heap.size ns 24 ∧ Gr w' w.heap.size 31 6 (.slice (some ⟨gp, 0, none⟩) 120 cap0) allN) (by kernel_rfl) ⟨DH, DQ.out⟩ (fun hHeld => ?_)
        generalize hWD : World.drew wr = WD5 at *
        clear hWD GH GZ GF GQ GB
        (refine wpAnyH_take (i := 1) (v := ?_) rfl (by kernel_rfl) (by kernel_rfl) (by kernel_rfl) (fun _ _ _ h => h) (Or.inl ⟨by rfl, ?_⟩) hHeld ?_; rotate_left; (· (intro w' hSw; go_simp; try with_reducible rfl)); (try simp only [List.getElem_toArray, List.getElem_cons_zero, List.getElem_cons_succ, Act.put, List.setIfInBounds_toArray, List.set_cons_zero, List.set_cons_succ])); (refine wpAnyH_take (i := 2) (v := ?_) rfl (by kernel_rfl) (by kernel_rfl) (by kernel_rfl) (fun _ _ _ h => h) (Or.inl ⟨by rfl, ?_⟩) hHeld ?_; rotate_left; (· (intro w' hSw; go_simp; try with_reducible rfl)); (try simp only [List.getElem_toArray, List.getElem_cons_zero, List.getElem_cons_succ, Act.put, List.setIfInBounds_toArray, List.set_cons_zero, List.set_cons_succ])); (refine wpAnyH_take (i := 3) (v := ?_) rfl (by kernel_rfl) (by kernel_rfl) (by kernel_rfl) (fun _ _ _ h => h) (Or.inl ⟨by rfl, ?_⟩) hHeld ?_; rotate_left; (· (intro w' hSw; go_simp; try with_reducible rfl)); (try simp only [List.getElem_toArray, List.getElem_cons_zero, List.getElem_cons_succ, Act.put, List.setIfInBounds_toArray, List.set_cons_zero, List.set_cons_succ]))
        (refine wpAnyH_take (i := 0) (v := _) rfl (by kernel_rfl) (by kernel_rfl) (by kernel_rfl) (fun _ _ _ h => h) (yieldsIf_load_mid (by rfl) 28 _ rfl _ _ rfl (ints ns) _ (fun w' hSw => hSw.1.holds.range) Try.underlying28 rfl (hi1)) hHeld ?_; (try simp only [List.getElem_toArray, List.getElem_cons_zero, List.getElem_cons_succ, Act.put, List.setIfInBounds_toArray, List.set_cons_zero, List.set_cons_succ]))
        (refine wpAnyH_take (i := 4) (v := _) rfl (by kernel_rfl) (by kernel_rfl) (by kernel_rfl) (fun _ _ _ h => h) (yieldsIf_load_mid (by rfl) 31 _ rfl _ _ rfl (ints g) _ (fun w' hSw => HRG.out w' hSw.2) Try.underlying31 rfl (hi6)) hHeld ?_; (try simp only [List.getElem_toArray, List.getElem_cons_zero, List.getElem_cons_succ, Act.put, List.setIfInBounds_toArray, List.set_cons_zero, List.set_cons_succ]))
        refine wpAnyH_ready (rs := [5, 7]) (by kernel_rfl) (by simp) ?_
        refine AllReadyH.cons (o := _) rfl (fun K hK => ?_) (AllReadyH.cons (o := _) rfl (fun K hK => ?_) AllReadyH.nil)
        · (simp only [List.getElem_toArray, List.getElem_cons_zero, List.getElem_cons_succ, Region.wanted, if_true])
          go_simp
          refine (l4Rename_any ns g _ HL.out hg6 HV.out).mono ?_
          rintro e wc1 ⟨rfl, bc1⟩
          dsimp only
          (try simp only [List.getElem_toArray, List.getElem_cons_zero, List.getElem_cons_succ, Act.put, List.setIfInBounds_toArray, List.set_cons_zero, List.set_cons_succ])
          refine hK.out _ _ ⟨hHeld.1.below bc1, hHeld.2.below bc1⟩ (fun hHeld => ?_)
          clear hK K
          replace DH := DH.below bc1
          replace DZ := DZ.below bc1
          replace DF := DF.below bc1
          replace DQ := Lib.hid (DQ.out.below bc1)
          replace DB := Lib.hid (DB.out.call bc1)
          clear bc1
          refine wpAnyH_ready (rs := [6, 7]) (by kernel_rfl) (by simp) ?_
          refine AllReadyH.cons (o := _) rfl (fun K hK => ?_) (AllReadyH.cons (o := _) rfl (fun K hK => ?_) AllReadyH.nil)
          · (simp only [List.getElem_toArray, List.getElem_cons_zero, List.getElem_cons_succ, Region.wanted, if_true])
            go_simp
            refine (l3Form_any (renR ns g) _ hrl).mono ?_
            rintro e wc2 ⟨rfl, bc2⟩
            dsimp only
            (try simp only [List.getElem_toArray, List.getElem_cons_zero, List.getElem_cons_succ, Act.put, List.setIfInBounds_toArray, List.set_cons_zero, List.set_cons_succ])
            rw [HRF.out]
            refine hK.out _ _ ⟨hHeld.1.below bc2, hHeld.2.below bc2⟩ (fun hHeld => ?_)
            clear hK K
            replace DH := DH.below bc2
            replace DZ := DZ.below bc2
            replace DF := DF.below bc2
            replace DQ := Lib.hid (DQ.out.below bc2)
            replace DB := Lib.hid (DB.out.call bc2)
            clear bc2
            (refine wpAnyH_ready (rs := [7]) (by kernel_rfl) (by simp) ?_; refine AllReadyH.cons (o := _) rfl (fun K hK => ?_) AllReadyH.nil; (simp only [List.getElem_toArray, List.getElem_cons_zero, List.getElem_cons_succ, Region.wanted, if_true]))
            go_simp
            refine hK.out _ _ ⟨hHeld.1.alloc _, hHeld.2.alloc _⟩ (fun hHeld => ?_)
            clear hK K
            have ltB := DB.out.size
            have lt1 := DH.lt
            have lt2 := DZ.lt
            have lt3 := DF.lt
            have ltQ := (DQ.out.own gp rfl).2
            have Z := Has.zero24 wc2 28
            replace DH := DH.alloc (.cells #[.int .i64 0, .int .i64 0, .int .i64 0, .int .i64 0, .int .i64 0, .int .i64 0, .int .i64 0, .int .i64 0, .int .i64 0, .int .i64 0, .int .i64 0, .int .i64 0, .int .i64 0, .int .i64 0, .int .i64 0, .int .i64 0, .int .i64 0, .int .i64 0, .int .i64 0, .int .i64 0, .int .i64 0, .int .i64 0, .int .i64 0, .int .i64 0] 28)
            replace DZ := DZ.alloc (.cells #[.int .i64 0, .int .i64 0, .int .i64 0, .int .i64 0, .int .i64 0, .int .i64 0, .int .i64 0, .int .i64 0, .int .i64 0, .int .i64 0, .int .i64 0, .int .i64 0, .int .i64 0, .int .i64 0, .int .i64 0, .int .i64 0, .int .i64 0, .int .i64 0, .int .i64 0, .int .i64 0, .int .i64 0, .int .i64 0, .int .i64 0, .int .i64 0] 28)
            replace DF := DF.alloc (.cells #[.int .i64 0, .int .i64 0, .int .i64 0, .int .i64 0, .int .i64 0, .int .i64 0, .int .i64 0, .int .i64 0, .int .i64 0, .int .i64 0, .int .i64 0, .int .i64 0, .int .i64 0, .int .i64 0, .int .i64 0, .int .i64 0, .int .i64 0, .int .i64 0, .int .i64 0, .int .i64 0, .int .i64 0, .int .i64 0, .int .i64 0, .int .i64 0] 28)
            replace DB := Lib.hid (DB.out.alloc (.cells #[.int .i64 0, .int .i64 0, .int .i64 0, .int .i64 0, .int .i64 0, .int .i64 0, .int .i64 0, .int .i64 0, .int .i64 0, .int .i64 0, .int .i64 0, .int .i64 0, .int .i64 0, .int .i64 0, .int .i64 0, .int .i64 0, .int .i64 0, .int .i64 0, .int .i64 0, .int .i64 0, .int .i64 0, .int .i64 0, .int .i64 0, .int .i64 0] 28))
            replace DQ := Lib.hid (DQ.out.alloc (.cells #[.int .i64 0, .int .i64 0, .int .i64 0, .int .i64 0, .int .i64 0, .int .i64 0, .int .i64 0, .int .i64 0, .int .i64 0, .int .i64 0, .int .i64 0, .int .i64 0, .int .i64 0, .int .i64 0, .int .i64 0, .int .i64 0, .int .i64 0, .int .i64 0, .int .i64 0, .int .i64 0, .int .i64 0, .int .i64 0, .int .i64 0, .int .i64 0] 28))
            generalize hcc : wc2.heap.size = cc at *
            clear hcc
            generalize wc2.alloc (.cells #[.int .i64 0, .int .i64 0, .int .i64 0, .int .i64 0, .int .i64 0, .int .i64 0, .int .i64 0, .int .i64 0, .int .i64 0, .int .i64 0, .int .i64 0, .int .i64 0, .int .i64 0, .int .i64 0, .int .i64 0, .int .i64 0, .int .i64 0, .int .i64 0, .int .i64 0, .int .i64 0, .int .i64 0, .int .i64 0, .int .i64 0, .int .i64 0] 28) = WA3 at *
            have HSP := fun (W : World) (h : Gr W w.heap.size 31 6 (.slice (some ⟨gp, 0, none⟩) 120 cap0) allN) => h.puts cc 0 (ints (rf ns g)) (fun z hz e => by have hz := Option.some.inj (show some gp = some z from hz); omega)
            (refine wpAnyH_ready (rs := [8]) (by kernel_rfl) (by simp) ?_; refine AllReadyH.cons (o := _) rfl (fun K hK => ?_) AllReadyH.nil; (simp only [List.getElem_toArray, List.getElem_cons_zero, List.getElem_cons_succ, Region.wanted, if_true]); refine wp_store_mid _ _ _ rfl _ _ (ints (rf ns g)).toArray rfl rfl (by simpa [l3] using Z.there) (by simpa [l3] using hi3) (all_oneCell_toArray (ints_one _)) ?_; (try simp only [List.getElem_toArray, List.getElem_cons_zero, List.getElem_cons_succ, Act.put, List.setIfInBounds_toArray, List.set_cons_zero, List.set_cons_succ, List.toList_toArray]); refine hK.out _ _ (⟨hHeld.1.putOther _ _ (by omega), HSP _ hHeld.2⟩) (fun hHeld => ?_); clear hK K)
            refine wpAnyH_done (by kernel_rfl) ?_ _
            have R := Z.putAll (rf ns g) hrf
            replace DH := DH.putOther (b' := cc) 0 (ints (rf ns g)) (by omega)
            replace DZ := DZ.putOther (b' := cc) 0 (ints (rf ns g)) (by omega)
            replace DF := DF.putOther (b' := cc) 0 (ints (rf ns g)) (by omega)
            replace DQ := Lib.hid (DQ.out.puts cc 0 (ints (rf ns g)) (fun z hz e => by have hz := Option.some.inj (show some gp = some z from hz); omega))
            replace DB := Lib.hid (DB.out.puts (b := cc) (by omega) 0 (ints (rf ns g)))
            go_wp2_with fail
            go_meet
            case rel => exact ⟨cc, rfl, by omega, by omega, by omega, R, DH, DZ, DF, DQ, DB⟩
          · (simp only [List.getElem_toArray, List.getElem_cons_zero, List.getElem_cons_succ, Region.wanted, if_true])
            go_simp
            refine hK.out _ _ ⟨hHeld.1.alloc _, hHeld.2.alloc _⟩ (fun hHeld => ?_)
            clear hK K
            have ltB := DB.out.size
            have lt1 := DH.lt
            have lt2 := DZ.lt
            have lt3 := DF.lt
            have ltQ := (DQ.out.own gp rfl).2
            have Z := Has.zero24 wc1 28
            replace DH := DH.alloc (.cells #[.int .i64 0, .int .i64 0, .int .i64 0, .int .i64 0, .int .i64 0, .int .i64 0, .int .i64 0, .int .i64 0, .int .i64 0, .int .i64 0, .int .i64 0, .int .i64 0, .int .i64 0, .int .i64 0, .int .i64 0, .int .i64 0, .int .i64 0, .int .i64 0, .int .i64 0, .int .i64 0, .int .i64 0, .int .i64 0, .int .i64 0, .int .i64 0] 28)
            replace DZ := DZ.alloc (.cells #[.int .i64 0, .int .i64 0, .int .i64 0, .int .i64 0, .int .i64 0, .int .i64 0, .int .i64 0, .int .i64 0, .int .i64 0, .int .i64 0, .int .i64 0, .int .i64 0, .int .i64 0, .int .i64 0, .int .i64 0, .int .i64 0, .int .i64 0, .int .i64 0, .int .i64 0, .int .i64 0, .int .i64 0, .int .i64 0, .int .i64 0, .int .i64 0] 28)
            replace DF := DF.alloc (.cells #[.int .i64 0, .int .i64 0, .int .i64 0, .int .i64 0, .int .i64 0, .int .i64 0, .int .i64 0, .int .i64 0, .int .i64 0, .int .i64 0, .int .i64 0, .int .i64 0, .int .i64 0, .int .i64 0, .int .i64 0, .int .i64 0, .int .i64 0, .int .i64 0, .int .i64 0, .int .i64 0, .int .i64 0, .int .i64 0, .int .i64 0, .int .i64 0] 28)
            replace DB := Lib.hid (DB.out.alloc (.cells #[.int .i64 0, .int .i64 0, .int .i64 0, .int .i64 0, .int .i64 0, .int .i64 0, .int .i64 0, .int .i64 0, .int .i64 0, .int .i64 0, .int .i64 0, .int .i64 0, .int .i64 0, .int .i64 0, .int .i64 0, .int .i64 0, .int .i64 0, .int .i64 0, .int .i64 0, .int .i64 0, .int .i64 0, .int .i64 0, .int .i64 0, .int .i64 0] 28))
            replace DQ := Lib.hid (DQ.out.alloc (.cells #[.int .i64 0, .int .i64 0, .int .i64 0, .int .i64 0, .int .i64 0, .int .i64 0, .int .i64 0, .int .i64 0, .int .i64 0, .int .i64 0, .int .i64 0, .int .i64 0, .int .i64 0, .int .i64 0, .int .i64 0, .int .i64 0, .int .i64 0, .int .i64 0, .int .i64 0, .int .i64 0, .int .i64 0, .int .i64 0, .int .i64 0, .int .i64 0] 28))
            generalize hcc : wc1.heap.size = cc at *
            clear hcc
            generalize wc1.alloc (.cells #[.int .i64 0, .int .i64 0, .int .i64 0, .int .i64 0, .int .i64 0, .int .i64 0, .int .i64 0, .int .i64 0, .int .i64 0, .int .i64 0, .int .i64 0, .int .i64 0, .int .i64 0, .int .i64 0, .int .i64 0, .int .i64 0, .int .i64 0, .int .i64 0, .int .i64 0, .int .i64 0, .int .i64 0, .int .i64 0, .int .i64 0, .int .i64 0] 28) = WA4 at *
            (refine wpAnyH_ready (rs := [6]) (by kernel_rfl) (by simp) ?_; refine AllReadyH.cons (o := _) rfl (fun K hK => ?_) AllReadyH.nil; (simp only [List.getElem_toArray, List.getElem_cons_zero, List.getElem_cons_succ, Region.wanted, if_true]))
            go_simp
            refine (l3Form_any (renR ns g) _ hrl).mono ?_
            rintro e wc5 ⟨rfl, bc5⟩
            dsimp only
            (try simp only [List.getElem_toArray, List.getElem_cons_zero, List.getElem_cons_succ, Act.put, List.setIfInBounds_toArray, List.set_cons_zero, List.set_cons_succ])
            rw [HRF.out]
            refine hK.out _ _ ⟨hHeld.1.below bc5, hHeld.2.below bc5⟩ (fun hHeld => ?_)
            clear hK K
            replace DH := DH.below bc5
            replace DZ := DZ.below bc5
            replace DF := DF.below bc5
            replace DQ := Lib.hid (DQ.out.below bc5)
            replace DB := Lib.hid (DB.out.call bc5)
            replace Z := Z.below bc5
            clear bc5
            have HSP := fun (W : World) (h : Gr W w.heap.size 31 6 (.slice (some ⟨gp, 0, none⟩) 120 cap0) allN) => h.puts cc 0 (ints (rf ns g)) (fun z hz e => by have hz := Option.some.inj (show some gp = some z from hz); omega)
            (refine wpAnyH_ready (rs := [8]) (by kernel_rfl) (by simp) ?_; refine AllReadyH.cons (o := _) rfl (fun K hK => ?_) AllReadyH.nil; (simp only [List.getElem_toArray, List.getElem_cons_zero, List.getElem_cons_succ, Region.wanted, if_true]); refine wp_store_mid _ _ _ rfl _ _ (ints (rf ns g)).toArray rfl rfl (by simpa [l3] using Z.there) (by simpa [l3] using hi3) (all_oneCell_toArray (ints_one _)) ?_; (try simp only [List.getElem_toArray, List.getElem_cons_zero, List.getElem_cons_succ, Act.put, List.setIfInBounds_toArray, List.set_cons_zero, List.set_cons_succ, List.toList_toArray]); refine hK.out _ _ (⟨hHeld.1.putOther _ _ (by omega), HSP _ hHeld.2⟩) (fun hHeld => ?_); clear hK K)
            refine wpAnyH_done (by kernel_rfl) ?_ _
            have R := Z.putAll (rf ns g) hrf
            replace DH := DH.putOther (b' := cc) 0 (ints (rf ns g)) (by omega)
            replace DZ := DZ.putOther (b' := cc) 0 (ints (rf ns g)) (by omega)
            replace DF := DF.putOther (b' := cc) 0 (ints (rf ns g)) (by omega)
            replace DQ := Lib.hid (DQ.out.puts cc 0 (ints (rf ns g)) (fun z hz e => by have hz := Option.some.inj (show some gp = some z from hz); omega))
            replace DB := Lib.hid (DB.out.puts (b := cc) (by omega) 0 (ints (rf ns g)))
            go_wp2_with fail
            go_meet
            case rel => exact ⟨cc, rfl, by omega, by omega, by omega, R, DH, DZ, DF, DQ, DB⟩
        · (simp only [List.getElem_toArray, List.getElem_cons_zero, List.getElem_cons_succ, Region.wanted, if_true])
          go_simp
          refine hK.out _ _ ⟨hHeld.1.alloc _, hHeld.2.alloc _⟩ (fun hHeld => ?_)
          clear hK K
          have ltB := DB.out.size
          have lt1 := DH.lt
          have lt2 := DZ.lt
          have lt3 := DF.lt
          have ltQ := (DQ.out.own gp rfl).2
          have Z := Has.zero24 WD5 28
          replace DH := DH.alloc (.cells #[.int .i64 0, .int .i64 0, .int .i64 0, .int .i64 0, .int .i64 0, .int .i64 0, .int .i64 0, .int .i64 0, .int .i64 0, .int .i64 0, .int .i64 0, .int .i64 0, .int .i64 0, .int .i64 0, .int .i64 0, .int .i64 0, .int .i64 0, .int .i64 0, .int .i64 0, .int .i64 0, .int .i64 0, .int .i64 0, .int .i64 0, .int .i64 0] 28)
          replace DZ := DZ.alloc (.cells #[.int .i64 0, .int .i64 0, .int .i64 0, .int .i64 0, .int .i64 0, .int .i64 0, .int .i64 0, .int .i64 0, .int .i64 0, .int .i64 0, .int .i64 0, .int .i64 0, .int .i64 0, .int .i64 0, .int .i64 0, .int .i64 0, .int .i64 0, .int .i64 0, .int .i64 0, .int .i64 0, .int .i64 0, .int .i64 0, .int .i64 0, .int .i64 0] 28)
          replace DF := DF.alloc (.cells #[.int .i64 0, .int .i64 0, .int .i64 0, .int .i64 0, .int .i64 0, .int .i64 0, .int .i64 0, .int .i64 0, .int .i64 0, .int .i64 0, .int .i64 0, .int .i64 0, .int .i64 0, .int .i64 0, .int .i64 0, .int .i64 0, .int .i64 0, .int .i64 0, .int .i64 0, .int .i64 0, .int .i64 0, .int .i64 0, .int .i64 0, .int .i64 0] 28)
          replace DB := Lib.hid (DB.out.alloc (.cells #[.int .i64 0, .int .i64 0, .int .i64 0, .int .i64 0, .int .i64 0, .int .i64 0, .int .i64 0, .int .i64 0, .int .i64 0, .int .i64 0, .int .i64 0, .int .i64 0, .int .i64 0, .int .i64 0, .int .i64 0, .int .i64 0, .int .i64 0, .int .i64 0, .int .i64 0, .int .i64 0, .int .i64 0, .int .i64 0, .int .i64 0, .int .i64 0] 28))
          replace DQ := Lib.hid (DQ.out.alloc (.cells #[.int .i64 0, .int .i64 0, .int .i64 0, .int .i64 0, .int .i64 0, .int .i64 0, .int .i64 0, .int .i64 0, .int .i64 0, .int .i64 0, .int .i64 0, .int .i64 0, .int .i64 0, .int .i64 0, .int .i64 0, .int .i64 0, .int .i64 0, .int .i64 0, .int .i64 0, .int .i64 0, .int .i64 0, .int .i64 0, .int .i64 0, .int .i64 0] 28))
          generalize hcc : WD5.heap.size = cc at *
          clear hcc
          generalize WD5.alloc (.cells #[.int .i64 0, .int .i64 0, .int .i64 0, .int .i64 0, .int .i64 0, .int .i64 0, .int .i64 0, .int .i64 0, .int .i64 0, .int .i64 0, .int .i64 0, .int .i64 0, .int .i64 0, .int .i64 0, .int .i64 0, .int .i64 0, .int .i64 0, .int .i64 0, .int .i64 0, .int .i64 0, .int .i64 0, .int .i64 0, .int .i64 0, .int .i64 0] 28) = WA6 at *
          (refine wpAnyH_ready (rs := [5]) (by kernel_rfl) (by simp) ?_; refine AllReadyH.cons (o := _) rfl (fun K hK => ?_) AllReadyH.nil; (simp only [List.getElem_toArray, List.getElem_cons_zero, List.getElem_cons_succ, Region.wanted, if_true]))
          go_simp
          refine (l4Rename_any ns g _ HL.out hg6 HV.out).mono ?_
          rintro e wc7 ⟨rfl, bc7⟩
          dsimp only
          (try simp only [List.getElem_toArray, List.getElem_cons_zero, List.getElem_cons_succ, Act.put, List.setIfInBounds_toArray, List.set_cons_zero, List.set_cons_succ])
          refine hK.out _ _ ⟨hHeld.1.below bc7, hHeld.2.below bc7⟩ (fun hHeld => ?_)
          clear hK K
          replace DH := DH.below bc7
          replace DZ := DZ.below bc7
          replace DF := DF.below bc7
          replace DQ := Lib.hid (DQ.out.below bc7)
          replace DB := Lib.hid (DB.out.call bc7)
          replace Z := Z.below bc7
          clear bc7
          (refine wpAnyH_ready (rs := [6]) (by kernel_rfl) (by simp) ?_; refine AllReadyH.cons (o := _) rfl (fun K hK => ?_) AllReadyH.nil; (simp only [List.getElem_toArray, List.getElem_cons_zero, List.getElem_cons_succ, Region.wanted, if_true]))
          go_simp
          refine (l3Form_any (renR ns g) _ hrl).mono ?_
          rintro e wc8 ⟨rfl, bc8⟩
          dsimp only
          (try simp only [List.getElem_toArray, List.getElem_cons_zero, List.getElem_cons_succ, Act.put, List.setIfInBounds_toArray, List.set_cons_zero, List.set_cons_succ])
          rw [HRF.out]
          refine hK.out _ _ ⟨hHeld.1.below bc8, hHeld.2.below bc8⟩ (fun hHeld => ?_)
          clear hK K
          replace DH := DH.below bc8
          replace DZ := DZ.below bc8
          replace DF := DF.below bc8
          replace DQ := Lib.hid (DQ.out.below bc8)
          replace DB := Lib.hid (DB.out.call bc8)
          replace Z := Z.below bc8
          clear bc8
          have HSP := fun (W : World) (h : Gr W w.heap.size 31 6 (.slice (some ⟨gp, 0, none⟩) 120 cap0) allN) => h.puts cc 0 (ints (rf ns g)) (fun z hz e => by have hz := Option.some.inj (show some gp = some z from hz); omega)
          (refine wpAnyH_ready (rs := [8]) (by kernel_rfl) (by simp) ?_; refine AllReadyH.cons (o := _) rfl (fun K hK => ?_) AllReadyH.nil; (simp only [List.getElem_toArray, List.getElem_cons_zero, List.getElem_cons_succ, Region.wanted, if_true]); refine wp_store_mid _ _ _ rfl _ _ (ints (rf ns g)).toArray rfl rfl (by simpa [l3] using Z.there) (by simpa [l3] using hi3) (all_oneCell_toArray (ints_one _)) ?_; (try simp only [List.getElem_toArray, List.getElem_cons_zero, List.getElem_cons_succ, Act.put, List.setIfInBounds_toArray, List.set_cons_zero, List.set_cons_succ, List.toList_toArray]); refine hK.out _ _ (⟨hHeld.1.putOther _ _ (by omega), HSP _ hHeld.2⟩) (fun hHeld => ?_); clear hK K)
          refine wpAnyH_done (by kernel_rfl) ?_ _
          have R := Z.putAll (rf ns g) hrf
          replace DH := DH.putOther (b' := cc) 0 (ints (rf ns g)) (by omega)
          replace DZ := DZ.putOther (b' := cc) 0 (ints (rf ns g)) (by omega)
          replace DF := DF.putOther (b' := cc) 0 (ints (rf ns g)) (by omega)
          replace DQ := Lib.hid (DQ.out.puts cc 0 (ints (rf ns g)) (fun z hz e => by have hz := Option.some.inj (show some gp = some z from hz); omega))
          replace DB := Lib.hid (DB.out.puts (b := cc) (by omega) 0 (ints (rf ns g)))
          go_wp2_with fail
          go_meet
          case rel => exact ⟨cc, rfl, by omega, by omega, by omega, R, DH, DZ, DF, DQ, DB⟩
      clear GH GZ GF GQ GB
      obtain ⟨c, rfl, hcn, hcw, hcg, HX, GH, GZ, GF, GQ, GB⟩ := hcut
      go_wp2_with (refine load_has rfl 28 _ rfl _ rfl ?_ 24 ?_ _ Try.underlying28 rfl ?_ ?_; rotate_left; (· (repeat (first | (with_reducible assumption) | ((with_reducible refine Has.box _ _ ?_ ?_) <;> (first | assumption | decide)) | (with_reducible refine Has.alloc ?_ _) | ((with_reducible refine Has.putOther ?_ _ _ ?_); rotate_left; omega; skip) | ((with_reducible refine Has.below ?_ ?_); rotate_left; assumption)))); (· kernel_rfl))
      refine (l2Before_any (rf ns g) (firstUp ns k) _ hrf hfk).mono ?_
      rintro e w7 ⟨rfl, b7⟩
      replace HX := HX.below b7
      replace GH := GH.below b7
      replace GZ := GZ.below b7
      replace GF := GF.below b7
      replace GQ := Lib.hid (GQ.out.below b7)
      replace GB := Lib.hid (GB.out.call b7)
      clear b7
      obtain ⟨bv, hbv⟩ : ∃ bv, ltL (rf ns g) (firstUp ns k) = bv := ⟨_, rfl⟩
      rw [hbv]
      cases bv with
      | true =>
        have V := Lib.hid (show firstUp ns (k + 1) = rf ns g by rw [FSk.out, if_pos hbv])
        have KH := GH.putOther (b' := c3) 0 (ints (rf ns g)) (by omega)
        have KZ := GZ.putOther (b' := c3) 0 (ints (rf ns g)) (by omega)
        have KF := (GF.putAll (rf ns g) hrf).asL V.out.symm
        have KQ := Lib.hid (GQ.out.puts c3 0 (ints (rf ns g)) (fun z hz e => by have hz := Option.some.inj (show some gp = some z from hz); omega))
        have KB := Lib.hid (GB.out.puts (b := c3) (by omega) 0 (ints (rf ns g)))
        clear hbv GH GZ GQ GB
        go_wp2_with (first | (refine load_has rfl 28 _ rfl _ rfl ?_ 24 ?_ _ Try.underlying28 rfl ?_ ?_; rotate_left; (· (repeat (first | (with_reducible assumption) | ((with_reducible refine Has.box _ _ ?_ ?_) <;> (first | assumption | decide)) | (with_reducible refine Has.alloc ?_ _) | ((with_reducible refine Has.putOther ?_ _ _ ?_); rotate_left; omega; skip) | ((with_reducible refine Has.below ?_ ?_); rotate_left; assumption)))); (· kernel_rfl)) | (refine store_at rfl 28 _ _ rfl _ _ rfl rfl ?_ 24 ?_ ?_ ?_ ?_; rotate_left; (· (repeat (first | (with_reducible assumption) | ((with_reducible refine Has.box _ _ ?_ ?_) <;> (first | assumption | decide)) | (with_reducible refine Has.alloc ?_ _) | ((with_reducible refine Has.putOther ?_ _ _ ?_); rotate_left; omega; skip) | ((with_reducible refine Has.below ?_ ?_); rotate_left; assumption)))); (· (first | assumption | rfl)); (· kernel_rfl)))
        go_roundg (120 - (k + 1))
        case rel => exact ⟨k + 1, rfl, by omega, by go_num, KH, KZ, KF, KQ, KB⟩
        case measure => omega
      | false =>
        have V := Lib.hid (show firstUp ns (k + 1) = firstUp ns k by rw [FSk.out, hbv]; rfl)
        replace GF := GF.asL V.out.symm
        clear hbv
        go_wp2_with fail
        go_roundg (120 - (k + 1))
        case rel => exact ⟨k + 1, rfl, by omega, by go_num, GH, GZ, GF, GQ, GB⟩
        case measure => omega
    · obtain rfl : k = 120 := by omega
      have hfk := FL.out 120
      have S1 := GZ.putAll (firstUp ns 120) hfk
      have S2 := Lib.hid (GB.out.puts (b := w.heap.size + 1) (by omega) 0 (ints (firstUp ns 120)))
      go_wp2_with (first | (refine load_has rfl 28 _ rfl _ rfl ?_ 24 ?_ _ Try.underlying28 rfl ?_ ?_; rotate_left; (· (repeat (first | (with_reducible assumption) | ((with_reducible refine Has.box _ _ ?_ ?_) <;> (first | assumption | decide)) | (with_reducible refine Has.alloc ?_ _) | ((with_reducible refine Has.putOther ?_ _ _ ?_); rotate_left; omega; skip) | ((with_reducible refine Has.below ?_ ?_); rotate_left; assumption)))); (· kernel_rfl)) | (refine store_at rfl 28 _ _ rfl _ _ rfl rfl ?_ 24 ?_ ?_ ?_ ?_; rotate_left; (· (repeat (first | (with_reducible assumption) | ((with_reducible refine Has.box _ _ ?_ ?_) <;> (first | assumption | decide)) | (with_reducible refine Has.alloc ?_ _) | ((with_reducible refine Has.putOther ?_ _ _ ?_); rotate_left; omega; skip) | ((with_reducible refine Has.below ?_ ?_); rotate_left; assumption)))); (· (first | assumption | rfl)); (· kernel_rfl)))
      exact bodyPost_ret (res_has (P := Try.prog) rfl _ _ (w.heap.size + 1) (firstUp ns 120) 24 _ rfl S1 Try.underlying28 rfl (by kernel_rfl)) rfl ⟨rfl, S2.out⟩

set_option maxHeartbeats 800000 in
theorem specFirst (ns : List Int) (w : World) (h24 : ns.length = 24) :
    Calls Try.prog 18 #[row ns] w fun e w' => e = .returned (.tuple #[.agg (ints (firstR ns)).toArray, .bool (vR ns)]) ∧ Kept w w' := by
  have HB := Lib.hid (((kept_refl w).alloc (.cells (ints ns).toArray 28)).alloc (.cells #[.int .i64 0, .int .i64 0, .int .i64 0, .int .i64 0, .int .i64 0, .int .i64 0, .int .i64 0, .int .i64 0, .int .i64 0, .int .i64 0, .int .i64 0, .int .i64 0, .int .i64 0, .int .i64 0, .int .i64 0, .int .i64 0, .int .i64 0, .int .i64 0, .int .i64 0, .int .i64 0, .int .i64 0, .int .i64 0, .int .i64 0, .int .i64 0] 28))
  have H := (Has.box w 28 h24 (by omega)).alloc (.cells #[.int .i64 0, .int .i64 0, .int .i64 0, .int .i64 0, .int .i64 0, .int .i64 0, .int .i64 0, .int .i64 0, .int .i64 0, .int .i64 0, .int .i64 0, .int .i64 0, .int .i64 0, .int .i64 0, .int .i64 0, .int .i64 0, .int .i64 0, .int .i64 0, .int .i64 0, .int .i64 0, .int .i64 0, .int .i64 0, .int .i64 0, .int .i64 0] 28)
  have Z := (Has.zero24 (w.alloc (.cells (ints ns).toArray 28)) 28).at (size1 _ _)
  have hz : z24.length = 24 := rfl
  rw [row_ints]
  go_enter Try.func18, Try.ntmps18
  go_wp2_with (refine load_has rfl 28 _ rfl _ rfl ?_ 24 ?_ _ Try.underlying28 rfl ?_ ?_; rotate_left; (· (repeat (first | (with_reducible assumption) | ((with_reducible refine Has.box _ _ ?_ ?_) <;> (first | assumption | decide)) | (with_reducible refine Has.alloc ?_ _) | ((with_reducible refine Has.putOther ?_ _ _ ?_); rotate_left; omega; skip) | ((with_reducible refine Has.below ?_ ?_); rotate_left; assumption)))); (· kernel_rfl))
  refine (l2Rack_any ns _ h24).mono ?_
  rintro e w1 ⟨rfl, b1⟩
  replace H := H.below b1
  replace Z := Z.below b1
  replace HB := Lib.hid (HB.out.call b1)
  clear b1
  by_cases hv : vR ns = true
  · rw [hv]
    have E1 := Lib.hid (show firstR ns = firstUp ns 120 by unfold firstR; rw [if_pos hv])
    have HV := Lib.hid hv
    have hl := firstUp_len h24 120
    go_wp2_with (refine load_has rfl 28 _ rfl _ rfl ?_ 24 ?_ _ Try.underlying28 rfl ?_ ?_; rotate_left; (· (repeat (first | (with_reducible assumption) | ((with_reducible refine Has.box _ _ ?_ ?_) <;> (first | assumption | decide)) | (with_reducible refine Has.alloc ?_ _) | ((with_reducible refine Has.putOther ?_ _ _ ?_); rotate_left; omega; skip) | ((with_reducible refine Has.below ?_ ?_); rotate_left; assumption)))); (· kernel_rfl))
    refine (l4First_any ns _ h24 hv).mono ?_
    rintro e w2 ⟨rfl, b2⟩
    replace Z := Z.below b2
    replace HB := Lib.hid (HB.out.call b2)
    clear b2 H hv
    generalize firstUp ns 120 = F at *
    have S1 := Z.putAll F hl
    have S2 := Lib.hid (HB.out.puts (b := w.heap.size + 1) (by omega) 0 (ints F))
    go_wp2_with (first | (refine load_has rfl 28 _ rfl _ rfl ?_ 24 ?_ _ Try.underlying28 rfl ?_ ?_; rotate_left; (· (repeat (first | (with_reducible assumption) | ((with_reducible refine Has.box _ _ ?_ ?_) <;> (first | assumption | decide)) | (with_reducible refine Has.alloc ?_ _) | ((with_reducible refine Has.putOther ?_ _ _ ?_); rotate_left; omega; skip) | ((with_reducible refine Has.below ?_ ?_); rotate_left; assumption)))); (· kernel_rfl)) | (refine store_at rfl 28 _ _ rfl _ _ rfl rfl ?_ 24 ?_ ?_ ?_ ?_; rotate_left; (· (repeat (first | (with_reducible assumption) | ((with_reducible refine Has.box _ _ ?_ ?_) <;> (first | assumption | decide)) | (with_reducible refine Has.alloc ?_ _) | ((with_reducible refine Has.putOther ?_ _ _ ?_); rotate_left; omega; skip) | ((with_reducible refine Has.below ?_ ?_); rotate_left; assumption)))); (· (first | assumption | rfl)); (· kernel_rfl)))
    exact bodyPost_ret (res_has1 rfl _ _ (w.heap.size + 1) F 24 _ (.bool true) rfl rfl S1 Try.underlying28 rfl (by kernel_rfl)) rfl ⟨by rw [E1.out, HV.out], S2.out⟩
  · have hf : vR ns = false := by simpa using hv
    have E1 := Lib.hid (show firstR ns = z24 by unfold firstR; rw [if_neg hv])
    rw [hf]
    have HF := Lib.hid hf
    clear hv hf
    have S1 := Z.putAll z24 rfl
    have S2 := Lib.hid (HB.out.puts (b := w.heap.size + 1) (by omega) 0 (ints z24))
    go_wp2_with (first | (refine build_law rfl 28 rfl _ buildRack ?_) | (refine store_at rfl 28 _ _ rfl _ _ rfl rfl ?_ 24 ?_ ?_ ?_ ?_; rotate_left; (· (repeat (first | (with_reducible assumption) | ((with_reducible refine Has.box _ _ ?_ ?_) <;> (first | assumption | decide)) | (with_reducible refine Has.alloc ?_ _) | ((with_reducible refine Has.putOther ?_ _ _ ?_); rotate_left; omega; skip) | ((with_reducible refine Has.below ?_ ?_); rotate_left; assumption)))); (· (first | assumption | rfl)); (· kernel_rfl)))
    exact bodyPost_ret (res_has1 rfl _ _ (w.heap.size + 1) z24 24 _ (.bool false) rfl rfl S1 Try.underlying28 rfl (by kernel_rfl)) rfl ⟨by rw [E1.out, HF.out], S2.out⟩
end Go.Proofs.Ytlleenepinijdaa.base
