/-
  A form is looked up in a class, and how many renamings lead to the rack again, on the program's side, walked.
-/
import Derived.Test.YtlleenepinijdaaClsI
import Derived.Test.YtlleenepinijdaaEqR
import Derived.Deep.RegionHeld3
namespace Go.Proofs.Ytlleenepinijdaa.base
open Go.ChangeShapes Go.WideShapes Go.ChangeAt Go.RowKit
set_option linter.unusedVariables false
set_option linter.unusedSimpArgs false

theorem keptDrewJ {w w' : World} (h : Kept w w') : Kept w w'.drew := h.drewN 1
theorem clsV_look (a b : List Int) : (clsV a 120 (formL b)).getD (.agg (ints z6x).toArray) = .agg (ints ((rnTo a b).getD z6x)).toArray ∧ (clsV a 120 (formL b)).isSome = (rnTo a b).isSome := by
  unfold clsV rnTo
  cases clsF a 120 (formL b) with
  | none => exact ⟨rfl, rfl⟩
  | some g => exact ⟨rfl, rfl⟩
section
variable {P : Program} {w : World} {o : Oper} {a : Act} {K : Act → World → Prop} {Q : Exit → Act → World → Prop}
theorem wp_lookOkV {KT e : TypeId} {b n L : Nat} {f : List Int → Option Value} (m x : Operand) (t : TypeId) (hop : o.op = Op.lookup t m x true) (KL : Go.Maps.Keyed P KT) (ht : P.underlying t = some (.map KT e)) {z : Value} (hz : (zeroValue e).run P w = .ok z w)
    (hown : OwnV P w KT b n L f) (hm : a.eval m = .map (some b)) (key : Value) (hx : a.eval x = key) (r : List Int) (hr : KeyRow L r) (hkey : keyOf P KT key = some (keyL r)) (h : K (a.put o.dst (.tuple #[(f r).getD z, .bool (f r).isSome])) w) : Oper.wp P o a w K Q := by
  have hrun := hown.look_ok KL ht hz hr hkey
  unfold Oper.wp
  simp only [execOp, hop, hm, hx, hrun, Result.andThen, Sem.run_bind, Result.andThen_ok, Sem.run_pure]
  exact h
end
set_option maxHeartbeats 3200000 in
set_option maxRecDepth 100000 in
theorem implAreAlike (a b : List Int) (w : World) (ha : a.length = 24) (hb : b.length = 24) :
    Calls Try.prog 12 #[row a, row b] w fun e w' => e = .returned (.tuple #[.bool (rnOk a b), .bool (bothV a b)]) ∧ Kept w w' := by
  have HB := Lib.hid (((kept_refl w).alloc (.cells (ints a).toArray 28)).alloc (.cells (ints b).toArray 28))
  have H1 := (Has.box w 28 ha (by omega)).alloc (.cells (ints b).toArray 28)
  have H2 := (Has.box (w.alloc (.cells (ints a).toArray 28)) 28 hb (by omega)).at (size1 _ _)
  have hz : z6x.length = 6 := rfl
  have hi1 : (Try.prog.info? 28).map (·.size) = some (ints a).length := by rw [ints_len, ha]; kernel_rfl
  have hi2 : (Try.prog.info? 28).map (·.size) = some (ints b).length := by rw [ints_len, hb]; kernel_rfl
  rw [row_ints, row_ints]
  go_enter Try.func12, Try.ntmps12
  go_wp2_with (refine load_has rfl 28 _ rfl _ rfl ?_ 24 ?_ _ Try.underlying28 rfl ?_ ?_; rotate_left; (· (repeat (first | (with_reducible assumption) | ((with_reducible refine Has.box _ _ ?_ ?_) <;> (first | assumption | decide)) | (with_reducible refine Has.alloc ?_ _) | ((with_reducible refine Has.putOther ?_ _ _ ?_); rotate_left; omega; skip) | ((with_reducible refine Has.below ?_ ?_); rotate_left; assumption)))); (· kernel_rfl))
  refine (isRack_any a _ ha).mono ?_
  rintro e w1 ⟨rfl, b1⟩
  replace H1 := H1.below b1
  replace H2 := H2.below b1
  replace HB := Lib.hid (HB.out.call b1)
  clear b1
  by_cases va : vR a = true
  · rw [va]
    have VA := Lib.hid va
    go_wp2_with (refine load_has rfl 28 _ rfl _ rfl ?_ 24 ?_ _ Try.underlying28 rfl ?_ ?_; rotate_left; (· (repeat (first | (with_reducible assumption) | ((with_reducible refine Has.box _ _ ?_ ?_) <;> (first | assumption | decide)) | (with_reducible refine Has.alloc ?_ _) | ((with_reducible refine Has.putOther ?_ _ _ ?_); rotate_left; omega; skip) | ((with_reducible refine Has.below ?_ ?_); rotate_left; assumption)))); (· kernel_rfl))
    refine (isRack_any b _ hb).mono ?_
    rintro e w2 ⟨rfl, b2⟩
    replace H1 := H1.below b2
    replace H2 := H2.below b2
    replace HB := Lib.hid (HB.out.call b2)
    clear b2
    by_cases vb : vR b = true
    · rw [vb]
      have VB := Lib.hid vb
      have LK := Lib.hid (clsV_look a b)
      have ROW := Lib.hid (form_row hb (layers_col hb vb))
      have KEY := Lib.hid (form_keyC ROW.out)
      have HQ := Lib.hid (show rnR a b = (rnTo a b).getD z6x by unfold rnR; rw [if_pos ⟨va, vb⟩])
      have HO := Lib.hid (show rnOk a b = (rnTo a b).isSome by unfold rnOk; rw [decide_eq_true ⟨va, vb⟩]; rfl)
      have HV := Lib.hid (show bothV a b = true by unfold bothV; rw [va, vb]; rfl)
      have KC := Lib.hid (fun W => classOf_any a W ha va)
      have KF := Lib.hid (fun W => formOf_any b W hb)
      have hfl : (formL b).length = 24 := formL_len b hb
      have hgl : ((rnTo a b).getD z6x).length = 6 := by
        cases h : rnTo a b with
        | none => rfl
        | some g => exact rnTo_len h
      have l3 : (ints ((rnTo a b).getD z6x)).length = 6 := by rw [ints_len]; exact hgl
      have hi3 : (Try.prog.info? 31).map (·.size) = some (ints ((rnTo a b).getD z6x)).length := by rw [l3]; kernel_rfl
      clear va vb ha hb
      generalize clsN a 120 = CN at *
      generalize clsV a 120 = CV at *
      generalize formL b = FB at *
      generalize (rnTo a b).isSome = OK at *
      generalize (rnTo a b).getD z6x = RA at *
      go_wp2_with fail
      go_cut [6, 7] from 16 to 23 (fun s6 s7 wx => ∃ c : Nat, s6 = .pointer (some ⟨c, 0, none⟩) ∧ s7 = .bool OK ∧ Has wx c RA 6 ∧ Hid (Kept w wx))
      case first =>
        have DH1 := H1.drew
        have DH2 := H2.drew
        have DB := Lib.hid (keptDrewJ HB.out)
        clear H1 H2 HB
        refine wp_region_held_drew (S := fun w' => Has w' w.heap.size a 24 ∧ Has w' (w.heap.size + 1) b 24) (by kernel_rfl) ⟨DH1, DH2⟩ (fun hHeld => ?_)
        generalize hWD : World.drew _ = WD5 at *
        clear hWD
        (refine wpAnyH_take (i := 0) (v := _) rfl (by kernel_rfl) (by kernel_rfl) (by kernel_rfl) (fun _ _ _ h => h) (yieldsIf_load_mid (by rfl) 28 _ rfl _ _ rfl (ints a) _ (fun w' hSw => hSw.1.holds.range) Try.underlying28 rfl (hi1)) hHeld ?_; (try simp only [List.getElem_toArray, List.getElem_cons_zero, List.getElem_cons_succ, Act.put, List.setIfInBounds_toArray, List.set_cons_zero, List.set_cons_succ]))
        (refine wpAnyH_take (i := 2) (v := _) rfl (by kernel_rfl) (by kernel_rfl) (by kernel_rfl) (fun _ _ _ h => h) (yieldsIf_load_mid (by rfl) 28 _ rfl _ _ rfl (ints b) _ (fun w' hSw => hSw.2.holds.range) Try.underlying28 rfl (hi2)) hHeld ?_; (try simp only [List.getElem_toArray, List.getElem_cons_zero, List.getElem_cons_succ, Act.put, List.setIfInBounds_toArray, List.set_cons_zero, List.set_cons_succ]))
        refine wpAnyH_ready (rs := [1, 8]) (by kernel_rfl) (by simp) ?_
        refine AllReadyH.cons (o := _) rfl (fun K hK => ?_) (AllReadyH.cons (o := _) rfl (fun K hK => ?_) AllReadyH.nil)
        · (simp only [List.getElem_toArray, List.getElem_cons_zero, List.getElem_cons_succ, Region.wanted, if_true])
          go_simp
          refine (KC.out _).mono ?_
          rintro e wc1 ⟨gm, rfl, gle, HM, bc1⟩
          dsimp only
          (try simp only [List.getElem_toArray, List.getElem_cons_zero, List.getElem_cons_succ, Act.put, List.setIfInBounds_toArray, List.set_cons_zero, List.set_cons_succ])
          refine hK.out _ _ ⟨hHeld.1.below bc1, hHeld.2.below bc1⟩ (fun hHeld => ?_)
          clear hK K
          replace HM := Lib.hid HM
          replace DH1 := DH1.below bc1
          replace DH2 := DH2.below bc1
          replace DB := Lib.hid (DB.out.call bc1)
          clear bc1
          refine wpAnyH_ready (rs := [3, 8]) (by kernel_rfl) (by simp) ?_
          refine AllReadyH.cons (o := _) rfl (fun K hK => ?_) (AllReadyH.cons (o := _) rfl (fun K hK => ?_) AllReadyH.nil)
          · (simp only [List.getElem_toArray, List.getElem_cons_zero, List.getElem_cons_succ, Region.wanted, if_true])
            go_simp
            refine (KF.out _).mono ?_
            rintro e wc2 ⟨rfl, bc2⟩
            dsimp only
            (try simp only [List.getElem_toArray, List.getElem_cons_zero, List.getElem_cons_succ, Act.put, List.setIfInBounds_toArray, List.set_cons_zero, List.set_cons_succ])
            refine hK.out _ _ ⟨hHeld.1.below bc2, hHeld.2.below bc2⟩ (fun hHeld => ?_)
            clear hK K
            replace HM := Lib.hid (HM.out.below bc2)
            replace DH1 := DH1.below bc2
            replace DH2 := DH2.below bc2
            replace DB := Lib.hid (DB.out.call bc2)
            clear bc2
            refine wpAnyH_ready (rs := [4, 8]) (by kernel_rfl) (by simp) ?_
            refine AllReadyH.cons (o := _) rfl (fun K hK => ?_) (AllReadyH.cons (o := _) rfl (fun K hK => ?_) AllReadyH.nil)
            · (simp only [List.getElem_toArray, List.getElem_cons_zero, List.getElem_cons_succ, Region.wanted, if_true])
              refine wp_lookOkV _ _ 47 rfl formKeyedC Try.underlying47 (zeroSix _) HM.out rfl (.agg (ints FB).toArray) rfl FB ROW.out KEY.out ?_
              rw [LK.out.1, LK.out.2]
              (try simp only [List.getElem_toArray, List.getElem_cons_zero, List.getElem_cons_succ, Act.put, List.setIfInBounds_toArray, List.set_cons_zero, List.set_cons_succ])
              refine hK.out _ _ hHeld (fun hHeld => ?_)
              clear hK K
              (refine wpAnyH_take (i := 5) (v := ?_) rfl (by kernel_rfl) (by kernel_rfl) (by kernel_rfl) (fun _ _ _ h => h) (Or.inl ⟨by rfl, ?_⟩) hHeld ?_; rotate_left; (· (intro w' hSw; go_simp; try with_reducible rfl)); (try simp only [List.getElem_toArray, List.getElem_cons_zero, List.getElem_cons_succ, Act.put, List.setIfInBounds_toArray, List.set_cons_zero, List.set_cons_succ])); (refine wpAnyH_take (i := 6) (v := ?_) rfl (by kernel_rfl) (by kernel_rfl) (by kernel_rfl) (fun _ _ _ h => h) (Or.inl ⟨by rfl, ?_⟩) hHeld ?_; rotate_left; (· (intro w' hSw; go_simp; try with_reducible rfl)); (try simp only [List.getElem_toArray, List.getElem_cons_zero, List.getElem_cons_succ, Act.put, List.setIfInBounds_toArray, List.set_cons_zero, List.set_cons_succ])); (refine wpAnyH_take (i := 7) (v := ?_) rfl (by kernel_rfl) (by kernel_rfl) (by kernel_rfl) (fun _ _ _ h => h) (Or.inl ⟨by rfl, ?_⟩) hHeld ?_; rotate_left; (· (intro w' hSw; go_simp; try with_reducible rfl)); (try simp only [List.getElem_toArray, List.getElem_cons_zero, List.getElem_cons_succ, Act.put, List.setIfInBounds_toArray, List.set_cons_zero, List.set_cons_succ]))
              (refine wpAnyH_ready (rs := [8]) (by kernel_rfl) (by simp) ?_; refine AllReadyH.cons (o := _) rfl (fun K hK => ?_) AllReadyH.nil; (simp only [List.getElem_toArray, List.getElem_cons_zero, List.getElem_cons_succ, Region.wanted, if_true]))
              go_simp
              refine hK.out _ _ ⟨hHeld.1.alloc _, hHeld.2.alloc _⟩ (fun hHeld => ?_)
              clear hK K
              have ltB := DB.out.size
              have lt1 := DH1.lt
              have lt2 := DH2.lt

              have Z := Has.zero6x wc2 31
              replace DH1 := DH1.alloc (.cells #[.int .i64 0, .int .i64 0, .int .i64 0, .int .i64 0, .int .i64 0, .int .i64 0] 31)
              replace DH2 := DH2.alloc (.cells #[.int .i64 0, .int .i64 0, .int .i64 0, .int .i64 0, .int .i64 0, .int .i64 0] 31)
              replace DB := Lib.hid (DB.out.alloc (.cells #[.int .i64 0, .int .i64 0, .int .i64 0, .int .i64 0, .int .i64 0, .int .i64 0] 31))
              replace HM := Lib.hid (HM.out.alloc (.cells #[.int .i64 0, .int .i64 0, .int .i64 0, .int .i64 0, .int .i64 0, .int .i64 0] 31))
              generalize hcc : wc2.heap.size = cc at *
              clear hcc
              generalize wc2.alloc (.cells #[.int .i64 0, .int .i64 0, .int .i64 0, .int .i64 0, .int .i64 0, .int .i64 0] 31) = WA4 at *
              (refine wpAnyH_ready (rs := [9]) (by kernel_rfl) (by simp) ?_; refine AllReadyH.cons (o := _) rfl (fun K hK => ?_) AllReadyH.nil; (simp only [List.getElem_toArray, List.getElem_cons_zero, List.getElem_cons_succ, Region.wanted, if_true]); refine wp_store_mid _ _ _ rfl _ _ (ints RA).toArray rfl rfl (by simpa [l3] using Z.there) (by simpa [l3] using hi3) (all_oneCell_toArray (ints_one _)) ?_; (try simp only [List.getElem_toArray, List.getElem_cons_zero, List.getElem_cons_succ, Act.put, List.setIfInBounds_toArray, List.set_cons_zero, List.set_cons_succ, List.toList_toArray]); refine hK.out _ _ (⟨hHeld.1.putOther _ _ (by omega), hHeld.2.putOther _ _ (by omega)⟩) (fun hHeld => ?_); clear hK K)
              (refine wpAnyH_take (i := 10) (v := ?_) rfl (by kernel_rfl) (by kernel_rfl) (by kernel_rfl) (fun _ _ _ h => h) (Or.inl ⟨by rfl, ?_⟩) hHeld ?_; rotate_left; (· (intro w' hSw; go_simp; try with_reducible rfl)); (try simp only [List.getElem_toArray, List.getElem_cons_zero, List.getElem_cons_succ, Act.put, List.setIfInBounds_toArray, List.set_cons_zero, List.set_cons_succ]))
              refine wpAnyH_done (by kernel_rfl) ?_ _
              have R := Z.putAll RA hgl
              replace DB := Lib.hid (DB.out.puts (b := cc) (by omega) 0 (ints RA))
              go_wp2_with fail
              go_meet
              case rel => exact ⟨cc, rfl, rfl, R, DB⟩
            · (simp only [List.getElem_toArray, List.getElem_cons_zero, List.getElem_cons_succ, Region.wanted, if_true])
              go_simp
              refine hK.out _ _ ⟨hHeld.1.alloc _, hHeld.2.alloc _⟩ (fun hHeld => ?_)
              clear hK K
              have ltB := DB.out.size
              have lt1 := DH1.lt
              have lt2 := DH2.lt

              have Z := Has.zero6x wc2 31
              replace DH1 := DH1.alloc (.cells #[.int .i64 0, .int .i64 0, .int .i64 0, .int .i64 0, .int .i64 0, .int .i64 0] 31)
              replace DH2 := DH2.alloc (.cells #[.int .i64 0, .int .i64 0, .int .i64 0, .int .i64 0, .int .i64 0, .int .i64 0] 31)
              replace DB := Lib.hid (DB.out.alloc (.cells #[.int .i64 0, .int .i64 0, .int .i64 0, .int .i64 0, .int .i64 0, .int .i64 0] 31))
              replace HM := Lib.hid (HM.out.alloc (.cells #[.int .i64 0, .int .i64 0, .int .i64 0, .int .i64 0, .int .i64 0, .int .i64 0] 31))
              generalize hcc : wc2.heap.size = cc at *
              clear hcc
              generalize wc2.alloc (.cells #[.int .i64 0, .int .i64 0, .int .i64 0, .int .i64 0, .int .i64 0, .int .i64 0] 31) = WA5 at *
              (refine wpAnyH_ready (rs := [4]) (by kernel_rfl) (by simp) ?_; refine AllReadyH.cons (o := _) rfl (fun K hK => ?_) AllReadyH.nil; (simp only [List.getElem_toArray, List.getElem_cons_zero, List.getElem_cons_succ, Region.wanted, if_true]))
              refine wp_lookOkV _ _ 47 rfl formKeyedC Try.underlying47 (zeroSix _) HM.out rfl (.agg (ints FB).toArray) rfl FB ROW.out KEY.out ?_
              rw [LK.out.1, LK.out.2]
              (try simp only [List.getElem_toArray, List.getElem_cons_zero, List.getElem_cons_succ, Act.put, List.setIfInBounds_toArray, List.set_cons_zero, List.set_cons_succ])
              refine hK.out _ _ hHeld (fun hHeld => ?_)
              clear hK K
              (refine wpAnyH_take (i := 5) (v := ?_) rfl (by kernel_rfl) (by kernel_rfl) (by kernel_rfl) (fun _ _ _ h => h) (Or.inl ⟨by rfl, ?_⟩) hHeld ?_; rotate_left; (· (intro w' hSw; go_simp; try with_reducible rfl)); (try simp only [List.getElem_toArray, List.getElem_cons_zero, List.getElem_cons_succ, Act.put, List.setIfInBounds_toArray, List.set_cons_zero, List.set_cons_succ])); (refine wpAnyH_take (i := 6) (v := ?_) rfl (by kernel_rfl) (by kernel_rfl) (by kernel_rfl) (fun _ _ _ h => h) (Or.inl ⟨by rfl, ?_⟩) hHeld ?_; rotate_left; (· (intro w' hSw; go_simp; try with_reducible rfl)); (try simp only [List.getElem_toArray, List.getElem_cons_zero, List.getElem_cons_succ, Act.put, List.setIfInBounds_toArray, List.set_cons_zero, List.set_cons_succ])); (refine wpAnyH_take (i := 7) (v := ?_) rfl (by kernel_rfl) (by kernel_rfl) (by kernel_rfl) (fun _ _ _ h => h) (Or.inl ⟨by rfl, ?_⟩) hHeld ?_; rotate_left; (· (intro w' hSw; go_simp; try with_reducible rfl)); (try simp only [List.getElem_toArray, List.getElem_cons_zero, List.getElem_cons_succ, Act.put, List.setIfInBounds_toArray, List.set_cons_zero, List.set_cons_succ]))
              (refine wpAnyH_ready (rs := [9]) (by kernel_rfl) (by simp) ?_; refine AllReadyH.cons (o := _) rfl (fun K hK => ?_) AllReadyH.nil; (simp only [List.getElem_toArray, List.getElem_cons_zero, List.getElem_cons_succ, Region.wanted, if_true]); refine wp_store_mid _ _ _ rfl _ _ (ints RA).toArray rfl rfl (by simpa [l3] using Z.there) (by simpa [l3] using hi3) (all_oneCell_toArray (ints_one _)) ?_; (try simp only [List.getElem_toArray, List.getElem_cons_zero, List.getElem_cons_succ, Act.put, List.setIfInBounds_toArray, List.set_cons_zero, List.set_cons_succ, List.toList_toArray]); refine hK.out _ _ (⟨hHeld.1.putOther _ _ (by omega), hHeld.2.putOther _ _ (by omega)⟩) (fun hHeld => ?_); clear hK K)
              (refine wpAnyH_take (i := 10) (v := ?_) rfl (by kernel_rfl) (by kernel_rfl) (by kernel_rfl) (fun _ _ _ h => h) (Or.inl ⟨by rfl, ?_⟩) hHeld ?_; rotate_left; (· (intro w' hSw; go_simp; try with_reducible rfl)); (try simp only [List.getElem_toArray, List.getElem_cons_zero, List.getElem_cons_succ, Act.put, List.setIfInBounds_toArray, List.set_cons_zero, List.set_cons_succ]))
              refine wpAnyH_done (by kernel_rfl) ?_ _
              have R := Z.putAll RA hgl
              replace DB := Lib.hid (DB.out.puts (b := cc) (by omega) 0 (ints RA))
              go_wp2_with fail
              go_meet
              case rel => exact ⟨cc, rfl, rfl, R, DB⟩
          · (simp only [List.getElem_toArray, List.getElem_cons_zero, List.getElem_cons_succ, Region.wanted, if_true])
            go_simp
            refine hK.out _ _ ⟨hHeld.1.alloc _, hHeld.2.alloc _⟩ (fun hHeld => ?_)
            clear hK K
            have ltB := DB.out.size
            have lt1 := DH1.lt
            have lt2 := DH2.lt

            have Z := Has.zero6x wc1 31
            replace DH1 := DH1.alloc (.cells #[.int .i64 0, .int .i64 0, .int .i64 0, .int .i64 0, .int .i64 0, .int .i64 0] 31)
            replace DH2 := DH2.alloc (.cells #[.int .i64 0, .int .i64 0, .int .i64 0, .int .i64 0, .int .i64 0, .int .i64 0] 31)
            replace DB := Lib.hid (DB.out.alloc (.cells #[.int .i64 0, .int .i64 0, .int .i64 0, .int .i64 0, .int .i64 0, .int .i64 0] 31))
            replace HM := Lib.hid (HM.out.alloc (.cells #[.int .i64 0, .int .i64 0, .int .i64 0, .int .i64 0, .int .i64 0, .int .i64 0] 31))
            generalize hcc : wc1.heap.size = cc at *
            clear hcc
            generalize wc1.alloc (.cells #[.int .i64 0, .int .i64 0, .int .i64 0, .int .i64 0, .int .i64 0, .int .i64 0] 31) = WA7 at *
            (refine wpAnyH_ready (rs := [3]) (by kernel_rfl) (by simp) ?_; refine AllReadyH.cons (o := _) rfl (fun K hK => ?_) AllReadyH.nil; (simp only [List.getElem_toArray, List.getElem_cons_zero, List.getElem_cons_succ, Region.wanted, if_true]))
            go_simp
            refine (KF.out _).mono ?_
            rintro e wc8 ⟨rfl, bc8⟩
            dsimp only
            (try simp only [List.getElem_toArray, List.getElem_cons_zero, List.getElem_cons_succ, Act.put, List.setIfInBounds_toArray, List.set_cons_zero, List.set_cons_succ])
            refine hK.out _ _ ⟨hHeld.1.below bc8, hHeld.2.below bc8⟩ (fun hHeld => ?_)
            clear hK K
            replace HM := Lib.hid (HM.out.below bc8)
            replace DH1 := DH1.below bc8
            replace DH2 := DH2.below bc8
            replace DB := Lib.hid (DB.out.call bc8)
            replace Z := Z.below bc8
            clear bc8
            (refine wpAnyH_ready (rs := [4]) (by kernel_rfl) (by simp) ?_; refine AllReadyH.cons (o := _) rfl (fun K hK => ?_) AllReadyH.nil; (simp only [List.getElem_toArray, List.getElem_cons_zero, List.getElem_cons_succ, Region.wanted, if_true]))
            refine wp_lookOkV _ _ 47 rfl formKeyedC Try.underlying47 (zeroSix _) HM.out rfl (.agg (ints FB).toArray) rfl FB ROW.out KEY.out ?_
            rw [LK.out.1, LK.out.2]
            (try simp only [List.getElem_toArray, List.getElem_cons_zero, List.getElem_cons_succ, Act.put, List.setIfInBounds_toArray, List.set_cons_zero, List.set_cons_succ])
            refine hK.out _ _ hHeld (fun hHeld => ?_)
            clear hK K
            (refine wpAnyH_take (i := 5) (v := ?_) rfl (by kernel_rfl) (by kernel_rfl) (by kernel_rfl) (fun _ _ _ h => h) (Or.inl ⟨by rfl, ?_⟩) hHeld ?_; rotate_left; (· (intro w' hSw; go_simp; try with_reducible rfl)); (try simp only [List.getElem_toArray, List.getElem_cons_zero, List.getElem_cons_succ, Act.put, List.setIfInBounds_toArray, List.set_cons_zero, List.set_cons_succ])); (refine wpAnyH_take (i := 6) (v := ?_) rfl (by kernel_rfl) (by kernel_rfl) (by kernel_rfl) (fun _ _ _ h => h) (Or.inl ⟨by rfl, ?_⟩) hHeld ?_; rotate_left; (· (intro w' hSw; go_simp; try with_reducible rfl)); (try simp only [List.getElem_toArray, List.getElem_cons_zero, List.getElem_cons_succ, Act.put, List.setIfInBounds_toArray, List.set_cons_zero, List.set_cons_succ])); (refine wpAnyH_take (i := 7) (v := ?_) rfl (by kernel_rfl) (by kernel_rfl) (by kernel_rfl) (fun _ _ _ h => h) (Or.inl ⟨by rfl, ?_⟩) hHeld ?_; rotate_left; (· (intro w' hSw; go_simp; try with_reducible rfl)); (try simp only [List.getElem_toArray, List.getElem_cons_zero, List.getElem_cons_succ, Act.put, List.setIfInBounds_toArray, List.set_cons_zero, List.set_cons_succ]))
            (refine wpAnyH_ready (rs := [9]) (by kernel_rfl) (by simp) ?_; refine AllReadyH.cons (o := _) rfl (fun K hK => ?_) AllReadyH.nil; (simp only [List.getElem_toArray, List.getElem_cons_zero, List.getElem_cons_succ, Region.wanted, if_true]); refine wp_store_mid _ _ _ rfl _ _ (ints RA).toArray rfl rfl (by simpa [l3] using Z.there) (by simpa [l3] using hi3) (all_oneCell_toArray (ints_one _)) ?_; (try simp only [List.getElem_toArray, List.getElem_cons_zero, List.getElem_cons_succ, Act.put, List.setIfInBounds_toArray, List.set_cons_zero, List.set_cons_succ, List.toList_toArray]); refine hK.out _ _ (⟨hHeld.1.putOther _ _ (by omega), hHeld.2.putOther _ _ (by omega)⟩) (fun hHeld => ?_); clear hK K)
            (refine wpAnyH_take (i := 10) (v := ?_) rfl (by kernel_rfl) (by kernel_rfl) (by kernel_rfl) (fun _ _ _ h => h) (Or.inl ⟨by rfl, ?_⟩) hHeld ?_; rotate_left; (· (intro w' hSw; go_simp; try with_reducible rfl)); (try simp only [List.getElem_toArray, List.getElem_cons_zero, List.getElem_cons_succ, Act.put, List.setIfInBounds_toArray, List.set_cons_zero, List.set_cons_succ]))
            refine wpAnyH_done (by kernel_rfl) ?_ _
            have R := Z.putAll RA hgl
            replace DB := Lib.hid (DB.out.puts (b := cc) (by omega) 0 (ints RA))
            go_wp2_with fail
            go_meet
            case rel => exact ⟨cc, rfl, rfl, R, DB⟩
        · (simp only [List.getElem_toArray, List.getElem_cons_zero, List.getElem_cons_succ, Region.wanted, if_true])
          go_simp
          refine hK.out _ _ ⟨hHeld.1.alloc _, hHeld.2.alloc _⟩ (fun hHeld => ?_)
          clear hK K
          have ltB := DB.out.size
          have lt1 := DH1.lt
          have lt2 := DH2.lt

          have Z := Has.zero6x WD5 31
          replace DH1 := DH1.alloc (.cells #[.int .i64 0, .int .i64 0, .int .i64 0, .int .i64 0, .int .i64 0, .int .i64 0] 31)
          replace DH2 := DH2.alloc (.cells #[.int .i64 0, .int .i64 0, .int .i64 0, .int .i64 0, .int .i64 0, .int .i64 0] 31)
          replace DB := Lib.hid (DB.out.alloc (.cells #[.int .i64 0, .int .i64 0, .int .i64 0, .int .i64 0, .int .i64 0, .int .i64 0] 31))
          generalize hcc : WD5.heap.size = cc at *
          clear hcc
          generalize WD5.alloc (.cells #[.int .i64 0, .int .i64 0, .int .i64 0, .int .i64 0, .int .i64 0, .int .i64 0] 31) = WA10 at *
          (refine wpAnyH_ready (rs := [1]) (by kernel_rfl) (by simp) ?_; refine AllReadyH.cons (o := _) rfl (fun K hK => ?_) AllReadyH.nil; (simp only [List.getElem_toArray, List.getElem_cons_zero, List.getElem_cons_succ, Region.wanted, if_true]))
          go_simp
          refine (KC.out _).mono ?_
          rintro e wc11 ⟨gm, rfl, gle, HM, bc11⟩
          dsimp only
          (try simp only [List.getElem_toArray, List.getElem_cons_zero, List.getElem_cons_succ, Act.put, List.setIfInBounds_toArray, List.set_cons_zero, List.set_cons_succ])
          refine hK.out _ _ ⟨hHeld.1.below bc11, hHeld.2.below bc11⟩ (fun hHeld => ?_)
          clear hK K
          replace HM := Lib.hid HM
          replace DH1 := DH1.below bc11
          replace DH2 := DH2.below bc11
          replace DB := Lib.hid (DB.out.call bc11)
          replace Z := Z.below bc11
          clear bc11
          (refine wpAnyH_ready (rs := [3]) (by kernel_rfl) (by simp) ?_; refine AllReadyH.cons (o := _) rfl (fun K hK => ?_) AllReadyH.nil; (simp only [List.getElem_toArray, List.getElem_cons_zero, List.getElem_cons_succ, Region.wanted, if_true]))
          go_simp
          refine (KF.out _).mono ?_
          rintro e wc12 ⟨rfl, bc12⟩
          dsimp only
          (try simp only [List.getElem_toArray, List.getElem_cons_zero, List.getElem_cons_succ, Act.put, List.setIfInBounds_toArray, List.set_cons_zero, List.set_cons_succ])
          refine hK.out _ _ ⟨hHeld.1.below bc12, hHeld.2.below bc12⟩ (fun hHeld => ?_)
          clear hK K
          replace HM := Lib.hid (HM.out.below bc12)
          replace DH1 := DH1.below bc12
          replace DH2 := DH2.below bc12
          replace DB := Lib.hid (DB.out.call bc12)
          replace Z := Z.below bc12
          clear bc12
          (refine wpAnyH_ready (rs := [4]) (by kernel_rfl) (by simp) ?_; refine AllReadyH.cons (o := _) rfl (fun K hK => ?_) AllReadyH.nil; (simp only [List.getElem_toArray, List.getElem_cons_zero, List.getElem_cons_succ, Region.wanted, if_true]))
          refine wp_lookOkV _ _ 47 rfl formKeyedC Try.underlying47 (zeroSix _) HM.out rfl (.agg (ints FB).toArray) rfl FB ROW.out KEY.out ?_
          rw [LK.out.1, LK.out.2]
          (try simp only [List.getElem_toArray, List.getElem_cons_zero, List.getElem_cons_succ, Act.put, List.setIfInBounds_toArray, List.set_cons_zero, List.set_cons_succ])
          refine hK.out _ _ hHeld (fun hHeld => ?_)
          clear hK K
          (refine wpAnyH_take (i := 5) (v := ?_) rfl (by kernel_rfl) (by kernel_rfl) (by kernel_rfl) (fun _ _ _ h => h) (Or.inl ⟨by rfl, ?_⟩) hHeld ?_; rotate_left; (· (intro w' hSw; go_simp; try with_reducible rfl)); (try simp only [List.getElem_toArray, List.getElem_cons_zero, List.getElem_cons_succ, Act.put, List.setIfInBounds_toArray, List.set_cons_zero, List.set_cons_succ])); (refine wpAnyH_take (i := 6) (v := ?_) rfl (by kernel_rfl) (by kernel_rfl) (by kernel_rfl) (fun _ _ _ h => h) (Or.inl ⟨by rfl, ?_⟩) hHeld ?_; rotate_left; (· (intro w' hSw; go_simp; try with_reducible rfl)); (try simp only [List.getElem_toArray, List.getElem_cons_zero, List.getElem_cons_succ, Act.put, List.setIfInBounds_toArray, List.set_cons_zero, List.set_cons_succ])); (refine wpAnyH_take (i := 7) (v := ?_) rfl (by kernel_rfl) (by kernel_rfl) (by kernel_rfl) (fun _ _ _ h => h) (Or.inl ⟨by rfl, ?_⟩) hHeld ?_; rotate_left; (· (intro w' hSw; go_simp; try with_reducible rfl)); (try simp only [List.getElem_toArray, List.getElem_cons_zero, List.getElem_cons_succ, Act.put, List.setIfInBounds_toArray, List.set_cons_zero, List.set_cons_succ]))
          (refine wpAnyH_ready (rs := [9]) (by kernel_rfl) (by simp) ?_; refine AllReadyH.cons (o := _) rfl (fun K hK => ?_) AllReadyH.nil; (simp only [List.getElem_toArray, List.getElem_cons_zero, List.getElem_cons_succ, Region.wanted, if_true]); refine wp_store_mid _ _ _ rfl _ _ (ints RA).toArray rfl rfl (by simpa [l3] using Z.there) (by simpa [l3] using hi3) (all_oneCell_toArray (ints_one _)) ?_; (try simp only [List.getElem_toArray, List.getElem_cons_zero, List.getElem_cons_succ, Act.put, List.setIfInBounds_toArray, List.set_cons_zero, List.set_cons_succ, List.toList_toArray]); refine hK.out _ _ (⟨hHeld.1.putOther _ _ (by omega), hHeld.2.putOther _ _ (by omega)⟩) (fun hHeld => ?_); clear hK K)
          (refine wpAnyH_take (i := 10) (v := ?_) rfl (by kernel_rfl) (by kernel_rfl) (by kernel_rfl) (fun _ _ _ h => h) (Or.inl ⟨by rfl, ?_⟩) hHeld ?_; rotate_left; (· (intro w' hSw; go_simp; try with_reducible rfl)); (try simp only [List.getElem_toArray, List.getElem_cons_zero, List.getElem_cons_succ, Act.put, List.setIfInBounds_toArray, List.set_cons_zero, List.set_cons_succ]))
          refine wpAnyH_done (by kernel_rfl) ?_ _
          have R := Z.putAll RA hgl
          replace DB := Lib.hid (DB.out.puts (b := cc) (by omega) 0 (ints RA))
          go_wp2_with fail
          go_meet
          case rel => exact ⟨cc, rfl, rfl, R, DB⟩
      clear H1 H2 HB KC KF
      obtain ⟨c, rfl, rfl, R, HB⟩ := hcut
      go_wp2_with fail
      go_ret2
      exact ⟨by rw [HO.out, HV.out]; rfl, HB.out⟩
    · have hf : vR b = false := by simpa using vb
      have HQ := Lib.hid (show rnR a b = z6x by unfold rnR; rw [if_neg (fun h => vb h.2)])
      have HO := Lib.hid (show rnOk a b = false by unfold rnOk; rw [decide_eq_false (fun h => vb h.2)]; rfl)
      have HV := Lib.hid (show bothV a b = false by unfold bothV; rw [hf]; simp)
      rw [hf]
      clear hf vb ha hb
      go_wp2_with fail
      go_ret2
      exact ⟨by rw [HO.out, HV.out]; rfl, HB.out⟩
  · have hf : vR a = false := by simpa using va
    have HQ := Lib.hid (show rnR a b = z6x by unfold rnR; rw [if_neg (fun h => va h.1)])
    have HO := Lib.hid (show rnOk a b = false by unfold rnOk; rw [decide_eq_false (fun h => va h.1)]; rfl)
    have HV := Lib.hid (show bothV a b = false by unfold bothV; rw [hf]; simp)
    rw [hf]
    clear hf va ha hb
    go_wp2_with fail
    go_ret2
    exact ⟨by rw [HO.out, HV.out]; rfl, HB.out⟩
set_option maxHeartbeats 3200000 in
set_option maxRecDepth 100000 in
theorem implRenamingTo (a b : List Int) (w : World) (ha : a.length = 24) (hb : b.length = 24) :
    Calls Try.prog 14 #[row a, row b] w fun e w' => e = .returned (.tuple #[.agg (ints (rnR a b)).toArray, .bool (rnOk a b)]) ∧ Kept w w' := by
  have HB := Lib.hid ((((kept_refl w).alloc (.cells (ints a).toArray 28)).alloc (.cells (ints b).toArray 28)).alloc (.cells #[.int .i64 0, .int .i64 0, .int .i64 0, .int .i64 0, .int .i64 0, .int .i64 0] 31))
  have H1 := ((Has.box w 28 ha (by omega)).alloc (.cells (ints b).toArray 28)).alloc (.cells #[.int .i64 0, .int .i64 0, .int .i64 0, .int .i64 0, .int .i64 0, .int .i64 0] 31)
  have H2 := ((Has.box (w.alloc (.cells (ints a).toArray 28)) 28 hb (by omega)).at (size1 _ _)).alloc (.cells #[.int .i64 0, .int .i64 0, .int .i64 0, .int .i64 0, .int .i64 0, .int .i64 0] 31)
  have H3 := (Has.zero6x ((w.alloc (.cells (ints a).toArray 28)).alloc (.cells (ints b).toArray 28)) 31).at (c := w.heap.size + 1 + 1) (by simp)
  have hz : z6x.length = 6 := rfl
  have hi1 : (Try.prog.info? 28).map (·.size) = some (ints a).length := by rw [ints_len, ha]; kernel_rfl
  have hi2 : (Try.prog.info? 28).map (·.size) = some (ints b).length := by rw [ints_len, hb]; kernel_rfl
  rw [row_ints, row_ints]
  go_enter Try.func14, Try.ntmps14
  go_wp2_with (refine load_has rfl 28 _ rfl _ rfl ?_ 24 ?_ _ Try.underlying28 rfl ?_ ?_; rotate_left; (· (repeat (first | (with_reducible assumption) | ((with_reducible refine Has.box _ _ ?_ ?_) <;> (first | assumption | decide)) | (with_reducible refine Has.alloc ?_ _) | ((with_reducible refine Has.putOther ?_ _ _ ?_); rotate_left; omega; skip) | ((with_reducible refine Has.below ?_ ?_); rotate_left; assumption)))); (· kernel_rfl))
  refine (isRack_any a _ ha).mono ?_
  rintro e w1 ⟨rfl, b1⟩
  replace H1 := H1.below b1
  replace H2 := H2.below b1
  replace H3 := H3.below b1
  replace HB := Lib.hid (HB.out.call b1)
  clear b1
  by_cases va : vR a = true
  · rw [va]
    have VA := Lib.hid va
    go_wp2_with (refine load_has rfl 28 _ rfl _ rfl ?_ 24 ?_ _ Try.underlying28 rfl ?_ ?_; rotate_left; (· (repeat (first | (with_reducible assumption) | ((with_reducible refine Has.box _ _ ?_ ?_) <;> (first | assumption | decide)) | (with_reducible refine Has.alloc ?_ _) | ((with_reducible refine Has.putOther ?_ _ _ ?_); rotate_left; omega; skip) | ((with_reducible refine Has.below ?_ ?_); rotate_left; assumption)))); (· kernel_rfl))
    refine (isRack_any b _ hb).mono ?_
    rintro e w2 ⟨rfl, b2⟩
    replace H1 := H1.below b2
    replace H2 := H2.below b2
    replace H3 := H3.below b2
    replace HB := Lib.hid (HB.out.call b2)
    clear b2
    by_cases vb : vR b = true
    · rw [vb]
      have VB := Lib.hid vb
      have LK := Lib.hid (clsV_look a b)
      have ROW := Lib.hid (form_row hb (layers_col hb vb))
      have KEY := Lib.hid (form_keyC ROW.out)
      have HQ := Lib.hid (show rnR a b = (rnTo a b).getD z6x by unfold rnR; rw [if_pos ⟨va, vb⟩])
      have HO := Lib.hid (show rnOk a b = (rnTo a b).isSome by unfold rnOk; rw [decide_eq_true ⟨va, vb⟩]; rfl)
      have HV := Lib.hid (show bothV a b = true by unfold bothV; rw [va, vb]; rfl)
      have KC := Lib.hid (fun W => classOf_any a W ha va)
      have KF := Lib.hid (fun W => formOf_any b W hb)
      have hfl : (formL b).length = 24 := formL_len b hb
      have hgl : ((rnTo a b).getD z6x).length = 6 := by
        cases h : rnTo a b with
        | none => rfl
        | some g => exact rnTo_len h
      have l3 : (ints ((rnTo a b).getD z6x)).length = 6 := by rw [ints_len]; exact hgl
      have hi3 : (Try.prog.info? 31).map (·.size) = some (ints ((rnTo a b).getD z6x)).length := by rw [l3]; kernel_rfl
      clear va vb ha hb
      generalize clsN a 120 = CN at *
      generalize clsV a 120 = CV at *
      generalize formL b = FB at *
      generalize (rnTo a b).isSome = OK at *
      generalize (rnTo a b).getD z6x = RA at *
      go_wp2_with fail
      go_cut [6, 7] from 17 to 24 (fun s6 s7 wx => ∃ c : Nat, s6 = .pointer (some ⟨c, 0, none⟩) ∧ s7 = .bool OK ∧ Has wx c RA 6 ∧ Has wx (w.heap.size + 1 + 1) z6x 6 ∧ Hid (Kept w wx))
      case first =>
        have DH1 := H1.drew
        have DH2 := H2.drew
        have DH3 := H3.drew
        have DB := Lib.hid (keptDrewJ HB.out)
        clear H1 H2 H3 HB
        refine wp_region_held_drew (S := fun w' => Has w' w.heap.size a 24 ∧ Has w' (w.heap.size + 1) b 24) (by kernel_rfl) ⟨DH1, DH2⟩ (fun hHeld => ?_)
        generalize hWD : World.drew _ = WD5 at *
        clear hWD
        (refine wpAnyH_take (i := 0) (v := _) rfl (by kernel_rfl) (by kernel_rfl) (by kernel_rfl) (fun _ _ _ h => h) (yieldsIf_load_mid (by rfl) 28 _ rfl _ _ rfl (ints a) _ (fun w' hSw => hSw.1.holds.range) Try.underlying28 rfl (hi1)) hHeld ?_; (try simp only [List.getElem_toArray, List.getElem_cons_zero, List.getElem_cons_succ, Act.put, List.setIfInBounds_toArray, List.set_cons_zero, List.set_cons_succ]))
        (refine wpAnyH_take (i := 2) (v := _) rfl (by kernel_rfl) (by kernel_rfl) (by kernel_rfl) (fun _ _ _ h => h) (yieldsIf_load_mid (by rfl) 28 _ rfl _ _ rfl (ints b) _ (fun w' hSw => hSw.2.holds.range) Try.underlying28 rfl (hi2)) hHeld ?_; (try simp only [List.getElem_toArray, List.getElem_cons_zero, List.getElem_cons_succ, Act.put, List.setIfInBounds_toArray, List.set_cons_zero, List.set_cons_succ]))
        refine wpAnyH_ready (rs := [1, 8]) (by kernel_rfl) (by simp) ?_
        refine AllReadyH.cons (o := _) rfl (fun K hK => ?_) (AllReadyH.cons (o := _) rfl (fun K hK => ?_) AllReadyH.nil)
        · (simp only [List.getElem_toArray, List.getElem_cons_zero, List.getElem_cons_succ, Region.wanted, if_true])
          go_simp
          refine (KC.out _).mono ?_
          rintro e wc1 ⟨gm, rfl, gle, HM, bc1⟩
          dsimp only
          (try simp only [List.getElem_toArray, List.getElem_cons_zero, List.getElem_cons_succ, Act.put, List.setIfInBounds_toArray, List.set_cons_zero, List.set_cons_succ])
          refine hK.out _ _ ⟨hHeld.1.below bc1, hHeld.2.below bc1⟩ (fun hHeld => ?_)
          clear hK K
          replace HM := Lib.hid HM
          replace DH1 := DH1.below bc1
          replace DH2 := DH2.below bc1
          replace DH3 := DH3.below bc1
          replace DB := Lib.hid (DB.out.call bc1)
          clear bc1
          refine wpAnyH_ready (rs := [3, 8]) (by kernel_rfl) (by simp) ?_
          refine AllReadyH.cons (o := _) rfl (fun K hK => ?_) (AllReadyH.cons (o := _) rfl (fun K hK => ?_) AllReadyH.nil)
          · (simp only [List.getElem_toArray, List.getElem_cons_zero, List.getElem_cons_succ, Region.wanted, if_true])
            go_simp
            refine (KF.out _).mono ?_
            rintro e wc2 ⟨rfl, bc2⟩
            dsimp only
            (try simp only [List.getElem_toArray, List.getElem_cons_zero, List.getElem_cons_succ, Act.put, List.setIfInBounds_toArray, List.set_cons_zero, List.set_cons_succ])
            refine hK.out _ _ ⟨hHeld.1.below bc2, hHeld.2.below bc2⟩ (fun hHeld => ?_)
            clear hK K
            replace HM := Lib.hid (HM.out.below bc2)
            replace DH1 := DH1.below bc2
            replace DH2 := DH2.below bc2
            replace DH3 := DH3.below bc2
            replace DB := Lib.hid (DB.out.call bc2)
            clear bc2
            refine wpAnyH_ready (rs := [4, 8]) (by kernel_rfl) (by simp) ?_
            refine AllReadyH.cons (o := _) rfl (fun K hK => ?_) (AllReadyH.cons (o := _) rfl (fun K hK => ?_) AllReadyH.nil)
            · (simp only [List.getElem_toArray, List.getElem_cons_zero, List.getElem_cons_succ, Region.wanted, if_true])
              refine wp_lookOkV _ _ 47 rfl formKeyedC Try.underlying47 (zeroSix _) HM.out rfl (.agg (ints FB).toArray) rfl FB ROW.out KEY.out ?_
              rw [LK.out.1, LK.out.2]
              (try simp only [List.getElem_toArray, List.getElem_cons_zero, List.getElem_cons_succ, Act.put, List.setIfInBounds_toArray, List.set_cons_zero, List.set_cons_succ])
              refine hK.out _ _ hHeld (fun hHeld => ?_)
              clear hK K
              (refine wpAnyH_take (i := 5) (v := ?_) rfl (by kernel_rfl) (by kernel_rfl) (by kernel_rfl) (fun _ _ _ h => h) (Or.inl ⟨by rfl, ?_⟩) hHeld ?_; rotate_left; (· (intro w' hSw; go_simp; try with_reducible rfl)); (try simp only [List.getElem_toArray, List.getElem_cons_zero, List.getElem_cons_succ, Act.put, List.setIfInBounds_toArray, List.set_cons_zero, List.set_cons_succ])); (refine wpAnyH_take (i := 6) (v := ?_) rfl (by kernel_rfl) (by kernel_rfl) (by kernel_rfl) (fun _ _ _ h => h) (Or.inl ⟨by rfl, ?_⟩) hHeld ?_; rotate_left; (· (intro w' hSw; go_simp; try with_reducible rfl)); (try simp only [List.getElem_toArray, List.getElem_cons_zero, List.getElem_cons_succ, Act.put, List.setIfInBounds_toArray, List.set_cons_zero, List.set_cons_succ])); (refine wpAnyH_take (i := 7) (v := ?_) rfl (by kernel_rfl) (by kernel_rfl) (by kernel_rfl) (fun _ _ _ h => h) (Or.inl ⟨by rfl, ?_⟩) hHeld ?_; rotate_left; (· (intro w' hSw; go_simp; try with_reducible rfl)); (try simp only [List.getElem_toArray, List.getElem_cons_zero, List.getElem_cons_succ, Act.put, List.setIfInBounds_toArray, List.set_cons_zero, List.set_cons_succ]))
              (refine wpAnyH_ready (rs := [8]) (by kernel_rfl) (by simp) ?_; refine AllReadyH.cons (o := _) rfl (fun K hK => ?_) AllReadyH.nil; (simp only [List.getElem_toArray, List.getElem_cons_zero, List.getElem_cons_succ, Region.wanted, if_true]))
              go_simp
              refine hK.out _ _ ⟨hHeld.1.alloc _, hHeld.2.alloc _⟩ (fun hHeld => ?_)
              clear hK K
              have ltB := DB.out.size
              have lt1 := DH1.lt
              have lt2 := DH2.lt
              have lt3 := DH3.lt
              have Z := Has.zero6x wc2 31
              replace DH1 := DH1.alloc (.cells #[.int .i64 0, .int .i64 0, .int .i64 0, .int .i64 0, .int .i64 0, .int .i64 0] 31)
              replace DH2 := DH2.alloc (.cells #[.int .i64 0, .int .i64 0, .int .i64 0, .int .i64 0, .int .i64 0, .int .i64 0] 31)
              replace DH3 := DH3.alloc (.cells #[.int .i64 0, .int .i64 0, .int .i64 0, .int .i64 0, .int .i64 0, .int .i64 0] 31)
              replace DB := Lib.hid (DB.out.alloc (.cells #[.int .i64 0, .int .i64 0, .int .i64 0, .int .i64 0, .int .i64 0, .int .i64 0] 31))
              replace HM := Lib.hid (HM.out.alloc (.cells #[.int .i64 0, .int .i64 0, .int .i64 0, .int .i64 0, .int .i64 0, .int .i64 0] 31))
              generalize hcc : wc2.heap.size = cc at *
              clear hcc
              generalize wc2.alloc (.cells #[.int .i64 0, .int .i64 0, .int .i64 0, .int .i64 0, .int .i64 0, .int .i64 0] 31) = WA4 at *
              (refine wpAnyH_ready (rs := [9]) (by kernel_rfl) (by simp) ?_; refine AllReadyH.cons (o := _) rfl (fun K hK => ?_) AllReadyH.nil; (simp only [List.getElem_toArray, List.getElem_cons_zero, List.getElem_cons_succ, Region.wanted, if_true]); refine wp_store_mid _ _ _ rfl _ _ (ints RA).toArray rfl rfl (by simpa [l3] using Z.there) (by simpa [l3] using hi3) (all_oneCell_toArray (ints_one _)) ?_; (try simp only [List.getElem_toArray, List.getElem_cons_zero, List.getElem_cons_succ, Act.put, List.setIfInBounds_toArray, List.set_cons_zero, List.set_cons_succ, List.toList_toArray]); refine hK.out _ _ (⟨hHeld.1.putOther _ _ (by omega), hHeld.2.putOther _ _ (by omega)⟩) (fun hHeld => ?_); clear hK K)
              (refine wpAnyH_take (i := 10) (v := ?_) rfl (by kernel_rfl) (by kernel_rfl) (by kernel_rfl) (fun _ _ _ h => h) (Or.inl ⟨by rfl, ?_⟩) hHeld ?_; rotate_left; (· (intro w' hSw; go_simp; try with_reducible rfl)); (try simp only [List.getElem_toArray, List.getElem_cons_zero, List.getElem_cons_succ, Act.put, List.setIfInBounds_toArray, List.set_cons_zero, List.set_cons_succ]))
              refine wpAnyH_done (by kernel_rfl) ?_ _
              have R := Z.putAll RA hgl
              replace DH3 := DH3.putOther (b' := cc) 0 (ints RA) (by omega)
              replace DB := Lib.hid (DB.out.puts (b := cc) (by omega) 0 (ints RA))
              go_wp2_with fail
              go_meet
              case rel => exact ⟨cc, rfl, rfl, R, DH3, DB⟩
            · (simp only [List.getElem_toArray, List.getElem_cons_zero, List.getElem_cons_succ, Region.wanted, if_true])
              go_simp
              refine hK.out _ _ ⟨hHeld.1.alloc _, hHeld.2.alloc _⟩ (fun hHeld => ?_)
              clear hK K
              have ltB := DB.out.size
              have lt1 := DH1.lt
              have lt2 := DH2.lt
              have lt3 := DH3.lt
              have Z := Has.zero6x wc2 31
              replace DH1 := DH1.alloc (.cells #[.int .i64 0, .int .i64 0, .int .i64 0, .int .i64 0, .int .i64 0, .int .i64 0] 31)
              replace DH2 := DH2.alloc (.cells #[.int .i64 0, .int .i64 0, .int .i64 0, .int .i64 0, .int .i64 0, .int .i64 0] 31)
              replace DH3 := DH3.alloc (.cells #[.int .i64 0, .int .i64 0, .int .i64 0, .int .i64 0, .int .i64 0, .int .i64 0] 31)
              replace DB := Lib.hid (DB.out.alloc (.cells #[.int .i64 0, .int .i64 0, .int .i64 0, .int .i64 0, .int .i64 0, .int .i64 0] 31))
              replace HM := Lib.hid (HM.out.alloc (.cells #[.int .i64 0, .int .i64 0, .int .i64 0, .int .i64 0, .int .i64 0, .int .i64 0] 31))
              generalize hcc : wc2.heap.size = cc at *
              clear hcc
              generalize wc2.alloc (.cells #[.int .i64 0, .int .i64 0, .int .i64 0, .int .i64 0, .int .i64 0, .int .i64 0] 31) = WA5 at *
              (refine wpAnyH_ready (rs := [4]) (by kernel_rfl) (by simp) ?_; refine AllReadyH.cons (o := _) rfl (fun K hK => ?_) AllReadyH.nil; (simp only [List.getElem_toArray, List.getElem_cons_zero, List.getElem_cons_succ, Region.wanted, if_true]))
              refine wp_lookOkV _ _ 47 rfl formKeyedC Try.underlying47 (zeroSix _) HM.out rfl (.agg (ints FB).toArray) rfl FB ROW.out KEY.out ?_
              rw [LK.out.1, LK.out.2]
              (try simp only [List.getElem_toArray, List.getElem_cons_zero, List.getElem_cons_succ, Act.put, List.setIfInBounds_toArray, List.set_cons_zero, List.set_cons_succ])
              refine hK.out _ _ hHeld (fun hHeld => ?_)
              clear hK K
              (refine wpAnyH_take (i := 5) (v := ?_) rfl (by kernel_rfl) (by kernel_rfl) (by kernel_rfl) (fun _ _ _ h => h) (Or.inl ⟨by rfl, ?_⟩) hHeld ?_; rotate_left; (· (intro w' hSw; go_simp; try with_reducible rfl)); (try simp only [List.getElem_toArray, List.getElem_cons_zero, List.getElem_cons_succ, Act.put, List.setIfInBounds_toArray, List.set_cons_zero, List.set_cons_succ])); (refine wpAnyH_take (i := 6) (v := ?_) rfl (by kernel_rfl) (by kernel_rfl) (by kernel_rfl) (fun _ _ _ h => h) (Or.inl ⟨by rfl, ?_⟩) hHeld ?_; rotate_left; (· (intro w' hSw; go_simp; try with_reducible rfl)); (try simp only [List.getElem_toArray, List.getElem_cons_zero, List.getElem_cons_succ, Act.put, List.setIfInBounds_toArray, List.set_cons_zero, List.set_cons_succ])); (refine wpAnyH_take (i := 7) (v := ?_) rfl (by kernel_rfl) (by kernel_rfl) (by kernel_rfl) (fun _ _ _ h => h) (Or.inl ⟨by rfl, ?_⟩) hHeld ?_; rotate_left; (· (intro w' hSw; go_simp; try with_reducible rfl)); (try simp only [List.getElem_toArray, List.getElem_cons_zero, List.getElem_cons_succ, Act.put, List.setIfInBounds_toArray, List.set_cons_zero, List.set_cons_succ]))
              (refine wpAnyH_ready (rs := [9]) (by kernel_rfl) (by simp) ?_; refine AllReadyH.cons (o := _) rfl (fun K hK => ?_) AllReadyH.nil; (simp only [List.getElem_toArray, List.getElem_cons_zero, List.getElem_cons_succ, Region.wanted, if_true]); refine wp_store_mid _ _ _ rfl _ _ (ints RA).toArray rfl rfl (by simpa [l3] using Z.there) (by simpa [l3] using hi3) (all_oneCell_toArray (ints_one _)) ?_; (try simp only [List.getElem_toArray, List.getElem_cons_zero, List.getElem_cons_succ, Act.put, List.setIfInBounds_toArray, List.set_cons_zero, List.set_cons_succ, List.toList_toArray]); refine hK.out _ _ (⟨hHeld.1.putOther _ _ (by omega), hHeld.2.putOther _ _ (by omega)⟩) (fun hHeld => ?_); clear hK K)
              (refine wpAnyH_take (i := 10) (v := ?_) rfl (by kernel_rfl) (by kernel_rfl) (by kernel_rfl) (fun _ _ _ h => h) (Or.inl ⟨by rfl, ?_⟩) hHeld ?_; rotate_left; (· (intro w' hSw; go_simp; try with_reducible rfl)); (try simp only [List.getElem_toArray, List.getElem_cons_zero, List.getElem_cons_succ, Act.put, List.setIfInBounds_toArray, List.set_cons_zero, List.set_cons_succ]))
              refine wpAnyH_done (by kernel_rfl) ?_ _
              have R := Z.putAll RA hgl
              replace DH3 := DH3.putOther (b' := cc) 0 (ints RA) (by omega)
              replace DB := Lib.hid (DB.out.puts (b := cc) (by omega) 0 (ints RA))
              go_wp2_with fail
              go_meet
              case rel => exact ⟨cc, rfl, rfl, R, DH3, DB⟩
          · (simp only [List.getElem_toArray, List.getElem_cons_zero, List.getElem_cons_succ, Region.wanted, if_true])
            go_simp
            refine hK.out _ _ ⟨hHeld.1.alloc _, hHeld.2.alloc _⟩ (fun hHeld => ?_)
            clear hK K
            have ltB := DB.out.size
            have lt1 := DH1.lt
            have lt2 := DH2.lt
            have lt3 := DH3.lt
            have Z := Has.zero6x wc1 31
            replace DH1 := DH1.alloc (.cells #[.int .i64 0, .int .i64 0, .int .i64 0, .int .i64 0, .int .i64 0, .int .i64 0] 31)
            replace DH2 := DH2.alloc (.cells #[.int .i64 0, .int .i64 0, .int .i64 0, .int .i64 0, .int .i64 0, .int .i64 0] 31)
            replace DH3 := DH3.alloc (.cells #[.int .i64 0, .int .i64 0, .int .i64 0, .int .i64 0, .int .i64 0, .int .i64 0] 31)
            replace DB := Lib.hid (DB.out.alloc (.cells #[.int .i64 0, .int .i64 0, .int .i64 0, .int .i64 0, .int .i64 0, .int .i64 0] 31))
            replace HM := Lib.hid (HM.out.alloc (.cells #[.int .i64 0, .int .i64 0, .int .i64 0, .int .i64 0, .int .i64 0, .int .i64 0] 31))
            generalize hcc : wc1.heap.size = cc at *
            clear hcc
            generalize wc1.alloc (.cells #[.int .i64 0, .int .i64 0, .int .i64 0, .int .i64 0, .int .i64 0, .int .i64 0] 31) = WA7 at *
            (refine wpAnyH_ready (rs := [3]) (by kernel_rfl) (by simp) ?_; refine AllReadyH.cons (o := _) rfl (fun K hK => ?_) AllReadyH.nil; (simp only [List.getElem_toArray, List.getElem_cons_zero, List.getElem_cons_succ, Region.wanted, if_true]))
            go_simp
            refine (KF.out _).mono ?_
            rintro e wc8 ⟨rfl, bc8⟩
            dsimp only
            (try simp only [List.getElem_toArray, List.getElem_cons_zero, List.getElem_cons_succ, Act.put, List.setIfInBounds_toArray, List.set_cons_zero, List.set_cons_succ])
            refine hK.out _ _ ⟨hHeld.1.below bc8, hHeld.2.below bc8⟩ (fun hHeld => ?_)
            clear hK K
            replace HM := Lib.hid (HM.out.below bc8)
            replace DH1 := DH1.below bc8
            replace DH2 := DH2.below bc8
            replace DH3 := DH3.below bc8
            replace DB := Lib.hid (DB.out.call bc8)
            replace Z := Z.below bc8
            clear bc8
            (refine wpAnyH_ready (rs := [4]) (by kernel_rfl) (by simp) ?_; refine AllReadyH.cons (o := _) rfl (fun K hK => ?_) AllReadyH.nil; (simp only [List.getElem_toArray, List.getElem_cons_zero, List.getElem_cons_succ, Region.wanted, if_true]))
            refine wp_lookOkV _ _ 47 rfl formKeyedC Try.underlying47 (zeroSix _) HM.out rfl (.agg (ints FB).toArray) rfl FB ROW.out KEY.out ?_
            rw [LK.out.1, LK.out.2]
            (try simp only [List.getElem_toArray, List.getElem_cons_zero, List.getElem_cons_succ, Act.put, List.setIfInBounds_toArray, List.set_cons_zero, List.set_cons_succ])
            refine hK.out _ _ hHeld (fun hHeld => ?_)
            clear hK K
            (refine wpAnyH_take (i := 5) (v := ?_) rfl (by kernel_rfl) (by kernel_rfl) (by kernel_rfl) (fun _ _ _ h => h) (Or.inl ⟨by rfl, ?_⟩) hHeld ?_; rotate_left; (· (intro w' hSw; go_simp; try with_reducible rfl)); (try simp only [List.getElem_toArray, List.getElem_cons_zero, List.getElem_cons_succ, Act.put, List.setIfInBounds_toArray, List.set_cons_zero, List.set_cons_succ])); (refine wpAnyH_take (i := 6) (v := ?_) rfl (by kernel_rfl) (by kernel_rfl) (by kernel_rfl) (fun _ _ _ h => h) (Or.inl ⟨by rfl, ?_⟩) hHeld ?_; rotate_left; (· (intro w' hSw; go_simp; try with_reducible rfl)); (try simp only [List.getElem_toArray, List.getElem_cons_zero, List.getElem_cons_succ, Act.put, List.setIfInBounds_toArray, List.set_cons_zero, List.set_cons_succ])); (refine wpAnyH_take (i := 7) (v := ?_) rfl (by kernel_rfl) (by kernel_rfl) (by kernel_rfl) (fun _ _ _ h => h) (Or.inl ⟨by rfl, ?_⟩) hHeld ?_; rotate_left; (· (intro w' hSw; go_simp; try with_reducible rfl)); (try simp only [List.getElem_toArray, List.getElem_cons_zero, List.getElem_cons_succ, Act.put, List.setIfInBounds_toArray, List.set_cons_zero, List.set_cons_succ]))
            (refine wpAnyH_ready (rs := [9]) (by kernel_rfl) (by simp) ?_; refine AllReadyH.cons (o := _) rfl (fun K hK => ?_) AllReadyH.nil; (simp only [List.getElem_toArray, List.getElem_cons_zero, List.getElem_cons_succ, Region.wanted, if_true]); refine wp_store_mid _ _ _ rfl _ _ (ints RA).toArray rfl rfl (by simpa [l3] using Z.there) (by simpa [l3] using hi3) (all_oneCell_toArray (ints_one _)) ?_; (try simp only [List.getElem_toArray, List.getElem_cons_zero, List.getElem_cons_succ, Act.put, List.setIfInBounds_toArray, List.set_cons_zero, List.set_cons_succ, List.toList_toArray]); refine hK.out _ _ (⟨hHeld.1.putOther _ _ (by omega), hHeld.2.putOther _ _ (by omega)⟩) (fun hHeld => ?_); clear hK K)
            (refine wpAnyH_take (i := 10) (v := ?_) rfl (by kernel_rfl) (by kernel_rfl) (by kernel_rfl) (fun _ _ _ h => h) (Or.inl ⟨by rfl, ?_⟩) hHeld ?_; rotate_left; (· (intro w' hSw; go_simp; try with_reducible rfl)); (try simp only [List.getElem_toArray, List.getElem_cons_zero, List.getElem_cons_succ, Act.put, List.setIfInBounds_toArray, List.set_cons_zero, List.set_cons_succ]))
            refine wpAnyH_done (by kernel_rfl) ?_ _
            have R := Z.putAll RA hgl
            replace DH3 := DH3.putOther (b' := cc) 0 (ints RA) (by omega)
            replace DB := Lib.hid (DB.out.puts (b := cc) (by omega) 0 (ints RA))
            go_wp2_with fail
            go_meet
            case rel => exact ⟨cc, rfl, rfl, R, DH3, DB⟩
        · (simp only [List.getElem_toArray, List.getElem_cons_zero, List.getElem_cons_succ, Region.wanted, if_true])
          go_simp
          refine hK.out _ _ ⟨hHeld.1.alloc _, hHeld.2.alloc _⟩ (fun hHeld => ?_)
          clear hK K
          have ltB := DB.out.size
          have lt1 := DH1.lt
          have lt2 := DH2.lt
          have lt3 := DH3.lt
          have Z := Has.zero6x WD5 31
          replace DH1 := DH1.alloc (.cells #[.int .i64 0, .int .i64 0, .int .i64 0, .int .i64 0, .int .i64 0, .int .i64 0] 31)
          replace DH2 := DH2.alloc (.cells #[.int .i64 0, .int .i64 0, .int .i64 0, .int .i64 0, .int .i64 0, .int .i64 0] 31)
          replace DH3 := DH3.alloc (.cells #[.int .i64 0, .int .i64 0, .int .i64 0, .int .i64 0, .int .i64 0, .int .i64 0] 31)
          replace DB := Lib.hid (DB.out.alloc (.cells #[.int .i64 0, .int .i64 0, .int .i64 0, .int .i64 0, .int .i64 0, .int .i64 0] 31))
          generalize hcc : WD5.heap.size = cc at *
          clear hcc
          generalize WD5.alloc (.cells #[.int .i64 0, .int .i64 0, .int .i64 0, .int .i64 0, .int .i64 0, .int .i64 0] 31) = WA10 at *
          (refine wpAnyH_ready (rs := [1]) (by kernel_rfl) (by simp) ?_; refine AllReadyH.cons (o := _) rfl (fun K hK => ?_) AllReadyH.nil; (simp only [List.getElem_toArray, List.getElem_cons_zero, List.getElem_cons_succ, Region.wanted, if_true]))
          go_simp
          refine (KC.out _).mono ?_
          rintro e wc11 ⟨gm, rfl, gle, HM, bc11⟩
          dsimp only
          (try simp only [List.getElem_toArray, List.getElem_cons_zero, List.getElem_cons_succ, Act.put, List.setIfInBounds_toArray, List.set_cons_zero, List.set_cons_succ])
          refine hK.out _ _ ⟨hHeld.1.below bc11, hHeld.2.below bc11⟩ (fun hHeld => ?_)
          clear hK K
          replace HM := Lib.hid HM
          replace DH1 := DH1.below bc11
          replace DH2 := DH2.below bc11
          replace DH3 := DH3.below bc11
          replace DB := Lib.hid (DB.out.call bc11)
          replace Z := Z.below bc11
          clear bc11
          (refine wpAnyH_ready (rs := [3]) (by kernel_rfl) (by simp) ?_; refine AllReadyH.cons (o := _) rfl (fun K hK => ?_) AllReadyH.nil; (simp only [List.getElem_toArray, List.getElem_cons_zero, List.getElem_cons_succ, Region.wanted, if_true]))
          go_simp
          refine (KF.out _).mono ?_
          rintro e wc12 ⟨rfl, bc12⟩
          dsimp only
          (try simp only [List.getElem_toArray, List.getElem_cons_zero, List.getElem_cons_succ, Act.put, List.setIfInBounds_toArray, List.set_cons_zero, List.set_cons_succ])
          refine hK.out _ _ ⟨hHeld.1.below bc12, hHeld.2.below bc12⟩ (fun hHeld => ?_)
          clear hK K
          replace HM := Lib.hid (HM.out.below bc12)
          replace DH1 := DH1.below bc12
          replace DH2 := DH2.below bc12
          replace DH3 := DH3.below bc12
          replace DB := Lib.hid (DB.out.call bc12)
          replace Z := Z.below bc12
          clear bc12
          (refine wpAnyH_ready (rs := [4]) (by kernel_rfl) (by simp) ?_; refine AllReadyH.cons (o := _) rfl (fun K hK => ?_) AllReadyH.nil; (simp only [List.getElem_toArray, List.getElem_cons_zero, List.getElem_cons_succ, Region.wanted, if_true]))
          refine wp_lookOkV _ _ 47 rfl formKeyedC Try.underlying47 (zeroSix _) HM.out rfl (.agg (ints FB).toArray) rfl FB ROW.out KEY.out ?_
          rw [LK.out.1, LK.out.2]
          (try simp only [List.getElem_toArray, List.getElem_cons_zero, List.getElem_cons_succ, Act.put, List.setIfInBounds_toArray, List.set_cons_zero, List.set_cons_succ])
          refine hK.out _ _ hHeld (fun hHeld => ?_)
          clear hK K
          (refine wpAnyH_take (i := 5) (v := ?_) rfl (by kernel_rfl) (by kernel_rfl) (by kernel_rfl) (fun _ _ _ h => h) (Or.inl ⟨by rfl, ?_⟩) hHeld ?_; rotate_left; (· (intro w' hSw; go_simp; try with_reducible rfl)); (try simp only [List.getElem_toArray, List.getElem_cons_zero, List.getElem_cons_succ, Act.put, List.setIfInBounds_toArray, List.set_cons_zero, List.set_cons_succ])); (refine wpAnyH_take (i := 6) (v := ?_) rfl (by kernel_rfl) (by kernel_rfl) (by kernel_rfl) (fun _ _ _ h => h) (Or.inl ⟨by rfl, ?_⟩) hHeld ?_; rotate_left; (· (intro w' hSw; go_simp; try with_reducible rfl)); (try simp only [List.getElem_toArray, List.getElem_cons_zero, List.getElem_cons_succ, Act.put, List.setIfInBounds_toArray, List.set_cons_zero, List.set_cons_succ])); (refine wpAnyH_take (i := 7) (v := ?_) rfl (by kernel_rfl) (by kernel_rfl) (by kernel_rfl) (fun _ _ _ h => h) (Or.inl ⟨by rfl, ?_⟩) hHeld ?_; rotate_left; (· (intro w' hSw; go_simp; try with_reducible rfl)); (try simp only [List.getElem_toArray, List.getElem_cons_zero, List.getElem_cons_succ, Act.put, List.setIfInBounds_toArray, List.set_cons_zero, List.set_cons_succ]))
          (refine wpAnyH_ready (rs := [9]) (by kernel_rfl) (by simp) ?_; refine AllReadyH.cons (o := _) rfl (fun K hK => ?_) AllReadyH.nil; (simp only [List.getElem_toArray, List.getElem_cons_zero, List.getElem_cons_succ, Region.wanted, if_true]); refine wp_store_mid _ _ _ rfl _ _ (ints RA).toArray rfl rfl (by simpa [l3] using Z.there) (by simpa [l3] using hi3) (all_oneCell_toArray (ints_one _)) ?_; (try simp only [List.getElem_toArray, List.getElem_cons_zero, List.getElem_cons_succ, Act.put, List.setIfInBounds_toArray, List.set_cons_zero, List.set_cons_succ, List.toList_toArray]); refine hK.out _ _ (⟨hHeld.1.putOther _ _ (by omega), hHeld.2.putOther _ _ (by omega)⟩) (fun hHeld => ?_); clear hK K)
          (refine wpAnyH_take (i := 10) (v := ?_) rfl (by kernel_rfl) (by kernel_rfl) (by kernel_rfl) (fun _ _ _ h => h) (Or.inl ⟨by rfl, ?_⟩) hHeld ?_; rotate_left; (· (intro w' hSw; go_simp; try with_reducible rfl)); (try simp only [List.getElem_toArray, List.getElem_cons_zero, List.getElem_cons_succ, Act.put, List.setIfInBounds_toArray, List.set_cons_zero, List.set_cons_succ]))
          refine wpAnyH_done (by kernel_rfl) ?_ _
          have R := Z.putAll RA hgl
          replace DH3 := DH3.putOther (b' := cc) 0 (ints RA) (by omega)
          replace DB := Lib.hid (DB.out.puts (b := cc) (by omega) 0 (ints RA))
          go_wp2_with fail
          go_meet
          case rel => exact ⟨cc, rfl, rfl, R, DH3, DB⟩
      clear H1 H2 H3 HB KC KF
      obtain ⟨c, rfl, rfl, R, H3, HB⟩ := hcut
      have HB2 := Lib.hid (HB.out.puts (b := w.heap.size + 1 + 1) (by omega) 0 (ints RA))
      have H4 := H3.putAll RA hgl
      go_wp2_with (first | (refine load_has rfl 31 _ rfl _ rfl ?_ 6 ?_ _ Try.underlying31 rfl ?_ ?_; rotate_left; (· (repeat (first | (with_reducible assumption) | ((with_reducible refine Has.box _ _ ?_ ?_) <;> (first | assumption | decide)) | (with_reducible refine Has.alloc ?_ _) | ((with_reducible refine Has.putOther ?_ _ _ ?_); rotate_left; omega; skip) | ((with_reducible refine Has.below ?_ ?_); rotate_left; assumption)))); (· kernel_rfl)) | (refine store_at rfl 31 _ _ rfl _ _ rfl rfl ?_ 6 ?_ ?_ ?_ ?_; rotate_left; (· (repeat (first | (with_reducible assumption) | ((with_reducible refine Has.box _ _ ?_ ?_) <;> (first | assumption | decide)) | (with_reducible refine Has.alloc ?_ _) | ((with_reducible refine Has.putOther ?_ _ _ ?_); rotate_left; omega; skip) | ((with_reducible refine Has.below ?_ ?_); rotate_left; assumption)))); (· (first | assumption | rfl)); (· kernel_rfl)))
      exact bodyPost_ret (res_has1 rfl _ _ (w.heap.size + 1 + 1) RA 6 _ (.bool OK) rfl rfl H4 Try.underlying31 rfl (by kernel_rfl)) rfl ⟨by rw [HQ.out, HO.out], HB2.out⟩
    · have hf : vR b = false := by simpa using vb
      have HQ := Lib.hid (show rnR a b = z6x by unfold rnR; rw [if_neg (fun h => vb h.2)])
      have HO := Lib.hid (show rnOk a b = false by unfold rnOk; rw [decide_eq_false (fun h => vb h.2)]; rfl)
      have HV := Lib.hid (show bothV a b = false by unfold bothV; rw [hf]; simp)
      rw [hf]
      clear hf vb ha hb
      have HB2 := Lib.hid (HB.out.puts (b := w.heap.size + 1 + 1) (by omega) 0 (ints z6x))
      have H4 := H3.putAll z6x rfl
      go_wp2_with (first | (refine build_law rfl 31 rfl _ build6o ?_) | (refine store_at rfl 31 _ _ rfl _ _ rfl rfl ?_ 6 ?_ ?_ ?_ ?_; rotate_left; (· (repeat (first | (with_reducible assumption) | ((with_reducible refine Has.box _ _ ?_ ?_) <;> (first | assumption | decide)) | (with_reducible refine Has.alloc ?_ _) | ((with_reducible refine Has.putOther ?_ _ _ ?_); rotate_left; omega; skip) | ((with_reducible refine Has.below ?_ ?_); rotate_left; assumption)))); (· (first | assumption | rfl)); (· kernel_rfl)))
      exact bodyPost_ret (res_has1 rfl _ _ (w.heap.size + 1 + 1) z6x 6 _ (.bool false) rfl rfl H4 Try.underlying31 rfl (by kernel_rfl)) rfl ⟨by rw [HQ.out, HO.out], HB2.out⟩
  · have hf : vR a = false := by simpa using va
    have HQ := Lib.hid (show rnR a b = z6x by unfold rnR; rw [if_neg (fun h => va h.1)])
    have HO := Lib.hid (show rnOk a b = false by unfold rnOk; rw [decide_eq_false (fun h => va h.1)]; rfl)
    have HV := Lib.hid (show bothV a b = false by unfold bothV; rw [hf]; simp)
    rw [hf]
    clear hf va ha hb
    have HB2 := Lib.hid (HB.out.puts (b := w.heap.size + 1 + 1) (by omega) 0 (ints z6x))
    have H4 := H3.putAll z6x rfl
    go_wp2_with (first | (refine build_law rfl 31 rfl _ build6o ?_) | (refine store_at rfl 31 _ _ rfl _ _ rfl rfl ?_ 6 ?_ ?_ ?_ ?_; rotate_left; (· (repeat (first | (with_reducible assumption) | ((with_reducible refine Has.box _ _ ?_ ?_) <;> (first | assumption | decide)) | (with_reducible refine Has.alloc ?_ _) | ((with_reducible refine Has.putOther ?_ _ _ ?_); rotate_left; omega; skip) | ((with_reducible refine Has.below ?_ ?_); rotate_left; assumption)))); (· (first | assumption | rfl)); (· kernel_rfl)))
    exact bodyPost_ret (res_has1 rfl _ _ (w.heap.size + 1 + 1) z6x 6 _ (.bool false) rfl rfl H4 Try.underlying31 rfl (by kernel_rfl)) rfl ⟨by rw [HQ.out, HO.out], HB2.out⟩
end Go.Proofs.Ytlleenepinijdaa.base
