/-
  How many renamings lead to the rack again, on the model's side, walked.
-/
import Derived.Test.YtlleenepinijdaaClsS
namespace Go.Proofs.Ytlleenepinijdaa.base
open Go.ChangeShapes Go.WideShapes Go.ChangeAt Go.RowKit
set_option linter.unusedVariables false
set_option linter.unusedSimpArgs false

def manyUp (ns : List Int) (k : Nat) : Nat := (allN.take k).countP (fun g => decide (rf ns g = formL ns))
theorem manyUp_succ (ns : List Int) {k : Nat} (h : k < 120) : manyUp ns (k + 1) = manyUp ns k + if rf ns (ag k) = formL ns then 1 else 0 := by
  unfold manyUp
  have hk : k < allN.length := by rw [allN_len]; exact h
  have e : allN[k] = ag k := by have := ag_some h; rw [List.getElem?_eq_getElem hk] at this; exact Option.some.inj this
  rw [List.take_succ_eq_append_getElem hk, List.countP_append, List.countP_singleton, e]
  by_cases h2 : rf ns (ag k) = formL ns <;> simp [h2]
theorem manyUp_all (ns : List Int) : manyUp ns 120 = ownMany ns := by
  unfold manyUp ownMany
  rw [List.take_of_length_le (by rw [allN_len]; omega)]; rfl
theorem manyUp_le (ns : List Int) : ∀ k, k ≤ 120 → manyUp ns k ≤ k
  | 0, _ => Nat.le_refl _
  | k + 1, hk => by
    rw [manyUp_succ ns (by omega)]
    have := manyUp_le ns k (by omega)
    split <;> omega
def manyS (ns : List Int) : Nat := if vR ns = true then ownMany ns else 0

set_option maxHeartbeats 3200000 in
set_option maxRecDepth 100000 in
theorem specCountRen (ns : List Int) (w : World) (h24 : ns.length = 24) :
    Calls Try.prog 16 #[row ns] w fun e w' => e = .returned (.tuple #[.int .i64 (manyS ns : Nat), .bool (vR ns)]) ∧ Kept w w' := by
  have HB := Lib.hid ((kept_refl w).alloc (.cells (ints ns).toArray 28))
  have H1 := Has.box w 28 h24 (by omega)
  have hi1 : (Try.prog.info? 28).map (·.size) = some (ints ns).length := by rw [ints_len, h24]; kernel_rfl
  rw [row_ints]
  go_enter Try.func16, Try.ntmps16
  go_wp2_with (refine load_has rfl 28 _ rfl _ rfl ?_ 24 ?_ _ Try.underlying28 rfl ?_ ?_; rotate_left; (· (repeat (first | (with_reducible assumption) | ((with_reducible refine Has.box _ _ ?_ ?_) <;> (first | assumption | decide)) | (with_reducible refine Has.alloc ?_ _) | ((with_reducible refine Has.putOther ?_ _ _ ?_); rotate_left; omega; skip) | ((with_reducible refine Has.below ?_ ?_); rotate_left; assumption)))); (· kernel_rfl))
  refine (l2Rack_any ns _ h24).mono ?_
  rintro e w1 ⟨rfl, b1⟩
  replace H1 := H1.below b1
  replace HB := Lib.hid (HB.out.call b1)
  clear b1
  by_cases hv : vR ns = true
  · rw [hv]
    have E1 := Lib.hid (show manyS ns = manyUp ns 120 by unfold manyS; rw [if_pos hv, manyUp_all])
    have HV := Lib.hid hv
    have HL := Lib.hid h24
    have KA := Lib.hid (fun W => l4AllNames_any W)
    have KF := Lib.hid (fun W => l3Form_any ns W h24)
    have hfl : (formL ns).length = 24 := formL_len ns h24
    have l3 : (ints (formL ns)).length = 24 := by rw [ints_len]; exact hfl
    have hi2 : (Try.prog.info? 28).map (·.size) = some (ints (formL ns)).length := by rw [ints_len, hfl]; kernel_rfl
    have HMR : Hid (Try.prog.eqGuardType Try.prog.depth 28 = false) := Lib.hid (by kernel_rfl)
    have MS := Lib.hid (fun (k : Nat) (hk : k < 120) => manyUp_succ ns hk)
    have ML := Lib.hid (manyUp_le ns)
    have HM0 : Hid (manyUp ns 0 = 0) := Lib.hid rfl
    clear hv h24
    generalize hfb : formL ns = fb at *
    clear hfb
    go_wp2_with fail
    go_cut [4, 5, 6] from 11 to 13 (fun s4 s5 s6 wx => ∃ (c gp cap : Nat), s4 = .int .i64 0 ∧ s5 = .slice (some ⟨gp, 0, none⟩) 120 cap ∧ s6 = .pointer (some ⟨c, 0, none⟩) ∧ Has wx w.heap.size ns 24 ∧ Has wx c fb 24 ∧ Hid (Gr wx w.heap.size 31 6 (.slice (some ⟨gp, 0, none⟩) 120 cap) allN) ∧ Hid (Kept w wx))
    case first =>
      have DH := H1.drew
      have DB := Lib.hid (keptDrewS HB.out)
      clear H1 HB
      refine wp_region_held_drew (S := fun w' => Has w' w.heap.size ns 24) (by kernel_rfl) DH (fun hHeld => ?_)
      generalize hWD : World.drew _ = WD5 at *
      clear hWD
      (refine wpAnyH_take (i := 1) (v := _) rfl (by kernel_rfl) (by kernel_rfl) (by kernel_rfl) (fun _ _ _ h => h) (yieldsIf_load_mid (by rfl) 28 _ rfl _ _ rfl (ints ns) _ (fun w' hSw => hSw.holds.range) Try.underlying28 rfl (hi1)) hHeld ?_; (try simp only [List.getElem_toArray, List.getElem_cons_zero, List.getElem_cons_succ, Act.put, List.setIfInBounds_toArray, List.set_cons_zero, List.set_cons_succ]))
      refine wpAnyH_ready (rs := [0, 3]) (by kernel_rfl) (by simp) ?_
      refine AllReadyH.cons (o := _) rfl (fun K hK => ?_) (AllReadyH.cons (o := _) rfl (fun K hK => ?_) AllReadyH.nil)
      · (simp only [List.getElem_toArray, List.getElem_cons_zero, List.getElem_cons_succ, Region.wanted, if_true])
        go_simp
        have DBs := DB.out.size
        refine (KA.out _).mono ?_
        rintro e wc1 ⟨v, rfl, q1, bc1⟩
        dsimp only
        (try simp only [List.getElem_toArray, List.getElem_cons_zero, List.getElem_cons_succ, Act.put, List.setIfInBounds_toArray, List.set_cons_zero, List.set_cons_succ])
        refine hK.out _ _ (hHeld.below bc1) (fun hHeld => ?_)
        clear hK K
        obtain ⟨a0, cap0, rfl⟩ := q1.shape
        obtain ⟨gp, cap, hv', hbp, hgp⟩ := q1.form (by rw [allN_len]; omega)
        injection hv' with h1 _ h3
        subst h1
        subst h3
        have Q := Lib.hid (q1.mono (b' := w.heap.size) (by omega))
        have GLT := Lib.hid (q1.own gp rfl)
        rw [allN_len] at Q ⊢
        clear q1
        replace DH := DH.below bc1
        replace DB := Lib.hid (DB.out.call bc1)
        clear bc1
        refine wpAnyH_ready (rs := [2, 3]) (by kernel_rfl) (by simp) ?_
        refine AllReadyH.cons (o := _) rfl (fun K hK => ?_) (AllReadyH.cons (o := _) rfl (fun K hK => ?_) AllReadyH.nil)
        · (simp only [List.getElem_toArray, List.getElem_cons_zero, List.getElem_cons_succ, Region.wanted, if_true])
          go_simp
          refine (KF.out _).mono ?_
          rintro e wc2 ⟨rfl, bc2⟩
          dsimp only
          (try simp only [List.getElem_toArray, List.getElem_cons_zero, List.getElem_cons_succ, Act.put, List.setIfInBounds_toArray, List.set_cons_zero, List.set_cons_succ])
          refine hK.out _ _ (hHeld.below bc2) (fun hHeld => ?_)
          clear hK K
          replace Q := Lib.hid (Q.out.below bc2)
          replace DH := DH.below bc2
          replace DB := Lib.hid (DB.out.call bc2)
          clear bc2
          (refine wpAnyH_ready (rs := [3]) (by kernel_rfl) (by simp) ?_; refine AllReadyH.cons (o := _) rfl (fun K hK => ?_) AllReadyH.nil; (simp only [List.getElem_toArray, List.getElem_cons_zero, List.getElem_cons_succ, Region.wanted, if_true]))
          go_simp
          refine hK.out _ _ (hHeld.alloc _) (fun hHeld => ?_)
          clear hK K
          have ltB := DB.out.size
          have lt1 := DH.lt
          have ltQ := (Q.out.own gp rfl).2
          have Z := Has.zero24 wc2 28
          replace DH := DH.alloc (.cells #[.int .i64 0, .int .i64 0, .int .i64 0, .int .i64 0, .int .i64 0, .int .i64 0, .int .i64 0, .int .i64 0, .int .i64 0, .int .i64 0, .int .i64 0, .int .i64 0, .int .i64 0, .int .i64 0, .int .i64 0, .int .i64 0, .int .i64 0, .int .i64 0, .int .i64 0, .int .i64 0, .int .i64 0, .int .i64 0, .int .i64 0, .int .i64 0] 28)
          replace DB := Lib.hid (DB.out.alloc (.cells #[.int .i64 0, .int .i64 0, .int .i64 0, .int .i64 0, .int .i64 0, .int .i64 0, .int .i64 0, .int .i64 0, .int .i64 0, .int .i64 0, .int .i64 0, .int .i64 0, .int .i64 0, .int .i64 0, .int .i64 0, .int .i64 0, .int .i64 0, .int .i64 0, .int .i64 0, .int .i64 0, .int .i64 0, .int .i64 0, .int .i64 0, .int .i64 0] 28))
          replace Q := Lib.hid (Q.out.alloc (.cells #[.int .i64 0, .int .i64 0, .int .i64 0, .int .i64 0, .int .i64 0, .int .i64 0, .int .i64 0, .int .i64 0, .int .i64 0, .int .i64 0, .int .i64 0, .int .i64 0, .int .i64 0, .int .i64 0, .int .i64 0, .int .i64 0, .int .i64 0, .int .i64 0, .int .i64 0, .int .i64 0, .int .i64 0, .int .i64 0, .int .i64 0, .int .i64 0] 28))
          generalize hcc : wc2.heap.size = cc at *
          clear hcc
          generalize wc2.alloc (.cells #[.int .i64 0, .int .i64 0, .int .i64 0, .int .i64 0, .int .i64 0, .int .i64 0, .int .i64 0, .int .i64 0, .int .i64 0, .int .i64 0, .int .i64 0, .int .i64 0, .int .i64 0, .int .i64 0, .int .i64 0, .int .i64 0, .int .i64 0, .int .i64 0, .int .i64 0, .int .i64 0, .int .i64 0, .int .i64 0, .int .i64 0, .int .i64 0] 28) = WA3 at *
          have hne : gp ≠ cc := by have := GLT.out; omega
          (refine wpAnyH_take (i := 4) (v := ?_) rfl (by kernel_rfl) (by kernel_rfl) (by kernel_rfl) (fun _ _ _ h => h) (Or.inl ⟨by rfl, ?_⟩) hHeld ?_; rotate_left; (· (intro w' hSw; go_simp; try with_reducible rfl)); (try simp only [List.getElem_toArray, List.getElem_cons_zero, List.getElem_cons_succ, Act.put, List.setIfInBounds_toArray, List.set_cons_zero, List.set_cons_succ])); (refine wpAnyH_take (i := 5) (v := ?_) rfl (by kernel_rfl) (by kernel_rfl) (by kernel_rfl) (fun _ _ _ h => h) (Or.inl ⟨by rfl, ?_⟩) hHeld ?_; rotate_left; (· (intro w' hSw; go_simp; try with_reducible rfl)); (try simp only [List.getElem_toArray, List.getElem_cons_zero, List.getElem_cons_succ, Act.put, List.setIfInBounds_toArray, List.set_cons_zero, List.set_cons_succ]))
          (refine wpAnyH_ready (rs := [6]) (by kernel_rfl) (by simp) ?_; refine AllReadyH.cons (o := _) rfl (fun K hK => ?_) AllReadyH.nil; (simp only [List.getElem_toArray, List.getElem_cons_zero, List.getElem_cons_succ, Region.wanted, if_true]); refine wp_store_mid _ _ _ rfl _ _ (ints fb).toArray rfl rfl (by simpa [l3] using Z.there) (by simpa [l3] using hi2) (all_oneCell_toArray (ints_one _)) ?_; (try simp only [List.getElem_toArray, List.getElem_cons_zero, List.getElem_cons_succ, Act.put, List.setIfInBounds_toArray, List.set_cons_zero, List.set_cons_succ, List.toList_toArray]); refine hK.out _ _ (hHeld.putOther _ _ (by omega)) (fun hHeld => ?_); clear hK K)
          refine wpAnyH_done (by kernel_rfl) ?_ _
          have R := Z.putAll fb hfl
          replace DH := DH.putOther (b' := cc) 0 (ints fb) (by omega)
          replace Q := Lib.hid (Q.out.puts cc 0 (ints fb) (fun z hz e => by have hz := Option.some.inj (show some gp = some z from hz); omega))
          replace DB := Lib.hid (DB.out.puts (b := cc) (by omega) 0 (ints fb))
          go_wp2_with fail
          go_meet
          case rel => exact ⟨cc, gp, _, rfl, rfl, rfl, DH, R, Q, DB⟩
        · (simp only [List.getElem_toArray, List.getElem_cons_zero, List.getElem_cons_succ, Region.wanted, if_true])
          go_simp
          refine hK.out _ _ (hHeld.alloc _) (fun hHeld => ?_)
          clear hK K
          have ltB := DB.out.size
          have lt1 := DH.lt
          have ltQ := (Q.out.own gp rfl).2
          have Z := Has.zero24 wc1 28
          replace DH := DH.alloc (.cells #[.int .i64 0, .int .i64 0, .int .i64 0, .int .i64 0, .int .i64 0, .int .i64 0, .int .i64 0, .int .i64 0, .int .i64 0, .int .i64 0, .int .i64 0, .int .i64 0, .int .i64 0, .int .i64 0, .int .i64 0, .int .i64 0, .int .i64 0, .int .i64 0, .int .i64 0, .int .i64 0, .int .i64 0, .int .i64 0, .int .i64 0, .int .i64 0] 28)
          replace DB := Lib.hid (DB.out.alloc (.cells #[.int .i64 0, .int .i64 0, .int .i64 0, .int .i64 0, .int .i64 0, .int .i64 0, .int .i64 0, .int .i64 0, .int .i64 0, .int .i64 0, .int .i64 0, .int .i64 0, .int .i64 0, .int .i64 0, .int .i64 0, .int .i64 0, .int .i64 0, .int .i64 0, .int .i64 0, .int .i64 0, .int .i64 0, .int .i64 0, .int .i64 0, .int .i64 0] 28))
          replace Q := Lib.hid (Q.out.alloc (.cells #[.int .i64 0, .int .i64 0, .int .i64 0, .int .i64 0, .int .i64 0, .int .i64 0, .int .i64 0, .int .i64 0, .int .i64 0, .int .i64 0, .int .i64 0, .int .i64 0, .int .i64 0, .int .i64 0, .int .i64 0, .int .i64 0, .int .i64 0, .int .i64 0, .int .i64 0, .int .i64 0, .int .i64 0, .int .i64 0, .int .i64 0, .int .i64 0] 28))
          generalize hcc : wc1.heap.size = cc at *
          clear hcc
          generalize wc1.alloc (.cells #[.int .i64 0, .int .i64 0, .int .i64 0, .int .i64 0, .int .i64 0, .int .i64 0, .int .i64 0, .int .i64 0, .int .i64 0, .int .i64 0, .int .i64 0, .int .i64 0, .int .i64 0, .int .i64 0, .int .i64 0, .int .i64 0, .int .i64 0, .int .i64 0, .int .i64 0, .int .i64 0, .int .i64 0, .int .i64 0, .int .i64 0, .int .i64 0] 28) = WA4 at *
          (refine wpAnyH_ready (rs := [2]) (by kernel_rfl) (by simp) ?_; refine AllReadyH.cons (o := _) rfl (fun K hK => ?_) AllReadyH.nil; (simp only [List.getElem_toArray, List.getElem_cons_zero, List.getElem_cons_succ, Region.wanted, if_true]))
          go_simp
          refine (KF.out _).mono ?_
          rintro e wc5 ⟨rfl, bc5⟩
          dsimp only
          (try simp only [List.getElem_toArray, List.getElem_cons_zero, List.getElem_cons_succ, Act.put, List.setIfInBounds_toArray, List.set_cons_zero, List.set_cons_succ])
          refine hK.out _ _ (hHeld.below bc5) (fun hHeld => ?_)
          clear hK K
          replace Q := Lib.hid (Q.out.below bc5)
          replace DH := DH.below bc5
          replace DB := Lib.hid (DB.out.call bc5)
          have hzs := Z.lt
          replace Z := Z.below bc5
          clear bc5
          have hne : gp ≠ cc := by have := GLT.out; omega
          (refine wpAnyH_take (i := 4) (v := ?_) rfl (by kernel_rfl) (by kernel_rfl) (by kernel_rfl) (fun _ _ _ h => h) (Or.inl ⟨by rfl, ?_⟩) hHeld ?_; rotate_left; (· (intro w' hSw; go_simp; try with_reducible rfl)); (try simp only [List.getElem_toArray, List.getElem_cons_zero, List.getElem_cons_succ, Act.put, List.setIfInBounds_toArray, List.set_cons_zero, List.set_cons_succ])); (refine wpAnyH_take (i := 5) (v := ?_) rfl (by kernel_rfl) (by kernel_rfl) (by kernel_rfl) (fun _ _ _ h => h) (Or.inl ⟨by rfl, ?_⟩) hHeld ?_; rotate_left; (· (intro w' hSw; go_simp; try with_reducible rfl)); (try simp only [List.getElem_toArray, List.getElem_cons_zero, List.getElem_cons_succ, Act.put, List.setIfInBounds_toArray, List.set_cons_zero, List.set_cons_succ]))
          (refine wpAnyH_ready (rs := [6]) (by kernel_rfl) (by simp) ?_; refine AllReadyH.cons (o := _) rfl (fun K hK => ?_) AllReadyH.nil; (simp only [List.getElem_toArray, List.getElem_cons_zero, List.getElem_cons_succ, Region.wanted, if_true]); refine wp_store_mid _ _ _ rfl _ _ (ints fb).toArray rfl rfl (by simpa [l3] using Z.there) (by simpa [l3] using hi2) (all_oneCell_toArray (ints_one _)) ?_; (try simp only [List.getElem_toArray, List.getElem_cons_zero, List.getElem_cons_succ, Act.put, List.setIfInBounds_toArray, List.set_cons_zero, List.set_cons_succ, List.toList_toArray]); refine hK.out _ _ (hHeld.putOther _ _ (by omega)) (fun hHeld => ?_); clear hK K)
          refine wpAnyH_done (by kernel_rfl) ?_ _
          have R := Z.putAll fb hfl
          replace DH := DH.putOther (b' := cc) 0 (ints fb) (by omega)
          replace Q := Lib.hid (Q.out.puts cc 0 (ints fb) (fun z hz e => by have hz := Option.some.inj (show some gp = some z from hz); omega))
          replace DB := Lib.hid (DB.out.puts (b := cc) (by omega) 0 (ints fb))
          go_wp2_with fail
          go_meet
          case rel => exact ⟨cc, gp, _, rfl, rfl, rfl, DH, R, Q, DB⟩
      · (simp only [List.getElem_toArray, List.getElem_cons_zero, List.getElem_cons_succ, Region.wanted, if_true])
        go_simp
        refine hK.out _ _ (hHeld.alloc _) (fun hHeld => ?_)
        clear hK K
        have ltB := DB.out.size
        have lt1 := DH.lt

        have Z := Has.zero24 WD5 28
        replace DH := DH.alloc (.cells #[.int .i64 0, .int .i64 0, .int .i64 0, .int .i64 0, .int .i64 0, .int .i64 0, .int .i64 0, .int .i64 0, .int .i64 0, .int .i64 0, .int .i64 0, .int .i64 0, .int .i64 0, .int .i64 0, .int .i64 0, .int .i64 0, .int .i64 0, .int .i64 0, .int .i64 0, .int .i64 0, .int .i64 0, .int .i64 0, .int .i64 0, .int .i64 0] 28)
        replace DB := Lib.hid (DB.out.alloc (.cells #[.int .i64 0, .int .i64 0, .int .i64 0, .int .i64 0, .int .i64 0, .int .i64 0, .int .i64 0, .int .i64 0, .int .i64 0, .int .i64 0, .int .i64 0, .int .i64 0, .int .i64 0, .int .i64 0, .int .i64 0, .int .i64 0, .int .i64 0, .int .i64 0, .int .i64 0, .int .i64 0, .int .i64 0, .int .i64 0, .int .i64 0, .int .i64 0] 28))

        generalize hcc : WD5.heap.size = cc at *
        clear hcc
        generalize WD5.alloc (.cells #[.int .i64 0, .int .i64 0, .int .i64 0, .int .i64 0, .int .i64 0, .int .i64 0, .int .i64 0, .int .i64 0, .int .i64 0, .int .i64 0, .int .i64 0, .int .i64 0, .int .i64 0, .int .i64 0, .int .i64 0, .int .i64 0, .int .i64 0, .int .i64 0, .int .i64 0, .int .i64 0, .int .i64 0, .int .i64 0, .int .i64 0, .int .i64 0] 28) = WA6 at *
        (refine wpAnyH_ready (rs := [0]) (by kernel_rfl) (by simp) ?_; refine AllReadyH.cons (o := _) rfl (fun K hK => ?_) AllReadyH.nil; (simp only [List.getElem_toArray, List.getElem_cons_zero, List.getElem_cons_succ, Region.wanted, if_true]))
        go_simp
        have DBs := DB.out.size
        refine (KA.out _).mono ?_
        rintro e wc7 ⟨v, rfl, q1, bc7⟩
        dsimp only
        (try simp only [List.getElem_toArray, List.getElem_cons_zero, List.getElem_cons_succ, Act.put, List.setIfInBounds_toArray, List.set_cons_zero, List.set_cons_succ])
        refine hK.out _ _ (hHeld.below bc7) (fun hHeld => ?_)
        clear hK K
        obtain ⟨a0, cap0, rfl⟩ := q1.shape
        obtain ⟨gp, cap, hv', hbp, hgp⟩ := q1.form (by rw [allN_len]; omega)
        injection hv' with h1 _ h3
        subst h1
        subst h3
        have Q := Lib.hid (q1.mono (b' := w.heap.size) (by omega))
        have GLT := Lib.hid (q1.own gp rfl)
        rw [allN_len] at Q ⊢
        clear q1
        replace DH := DH.below bc7
        replace DB := Lib.hid (DB.out.call bc7)
        have hzs := Z.lt
        replace Z := Z.below bc7
        clear bc7
        (refine wpAnyH_ready (rs := [2]) (by kernel_rfl) (by simp) ?_; refine AllReadyH.cons (o := _) rfl (fun K hK => ?_) AllReadyH.nil; (simp only [List.getElem_toArray, List.getElem_cons_zero, List.getElem_cons_succ, Region.wanted, if_true]))
        go_simp
        refine (KF.out _).mono ?_
        rintro e wc8 ⟨rfl, bc8⟩
        dsimp only
        (try simp only [List.getElem_toArray, List.getElem_cons_zero, List.getElem_cons_succ, Act.put, List.setIfInBounds_toArray, List.set_cons_zero, List.set_cons_succ])
        refine hK.out _ _ (hHeld.below bc8) (fun hHeld => ?_)
        clear hK K
        replace Q := Lib.hid (Q.out.below bc8)
        replace DH := DH.below bc8
        replace DB := Lib.hid (DB.out.call bc8)
        have hzs := Z.lt
        replace Z := Z.below bc8
        clear bc8
        have hne : gp ≠ cc := by have := GLT.out; omega
        (refine wpAnyH_take (i := 4) (v := ?_) rfl (by kernel_rfl) (by kernel_rfl) (by kernel_rfl) (fun _ _ _ h => h) (Or.inl ⟨by rfl, ?_⟩) hHeld ?_; rotate_left; (· (intro w' hSw; go_simp; try with_reducible rfl)); (try simp only [List.getElem_toArray, List.getElem_cons_zero, List.getElem_cons_succ, Act.put, List.setIfInBounds_toArray, List.set_cons_zero, List.set_cons_succ])); (refine wpAnyH_take (i := 5) (v := ?_) rfl (by kernel_rfl) (by kernel_rfl) (by kernel_rfl) (fun _ _ _ h => h) (Or.inl ⟨by rfl, ?_⟩) hHeld ?_; rotate_left; (· (intro w' hSw; go_simp; try with_reducible rfl)); (try simp only [List.getElem_toArray, List.getElem_cons_zero, List.getElem_cons_succ, Act.put, List.setIfInBounds_toArray, List.set_cons_zero, List.set_cons_succ]))
        (refine wpAnyH_ready (rs := [6]) (by kernel_rfl) (by simp) ?_; refine AllReadyH.cons (o := _) rfl (fun K hK => ?_) AllReadyH.nil; (simp only [List.getElem_toArray, List.getElem_cons_zero, List.getElem_cons_succ, Region.wanted, if_true]); refine wp_store_mid _ _ _ rfl _ _ (ints fb).toArray rfl rfl (by simpa [l3] using Z.there) (by simpa [l3] using hi2) (all_oneCell_toArray (ints_one _)) ?_; (try simp only [List.getElem_toArray, List.getElem_cons_zero, List.getElem_cons_succ, Act.put, List.setIfInBounds_toArray, List.set_cons_zero, List.set_cons_succ, List.toList_toArray]); refine hK.out _ _ (hHeld.putOther _ _ (by omega)) (fun hHeld => ?_); clear hK K)
        refine wpAnyH_done (by kernel_rfl) ?_ _
        have R := Z.putAll fb hfl
        replace DH := DH.putOther (b' := cc) 0 (ints fb) (by omega)
        replace Q := Lib.hid (Q.out.puts cc 0 (ints fb) (fun z hz e => by have hz := Option.some.inj (show some gp = some z from hz); omega))
        replace DB := Lib.hid (DB.out.puts (b := cc) (by omega) 0 (ints fb))
        go_wp2_with fail
        go_meet
        case rel => exact ⟨cc, gp, _, rfl, rfl, rfl, DH, R, Q, DB⟩
    clear H1 HB KA KF
    obtain ⟨c6, gp, cap0, rfl, rfl, rfl, H, F, Q, HB⟩ := hcut
    go_wp2_with fail
    go_loopg [4, 7] 120 (fun gk s i wr => ∃ k : Nat, gk = 120 - k ∧ k ≤ 120 ∧ i = .int .i64 k ∧ s = .int .i64 (manyUp ns k : Nat) ∧ Has wr w.heap.size ns 24 ∧ Has wr c6 fb 24 ∧ Hid (Gr wr w.heap.size 31 6 (.slice (some ⟨gp, 0, none⟩) 120 cap0) allN) ∧ Hid (Kept w wr))
    case atStart => exact ⟨0, rfl, by omega, rfl, by rw [HM0.out]; rfl, H, F, Q, HB⟩
    case round =>
      obtain ⟨k, rfl, hk, rfl, rfl, GH, GF, GQ, GB⟩ := hrel
      by_cases hk1 : k < 120
      · have hki : (k : Int) < 120 := by omega
        have hk0 : (0 : Int) ≤ (k : Int) := by omega
        have hgm := ag_mem hk1
        have hg6 := (allN_names hgm).2
        have HMk := MS.out k hk1
        have MLk := ML.out k hk
        have HRG := Lib.hid (fun (W : World) (h : Gr W w.heap.size 31 6 (.slice (some ⟨gp, 0, none⟩) 120 cap0) allN) => (show W.rangeAt gp (k * 6) (ints (ag k)) from h.range allN_len.symm k hk1))
        have hrl := renR_len ns (ag k)
        have hrf : (rf ns (ag k)).length = 24 := formL_len _ hrl
        have EQ := Lib.hid (eqRackT (rf ns (ag k)) fb hrf hfl)
        have HRF := Lib.hid (show formL (renR ns (ag k)) = rf ns (ag k) from rfl)
        have HMh := Lib.hid HMk
        clear hgm HMk
        generalize ag k = g at *
        have hi6 : (Try.prog.info? 31).map (·.size) = some (ints g).length := by rw [ints_len, hg6]; kernel_rfl
        go_wp2_with fail
        have DB := Lib.hid (keptDrewS GB.out)
        refine wp_region_held_drew (S := fun w' => Has w' w.heap.size ns 24 ∧ Has w' c6 fb 24 ∧ Gr w' w.heap.size 31 6 (.slice (some ⟨gp, 0, none⟩) 120 cap0) allN) (by kernel_rfl) ⟨GH.drew, GF.drew, GQ.out.drewN 1⟩ (fun hHeld => ?_)
        generalize hWD : World.drew wr = WD at *
        clear hWD GH GF GQ GB
        (refine wpAnyH_take (i := 1) (v := ?_) rfl (by kernel_rfl) (by kernel_rfl) (by kernel_rfl) (fun _ _ _ h => h) (Or.inl ⟨by rfl, ?_⟩) hHeld ?_; rotate_left; (· (intro w' hSw; go_simp; try with_reducible rfl)); (try simp only [List.getElem_toArray, List.getElem_cons_zero, List.getElem_cons_succ, Act.put, List.setIfInBounds_toArray, List.set_cons_zero, List.set_cons_succ])); (refine wpAnyH_take (i := 2) (v := ?_) rfl (by kernel_rfl) (by kernel_rfl) (by kernel_rfl) (fun _ _ _ h => h) (Or.inl ⟨by rfl, ?_⟩) hHeld ?_; rotate_left; (· (intro w' hSw; go_simp; try with_reducible rfl)); (try simp only [List.getElem_toArray, List.getElem_cons_zero, List.getElem_cons_succ, Act.put, List.setIfInBounds_toArray, List.set_cons_zero, List.set_cons_succ])); (refine wpAnyH_take (i := 3) (v := ?_) rfl (by kernel_rfl) (by kernel_rfl) (by kernel_rfl) (fun _ _ _ h => h) (Or.inl ⟨by rfl, ?_⟩) hHeld ?_; rotate_left; (· (intro w' hSw; go_simp; try with_reducible rfl)); (try simp only [List.getElem_toArray, List.getElem_cons_zero, List.getElem_cons_succ, Act.put, List.setIfInBounds_toArray, List.set_cons_zero, List.set_cons_succ]))
        (refine wpAnyH_take (i := 0) (v := _) rfl (by kernel_rfl) (by kernel_rfl) (by kernel_rfl) (fun _ _ _ h => h) (yieldsIf_load_mid (by rfl) 28 _ rfl _ _ rfl (ints ns) _ (fun w' hSw => hSw.1.holds.range) Try.underlying28 rfl (hi1)) hHeld ?_; (try simp only [List.getElem_toArray, List.getElem_cons_zero, List.getElem_cons_succ, Act.put, List.setIfInBounds_toArray, List.set_cons_zero, List.set_cons_succ]))
        (refine wpAnyH_take (i := 4) (v := _) rfl (by kernel_rfl) (by kernel_rfl) (by kernel_rfl) (fun _ _ _ h => h) (yieldsIf_load_mid (by rfl) 31 _ rfl _ _ rfl (ints g) _ (fun w' hSw => HRG.out w' hSw.2.2) Try.underlying31 rfl (hi6)) hHeld ?_; (try simp only [List.getElem_toArray, List.getElem_cons_zero, List.getElem_cons_succ, Act.put, List.setIfInBounds_toArray, List.set_cons_zero, List.set_cons_succ]))
        (refine wpAnyH_take (i := 7) (v := _) rfl (by kernel_rfl) (by kernel_rfl) (by kernel_rfl) (fun _ _ _ h => h) (yieldsIf_load_mid (by rfl) 28 _ rfl _ _ rfl (ints fb) _ (fun w' hSw => hSw.2.1.holds.range) Try.underlying28 rfl (hi2)) hHeld ?_; (try simp only [List.getElem_toArray, List.getElem_cons_zero, List.getElem_cons_succ, Act.put, List.setIfInBounds_toArray, List.set_cons_zero, List.set_cons_succ]))
        (refine wpAnyH_ready (rs := [5]) (by kernel_rfl) (by simp) ?_; refine AllReadyH.cons (o := _) rfl (fun K hK => ?_) AllReadyH.nil; (simp only [List.getElem_toArray, List.getElem_cons_zero, List.getElem_cons_succ, Region.wanted, if_true]))
        go_simp
        refine (l4Rename_any ns g _ HL.out hg6 HV.out).mono ?_
        rintro e w5 ⟨rfl, b5⟩
        dsimp only
        (try simp only [List.getElem_toArray, List.getElem_cons_zero, List.getElem_cons_succ, Act.put, List.setIfInBounds_toArray, List.set_cons_zero, List.set_cons_succ])
        refine hK.out _ _ ⟨hHeld.1.below b5, hHeld.2.1.below b5, hHeld.2.2.below b5⟩ (fun hHeld => ?_)
        clear hK K
        replace DB := Lib.hid (DB.out.call b5)
        clear b5
        (refine wpAnyH_ready (rs := [6]) (by kernel_rfl) (by simp) ?_; refine AllReadyH.cons (o := _) rfl (fun K hK => ?_) AllReadyH.nil; (simp only [List.getElem_toArray, List.getElem_cons_zero, List.getElem_cons_succ, Region.wanted, if_true]))
        go_simp
        refine (l3Form_any (renR ns g) _ hrl).mono ?_
        rintro e w6 ⟨rfl, b6⟩
        dsimp only
        (try simp only [List.getElem_toArray, List.getElem_cons_zero, List.getElem_cons_succ, Act.put, List.setIfInBounds_toArray, List.set_cons_zero, List.set_cons_succ])
        rw [HRF.out]
        refine hK.out _ _ ⟨hHeld.1.below b6, hHeld.2.1.below b6, hHeld.2.2.below b6⟩ (fun hHeld => ?_)
        clear hK K
        replace DB := Lib.hid (DB.out.call b6)
        clear b6
        obtain ⟨bv, hbv⟩ : ∃ bv, decide (rf ns g = fb) = bv := ⟨_, rfl⟩
        have E := Lib.hid hbv
        clear hbv
        refine wpAnyH_take (i := 8) (v := .bool bv) rfl (by kernel_rfl) (by kernel_rfl) (by kernel_rfl) (fun _ _ _ h => h) (Or.inl ⟨by rfl, fun w' hSw => eqRackRunS _ _ _ _ _ _ rfl _ _ rfl rfl HMR.out EQ.out bv E.out⟩) hHeld ?_
        (try simp only [List.getElem_toArray, List.getElem_cons_zero, List.getElem_cons_succ, Act.put, List.setIfInBounds_toArray, List.set_cons_zero, List.set_cons_succ])
        refine wpAnyH_done (by kernel_rfl) ?_ _
        obtain ⟨D1, D2, D3⟩ := hHeld
        replace D3 := Lib.hid D3
        cases bv with
        | true =>
          have V := Lib.hid (show manyUp ns (k + 1) = manyUp ns k + 1 by rw [HMh.out, if_pos (of_decide_eq_true E.out)])
          clear E EQ
          go_wp2_with fail
          go_roundg (120 - (k + 1))
          case rel => exact ⟨k + 1, rfl, by omega, by go_num, by rw [V.out]; go_num, D1, D2, D3, DB⟩
          case measure => omega
        | false =>
          have V := Lib.hid (show manyUp ns (k + 1) = manyUp ns k by rw [HMh.out, if_neg (of_decide_eq_false E.out), Nat.add_zero])
          clear E EQ
          go_wp2_with fail
          go_roundg (120 - (k + 1))
          case rel => exact ⟨k + 1, rfl, by omega, by go_num, by rw [V.out], D1, D2, D3, DB⟩
          case measure => omega
      · obtain rfl : k = 120 := by omega
        go_wp2_with fail
        go_ret2
        exact ⟨by rw [E1.out, HV.out]; rfl, GB.out⟩
  · have hf : vR ns = false := by simpa using hv
    have E1 := Lib.hid (show manyS ns = 0 by unfold manyS; rw [if_neg hv])
    rw [hf]
    have HF := Lib.hid hf
    clear hv hf
    go_wp2_with fail
    go_ret2
    exact ⟨by rw [E1.out, HF.out]; rfl, HB.out⟩
end Go.Proofs.Ytlleenepinijdaa.base
