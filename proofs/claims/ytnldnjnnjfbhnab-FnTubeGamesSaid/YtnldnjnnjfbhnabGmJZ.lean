/-
  Both games on the model's side, walked: values as they are told, and best pours.
-/
/-
  The game for tubes on the model's side, walked: best pours.
-/
import Derived.Test.YtnldnjnnjfbhnabGmH
import Derived.Test.YtnldnjnnjfbhnabGmZZ
import Derived.Deep.Cut
import Derived.Deep.CutRange

section
namespace Go.Proofs.Ytnldnjnnjfbhnab.base
open Go.ChangeShapes Go.WideShapes Go.ChangeAt Go.RowKit
set_option linter.unusedVariables false
set_option linter.unusedSimpArgs false

theorem l1In_anyG (x a b : Int) (w : World) :
    Calls Try.prog 31 #[.int .i64 x, .int .i64 a, .int .i64 b] w fun e w' => e = .returned (.bool (decide (a ≤ x ∧ x ≤ b))) ∧ w = w' := by
  by_cases h : a ≤ x
  · by_cases h2 : x ≤ b
    · have E := Lib.hid (show decide (a ≤ x ∧ x ≤ b) = true from decide_eq_true ⟨h, h2⟩)
      have d1 := decide_eq_true h
      have d2 := decide_eq_true h2
      go_enter Try.func31, Try.ntmps31
      go_wp2_with fail
      go_ret
      exact ⟨by first | rfl | (rw [E.out]; rfl), rfl⟩
    · have E := Lib.hid (show decide (a ≤ x ∧ x ≤ b) = false from decide_eq_false (fun h3 => h2 h3.2))
      have d1 := decide_eq_true h
      have d2 := decide_eq_false h2
      go_enter Try.func31, Try.ntmps31
      go_wp2_with fail
      go_ret
      exact ⟨by first | rfl | (rw [E.out]; rfl), rfl⟩
  · have E := Lib.hid (show decide (a ≤ x ∧ x ≤ b) = false from decide_eq_false (fun h3 => h h3.1))
    have d1 := decide_eq_false h
    go_enter Try.func31, Try.ntmps31
    go_wp2_with fail
    go_ret
    exact ⟨by first | rfl | (rw [E.out]; rfl), rfl⟩

set_option maxHeartbeats 800000 in
theorem specTubeValue (r : List Int) (n : Int) (w : World) (h24 : r.length = 24) :
    Calls Try.prog 7 #[row r, .int .i64 n] w fun e w' => e = .returned (.tuple #[.int .i64 (gvA ptT (0) r n), .bool (gmOk r n)]) ∧ Kept w w' := by
  have HB := Lib.hid ((kept_refl w).alloc (.cells (ints r).toArray 27))
  have H := Has.box w 27 h24 (by omega)
  have EV : Hid (gvA ptT (0) r n = if gmOk r n = true then gval ptT (0) n.toNat r else 0) := Lib.hid rfl
  have EO : Hid (gmOk r n = (vR r && decide (0 ≤ n ∧ n ≤ 3))) := Lib.hid rfl
  rw [row_ints]
  go_enter Try.func7, Try.ntmps7
  go_wp2_with (refine load_has rfl 27 _ rfl _ rfl ?_ 24 ?_ _ Try.underlying27 rfl ?_ ?_; rotate_left; (· (repeat (first | (with_reducible assumption) | ((with_reducible refine Has.box _ _ ?_ ?_) <;> (first | assumption | decide)) | (with_reducible refine Has.alloc ?_ _) | ((with_reducible refine Has.putOther ?_ _ _ ?_); rotate_left; omega; skip) | ((with_reducible refine Has.below ?_ ?_); rotate_left; assumption)))); (· kernel_rfl))
  refine (l2Rack_any r _ h24).mono ?_
  rintro e w1 ⟨rfl, b1⟩
  replace H := H.below b1
  replace HB := Lib.hid (HB.out.call b1)
  clear b1
  cases hv : vR r with
  | false =>
    have E := Lib.hid (show gmOk r n = false by rw [EO.out, hv]; rfl)
    have E2 := Lib.hid (show gvA ptT (0) r n = 0 by rw [EV.out, if_neg (by rw [E.out]; simp)])
    clear hv
    go_wp2_with fail
    go_ret2
    exact ⟨by rw [E.out, E2.out]; rfl, HB.out⟩
  | true =>
    have EH := Lib.hid hv
    go_wp2_with fail
    refine (l1In_anyG n 0 3 _).mono ?_
    rintro e w2 ⟨rfl, rfl⟩
    by_cases hn : 0 ≤ n ∧ n ≤ 3
    · rw [decide_eq_true hn]
      have E := Lib.hid (show gmOk r n = true by rw [EO.out, EH.out, decide_eq_true hn]; rfl)
      have E2 := Lib.hid (show gvA ptT (0) r n = gval ptT (0) n.toNat r by rw [EV.out, if_pos E.out])
      obtain ⟨N, hN⟩ : ∃ N : Nat, n = (N : Int) := ⟨n.toNat, by omega⟩
      subst hN
      rw [Int.toNat_natCast] at E2
      have KV := Lib.hid (fun W => l10Tubes_any N (by omega) r ⟨h24, hv⟩ W)
      clear hn hv
      go_wp2_with (refine load_has rfl 27 _ rfl _ rfl ?_ 24 ?_ _ Try.underlying27 rfl ?_ ?_; rotate_left; (· (repeat (first | (with_reducible assumption) | ((with_reducible refine Has.box _ _ ?_ ?_) <;> (first | assumption | decide)) | (with_reducible refine Has.alloc ?_ _) | ((with_reducible refine Has.putOther ?_ _ _ ?_); rotate_left; omega; skip) | ((with_reducible refine Has.below ?_ ?_); rotate_left; assumption)))); (· kernel_rfl))
      refine (KV.out _).mono ?_
      rintro e w3 ⟨rfl, b3⟩
      replace HB := Lib.hid (HB.out.call b3)
      clear b3
      go_wp2_with fail
      go_ret2
      exact ⟨by rw [E.out, E2.out]; rfl, HB.out⟩
    · rw [decide_eq_false hn]
      have E := Lib.hid (show gmOk r n = false by rw [EO.out, EH.out, decide_eq_false hn]; rfl)
      have E2 := Lib.hid (show gvA ptT (0) r n = 0 by rw [EV.out, if_neg (by rw [E.out]; simp)])
      clear hn hv
      go_wp2_with fail
      go_ret2
      exact ⟨by rw [E.out, E2.out]; rfl, HB.out⟩

end Go.Proofs.Ytnldnjnnjfbhnab.base
end

section
namespace Go.Proofs.Ytnldnjnnjfbhnab.base
open Go.ChangeShapes Go.WideShapes Go.ChangeAt Go.RowKit
set_option linter.unusedVariables false
set_option linter.unusedSimpArgs false

set_option maxHeartbeats 6400000 in
set_option maxRecDepth 100000 in
theorem l10Best_any (r : List Int) (m : Nat) (w : World) (h24 : r.length = 24) (hv : vR r = true) (hm2 : m ≤ 2) :
    Calls Try.prog 34 #[row r, .int .i64 ((m + 1 : Nat) : Int)] w fun e w' => ∃ v : Value, e = .returned v ∧ Prs w' (w.heap.size + 1) v (bpN ptT (gval ptT 0 m) r (gval ptT 0 (m + 1) r) (usefNA r)) (bpF ptT (gval ptT 0 m) r (gval ptT 0 (m + 1) r) (usefNA r)) ∧ Kept w w' := by
  obtain ⟨i0, hi, hz0, hz1, hz2⟩ := info_parts infoPair
  have HB := Lib.hid ((kept_refl w).alloc (.cells (ints r).toArray 27))
  have H := Has.box w 27 h24 (by omega)
  have KV := Lib.hid (fun W => l10Tubes_any (m + 1) (by omega) r ⟨h24, hv⟩ W)
  have IHH := Lib.hid (fun x gx W => l10Tubes_any m (by omega) x gx W)
  obtain ⟨n, hm⟩ : ∃ n : Int, n = ((m + 1 : Nat) : Int) := ⟨_, rfl⟩
  have WN := Lib.hid (show IntKind.i64.wrap (n - 1) = ((m : Nat) : Int) by rw [IntWalk.i64_in _ (by omega)]; omega)
  rw [← hm] at KV ⊢
  have KU := Lib.hid (fun W => l2Useful_any r W h24 hv)
  have E1 := Lib.hid (show usefNA r = usefN r (poursN r 36) by unfold usefNA; rw [if_pos hv])
  have E2 := Lib.hid (show usefFA r = usefF r (poursN r 36) by unfold usefFA; rw [if_pos hv])
  have UN := Lib.hid (fun k hk => up_natG ⟨h24, hv⟩ k hk)
  have NG := Lib.hid (fun k hk => nx_good ⟨h24, hv⟩ k hk)
  have C24 := Lib.hid h24
  have CV := Lib.hid hv
  have N30 := use30 r
  have hi0 : (Try.prog.info? 27).map (·.size) = some 24 := by kernel_rfl
  have hi1 : (Try.prog.info? 27).map (·.size) = some (ints r).length := by rw [ints_len, h24]; exact hi0
  have hi2p : (Try.prog.info? 36).map (·.size) = some 2 := by kernel_rfl
  rw [row_ints]
  clear hm h24 hv
  go_enter Try.func34, Try.ntmps34
  go_wp2_with fail
  generalize w.alloc (.cells (ints r).toArray 27) = W0 at *
  go_cut [5, 6, 7] from 11 to 17 (fun s5 s6 s7 wx => ∃ (c : Nat) (va : Option Addr) (vc : Nat), s5 = .slice (some ⟨c, 0, none⟩) 0 0 ∧ s6 = .int .i64 (gval ptT 0 (m + 1) r) ∧ s7 = .slice va (usefNA r) vc ∧ Has wx w.heap.size r 24 ∧ Hid (Prs wx (w.heap.size + 1) (.slice (some ⟨c, 0, none⟩) 0 0) 0 []) ∧ Hid (Rw wx 0 (.slice va (usefNA r) vc) (usefNA r) (usefFA r)) ∧ Hid (∀ z, (Value.slice (some ⟨c, 0, none⟩) 0 0).ownBlock = some z → (Value.slice va (usefNA r) vc).ownBlock ≠ some z) ∧ Hid (Kept w wx))
  case first =>
    refine wp_region_held_drew (S := fun w' => Has w' w.heap.size r 24) (by kernel_rfl) H.drew (fun hHeld => ?_)
    have DH := H.drew
    have DB := Lib.hid (keptDrew8G HB.out)
    clear H HB
    generalize W0.drew = WD at *
    (refine wpAnyH_take (i := 1) (v := _) rfl (by kernel_rfl) (by kernel_rfl) (by kernel_rfl) (fun _ _ _ h => h) (yieldsIf_load_mid (by rfl) 27 _ rfl _ _ rfl (ints r) _ (fun w' hSw => hSw.holds.range) Try.underlying27 rfl (hi1)) hHeld ?_; (try simp only [List.getElem_toArray, List.getElem_cons_zero, List.getElem_cons_succ, Act.put, List.setIfInBounds_toArray, List.set_cons_zero, List.set_cons_succ]))
    (refine wpAnyH_take (i := 4) (v := _) rfl (by kernel_rfl) (by kernel_rfl) (by kernel_rfl) (fun _ _ _ h => h) (yieldsIf_load_mid (by rfl) 27 _ rfl _ _ rfl (ints r) _ (fun w' hSw => hSw.holds.range) Try.underlying27 rfl (hi1)) hHeld ?_; (try simp only [List.getElem_toArray, List.getElem_cons_zero, List.getElem_cons_succ, Act.put, List.setIfInBounds_toArray, List.set_cons_zero, List.set_cons_succ]))
    (refine wpAnyH_take (i := 2) (v := ?_) rfl (by kernel_rfl) (by kernel_rfl) (by kernel_rfl) (fun _ _ _ h => h) (Or.inl ⟨by rfl, ?_⟩) hHeld ?_; rotate_left; (· (intro w' hSw; go_simp; try with_reducible rfl)); (try simp only [List.getElem_toArray, List.getElem_cons_zero, List.getElem_cons_succ, Act.put, List.setIfInBounds_toArray, List.set_cons_zero, List.set_cons_succ]))
    refine wpAnyH_ready (rs := [0, 3]) (by kernel_rfl) (by simp) ?_
    refine AllReadyH.cons (o := _) rfl (fun K hK => ?_) (AllReadyH.cons (o := _) rfl (fun K hK => ?_) AllReadyH.nil)
    · (simp only [List.getElem_toArray, List.getElem_cons_zero, List.getElem_cons_succ, Region.wanted, if_true])
      go_simp
      have PZ := Prs.none WD (w.heap.size + 1) (by have := DH.lt; omega)
      have hcl := size1 WD (.cells #[] 36)
      refine hK.out _ _ (hHeld.alloc _) (fun hHeld => ?_)
      clear hK K
      replace DH := DH.alloc (.cells #[] 36)
      replace DB := Lib.hid (DB.out.alloc (.cells #[] 36))
      obtain ⟨c, hc⟩ : ∃ c, WD.heap.size = c := ⟨_, rfl⟩
      rw [hc] at PZ hcl ⊢
      generalize WD.alloc (.cells #[] 36) = WA at *
      clear hc
      (refine wpAnyH_ready (rs := [3]) (by kernel_rfl) (by simp) ?_; refine AllReadyH.cons (o := _) rfl (fun K hK => ?_) AllReadyH.nil; (simp only [List.getElem_toArray, List.getElem_cons_zero, List.getElem_cons_succ, Region.wanted, if_true]))
      go_simp
      refine (KV.out _).mono ?_
      rintro e wa ⟨rfl, ba⟩
      dsimp only
      (try simp only [List.getElem_toArray, List.getElem_cons_zero, List.getElem_cons_succ, Act.put, List.setIfInBounds_toArray, List.set_cons_zero, List.set_cons_succ])
      refine hK.out _ _ (hHeld.below ba) (fun hHeld => ?_)
      clear hK K
      replace DH := DH.below ba
      replace DB := Lib.hid (DB.out.call ba)
      have hsa := ba.size
      replace PZ := PZ.below ba
      clear ba
      (refine wpAnyH_ready (rs := [5]) (by kernel_rfl) (by simp) ?_; refine AllReadyH.cons (o := _) rfl (fun K hK => ?_) AllReadyH.nil; (simp only [List.getElem_toArray, List.getElem_cons_zero, List.getElem_cons_succ, Region.wanted, if_true]))
      go_simp
      refine (KU.out _).mono ?_
      rintro e wb ⟨v, rfl, q4, b4⟩
      rw [← E1.out, ← E2.out] at q4
      obtain ⟨va, vc, rfl⟩ := q4.rw.shape
      dsimp only
      (try simp only [List.getElem_toArray, List.getElem_cons_zero, List.getElem_cons_succ, Act.put, List.setIfInBounds_toArray, List.set_cons_zero, List.set_cons_succ])
      refine hK.out _ _ (hHeld.below b4) (fun hHeld => ?_)
      clear hK K
      have R0 := Lib.hid ((q4.mono (b' := 0) (Nat.zero_le _)).rw)
      replace DH := DH.below b4
      replace DB := Lib.hid (DB.out.call b4)
      have OWB := fun z e => World.ownsRow.lt q4 z e
      replace PZ := PZ.below b4
      have hsb := b4.size
      clear q4 b4
      (refine wpAnyH_take (i := 6) (v := ?_) rfl (by kernel_rfl) (by kernel_rfl) (by kernel_rfl) (fun _ _ _ h => h) (Or.inl ⟨by rfl, ?_⟩) hHeld ?_; rotate_left; (· (intro w' hSw; go_simp; try with_reducible rfl)); (try simp only [List.getElem_toArray, List.getElem_cons_zero, List.getElem_cons_succ, Act.put, List.setIfInBounds_toArray, List.set_cons_zero, List.set_cons_succ])); (refine wpAnyH_take (i := 7) (v := ?_) rfl (by kernel_rfl) (by kernel_rfl) (by kernel_rfl) (fun _ _ _ h => h) (Or.inl ⟨by rfl, ?_⟩) hHeld ?_; rotate_left; (· (intro w' hSw; go_simp; try with_reducible rfl)); (try simp only [List.getElem_toArray, List.getElem_cons_zero, List.getElem_cons_succ, Act.put, List.setIfInBounds_toArray, List.set_cons_zero, List.set_cons_succ])); (refine wpAnyH_take (i := 8) (v := ?_) rfl (by kernel_rfl) (by kernel_rfl) (by kernel_rfl) (fun _ _ _ h => h) (Or.inl ⟨by rfl, ?_⟩) hHeld ?_; rotate_left; (· (intro w' hSw; go_simp; try with_reducible rfl)); (try simp only [List.getElem_toArray, List.getElem_cons_zero, List.getElem_cons_succ, Act.put, List.setIfInBounds_toArray, List.set_cons_zero, List.set_cons_succ]))
      refine wpAnyH_done (by kernel_rfl) ?_ _
      have AP : Hid (∀ z, (Value.slice (some ⟨c, 0, none⟩) 0 0).ownBlock = some z → (Value.slice va (usefNA r) vc).ownBlock ≠ some z) := Lib.hid (fun z hz e => by
        have h1 := OWB z e
        have h2 := Option.some.inj (show some c = some z from hz)
        omega)
      clear hHeld
      go_wp2_with fail
      go_meet
      case rel => exact ⟨c, va, vc, rfl, rfl, rfl, DH, Lib.hid PZ, R0, AP, DB⟩
    · (simp only [List.getElem_toArray, List.getElem_cons_zero, List.getElem_cons_succ, Region.wanted, if_true])
      go_simp
      refine (KV.out _).mono ?_
      rintro e wa ⟨rfl, ba⟩
      dsimp only
      (try simp only [List.getElem_toArray, List.getElem_cons_zero, List.getElem_cons_succ, Act.put, List.setIfInBounds_toArray, List.set_cons_zero, List.set_cons_succ])
      refine hK.out _ _ (hHeld.below ba) (fun hHeld => ?_)
      clear hK K
      replace DH := DH.below ba
      replace DB := Lib.hid (DB.out.call ba)
      have hsa := ba.size
      clear ba
      refine wpAnyH_ready (rs := [0, 5]) (by kernel_rfl) (by simp) ?_
      refine AllReadyH.cons (o := _) rfl (fun K hK => ?_) (AllReadyH.cons (o := _) rfl (fun K hK => ?_) AllReadyH.nil)
      · (simp only [List.getElem_toArray, List.getElem_cons_zero, List.getElem_cons_succ, Region.wanted, if_true])
        go_simp
        have PZ := Prs.none wa (w.heap.size + 1) (by have := DH.lt; omega)
        have hcl := size1 wa (.cells #[] 36)
        refine hK.out _ _ (hHeld.alloc _) (fun hHeld => ?_)
        clear hK K
        replace DH := DH.alloc (.cells #[] 36)
        replace DB := Lib.hid (DB.out.alloc (.cells #[] 36))
        obtain ⟨c, hc⟩ : ∃ c, wa.heap.size = c := ⟨_, rfl⟩
        rw [hc] at PZ hcl ⊢
        generalize wa.alloc (.cells #[] 36) = WA at *
        clear hc
        (refine wpAnyH_ready (rs := [5]) (by kernel_rfl) (by simp) ?_; refine AllReadyH.cons (o := _) rfl (fun K hK => ?_) AllReadyH.nil; (simp only [List.getElem_toArray, List.getElem_cons_zero, List.getElem_cons_succ, Region.wanted, if_true]))
        go_simp
        refine (KU.out _).mono ?_
        rintro e wb ⟨v, rfl, q4, b4⟩
        rw [← E1.out, ← E2.out] at q4
        obtain ⟨va, vc, rfl⟩ := q4.rw.shape
        dsimp only
        (try simp only [List.getElem_toArray, List.getElem_cons_zero, List.getElem_cons_succ, Act.put, List.setIfInBounds_toArray, List.set_cons_zero, List.set_cons_succ])
        refine hK.out _ _ (hHeld.below b4) (fun hHeld => ?_)
        clear hK K
        have R0 := Lib.hid ((q4.mono (b' := 0) (Nat.zero_le _)).rw)
        replace DH := DH.below b4
        replace DB := Lib.hid (DB.out.call b4)
        have OWB := fun z e => World.ownsRow.lt q4 z e
        replace PZ := PZ.below b4
        have hsb := b4.size
        clear q4 b4
        (refine wpAnyH_take (i := 6) (v := ?_) rfl (by kernel_rfl) (by kernel_rfl) (by kernel_rfl) (fun _ _ _ h => h) (Or.inl ⟨by rfl, ?_⟩) hHeld ?_; rotate_left; (· (intro w' hSw; go_simp; try with_reducible rfl)); (try simp only [List.getElem_toArray, List.getElem_cons_zero, List.getElem_cons_succ, Act.put, List.setIfInBounds_toArray, List.set_cons_zero, List.set_cons_succ])); (refine wpAnyH_take (i := 7) (v := ?_) rfl (by kernel_rfl) (by kernel_rfl) (by kernel_rfl) (fun _ _ _ h => h) (Or.inl ⟨by rfl, ?_⟩) hHeld ?_; rotate_left; (· (intro w' hSw; go_simp; try with_reducible rfl)); (try simp only [List.getElem_toArray, List.getElem_cons_zero, List.getElem_cons_succ, Act.put, List.setIfInBounds_toArray, List.set_cons_zero, List.set_cons_succ])); (refine wpAnyH_take (i := 8) (v := ?_) rfl (by kernel_rfl) (by kernel_rfl) (by kernel_rfl) (fun _ _ _ h => h) (Or.inl ⟨by rfl, ?_⟩) hHeld ?_; rotate_left; (· (intro w' hSw; go_simp; try with_reducible rfl)); (try simp only [List.getElem_toArray, List.getElem_cons_zero, List.getElem_cons_succ, Act.put, List.setIfInBounds_toArray, List.set_cons_zero, List.set_cons_succ]))
        refine wpAnyH_done (by kernel_rfl) ?_ _
        have AP : Hid (∀ z, (Value.slice (some ⟨c, 0, none⟩) 0 0).ownBlock = some z → (Value.slice va (usefNA r) vc).ownBlock ≠ some z) := Lib.hid (fun z hz e => by
          have h1 := OWB z e
          have h2 := Option.some.inj (show some c = some z from hz)
          omega)
        clear hHeld
        go_wp2_with fail
        go_meet
        case rel => exact ⟨c, va, vc, rfl, rfl, rfl, DH, Lib.hid PZ, R0, AP, DB⟩
      · (simp only [List.getElem_toArray, List.getElem_cons_zero, List.getElem_cons_succ, Region.wanted, if_true])
        go_simp
        refine (KU.out _).mono ?_
        rintro e wb ⟨v, rfl, q4, b4⟩
        rw [← E1.out, ← E2.out] at q4
        obtain ⟨va, vc, rfl⟩ := q4.rw.shape
        dsimp only
        (try simp only [List.getElem_toArray, List.getElem_cons_zero, List.getElem_cons_succ, Act.put, List.setIfInBounds_toArray, List.set_cons_zero, List.set_cons_succ])
        refine hK.out _ _ (hHeld.below b4) (fun hHeld => ?_)
        clear hK K
        have R0 := Lib.hid ((q4.mono (b' := 0) (Nat.zero_le _)).rw)
        replace DH := DH.below b4
        replace DB := Lib.hid (DB.out.call b4)
        have OWB := fun z e => World.ownsRow.lt q4 z e
        have hsb := b4.size
        clear q4 b4
        (refine wpAnyH_ready (rs := [0]) (by kernel_rfl) (by simp) ?_; refine AllReadyH.cons (o := _) rfl (fun K hK => ?_) AllReadyH.nil; (simp only [List.getElem_toArray, List.getElem_cons_zero, List.getElem_cons_succ, Region.wanted, if_true]))
        go_simp
        have PZ := Prs.none wb (w.heap.size + 1) (by have := DH.lt; omega)
        have hcl := size1 wb (.cells #[] 36)
        refine hK.out _ _ (hHeld.alloc _) (fun hHeld => ?_)
        clear hK K
        replace DH := DH.alloc (.cells #[] 36)
        replace DB := Lib.hid (DB.out.alloc (.cells #[] 36))
        replace R0 := Lib.hid (R0.out.alloc (.cells #[] 36))
        obtain ⟨c, hc⟩ : ∃ c, wb.heap.size = c := ⟨_, rfl⟩
        rw [hc] at PZ hcl ⊢
        rw [hc] at OWB
        generalize wb.alloc (.cells #[] 36) = WA at *
        clear hc
        (refine wpAnyH_take (i := 6) (v := ?_) rfl (by kernel_rfl) (by kernel_rfl) (by kernel_rfl) (fun _ _ _ h => h) (Or.inl ⟨by rfl, ?_⟩) hHeld ?_; rotate_left; (· (intro w' hSw; go_simp; try with_reducible rfl)); (try simp only [List.getElem_toArray, List.getElem_cons_zero, List.getElem_cons_succ, Act.put, List.setIfInBounds_toArray, List.set_cons_zero, List.set_cons_succ])); (refine wpAnyH_take (i := 7) (v := ?_) rfl (by kernel_rfl) (by kernel_rfl) (by kernel_rfl) (fun _ _ _ h => h) (Or.inl ⟨by rfl, ?_⟩) hHeld ?_; rotate_left; (· (intro w' hSw; go_simp; try with_reducible rfl)); (try simp only [List.getElem_toArray, List.getElem_cons_zero, List.getElem_cons_succ, Act.put, List.setIfInBounds_toArray, List.set_cons_zero, List.set_cons_succ])); (refine wpAnyH_take (i := 8) (v := ?_) rfl (by kernel_rfl) (by kernel_rfl) (by kernel_rfl) (fun _ _ _ h => h) (Or.inl ⟨by rfl, ?_⟩) hHeld ?_; rotate_left; (· (intro w' hSw; go_simp; try with_reducible rfl)); (try simp only [List.getElem_toArray, List.getElem_cons_zero, List.getElem_cons_succ, Act.put, List.setIfInBounds_toArray, List.set_cons_zero, List.set_cons_succ]))
        refine wpAnyH_done (by kernel_rfl) ?_ _
        have AP : Hid (∀ z, (Value.slice (some ⟨c, 0, none⟩) 0 0).ownBlock = some z → (Value.slice va (usefNA r) vc).ownBlock ≠ some z) := Lib.hid (fun z hz e => by
          have h1 := OWB z e
          have h2 := Option.some.inj (show some c = some z from hz)
          omega)
        clear hHeld
        go_wp2_with fail
        go_meet
        case rel => exact ⟨c, va, vc, rfl, rfl, rfl, DH, Lib.hid PZ, R0, AP, DB⟩
  clear H HB
  obtain ⟨c, va, vc, rfl, rfl, rfl, H, P0, R0, AP, HB⟩ := hcut
  clear KV KU E1 E2
  obtain ⟨w4, hw4⟩ : ∃ w4, w4 = wc := ⟨wc, rfl⟩
  subst hw4
  obtain ⟨bst, hbst⟩ : ∃ bst, gval ptT (0) (m + 1) r = bst := ⟨_, rfl⟩
  have HBST := Lib.hid hbst
  rw [hbst] at ⊢
  obtain ⟨V, hV⟩ : ∃ V, gval ptT (0) m = V := ⟨_, rfl⟩
  have HV := Lib.hid hV
  rw [hV] at IHH
  have VIN := Lib.hid (show ∀ l, -18 ≤ V l ∧ V l ≤ 18 from fun l => by rw [← hV]; have := gvalT_in m l; omega)
  clear hbst hV
  have P1 : Hid (Prs w4 (w.heap.size + 1) (.slice (some ⟨c, 0, none⟩) 0 0) (bpN ptT V r bst 0) (bpF ptT V r bst 0)) := Lib.hid (by rw [(bp0 ptT V r bst).1, (bp0 ptT V r bst).2]; exact P0.out)
  clear P0
  obtain ⟨N, hN⟩ : ∃ N, usefNA r = N := ⟨_, rfl⟩
  have HNN := Lib.hid hN
  rw [hN] at R0 AP UN NG N30 ⊢
  clear hN
  go_wp2_with fail
  go_loopw [5, 8] (fun u i wr => ∃ k : Nat, k ≤ N ∧ i = .int .i64 k ∧ Has wr w.heap.size r 24 ∧ Hid (Prs wr (w.heap.size + 1) u (bpN ptT V r bst k) (bpF ptT V r bst k)) ∧ Hid (Rw wr 0 (.slice va N vc) N (usefFA r)) ∧ Hid (∀ z, u.ownBlock = some z → (Value.slice va N vc).ownBlock ≠ some z) ∧ Hid (Kept w wr)) (fun _ z _ => N - (intOf z).toNat)
  case atStart => exact ⟨0, by omega, rfl, H, P1, R0, AP, HB⟩
  case round =>
    clear H P1 R0 AP HB
    obtain ⟨k, hk, rfl, G1, GU, GR', GA, GB⟩ := hrel
    by_cases hkN : k < N
    · have Np : 0 < N := by omega
      obtain ⟨gg, gcap, he, hgb, hgl⟩ := GR'.out.form Np
      injection he with e1 _ e3
      subst e1
      subst e3
      have hki : (k : Int) < (N : Int) := by omega
      have hk0 : (0 : Int) ≤ (k : Int) := by omega
      obtain ⟨p, q, p6, q6, hne, hcn, hid, hx, hy, hnx, hok⟩ := UN.out k hkN
      have gx := NG.out k hkN
      have EY := Lib.hid (fun h => bp_yes (pt := ptT) (V := V) (ns := r) (b := bst) (k := k) h)
      have EN := Lib.hid (fun h => bp_no (pt := ptT) (V := V) (ns := r) (b := bst) (k := k) h)
      have hU := (bp_le ptT V r bst k).1
      rw [hnx] at gx
      have C0 : Hid (∀ w', Kept wr w' → w'.cell? ⟨gg, k * 2, none⟩ = some (.int .i64 (p : Int))) := Lib.hid (fun w' hw => (GR'.out.below hw).cellX (by omega) hx)
      have C1 : Hid (∀ w', Kept wr w' → w'.cell? ⟨gg, k * 2 + 1, none⟩ = some (.int .i64 (q : Int))) := Lib.hid (fun w' hw => (GR'.out.below hw).cellX (by omega) hy)
      have R24 := gx.1
      have RV := Lib.hid gx.2
      have HNE := Lib.hid hne
      have HC := Lib.hid hcn
      obtain ⟨R, hR⟩ : ∃ R, pourT r p q = R := ⟨_, rfl⟩
      rw [hR] at R24 RV hnx
      have HR := Lib.hid hR
      have HNX := Lib.hid hnx
      have HY := Lib.hid hy
      have HX := Lib.hid hx
      have l2 : (ints R).length = 24 := by rw [ints_len]; exact R24
      have HR24 := Lib.hid R24
      clear hne hcn hx hy hid hok hR hnx gx
      rw [HX.out, HY.out] at EY
      have D0 := Lib.hid (fun W (h : Kept wr W) => range_two (C0.out W h) (C1.out W h))
      have KI := Lib.hid (fun W => IHH.out R ⟨R24, RV.out⟩ W)
      have nb := VIN.out R
      have wn : IntKind.i64.wrap (n - 1) = ((m : Nat) : Int) := WN.out
      have cb1 := cmN_le R
      have cb2 := cmN_le r
      have EW : Hid (ptT r k - V (nxR r k) = ((cmN R : Int) - (cmN r : Int)) - V R) := Lib.hid (by unfold ptT; rw [HNX.out])
      go_wp2_with fail
      refine wp_region_held_drew (S := fun w' => Kept wr w') (by kernel_rfl) ?_ (fun hHeld => ?_)
      · exact (kept_refl wr).drewN 1
      (refine wpAnyH_take (i := 1) (v := ?_) rfl (by kernel_rfl) (by kernel_rfl) (by kernel_rfl) (fun _ _ _ h => h) (Or.inl ⟨by rfl, ?_⟩) hHeld ?_; rotate_left; (· (intro w' hSw; go_simp; try with_reducible rfl)); (try simp only [List.getElem_toArray, List.getElem_cons_zero, List.getElem_cons_succ, Act.put, List.setIfInBounds_toArray, List.set_cons_zero, List.set_cons_succ])); (refine wpAnyH_take (i := 2) (v := ?_) rfl (by kernel_rfl) (by kernel_rfl) (by kernel_rfl) (fun _ _ _ h => h) (Or.inl ⟨by rfl, ?_⟩) hHeld ?_; rotate_left; (· (intro w' hSw; go_simp; try with_reducible rfl)); (try simp only [List.getElem_toArray, List.getElem_cons_zero, List.getElem_cons_succ, Act.put, List.setIfInBounds_toArray, List.set_cons_zero, List.set_cons_succ])); (refine wpAnyH_take (i := 3) (v := ?_) rfl (by kernel_rfl) (by kernel_rfl) (by kernel_rfl) (fun _ _ _ h => h) (Or.inl ⟨by rfl, ?_⟩) hHeld ?_; rotate_left; (· (intro w' hSw; go_simp; try with_reducible rfl)); (try simp only [List.getElem_toArray, List.getElem_cons_zero, List.getElem_cons_succ, Act.put, List.setIfInBounds_toArray, List.set_cons_zero, List.set_cons_succ]))
      (refine wpAnyH_take (i := 0) (v := _) rfl (by kernel_rfl) (by kernel_rfl) (by kernel_rfl) (fun _ _ _ h => h) (yieldsIf_load_mid (by rfl) 27 _ rfl _ _ rfl (ints r) _ (fun w' hSw => (G1.below hSw).holds.range) Try.underlying27 rfl (hi1)) hHeld ?_; (try simp only [List.getElem_toArray, List.getElem_cons_zero, List.getElem_cons_succ, Act.put, List.setIfInBounds_toArray, List.set_cons_zero, List.set_cons_succ]))
      (refine wpAnyH_take (i := 4) (v := _) rfl (by kernel_rfl) (by kernel_rfl) (by kernel_rfl) (fun _ _ _ h => h) (yieldsIf_load_mid (by rfl) 36 _ rfl _ _ rfl (ints [(p : Int), (q : Int)]) _ (fun w' hSw => range_two (C0.out w' hSw) (C1.out w' hSw)) Try.underlying36 rfl (hi2p)) hHeld ?_; (try simp only [List.getElem_toArray, List.getElem_cons_zero, List.getElem_cons_succ, Act.put, List.setIfInBounds_toArray, List.set_cons_zero, List.set_cons_succ]))
      refine wpAnyH_ready (rs := [5, 9]) (by kernel_rfl) (by simp) ?_
      refine AllReadyH.cons (o := _) rfl (fun K hK => ?callFirst) (AllReadyH.cons (o := _) rfl (fun K hK => ?makeFirst) AllReadyH.nil)
      case' callFirst =>
        (simp only [List.getElem_toArray, List.getElem_cons_zero, List.getElem_cons_succ, Region.wanted, if_true])
        go_simp
        refine (gain_any r p q _ C24.out CV.out p6 q6 HNE.out HC.out).mono ?_
        rintro e wp2 ⟨rfl, bp2⟩
        rw [HR.out]
        dsimp only
        (try simp only [List.getElem_toArray, List.getElem_cons_zero, List.getElem_cons_succ, Act.put, List.setIfInBounds_toArray, List.set_cons_zero, List.set_cons_succ])
        have KW := Kept.call hHeld bp2
        refine hK.out _ _ KW (fun hHeld => ?_)
        clear hK K bp2
        (refine wpAnyH_take (i := 6) (v := ?_) rfl (by kernel_rfl) (by kernel_rfl) (by kernel_rfl) (fun _ _ _ h => h) (Or.inl ⟨by rfl, ?_⟩) hHeld ?_; rotate_left; (· (intro w' hSw; go_simp; try with_reducible rfl)); (try simp only [List.getElem_toArray, List.getElem_cons_zero, List.getElem_cons_succ, Act.put, List.setIfInBounds_toArray, List.set_cons_zero, List.set_cons_succ])); (refine wpAnyH_take (i := 7) (v := ?_) rfl (by kernel_rfl) (by kernel_rfl) (by kernel_rfl) (fun _ _ _ h => h) (Or.inl ⟨by rfl, ?_⟩) hHeld ?_; rotate_left; (· (intro w' hSw; go_simp; try with_reducible rfl)); (try simp only [List.getElem_toArray, List.getElem_cons_zero, List.getElem_cons_succ, Act.put, List.setIfInBounds_toArray, List.set_cons_zero, List.set_cons_succ])); (refine wpAnyH_take (i := 8) (v := ?_) rfl (by kernel_rfl) (by kernel_rfl) (by kernel_rfl) (fun _ _ _ h => h) (Or.inl ⟨by rfl, ?_⟩) hHeld ?_; rotate_left; (· (intro w' hSw; go_simp; try with_reducible rfl)); (try simp only [List.getElem_toArray, List.getElem_cons_zero, List.getElem_cons_succ, Act.put, List.setIfInBounds_toArray, List.set_cons_zero, List.set_cons_succ]))
        (refine wpAnyH_ready (rs := [9]) (by kernel_rfl) (by simp) ?_; refine AllReadyH.cons (o := _) rfl (fun K hK => ?_) AllReadyH.nil; (simp only [List.getElem_toArray, List.getElem_cons_zero, List.getElem_cons_succ, Region.wanted, if_true]))
        go_simp
        have F9 := Has.zero24 wp2 27
        have h9 := KW.size
        replace KW := KW.alloc (.cells #[.int .i64 0, .int .i64 0, .int .i64 0, .int .i64 0, .int .i64 0, .int .i64 0, .int .i64 0, .int .i64 0, .int .i64 0, .int .i64 0, .int .i64 0, .int .i64 0, .int .i64 0, .int .i64 0, .int .i64 0, .int .i64 0, .int .i64 0, .int .i64 0, .int .i64 0, .int .i64 0, .int .i64 0, .int .i64 0, .int .i64 0, .int .i64 0] 27)
        refine hK.out _ _ KW (fun hHeld => ?_)
        clear hK K
        generalize wp2.alloc (.cells #[.int .i64 0, .int .i64 0, .int .i64 0, .int .i64 0, .int .i64 0, .int .i64 0, .int .i64 0, .int .i64 0, .int .i64 0, .int .i64 0, .int .i64 0, .int .i64 0, .int .i64 0, .int .i64 0, .int .i64 0, .int .i64 0, .int .i64 0, .int .i64 0, .int .i64 0, .int .i64 0, .int .i64 0, .int .i64 0, .int .i64 0, .int .i64 0] 27) = wp3 at *
        generalize wp2.heap.size = b9 at *
        (refine wpAnyH_take (i := 10) (v := ?_) rfl (by kernel_rfl) (by kernel_rfl) (by kernel_rfl) (fun _ _ _ h => h) (Or.inl ⟨by rfl, ?_⟩) hHeld ?_; rotate_left; (· (intro w' hSw; go_simp; try with_reducible rfl)); (try simp only [List.getElem_toArray, List.getElem_cons_zero, List.getElem_cons_succ, Act.put, List.setIfInBounds_toArray, List.set_cons_zero, List.set_cons_succ]))
      case' makeFirst =>
        (simp only [List.getElem_toArray, List.getElem_cons_zero, List.getElem_cons_succ, Region.wanted, if_true])
        go_simp
        have F9 : Has _ wr.heap.size z24 24 := Has.zero24 wr.drew 27
        have KW := Kept.alloc hHeld (.cells #[.int .i64 0, .int .i64 0, .int .i64 0, .int .i64 0, .int .i64 0, .int .i64 0, .int .i64 0, .int .i64 0, .int .i64 0, .int .i64 0, .int .i64 0, .int .i64 0, .int .i64 0, .int .i64 0, .int .i64 0, .int .i64 0, .int .i64 0, .int .i64 0, .int .i64 0, .int .i64 0, .int .i64 0, .int .i64 0, .int .i64 0, .int .i64 0] 27)
        obtain ⟨b9, hb9⟩ : ∃ b : Nat, b = wr.heap.size := ⟨_, rfl⟩
        have h9 : wr.heap.size ≤ b9 := by omega
        rw [← hb9] at F9
        refine hK.out _ _ KW (fun hHeld => ?_)
        clear hK K
        (refine wpAnyH_ready (rs := [5]) (by kernel_rfl) (by simp) ?_; refine AllReadyH.cons (o := _) rfl (fun K hK => ?_) AllReadyH.nil; (simp only [List.getElem_toArray, List.getElem_cons_zero, List.getElem_cons_succ, Region.wanted, if_true]))
        go_simp
        refine (gain_any r p q _ C24.out CV.out p6 q6 HNE.out HC.out).mono ?_
        rintro e wp3 ⟨rfl, bp2⟩
        rw [HR.out]
        dsimp only
        (try simp only [List.getElem_toArray, List.getElem_cons_zero, List.getElem_cons_succ, Act.put, List.setIfInBounds_toArray, List.set_cons_zero, List.set_cons_succ])
        replace F9 := F9.below bp2
        replace KW := KW.call bp2
        refine hK.out _ _ KW (fun hHeld => ?_)
        clear hK K bp2
        (refine wpAnyH_take (i := 6) (v := ?_) rfl (by kernel_rfl) (by kernel_rfl) (by kernel_rfl) (fun _ _ _ h => h) (Or.inl ⟨by rfl, ?_⟩) hHeld ?_; rotate_left; (· (intro w' hSw; go_simp; try with_reducible rfl)); (try simp only [List.getElem_toArray, List.getElem_cons_zero, List.getElem_cons_succ, Act.put, List.setIfInBounds_toArray, List.set_cons_zero, List.set_cons_succ])); (refine wpAnyH_take (i := 7) (v := ?_) rfl (by kernel_rfl) (by kernel_rfl) (by kernel_rfl) (fun _ _ _ h => h) (Or.inl ⟨by rfl, ?_⟩) hHeld ?_; rotate_left; (· (intro w' hSw; go_simp; try with_reducible rfl)); (try simp only [List.getElem_toArray, List.getElem_cons_zero, List.getElem_cons_succ, Act.put, List.setIfInBounds_toArray, List.set_cons_zero, List.set_cons_succ])); (refine wpAnyH_take (i := 8) (v := ?_) rfl (by kernel_rfl) (by kernel_rfl) (by kernel_rfl) (fun _ _ _ h => h) (Or.inl ⟨by rfl, ?_⟩) hHeld ?_; rotate_left; (· (intro w' hSw; go_simp; try with_reducible rfl)); (try simp only [List.getElem_toArray, List.getElem_cons_zero, List.getElem_cons_succ, Act.put, List.setIfInBounds_toArray, List.set_cons_zero, List.set_cons_succ])); (refine wpAnyH_take (i := 10) (v := ?_) rfl (by kernel_rfl) (by kernel_rfl) (by kernel_rfl) (fun _ _ _ h => h) (Or.inl ⟨by rfl, ?_⟩) hHeld ?_; rotate_left; (· (intro w' hSw; go_simp; try with_reducible rfl)); (try simp only [List.getElem_toArray, List.getElem_cons_zero, List.getElem_cons_succ, Act.put, List.setIfInBounds_toArray, List.set_cons_zero, List.set_cons_succ]))
        rw [← hb9]
        clear hb9
      all_goals
        (refine wpAnyH_ready (rs := [11]) (by kernel_rfl) (by simp) ?_; refine AllReadyH.cons (o := _) rfl (fun K hK => ?_) AllReadyH.nil; (simp only [List.getElem_toArray, List.getElem_cons_zero, List.getElem_cons_succ, Region.wanted, if_true]))
        refine wp_store_mid _ _ _ rfl _ _ (ints R).toArray rfl rfl (by simpa [l2] using F9.there) (by simpa [l2] using hi0) (all_oneCell_toArray (ints_one _)) ?_
        (try simp only [List.getElem_toArray, List.getElem_cons_zero, List.getElem_cons_succ, Act.put, List.setIfInBounds_toArray, List.set_cons_zero, List.set_cons_succ, List.toList_toArray])
        replace F9 := F9.putAll R R24
        replace KW := KW.puts (b := b9) h9 0 (ints R)
        refine hK.out _ _ KW (fun hHeld => ?_)
        clear hK K
        refine wpAnyH_done (by kernel_rfl) ?_ _
        clear hHeld
        generalize wp3.setCells b9 0 (ints R) = wp4 at *
        replace G1 := G1.below KW
        replace GU := Lib.hid (GU.out.below KW)
        replace GR' := Lib.hid (GR'.out.below KW)
        replace GB := Lib.hid (GB.out.call KW)
        replace D0 : Hid (∀ W, Kept wp4 W → W.rangeAt gg (k * 2) [.int .i64 (p : Int), .int .i64 (q : Int)]) := Lib.hid (fun W hw => D0.out W (KW.call hw))
        clear KW C0 C1 h9
        go_wp2_with (refine load_has rfl 27 _ rfl _ rfl ?_ 24 ?_ _ Try.underlying27 rfl ?_ ?_; rotate_left; (· (repeat (first | (with_reducible assumption) | ((with_reducible refine Has.box _ _ ?_ ?_) <;> (first | assumption | decide)) | (with_reducible refine Has.alloc ?_ _) | ((with_reducible refine Has.putOther ?_ _ _ ?_); rotate_left; omega; skip) | ((with_reducible refine Has.below ?_ ?_); rotate_left; assumption)))); (· kernel_rfl))
        refine (KI.out _).mono ?_
        rintro e w5 ⟨rfl, b5⟩
        replace G1 := G1.below b5
        replace GU := Lib.hid (GU.out.below b5)
        replace GR' := Lib.hid (GR'.out.below b5)
        replace GB := Lib.hid (GB.out.call b5)
        have RP := Lib.hid (D0.out w5 b5)
        clear b5 D0 F9 KI wn
        have wu : IntKind.i64.wrap (((cmN R : Int) - (cmN r : Int)) - V R) = ((cmN R : Int) - (cmN r : Int)) - V R := IntWalk.i64_in _ (by omega)
        by_cases hb : ((cmN R : Int) - (cmN r : Int)) - V R = bst
        · obtain ⟨Y, Y2⟩ := EY.out (by rw [EW.out]; exact hb)
          have HYY := Lib.hid Y
          have HYY2 := Lib.hid Y2
          have q0 : (((cmN R : Int) - (cmN r : Int)) - V R == bst) = true := by simp [hb]
          have hbs := GB.out.size
          have hg1 := G1.lt
          clear hb Y Y2 EY EN EW
          go_wp2_with (first | (refine wpList_load_mid rfl 36 _ rfl gg (k * 2) rfl [.int .i64 (p : Int), .int .i64 (q : Int)] _ RP.out Try.underlying36 rfl (by kernel_rfl) ?_) | (at_builtin; refine wpList_append_lies _ rfl _ _ 32 rfl (w.heap.size + 1) 36 i0 (.agg #[.int .i64 0, .int .i64 0]) 2 16 Try.underlying32 hi hz0 hz1 hz2 rfl (by decide) _ (bpN ptT V r bst k) (ints (bpF ptT V r bst k)) rfl (World.ownsRow.alloc GU.out _) ⟨w5.heap.size, 0, none⟩ 1 1 [.int .i64 (p : Int), .int .i64 (q : Int)] rfl rfl (cell_two_new _ _ _ _) (fun z hz => by simp at hz; rcases hz with rfl | rfl <;> rfl) (by decide) (by unfold maxLen; omega) (by omega) (by simp; omega) _ rfl ?_; intro g' cap' w6 hown' hgrow3 hlie hlt3))
          obtain ⟨A2, A3⟩ := prs_app GU.out GB.out (Nat.le_refl _) hown' hgrow3
          have A1 := (G1.alloc (.cells #[.int .i64 (p : Int), .int .i64 (q : Int)] 36)).grown hgrow3 (Prs.own GU.out)
          have A0 := Lib.hid ((GR'.out.alloc (.cells #[.int .i64 (p : Int), .int .i64 (q : Int)] 36)).grownP hgrow3 (fun _ z hz => .inr (GA.out z hz)))
          have GA2 : Hid (∀ z, (Value.slice (some ⟨g', 0, none⟩) (bpN ptT V r bst k + 1) cap').ownBlock = some z → (Value.slice (some ⟨gg, 0, none⟩) N vc).ownBlock ≠ some z) := Lib.hid (fun z hz e => by
            have h5 := Option.some.inj (show some g' = some z from hz)
            subst h5
            rcases hlie with h1 | h1
            · exact GA.out _ h1 e
            · have h6 := Option.some.inj (show some gg = some g' from e)
              have h7 := (GR'.out.lt Np).2
              rw [size1] at h1; omega)
          rw [← HYY.out, ← HYY2.out] at A2
          have B2 := Lib.hid A2
          have B3 : Hid (Kept w w6) := Lib.hid A3
          clear hown' hgrow3 hlie hlt3 A2 A3
          go_wp2_with fail
          go_roundw
          case rel => exact ⟨k + 1, by omega, by go_num, A1, by rw [← HYY2.out]; exact B2, A0, by rw [← HYY2.out]; rw [← HYY2.out] at GA2; exact GA2, B3⟩
          case measure => simp [intOf]; omega
        · obtain ⟨Y, Y2⟩ := EN.out (by rw [EW.out]; exact hb)
          have B2 := Lib.hid (show Prs w5 (w.heap.size + 1) u5 (bpN ptT V r bst (k + 1)) (bpF ptT V r bst (k + 1)) by rw [Y, Y2]; exact GU.out)
          have q0 : (((cmN R : Int) - (cmN r : Int)) - V R == bst) = false := by simp; omega
          clear hb Y Y2 EY EN EW
          go_wp2_with fail
          go_roundw
          case rel => exact ⟨k + 1, by omega, by go_num, G1, B2, GR', GA, GB⟩
          case measure => simp [intOf]; omega
    · obtain rfl : k = N := by omega
      go_wp2_with fail
      go_ret
      exact ⟨_, rfl, by first | exact GU.out | (rw [HBST.out, HV.out, HNN.out]; exact GU.out), GB.out⟩

set_option maxHeartbeats 1600000 in
theorem specTubePours (r : List Int) (n : Int) (w : World) (h24 : r.length = 24) :
    Calls Try.prog 12 #[row r, .int .i64 n] w (BpPost ptT 0 r n w) := by
  have HB := Lib.hid ((kept_refl w).alloc (.cells (ints r).toArray 27))
  have H := Has.box w 27 h24 (by omega)
  have EF : Hid (bpFA ptT 0 r n = if bpOk r n = true then bpF ptT (gval ptT 0 (n.toNat - 1)) r (gval ptT 0 n.toNat r) (usefNA r) else []) := Lib.hid rfl
  have EN : Hid (bpNA ptT 0 r n = if bpOk r n = true then bpN ptT (gval ptT 0 (n.toNat - 1)) r (gval ptT 0 n.toNat r) (usefNA r) else 0) := Lib.hid rfl
  have EO : Hid (bpOk r n = (vR r && decide (0 ≤ n ∧ n ≤ 3) && decide (n ≠ 0))) := Lib.hid rfl
  rw [row_ints]
  go_enter Try.func12, Try.ntmps12
  go_wp2_with (refine load_has rfl 27 _ rfl _ rfl ?_ 24 ?_ _ Try.underlying27 rfl ?_ ?_; rotate_left; (· (repeat (first | (with_reducible assumption) | ((with_reducible refine Has.box _ _ ?_ ?_) <;> (first | assumption | decide)) | (with_reducible refine Has.alloc ?_ _) | ((with_reducible refine Has.putOther ?_ _ _ ?_); rotate_left; omega; skip) | ((with_reducible refine Has.below ?_ ?_); rotate_left; assumption)))); (· kernel_rfl))
  refine (l2Rack_any r _ h24).mono ?_
  rintro e w1 ⟨rfl, b1⟩
  have hs1 := b1.size
  simp only [size1] at hs1
  replace H := H.below b1
  replace HB := Lib.hid (HB.out.call b1)
  have P0 := Lib.hid (Prs.none w1 w.heap.size (by omega))
  have HB2 := Lib.hid (HB.out.alloc (.cells #[] 36))
  clear b1
  cases hv : vR r with
  | false =>
    have E := Lib.hid (show bpOk r n = false by rw [EO.out, hv]; rfl)
    have E1 := Lib.hid (show bpNA ptT 0 r n = 0 ∧ bpFA ptT 0 r n = [] from ⟨by rw [EN.out, if_neg (by rw [E.out]; simp)], by rw [EF.out, if_neg (by rw [E.out]; simp)]⟩)
    clear hv
    go_wp2_with fail
    go_ret2
    exact ⟨_, by rw [E.out]; rfl, by rw [E1.out.1, E1.out.2]; exact P0.out, HB2.out⟩
  | true =>
    go_wp2_with fail
    refine (l1In_anyG n 1 3 _).mono ?_
    rintro e w2 ⟨rfl, rfl⟩
    by_cases hn : 1 ≤ n ∧ n ≤ 3
    rotate_left
    · rw [decide_eq_false hn]
      have E := Lib.hid (show bpOk r n = false by
        rw [EO.out, hv, Bool.true_and, Bool.and_eq_false_iff]
        by_cases h : 0 ≤ n ∧ n ≤ 3
        · right; rw [decide_eq_false_iff_not]; intro h2; omega
        · left; exact decide_eq_false h)
      have E1 := Lib.hid (show bpNA ptT 0 r n = 0 ∧ bpFA ptT 0 r n = [] from ⟨by rw [EN.out, if_neg (by rw [E.out]; simp)], by rw [EF.out, if_neg (by rw [E.out]; simp)]⟩)
      clear hn hv
      go_wp2_with fail
      go_ret2
      exact ⟨_, by rw [E.out]; rfl, by rw [E1.out.1, E1.out.2]; exact P0.out, HB2.out⟩
    rw [decide_eq_true hn]
    obtain ⟨m, hm⟩ : ∃ m : Nat, n = ((m + 1 : Nat) : Int) := ⟨(n - 1).toNat, by omega⟩
    have E := Lib.hid (show bpOk r n = true by rw [EO.out, hv, decide_eq_true (show 0 ≤ n ∧ n ≤ 3 by omega), decide_eq_true (show n ≠ 0 by omega)]; rfl)
    have EF2 := Lib.hid (show bpFA ptT 0 r n = bpF ptT (gval ptT 0 m) r (gval ptT 0 (m + 1) r) (usefNA r) by
      rw [EF.out, if_pos E.out, hm, Int.toNat_natCast, Nat.add_sub_cancel])
    have EN2 := Lib.hid (show bpNA ptT 0 r n = bpN ptT (gval ptT 0 m) r (gval ptT 0 (m + 1) r) (usefNA r) by
      rw [EN.out, if_pos E.out, hm, Int.toNat_natCast, Nat.add_sub_cancel])
    have KV := Lib.hid (fun W => l10Best_any r m W h24 hv (by omega))
    rw [← hm] at KV
    clear hm h24 hv EF EN EO hn P0 HB2
    go_wp2_with (refine load_has rfl 27 _ rfl _ rfl ?_ 24 ?_ _ Try.underlying27 rfl ?_ ?_; rotate_left; (· (repeat (first | (with_reducible assumption) | ((with_reducible refine Has.box _ _ ?_ ?_) <;> (first | assumption | decide)) | (with_reducible refine Has.alloc ?_ _) | ((with_reducible refine Has.putOther ?_ _ _ ?_); rotate_left; omega; skip) | ((with_reducible refine Has.below ?_ ?_); rotate_left; assumption)))); (· kernel_rfl))
    refine (KV.out _).mono ?_
    rintro e w3 ⟨v, rfl, q3, b3⟩
    have Q := Lib.hid (q3.mono (b' := w.heap.size) (by omega))
    replace HB := Lib.hid (HB.out.call b3)
    clear q3 b3 KV
    go_wp2_with fail
    go_ret2
    exact ⟨_, by rw [E.out]; rfl, by rw [EF2.out, EN2.out]; exact Q.out, HB.out⟩
end Go.Proofs.Ytnldnjnnjfbhnab.base
end
