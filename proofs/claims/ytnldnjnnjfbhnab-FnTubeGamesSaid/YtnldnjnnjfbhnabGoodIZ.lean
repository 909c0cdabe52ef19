/-
  Good pours on the program's side, walked: all pours, filtered in place.
-/
/-
  Good pours on the model's side, walked.
-/
import Derived.Test.YtnldnjnnjfbhnabChgZ
import Derived.Test.YtnldnjnnjfbhnabRwZ
import Derived.Test.YtnldnjnnjfbhnabPoursZ
import Derived.Test.YtnldnjnnjfbhnabSortZ

section
namespace Go.Proofs.Ytnldnjnnjfbhnab.base
open Go.ChangeShapes Go.WideShapes Go.ChangeAt Go.RowKit
set_option linter.unusedVariables false
set_option linter.unusedSimpArgs false

def FirstBad (P : Int → Int → Bool) (fs : List Int) (n : Nat) (z : Int) : Prop :=
  (z = -1 ∧ ∀ j, j < n → P (fs.getD (j * 2) 0) (fs.getD (j * 2 + 1) 0) = true) ∨
    ∃ k : Nat, k < n ∧ z = (k : Int) ∧ (∀ j, j < k → P (fs.getD (j * 2) 0) (fs.getD (j * 2 + 1) 0) = true) ∧ P (fs.getD (k * 2) 0) (fs.getD (k * 2 + 1) 0) = false

def GoodPost (ns : List Int) (w : World) (e : Ending) (w' : World) : Prop := ∃ v : Value, e = .returned (.tuple #[v, .bool (vR ns)]) ∧ Rw w' (w.heap.size + 1) v (goodN ns) (goodF ns) ∧ Kept w w'

end Go.Proofs.Ytnldnjnnjfbhnab.base
end

section
namespace Go.Proofs.Ytnldnjnnjfbhnab.base
open Go.ChangeShapes Go.WideShapes Go.ChangeAt Go.RowKit
set_option linter.unusedVariables false
set_option linter.unusedSimpArgs false

theorem good_of {ns : List Int} {x y : Int} (h : pourOk ns x y = true) : goodP ns x y = decide (bndA (pourR ns x y) < bndA ns) := by unfold goodP; rw [h, Bool.true_and]
theorem pourR_T {ns : List Int} {p q : Nat} (h : pourOk ns (p : Int) (q : Int) = true) : pourR ns (p : Int) (q : Int) = pourT ns p q := by unfold pourR; rw [if_pos h]; simp
theorem Prs.aside {w : World} {b n : Nat} {v : Value} {fs : List Int} (h : Prs w b v n fs) (c o : Nat) (vs : List Value) (hne : ∀ k, v.ownBlock = some k → k ≠ c) : Prs (w.setCells c o vs) b v n fs := by
  have hb := below_setCells (B := 0) c (Nat.zero_le _) vs o w w (Below.refl _ _)
  exact h.apart (r := some c) ⟨hb.os, hb.tape, hb.output, Nat.le_of_eq (size_setCells c vs o w).symm, fun i hi hn => World.heap_setCells_other w c o vs hi (fun e => hn (by rw [e]))⟩ (fun k hk e => by injection hk with hk; subst hk; exact hne _ e rfl)

set_option maxHeartbeats 3200000 in
set_option maxRecDepth 100000 in
theorem l6Good_any (ns : List Int) (w : World) (h24 : ns.length = 24) (hv : vR ns = true) :
    Calls Try.prog 69 #[row ns] w fun e w' => ∃ v : Value, e = .returned v ∧ Prs w' (w.heap.size + 1) v (goodN ns) (goodF ns) ∧ Kept w w' := by
  obtain ⟨i0, hi, hz0, hz1, hz2⟩ := info_parts infoPair
  have EN : Hid (goodN ns = filtN (goodP ns) (poursF ns 36) (poursN ns 36)) := Lib.hid (by unfold goodN poursFA poursNA; rw [if_pos hv, if_pos hv])
  have EF : Hid (goodF ns = filtF (goodP ns) (poursF ns 36) (poursN ns 36)) := Lib.hid (by unfold goodF poursFA poursNA; rw [if_pos hv, if_pos hv])
  have HB := Lib.hid (((kept_refl w).alloc (.cells (ints ns).toArray 27)).alloc (.cells #[] 36))
  have H := (Has.box w 27 h24 (by omega)).alloc (.cells #[] 36)
  have P0 := Prs.none (w.alloc (.cells (ints ns).toArray 27)) (w.heap.size + 1) (by simp)
  rw [size1] at P0
  have P1 : Hid (Prs ((w.alloc (.cells (ints ns).toArray 27)).alloc (.cells #[] 36)) (w.heap.size + 1) (.slice (some ⟨w.heap.size + 1, 0, none⟩) 0 0) (filtN (goodP ns) (poursF ns 36) 0) (filtF (goodP ns) (poursF ns 36) 0)) := Lib.hid (by rw [filt0.1, filt0.2]; exact P0)
  clear P0
  have hi0 : (Try.prog.info? 27).map (·.size) = some 24 := by kernel_rfl
  have hi1 : (Try.prog.info? 27).map (·.size) = some (ints ns).length := by rw [ints_len, h24]; exact hi0
  rw [row_ints]
  go_enter Try.func69, Try.ntmps69
  go_wp2_with (refine load_has rfl 27 _ rfl _ rfl ?_ 24 ?_ _ Try.underlying27 rfl ?_ ?_; rotate_left; (· (repeat (first | (with_reducible assumption) | ((with_reducible refine Has.box _ _ ?_ ?_) <;> (first | assumption | decide)) | (with_reducible refine Has.alloc ?_ _) | ((with_reducible refine Has.putOther ?_ _ _ ?_); rotate_left; omega; skip) | ((with_reducible refine Has.below ?_ ?_); rotate_left; assumption)))); (· kernel_rfl))
  refine (l2Pours_any ns _ h24 hv).mono ?_
  rintro e w1 ⟨pv, rfl, q1, b1⟩
  have H1 := H.below b1
  have HB1 := Lib.hid (HB.out.call b1)
  have P2 := Lib.hid (P1.out.below b1)
  have AP : Hid (∀ z, (Value.slice (some ⟨w.heap.size + 1, 0, none⟩) 0 0).ownBlock = some z → pv.ownBlock ≠ some z) := Lib.hid (fun z hz e => by
    have := (World.ownsRow.lt q1 z e).1
    simp only [Value.ownBlock, Option.some.injEq] at hz
    simp at this; omega)
  have hs1 := HB.out.size
  have q2 := q1.mono (b' := w.heap.size + 1) (by rw [size1, size1]; omega)
  obtain ⟨a, cap, rfl⟩ := prs_shape q1
  have Q1 := Lib.hid q2
  have H24 := Lib.hid h24
  have HV := Lib.hid hv
  have VB := Lib.hid (fun k (hk : k < poursN ns 36) => pourk_ok hv hk)
  clear H HB P1 q1 q2 b1 h24 hv hs1
  have hN := poursN_le ns 36
  have hfl := poursF_len ns 36
  have HL := Lib.hid hfl
  clear hfl
  go_wp2_with fail
  go_loopw [3, 5] (fun u i wr => ∃ k : Nat, k ≤ poursN ns 36 ∧ i = .int .i64 k ∧ Has wr w.heap.size ns 24 ∧ Hid (Prs wr (w.heap.size + 1) u (filtN (goodP ns) (poursF ns 36) k) (filtF (goodP ns) (poursF ns 36) k)) ∧ Hid (Prs wr (w.heap.size + 1) (.slice a (poursN ns 36) cap) (poursN ns 36) (poursF ns 36)) ∧ Hid (∀ z, u.ownBlock = some z → (Value.slice a (poursN ns 36) cap).ownBlock ≠ some z) ∧ Hid (Kept w wr)) (fun _ z _ => poursN ns 36 - (intOf z).toNat)
  case atStart => exact ⟨0, by omega, rfl, H1, P2, Q1, AP, HB1⟩
  case round =>
    clear H1 P2 Q1 AP HB1
    obtain ⟨k, hk, rfl, G1, GU, GQ, GA, GB⟩ := hrel
    by_cases hkn : k < poursN ns 36
    · have ki : (k : Int) < ((poursN ns 36 : Nat) : Int) := by omega
      have k0 : (0 : Int) ≤ (k : Int) := by omega
      obtain ⟨g, cap2, hv', _, _⟩ := GQ.out.form (by omega)
      injection hv' with ha _ hcap
      subst ha
      subst hcap
      obtain ⟨p6, q6, hc, f1, f2⟩ := pour_k ns k hkn
      obtain ⟨hok, hne⟩ := VB.out k hkn
      rw [f1, f2] at hok
      have PF := (pour_facts H24.out hok).valid
      rw [pourR_T hok] at PF
      have KY := Lib.hid (fun h => filt_yes (P := goodP ns) (fs := poursF ns 36) (k := k) h)
      have KN := Lib.hid (fun h => filt_no (P := goodP ns) (fs := poursF ns 36) (k := k) h)
      have GP := good_of hok
      rw [pourR_T hok] at GP
      rw [f1, f2] at KY KN
      have RV := Lib.hid PF
      have R24 := pourR_len H24.out (fstP ns k : Int) (sndP ns k : Int)
      rw [pourR_T hok] at R24
      have GPH := Lib.hid GP
      have FX1 := Lib.hid f1
      have FX2 := Lib.hid f2
      have HNE := Lib.hid hne
      have HC := Lib.hid hc
      have hU := filtN_le (P := goodP ns) (fs := poursF ns 36) k
      have hgw := (World.ownsRow.lt GQ.out g rfl)
      have huw := Lib.hid (fun z hz => (World.ownsRow.lt GU.out z hz))
      clear f1 f2 hc hne hok PF GP
      generalize hR : pourT ns (fstP ns k) (sndP ns k) = R at *
      have HR := Lib.hid hR
      clear hR
      generalize hp : fstP ns k = p at *
      generalize hq : sndP ns k = q at *
      clear hp hq
      have l2 : (ints R).length = 24 := by rw [ints_len]; exact R24
      have hi2 : (Try.prog.info? 27).map (·.size) = some (ints R).length := by rw [l2]; exact hi0
      have HR24 := Lib.hid R24
      go_wp2_with fail
      refine wp_region_held_drew (S := fun w' => Has w' w.heap.size ns 24 ∧ Prs w' (w.heap.size + 1) u3 (filtN (goodP ns) (poursF ns 36) k) (filtF (goodP ns) (poursF ns 36) k) ∧ Prs w' (w.heap.size + 1) (.slice (some ⟨g, 0, none⟩) (poursN ns 36) cap) (poursN ns 36) (poursF ns 36) ∧ Kept w w') (by kernel_rfl) ?_ (fun hHeld => ?_)
      · exact ⟨G1.drew, GU.out.drewN 1, GQ.out.drewN 1, GB.out.drewN 1⟩
      (refine wpAnyH_take (i := 1) (v := ?_) rfl (by kernel_rfl) (by kernel_rfl) (by kernel_rfl) (fun _ _ _ h => h) (Or.inl ⟨by rfl, ?_⟩) hHeld ?_; rotate_left; (· (intro w' hSw; go_simp; try with_reducible rfl)); (try simp only [List.getElem_toArray, List.getElem_cons_zero, List.getElem_cons_succ, Act.put, List.setIfInBounds_toArray, List.set_cons_zero, List.set_cons_succ])); (refine wpAnyH_take (i := 2) (v := ?_) rfl (by kernel_rfl) (by kernel_rfl) (by kernel_rfl) (fun _ _ _ h => h) (Or.inl ⟨by rfl, ?_⟩) hHeld ?_; rotate_left; (· (intro w' hSw; go_simp; try with_reducible rfl)); (try simp only [List.getElem_toArray, List.getElem_cons_zero, List.getElem_cons_succ, Act.put, List.setIfInBounds_toArray, List.set_cons_zero, List.set_cons_succ])); (refine wpAnyH_take (i := 3) (v := ?_) rfl (by kernel_rfl) (by kernel_rfl) (by kernel_rfl) (fun _ _ _ h => h) (Or.inl ⟨by rfl, ?_⟩) hHeld ?_; rotate_left; (· (intro w' hSw; go_simp; try with_reducible rfl)); (try simp only [List.getElem_toArray, List.getElem_cons_zero, List.getElem_cons_succ, Act.put, List.setIfInBounds_toArray, List.set_cons_zero, List.set_cons_succ])); (refine wpAnyH_take (i := 4) (v := ?_) rfl (by kernel_rfl) (by kernel_rfl) (by kernel_rfl) (fun _ _ _ h => h) (Or.inl ⟨by rfl, ?_⟩) hHeld ?_; rotate_left; (· (intro w' hSw; go_simp; try with_reducible rfl)); (try simp only [List.getElem_toArray, List.getElem_cons_zero, List.getElem_cons_succ, Act.put, List.setIfInBounds_toArray, List.set_cons_zero, List.set_cons_succ])); (refine wpAnyH_take (i := 6) (v := ?_) rfl (by kernel_rfl) (by kernel_rfl) (by kernel_rfl) (fun _ _ _ h => h) (Or.inl ⟨by rfl, ?_⟩) hHeld ?_; rotate_left; (· (intro w' hSw; go_simp; try with_reducible rfl)); (try simp only [List.getElem_toArray, List.getElem_cons_zero, List.getElem_cons_succ, Act.put, List.setIfInBounds_toArray, List.set_cons_zero, List.set_cons_succ])); (refine wpAnyH_take (i := 7) (v := ?_) rfl (by kernel_rfl) (by kernel_rfl) (by kernel_rfl) (fun _ _ _ h => h) (Or.inl ⟨by rfl, ?_⟩) hHeld ?_; rotate_left; (· (intro w' hSw; go_simp; try with_reducible rfl)); (try simp only [List.getElem_toArray, List.getElem_cons_zero, List.getElem_cons_succ, Act.put, List.setIfInBounds_toArray, List.set_cons_zero, List.set_cons_succ])); (refine wpAnyH_take (i := 8) (v := ?_) rfl (by kernel_rfl) (by kernel_rfl) (by kernel_rfl) (fun _ _ _ h => h) (Or.inl ⟨by rfl, ?_⟩) hHeld ?_; rotate_left; (· (intro w' hSw; go_simp; try with_reducible rfl)); (try simp only [List.getElem_toArray, List.getElem_cons_zero, List.getElem_cons_succ, Act.put, List.setIfInBounds_toArray, List.set_cons_zero, List.set_cons_succ])); (refine wpAnyH_take (i := 9) (v := ?_) rfl (by kernel_rfl) (by kernel_rfl) (by kernel_rfl) (fun _ _ _ h => h) (Or.inl ⟨by rfl, ?_⟩) hHeld ?_; rotate_left; (· (intro w' hSw; go_simp; try with_reducible rfl)); (try simp only [List.getElem_toArray, List.getElem_cons_zero, List.getElem_cons_succ, Act.put, List.setIfInBounds_toArray, List.set_cons_zero, List.set_cons_succ]))
      (refine wpAnyH_take (i := 0) (v := _) rfl (by kernel_rfl) (by kernel_rfl) (by kernel_rfl) (fun _ _ _ h => h) (yieldsIf_load_mid (by rfl) 27 _ rfl _ _ rfl (ints ns) _ (fun w' hSw => hSw.1.holds.range) Try.underlying27 rfl (hi1)) hHeld ?_; (try simp only [List.getElem_toArray, List.getElem_cons_zero, List.getElem_cons_succ, Act.put, List.setIfInBounds_toArray, List.set_cons_zero, List.set_cons_succ]))
      refine wpAnyH_take (i := 5) (v := .int .i64 (p : Int)) rfl (by kernel_rfl) (by kernel_rfl) (by kernel_rfl) (fun _ _ _ h => h) (Or.inl ⟨by rfl, ?_⟩) hHeld ?_
      · intro w' hSw
        have cc := hSw.2.2.1.cell (k * 2) (by omega)
        rw [FX1.out] at cc
        go_simp
      (try simp only [List.getElem_toArray, List.getElem_cons_zero, List.getElem_cons_succ, Act.put, List.setIfInBounds_toArray, List.set_cons_zero, List.set_cons_succ])
      refine wpAnyH_take (i := 10) (v := .int .i64 (q : Int)) rfl (by kernel_rfl) (by kernel_rfl) (by kernel_rfl) (fun _ _ _ h => h) (Or.inl ⟨by rfl, ?_⟩) hHeld ?_
      · intro w' hSw
        have cc := hSw.2.2.1.cell (k * 2 + 1) (by omega)
        rw [FX2.out] at cc
        go_simp
      (try simp only [List.getElem_toArray, List.getElem_cons_zero, List.getElem_cons_succ, Act.put, List.setIfInBounds_toArray, List.set_cons_zero, List.set_cons_succ])
      refine wpAnyH_ready (rs := [11, 15]) (by kernel_rfl) (by simp) ?_
      refine AllReadyH.cons (o := _) rfl (fun K hK => ?callFirst) (AllReadyH.cons (o := _) rfl (fun K hK => ?makeFirst) AllReadyH.nil)
      case' callFirst =>
        (simp only [List.getElem_toArray, List.getElem_cons_zero, List.getElem_cons_succ, Region.wanted, if_true])
        go_simp
        refine (l2Pour_any ns p q _ H24.out HV.out p6 q6 HNE.out HC.out).mono ?_
        rintro e w2 ⟨rfl, b2⟩
        rw [HR.out]
        dsimp only
        (try simp only [List.getElem_toArray, List.getElem_cons_zero, List.getElem_cons_succ, Act.put, List.setIfInBounds_toArray, List.set_cons_zero, List.set_cons_succ])
        have F1 := hHeld.1.below b2
        have FU := hHeld.2.1.below b2
        have FP := hHeld.2.2.1.below b2
        have FB := hHeld.2.2.2.call b2
        have FS : wr.heap.size ≤ w2.heap.size := b2.size
        refine hK.out _ _ ⟨F1, FU, FP, FB⟩ (fun hHeld => ?_)
        clear hK K b2
        (refine wpAnyH_take (i := 12) (v := ?_) rfl (by kernel_rfl) (by kernel_rfl) (by kernel_rfl) (fun _ _ _ h => h) (Or.inl ⟨by rfl, ?_⟩) hHeld ?_; rotate_left; (· (intro w' hSw; go_simp; try with_reducible rfl)); (try simp only [List.getElem_toArray, List.getElem_cons_zero, List.getElem_cons_succ, Act.put, List.setIfInBounds_toArray, List.set_cons_zero, List.set_cons_succ])); (refine wpAnyH_take (i := 13) (v := ?_) rfl (by kernel_rfl) (by kernel_rfl) (by kernel_rfl) (fun _ _ _ h => h) (Or.inl ⟨by rfl, ?_⟩) hHeld ?_; rotate_left; (· (intro w' hSw; go_simp; try with_reducible rfl)); (try simp only [List.getElem_toArray, List.getElem_cons_zero, List.getElem_cons_succ, Act.put, List.setIfInBounds_toArray, List.set_cons_zero, List.set_cons_succ])); (refine wpAnyH_take (i := 14) (v := ?_) rfl (by kernel_rfl) (by kernel_rfl) (by kernel_rfl) (fun _ _ _ h => h) (Or.inl ⟨by rfl, ?_⟩) hHeld ?_; rotate_left; (· (intro w' hSw; go_simp; try with_reducible rfl)); (try simp only [List.getElem_toArray, List.getElem_cons_zero, List.getElem_cons_succ, Act.put, List.setIfInBounds_toArray, List.set_cons_zero, List.set_cons_succ]))
        (refine wpAnyH_ready (rs := [15]) (by kernel_rfl) (by simp) ?_; refine AllReadyH.cons (o := _) rfl (fun K hK => ?_) AllReadyH.nil; (simp only [List.getElem_toArray, List.getElem_cons_zero, List.getElem_cons_succ, Region.wanted, if_true]))
        go_simp
        have h1 := F1.lt
        have F9 := Has.zero24 w2 27
        have F1 := F1.alloc (.cells #[.int .i64 0, .int .i64 0, .int .i64 0, .int .i64 0, .int .i64 0, .int .i64 0, .int .i64 0, .int .i64 0, .int .i64 0, .int .i64 0, .int .i64 0, .int .i64 0, .int .i64 0, .int .i64 0, .int .i64 0, .int .i64 0, .int .i64 0, .int .i64 0, .int .i64 0, .int .i64 0, .int .i64 0, .int .i64 0, .int .i64 0, .int .i64 0] 27)
        have FU := FU.alloc (.cells #[.int .i64 0, .int .i64 0, .int .i64 0, .int .i64 0, .int .i64 0, .int .i64 0, .int .i64 0, .int .i64 0, .int .i64 0, .int .i64 0, .int .i64 0, .int .i64 0, .int .i64 0, .int .i64 0, .int .i64 0, .int .i64 0, .int .i64 0, .int .i64 0, .int .i64 0, .int .i64 0, .int .i64 0, .int .i64 0, .int .i64 0, .int .i64 0] 27)
        have FP := FP.alloc (.cells #[.int .i64 0, .int .i64 0, .int .i64 0, .int .i64 0, .int .i64 0, .int .i64 0, .int .i64 0, .int .i64 0, .int .i64 0, .int .i64 0, .int .i64 0, .int .i64 0, .int .i64 0, .int .i64 0, .int .i64 0, .int .i64 0, .int .i64 0, .int .i64 0, .int .i64 0, .int .i64 0, .int .i64 0, .int .i64 0, .int .i64 0, .int .i64 0] 27)
        have FB := FB.alloc (.cells #[.int .i64 0, .int .i64 0, .int .i64 0, .int .i64 0, .int .i64 0, .int .i64 0, .int .i64 0, .int .i64 0, .int .i64 0, .int .i64 0, .int .i64 0, .int .i64 0, .int .i64 0, .int .i64 0, .int .i64 0, .int .i64 0, .int .i64 0, .int .i64 0, .int .i64 0, .int .i64 0, .int .i64 0, .int .i64 0, .int .i64 0, .int .i64 0] 27)
        refine hK.out _ _ ⟨F1, FU, FP, FB⟩ (fun hHeld => ?_)
        clear hK K
        generalize w2.alloc (.cells #[.int .i64 0, .int .i64 0, .int .i64 0, .int .i64 0, .int .i64 0, .int .i64 0, .int .i64 0, .int .i64 0, .int .i64 0, .int .i64 0, .int .i64 0, .int .i64 0, .int .i64 0, .int .i64 0, .int .i64 0, .int .i64 0, .int .i64 0, .int .i64 0, .int .i64 0, .int .i64 0, .int .i64 0, .int .i64 0, .int .i64 0, .int .i64 0] 27) = W3 at *
        generalize w2.heap.size = b9 at *
      case' makeFirst =>
        (simp only [List.getElem_toArray, List.getElem_cons_zero, List.getElem_cons_succ, Region.wanted, if_true])
        go_simp
        have h1 := hHeld.1.lt
        have F9 : Has _ wr.heap.size z24 24 := Has.zero24 wr.drew 27
        have F1 := hHeld.1.alloc (.cells #[.int .i64 0, .int .i64 0, .int .i64 0, .int .i64 0, .int .i64 0, .int .i64 0, .int .i64 0, .int .i64 0, .int .i64 0, .int .i64 0, .int .i64 0, .int .i64 0, .int .i64 0, .int .i64 0, .int .i64 0, .int .i64 0, .int .i64 0, .int .i64 0, .int .i64 0, .int .i64 0, .int .i64 0, .int .i64 0, .int .i64 0, .int .i64 0] 27)
        have FU := hHeld.2.1.alloc (.cells #[.int .i64 0, .int .i64 0, .int .i64 0, .int .i64 0, .int .i64 0, .int .i64 0, .int .i64 0, .int .i64 0, .int .i64 0, .int .i64 0, .int .i64 0, .int .i64 0, .int .i64 0, .int .i64 0, .int .i64 0, .int .i64 0, .int .i64 0, .int .i64 0, .int .i64 0, .int .i64 0, .int .i64 0, .int .i64 0, .int .i64 0, .int .i64 0] 27)
        have FP := hHeld.2.2.1.alloc (.cells #[.int .i64 0, .int .i64 0, .int .i64 0, .int .i64 0, .int .i64 0, .int .i64 0, .int .i64 0, .int .i64 0, .int .i64 0, .int .i64 0, .int .i64 0, .int .i64 0, .int .i64 0, .int .i64 0, .int .i64 0, .int .i64 0, .int .i64 0, .int .i64 0, .int .i64 0, .int .i64 0, .int .i64 0, .int .i64 0, .int .i64 0, .int .i64 0] 27)
        have FB := hHeld.2.2.2.alloc (.cells #[.int .i64 0, .int .i64 0, .int .i64 0, .int .i64 0, .int .i64 0, .int .i64 0, .int .i64 0, .int .i64 0, .int .i64 0, .int .i64 0, .int .i64 0, .int .i64 0, .int .i64 0, .int .i64 0, .int .i64 0, .int .i64 0, .int .i64 0, .int .i64 0, .int .i64 0, .int .i64 0, .int .i64 0, .int .i64 0, .int .i64 0, .int .i64 0] 27)
        refine hK.out _ _ ⟨F1, FU, FP, FB⟩ (fun hHeld => ?_)
        clear hK K
        (refine wpAnyH_ready (rs := [11]) (by kernel_rfl) (by simp) ?_; refine AllReadyH.cons (o := _) rfl (fun K hK => ?_) AllReadyH.nil; (simp only [List.getElem_toArray, List.getElem_cons_zero, List.getElem_cons_succ, Region.wanted, if_true]))
        go_simp
        refine (l2Pour_any ns p q _ H24.out HV.out p6 q6 HNE.out HC.out).mono ?_
        rintro e w2 ⟨rfl, b2⟩
        rw [HR.out]
        dsimp only
        (try simp only [List.getElem_toArray, List.getElem_cons_zero, List.getElem_cons_succ, Act.put, List.setIfInBounds_toArray, List.set_cons_zero, List.set_cons_succ])
        have F1 := F1.below b2
        have FU := FU.below b2
        have F9 := F9.below b2
        have FP := FP.below b2
        have FB := FB.call b2
        refine hK.out _ _ ⟨F1, FU, FP, FB⟩ (fun hHeld => ?_)
        clear hK K b2
        (refine wpAnyH_take (i := 12) (v := ?_) rfl (by kernel_rfl) (by kernel_rfl) (by kernel_rfl) (fun _ _ _ h => h) (Or.inl ⟨by rfl, ?_⟩) hHeld ?_; rotate_left; (· (intro w' hSw; go_simp; try with_reducible rfl)); (try simp only [List.getElem_toArray, List.getElem_cons_zero, List.getElem_cons_succ, Act.put, List.setIfInBounds_toArray, List.set_cons_zero, List.set_cons_succ])); (refine wpAnyH_take (i := 13) (v := ?_) rfl (by kernel_rfl) (by kernel_rfl) (by kernel_rfl) (fun _ _ _ h => h) (Or.inl ⟨by rfl, ?_⟩) hHeld ?_; rotate_left; (· (intro w' hSw; go_simp; try with_reducible rfl)); (try simp only [List.getElem_toArray, List.getElem_cons_zero, List.getElem_cons_succ, Act.put, List.setIfInBounds_toArray, List.set_cons_zero, List.set_cons_succ])); (refine wpAnyH_take (i := 14) (v := ?_) rfl (by kernel_rfl) (by kernel_rfl) (by kernel_rfl) (fun _ _ _ h => h) (Or.inl ⟨by rfl, ?_⟩) hHeld ?_; rotate_left; (· (intro w' hSw; go_simp; try with_reducible rfl)); (try simp only [List.getElem_toArray, List.getElem_cons_zero, List.getElem_cons_succ, Act.put, List.setIfInBounds_toArray, List.set_cons_zero, List.set_cons_succ]))
        have h1 : w.heap.size < wr.heap.size := h1
        generalize wr.heap.size = b9 at *
      all_goals
        have hub : Hid (∀ z, u3.ownBlock = some z → z ≠ b9) := Lib.hid (fun z hz => by have := (huw.out z hz).2; omega)
        have hgb : Hid (g ≠ b9) := Lib.hid (by have := hgw.2; omega)
        (refine wpAnyH_ready (rs := [16]) (by kernel_rfl) (by simp) ?_; refine AllReadyH.cons (o := _) rfl (fun K hK => ?_) AllReadyH.nil; (simp only [List.getElem_toArray, List.getElem_cons_zero, List.getElem_cons_succ, Region.wanted, if_true]))
        refine wp_store_mid _ _ _ rfl _ _ (ints R).toArray rfl rfl (by simpa [l2] using F9.there) (by simpa [l2] using hi0) (all_oneCell_toArray (ints_one _)) ?_
        (try simp only [List.getElem_toArray, List.getElem_cons_zero, List.getElem_cons_succ, Act.put, List.setIfInBounds_toArray, List.set_cons_zero, List.set_cons_succ, List.toList_toArray])
        have F1 := F1.putOther (b' := b9) 0 (ints R) (by omega)
        have FU := FU.aside b9 0 (ints R) hub.out
        have FP := FP.aside b9 0 (ints R) (fun k hk => by simp only [Value.ownBlock, Option.some.injEq] at hk; have := hgb.out; omega)
        have FB := FB.puts (b := b9) (by omega) 0 (ints R)
        have F9 := F9.putAll R R24
        refine hK.out _ _ ⟨F1, FU, FP, FB⟩ (fun hHeld => ?_)
        clear hK K
        (refine wpAnyH_take (i := 17) (v := ?_) rfl (by kernel_rfl) (by kernel_rfl) (by kernel_rfl) (fun _ _ _ h => h) (Or.inl ⟨by rfl, ?_⟩) hHeld ?_; rotate_left; (· (intro w' hSw; go_simp; try with_reducible rfl)); (try simp only [List.getElem_toArray, List.getElem_cons_zero, List.getElem_cons_succ, Act.put, List.setIfInBounds_toArray, List.set_cons_zero, List.set_cons_succ]))
        refine wpAnyH_done (by kernel_rfl) ?_ _
        clear hHeld G1 GU GQ GB
        have FU := Lib.hid FU
        have FP := Lib.hid FP
        have FB := Lib.hid FB
        generalize World.setCells _ b9 0 (ints R) = W4 at *
        go_wp2_with fail
        refine wp_region_held_drew (S := fun w' => Has w' b9 R 24 ∧ Has w' w.heap.size ns 24 ∧ Prs w' (w.heap.size + 1) u3 (filtN (goodP ns) (poursF ns 36) k) (filtF (goodP ns) (poursF ns 36) k) ∧ Prs w' (w.heap.size + 1) (.slice (some ⟨g, 0, none⟩) (poursN ns 36) cap) (poursN ns 36) (poursF ns 36) ∧ Kept w w') (by kernel_rfl) ?_ (fun hHeld => ?_)
        · exact ⟨F9.drew, F1.drew, FU.out.drewN 1, FP.out.drewN 1, FB.out.drewN 1⟩
        generalize W4.drew = W5 at *
        (refine wpAnyH_take (i := 0) (v := _) rfl (by kernel_rfl) (by kernel_rfl) (by kernel_rfl) (fun _ _ _ h => h) (yieldsIf_load_mid (by rfl) 27 _ rfl _ _ rfl (ints R) _ (fun w' hSw => hSw.1.holds.range) Try.underlying27 rfl (hi2)) hHeld ?_; (try simp only [List.getElem_toArray, List.getElem_cons_zero, List.getElem_cons_succ, Act.put, List.setIfInBounds_toArray, List.set_cons_zero, List.set_cons_succ]))
        (refine wpAnyH_take (i := 2) (v := _) rfl (by kernel_rfl) (by kernel_rfl) (by kernel_rfl) (fun _ _ _ h => h) (yieldsIf_load_mid (by rfl) 27 _ rfl _ _ rfl (ints ns) _ (fun w' hSw => hSw.2.1.holds.range) Try.underlying27 rfl (hi1)) hHeld ?_; (try simp only [List.getElem_toArray, List.getElem_cons_zero, List.getElem_cons_succ, Act.put, List.setIfInBounds_toArray, List.set_cons_zero, List.set_cons_succ]))
        (refine wpAnyH_ready (rs := [1]) (by kernel_rfl) (by simp) ?_; refine AllReadyH.cons (o := _) rfl (fun K hK => ?_) AllReadyH.nil; (simp only [List.getElem_toArray, List.getElem_cons_zero, List.getElem_cons_succ, Region.wanted, if_true]))
        go_simp
        refine (l6Bound_A R _ HR24.out RV.out).mono ?_
        rintro e w6 ⟨rfl, b6⟩
        dsimp only
        (try simp only [List.getElem_toArray, List.getElem_cons_zero, List.getElem_cons_succ, Act.put, List.setIfInBounds_toArray, List.set_cons_zero, List.set_cons_succ])
        refine hK.out _ _ ⟨hHeld.1.below b6, hHeld.2.1.below b6, hHeld.2.2.1.below b6, hHeld.2.2.2.1.below b6, hHeld.2.2.2.2.call b6⟩ (fun hHeld => ?_)
        clear hK K b6
        (refine wpAnyH_ready (rs := [3]) (by kernel_rfl) (by simp) ?_; refine AllReadyH.cons (o := _) rfl (fun K hK => ?_) AllReadyH.nil; (simp only [List.getElem_toArray, List.getElem_cons_zero, List.getElem_cons_succ, Region.wanted, if_true]))
        go_simp
        refine (l6Bound_A ns _ H24.out HV.out).mono ?_
        rintro e w7 ⟨rfl, b7⟩
        dsimp only
        (try simp only [List.getElem_toArray, List.getElem_cons_zero, List.getElem_cons_succ, Act.put, List.setIfInBounds_toArray, List.set_cons_zero, List.set_cons_succ])
        refine hK.out _ _ ⟨hHeld.1.below b7, hHeld.2.1.below b7, hHeld.2.2.1.below b7, hHeld.2.2.2.1.below b7, hHeld.2.2.2.2.call b7⟩ (fun hHeld => ?_)
        clear hK K b7
        (refine wpAnyH_take (i := 4) (v := ?_) rfl (by kernel_rfl) (by kernel_rfl) (by kernel_rfl) (fun _ _ _ h => h) (Or.inl ⟨by rfl, ?_⟩) hHeld ?_; rotate_left; (· (intro w' hSw; go_simp; try with_reducible rfl)); (try simp only [List.getElem_toArray, List.getElem_cons_zero, List.getElem_cons_succ, Act.put, List.setIfInBounds_toArray, List.set_cons_zero, List.set_cons_succ]))
        refine wpAnyH_done (by kernel_rfl) ?_ _
        have K1 := hHeld.2.1
        have KU := Lib.hid hHeld.2.2.1
        have KQ := Lib.hid hHeld.2.2.2.1
        have KB := Lib.hid hHeld.2.2.2.2
        clear hHeld F9 F1 FU FP FB
        by_cases hgd : bndA R < bndA ns
        · obtain ⟨Y, Y2⟩ := KY.out (by rw [GPH.out, decide_eq_true hgd])
          have HY := Lib.hid Y
          have HY2 := Lib.hid Y2
          rw [decide_eq_true hgd]
          have rg1 : w7.cell? ⟨g, k * 2, none⟩ = some (.int .i64 (p : Int)) := by rw [← FX1.out]; exact KQ.out.cell (k * 2) (by omega)
          have rg2 : w7.cell? ⟨g, k * 2 + 1, none⟩ = some (.int .i64 (q : Int)) := by rw [← FX2.out]; exact KQ.out.cell (k * 2 + 1) (by omega)
          have RG := Lib.hid (range_two rg1 rg2)
          clear rg1 rg2 hgd Y Y2
          have hbs := KB.out.size
          generalize filtN (goodP ns) (poursF ns 36) k = m at *
          go_wp2_with (first | (refine wpList_load_mid rfl 36 _ rfl g (k * 2) rfl [.int .i64 (p : Int), .int .i64 (q : Int)] _ RG.out Try.underlying36 rfl (by kernel_rfl) ?_) | (at_builtin; refine wpList_append_lies _ rfl _ _ 32 rfl (w.heap.size + 1) 36 i0 (.agg #[.int .i64 0, .int .i64 0]) 2 16 Try.underlying32 hi hz0 hz1 hz2 rfl (by decide) _ m (ints (filtF (goodP ns) (poursF ns 36) k)) rfl (World.ownsRow.alloc KU.out _) ⟨w7.heap.size, 0, none⟩ 1 1 [.int .i64 (p : Int), .int .i64 (q : Int)] rfl rfl (cell_two_new _ _ _ _) (fun x hx => by simp at hx; rcases hx with rfl | rfl <;> rfl) (by decide) (by unfold maxLen; omega) (by omega) (by simp; omega) _ rfl ?_; intro g' cap' w3 hown' hgrow3 hlie hlt3))
          obtain ⟨A2, A3⟩ := prs_app KU.out KB.out (Nat.le_refl _) hown' hgrow3
          have A1 := (K1.alloc (.cells #[.int .i64 (p : Int), .int .i64 (q : Int)] 36)).grown hgrow3 (Prs.own KU.out)
          have A0 := Lib.hid ((KQ.out.alloc (.cells #[.int .i64 (p : Int), .int .i64 (q : Int)] 36)).apart hgrow3 (fun z hz => GA.out z hz))
          have GA2 : Hid (∀ z, (Value.slice (some ⟨g', 0, none⟩) (m + 1) cap').ownBlock = some z → (Value.slice (some ⟨g, 0, none⟩) (poursN ns 36) cap).ownBlock ≠ some z) := Lib.hid (fun z hz e => by
            simp only [Value.ownBlock, Option.some.injEq] at hz
            subst hz
            rcases hlie with h1 | h1
            · exact GA.out _ h1 e
            · have := (World.ownsRow.lt KQ.out _ e).2
              rw [size1] at h1; omega)
          rw [← HY.out, ← HY2.out] at A2
          have B2 := Lib.hid A2
          have B3 : Hid (Kept w w3) := Lib.hid A3
          clear hown' hgrow3 hlie hlt3 A2 A3
          go_wp2_with fail
          go_roundw
          case rel => exact ⟨k + 1, by omega, by go_num, A1, by rw [← HY2.out]; exact B2, A0, by rw [← HY2.out]; rw [← HY2.out] at GA2; exact GA2, B3⟩
          case measure => simp [intOf]; omega
        · obtain ⟨Y, Y2⟩ := KN.out (by rw [GPH.out, decide_eq_false hgd])
          have B2 := Lib.hid (show Prs w7 (w.heap.size + 1) u3 (filtN (goodP ns) (poursF ns 36) (k + 1)) (filtF (goodP ns) (poursF ns 36) (k + 1)) by rw [Y, Y2]; exact KU.out)
          rw [decide_eq_false hgd]
          clear hgd Y Y2
          go_wp2_with fail
          go_roundw
          case rel => exact ⟨k + 1, by omega, by go_num, K1, B2, KQ, GA, KB⟩
          case measure => simp [intOf]; omega
    · obtain rfl : k = poursN ns 36 := by omega
      go_wp2_with fail
      go_ret
      exact ⟨_, rfl, by rw [EN.out, EF.out]; exact GU.out, GB.out⟩

end Go.Proofs.Ytnldnjnnjfbhnab.base
end
