/-
  Sources of a list, poured back one behind the other: plain mathematics, and the model, walked.
-/
import Derived.Test.YthnkfdhnbafcjaaBackP
import Derived.Deep.Upon
namespace Go.Proofs.Ythnkfdhnbafcjaa.base
open Go.ChangeShapes Go.WideShapes Go.ChangeAt Go.RowKit
set_option linter.unusedVariables false
set_option linter.unusedSimpArgs false

theorem l5BackLL (ns t : List Int) (w : World) (h24 : ns.length = 24) (hv : vR ns = true) (h3 : t.length = 3) : Calls Try.prog 34 #[row ns, .agg (ints t).toArray] w fun e w' => e = .returned (.tuple #[.agg (ints (backRL ns t)).toArray, .bool (backOkL ns t)]) ∧ Kept w w' := by
  obtain ⟨a, b, c, rfl⟩ := len3 h3; exact l5Back_any ns a b c w h24 hv
def pbR (ns fs : List Int) : Nat → List Int
  | 0 => ns
  | k + 1 => backRL (pbR ns fs k) (tr3 fs k)
def pbOk (ns fs : List Int) : Nat → Bool
  | 0 => true
  | k + 1 => pbOk ns fs k && backOkL (pbR ns fs k) (tr3 fs k)
/-- How many of the first n are poured back. -/
def pbN (ns fs : List Int) : Nat → Nat
  | 0 => 0
  | k + 1 => if pbOk ns fs (k + 1) = true then k + 1 else pbN ns fs k
def pbRA (ns fs : List Int) (n : Nat) : List Int := if vR ns = true then pbR ns fs (pbN ns fs n) else z24
def pbNA (ns fs : List Int) (n : Nat) : Nat := if vR ns = true then pbN ns fs n else 0
theorem pbR_len {ns : List Int} (h : ns.length = 24) (fs : List Int) : ∀ k, (pbR ns fs k).length = 24
  | 0 => h
  | k + 1 => backRL_len (pbR_len h fs k) _
theorem pbRA_len {ns : List Int} (h : ns.length = 24) (fs : List Int) (n : Nat) : (pbRA ns fs n).length = 24 := by
  unfold pbRA
  split
  · exact pbR_len h fs _
  · rfl
theorem pbN_le (ns fs : List Int) : ∀ n, pbN ns fs n ≤ n
  | 0 => Nat.le_refl _
  | k + 1 => by
    have := pbN_le ns fs k
    rw [pbN]
    split <;> omega
theorem pb_valid {ns : List Int} (h : ns.length = 24) (hv : vR ns = true) (fs : List Int) : ∀ k, pbOk ns fs k = true → vR (pbR ns fs k) = true
  | 0, _ => hv
  | k + 1, hk => by
    rw [pbOk] at hk
    simp only [Bool.and_eq_true] at hk
    rw [pbR]
    exact backR_valid (pbR_len h fs k) hk.2
theorem pbN_all {ns fs : List Int} {k : Nat} (h : pbOk ns fs k = true) : pbN ns fs k = k := by
  cases k with
  | zero => rfl
  | succ k => rw [pbN, if_pos h]
theorem pbOk_stop {ns fs : List Int} {k : Nat} (h : pbOk ns fs k = false) : ∀ n, k ≤ n → pbOk ns fs n = false
  | 0, hn => by
    obtain rfl : k = 0 := by omega
    exact h
  | n + 1, hn => by
    by_cases e : k = n + 1
    · subst e; exact h
    · rw [pbOk, pbOk_stop h n (by omega)]; rfl
theorem pbN_stop {ns fs : List Int} {k : Nat} (h : pbOk ns fs k = true) (h1 : pbOk ns fs (k + 1) = false) : ∀ n, k ≤ n → pbN ns fs n = k
  | 0, hn => by
    obtain rfl : k = 0 := by omega
    rfl
  | n + 1, hn => by
    by_cases e : k = n + 1
    · rw [← e]; exact pbN_all h
    · rw [pbN, if_neg (by rw [pbOk_stop h1 (n + 1) (by omega)]; simp)]
      exact pbN_stop h h1 n (by omega)
theorem pb_end {ns fs : List Int} {k : Nat} (hv : vR ns = true) (h : pbOk ns fs k = true) : pbRA ns fs k = pbR ns fs k ∧ pbNA ns fs k = k := by
  unfold pbRA pbNA
  rw [if_pos hv, if_pos hv, pbN_all h]; exact ⟨rfl, rfl⟩
theorem pb_stop {ns fs : List Int} {k n : Nat} (hv : vR ns = true) (h : pbOk ns fs k = true) (h1 : pbOk ns fs (k + 1) = false) (hn : k ≤ n) : pbRA ns fs n = pbR ns fs k ∧ pbNA ns fs n = k := by
  unfold pbRA pbNA
  rw [if_pos hv, if_pos hv, pbN_stop h h1 n hn]; exact ⟨rfl, rfl⟩
theorem pb_no {ns fs : List Int} {n : Nat} (hv : vR ns = false) : pbRA ns fs n = z24 ∧ pbNA ns fs n = 0 := by
  unfold pbRA pbNA; rw [hv]; exact ⟨rfl, rfl⟩
theorem Has.is3 {w : World} {b : Nat} {ns ms : List Int} {n : Nat} (h : Has w b ns n) (e : ns = ms) : Has w b ms n := e ▸ h
theorem grown_puts3 (w : World) (c o : Nat) (vs : List Value) : w.grownBy (w.setCells c o vs) (some c) :=
  have h := below_setCells (B := 0) c (Nat.zero_le _) vs o w w (Below.refl _ _)
  ⟨h.os, h.tape, h.output, Nat.le_of_eq (size_setCells c vs o w).symm, fun i hi hn => World.heap_setCells_other w c o vs hi (fun e => hn (by rw [e]))⟩
theorem Tri.puts {w : World} {b : Nat} {v : Value} {n : Nat} {fs : List Int} (h : Tri w b v n fs) (c o : Nat) (vs : List Value) (hne : ∀ k, v.ownBlock = some k → k ≠ c) : Tri (w.setCells c o vs) b v n fs :=
  h.grownP (grown_puts3 w c o vs) (fun k hk => .inr (fun e => by injection hk with hk; subst hk; exact hne _ e rfl))
theorem tri_slice {w : World} {b : Nat} {v : Value} {n : Nat} {fs : List Int} (h : Tri w b v n fs) : ∃ a cap, v = .slice a n cap := by
  rcases h.2 with ⟨h0, h1⟩ | ⟨g, cap, cur, h0, _⟩
  · exact ⟨_, _, by rw [h1]; exact h0⟩
  · exact ⟨_, _, h0⟩

set_option maxHeartbeats 3200000 in
set_option maxRecDepth 100000 in
theorem specPBk (ns fs : List Int) (v : Value) (n b : Nat) (w : World) (h24 : ns.length = 24) (hn : n ≤ 1048576) (h : Tri w b v n fs) :
    Calls Try.prog 23 #[row ns, v] w fun e w' => e = .returned (.tuple #[.agg (ints (pbRA ns fs n)).toArray, .int .i64 (pbNA ns fs n : Nat), .bool (vR ns)]) ∧ Kept w w' := by
  have HB := Lib.hid (((kept_refl w).alloc (.cells (ints ns).toArray 28)).alloc (.cells #[.int .i64 0, .int .i64 0, .int .i64 0, .int .i64 0, .int .i64 0, .int .i64 0, .int .i64 0, .int .i64 0, .int .i64 0, .int .i64 0, .int .i64 0, .int .i64 0, .int .i64 0, .int .i64 0, .int .i64 0, .int .i64 0, .int .i64 0, .int .i64 0, .int .i64 0, .int .i64 0, .int .i64 0, .int .i64 0, .int .i64 0, .int .i64 0] 28))
  have H := (Has.box w 28 h24 (by omega)).alloc (.cells #[.int .i64 0, .int .i64 0, .int .i64 0, .int .i64 0, .int .i64 0, .int .i64 0, .int .i64 0, .int .i64 0, .int .i64 0, .int .i64 0, .int .i64 0, .int .i64 0, .int .i64 0, .int .i64 0, .int .i64 0, .int .i64 0, .int .i64 0, .int .i64 0, .int .i64 0, .int .i64 0, .int .i64 0, .int .i64 0, .int .i64 0, .int .i64 0] 28)
  have Z := (Has.zero24 (w.alloc (.cells (ints ns).toArray 28)) 28).at (size1 _ _)
  have hz : z24.length = 24 := rfl
  have HP := Lib.hid ((h.alloc (.cells (ints ns).toArray 28)).alloc (.cells #[.int .i64 0, .int .i64 0, .int .i64 0, .int .i64 0, .int .i64 0, .int .i64 0, .int .i64 0, .int .i64 0, .int .i64 0, .int .i64 0, .int .i64 0, .int .i64 0, .int .i64 0, .int .i64 0, .int .i64 0, .int .i64 0, .int .i64 0, .int .i64 0, .int .i64 0, .int .i64 0, .int .i64 0, .int .i64 0, .int .i64 0, .int .i64 0] 28))
  have AP := Lib.hid (fun k hk => (World.ownsRow.lt h k hk).2)
  obtain ⟨a, cap, rfl⟩ := tri_slice h
  have FL := Lib.hid h.flat
  clear h
  rw [row_ints]
  go_enter Try.func23, Try.ntmps23
  go_wp2_with (refine load_has rfl 28 _ rfl _ rfl ?_ 24 ?_ _ Try.underlying28 rfl ?_ ?_; rotate_left; (· (repeat (first | (with_reducible assumption) | ((with_reducible refine Has.box _ _ ?_ ?_) <;> (first | assumption | decide)) | (with_reducible refine Has.alloc ?_ _) | ((with_reducible refine Has.putOther ?_ _ _ ?_); rotate_left; omega; skip) | ((with_reducible refine Has.below ?_ ?_); rotate_left; assumption)))); (· kernel_rfl))
  refine (l2Rack_any ns _ h24).mono ?_
  rintro e w1 ⟨rfl, b1⟩
  have H1 := H.below b1
  have Z1 := Z.below b1
  have HP1 := Lib.hid (HP.out.below b1)
  have HB1 := Lib.hid (HB.out.call b1)
  clear H Z HP HB b1
  by_cases hv : vR ns = true
  · have HV := Lib.hid hv
    have O0 : Hid (pbOk ns fs 0 = true) := Lib.hid rfl
    rw [hv]
    have HL := Lib.hid (pbR_len h24 fs)
    have VL := Lib.hid (pb_valid h24 hv fs)
    clear hv
    go_wp2_with fail
    go_loopw [7] (fun i wr => ∃ k : Nat, k ≤ n ∧ i = .int .i64 k ∧ Has wr w.heap.size (pbR ns fs k) 24 ∧ Has wr (w.heap.size + 1) z24 24 ∧ Hid (Tri wr b (.slice a n cap) n fs) ∧ Hid (Kept w wr) ∧ Hid (pbOk ns fs k = true)) (fun i _ => n - (intOf i).toNat)
    case atStart => exact ⟨0, by omega, rfl, H1, Z1, HP1, HB1, O0⟩
    case round =>
      obtain ⟨k, hk, rfl, G1, G2, GP, GB, GO⟩ := hrel
      by_cases hlt : k < n
      · have ki : (k : Int) < ((n : Nat) : Int) := by omega
        have k0 : (0 : Int) ≤ (k : Int) := by omega
        obtain ⟨g, cap2, hv', _, _⟩ := GP.out.form (by omega)
        injection hv' with ha _ hcap
        subst ha
        subst hcap
        have hR := HL.out k
        have hVR := VL.out k GO.out
        have hgw := AP.out g rfl
        have hx3 := tr3_len fs k n FL.out hlt
        have C0 := Lib.hid (fun (w' : World) (h : Tri w' b (.slice (some ⟨g, 0, none⟩) n cap) n fs) => h.range k hlt)
        have ER := Lib.hid (show pbR ns fs (k + 1) = backRL (pbR ns fs k) (tr3 fs k) from rfl)
        have EO := Lib.hid (show pbOk ns fs (k + 1) = (pbOk ns fs k && backOkL (pbR ns fs k) (tr3 fs k)) from rfl)
        have ES := Lib.hid (fun (h1 : pbOk ns fs (k + 1) = false) => pb_stop (n := n) HV.out GO.out h1 (by omega))
        have hl2 := backRL_len hR (tr3 fs k)
        generalize tr3 fs k = x at *
        generalize pbR ns fs k = R at *
        have l1 : (ints R).length = 24 := by rw [ints_len]; exact hR
        have l2 : (ints (backRL R x)).length = 24 := by rw [ints_len]; exact hl2
        have hi0 : (Try.prog.info? 28).map (·.size) = some 24 := by kernel_rfl
        have hi1 : (Try.prog.info? 28).map (·.size) = some (ints R).length := by rw [l1]; exact hi0
        have hi3 : (Try.prog.info? 32).map (·.size) = some (ints x).length := by rw [ints_len, hx3]; kernel_rfl
        go_wp2_with fail
        refine wp_region_held_drew (S := fun w' => Has w' w.heap.size R 24 ∧ Has w' (w.heap.size + 1) z24 24 ∧ Tri w' b (.slice (some ⟨g, 0, none⟩) n cap) n fs ∧ Kept w w') (by kernel_rfl) ?_ (fun hHeld => ?_)
        · exact ⟨G1.drew, G2.drew, GP.out.drewN 1, GB.out.drewN 1⟩
        (refine wpAnyH_take (i := 1) (v := ?_) rfl (by kernel_rfl) (by kernel_rfl) (by kernel_rfl) (fun _ _ _ h => h) (Or.inl ⟨by rfl, ?_⟩) hHeld ?_; rotate_left; (· (intro w' hSw; go_simp; try with_reducible rfl)); (try simp only [List.getElem_toArray, List.getElem_cons_zero, List.getElem_cons_succ, Act.put, List.setIfInBounds_toArray, List.set_cons_zero, List.set_cons_succ])); (refine wpAnyH_take (i := 2) (v := ?_) rfl (by kernel_rfl) (by kernel_rfl) (by kernel_rfl) (fun _ _ _ h => h) (Or.inl ⟨by rfl, ?_⟩) hHeld ?_; rotate_left; (· (intro w' hSw; go_simp; try with_reducible rfl)); (try simp only [List.getElem_toArray, List.getElem_cons_zero, List.getElem_cons_succ, Act.put, List.setIfInBounds_toArray, List.set_cons_zero, List.set_cons_succ])); (refine wpAnyH_take (i := 3) (v := ?_) rfl (by kernel_rfl) (by kernel_rfl) (by kernel_rfl) (fun _ _ _ h => h) (Or.inl ⟨by rfl, ?_⟩) hHeld ?_; rotate_left; (· (intro w' hSw; go_simp; try with_reducible rfl)); (try simp only [List.getElem_toArray, List.getElem_cons_zero, List.getElem_cons_succ, Act.put, List.setIfInBounds_toArray, List.set_cons_zero, List.set_cons_succ]))
        (refine wpAnyH_take (i := 0) (v := _) rfl (by kernel_rfl) (by kernel_rfl) (by kernel_rfl) (fun _ _ _ h => h) (yieldsIf_load_mid (by rfl) 28 _ rfl _ _ rfl (ints R) _ (fun w' hSw => hSw.1.holds.range) Try.underlying28 rfl (hi1)) hHeld ?_; (try simp only [List.getElem_toArray, List.getElem_cons_zero, List.getElem_cons_succ, Act.put, List.setIfInBounds_toArray, List.set_cons_zero, List.set_cons_succ]))
        (refine wpAnyH_take (i := 4) (v := _) rfl (by kernel_rfl) (by kernel_rfl) (by kernel_rfl) (fun _ _ _ h => h) (yieldsIf_load_mid (by rfl) 32 _ rfl _ _ rfl (ints x) _ (fun w' hSw => C0.out w' hSw.2.2.1) Try.underlying32 rfl (hi3)) hHeld ?_; (try simp only [List.getElem_toArray, List.getElem_cons_zero, List.getElem_cons_succ, Act.put, List.setIfInBounds_toArray, List.set_cons_zero, List.set_cons_succ]))
        refine wpAnyH_ready (rs := [5, 9]) (by kernel_rfl) (by simp) ?_
        refine AllReadyH.cons (o := _) rfl (fun K hK => ?callFirst) (AllReadyH.cons (o := _) rfl (fun K hK => ?makeFirst) AllReadyH.nil)
        case' callFirst =>
          (simp only [List.getElem_toArray, List.getElem_cons_zero, List.getElem_cons_succ, Region.wanted, if_true])
          go_simp
          refine (l5BackLL R x _ hR hVR hx3).mono ?_
          rintro e w2 ⟨rfl, b2⟩
          dsimp only
          (try simp only [List.getElem_toArray, List.getElem_cons_zero, List.getElem_cons_succ, Act.put, List.setIfInBounds_toArray, List.set_cons_zero, List.set_cons_succ])
          have F1 := hHeld.1.below b2
          have F2 := hHeld.2.1.below b2
          have FP := hHeld.2.2.1.below b2
          have FB := hHeld.2.2.2.call b2
          refine hK.out _ _ ⟨F1, F2, FP, FB⟩ (fun hHeld => ?_)
          clear hK K b2
          (refine wpAnyH_take (i := 6) (v := ?_) rfl (by kernel_rfl) (by kernel_rfl) (by kernel_rfl) (fun _ _ _ h => h) (Or.inl ⟨by rfl, ?_⟩) hHeld ?_; rotate_left; (· (intro w' hSw; go_simp; try with_reducible rfl)); (try simp only [List.getElem_toArray, List.getElem_cons_zero, List.getElem_cons_succ, Act.put, List.setIfInBounds_toArray, List.set_cons_zero, List.set_cons_succ])); (refine wpAnyH_take (i := 7) (v := ?_) rfl (by kernel_rfl) (by kernel_rfl) (by kernel_rfl) (fun _ _ _ h => h) (Or.inl ⟨by rfl, ?_⟩) hHeld ?_; rotate_left; (· (intro w' hSw; go_simp; try with_reducible rfl)); (try simp only [List.getElem_toArray, List.getElem_cons_zero, List.getElem_cons_succ, Act.put, List.setIfInBounds_toArray, List.set_cons_zero, List.set_cons_succ])); (refine wpAnyH_take (i := 8) (v := ?_) rfl (by kernel_rfl) (by kernel_rfl) (by kernel_rfl) (fun _ _ _ h => h) (Or.inl ⟨by rfl, ?_⟩) hHeld ?_; rotate_left; (· (intro w' hSw; go_simp; try with_reducible rfl)); (try simp only [List.getElem_toArray, List.getElem_cons_zero, List.getElem_cons_succ, Act.put, List.setIfInBounds_toArray, List.set_cons_zero, List.set_cons_succ]))
          (refine wpAnyH_ready (rs := [9]) (by kernel_rfl) (by simp) ?_; refine AllReadyH.cons (o := _) rfl (fun K hK => ?_) AllReadyH.nil; (simp only [List.getElem_toArray, List.getElem_cons_zero, List.getElem_cons_succ, Region.wanted, if_true]))
          go_simp
          have h1 := F1.lt
          have h2 := F2.lt
          have F9 := Has.zero24 w2 28
          have F1 := F1.alloc (.cells #[.int .i64 0, .int .i64 0, .int .i64 0, .int .i64 0, .int .i64 0, .int .i64 0, .int .i64 0, .int .i64 0, .int .i64 0, .int .i64 0, .int .i64 0, .int .i64 0, .int .i64 0, .int .i64 0, .int .i64 0, .int .i64 0, .int .i64 0, .int .i64 0, .int .i64 0, .int .i64 0, .int .i64 0, .int .i64 0, .int .i64 0, .int .i64 0] 28)
          have F2 := F2.alloc (.cells #[.int .i64 0, .int .i64 0, .int .i64 0, .int .i64 0, .int .i64 0, .int .i64 0, .int .i64 0, .int .i64 0, .int .i64 0, .int .i64 0, .int .i64 0, .int .i64 0, .int .i64 0, .int .i64 0, .int .i64 0, .int .i64 0, .int .i64 0, .int .i64 0, .int .i64 0, .int .i64 0, .int .i64 0, .int .i64 0, .int .i64 0, .int .i64 0] 28)
          have FP := FP.alloc (.cells #[.int .i64 0, .int .i64 0, .int .i64 0, .int .i64 0, .int .i64 0, .int .i64 0, .int .i64 0, .int .i64 0, .int .i64 0, .int .i64 0, .int .i64 0, .int .i64 0, .int .i64 0, .int .i64 0, .int .i64 0, .int .i64 0, .int .i64 0, .int .i64 0, .int .i64 0, .int .i64 0, .int .i64 0, .int .i64 0, .int .i64 0, .int .i64 0] 28)
          have FB := FB.alloc (.cells #[.int .i64 0, .int .i64 0, .int .i64 0, .int .i64 0, .int .i64 0, .int .i64 0, .int .i64 0, .int .i64 0, .int .i64 0, .int .i64 0, .int .i64 0, .int .i64 0, .int .i64 0, .int .i64 0, .int .i64 0, .int .i64 0, .int .i64 0, .int .i64 0, .int .i64 0, .int .i64 0, .int .i64 0, .int .i64 0, .int .i64 0, .int .i64 0] 28)
          refine hK.out _ _ ⟨F1, F2, FP, FB⟩ (fun hHeld => ?_)
          clear hK K
          generalize w2.alloc (.cells #[.int .i64 0, .int .i64 0, .int .i64 0, .int .i64 0, .int .i64 0, .int .i64 0, .int .i64 0, .int .i64 0, .int .i64 0, .int .i64 0, .int .i64 0, .int .i64 0, .int .i64 0, .int .i64 0, .int .i64 0, .int .i64 0, .int .i64 0, .int .i64 0, .int .i64 0, .int .i64 0, .int .i64 0, .int .i64 0, .int .i64 0, .int .i64 0] 28) = W3 at *
          generalize w2.heap.size = b9 at *
        case' makeFirst =>
          (simp only [List.getElem_toArray, List.getElem_cons_zero, List.getElem_cons_succ, Region.wanted, if_true])
          go_simp
          have h1 := hHeld.1.lt
          have h2 := hHeld.2.1.lt
          have F9 : Has _ wr.heap.size z24 24 := Has.zero24 wr.drew 28
          have F1 := hHeld.1.alloc (.cells #[.int .i64 0, .int .i64 0, .int .i64 0, .int .i64 0, .int .i64 0, .int .i64 0, .int .i64 0, .int .i64 0, .int .i64 0, .int .i64 0, .int .i64 0, .int .i64 0, .int .i64 0, .int .i64 0, .int .i64 0, .int .i64 0, .int .i64 0, .int .i64 0, .int .i64 0, .int .i64 0, .int .i64 0, .int .i64 0, .int .i64 0, .int .i64 0] 28)
          have F2 := hHeld.2.1.alloc (.cells #[.int .i64 0, .int .i64 0, .int .i64 0, .int .i64 0, .int .i64 0, .int .i64 0, .int .i64 0, .int .i64 0, .int .i64 0, .int .i64 0, .int .i64 0, .int .i64 0, .int .i64 0, .int .i64 0, .int .i64 0, .int .i64 0, .int .i64 0, .int .i64 0, .int .i64 0, .int .i64 0, .int .i64 0, .int .i64 0, .int .i64 0, .int .i64 0] 28)
          have FP := hHeld.2.2.1.alloc (.cells #[.int .i64 0, .int .i64 0, .int .i64 0, .int .i64 0, .int .i64 0, .int .i64 0, .int .i64 0, .int .i64 0, .int .i64 0, .int .i64 0, .int .i64 0, .int .i64 0, .int .i64 0, .int .i64 0, .int .i64 0, .int .i64 0, .int .i64 0, .int .i64 0, .int .i64 0, .int .i64 0, .int .i64 0, .int .i64 0, .int .i64 0, .int .i64 0] 28)
          have FB := hHeld.2.2.2.alloc (.cells #[.int .i64 0, .int .i64 0, .int .i64 0, .int .i64 0, .int .i64 0, .int .i64 0, .int .i64 0, .int .i64 0, .int .i64 0, .int .i64 0, .int .i64 0, .int .i64 0, .int .i64 0, .int .i64 0, .int .i64 0, .int .i64 0, .int .i64 0, .int .i64 0, .int .i64 0, .int .i64 0, .int .i64 0, .int .i64 0, .int .i64 0, .int .i64 0] 28)
          refine hK.out _ _ ⟨F1, F2, FP, FB⟩ (fun hHeld => ?_)
          clear hK K
          (refine wpAnyH_ready (rs := [5]) (by kernel_rfl) (by simp) ?_; refine AllReadyH.cons (o := _) rfl (fun K hK => ?_) AllReadyH.nil; (simp only [List.getElem_toArray, List.getElem_cons_zero, List.getElem_cons_succ, Region.wanted, if_true]))
          go_simp
          refine (l5BackLL R x _ hR hVR hx3).mono ?_
          rintro e w2 ⟨rfl, b2⟩
          dsimp only
          (try simp only [List.getElem_toArray, List.getElem_cons_zero, List.getElem_cons_succ, Act.put, List.setIfInBounds_toArray, List.set_cons_zero, List.set_cons_succ])
          have F1 := F1.below b2
          have F2 := F2.below b2
          have F9 := F9.below b2
          have FP := FP.below b2
          have FB := FB.call b2
          refine hK.out _ _ ⟨F1, F2, FP, FB⟩ (fun hHeld => ?_)
          clear hK K b2
          (refine wpAnyH_take (i := 6) (v := ?_) rfl (by kernel_rfl) (by kernel_rfl) (by kernel_rfl) (fun _ _ _ h => h) (Or.inl ⟨by rfl, ?_⟩) hHeld ?_; rotate_left; (· (intro w' hSw; go_simp; try with_reducible rfl)); (try simp only [List.getElem_toArray, List.getElem_cons_zero, List.getElem_cons_succ, Act.put, List.setIfInBounds_toArray, List.set_cons_zero, List.set_cons_succ])); (refine wpAnyH_take (i := 7) (v := ?_) rfl (by kernel_rfl) (by kernel_rfl) (by kernel_rfl) (fun _ _ _ h => h) (Or.inl ⟨by rfl, ?_⟩) hHeld ?_; rotate_left; (· (intro w' hSw; go_simp; try with_reducible rfl)); (try simp only [List.getElem_toArray, List.getElem_cons_zero, List.getElem_cons_succ, Act.put, List.setIfInBounds_toArray, List.set_cons_zero, List.set_cons_succ])); (refine wpAnyH_take (i := 8) (v := ?_) rfl (by kernel_rfl) (by kernel_rfl) (by kernel_rfl) (fun _ _ _ h => h) (Or.inl ⟨by rfl, ?_⟩) hHeld ?_; rotate_left; (· (intro w' hSw; go_simp; try with_reducible rfl)); (try simp only [List.getElem_toArray, List.getElem_cons_zero, List.getElem_cons_succ, Act.put, List.setIfInBounds_toArray, List.set_cons_zero, List.set_cons_succ]))
          have h1 : w.heap.size < wr.heap.size := h1
          have h2 : w.heap.size + 1 < wr.heap.size := h2
          generalize wr.heap.size = b9 at *
        all_goals
          (refine wpAnyH_ready (rs := [10]) (by kernel_rfl) (by simp) ?_; refine AllReadyH.cons (o := _) rfl (fun K hK => ?_) AllReadyH.nil; (simp only [List.getElem_toArray, List.getElem_cons_zero, List.getElem_cons_succ, Region.wanted, if_true]))
          refine wp_store_mid _ _ _ rfl _ _ (ints (backRL R x)).toArray rfl rfl (by simpa [l2] using F9.there) (by simpa [l2] using hi0) (all_oneCell_toArray (ints_one _)) ?_
          (try simp only [List.getElem_toArray, List.getElem_cons_zero, List.getElem_cons_succ, Act.put, List.setIfInBounds_toArray, List.set_cons_zero, List.set_cons_succ, List.toList_toArray])
          have F1 := F1.putOther (b' := b9) 0 (ints (backRL R x)) (by omega)
          have F2 := F2.putOther (b' := b9) 0 (ints (backRL R x)) (by omega)
          have FP := FP.puts b9 0 (ints (backRL R x)) (fun k hk => by simp only [Value.ownBlock, Option.some.injEq] at hk; omega)
          have FB := FB.puts (b := b9) (by omega) 0 (ints (backRL R x))
          have F9 := F9.putAll (backRL R x) hl2
          refine hK.out _ _ ⟨F1, F2, FP, FB⟩ (fun hHeld => ?_)
          clear hK K
          (refine wpAnyH_take (i := 11) (v := ?_) rfl (by kernel_rfl) (by kernel_rfl) (by kernel_rfl) (fun _ _ _ h => h) (Or.inl ⟨by rfl, ?_⟩) hHeld ?_; rotate_left; (· (intro w' hSw; go_simp; try with_reducible rfl)); (try simp only [List.getElem_toArray, List.getElem_cons_zero, List.getElem_cons_succ, Act.put, List.setIfInBounds_toArray, List.set_cons_zero, List.set_cons_succ]))
          refine wpAnyH_done (by kernel_rfl) ?_ _
          have KP := Lib.hid FP
          have KB := Lib.hid FB
          clear FP FB hHeld G1 G2 GP GB hi1 l1 hi3 hVR
          by_cases hp : backOkL R x = true
          · have GO2 : Hid (pbOk ns fs (k + 1) = true) := Lib.hid (by rw [EO.out, GO.out, hp]; rfl)
            rw [hp]
            have N1 := Has.is3 (F1.putAll (backRL R x) hl2) ER.out.symm
            have N2 := F2.putOther (b' := w.heap.size) 0 (ints (backRL R x)) (by omega)
            have NP := Lib.hid (KP.out.puts w.heap.size 0 (ints (backRL R x)) (fun k hk => by simp only [Value.ownBlock, Option.some.injEq] at hk; omega))
            have NB := Lib.hid (KB.out.puts (b := w.heap.size) (Nat.le_refl _) 0 (ints (backRL R x)))
            clear hp
            go_wp2_with (first | (refine load_has rfl 28 _ rfl _ rfl ?_ 24 ?_ _ Try.underlying28 rfl ?_ ?_; rotate_left; (· (repeat (first | (with_reducible assumption) | ((with_reducible refine Has.box _ _ ?_ ?_) <;> (first | assumption | decide)) | (with_reducible refine Has.alloc ?_ _) | ((with_reducible refine Has.putOther ?_ _ _ ?_); rotate_left; omega; skip) | ((with_reducible refine Has.below ?_ ?_); rotate_left; assumption)))); (· kernel_rfl)) | (refine store_at rfl 28 _ _ rfl _ _ rfl rfl ?_ 24 ?_ ?_ ?_ ?_; rotate_left; (· (repeat (first | (with_reducible assumption) | ((with_reducible refine Has.box _ _ ?_ ?_) <;> (first | assumption | decide)) | (with_reducible refine Has.alloc ?_ _) | ((with_reducible refine Has.putOther ?_ _ _ ?_); rotate_left; omega; skip) | ((with_reducible refine Has.below ?_ ?_); rotate_left; assumption)))); (· (first | assumption | rfl)); (· kernel_rfl)))
            go_roundw
            case rel => exact ⟨k + 1, by omega, by go_num, N1, N2, NP, NB, GO2⟩
            case measure => simp [intOf]; omega
          · have hf : backOkL R x = false := by simpa using hp
            have D := Lib.hid (ES.out (by rw [EO.out, hf, Bool.and_false]))
            rw [hf]
            have S1 := Lib.hid (F2.putAll R hR)
            have S2 := Lib.hid (KB.out.puts (b := w.heap.size + 1) (by omega) 0 (ints R))
            clear hf hp
            go_wp2_with (first | (refine load_has rfl 28 _ rfl _ rfl ?_ 24 ?_ _ Try.underlying28 rfl ?_ ?_; rotate_left; (· (repeat (first | (with_reducible assumption) | ((with_reducible refine Has.box _ _ ?_ ?_) <;> (first | assumption | decide)) | (with_reducible refine Has.alloc ?_ _) | ((with_reducible refine Has.putOther ?_ _ _ ?_); rotate_left; omega; skip) | ((with_reducible refine Has.below ?_ ?_); rotate_left; assumption)))); (· kernel_rfl)) | (refine store_at rfl 28 _ _ rfl _ _ rfl rfl ?_ 24 ?_ ?_ ?_ ?_; rotate_left; (· (repeat (first | (with_reducible assumption) | ((with_reducible refine Has.box _ _ ?_ ?_) <;> (first | assumption | decide)) | (with_reducible refine Has.alloc ?_ _) | ((with_reducible refine Has.putOther ?_ _ _ ?_); rotate_left; omega; skip) | ((with_reducible refine Has.below ?_ ?_); rotate_left; assumption)))); (· (first | assumption | rfl)); (· kernel_rfl)))
            exact bodyPost_ret (res_has2 rfl _ _ (w.heap.size + 1) R 24 _ (.int .i64 (k : Nat)) (.bool true) rfl rfl rfl S1.out Try.underlying28 rfl (by kernel_rfl)) rfl ⟨by rw [D.out.1, D.out.2, HV.out], S2.out⟩
      · obtain rfl : k = n := by omega
        have D := Lib.hid (pb_end HV.out GO.out)
        have hR := HL.out k
        have S1 := Lib.hid (G2.putAll (pbR ns fs k) hR)
        have S2 := Lib.hid (GB.out.puts (b := w.heap.size + 1) (by omega) 0 (ints (pbR ns fs k)))
        generalize pbR ns fs k = R at *
        go_wp2_with (first | (refine load_has rfl 28 _ rfl _ rfl ?_ 24 ?_ _ Try.underlying28 rfl ?_ ?_; rotate_left; (· (repeat (first | (with_reducible assumption) | ((with_reducible refine Has.box _ _ ?_ ?_) <;> (first | assumption | decide)) | (with_reducible refine Has.alloc ?_ _) | ((with_reducible refine Has.putOther ?_ _ _ ?_); rotate_left; omega; skip) | ((with_reducible refine Has.below ?_ ?_); rotate_left; assumption)))); (· kernel_rfl)) | (refine store_at rfl 28 _ _ rfl _ _ rfl rfl ?_ 24 ?_ ?_ ?_ ?_; rotate_left; (· (repeat (first | (with_reducible assumption) | ((with_reducible refine Has.box _ _ ?_ ?_) <;> (first | assumption | decide)) | (with_reducible refine Has.alloc ?_ _) | ((with_reducible refine Has.putOther ?_ _ _ ?_); rotate_left; omega; skip) | ((with_reducible refine Has.below ?_ ?_); rotate_left; assumption)))); (· (first | assumption | rfl)); (· kernel_rfl)))
        exact bodyPost_ret (res_has2 rfl _ _ (w.heap.size + 1) R 24 _ (.int .i64 (k : Nat)) (.bool true) rfl rfl rfl S1.out Try.underlying28 rfl (by kernel_rfl)) rfl ⟨by rw [D.out.1, D.out.2, HV.out], S2.out⟩
  · have hf : vR ns = false := by simpa using hv
    have D := Lib.hid (pb_no (ns := ns) (fs := fs) (n := n) hf)
    have HV := Lib.hid hf
    rw [hf]
    have S1 := Lib.hid (Z1.putAll z24 rfl)
    have S2 := Lib.hid (HB1.out.puts (b := w.heap.size + 1) (by omega) 0 (ints z24))
    clear hf hv
    go_wp2_with (first | (refine build_law rfl 28 rfl _ buildRack ?_) | (refine store_at rfl 28 _ _ rfl _ _ rfl rfl ?_ 24 ?_ ?_ ?_ ?_; rotate_left; (· (repeat (first | (with_reducible assumption) | ((with_reducible refine Has.box _ _ ?_ ?_) <;> (first | assumption | decide)) | (with_reducible refine Has.alloc ?_ _) | ((with_reducible refine Has.putOther ?_ _ _ ?_); rotate_left; omega; skip) | ((with_reducible refine Has.below ?_ ?_); rotate_left; assumption)))); (· (first | assumption | rfl)); (· kernel_rfl)))
    exact bodyPost_ret (res_has2 rfl _ _ (w.heap.size + 1) z24 24 _ (.int .i64 0) (.bool false) rfl rfl rfl S1.out Try.underlying28 rfl (by kernel_rfl)) rfl ⟨by rw [D.out.1, D.out.2, HV.out]; rfl, S2.out⟩
end Go.Proofs.Ythnkfdhnbafcjaa.base
