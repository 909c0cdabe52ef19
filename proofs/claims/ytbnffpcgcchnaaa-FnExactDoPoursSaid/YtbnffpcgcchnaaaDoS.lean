/-
  Pours of a list, walked on the model's side.
-/
import Derived.Test.YtbnffpcgcchnaaaDoP
import Derived.Test.YtbnffpcgcchnaaaPairs
import Derived.Test.YtbnffpcgcchnaaaUseS
import Derived.Deep.Upon
namespace Go.Proofs.Ytbnffpcgcchnaaa.base
open Go.ChangeShapes Go.WideShapes Go.ChangeAt Go.RowKit
set_option linter.unusedVariables false
set_option linter.unusedSimpArgs false

theorem grown_puts (w : World) (c o : Nat) (vs : List Value) : w.grownBy (w.setCells c o vs) (some c) :=
  have h := below_setCells (B := 0) c (Nat.zero_le _) vs o w w (Below.refl _ _)
  ⟨h.os, h.tape, h.output, Nat.le_of_eq (size_setCells c vs o w).symm, fun i hi hn => World.heap_setCells_other w c o vs hi (fun e => hn (by rw [e]))⟩
theorem Prs.puts {w : World} {b : Nat} {v : Value} {n : Nat} {fs : List Int} (h : Prs w b v n fs) (c o : Nat) (vs : List Value) (hne : ∀ k, v.ownBlock = some k → k ≠ c) : Prs (w.setCells c o vs) b v n fs :=
  h.apart (grown_puts w c o vs) (fun k hk e => by injection hk with hk; subst hk; exact hne _ e rfl)
theorem Has.is {w : World} {b : Nat} {ns ms : List Int} {n : Nat} (h : Has w b ns n) (e : ns = ms) : Has w b ms n := e ▸ h
theorem prs_slice {w : World} {b : Nat} {v : Value} {n : Nat} {fs : List Int} (h : Prs w b v n fs) : ∃ a cap, v = .slice a n cap := by
  rcases h.2 with ⟨h0, h1⟩ | ⟨g, cap, cur, h0, _⟩
  · exact ⟨_, _, by rw [h1]; exact h0⟩
  · exact ⟨_, _, h0⟩

set_option maxHeartbeats 3200000 in
set_option maxRecDepth 100000 in
theorem specDo (ns fs : List Int) (v : Value) (n b : Nat) (w : World) (h24 : ns.length = 24) (hn : n ≤ 1048576) (h : Prs w b v n fs) :
    Calls Try.prog 25 #[row ns, v] w fun e w' => e = .returned (.tuple #[.agg (ints (doRA ns fs n)).toArray, .int .i64 (doMA ns fs n), .bool (doOk ns fs n)]) ∧ Kept w w' := by
  have HB := Lib.hid (((kept_refl w).alloc (.cells (ints ns).toArray 28)).alloc (.cells #[.int .i64 0, .int .i64 0, .int .i64 0, .int .i64 0, .int .i64 0, .int .i64 0, .int .i64 0, .int .i64 0, .int .i64 0, .int .i64 0, .int .i64 0, .int .i64 0, .int .i64 0, .int .i64 0, .int .i64 0, .int .i64 0, .int .i64 0, .int .i64 0, .int .i64 0, .int .i64 0, .int .i64 0, .int .i64 0, .int .i64 0, .int .i64 0] 28))
  have H := (Has.box w 28 h24 (by omega)).alloc (.cells #[.int .i64 0, .int .i64 0, .int .i64 0, .int .i64 0, .int .i64 0, .int .i64 0, .int .i64 0, .int .i64 0, .int .i64 0, .int .i64 0, .int .i64 0, .int .i64 0, .int .i64 0, .int .i64 0, .int .i64 0, .int .i64 0, .int .i64 0, .int .i64 0, .int .i64 0, .int .i64 0, .int .i64 0, .int .i64 0, .int .i64 0, .int .i64 0] 28)
  have Z := (Has.zero24 (w.alloc (.cells (ints ns).toArray 28)) 28).at (size1 _ _)
  have hz : z24.length = 24 := rfl
  have HP := Lib.hid ((h.alloc (.cells (ints ns).toArray 28)).alloc (.cells #[.int .i64 0, .int .i64 0, .int .i64 0, .int .i64 0, .int .i64 0, .int .i64 0, .int .i64 0, .int .i64 0, .int .i64 0, .int .i64 0, .int .i64 0, .int .i64 0, .int .i64 0, .int .i64 0, .int .i64 0, .int .i64 0, .int .i64 0, .int .i64 0, .int .i64 0, .int .i64 0, .int .i64 0, .int .i64 0, .int .i64 0, .int .i64 0] 28))
  have AP := Lib.hid (fun k hk => (World.ownsRow.lt h k hk).2)
  obtain ⟨a, cap, rfl⟩ := prs_slice h
  clear h
  rw [row_ints]
  go_enter Try.func25, Try.ntmps25
  go_wp2_with (refine load_has rfl 28 _ rfl _ rfl ?_ 24 ?_ _ Try.underlying28 rfl ?_ ?_; rotate_left; (· (repeat (first | (with_reducible assumption) | ((with_reducible refine Has.box _ _ ?_ ?_) <;> (first | assumption | decide)) | (with_reducible refine Has.alloc ?_ _) | ((with_reducible refine Has.putOther ?_ _ _ ?_); rotate_left; omega; skip) | ((with_reducible refine Has.below ?_ ?_); rotate_left; assumption)))); (· kernel_rfl))
  refine (l2Rack_any ns _ h24).mono ?_
  rintro e w1 ⟨rfl, b1⟩
  have H1 := H.below b1
  have Z1 := Z.below b1
  have HP1 := Lib.hid (HP.out.below b1)
  have HB1 := Lib.hid (HB.out.call b1)
  clear H Z HP HB b1
  by_cases hv : vR ns = true
  · have O0 : Hid (doOk ns fs 0 = true) := Lib.hid hv
    rw [hv]
    have HL := Lib.hid (doR_len h24 fs)
    clear hv
    go_wp2_with fail
    go_loopw [7, 8] (fun m i wr => ∃ k : Nat, k ≤ n ∧ i = .int .i64 k ∧ m = .int .i64 (doM ns fs k) ∧ Has wr w.heap.size (doR ns fs k) 24 ∧ Has wr (w.heap.size + 1) z24 24 ∧ Hid (Prs wr b (.slice a n cap) n fs) ∧ Hid (Kept w wr) ∧ Hid (doOk ns fs k = true)) (fun _ i _ => n - (intOf i).toNat)
    case atStart => exact ⟨0, by omega, rfl, rfl, H1, Z1, HP1, HB1, O0⟩
    case round =>
      obtain ⟨k, hk, rfl, rfl, G1, G2, GP, GB, GO⟩ := hrel
      have hm := doM_small ns fs k
      by_cases hlt : k < n
      · have ki : (k : Int) < ((n : Nat) : Int) := by omega
        have k0 : (0 : Int) ≤ (k : Int) := by omega
        obtain ⟨g, cap2, hv', _, _⟩ := GP.out.form (by omega)
        injection hv' with ha _ hcap
        subst ha
        subst hcap
        have hR := HL.out k
        have hgw := AP.out g rfl
        have C0 := Lib.hid (fun (w' : World) (h : Prs w' b (.slice (some ⟨g, 0, none⟩) n cap) n fs) => h.cell (k * 2) (by omega))
        have C1 := Lib.hid (fun (w' : World) (h : Prs w' b (.slice (some ⟨g, 0, none⟩) n cap) n fs) => h.cell (k * 2 + 1) (by omega))
        have ER := Lib.hid (show doR ns fs (k + 1) = pourR (doR ns fs k) (fs.getD (k * 2) 0) (fs.getD (k * 2 + 1) 0) from rfl)
        have EM := Lib.hid (show doM ns fs (k + 1) = doM ns fs k + pourA (doR ns fs k) (fs.getD (k * 2) 0) (fs.getD (k * 2 + 1) 0) from rfl)
        have EO := Lib.hid (show doOk ns fs (k + 1) = (doOk ns fs k && pourOk (doR ns fs k) (fs.getD (k * 2) 0) (fs.getD (k * 2 + 1) 0)) from rfl)
        have hA := pourA_small (doR ns fs k) (fs.getD (k * 2) 0) (fs.getD (k * 2 + 1) 0)
        have hl2 := pourR_len hR (fs.getD (k * 2) 0) (fs.getD (k * 2 + 1) 0)
        generalize fs.getD (k * 2) 0 = x at *
        generalize fs.getD (k * 2 + 1) 0 = y at *
        generalize doR ns fs k = R at *
        generalize doM ns fs k = M at *
        have l1 : (ints R).length = 24 := by rw [ints_len]; exact hR
        have l2 : (ints (pourR R x y)).length = 24 := by rw [ints_len]; exact hl2
        have hi0 : (Try.prog.info? 28).map (·.size) = some 24 := by kernel_rfl
        have hi1 : (Try.prog.info? 28).map (·.size) = some (ints R).length := by rw [l1]; exact hi0
        go_wp2_with fail
        refine wp_region_held_drew (S := fun w' => Has w' w.heap.size R 24 ∧ Has w' (w.heap.size + 1) z24 24 ∧ Prs w' b (.slice (some ⟨g, 0, none⟩) n cap) n fs ∧ Kept w w') (by kernel_rfl) ?_ (fun hHeld => ?_)
        · exact ⟨G1.drew, G2.drew, GP.out.drewN 1, GB.out.drewN 1⟩
        (refine wpAnyH_take (i := 1) (v := ?_) rfl (by kernel_rfl) (by kernel_rfl) (by kernel_rfl) (fun _ _ _ h => h) (Or.inl ⟨by rfl, ?_⟩) hHeld ?_; rotate_left; (· (intro w' hSw; go_simp; try with_reducible rfl)); (try simp only [List.getElem_toArray, List.getElem_cons_zero, List.getElem_cons_succ, Act.put, List.setIfInBounds_toArray, List.set_cons_zero, List.set_cons_succ])); (refine wpAnyH_take (i := 2) (v := ?_) rfl (by kernel_rfl) (by kernel_rfl) (by kernel_rfl) (fun _ _ _ h => h) (Or.inl ⟨by rfl, ?_⟩) hHeld ?_; rotate_left; (· (intro w' hSw; go_simp; try with_reducible rfl)); (try simp only [List.getElem_toArray, List.getElem_cons_zero, List.getElem_cons_succ, Act.put, List.setIfInBounds_toArray, List.set_cons_zero, List.set_cons_succ])); (refine wpAnyH_take (i := 3) (v := ?_) rfl (by kernel_rfl) (by kernel_rfl) (by kernel_rfl) (fun _ _ _ h => h) (Or.inl ⟨by rfl, ?_⟩) hHeld ?_; rotate_left; (· (intro w' hSw; go_simp; try with_reducible rfl)); (try simp only [List.getElem_toArray, List.getElem_cons_zero, List.getElem_cons_succ, Act.put, List.setIfInBounds_toArray, List.set_cons_zero, List.set_cons_succ])); (refine wpAnyH_take (i := 4) (v := ?_) rfl (by kernel_rfl) (by kernel_rfl) (by kernel_rfl) (fun _ _ _ h => h) (Or.inl ⟨by rfl, ?_⟩) hHeld ?_; rotate_left; (· (intro w' hSw; go_simp; try with_reducible rfl)); (try simp only [List.getElem_toArray, List.getElem_cons_zero, List.getElem_cons_succ, Act.put, List.setIfInBounds_toArray, List.set_cons_zero, List.set_cons_succ])); (refine wpAnyH_take (i := 6) (v := ?_) rfl (by kernel_rfl) (by kernel_rfl) (by kernel_rfl) (fun _ _ _ h => h) (Or.inl ⟨by rfl, ?_⟩) hHeld ?_; rotate_left; (· (intro w' hSw; go_simp; try with_reducible rfl)); (try simp only [List.getElem_toArray, List.getElem_cons_zero, List.getElem_cons_succ, Act.put, List.setIfInBounds_toArray, List.set_cons_zero, List.set_cons_succ])); (refine wpAnyH_take (i := 7) (v := ?_) rfl (by kernel_rfl) (by kernel_rfl) (by kernel_rfl) (fun _ _ _ h => h) (Or.inl ⟨by rfl, ?_⟩) hHeld ?_; rotate_left; (· (intro w' hSw; go_simp; try with_reducible rfl)); (try simp only [List.getElem_toArray, List.getElem_cons_zero, List.getElem_cons_succ, Act.put, List.setIfInBounds_toArray, List.set_cons_zero, List.set_cons_succ])); (refine wpAnyH_take (i := 8) (v := ?_) rfl (by kernel_rfl) (by kernel_rfl) (by kernel_rfl) (fun _ _ _ h => h) (Or.inl ⟨by rfl, ?_⟩) hHeld ?_; rotate_left; (· (intro w' hSw; go_simp; try with_reducible rfl)); (try simp only [List.getElem_toArray, List.getElem_cons_zero, List.getElem_cons_succ, Act.put, List.setIfInBounds_toArray, List.set_cons_zero, List.set_cons_succ])); (refine wpAnyH_take (i := 9) (v := ?_) rfl (by kernel_rfl) (by kernel_rfl) (by kernel_rfl) (fun _ _ _ h => h) (Or.inl ⟨by rfl, ?_⟩) hHeld ?_; rotate_left; (· (intro w' hSw; go_simp; try with_reducible rfl)); (try simp only [List.getElem_toArray, List.getElem_cons_zero, List.getElem_cons_succ, Act.put, List.setIfInBounds_toArray, List.set_cons_zero, List.set_cons_succ]))
        (refine wpAnyH_take (i := 0) (v := _) rfl (by kernel_rfl) (by kernel_rfl) (by kernel_rfl) (fun _ _ _ h => h) (yieldsIf_load_mid (by rfl) 28 _ rfl _ _ rfl (ints R) _ (fun w' hSw => hSw.1.holds.range) Try.underlying28 rfl (hi1)) hHeld ?_; (try simp only [List.getElem_toArray, List.getElem_cons_zero, List.getElem_cons_succ, Act.put, List.setIfInBounds_toArray, List.set_cons_zero, List.set_cons_succ]))
        refine wpAnyH_take (i := 5) (v := .int .i64 x) rfl (by kernel_rfl) (by kernel_rfl) (by kernel_rfl) (fun _ _ _ h => h) (Or.inl ⟨by rfl, ?_⟩) hHeld ?_
        · intro w' hSw
          have cc := C0.out w' hSw.2.2.1
          go_simp
        (try simp only [List.getElem_toArray, List.getElem_cons_zero, List.getElem_cons_succ, Act.put, List.setIfInBounds_toArray, List.set_cons_zero, List.set_cons_succ])
        refine wpAnyH_take (i := 10) (v := .int .i64 y) rfl (by kernel_rfl) (by kernel_rfl) (by kernel_rfl) (fun _ _ _ h => h) (Or.inl ⟨by rfl, ?_⟩) hHeld ?_
        · intro w' hSw
          have cc := C1.out w' hSw.2.2.1
          go_simp
        (try simp only [List.getElem_toArray, List.getElem_cons_zero, List.getElem_cons_succ, Act.put, List.setIfInBounds_toArray, List.set_cons_zero, List.set_cons_succ])
        refine wpAnyH_ready (rs := [11, 16]) (by kernel_rfl) (by simp) ?_
        refine AllReadyH.cons (o := _) rfl (fun K hK => ?callFirst) (AllReadyH.cons (o := _) rfl (fun K hK => ?makeFirst) AllReadyH.nil)
        case' callFirst =>
          (simp only [List.getElem_toArray, List.getElem_cons_zero, List.getElem_cons_succ, Region.wanted, if_true])
          go_simp
          refine (specPour R x y _ hR).mono ?_
          rintro e w2 ⟨rfl, b2⟩
          dsimp only
          (try simp only [List.getElem_toArray, List.getElem_cons_zero, List.getElem_cons_succ, Act.put, List.setIfInBounds_toArray, List.set_cons_zero, List.set_cons_succ])
          have F1 := hHeld.1.below b2
          have F2 := hHeld.2.1.below b2
          have FP := hHeld.2.2.1.below b2
          have FB := hHeld.2.2.2.call b2
          refine hK.out _ _ ⟨F1, F2, FP, FB⟩ (fun hHeld => ?_)
          clear hK K b2
          (refine wpAnyH_take (i := 12) (v := ?_) rfl (by kernel_rfl) (by kernel_rfl) (by kernel_rfl) (fun _ _ _ h => h) (Or.inl ⟨by rfl, ?_⟩) hHeld ?_; rotate_left; (· (intro w' hSw; go_simp; try with_reducible rfl)); (try simp only [List.getElem_toArray, List.getElem_cons_zero, List.getElem_cons_succ, Act.put, List.setIfInBounds_toArray, List.set_cons_zero, List.set_cons_succ])); (refine wpAnyH_take (i := 13) (v := ?_) rfl (by kernel_rfl) (by kernel_rfl) (by kernel_rfl) (fun _ _ _ h => h) (Or.inl ⟨by rfl, ?_⟩) hHeld ?_; rotate_left; (· (intro w' hSw; go_simp; try with_reducible rfl)); (try simp only [List.getElem_toArray, List.getElem_cons_zero, List.getElem_cons_succ, Act.put, List.setIfInBounds_toArray, List.set_cons_zero, List.set_cons_succ])); (refine wpAnyH_take (i := 14) (v := ?_) rfl (by kernel_rfl) (by kernel_rfl) (by kernel_rfl) (fun _ _ _ h => h) (Or.inl ⟨by rfl, ?_⟩) hHeld ?_; rotate_left; (· (intro w' hSw; go_simp; try with_reducible rfl)); (try simp only [List.getElem_toArray, List.getElem_cons_zero, List.getElem_cons_succ, Act.put, List.setIfInBounds_toArray, List.set_cons_zero, List.set_cons_succ])); (refine wpAnyH_take (i := 15) (v := ?_) rfl (by kernel_rfl) (by kernel_rfl) (by kernel_rfl) (fun _ _ _ h => h) (Or.inl ⟨by rfl, ?_⟩) hHeld ?_; rotate_left; (· (intro w' hSw; go_simp; try with_reducible rfl)); (try simp only [List.getElem_toArray, List.getElem_cons_zero, List.getElem_cons_succ, Act.put, List.setIfInBounds_toArray, List.set_cons_zero, List.set_cons_succ]))
          (refine wpAnyH_ready (rs := [16]) (by kernel_rfl) (by simp) ?_; refine AllReadyH.cons (o := _) rfl (fun K hK => ?_) AllReadyH.nil; (simp only [List.getElem_toArray, List.getElem_cons_zero, List.getElem_cons_succ, Region.wanted, if_true]))
          go_simp
          have h1 := F1.lt
          have h2 := F2.lt
          have F9 := Has.zero24 w2 28
          have F1 := F1.alloc (.cells #[.int .i64 0, .int .i64 0, .int .i64 0, .int .i64 0, .int .i64 0, .int .i64 0, .int .i64 0, .int .i64 0, .int .i64 0, .int .i64 0, .int .i64 0, .int .i64 0, .int .i64 0, .int .i64 0, .int .i64 0, .int .i64 0, .int .i64 0, .int .i64 0, .int .i64 0, .int .i64 0, .int .i64 0, .int .i64 0, .int .i64 0, .int .i64 0] 28)
          have F2 := F2.alloc (.cells #[.int .i64 0, .int .i64 0, .int .i64 0, .int .i64 0, .int .i64 0, .int .i64 0, .int .i64 0, .int .i64 0, .int .i64 0, .int .i64 0, .int .i64 0, .int .i64 0, .int .i64 0, .int .i64 0, .int .i64 0, .int .i64 0, .int .i64 0, .int .i64 0, .int .i64 0, .int .i64 0, .int .i64 0, .int .i64 0, .int .i64 0, .int .i64 0] 28)
          have FP := FP.alloc (.cells #[.int .i64 0, .int .i64 0, .int .i64 0, .int .i64 0, .int .i64 0, .int .i64 0, .int .i64 0, .int .i64 0, .int .i64 0, .int .i64 0, .int .i64 0, .int .i64 0, .int .i64 0, .int .i64 0, .int .i64 0, .int .i64 0, .int .i64 0, .int .i64 0, .int .i64 0, .int .i64 0, .int .i64 0, .int .i64 0, .int .i64 0, .int .i64 0] 28)
          have FB := FB.alloc (.cells #[.int .i64 0, .int .i64 0, .int .i64 0, .int .i64 0, .int .i64 0, .int .i64 0, .int .i64 0, .int .i64 0, .int .i64 0, .int .i64 0, .int .i64 0, .int .i64 0, .int .i64 0, .int .i64 0, .int .i64 0, .int .i64 0, .int .i64 0, .int .i64 0, .int .i64 0, .int .i64 0, .int .i64 0, .int .i64 0, .int .i64 0, .int .i64 0] 28)
          refine hK.out _ _ ⟨F1, F2, FP, FB⟩ (fun hHeld => ?_)
          clear hK K
          generalize w2.alloc (.cells #[.int .i64 0, .int .i64 0, .int .i64 0, .int .i64 0, .int .i64 0, .int .i64 0, .int .i64 0, .int .i64 0, .int .i64 0, .int .i64 0, .int .i64 0, .int .i64 0, .int .i64 0, .int .i64 0, .int .i64 0, .int .i64 0, .int .i64 0, .int .i64 0, .int .i64 0, .int .i64 0, .int .i64 0, .int .i64 0, .int .i64 0, .int .i64 0] 28) = W3 at *
          generalize w2.heap.size = b9 at *
        case' makeFirst =>
          (simp only [List.getElem_toArray, List.getElem_cons_zero, List.getElem_cons_succ, Region.wanted, if_true])
          go_simp
          have h1 := hHeld.1.lt
          have h2 := hHeld.2.1.lt
          have F9 : Has _ wr.heap.size z24 24 := Has.zero24 wr.drew 28
          have F1 := hHeld.1.alloc (.cells #[.int .i64 0, .int .i64 0, .int .i64 0, .int .i64 0, .int .i64 0, .int .i64 0, .int .i64 0, .int .i64 0, .int .i64 0, .int .i64 0, .int .i64 0, .int .i64 0, .int .i64 0, .int .i64 0, .int .i64 0, .int .i64 0, .int .i64 0, .int .i64 0, .int .i64 0, .int .i64 0, .int .i64 0, .int .i64 0, .int .i64 0, .int .i64 0] 28)
          have F2 := hHeld.2.1.alloc (.cells #[.int .i64 0, .int .i64 0, .int .i64 0, .int .i64 0, .int .i64 0, .int .i64 0, .int .i64 0, .int .i64 0, .int .i64 0, .int .i64 0, .int .i64 0, .int .i64 0, .int .i64 0, .int .i64 0, .int .i64 0, .int .i64 0, .int .i64 0, .int .i64 0, .int .i64 0, .int .i64 0, .int .i64 0, .int .i64 0, .int .i64 0, .int .i64 0] 28)
          have FP := hHeld.2.2.1.alloc (.cells #[.int .i64 0, .int .i64 0, .int .i64 0, .int .i64 0, .int .i64 0, .int .i64 0, .int .i64 0, .int .i64 0, .int .i64 0, .int .i64 0, .int .i64 0, .int .i64 0, .int .i64 0, .int .i64 0, .int .i64 0, .int .i64 0, .int .i64 0, .int .i64 0, .int .i64 0, .int .i64 0, .int .i64 0, .int .i64 0, .int .i64 0, .int .i64 0] 28)
          have FB := hHeld.2.2.2.alloc (.cells #[.int .i64 0, .int .i64 0, .int .i64 0, .int .i64 0, .int .i64 0, .int .i64 0, .int .i64 0, .int .i64 0, .int .i64 0, .int .i64 0, .int .i64 0, .int .i64 0, .int .i64 0, .int .i64 0, .int .i64 0, .int .i64 0, .int .i64 0, .int .i64 0, .int .i64 0, .int .i64 0, .int .i64 0, .int .i64 0, .int .i64 0, .int .i64 0] 28)
          refine hK.out _ _ ⟨F1, F2, FP, FB⟩ (fun hHeld => ?_)
          clear hK K
          (refine wpAnyH_ready (rs := [11]) (by kernel_rfl) (by simp) ?_; refine AllReadyH.cons (o := _) rfl (fun K hK => ?_) AllReadyH.nil; (simp only [List.getElem_toArray, List.getElem_cons_zero, List.getElem_cons_succ, Region.wanted, if_true]))
          go_simp
          refine (specPour R x y _ hR).mono ?_
          rintro e w2 ⟨rfl, b2⟩
          dsimp only
          (try simp only [List.getElem_toArray, List.getElem_cons_zero, List.getElem_cons_succ, Act.put, List.setIfInBounds_toArray, List.set_cons_zero, List.set_cons_succ])
          have F1 := F1.below b2
          have F2 := F2.below b2
          have F9 := F9.below b2
          have FP := FP.below b2
          have FB := FB.call b2
          refine hK.out _ _ ⟨F1, F2, FP, FB⟩ (fun hHeld => ?_)
          clear hK K b2
          (refine wpAnyH_take (i := 12) (v := ?_) rfl (by kernel_rfl) (by kernel_rfl) (by kernel_rfl) (fun _ _ _ h => h) (Or.inl ⟨by rfl, ?_⟩) hHeld ?_; rotate_left; (· (intro w' hSw; go_simp; try with_reducible rfl)); (try simp only [List.getElem_toArray, List.getElem_cons_zero, List.getElem_cons_succ, Act.put, List.setIfInBounds_toArray, List.set_cons_zero, List.set_cons_succ])); (refine wpAnyH_take (i := 13) (v := ?_) rfl (by kernel_rfl) (by kernel_rfl) (by kernel_rfl) (fun _ _ _ h => h) (Or.inl ⟨by rfl, ?_⟩) hHeld ?_; rotate_left; (· (intro w' hSw; go_simp; try with_reducible rfl)); (try simp only [List.getElem_toArray, List.getElem_cons_zero, List.getElem_cons_succ, Act.put, List.setIfInBounds_toArray, List.set_cons_zero, List.set_cons_succ])); (refine wpAnyH_take (i := 14) (v := ?_) rfl (by kernel_rfl) (by kernel_rfl) (by kernel_rfl) (fun _ _ _ h => h) (Or.inl ⟨by rfl, ?_⟩) hHeld ?_; rotate_left; (· (intro w' hSw; go_simp; try with_reducible rfl)); (try simp only [List.getElem_toArray, List.getElem_cons_zero, List.getElem_cons_succ, Act.put, List.setIfInBounds_toArray, List.set_cons_zero, List.set_cons_succ])); (refine wpAnyH_take (i := 15) (v := ?_) rfl (by kernel_rfl) (by kernel_rfl) (by kernel_rfl) (fun _ _ _ h => h) (Or.inl ⟨by rfl, ?_⟩) hHeld ?_; rotate_left; (· (intro w' hSw; go_simp; try with_reducible rfl)); (try simp only [List.getElem_toArray, List.getElem_cons_zero, List.getElem_cons_succ, Act.put, List.setIfInBounds_toArray, List.set_cons_zero, List.set_cons_succ]))
          have h1 : w.heap.size < wr.heap.size := h1
          have h2 : w.heap.size + 1 < wr.heap.size := h2
          generalize wr.heap.size = b9 at *
        all_goals
          (refine wpAnyH_ready (rs := [17]) (by kernel_rfl) (by simp) ?_; refine AllReadyH.cons (o := _) rfl (fun K hK => ?_) AllReadyH.nil; (simp only [List.getElem_toArray, List.getElem_cons_zero, List.getElem_cons_succ, Region.wanted, if_true]))
          refine wp_store_mid _ _ _ rfl _ _ (ints (pourR R x y)).toArray rfl rfl (by simpa [l2] using F9.there) (by simpa [l2] using hi0) (all_oneCell_toArray (ints_one _)) ?_
          (try simp only [List.getElem_toArray, List.getElem_cons_zero, List.getElem_cons_succ, Act.put, List.setIfInBounds_toArray, List.set_cons_zero, List.set_cons_succ, List.toList_toArray])
          have F1 := F1.putOther (b' := b9) 0 (ints (pourR R x y)) (by omega)
          have F2 := F2.putOther (b' := b9) 0 (ints (pourR R x y)) (by omega)
          have FP := FP.puts b9 0 (ints (pourR R x y)) (fun k hk => by simp only [Value.ownBlock, Option.some.injEq] at hk; omega)
          have FB := FB.puts (b := b9) (by omega) 0 (ints (pourR R x y))
          have F9 := F9.putAll (pourR R x y) hl2
          refine hK.out _ _ ⟨F1, F2, FP, FB⟩ (fun hHeld => ?_)
          clear hK K
          (refine wpAnyH_take (i := 18) (v := ?_) rfl (by kernel_rfl) (by kernel_rfl) (by kernel_rfl) (fun _ _ _ h => h) (Or.inl ⟨by rfl, ?_⟩) hHeld ?_; rotate_left; (· (intro w' hSw; go_simp; try with_reducible rfl)); (try simp only [List.getElem_toArray, List.getElem_cons_zero, List.getElem_cons_succ, Act.put, List.setIfInBounds_toArray, List.set_cons_zero, List.set_cons_succ])); (refine wpAnyH_take (i := 19) (v := ?_) rfl (by kernel_rfl) (by kernel_rfl) (by kernel_rfl) (fun _ _ _ h => h) (Or.inl ⟨by rfl, ?_⟩) hHeld ?_; rotate_left; (· (intro w' hSw; go_simp; try with_reducible rfl)); (try simp only [List.getElem_toArray, List.getElem_cons_zero, List.getElem_cons_succ, Act.put, List.setIfInBounds_toArray, List.set_cons_zero, List.set_cons_succ]))
          refine wpAnyH_done (by kernel_rfl) ?_ _
          have KP := Lib.hid FP
          have KB := Lib.hid FB
          clear FP FB hHeld G1 G2 GP GB hi1 l1
          by_cases hp : pourOk R x y = true
          · have GO2 : Hid (doOk ns fs (k + 1) = true) := Lib.hid (by rw [EO.out, GO.out, hp]; rfl)
            rw [hp]
            have N1 := Has.is (F1.putAll (pourR R x y) hl2) ER.out.symm
            have N2 := F2.putOther (b' := w.heap.size) 0 (ints (pourR R x y)) (by omega)
            have NP := Lib.hid (KP.out.puts w.heap.size 0 (ints (pourR R x y)) (fun k hk => by simp only [Value.ownBlock, Option.some.injEq] at hk; omega))
            have NB := Lib.hid (KB.out.puts (b := w.heap.size) (Nat.le_refl _) 0 (ints (pourR R x y)))
            clear hp
            go_wp2_with (first | (refine load_has rfl 28 _ rfl _ rfl ?_ 24 ?_ _ Try.underlying28 rfl ?_ ?_; rotate_left; (· (repeat (first | (with_reducible assumption) | ((with_reducible refine Has.box _ _ ?_ ?_) <;> (first | assumption | decide)) | (with_reducible refine Has.alloc ?_ _) | ((with_reducible refine Has.putOther ?_ _ _ ?_); rotate_left; omega; skip) | ((with_reducible refine Has.below ?_ ?_); rotate_left; assumption)))); (· kernel_rfl)) | (refine store_at rfl 28 _ _ rfl _ _ rfl rfl ?_ 24 ?_ ?_ ?_ ?_; rotate_left; (· (repeat (first | (with_reducible assumption) | ((with_reducible refine Has.box _ _ ?_ ?_) <;> (first | assumption | decide)) | (with_reducible refine Has.alloc ?_ _) | ((with_reducible refine Has.putOther ?_ _ _ ?_); rotate_left; omega; skip) | ((with_reducible refine Has.below ?_ ?_); rotate_left; assumption)))); (· (first | assumption | rfl)); (· kernel_rfl)))
            go_roundw
            case rel => exact ⟨k + 1, by omega, by go_num, by rw [EM.out], N1, N2, NP, NB, GO2⟩
            case measure => simp [intOf]; omega
          · have hf : pourOk R x y = false := by simpa using hp
            have D := Lib.hid (do_no (ns := ns) (fs := fs) (k := k + 1) (n := n) (by rw [EO.out, hf, Bool.and_false]) (by omega))
            rw [hf]
            have S1 := Lib.hid (F2.putAll z24 rfl)
            have S2 := Lib.hid (KB.out.puts (b := w.heap.size + 1) (by omega) 0 (ints z24))
            clear hf hp
            go_wp2_with (first | (refine build_law rfl 28 rfl _ buildRack ?_) | (refine store_at rfl 28 _ _ rfl _ _ rfl rfl ?_ 24 ?_ ?_ ?_ ?_; rotate_left; (· (repeat (first | (with_reducible assumption) | ((with_reducible refine Has.box _ _ ?_ ?_) <;> (first | assumption | decide)) | (with_reducible refine Has.alloc ?_ _) | ((with_reducible refine Has.putOther ?_ _ _ ?_); rotate_left; omega; skip) | ((with_reducible refine Has.below ?_ ?_); rotate_left; assumption)))); (· (first | assumption | rfl)); (· kernel_rfl)))
            exact bodyPost_ret (res_has2 rfl _ _ (w.heap.size + 1) z24 24 _ (.int .i64 0) (.bool false) rfl rfl rfl S1.out Try.underlying28 rfl (by kernel_rfl)) rfl ⟨by rw [D.out.1, D.out.2.1, D.out.2.2], S2.out⟩
      · obtain rfl : k = n := by omega
        have D := Lib.hid (do_yes GO.out)
        have hR := HL.out k
        have S1 := Lib.hid (G2.putAll (doR ns fs k) hR)
        have S2 := Lib.hid (GB.out.puts (b := w.heap.size + 1) (by omega) 0 (ints (doR ns fs k)))
        generalize doR ns fs k = R at *
        generalize doM ns fs k = M at *
        go_wp2_with (first | (refine load_has rfl 28 _ rfl _ rfl ?_ 24 ?_ _ Try.underlying28 rfl ?_ ?_; rotate_left; (· (repeat (first | (with_reducible assumption) | ((with_reducible refine Has.box _ _ ?_ ?_) <;> (first | assumption | decide)) | (with_reducible refine Has.alloc ?_ _) | ((with_reducible refine Has.putOther ?_ _ _ ?_); rotate_left; omega; skip) | ((with_reducible refine Has.below ?_ ?_); rotate_left; assumption)))); (· kernel_rfl)) | (refine store_at rfl 28 _ _ rfl _ _ rfl rfl ?_ 24 ?_ ?_ ?_ ?_; rotate_left; (· (repeat (first | (with_reducible assumption) | ((with_reducible refine Has.box _ _ ?_ ?_) <;> (first | assumption | decide)) | (with_reducible refine Has.alloc ?_ _) | ((with_reducible refine Has.putOther ?_ _ _ ?_); rotate_left; omega; skip) | ((with_reducible refine Has.below ?_ ?_); rotate_left; assumption)))); (· (first | assumption | rfl)); (· kernel_rfl)))
        exact bodyPost_ret (res_has2 rfl _ _ (w.heap.size + 1) R 24 _ (.int .i64 M) (.bool true) rfl rfl rfl S1.out Try.underlying28 rfl (by kernel_rfl)) rfl ⟨by rw [D.out.1, D.out.2, GO.out], S2.out⟩
  · have hf : vR ns = false := by simpa using hv
    have D := Lib.hid (do_no (ns := ns) (fs := fs) (k := 0) (n := n) hf (Nat.zero_le _))
    rw [hf]
    have S1 := Lib.hid (Z1.putAll z24 rfl)
    have S2 := Lib.hid (HB1.out.puts (b := w.heap.size + 1) (by omega) 0 (ints z24))
    clear hf hv
    go_wp2_with (first | (refine build_law rfl 28 rfl _ buildRack ?_) | (refine store_at rfl 28 _ _ rfl _ _ rfl rfl ?_ 24 ?_ ?_ ?_ ?_; rotate_left; (· (repeat (first | (with_reducible assumption) | ((with_reducible refine Has.box _ _ ?_ ?_) <;> (first | assumption | decide)) | (with_reducible refine Has.alloc ?_ _) | ((with_reducible refine Has.putOther ?_ _ _ ?_); rotate_left; omega; skip) | ((with_reducible refine Has.below ?_ ?_); rotate_left; assumption)))); (· (first | assumption | rfl)); (· kernel_rfl)))
    exact bodyPost_ret (res_has2 rfl _ _ (w.heap.size + 1) z24 24 _ (.int .i64 0) (.bool false) rfl rfl rfl S1.out Try.underlying28 rfl (by kernel_rfl)) rfl ⟨by rw [D.out.1, D.out.2.1, D.out.2.2], S2.out⟩
end Go.Proofs.Ytbnffpcgcchnaaa.base
