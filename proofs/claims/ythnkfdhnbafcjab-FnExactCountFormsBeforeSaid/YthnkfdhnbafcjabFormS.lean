/-
  The form of a rack, walked on the model's side.
-/
import Derived.Test.YthnkfdhnbafcjabForm
import Derived.Test.YthnkfdhnbafcjabSwap
import Derived.Test.YthnkfdhnbafcjabTubeW3
namespace Go.Proofs.Ythnkfdhnbafcjab.base
open Go.ChangeShapes Go.WideShapes Go.ChangeAt Go.RowKit
set_option linter.unusedVariables false
set_option linter.unusedSimpArgs false

theorem Has.as {w : World} {b : Nat} {ns ms : List Int} {n : Nat} (h : Has w b ns n) (e : ns = ms) : Has w b ms n := e ▸ h
theorem lex_at (s t : List Int) (k : Nat) (h1 : k < s.length) (h2 : k < t.length) : lexB (s.drop k) (t.drop k) = if s.getD k 0 = t.getD k 0 then lexB (s.drop (k + 1)) (t.drop (k + 1)) else decide (s.getD k 0 < t.getD k 0) := by
  rw [List.drop_eq_getElem_cons h1, List.drop_eq_getElem_cons h2, lexB, List.getD_eq_getElem?_getD, List.getD_eq_getElem?_getD, List.getElem?_eq_getElem h1, List.getElem?_eq_getElem h2]; rfl

set_option maxHeartbeats 800000 in
theorem l3Below_any (s t : List Int) (w : World) (hs : s.length = 4) (ht : t.length = 4) :
    Calls Try.prog 72 #[.agg (ints s).toArray, .agg (ints t).toArray] w fun e w' => e = .returned (.bool (lexB s t)) ∧ Kept w w' := by
  have HB := Lib.hid (((kept_refl w).alloc (.cells (ints s).toArray 22)).alloc (.cells (ints t).toArray 22))
  have H1 := (Has.box w 22 hs (by omega)).alloc (.cells (ints t).toArray 22)
  have H2 := (Has.box (w.alloc (.cells (ints s).toArray 22)) 22 ht (by omega)).at (size1 _ _)
  have LA := Lib.hid (fun k (hk : k < 4) => lex_at s t k (by omega) (by omega))
  have L4 : Hid (lexB (s.drop 4) (t.drop 4) = false) := Lib.hid (by rw [List.drop_of_length_le (by omega), List.drop_of_length_le (by omega)]; rfl)
  go_enter Try.func72, Try.ntmps72
  go_wp2_with fail
  generalize ((w.alloc (.cells (ints s).toArray 22)).alloc (.cells (ints t).toArray 22)) = W at *
  clear hs ht
  go_loopw [5] (fun z wr => ∃ k : Nat, k ≤ 4 ∧ z = .int .i64 k ∧ Has wr w.heap.size s 4 ∧ Has wr (w.heap.size + 1) t 4 ∧ Hid (lexB s t = lexB (s.drop k) (t.drop k)) ∧ Hid (Kept w wr)) (fun z _ => 4 - (intOf z).toNat)
  case atStart => exact ⟨0, by omega, rfl, H1, H2, Lib.hid rfl, HB⟩
  case round =>
    obtain ⟨k, hk, rfl, G1, G2, GL, GB⟩ := hrel
    by_cases h : k < 4
    · have c1 := G1.cell k h
      have c2 := G2.cell k h
      have hki : (k : Int) < 4 := by omega
      have hk0 : (0 : Int) ≤ (k : Int) := by omega
      have LK := Lib.hid (LA.out k h)
      generalize s.getD k 0 = x at *
      generalize t.getD k 0 = y at *
      by_cases e : x = y
      · have L2 : Hid (lexB s t = lexB (s.drop (k + 1)) (t.drop (k + 1))) := Lib.hid (by rw [GL.out, LK.out, if_pos e])
        have e1 : (x != y) = false := by simp [e]
        have e2 : (x == y) = true := by simp [e]
        clear e
        go_wp2_with fail
        go_quiet (fail)
        have G3 := G1.drewN nq
        have G4 := G2.drewN nq
        have GB2 := Lib.hid (GB.out.drewN nq)
        go_wp2_with fail
        go_roundw
        case rel => exact ⟨k + 1, by omega, by go_num, G3, G4, L2, GB2⟩
        case measure => simp [intOf]; omega
      · have L2 : Hid (lexB s t = decide (x < y)) := Lib.hid (by rw [GL.out, LK.out, if_neg e])
        have e1 : (x != y) = true := by simp [e]
        have e2 : (x == y) = false := by simp [e]
        clear e
        go_wp2_with fail
        go_quiet (fail)
        have GB2 := Lib.hid (GB.out.drewN nq)
        go_wp2_with fail
        go_quiet (fail)
        have GB3 := Lib.hid (GB2.out.drewN nq)
        go_wp2_with fail
        go_ret
        exact ⟨by rw [L2.out]; rfl, GB3.out⟩
    · obtain rfl : k = 4 := by omega
      have L2 : Hid (lexB s t = false) := Lib.hid (by rw [GL.out, L4.out])
      go_wp2_with fail
      go_ret
      exact ⟨by rw [L2.out]; rfl, GB.out⟩

set_option maxHeartbeats 3200000 in
set_option maxRecDepth 100000 in
theorem l3Form_any (ns : List Int) (w : World) (h24 : ns.length = 24) :
    Calls Try.prog 48 #[row ns] w fun e w' => e = .returned (.agg (ints (formL ns)).toArray) ∧ Kept w w' := by
  have HB := Lib.hid (((kept_refl w).alloc (.cells (ints ns).toArray 29)).alloc (.cells #[.int .i64 0, .int .i64 0, .int .i64 0, .int .i64 0, .int .i64 0, .int .i64 0, .int .i64 0, .int .i64 0, .int .i64 0, .int .i64 0, .int .i64 0, .int .i64 0, .int .i64 0, .int .i64 0, .int .i64 0, .int .i64 0, .int .i64 0, .int .i64 0, .int .i64 0, .int .i64 0, .int .i64 0, .int .i64 0, .int .i64 0, .int .i64 0] 29))
  have H := (Has.box w 29 h24 (by omega)).alloc (.cells #[.int .i64 0, .int .i64 0, .int .i64 0, .int .i64 0, .int .i64 0, .int .i64 0, .int .i64 0, .int .i64 0, .int .i64 0, .int .i64 0, .int .i64 0, .int .i64 0, .int .i64 0, .int .i64 0, .int .i64 0, .int .i64 0, .int .i64 0, .int .i64 0, .int .i64 0, .int .i64 0, .int .i64 0, .int .i64 0, .int .i64 0, .int .i64 0] 29)
  have Z := (Has.zero24 (w.alloc (.cells (ints ns).toArray 29)) 29).at (size1 _ _)
  have hz : z24.length = 24 := rfl
  have FE := Lib.hid (sortR_form h24)
  have FL := Lib.hid (sortR_len h24)
  rw [row_ints]
  go_enter Try.func48, Try.ntmps48
  go_wp2_with fail
  clear h24
  go_loopg [3] 6 (fun gk i wr => ∃ p : Nat, gk = 6 - p ∧ p ≤ 6 ∧ i = .int .i64 p ∧ Has wr w.heap.size (sortR ns p) 24 ∧ Has wr (w.heap.size + 1) z24 24 ∧ Hid (Kept w wr))
  case atStart => exact ⟨0, rfl, by omega, rfl, H, Z, HB⟩
  case round =>
    obtain ⟨p, rfl, hp, rfl, G1, G2, GB⟩ := hrel
    by_cases hp6 : p < 6
    · have hpi : (p : Int) < 6 := by omega
      have PL := Lib.hid (passR_len (FL.out p))
      have PE := Lib.hid (show passR (sortR ns p) 5 = sortR ns (p + 1) from rfl)
      have G1' : Has wr w.heap.size (passR (sortR ns p) 0) 24 := G1
      clear G1
      generalize sortR ns p = M at *
      go_wp2_with fail
      go_loopg [4] 6 (fun gk i wx => ∃ q : Nat, gk = 6 - q ∧ q ≤ 5 ∧ i = .int .i64 q ∧ Has wx w.heap.size (passR M q) 24 ∧ Has wx (w.heap.size + 1) z24 24 ∧ Hid (Kept w wx))
      case atStart => exact ⟨0, rfl, by omega, rfl, G1', G2, GB⟩
      case round =>
        obtain ⟨q, rfl, hq, rfl, K1, K2, KB⟩ := hrel
        obtain ⟨j, hj⟩ : ∃ j : Nat, j = q + 1 := ⟨_, rfl⟩
        have wj : IntKind.i64.wrap ((q : Int) + 1) = (j : Int) := by rw [hj]; exact IntWalk.i64_in _ (by omega)
        by_cases hlt : q < 5
        · have j6 : j < 6 := by omega
          have q6 : q < 6 := by omega
          have ji : (j : Int) < 6 := by omega
          have j0 : (0 : Int) ≤ (j : Int) := by omega
          have qi : (q : Int) < 6 := by omega
          have q0 : (0 : Int) ≤ (q : Int) := by omega
          have ES := Lib.hid (show passR M (q + 1) = stepR (passR M q) q from rfl)
          have hR := PL.out q hq
          have HJ := Lib.hid hj
          clear hj
          generalize passR M q = R at *
          have sq := tub_len R q hR q6
          have sj := tub_len R j hR j6
          have l1 : (ints (tub R q)).length = 4 := by rw [ints_len]; exact sq
          have l2 : (ints (tub R j)).length = 4 := by rw [ints_len]; exact sj
          have hi0 : (Try.prog.info? 22).map (·.size) = some 4 := by kernel_rfl
          have hi1 : (Try.prog.info? 22).map (·.size) = some (ints (tub R q)).length := by rw [l1]; exact hi0
          have hi2 : (Try.prog.info? 22).map (·.size) = some (ints (tub R j)).length := by rw [l2]; exact hi0
          go_wp2_with fail
          refine wp_region_held_drew (S := fun w' => Has w' w.heap.size R 24 ∧ Has w' (w.heap.size + 1) z24 24 ∧ Kept w w') (by kernel_rfl) ?_ (fun hHeld => ?_)
          · exact ⟨K1.drew, K2.drew, KB.out.drewN 1⟩
          (refine wpAnyH_take (i := 0) (v := ?_) rfl (by kernel_rfl) (by kernel_rfl) (by kernel_rfl) (fun _ _ _ h => h) (Or.inl ⟨by rfl, ?_⟩) hHeld ?_; rotate_left; (· (intro w' hSw; go_simp; try with_reducible rfl)); (try simp only [List.getElem_toArray, List.getElem_cons_zero, List.getElem_cons_succ, Act.put, List.setIfInBounds_toArray, List.set_cons_zero, List.set_cons_succ])); (refine wpAnyH_take (i := 1) (v := ?_) rfl (by kernel_rfl) (by kernel_rfl) (by kernel_rfl) (fun _ _ _ h => h) (Or.inl ⟨by rfl, ?_⟩) hHeld ?_; rotate_left; (· (intro w' hSw; go_simp; try with_reducible rfl)); (try simp only [List.getElem_toArray, List.getElem_cons_zero, List.getElem_cons_succ, Act.put, List.setIfInBounds_toArray, List.set_cons_zero, List.set_cons_succ])); (refine wpAnyH_take (i := 2) (v := ?_) rfl (by kernel_rfl) (by kernel_rfl) (by kernel_rfl) (fun _ _ _ h => h) (Or.inl ⟨by rfl, ?_⟩) hHeld ?_; rotate_left; (· (intro w' hSw; go_simp; try with_reducible rfl)); (try simp only [List.getElem_toArray, List.getElem_cons_zero, List.getElem_cons_succ, Act.put, List.setIfInBounds_toArray, List.set_cons_zero, List.set_cons_succ])); (refine wpAnyH_take (i := 3) (v := ?_) rfl (by kernel_rfl) (by kernel_rfl) (by kernel_rfl) (fun _ _ _ h => h) (Or.inl ⟨by rfl, ?_⟩) hHeld ?_; rotate_left; (· (intro w' hSw; go_simp; try with_reducible rfl)); (try simp only [List.getElem_toArray, List.getElem_cons_zero, List.getElem_cons_succ, Act.put, List.setIfInBounds_toArray, List.set_cons_zero, List.set_cons_succ])); (refine wpAnyH_take (i := 5) (v := ?_) rfl (by kernel_rfl) (by kernel_rfl) (by kernel_rfl) (fun _ _ _ h => h) (Or.inl ⟨by rfl, ?_⟩) hHeld ?_; rotate_left; (· (intro w' hSw; go_simp; try with_reducible rfl)); (try simp only [List.getElem_toArray, List.getElem_cons_zero, List.getElem_cons_succ, Act.put, List.setIfInBounds_toArray, List.set_cons_zero, List.set_cons_succ])); (refine wpAnyH_take (i := 6) (v := ?_) rfl (by kernel_rfl) (by kernel_rfl) (by kernel_rfl) (fun _ _ _ h => h) (Or.inl ⟨by rfl, ?_⟩) hHeld ?_; rotate_left; (· (intro w' hSw; go_simp; try with_reducible rfl)); (try simp only [List.getElem_toArray, List.getElem_cons_zero, List.getElem_cons_succ, Act.put, List.setIfInBounds_toArray, List.set_cons_zero, List.set_cons_succ])); (refine wpAnyH_take (i := 7) (v := ?_) rfl (by kernel_rfl) (by kernel_rfl) (by kernel_rfl) (fun _ _ _ h => h) (Or.inl ⟨by rfl, ?_⟩) hHeld ?_; rotate_left; (· (intro w' hSw; go_simp; try with_reducible rfl)); (try simp only [List.getElem_toArray, List.getElem_cons_zero, List.getElem_cons_succ, Act.put, List.setIfInBounds_toArray, List.set_cons_zero, List.set_cons_succ]))
          (refine wpAnyH_take (i := 4) (v := _) rfl (by kernel_rfl) (by kernel_rfl) (by kernel_rfl) (fun _ _ _ h => h) (yieldsIf_load_mid (by rfl) 22 _ rfl _ _ rfl (ints (tub R j)) _ (fun w' hSw => hSw.1.holds.sub (j * 4) 4) Try.underlying22 rfl (hi2)) hHeld ?_; (try simp only [List.getElem_toArray, List.getElem_cons_zero, List.getElem_cons_succ, Act.put, List.setIfInBounds_toArray, List.set_cons_zero, List.set_cons_succ]))
          (refine wpAnyH_take (i := 8) (v := _) rfl (by kernel_rfl) (by kernel_rfl) (by kernel_rfl) (fun _ _ _ h => h) (yieldsIf_load_mid (by rfl) 22 _ rfl _ _ rfl (ints (tub R q)) _ (fun w' hSw => hSw.1.holds.sub (q * 4) 4) Try.underlying22 rfl (hi1)) hHeld ?_; (try simp only [List.getElem_toArray, List.getElem_cons_zero, List.getElem_cons_succ, Act.put, List.setIfInBounds_toArray, List.set_cons_zero, List.set_cons_succ]))
          (refine wpAnyH_ready (rs := [9]) (by kernel_rfl) (by simp) ?_; refine AllReadyH.cons (o := _) rfl (fun K hK => ?_) AllReadyH.nil; (simp only [List.getElem_toArray, List.getElem_cons_zero, List.getElem_cons_succ, Region.wanted, if_true]))
          go_simp
          refine (l3Below_any (tub R j) (tub R q) _ sj sq).mono ?_
          rintro e w2 ⟨rfl, b2⟩
          dsimp only
          (try simp only [List.getElem_toArray, List.getElem_cons_zero, List.getElem_cons_succ, Act.put, List.setIfInBounds_toArray, List.set_cons_zero, List.set_cons_succ])
          have F1 := hHeld.1.below b2
          have F2 := hHeld.2.1.below b2
          have FB := Lib.hid (hHeld.2.2.call b2)
          refine hK.out _ _ ⟨F1, F2, FB.out⟩ (fun hHeld => ?_)
          clear hK K b2
          refine wpAnyH_done (by kernel_rfl) ?_ _
          clear hHeld K1 K2 KB
          have n1 := F1.lt
          have n2 := F2.lt
          by_cases hx : lexB (tub R j) (tub R q) = true
          · have EX : Hid (passR M (q + 1) = setTub (setTub R q (tub R j)) j (tub R q)) := Lib.hid (by rw [ES.out]; unfold stepR swapT; rw [← HJ.out, if_pos hx])
            rw [hx]
            clear hx
            go_wp2_with fail
            refine wp_region_held_drew (S := fun w' => HasOnly w' w.heap.size R) (by kernel_rfl) ⟨F1.drew⟩ (fun hHeld => ?_)
            (refine wpAnyH_take (i := 0) (v := ?_) rfl (by kernel_rfl) (by kernel_rfl) (by kernel_rfl) (fun _ _ _ h => h) (Or.inl ⟨by rfl, ?_⟩) hHeld ?_; rotate_left; (· (intro w' hSw; go_simp; try with_reducible rfl)); (try simp only [List.getElem_toArray, List.getElem_cons_zero, List.getElem_cons_succ, Act.put, List.setIfInBounds_toArray, List.set_cons_zero, List.set_cons_succ])); (refine wpAnyH_take (i := 1) (v := ?_) rfl (by kernel_rfl) (by kernel_rfl) (by kernel_rfl) (fun _ _ _ h => h) (Or.inl ⟨by rfl, ?_⟩) hHeld ?_; rotate_left; (· (intro w' hSw; go_simp; try with_reducible rfl)); (try simp only [List.getElem_toArray, List.getElem_cons_zero, List.getElem_cons_succ, Act.put, List.setIfInBounds_toArray, List.set_cons_zero, List.set_cons_succ])); (refine wpAnyH_take (i := 2) (v := ?_) rfl (by kernel_rfl) (by kernel_rfl) (by kernel_rfl) (fun _ _ _ h => h) (Or.inl ⟨by rfl, ?_⟩) hHeld ?_; rotate_left; (· (intro w' hSw; go_simp; try with_reducible rfl)); (try simp only [List.getElem_toArray, List.getElem_cons_zero, List.getElem_cons_succ, Act.put, List.setIfInBounds_toArray, List.set_cons_zero, List.set_cons_succ])); (refine wpAnyH_take (i := 4) (v := ?_) rfl (by kernel_rfl) (by kernel_rfl) (by kernel_rfl) (fun _ _ _ h => h) (Or.inl ⟨by rfl, ?_⟩) hHeld ?_; rotate_left; (· (intro w' hSw; go_simp; try with_reducible rfl)); (try simp only [List.getElem_toArray, List.getElem_cons_zero, List.getElem_cons_succ, Act.put, List.setIfInBounds_toArray, List.set_cons_zero, List.set_cons_succ])); (refine wpAnyH_take (i := 5) (v := ?_) rfl (by kernel_rfl) (by kernel_rfl) (by kernel_rfl) (fun _ _ _ h => h) (Or.inl ⟨by rfl, ?_⟩) hHeld ?_; rotate_left; (· (intro w' hSw; go_simp; try with_reducible rfl)); (try simp only [List.getElem_toArray, List.getElem_cons_zero, List.getElem_cons_succ, Act.put, List.setIfInBounds_toArray, List.set_cons_zero, List.set_cons_succ])); (refine wpAnyH_take (i := 6) (v := ?_) rfl (by kernel_rfl) (by kernel_rfl) (by kernel_rfl) (fun _ _ _ h => h) (Or.inl ⟨by rfl, ?_⟩) hHeld ?_; rotate_left; (· (intro w' hSw; go_simp; try with_reducible rfl)); (try simp only [List.getElem_toArray, List.getElem_cons_zero, List.getElem_cons_succ, Act.put, List.setIfInBounds_toArray, List.set_cons_zero, List.set_cons_succ])); (refine wpAnyH_take (i := 7) (v := ?_) rfl (by kernel_rfl) (by kernel_rfl) (by kernel_rfl) (fun _ _ _ h => h) (Or.inl ⟨by rfl, ?_⟩) hHeld ?_; rotate_left; (· (intro w' hSw; go_simp; try with_reducible rfl)); (try simp only [List.getElem_toArray, List.getElem_cons_zero, List.getElem_cons_succ, Act.put, List.setIfInBounds_toArray, List.set_cons_zero, List.set_cons_succ]))
            (refine wpAnyH_take (i := 3) (v := _) rfl (by kernel_rfl) (by kernel_rfl) (by kernel_rfl) (fun _ _ _ h => h) (yieldsIf_load_mid (by rfl) 22 _ rfl _ _ rfl (ints (tub R q)) _ (fun w' hSw => hSw.1.holds.sub (q * 4) 4) Try.underlying22 rfl (hi1)) hHeld ?_; (try simp only [List.getElem_toArray, List.getElem_cons_zero, List.getElem_cons_succ, Act.put, List.setIfInBounds_toArray, List.set_cons_zero, List.set_cons_succ]))
            (refine wpAnyH_take (i := 8) (v := _) rfl (by kernel_rfl) (by kernel_rfl) (by kernel_rfl) (fun _ _ _ h => h) (yieldsIf_load_mid (by rfl) 22 _ rfl _ _ rfl (ints (tub R j)) _ (fun w' hSw => hSw.1.holds.sub (j * 4) 4) Try.underlying22 rfl (hi2)) hHeld ?_; (try simp only [List.getElem_toArray, List.getElem_cons_zero, List.getElem_cons_succ, Act.put, List.setIfInBounds_toArray, List.set_cons_zero, List.set_cons_succ]))
            refine wpAnyH_ready (rs := [9, 10]) (by kernel_rfl) (by simp) ?_
            refine AllReadyH.cons (o := _) rfl (fun K hK => ?aFirst) (AllReadyH.cons (o := _) rfl (fun K hK => ?bFirst) AllReadyH.nil)
            case' aFirst =>
              (simp only [List.getElem_toArray, List.getElem_cons_zero, List.getElem_cons_succ, Region.wanted, if_true])
              go_simp
              refine hK.out _ _ ⟨hHeld.1.alloc _⟩ (fun hHeld => ?_)
              clear hK K
              (refine wpAnyH_ready (rs := [10]) (by kernel_rfl) (by simp) ?_; refine AllReadyH.cons (o := _) rfl (fun K hK => ?_) AllReadyH.nil; (simp only [List.getElem_toArray, List.getElem_cons_zero, List.getElem_cons_succ, Region.wanted, if_true]))
              go_simp
              refine hK.out _ _ ⟨hHeld.1.alloc _⟩ (fun hHeld => ?_)
              clear hK K
              obtain ⟨ba, hba⟩ : ∃ ba, ba = w2.heap.size := ⟨_, rfl⟩
              obtain ⟨bb, hbb⟩ : ∃ bb, bb = w2.heap.size + 1 := ⟨_, rfl⟩
              have B8 : Has ((w2.alloc (.cells #[.int .i64 0, .int .i64 0, .int .i64 0, .int .i64 0] 22)).alloc (.cells #[.int .i64 0, .int .i64 0, .int .i64 0, .int .i64 0] 22)).drew ba [0, 0, 0, 0] 4 := by rw [hba]; exact ((Has.zero w2 _).alloc _).drew
              have B9 : Has ((w2.alloc (.cells #[.int .i64 0, .int .i64 0, .int .i64 0, .int .i64 0] 22)).alloc (.cells #[.int .i64 0, .int .i64 0, .int .i64 0, .int .i64 0] 22)).drew bb [0, 0, 0, 0] 4 := by rw [hbb]; exact ((Has.zero (w2.alloc _) _).at (size1 _ _)).drew
              rw [← hbb, ← hba]
              have e1 : w.heap.size + 1 < ba := by omega
              have e2 : w.heap.size + 1 < bb := by omega
              have e3 : ba ≠ bb := by omega
              clear hba hbb
            case' bFirst =>
              (simp only [List.getElem_toArray, List.getElem_cons_zero, List.getElem_cons_succ, Region.wanted, if_true])
              go_simp
              refine hK.out _ _ ⟨hHeld.1.alloc _⟩ (fun hHeld => ?_)
              clear hK K
              (refine wpAnyH_ready (rs := [9]) (by kernel_rfl) (by simp) ?_; refine AllReadyH.cons (o := _) rfl (fun K hK => ?_) AllReadyH.nil; (simp only [List.getElem_toArray, List.getElem_cons_zero, List.getElem_cons_succ, Region.wanted, if_true]))
              go_simp
              refine hK.out _ _ ⟨hHeld.1.alloc _⟩ (fun hHeld => ?_)
              clear hK K
              obtain ⟨bb, hbb⟩ : ∃ bb, bb = w2.heap.size := ⟨_, rfl⟩
              obtain ⟨ba, hba⟩ : ∃ ba, ba = w2.heap.size + 1 := ⟨_, rfl⟩
              have B9 : Has ((w2.alloc (.cells #[.int .i64 0, .int .i64 0, .int .i64 0, .int .i64 0] 22)).alloc (.cells #[.int .i64 0, .int .i64 0, .int .i64 0, .int .i64 0] 22)).drew bb [0, 0, 0, 0] 4 := by rw [hbb]; exact ((Has.zero w2 _).alloc _).drew
              have B8 : Has ((w2.alloc (.cells #[.int .i64 0, .int .i64 0, .int .i64 0, .int .i64 0] 22)).alloc (.cells #[.int .i64 0, .int .i64 0, .int .i64 0, .int .i64 0] 22)).drew ba [0, 0, 0, 0] 4 := by rw [hba]; exact ((Has.zero (w2.alloc _) _).at (size1 _ _)).drew
              rw [← hba, ← hbb]
              have e1 : w.heap.size + 1 < ba := by omega
              have e2 : w.heap.size + 1 < bb := by omega
              have e3 : ba ≠ bb := by omega
              clear hba hbb
            all_goals
              have A0 := ((F1.alloc (.cells #[.int .i64 0, .int .i64 0, .int .i64 0, .int .i64 0] 22)).alloc (.cells #[.int .i64 0, .int .i64 0, .int .i64 0, .int .i64 0] 22)).drew
              have Y0 := ((F2.alloc (.cells #[.int .i64 0, .int .i64 0, .int .i64 0, .int .i64 0] 22)).alloc (.cells #[.int .i64 0, .int .i64 0, .int .i64 0, .int .i64 0] 22)).drew
              have K0 := ((FB.out.alloc (.cells #[.int .i64 0, .int .i64 0, .int .i64 0, .int .i64 0] 22)).alloc (.cells #[.int .i64 0, .int .i64 0, .int .i64 0, .int .i64 0] 22)).drewN 1
              have C8 := (B8.putAll (tub R q) sq).putOther (b' := bb) 0 (ints (tub R j)) (by omega)
              have C9 := (B9.putOther (b' := ba) 0 (ints (tub R q)) (by omega)).putAll (tub R j) sj
              have A1 := (A0.putOther (b' := ba) 0 (ints (tub R q)) (by omega)).putOther (b' := bb) 0 (ints (tub R j)) (by omega)
              have Y1 := (Y0.putOther (b' := ba) 0 (ints (tub R q)) (by omega)).putOther (b' := bb) 0 (ints (tub R j)) (by omega)
              have K1 := Kept.puts (Kept.puts K0 (b := ba) (by omega) 0 (ints (tub R q))) (b := bb) (by omega) 0 (ints (tub R j))
              (refine wpAnyH_ready (rs := [11]) (by kernel_rfl) (by simp) ?_; refine AllReadyH.cons (o := _) rfl (fun K hK => ?_) AllReadyH.nil; (simp only [List.getElem_toArray, List.getElem_cons_zero, List.getElem_cons_succ, Region.wanted, if_true]); refine wp_store_mid _ _ _ rfl _ _ (ints (tub R q)).toArray rfl rfl (by simpa [l1] using B8.there) (by simpa [l1] using hi1) (all_oneCell_toArray (ints_one _)) ?_; (try simp only [List.getElem_toArray, List.getElem_cons_zero, List.getElem_cons_succ, Act.put, List.setIfInBounds_toArray, List.set_cons_zero, List.set_cons_succ, List.toList_toArray]); refine hK.out _ _ (⟨hHeld.1.putOther _ _ (by omega)⟩) (fun hHeld => ?_); clear hK K)
              (refine wpAnyH_ready (rs := [12]) (by kernel_rfl) (by simp) ?_; refine AllReadyH.cons (o := _) rfl (fun K hK => ?_) AllReadyH.nil; (simp only [List.getElem_toArray, List.getElem_cons_zero, List.getElem_cons_succ, Region.wanted, if_true]); refine wp_store_mid _ _ _ rfl _ _ (ints (tub R j)).toArray rfl rfl (by simpa [l2] using (B9.putOther (b' := ba) 0 (ints (tub R q)) (by omega)).there) (by simpa [l2] using hi2) (all_oneCell_toArray (ints_one _)) ?_; (try simp only [List.getElem_toArray, List.getElem_cons_zero, List.getElem_cons_succ, Act.put, List.setIfInBounds_toArray, List.set_cons_zero, List.set_cons_succ, List.toList_toArray]); refine hK.out _ _ (⟨hHeld.1.putOther _ _ (by omega)⟩) (fun hHeld => ?_); clear hK K)
              refine wpAnyH_done (by kernel_rfl) ?_ _
              clear B8 B9 hHeld A0 Y0 K0
              have A2 := A1.putTub q q6 (tub R j) sj
              have C82 := C8.putOther (b' := w.heap.size) (q * 4) (ints (tub R j)) (by omega)
              have A3 := A2.putTub j j6 (tub R q) sq
              have t1 := Lib.hid (A1.holds.thereSub (q * 4) 4 (by rw [ints_len, A1.len]; omega))
              have t2 := Lib.hid (A2.holds.thereSub (j * 4) 4 (by rw [ints_len, A2.len]; omega))
              have Y2 := (Y1.putOther (b' := w.heap.size) (q * 4) (ints (tub R j)) (by omega)).putOther (b' := w.heap.size) (j * 4) (ints (tub R q)) (by omega)
              have S2 := Lib.hid ((K1.puts (b := w.heap.size) (Nat.le_refl _) (q * 4) (ints (tub R j))).puts (b := w.heap.size) (Nat.le_refl _) (j * 4) (ints (tub R q)))
              have A4 := Has.as A3 EX.out.symm
              clear K1 Y1 A1 A2 F1 F2 FB A3 hi0 hi1 hi2 l1 l2
              go_wp2_with (first | (refine load_has rfl 22 _ rfl _ rfl ?_ 4 ?_ _ Try.underlying22 rfl ?_ ?_; rotate_left; (· (repeat (first | (with_reducible assumption) | ((with_reducible refine Has.box _ _ ?_ ?_) <;> (first | assumption | decide)) | (with_reducible refine Has.alloc ?_ _) | ((with_reducible refine Has.putOther ?_ _ _ ?_); rotate_left; omega; skip) | ((with_reducible refine Has.below ?_ ?_); rotate_left; assumption)))); (· kernel_rfl)) | (refine store_has rfl 22 _ _ rfl w.heap.size (q * 4) (tub R j) rfl rfl 4 sj t1.out ?_ ?_; (· kernel_rfl)) | (refine store_has rfl 22 _ _ rfl w.heap.size (j * 4) (tub R q) rfl rfl 4 sq t2.out ?_ ?_; (· kernel_rfl)))
              go_roundg (6 - (q + 1))
              case rel => exact ⟨q + 1, rfl, by omega, by rw [HJ.out], A4, Y2, S2⟩
              case measure => omega
          · have hf : lexB (tub R j) (tub R q) = false := by simpa using hx
            have EX : Hid (R = passR M (q + 1)) := Lib.hid (by rw [ES.out]; unfold stepR; rw [← HJ.out, if_neg hx])
            have F3 := Has.as F1 EX.out
            rw [hf]
            clear hx hf F1 hi0 hi1 hi2 l1 l2
            go_wp2_with fail
            go_roundg (6 - (q + 1))
            case rel => exact ⟨q + 1, rfl, by omega, by rw [HJ.out], F3, F2, FB⟩
            case measure => omega
        · obtain rfl : q = 5 := by omega
          have N1 := Has.as K1 PE.out
          clear K1
          go_wp2_with fail
          go_roundg (6 - (p + 1))
          case rel => exact ⟨p + 1, rfl, by omega, by go_num, N1, K2, KB⟩
          case measure => omega
    · obtain rfl : p = 6 := by omega
      have N1 := Has.as G1 FE.out
      have hl : (formL ns).length = 24 := N1.len
      have S1 := Lib.hid (G2.putAll (formL ns) hl)
      have S2 := Lib.hid (GB.out.puts (b := w.heap.size + 1) (by omega) 0 (ints (formL ns)))
      clear G1
      go_wp2_with (first | (refine load_has rfl 29 _ rfl _ rfl ?_ 24 ?_ _ Try.underlying29 rfl ?_ ?_; rotate_left; (· (repeat (first | (with_reducible assumption) | ((with_reducible refine Has.box _ _ ?_ ?_) <;> (first | assumption | decide)) | (with_reducible refine Has.alloc ?_ _) | ((with_reducible refine Has.putOther ?_ _ _ ?_); rotate_left; omega; skip) | ((with_reducible refine Has.below ?_ ?_); rotate_left; assumption)))); (· kernel_rfl)) | (refine store_at rfl 29 _ _ rfl _ _ rfl rfl ?_ 24 ?_ ?_ ?_ ?_; rotate_left; (· (repeat (first | (with_reducible assumption) | ((with_reducible refine Has.box _ _ ?_ ?_) <;> (first | assumption | decide)) | (with_reducible refine Has.alloc ?_ _) | ((with_reducible refine Has.putOther ?_ _ _ ?_); rotate_left; omega; skip) | ((with_reducible refine Has.below ?_ ?_); rotate_left; assumption)))); (· (first | assumption | rfl)); (· kernel_rfl)))
      exact bodyPost_ret (res_has (P := Try.prog) rfl _ _ (w.heap.size + 1) (formL ns) 24 _ rfl S1.out Try.underlying29 rfl (by kernel_rfl)) rfl ⟨rfl, S2.out⟩

def formA (ns : List Int) : List Int := if vR ns = true then formL ns else z24
theorem formA_len {ns : List Int} (h : ns.length = 24) : (formA ns).length = 24 := by
  unfold formA
  split
  · exact formL_len ns h
  · rfl

end Go.Proofs.Ythnkfdhnbafcjab.base
