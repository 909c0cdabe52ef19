/-
  The loops of a replay, walked on both sides.
-/
import Derived.Test.YtalngdccjoafhaaRyEZ
import Derived.Test.YtalngdccjoafhaaSwapZ
import Derived.Test.YtalngdccjoafhaaGridZ
import Derived.Test.YtalngdccjoafhaaRyP
namespace Go.Proofs.Ytalngdccjoafhaa.base
open Go.ChangeShapes Go.WideShapes Go.ChangeAt Go.RowKit
set_option linter.unusedVariables false
set_option linter.unusedSimpArgs false

/-- The first j numbers behind k whose racks are that of k, each as a pair. -/
def lpI (L : List (List Int)) (k : Nat) : Nat → List Int
  | 0 => []
  | j + 1 => lpI L k j ++ (if L.getD k [] = L.getD (k + 1 + j) [] then [(k : Int), ((k + 1 + j : Nat) : Int)] else [])
def lpU (L : List (List Int)) : Nat → List Int
  | 0 => []
  | k + 1 => lpU L k ++ lpI L k (L.length - (k + 1))
/-- All loops of some racks, flat. -/
def lpL (L : List (List Int)) : List Int := lpU L L.length
theorem lpI_yes {L : List (List Int)} {k j : Nat} (h : L.getD k [] = L.getD (k + 1 + j) []) : lpI L k (j + 1) = lpI L k j ++ [(k : Int), ((k + 1 + j : Nat) : Int)] := by rw [lpI, if_pos h]
theorem lpI_no {L : List (List Int)} {k j : Nat} (h : ¬ L.getD k [] = L.getD (k + 1 + j) []) : lpI L k (j + 1) = lpI L k j := by rw [lpI, if_neg h, List.append_nil]
theorem lpI_len (L : List (List Int)) (k : Nat) : ∀ j, (lpI L k j).length ≤ 2 * j
  | 0 => Nat.le_refl _
  | j + 1 => by
    have := lpI_len L k j
    rw [lpI, List.length_append]
    split <;> simp <;> omega
theorem lpU_len (L : List (List Int)) : ∀ k, (lpU L k).length ≤ 2 * (k * L.length)
  | 0 => Nat.zero_le _
  | k + 1 => by
    have h1 := lpU_len L k
    have h2 := lpI_len L k (L.length - (k + 1))
    rw [lpU, List.length_append, Nat.add_mul]
    omega
def lpF (ns fs : List Int) (n : Nat) : List Int := lpL (rkA ns fs n)
def lpN (ns fs : List Int) (n : Nat) : Nat := (lpF ns fs n).length / 2
theorem lpL_le {L : List (List Int)} (h : L.length ≤ 61) : (lpL L).length / 2 ≤ 3721 := by
  have h1 := lpU_len L L.length
  have h2 : L.length * L.length ≤ 61 * 61 := Nat.mul_le_mul h h
  unfold lpL
  omega
theorem lpN_le (ns fs : List Int) (n : Nat) : lpN ns fs n ≤ 3721 := lpL_le (rk_le ns fs n)
theorem Prs.belowY {w w' : World} {b N : Nat} {v : Value} {fs : List Int} (h : Prs w b v N fs) (k : Below w.heap.size w w') : Prs w' b v N fs :=
  World.ownsRow.kept (row := Option.none) h ⟨k.os, k.tape, k.output, k.size, fun j hj _ => k.block j hj⟩ (by cases v.ownBlock <;> simp)
theorem prs_half {w : World} {b N : Nat} {v : Value} {fs : List Int} (h : Prs w b v N fs) : Prs w b v (fs.length / 2) fs := by
  have := h.flat
  rw [show fs.length / 2 = N by omega]; exact h

set_option maxHeartbeats 3200000 in
set_option maxRecDepth 100000 in
theorem l11Loops_any (L : List (List Int)) (u : Value) (b : Nat) (w : World) (hL : L.length ≤ 61) (h : Gr w b 31 24 u L) :
    Calls Try.prog 48 #[u] w fun e w' => ∃ v : Value, e = .returned v ∧ Prs w' w.heap.size v ((lpL L).length / 2) (lpL L) ∧ Kept w w' := by
  have HM : Hid (Try.prog.eqGuardType Try.prog.depth 31 = false) := Lib.hid (by kernel_rfl)
  have hi00 : (Try.prog.info? 31).map (·.size) = some 24 := by kernel_rfl
  obtain ⟨M, hM⟩ : ∃ M, L.length = M := ⟨_, rfl⟩
  have HML := Lib.hid hM
  obtain ⟨ua, uc, rfl⟩ := h.shape
  rw [hM] at h hL ⊢
  have GU := Lib.hid (h.alloc (.cells #[] 41))
  have P0 := Lib.hid (prs_none w w.heap.size (Nat.le_refl _))
  have HB := Lib.hid ((kept_refl w).alloc (.cells #[] 41))
  have LU := Lib.hid (fun k => lpU_len L k)
  have LI := Lib.hid (fun k j => lpI_len L k j)
  have OWN : Hid (∀ z, (Value.slice ua M uc).ownBlock = some z → z < w.heap.size) := Lib.hid (fun z hz => (h.own z hz).2)
  clear h hM
  go_enter Try.func48, Try.ntmps48
  go_wp2_with fail
  go_loopw [3, 4] (fun v i wr => ∃ (k N : Nat), k ≤ M ∧ i = .int .i64 k ∧ Hid (Prs wr w.heap.size v N (lpU L k)) ∧ Hid (Gr wr b 31 24 (.slice ua M uc) L) ∧ Hid (Kept w wr)) (fun _ i _ => M - (intOf i).toNat)
  case atStart => exact ⟨0, 0, by omega, rfl, P0, GU, HB⟩
  case round =>
    clear P0 GU HB
    obtain ⟨k, N, hk, rfl, GP, GU, GB⟩ := hrel
    by_cases hlt : k < M
    · have ki : (k : Int) < (M : Int) := by omega
      have k0 : (0 : Int) ≤ (k : Int) := by omega
      have hIn : Hid (lpU L k ++ lpI L k 0 = lpU L k) := Lib.hid (List.append_nil _)
      rw [← hIn.out] at GP
      go_wp2_with fail
      go_loopw [3, 5] (fun v i wr => ∃ (j N : Nat), k + 1 + j ≤ M ∧ i = .int .i64 ((k + 1 + j : Nat) : Int) ∧ Hid (Prs wr w.heap.size v N (lpU L k ++ lpI L k j)) ∧ Hid (Gr wr b 31 24 (.slice ua M uc) L) ∧ Hid (Kept w wr)) (fun _ i _ => M - (intOf i).toNat)
      case atStart => exact ⟨0, N, by omega, by simp, GP, GU, GB⟩
      case round =>
        clear GP GU GB
        obtain ⟨j, N2, hj, rfl, GP, GU, GB⟩ := hrel
        obtain ⟨m, hm⟩ : ∃ m, k + 1 + j = m := ⟨_, rfl⟩
        have HMJ := Lib.hid hm
        rw [hm] at hj ⊢
        clear hm
        by_cases hlt2 : m < M
        · have mi : (m : Int) < (M : Int) := by omega
          have m0 : (0 : Int) ≤ (m : Int) := by omega
          obtain ⟨gg, cc, he, hg0, hg1⟩ := GU.out.form (by rw [HML.out]; omega)
          rw [HML.out] at he
          injection he with e1 _ e3
          subst e1
          subst e3
          have RK := Lib.hid (fun w' (hw : Kept wr w') => (GU.out.below hw).range HML.out.symm k hlt)
          have RM := Lib.hid (fun w' (hw : Kept wr w') => (GU.out.below hw).range HML.out.symm m hlt2)
          have lk := GU.out.item (k := k) (by rw [HML.out]; exact hlt)
          have lm := GU.out.item (k := m) (by rw [HML.out]; exact hlt2)
          have YES : Hid (L.getD k [] = L.getD m [] → lpI L k (j + 1) = lpI L k j ++ [(k : Int), (m : Int)]) := Lib.hid (fun h => by rw [← HMJ.out] at h ⊢; exact lpI_yes h)
          have NO : Hid (¬ L.getD k [] = L.getD m [] → lpI L k (j + 1) = lpI L k j) := Lib.hid (fun h => lpI_no (by rw [HMJ.out]; exact h))
          have hNle : Hid (N2 ≤ 100000) := Lib.hid (by
            have h1 := GP.out.flat
            rw [List.length_append] at h1
            have h2 := LU.out k
            have h3 := LI.out k j
            rw [HML.out] at h2
            have h4 : k * M ≤ 61 * 61 := Nat.mul_le_mul (by omega) hL
            have h5 := HMJ.out
            omega)
          generalize L.getD k [] = A at *
          generalize L.getD m [] = B at *
          have EQ := Lib.hid (eqRackT A B lk lm)
          have hiA : (Try.prog.info? 31).map (·.size) = some (ints A).length := by rw [ints_len, lk]; exact hi00
          have hiB : (Try.prog.info? 31).map (·.size) = some (ints B).length := by rw [ints_len, lm]; exact hi00
          have NXT : Hid (k + 1 + (j + 1) = m + 1) := Lib.hid (by have := HMJ.out; omega)
          go_wp2_with fail
          refine wp_region_held_drew (S := fun w' => Kept wr w') (by kernel_rfl) ((kept_refl wr).drewN 1) (fun hHeld => ?_)
          (refine wpAnyH_take (i := 0) (v := ?_) rfl (by kernel_rfl) (by kernel_rfl) (by kernel_rfl) (fun _ _ _ h => h) (Or.inl ⟨by rfl, ?_⟩) hHeld ?_; rotate_left; (· (intro w' hSw; go_simp; try with_reducible rfl)); (try simp only [List.getElem_toArray, List.getElem_cons_zero, List.getElem_cons_succ, Act.put, List.setIfInBounds_toArray, List.set_cons_zero, List.set_cons_succ])); (refine wpAnyH_take (i := 1) (v := ?_) rfl (by kernel_rfl) (by kernel_rfl) (by kernel_rfl) (fun _ _ _ h => h) (Or.inl ⟨by rfl, ?_⟩) hHeld ?_; rotate_left; (· (intro w' hSw; go_simp; try with_reducible rfl)); (try simp only [List.getElem_toArray, List.getElem_cons_zero, List.getElem_cons_succ, Act.put, List.setIfInBounds_toArray, List.set_cons_zero, List.set_cons_succ])); (refine wpAnyH_take (i := 2) (v := ?_) rfl (by kernel_rfl) (by kernel_rfl) (by kernel_rfl) (fun _ _ _ h => h) (Or.inl ⟨by rfl, ?_⟩) hHeld ?_; rotate_left; (· (intro w' hSw; go_simp; try with_reducible rfl)); (try simp only [List.getElem_toArray, List.getElem_cons_zero, List.getElem_cons_succ, Act.put, List.setIfInBounds_toArray, List.set_cons_zero, List.set_cons_succ])); (refine wpAnyH_take (i := 4) (v := ?_) rfl (by kernel_rfl) (by kernel_rfl) (by kernel_rfl) (fun _ _ _ h => h) (Or.inl ⟨by rfl, ?_⟩) hHeld ?_; rotate_left; (· (intro w' hSw; go_simp; try with_reducible rfl)); (try simp only [List.getElem_toArray, List.getElem_cons_zero, List.getElem_cons_succ, Act.put, List.setIfInBounds_toArray, List.set_cons_zero, List.set_cons_succ])); (refine wpAnyH_take (i := 5) (v := ?_) rfl (by kernel_rfl) (by kernel_rfl) (by kernel_rfl) (fun _ _ _ h => h) (Or.inl ⟨by rfl, ?_⟩) hHeld ?_; rotate_left; (· (intro w' hSw; go_simp; try with_reducible rfl)); (try simp only [List.getElem_toArray, List.getElem_cons_zero, List.getElem_cons_succ, Act.put, List.setIfInBounds_toArray, List.set_cons_zero, List.set_cons_succ])); (refine wpAnyH_take (i := 6) (v := ?_) rfl (by kernel_rfl) (by kernel_rfl) (by kernel_rfl) (fun _ _ _ h => h) (Or.inl ⟨by rfl, ?_⟩) hHeld ?_; rotate_left; (· (intro w' hSw; go_simp; try with_reducible rfl)); (try simp only [List.getElem_toArray, List.getElem_cons_zero, List.getElem_cons_succ, Act.put, List.setIfInBounds_toArray, List.set_cons_zero, List.set_cons_succ]))
          (refine wpAnyH_take (i := 3) (v := _) rfl (by kernel_rfl) (by kernel_rfl) (by kernel_rfl) (fun _ _ _ h => h) (yieldsIf_load_mid (by rfl) 31 _ rfl _ _ rfl (ints A) _ (fun w' hSw => RK.out w' hSw) Try.underlying31 rfl (hiA)) hHeld ?_; (try simp only [List.getElem_toArray, List.getElem_cons_zero, List.getElem_cons_succ, Act.put, List.setIfInBounds_toArray, List.set_cons_zero, List.set_cons_succ]))
          (refine wpAnyH_take (i := 7) (v := _) rfl (by kernel_rfl) (by kernel_rfl) (by kernel_rfl) (fun _ _ _ h => h) (yieldsIf_load_mid (by rfl) 31 _ rfl _ _ rfl (ints B) _ (fun w' hSw => RM.out w' hSw) Try.underlying31 rfl (hiB)) hHeld ?_; (try simp only [List.getElem_toArray, List.getElem_cons_zero, List.getElem_cons_succ, Act.put, List.setIfInBounds_toArray, List.set_cons_zero, List.set_cons_succ]))
          (refine wpAnyH_take (i := 8) (v := .bool (decide (A = B))) rfl (by kernel_rfl) (by kernel_rfl) (by kernel_rfl) (fun _ _ _ h => h) (Or.inl ⟨by rfl, fun w' hSw => eql_run _ _ _ _ _ _ rfl _ _ rfl rfl HM.out EQ.out⟩) hHeld ?_; (try simp only [List.getElem_toArray, List.getElem_cons_zero, List.getElem_cons_succ, Act.put, List.setIfInBounds_toArray, List.set_cons_zero, List.set_cons_succ]))
          refine wpAnyH_done (by kernel_rfl) ?_ _
          replace GP := Lib.hid (GP.out.below hHeld)
          replace GU := Lib.hid (GU.out.below hHeld)
          replace GB := Lib.hid (GB.out.call hHeld)
          clear hHeld RK RM hiA hiB EQ lk lm
          generalize World.drew wr = wd at *
          by_cases hAB : A = B
          · have EY := Lib.hid (YES.out hAB)
            rw [decide_eq_true hAB]
            clear hAB YES NO
            obtain ⟨va, vc, rfl⟩ := GP.out.rw.shape
            have ow := Lib.hid (fun z hz => (World.ownsRow.lt GP.out z hz).1)
            have hws := GB.out.size
            have Q2 : Hid (Prs (wd.alloc (.cells (ints [(k : Int), (m : Int)]).toArray 41)) w.heap.size (.slice va N2 vc) N2 (lpU L k ++ lpI L k j)) := Lib.hid (World.ownsRow.alloc GP.out _)
            go_wp2_with (first | (refine slice1Y rfl 26 41 _ rfl Try.underlying26 (by kernel_rfl) [(k : Int), (m : Int)] rfl rfl ?_) | (at_builtin; refine wpList_append_prs rfl _ _ rfl w.heap.size _ N2 _ rfl Q2.out (some ⟨wd.heap.size, 0, none⟩) 1 1 rfl [(k : Int), (m : Int)] rfl (from_new wd _ _ _) (by rw [size1]; omega) (by have := hNle.out; omega) ?_; intro v' w5 hP hgrow hlie))
            have N1 : Hid (Prs w5 w.heap.size v' (N2 + 1) (lpU L k ++ lpI L k (j + 1))) := Lib.hid (by rw [EY.out, ← List.append_assoc]; exact hP)
            have N3 : Hid (Kept w w5) := Lib.hid ((GB.out.alloc (.cells (ints [(k : Int), (m : Int)]).toArray 41)).grown hgrow (by rw [size1]; omega) (fun z hz => ow.out z hz))
            have N2' : Hid (Gr w5 b 31 24 (.slice (some ⟨gg, 0, none⟩) M uc) L) := Lib.hid ((GU.out.alloc (.cells (ints [(k : Int), (m : Int)]).toArray 41)).kept hgrow (fun z hz e => by
              have h1 := Option.some.inj (show some gg = some z from hz)
              have h2 := ow.out z e
              have h3 := OWN.out z hz
              omega))
            clear hP hgrow hlie Q2 GP GU GB
            go_wp2_with fail
            go_roundw
            case rel => exact ⟨j + 1, N2 + 1, by have := NXT.out; omega, by rw [NXT.out]; go_num, N1, N2', N3⟩
            case measure => simp [intOf]; omega
          · have EN := Lib.hid (NO.out hAB)
            rw [decide_eq_false hAB]
            clear hAB YES NO
            go_wp2_with fail
            go_roundw
            case rel => exact ⟨j + 1, N2, by have := NXT.out; omega, by rw [NXT.out]; go_num, by rw [EN.out]; exact GP, GU, GB⟩
            case measure => simp [intOf]; omega
        · obtain rfl : m = M := by omega
          have EL : Hid (lpU L k ++ lpI L k j = lpU L (k + 1)) := Lib.hid (by rw [lpU, HML.out, show m - (k + 1) = j by have := HMJ.out; omega])
          go_wp2_with fail
          go_roundw
          case rel => exact ⟨k + 1, N2, by omega, by go_num, by rw [← EL.out]; exact GP, GU, GB⟩
          case measure => simp [intOf]; omega
    · obtain rfl : k = M := by omega
      have E : Hid (lpL L = lpU L k) := Lib.hid (by unfold lpL; rw [HML.out])
      have GP2 := Lib.hid (prs_half GP.out)
      clear GP
      go_wp2_with fail
      go_ret
      exact ⟨_, rfl, by rw [E.out]; exact GP2.out, GB.out⟩
set_option maxHeartbeats 3200000 in
set_option maxRecDepth 100000 in
theorem implLoops (ns fs : List Int) (v : Value) (n b : Nat) (w : World) (h24 : ns.length = 24) (hn : n ≤ 1048576) (h : Rw w b v n fs) :
    Calls Try.prog 28 #[rpV ns v] w fun e w' => ∃ u : Value, e = .returned (.tuple #[u, .bool (rpOk ns fs n)]) ∧ Rw w' w.heap.size u (lpN ns fs n) (lpF ns fs n) ∧ Kept w w' := by
  have HM : Hid (Try.prog.eqGuardType Try.prog.depth 31 = false) := Lib.hid (by kernel_rfl)
  have hi00 : (Try.prog.info? 31).map (·.size) = some 24 := by kernel_rfl
  have RY := (Ry.box (v := v) w 33 h24).alloc (.cells #[] 41)
  have HB := Lib.hid (((kept_refl w).alloc (.cells (rpC ns v).toArray 33)).alloc (.cells #[] 41))
  have HR := Lib.hid ((h.alloc (.cells (rpC ns v).toArray 33)).alloc (.cells #[] 41))
  have P0 := prs_none (w.alloc (.cells (rpC ns v).toArray 33)) w.heap.size (by rw [size1]; omega)
  rw [size1] at P0
  have P1 := Lib.hid P0
  clear h P0
  unfold rpV
  go_enter Try.func28, Try.ntmps28
  go_upto_region 2 with fail
  generalize ((w.alloc (.cells (rpC ns v).toArray 33)).alloc (.cells #[] 41)) = W at *
  go_wp2_with (refine guardY (isLdY 33) ?_ ?_; (· rfl); refine load_ry rfl 33 _ rfl w.heap.size rfl _ _ _ RY _ Try.underlying33 rfl ?_ ?_; (· kernel_rfl))
  refine (racks_any ns fs v n b _ h24 hn HR.out).mono ?_
  rintro e w1 ⟨u, rfl, q1, b1⟩
  have hL := rk_le ns fs n
  have EF : Hid (lpF ns fs n = lpL (rkA ns fs n) ∧ lpN ns fs n = (lpL (rkA ns fs n)).length / 2) := Lib.hid ⟨rfl, rfl⟩
  have OWN9 := Lib.hid (fun z hz => (World.ownsRow.lt P1.out z hz).2)
  replace P1 := Lib.hid (show Prs w1 w.heap.size _ 0 [] from Prs.belowY P1.out b1)
  have hWs : w.heap.size ≤ W.heap.size := HB.out.size
  replace HB := Lib.hid (HB.out.call b1)
  obtain ⟨OK, hOK⟩ : ∃ OK, rpOk ns fs n = OK := ⟨_, rfl⟩
  rw [hOK]
  have HOK := Lib.hid hOK
  clear hOK
  generalize rkA ns fs n = L at *
  obtain ⟨M, hM⟩ : ∃ M, L.length = M := ⟨_, rfl⟩
  have HML := Lib.hid hM
  obtain ⟨ua, uc, rfl⟩ := q1.shape
  rw [hM] at q1 hL ⊢
  have GU := Lib.hid q1
  have OWN0 : Hid (∀ z, (Value.slice ua M uc).ownBlock = some z → W.heap.size ≤ z) := Lib.hid (fun z hz => (q1.own z hz).1)
  have LU := Lib.hid (fun k => lpU_len L k)
  have LI := Lib.hid (fun k j => lpI_len L k j)
  have SEP : Hid (∀ z, (Value.slice (some ⟨w.heap.size + 1, 0, none⟩) 0 0).ownBlock = some z → (Value.slice ua M uc).ownBlock ≠ some z) := Lib.hid (fun z hz e => by
    have h1 := OWN9.out z hz
    have h2 := OWN0.out z e
    omega)
  clear q1 b1 HR RY hM
  go_wp2_with fail
  go_loopw [4, 18] (fun v i wr => ∃ (k N : Nat), k ≤ M ∧ i = .int .i64 k ∧ Hid (Prs wr w.heap.size v N (lpU L k)) ∧ Hid (Gr wr W.heap.size 31 24 (.slice ua M uc) L) ∧ Hid (∀ z, v.ownBlock = some z → (Value.slice ua M uc).ownBlock ≠ some z) ∧ Hid (Kept w wr)) (fun _ i _ => M - (intOf i).toNat)
  case atStart => exact ⟨0, 0, by omega, rfl, P1, GU, SEP, HB⟩
  case round =>
    clear P1 GU SEP HB
    obtain ⟨k, N, hk, rfl, GP, GU, SEP, GB⟩ := hrel
    by_cases hlt : k < M
    · have ki : (k : Int) < (M : Int) := by omega
      have k0 : (0 : Int) ≤ (k : Int) := by omega
      have hIn : Hid (lpU L k ++ lpI L k 0 = lpU L k) := Lib.hid (List.append_nil _)
      rw [← hIn.out] at GP
      obtain ⟨gk, ck, hek, _, _⟩ := GU.out.form (by rw [HML.out]; omega)
      rw [HML.out] at hek
      injection hek with e1k _ e3k
      subst e1k
      subst e3k
      have RK0 := Lib.hid (GU.out.range HML.out.symm k hlt)
      have lk0 := GU.out.item (k := k) (by rw [HML.out]; exact hlt)
      obtain ⟨A, hA⟩ : ∃ A, L.getD k [] = A := ⟨_, rfl⟩
      have HA := Lib.hid hA
      rw [hA] at RK0 lk0
      have hiA0 : (Try.prog.info? 31).map (·.size) = some (ints A).length := by rw [ints_len, lk0]; exact hi00
      have HIA := Lib.hid hiA0
      have XR := Has.box wr 31 lk0 (by omega)
      have gpo := Lib.hid (fun z hz => (World.ownsRow.lt GP.out z hz).2)
      replace GP : Hid (Prs (wr.alloc (.cells (ints A).toArray 31)) w.heap.size _ N _) := Lib.hid (World.ownsRow.alloc GP.out _)
      replace GU := Lib.hid (GU.out.alloc (.cells (ints A).toArray 31))
      replace GB := Lib.hid (GB.out.alloc (.cells (ints A).toArray 31))
      clear hA hiA0
      go_upto_region 6 with (first | (refine wpList_load_mid rfl 31 _ rfl gk (k * 24) rfl (ints A) _ RK0.out Try.underlying31 rfl HIA.out ?_) | (refine guardY (isStY 31) ?_ ?_; (· rfl); (refine store_new rfl 31 _ _ rfl _ _ _ rfl _ rfl _ rfl rfl ?_ ?_ ?_; (· (first | assumption | rfl)); (· kernel_rfl))))
      obtain ⟨rb, hrb⟩ : ∃ rb, wr.heap.size = rb := ⟨_, rfl⟩
      rw [hrb] at XR gpo ⊢
      generalize wr.alloc (.cells (ints A).toArray 31) = W8 at *
      have rbs : Hid (∀ z, u4.ownBlock = some z → z ≠ rb) := Lib.hid (fun z hz => by have := gpo.out z hz; omega)
      clear hrb RK0 gpo
      go_wp2_with fail
      go_loopw [4, 9] (fun v i wr => ∃ (j N : Nat), k + 1 + j ≤ M ∧ i = .int .i64 ((k + 1 + j : Nat) : Int) ∧ Hid (Prs wr w.heap.size v N (lpU L k ++ lpI L k j)) ∧ Hid (Gr wr W.heap.size 31 24 (.slice (some ⟨gk, 0, none⟩) M uc) L) ∧ Hid (∀ z, v.ownBlock = some z → (Value.slice (some ⟨gk, 0, none⟩) M uc).ownBlock ≠ some z) ∧ Hid (∀ z, v.ownBlock = some z → z ≠ rb) ∧ Has wr rb A 24 ∧ Hid (Kept w wr)) (fun _ i _ => M - (intOf i).toNat)
      case atStart => exact ⟨0, N, by omega, by simp, GP, GU, SEP, rbs, XR, GB⟩
      case round =>
        clear GP GU SEP GB XR rbs
        obtain ⟨j, N2, hj, rfl, GP, GU, SEP, RBS, XR, GB⟩ := hrel
        obtain ⟨m, hm⟩ : ∃ m, k + 1 + j = m := ⟨_, rfl⟩
        have HMJ := Lib.hid hm
        rw [hm] at hj ⊢
        clear hm
        by_cases hlt2 : m < M
        · have mi : (m : Int) < (M : Int) := by omega
          have m0 : (0 : Int) ≤ (m : Int) := by omega
          have RK := Lib.hid (fun w' (hw : Kept wr w') => (XR.below hw).holds.range)
          have RM := Lib.hid (fun w' (hw : Kept wr w') => (GU.out.below hw).range HML.out.symm m hlt2)
          have lk := XR.len
          have lm := GU.out.item (k := m) (by rw [HML.out]; exact hlt2)
          have YES : Hid (A = L.getD m [] → lpI L k (j + 1) = lpI L k j ++ [(k : Int), (m : Int)]) := Lib.hid (fun h => by rw [← HA.out, ← HMJ.out] at h; rw [← HMJ.out]; exact lpI_yes h)
          have NO : Hid (¬ A = L.getD m [] → lpI L k (j + 1) = lpI L k j) := Lib.hid (fun h => lpI_no (by rw [HMJ.out, HA.out]; exact h))
          have hNle : Hid (N2 ≤ 100000) := Lib.hid (by
            have h1 := GP.out.flat
            rw [List.length_append] at h1
            have h2 := LU.out k
            have h3 := LI.out k j
            rw [HML.out] at h2
            have h4 : k * M ≤ 61 * 61 := Nat.mul_le_mul (by omega) hL
            have h5 := HMJ.out
            omega)
          generalize L.getD m [] = B at *
          have EQ := Lib.hid (eqRackT B A lm lk)
          have hiA : (Try.prog.info? 31).map (·.size) = some (ints A).length := by rw [ints_len, lk]; exact hi00
          have hiB : (Try.prog.info? 31).map (·.size) = some (ints B).length := by rw [ints_len, lm]; exact hi00
          have NXT : Hid (k + 1 + (j + 1) = m + 1) := Lib.hid (by have := HMJ.out; omega)
          go_wp2_with fail
          refine wp_region_held_drew (S := fun w' => Kept wr w') (by kernel_rfl) ((kept_refl wr).drewN 1) (fun hHeld => ?_)
          (refine wpAnyH_take (i := 0) (v := ?_) rfl (by kernel_rfl) (by kernel_rfl) (by kernel_rfl) (fun _ _ _ h => h) (Or.inl ⟨by rfl, ?_⟩) hHeld ?_; rotate_left; (· (intro w' hSw; go_simp; try with_reducible rfl)); (try simp only [List.getElem_toArray, List.getElem_cons_zero, List.getElem_cons_succ, Act.put, List.setIfInBounds_toArray, List.set_cons_zero, List.set_cons_succ])); (refine wpAnyH_take (i := 1) (v := ?_) rfl (by kernel_rfl) (by kernel_rfl) (by kernel_rfl) (fun _ _ _ h => h) (Or.inl ⟨by rfl, ?_⟩) hHeld ?_; rotate_left; (· (intro w' hSw; go_simp; try with_reducible rfl)); (try simp only [List.getElem_toArray, List.getElem_cons_zero, List.getElem_cons_succ, Act.put, List.setIfInBounds_toArray, List.set_cons_zero, List.set_cons_succ])); (refine wpAnyH_take (i := 2) (v := ?_) rfl (by kernel_rfl) (by kernel_rfl) (by kernel_rfl) (fun _ _ _ h => h) (Or.inl ⟨by rfl, ?_⟩) hHeld ?_; rotate_left; (· (intro w' hSw; go_simp; try with_reducible rfl)); (try simp only [List.getElem_toArray, List.getElem_cons_zero, List.getElem_cons_succ, Act.put, List.setIfInBounds_toArray, List.set_cons_zero, List.set_cons_succ]))
          (refine wpAnyH_take (i := 3) (v := _) rfl (by kernel_rfl) (by kernel_rfl) (by kernel_rfl) (fun _ _ _ h => h) (yieldsIf_load_mid (by rfl) 31 _ rfl _ _ rfl (ints B) _ (fun w' hSw => RM.out w' hSw) Try.underlying31 rfl (hiB)) hHeld ?_; (try simp only [List.getElem_toArray, List.getElem_cons_zero, List.getElem_cons_succ, Act.put, List.setIfInBounds_toArray, List.set_cons_zero, List.set_cons_succ]))
          (refine wpAnyH_take (i := 4) (v := _) rfl (by kernel_rfl) (by kernel_rfl) (by kernel_rfl) (fun _ _ _ h => h) (yieldsIf_load_mid (by rfl) 31 _ rfl _ _ rfl (ints A) _ (fun w' hSw => RK.out w' hSw) Try.underlying31 rfl (hiA)) hHeld ?_; (try simp only [List.getElem_toArray, List.getElem_cons_zero, List.getElem_cons_succ, Act.put, List.setIfInBounds_toArray, List.set_cons_zero, List.set_cons_succ]))
          (refine wpAnyH_take (i := 5) (v := .bool (decide (B = A))) rfl (by kernel_rfl) (by kernel_rfl) (by kernel_rfl) (fun _ _ _ h => h) (Or.inl ⟨by rfl, fun w' hSw => eql_run _ _ _ _ _ _ rfl _ _ rfl rfl HM.out EQ.out⟩) hHeld ?_; (try simp only [List.getElem_toArray, List.getElem_cons_zero, List.getElem_cons_succ, Act.put, List.setIfInBounds_toArray, List.set_cons_zero, List.set_cons_succ]))
          refine wpAnyH_done (by kernel_rfl) ?_ _
          replace GP := Lib.hid (GP.out.below hHeld)
          replace GU := Lib.hid (GU.out.below hHeld)
          replace GB := Lib.hid (GB.out.call hHeld)
          replace XR := XR.below hHeld
          clear hHeld RK RM hiA hiB EQ lk lm
          generalize World.drew wr = wd at *
          by_cases hAB : A = B
          · have EY := Lib.hid (YES.out hAB)
            rw [decide_eq_true hAB.symm]
            clear hAB YES NO
            obtain ⟨va, vc, rfl⟩ := GP.out.rw.shape
            have ow := Lib.hid (fun z hz => (World.ownsRow.lt GP.out z hz).1)
            have hws := GB.out.size
            have Q2 : Hid (Prs (wd.alloc (.cells (ints [(k : Int), (m : Int)]).toArray 41)) w.heap.size (.slice va N2 vc) N2 (lpU L k ++ lpI L k j)) := Lib.hid (World.ownsRow.alloc GP.out _)
            go_wp2_with (first | (refine slice1Y rfl 26 41 _ rfl Try.underlying26 (by kernel_rfl) [(k : Int), (m : Int)] rfl rfl ?_) | (at_builtin; refine wpList_append_prs rfl _ _ rfl w.heap.size _ N2 _ rfl Q2.out (some ⟨wd.heap.size, 0, none⟩) 1 1 rfl [(k : Int), (m : Int)] rfl (from_new wd _ _ _) (by rw [size1]; omega) (by have := hNle.out; omega) ?_; intro v' w5 hP hgrow hlie))
            have N1 : Hid (Prs w5 w.heap.size v' (N2 + 1) (lpU L k ++ lpI L k (j + 1))) := Lib.hid (by rw [EY.out, ← List.append_assoc]; exact hP)
            have N3 : Hid (Kept w w5) := Lib.hid ((GB.out.alloc (.cells (ints [(k : Int), (m : Int)]).toArray 41)).grown hgrow (by rw [size1]; omega) (fun z hz => ow.out z hz))
            have N2' : Hid (Gr w5 W.heap.size 31 24 (.slice (some ⟨gk, 0, none⟩) M uc) L) := Lib.hid ((GU.out.alloc (.cells (ints [(k : Int), (m : Int)]).toArray 41)).kept hgrow (fun z hz e => by
              exact SEP.out z e hz))
            have N4 : Hid (∀ z, v'.ownBlock = some z → (Value.slice (some ⟨gk, 0, none⟩) M uc).ownBlock ≠ some z) := Lib.hid (fun z hz e => by
              rcases hlie with h3 | h3
              · exact SEP.out z (h3.symm.trans hz) e
              · have h4 := Option.some.inj (h3.symm.trans hz)
                have h5 := (GU.out.own z e).2
                rw [size1] at h4; omega)
            have N5 : Hid (∀ z, v'.ownBlock = some z → z ≠ rb) := Lib.hid (fun z hz => by
              rcases hlie with h3 | h3
              · exact RBS.out z (h3.symm.trans hz)
              · have h4 := Option.some.inj (h3.symm.trans hz)
                have h5 := XR.lt
                rw [size1] at h4; omega)
            have N6 : Has w5 rb A 24 := (XR.alloc (.cells (ints [(k : Int), (m : Int)]).toArray 41)).grownNo hgrow (fun e => RBS.out rb e.symm rfl)
            clear hP hgrow hlie Q2 GP GU GB SEP RBS XR
            go_wp2_with fail
            go_roundw
            case rel => exact ⟨j + 1, N2 + 1, by have := NXT.out; omega, by rw [NXT.out]; go_num, N1, N2', N4, N5, N6, N3⟩
            case measure => simp [intOf]; omega
          · have EN := Lib.hid (NO.out hAB)
            rw [decide_eq_false (fun h => hAB h.symm)]
            clear hAB YES NO
            go_wp2_with fail
            go_roundw
            case rel => exact ⟨j + 1, N2, by have := NXT.out; omega, by rw [NXT.out]; go_num, by rw [EN.out]; exact GP, GU, SEP, RBS, XR, GB⟩
            case measure => simp [intOf]; omega
        · obtain rfl : m = M := by omega
          have EL : Hid (lpU L k ++ lpI L k j = lpU L (k + 1)) := Lib.hid (by rw [lpU, HML.out, show m - (k + 1) = j by have := HMJ.out; omega])
          go_wp2_with fail
          go_roundw
          case rel => exact ⟨k + 1, N2, by omega, by go_num, by rw [← EL.out]; exact GP, GU, SEP, GB⟩
          case measure => simp [intOf]; omega
    · obtain rfl : k = M := by omega
      have E : Hid (lpL L = lpU L k) := Lib.hid (by unfold lpL; rw [HML.out])
      have GP2 := Lib.hid (prs_half GP.out).rw
      clear GP
      go_wp2_with fail
      go_ret2
      exact ⟨_, by rw [HOK.out]; rfl, by rw [EF.out.1, EF.out.2, E.out]; exact GP2.out, GB.out⟩

set_option maxHeartbeats 1600000 in
set_option maxRecDepth 100000 in
theorem specLoops (ns fs : List Int) (v : Value) (n b : Nat) (w : World) (h24 : ns.length = 24) (hn : n ≤ 1048576) (h : Rw w b v n fs) :
    Calls Try.prog 27 #[rpV ns v] w fun e w' => ∃ u : Value, e = .returned (.tuple #[u, .bool (rpOk ns fs n)]) ∧ Rw w' w.heap.size u (lpN ns fs n) (lpF ns fs n) ∧ Kept w w' := by
  have RY := Ry.box (v := v) w 33 h24
  have HB := Lib.hid ((kept_refl w).alloc (.cells (rpC ns v).toArray 33))
  have HR := Lib.hid (h.alloc (.cells (rpC ns v).toArray 33))
  clear h
  unfold rpV
  go_enter Try.func27, Try.ntmps27
  go_wp2_with (refine guardY (isLdY 33) ?_ ?_; (· rfl); refine load_ry rfl 33 _ rfl w.heap.size rfl _ _ _ RY _ Try.underlying33 rfl ?_ ?_; (· kernel_rfl))
  refine (l11Racks_any ns fs v n b _ h24 hn HR.out).mono ?_
  rintro e w1 ⟨u, rfl, q1, b1⟩
  have hL := rk_le ns fs n
  have hs : w.heap.size ≤ w1.heap.size := by have := b1.size; rw [size1] at this; omega
  replace HB := Lib.hid (HB.out.call b1)
  clear b1 HR RY
  cases hok : rpOk ns fs n with
  | false =>
    have OKH := Lib.hid hok
    have EF : Hid (lpF ns fs n = [] ∧ lpN ns fs n = 0) := Lib.hid (by
      have : lpF ns fs n = [] := by unfold lpF; rw [rk_no hok]; rfl
      exact ⟨this, by unfold lpN; rw [this]; rfl⟩)
    have P0 := Lib.hid (prs_none w1 w.heap.size hs).rw
    have B2 := Lib.hid (HB.out.alloc (.cells #[] 41))
    clear hok q1
    go_wp2_with fail
    go_ret2
    exact ⟨_, by rw [OKH.out]; rfl, by rw [EF.out.1, EF.out.2]; exact P0.out, B2.out⟩
  | true =>
    have OKH := Lib.hid hok
    have Q := Lib.hid q1
    clear hok q1
    go_wp2_with fail
    refine (l11Loops_any (rkA ns fs n) u _ w1 hL Q.out).mono ?_
    rintro e w2 ⟨x, rfl, q2, b2⟩
    have P0 := Lib.hid (Rw.mono q2.rw hs)
    have B2 := Lib.hid (HB.out.call b2)
    clear q2 b2 Q
    go_wp2_with fail
    go_ret2
    exact ⟨_, by rw [OKH.out]; rfl, P0.out, B2.out⟩
end Go.Proofs.Ytalngdccjoafhaa.base
