/-
  Games on the model's side, walked: gains, and the values of both games.
-/
import Derived.Test.YtnldnjnnjfbhnabGmG
import Derived.Test.YtnldnjnnjfbhnabGmQZ
namespace Go.Proofs.Ytnldnjnnjfbhnab.base
open Go.ChangeShapes Go.WideShapes Go.ChangeAt Go.RowKit
set_option linter.unusedVariables false
set_option linter.unusedSimpArgs false

theorem l1Most_anyG (a b : Int) (w : World) :
    Calls Try.prog 60 #[.int .i64 a, .int .i64 b] w fun e w' => e = .returned (.int .i64 (max a b)) ∧ w = w' := by
  by_cases h : b < a
  · have E := Lib.hid (show max a b = a by omega)
    have d := decide_eq_true h
    go_enter Try.func60, Try.ntmps60
    go_wp2_with fail
    go_ret
    exact ⟨by rw [E.out]; rfl, rfl⟩
  · have E := Lib.hid (show max a b = b by omega)
    have d := decide_eq_false h
    go_enter Try.func60, Try.ntmps60
    go_wp2_with fail
    go_ret
    exact ⟨by rw [E.out]; rfl, rfl⟩


set_option maxHeartbeats 6400000 in
set_option maxRecDepth 100000 in
theorem l10Tubes_any : ∀ (n : Nat), n ≤ 3 → ∀ (ns : List Int), GR ns → ∀ (w : World), Calls Try.prog 32 #[row ns, .int .i64 (n : Nat)] w fun e w' => e = .returned (.int .i64 (gval ptT (0) n ns)) ∧ Kept w w' := by
  intro n
  induction n with
  | zero =>
    intro _ ns G w
    have HB := Lib.hid ((kept_refl w).alloc (.cells (ints ns).toArray 27))
    have E : Hid (gval ptT (0) 0 ns = 0) := Lib.hid rfl
    rw [row_ints]
    go_enter Try.func32, Try.ntmps32
    go_wp2_with fail
    go_ret
    exact ⟨by rw [E.out]; rfl, HB.out⟩
  | succ n IH =>
    intro hn ns G w
    have h24 := G.1
    have HB := Lib.hid ((kept_refl w).alloc (.cells (ints ns).toArray 27))
    have H := Has.box w 27 h24 (by omega)
    have IHH := Lib.hid (IH (by omega))
    have KU := Lib.hid (fun W => l2Useful_any ns W h24 G.2)
    have E1 := Lib.hid (show usefNA ns = usefN ns (poursN ns 36) by unfold usefNA; rw [if_pos G.2])
    have E2 := Lib.hid (show usefFA ns = usefF ns (poursN ns 36) by unfold usefFA; rw [if_pos G.2])
    have UN := Lib.hid (fun k hk => up_natG G k hk)
    have NG := Lib.hid (fun k hk => nx_good G k hk)
    have C24 := Lib.hid h24
    have CV := Lib.hid G.2
    have EG : Hid (gval ptT (0) (n + 1) ns = if usefNA ns = 0 then (0) else mxU (fun k => ptT ns k - gval ptT (0) n (nxR ns k)) (usefNA ns - 1)) := Lib.hid rfl
    have N30 := use30 ns
    have hi0 : (Try.prog.info? 27).map (·.size) = some 24 := by kernel_rfl
    have hi1 : (Try.prog.info? 27).map (·.size) = some (ints ns).length := by rw [ints_len, h24]; exact hi0
    have hi2p : (Try.prog.info? 36).map (·.size) = some 2 := by kernel_rfl
    obtain ⟨f, hf⟩ : ∃ f, (fun k => ptT ns k - gval ptT (0) n (nxR ns k)) = f := ⟨_, rfl⟩
    have HF := Lib.hid (show ∀ k, ptT ns k - gval ptT (0) n (nxR ns k) = f k from fun k => by rw [← hf])
    rw [hf] at EG
    have FB := Lib.hid (show ∀ k, -30 ≤ f k ∧ f k ≤ 30 from fun k => by
      have h0 := HF.out k
      have h1 := gvalT_in n (nxR ns k); have h2 := ptT_in ns k; omega)
    obtain ⟨nz, hnz⟩ : ∃ nz : Int, ((n + 1 : Nat) : Int) = nz := ⟨_, rfl⟩
    have n1 : (nz == 0) = false := by simp; omega
    have wn : IntKind.i64.wrap (nz - 1) = ((n : Nat) : Int) := by rw [IntWalk.i64_in _ (by omega)]; omega
    rw [hnz]
    rw [row_ints]
    clear G hf hnz IH
    go_enter Try.func32, Try.ntmps32
    go_wp2_with (refine load_has rfl 27 _ rfl _ rfl ?_ 24 ?_ _ Try.underlying27 rfl ?_ ?_; rotate_left; (· (repeat (first | (with_reducible assumption) | ((with_reducible refine Has.box _ _ ?_ ?_) <;> (first | assumption | decide)) | (with_reducible refine Has.alloc ?_ _) | ((with_reducible refine Has.putOther ?_ _ _ ?_); rotate_left; omega; skip) | ((with_reducible refine Has.below ?_ ?_); rotate_left; assumption)))); (· kernel_rfl))
    refine (KU.out _).mono ?_
    rintro e w1 ⟨v, rfl, q1, b1⟩
    rw [← E1.out, ← E2.out] at q1
    obtain ⟨va, vc, rfl⟩ := q1.rw.shape
    have R0 := Lib.hid ((q1.mono (b' := 0) (Nat.zero_le _)).rw)
    replace H := H.below b1
    replace HB := Lib.hid (HB.out.call b1)
    clear b1 q1 KU E1 E2
    obtain ⟨N, hN⟩ : ∃ N, usefNA ns = N := ⟨_, rfl⟩
    rw [hN] at R0 UN NG N30 EG ⊢
    clear hN
    by_cases h0 : N = 0
    · subst h0
      have E := Lib.hid (show gval ptT (0) (n + 1) ns = 0 by rw [EG.out, if_pos rfl])
      go_wp2_with fail
      go_ret
      exact ⟨by rw [E.out]; rfl, HB.out⟩
    have n0 : ((N : Int) == 0) = false := by simp; omega
    have EE := Lib.hid (show gval ptT (0) (n + 1) ns = mxF (-100) f N by
      rw [EG.out, if_neg h0, show N = (N - 1) + 1 by omega, mxF_mxU _ (fun j _ => by have := (FB.out j).1; omega), Nat.add_sub_cancel])
    have MB := Lib.hid (show ∀ k, -100 ≤ mxF (-100) f k ∧ mxF (-100) f k ≤ 30 from fun k => mxF_in (by omega) k (fun j _ => (FB.out j).2))
    have F0 : Hid (mxF (-100) f 0 = -100) := Lib.hid rfl
    clear EG h0
    go_wp2_with fail
    go_loopw [6, 7] (fun m z wr => ∃ k : Nat, k ≤ N ∧ z = .int .i64 k ∧ m = .int .i64 (mxF (-100) f k) ∧ Has wr w.heap.size ns 24 ∧ Hid (Rw wr 0 (.slice va N vc) N (usefFA ns)) ∧ Hid (Kept w wr)) (fun _ z _ => N - (intOf z).toNat)
    case atStart => exact ⟨0, by omega, rfl, by rw [F0.out], H, R0, HB⟩
    case round =>
      clear H R0 HB
      obtain ⟨k, hk, rfl, rfl, G1, GR', GB⟩ := hrel
      have mb := MB.out k
      by_cases hkN : k < N
      · have Np : 0 < N := by omega
        obtain ⟨gg, gcap, he, hgb, hgl⟩ := GR'.out.form Np
        injection he with e1 _ e3
        subst e1
        subst e3
        have hki : (k : Int) < (N : Int) := by omega
        have hk0 : (0 : Int) ≤ (k : Int) := by omega
        obtain ⟨p, q, p6, q6, hne, hcn, hid, hx, hy, hnx, hok⟩ := UN.out k hkN
        have gx := NG.out k hkN
        have ES : Hid (mxF (-100) f (k + 1) = max (mxF (-100) f k) (f k)) := Lib.hid rfl
        have fk := FB.out k
        have HFk := Lib.hid (HF.out k)
        rw [hnx] at gx
        have C0 : Hid (∀ w', Kept wr w' → w'.cell? ⟨gg, k * 2, none⟩ = some (.int .i64 (p : Int))) := Lib.hid (fun w' hw => (GR'.out.below hw).cellX (by omega) hx)
        have C1 : Hid (∀ w', Kept wr w' → w'.cell? ⟨gg, k * 2 + 1, none⟩ = some (.int .i64 (q : Int))) := Lib.hid (fun w' hw => (GR'.out.below hw).cellX (by omega) hy)
        have R24 := gx.1
        have RV := Lib.hid gx.2
        have HNE := Lib.hid hne
        have HC := Lib.hid hcn
        obtain ⟨R, hR⟩ : ∃ R, pourT ns p q = R := ⟨_, rfl⟩
        rw [hR] at R24 RV hnx
        have HR := Lib.hid hR
        have HNX := Lib.hid hnx
        have HY := Lib.hid hy
        have HX := Lib.hid hx
        have l2 : (ints R).length = 24 := by rw [ints_len]; exact R24
        have HR24 := Lib.hid R24
        clear hne hcn hx hy hid hok hR hnx gx
        have HNXE : Hid (f k = ((cmN R : Int) - (cmN ns : Int)) - gval ptT 0 n R) := Lib.hid (by rw [← HFk.out, HNX.out]; unfold ptT; rw [HNX.out])
        have KI := Lib.hid (fun W => IHH.out R ⟨R24, RV.out⟩ W)
        have nb := gvalT_in n R
        have cb1 := cmN_le R
        have cb2 := cmN_le ns
        go_wp2_with fail
        refine wp_region_held_drew (S := fun w' => Kept wr w') (by kernel_rfl) ?_ (fun hHeld => ?_)
        · exact (kept_refl wr).drewN 1
        (refine wpAnyH_take (i := 1) (v := ?_) rfl (by kernel_rfl) (by kernel_rfl) (by kernel_rfl) (fun _ _ _ h => h) (Or.inl ⟨by rfl, ?_⟩) hHeld ?_; rotate_left; (· (intro w' hSw; go_simp; try with_reducible rfl)); (try simp only [List.getElem_toArray, List.getElem_cons_zero, List.getElem_cons_succ, Act.put, List.setIfInBounds_toArray, List.set_cons_zero, List.set_cons_succ])); (refine wpAnyH_take (i := 2) (v := ?_) rfl (by kernel_rfl) (by kernel_rfl) (by kernel_rfl) (fun _ _ _ h => h) (Or.inl ⟨by rfl, ?_⟩) hHeld ?_; rotate_left; (· (intro w' hSw; go_simp; try with_reducible rfl)); (try simp only [List.getElem_toArray, List.getElem_cons_zero, List.getElem_cons_succ, Act.put, List.setIfInBounds_toArray, List.set_cons_zero, List.set_cons_succ])); (refine wpAnyH_take (i := 3) (v := ?_) rfl (by kernel_rfl) (by kernel_rfl) (by kernel_rfl) (fun _ _ _ h => h) (Or.inl ⟨by rfl, ?_⟩) hHeld ?_; rotate_left; (· (intro w' hSw; go_simp; try with_reducible rfl)); (try simp only [List.getElem_toArray, List.getElem_cons_zero, List.getElem_cons_succ, Act.put, List.setIfInBounds_toArray, List.set_cons_zero, List.set_cons_succ]))
        (refine wpAnyH_take (i := 0) (v := _) rfl (by kernel_rfl) (by kernel_rfl) (by kernel_rfl) (fun _ _ _ h => h) (yieldsIf_load_mid (by rfl) 27 _ rfl _ _ rfl (ints ns) _ (fun w' hSw => (G1.below hSw).holds.range) Try.underlying27 rfl (hi1)) hHeld ?_; (try simp only [List.getElem_toArray, List.getElem_cons_zero, List.getElem_cons_succ, Act.put, List.setIfInBounds_toArray, List.set_cons_zero, List.set_cons_succ]))
        (refine wpAnyH_take (i := 4) (v := _) rfl (by kernel_rfl) (by kernel_rfl) (by kernel_rfl) (fun _ _ _ h => h) (yieldsIf_load_mid (by rfl) 36 _ rfl _ _ rfl (ints [(p : Int), (q : Int)]) _ (fun w' hSw => range_two (C0.out w' hSw) (C1.out w' hSw)) Try.underlying36 rfl (hi2p)) hHeld ?_; (try simp only [List.getElem_toArray, List.getElem_cons_zero, List.getElem_cons_succ, Act.put, List.setIfInBounds_toArray, List.set_cons_zero, List.set_cons_succ]))
        refine wpAnyH_ready (rs := [5, 9]) (by kernel_rfl) (by simp) ?_
        refine AllReadyH.cons (o := _) rfl (fun K hK => ?callFirst) (AllReadyH.cons (o := _) rfl (fun K hK => ?makeFirst) AllReadyH.nil)
        case' callFirst =>
          (simp only [List.getElem_toArray, List.getElem_cons_zero, List.getElem_cons_succ, Region.wanted, if_true])
          go_simp
          refine (gain_any ns p q _ C24.out CV.out p6 q6 HNE.out HC.out).mono ?_
          rintro e wp2 ⟨rfl, bp2⟩
          rw [HR.out]
          dsimp only
          (try simp only [List.getElem_toArray, List.getElem_cons_zero, List.getElem_cons_succ, Act.put, List.setIfInBounds_toArray, List.set_cons_zero, List.set_cons_succ])
          have KW := Kept.call hHeld bp2
          refine hK.out _ _ KW (fun hHeld => ?_)
          clear hK K bp2
          (refine wpAnyH_take (i := 6) (v := ?_) rfl (by kernel_rfl) (by kernel_rfl) (by kernel_rfl) (fun _ _ _ h => h) (Or.inl ⟨by rfl, ?_⟩) hHeld ?_; rotate_left; (· (intro w' hSw; go_simp; try with_reducible rfl)); (try simp only [List.getElem_toArray, List.getElem_cons_zero, List.getElem_cons_succ, Act.put, List.setIfInBounds_toArray, List.set_cons_zero, List.set_cons_succ])); (refine wpAnyH_take (i := 7) (v := ?_) rfl (by kernel_rfl) (by kernel_rfl) (by kernel_rfl) (fun _ _ _ h => h) (Or.inl ⟨by rfl, ?_⟩) hHeld ?_; rotate_left; (· (intro w' hSw; go_simp; try with_reducible rfl)); (try simp only [List.getElem_toArray, List.getElem_cons_zero, List.getElem_cons_succ, Act.put, List.setIfInBounds_toArray, List.set_cons_zero, List.set_cons_succ])); (refine wpAnyH_take (i := 8) (v := ?_) rfl (by kernel_rfl) (by kernel_rfl) (by kernel_rfl) (fun _ _ _ h => h) (Or.inl ⟨by rfl, ?_⟩) hHeld ?_; rotate_left; (· (intro w' hSw; go_simp; try with_reducible rfl)); (try simp only [List.getElem_toArray, List.getElem_cons_zero, List.getElem_cons_succ, Act.put, List.setIfInBounds_toArray, List.set_cons_zero, List.set_cons_succ]))
          (refine wpAnyH_ready (rs := [9]) (by kernel_rfl) (by simp) ?_; refine AllReadyH.cons (o := _) rfl (fun K hK => ?_) AllReadyH.nil; (simp only [List.getElem_toArray, List.getElem_cons_zero, List.getElem_cons_succ, Region.wanted, if_true]))
          go_simp
          have F9 := Has.zero24 wp2 27
          have h9 := KW.size
          replace KW := KW.alloc (.cells #[.int .i64 0, .int .i64 0, .int .i64 0, .int .i64 0, .int .i64 0, .int .i64 0, .int .i64 0, .int .i64 0, .int .i64 0, .int .i64 0, .int .i64 0, .int .i64 0, .int .i64 0, .int .i64 0, .int .i64 0, .int .i64 0, .int .i64 0, .int .i64 0, .int .i64 0, .int .i64 0, .int .i64 0, .int .i64 0, .int .i64 0, .int .i64 0] 27)
          refine hK.out _ _ KW (fun hHeld => ?_)
          clear hK K
          generalize wp2.alloc (.cells #[.int .i64 0, .int .i64 0, .int .i64 0, .int .i64 0, .int .i64 0, .int .i64 0, .int .i64 0, .int .i64 0, .int .i64 0, .int .i64 0, .int .i64 0, .int .i64 0, .int .i64 0, .int .i64 0, .int .i64 0, .int .i64 0, .int .i64 0, .int .i64 0, .int .i64 0, .int .i64 0, .int .i64 0, .int .i64 0, .int .i64 0, .int .i64 0] 27) = wp3 at *
          generalize wp2.heap.size = b9 at *
          (refine wpAnyH_take (i := 10) (v := ?_) rfl (by kernel_rfl) (by kernel_rfl) (by kernel_rfl) (fun _ _ _ h => h) (Or.inl ⟨by rfl, ?_⟩) hHeld ?_; rotate_left; (· (intro w' hSw; go_simp; try with_reducible rfl)); (try simp only [List.getElem_toArray, List.getElem_cons_zero, List.getElem_cons_succ, Act.put, List.setIfInBounds_toArray, List.set_cons_zero, List.set_cons_succ]))
        case' makeFirst =>
          (simp only [List.getElem_toArray, List.getElem_cons_zero, List.getElem_cons_succ, Region.wanted, if_true])
          go_simp
          have F9 : Has _ wr.heap.size z24 24 := Has.zero24 wr.drew 27
          have KW := Kept.alloc hHeld (.cells #[.int .i64 0, .int .i64 0, .int .i64 0, .int .i64 0, .int .i64 0, .int .i64 0, .int .i64 0, .int .i64 0, .int .i64 0, .int .i64 0, .int .i64 0, .int .i64 0, .int .i64 0, .int .i64 0, .int .i64 0, .int .i64 0, .int .i64 0, .int .i64 0, .int .i64 0, .int .i64 0, .int .i64 0, .int .i64 0, .int .i64 0, .int .i64 0] 27)
          obtain ⟨b9, hb9⟩ : ∃ b : Nat, b = wr.heap.size := ⟨_, rfl⟩
          have h9 : wr.heap.size ≤ b9 := by omega
          rw [← hb9] at F9
          refine hK.out _ _ KW (fun hHeld => ?_)
          clear hK K
          (refine wpAnyH_ready (rs := [5]) (by kernel_rfl) (by simp) ?_; refine AllReadyH.cons (o := _) rfl (fun K hK => ?_) AllReadyH.nil; (simp only [List.getElem_toArray, List.getElem_cons_zero, List.getElem_cons_succ, Region.wanted, if_true]))
          go_simp
          refine (gain_any ns p q _ C24.out CV.out p6 q6 HNE.out HC.out).mono ?_
          rintro e wp3 ⟨rfl, bp2⟩
          rw [HR.out]
          dsimp only
          (try simp only [List.getElem_toArray, List.getElem_cons_zero, List.getElem_cons_succ, Act.put, List.setIfInBounds_toArray, List.set_cons_zero, List.set_cons_succ])
          replace F9 := F9.below bp2
          replace KW := KW.call bp2
          refine hK.out _ _ KW (fun hHeld => ?_)
          clear hK K bp2
          (refine wpAnyH_take (i := 6) (v := ?_) rfl (by kernel_rfl) (by kernel_rfl) (by kernel_rfl) (fun _ _ _ h => h) (Or.inl ⟨by rfl, ?_⟩) hHeld ?_; rotate_left; (· (intro w' hSw; go_simp; try with_reducible rfl)); (try simp only [List.getElem_toArray, List.getElem_cons_zero, List.getElem_cons_succ, Act.put, List.setIfInBounds_toArray, List.set_cons_zero, List.set_cons_succ])); (refine wpAnyH_take (i := 7) (v := ?_) rfl (by kernel_rfl) (by kernel_rfl) (by kernel_rfl) (fun _ _ _ h => h) (Or.inl ⟨by rfl, ?_⟩) hHeld ?_; rotate_left; (· (intro w' hSw; go_simp; try with_reducible rfl)); (try simp only [List.getElem_toArray, List.getElem_cons_zero, List.getElem_cons_succ, Act.put, List.setIfInBounds_toArray, List.set_cons_zero, List.set_cons_succ])); (refine wpAnyH_take (i := 8) (v := ?_) rfl (by kernel_rfl) (by kernel_rfl) (by kernel_rfl) (fun _ _ _ h => h) (Or.inl ⟨by rfl, ?_⟩) hHeld ?_; rotate_left; (· (intro w' hSw; go_simp; try with_reducible rfl)); (try simp only [List.getElem_toArray, List.getElem_cons_zero, List.getElem_cons_succ, Act.put, List.setIfInBounds_toArray, List.set_cons_zero, List.set_cons_succ])); (refine wpAnyH_take (i := 10) (v := ?_) rfl (by kernel_rfl) (by kernel_rfl) (by kernel_rfl) (fun _ _ _ h => h) (Or.inl ⟨by rfl, ?_⟩) hHeld ?_; rotate_left; (· (intro w' hSw; go_simp; try with_reducible rfl)); (try simp only [List.getElem_toArray, List.getElem_cons_zero, List.getElem_cons_succ, Act.put, List.setIfInBounds_toArray, List.set_cons_zero, List.set_cons_succ]))
          rw [← hb9]
          clear hb9
        all_goals
          (refine wpAnyH_ready (rs := [11]) (by kernel_rfl) (by simp) ?_; refine AllReadyH.cons (o := _) rfl (fun K hK => ?_) AllReadyH.nil; (simp only [List.getElem_toArray, List.getElem_cons_zero, List.getElem_cons_succ, Region.wanted, if_true]))
          refine wp_store_mid _ _ _ rfl _ _ (ints R).toArray rfl rfl (by simpa [l2] using F9.there) (by simpa [l2] using hi0) (all_oneCell_toArray (ints_one _)) ?_
          (try simp only [List.getElem_toArray, List.getElem_cons_zero, List.getElem_cons_succ, Act.put, List.setIfInBounds_toArray, List.set_cons_zero, List.set_cons_succ, List.toList_toArray])
          replace F9 := F9.putAll R R24
          replace KW := KW.puts (b := b9) h9 0 (ints R)
          refine hK.out _ _ KW (fun hHeld => ?_)
          clear hK K
          refine wpAnyH_done (by kernel_rfl) ?_ _
          clear hHeld
          generalize wp3.setCells b9 0 (ints R) = wp4 at *
          replace G1 := G1.below KW
          replace GR' := Lib.hid (GR'.out.below KW)
          replace GB := Lib.hid (GB.out.call KW)
          clear KW C0 C1 h9
          go_wp2_with (refine load_has rfl 27 _ rfl _ rfl ?_ 24 ?_ _ Try.underlying27 rfl ?_ ?_; rotate_left; (· (repeat (first | (with_reducible assumption) | ((with_reducible refine Has.box _ _ ?_ ?_) <;> (first | assumption | decide)) | (with_reducible refine Has.alloc ?_ _) | ((with_reducible refine Has.putOther ?_ _ _ ?_); rotate_left; omega; skip) | ((with_reducible refine Has.below ?_ ?_); rotate_left; assumption)))); (· kernel_rfl))
          refine (KI.out _).mono ?_
          rintro e w5 ⟨rfl, b5⟩
          replace G1 := G1.below b5
          replace GR' := Lib.hid (GR'.out.below b5)
          replace GB := Lib.hid (GB.out.call b5)
          clear b5 F9 KI
          obtain ⟨u, hu⟩ : ∃ u, gval ptT 0 n R = u := ⟨_, rfl⟩
          rw [hu] at HNXE nb ⊢
          obtain ⟨ga, hga⟩ : ∃ ga, (cmN R : Int) - (cmN ns : Int) = ga := ⟨_, rfl⟩
          rw [hga] at HNXE ⊢
          have wu : IntKind.i64.wrap (ga - u) = ga - u := IntWalk.i64_in _ (by omega)
          clear hu hga
          go_wp2_with fail
          refine (l1Most_anyG _ _ _).mono ?_
          rintro e w6 ⟨rfl, rfl⟩
          rw [← HNXE.out, ← ES.out]
          go_wp2_with fail
          go_roundw
          case rel => exact ⟨k + 1, by omega, by go_num, rfl, G1, GR', GB⟩
          case measure => simp [intOf]; omega
      · obtain rfl : k = N := by omega
        go_wp2_with fail
        go_ret
        exact ⟨by rw [EE.out]; rfl, GB.out⟩
end Go.Proofs.Ytnldnjnnjfbhnab.base
