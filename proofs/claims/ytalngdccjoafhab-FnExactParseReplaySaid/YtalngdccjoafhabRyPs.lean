/-
  The text of a replay read, walked on the model's side.
-/
import Derived.Test.YtalngdccjoafhabRyPi
namespace Go.Proofs.Ytalngdccjoafhab.base
open Go.ChangeShapes Go.WideShapes Go.ChangeAt Go.RowKit
set_option linter.unusedVariables false
set_option linter.unusedSimpArgs false

theorem pwU_get (ps : List (List UInt8)) : ∀ n k, k < n → (pwU ps n).getD (k * 2) 0 = pwI (ps.getD (k + 1) []) 0 ∧ (pwU ps n).getD (k * 2 + 1) 0 = pwI (ps.getD (k + 1) []) 1
  | 0, k, h => by omega
  | n + 1, k, h => by
    rw [pwU]
    by_cases e : k = n
    · subst e
      have h0 := getD_appr (pwU ps k) [pwI (ps.getD (k + 1) []) 0, pwI (ps.getD (k + 1) []) 1] 0
      have h1 := getD_appr (pwU ps k) [pwI (ps.getD (k + 1) []) 0, pwI (ps.getD (k + 1) []) 1] 1
      rw [pwU_len] at h0 h1
      exact ⟨h0, h1⟩
    · have ih := pwU_get ps n k (by omega)
      have hl := pwU_len ps n
      rw [getD_app _ _ _ (by omega), getD_app _ _ _ (by omega)]
      exact ih
theorem dig_off {R : List Int} {ps : List (List UInt8)} {M k : Nat} (hk : k < M) (h : ¬ (0 ≤ pwI (ps.getD (k + 1) []) 0 ∧ pwI (ps.getD (k + 1) []) 0 ≤ 5 ∧ 0 ≤ pwI (ps.getD (k + 1) []) 1 ∧ pwI (ps.getD (k + 1) []) 1 ≤ 5)) : rpOk R (pwU ps M) M = false := by
  cases hr : rpOk R (pwU ps M) M with
  | false => rfl
  | true =>
    exfalso
    have OK := do_can (rp_do hr) hk
    unfold canAt at OK
    obtain ⟨e0, e1⟩ := pwU_get ps M k hk
    rw [e0, e1] at OK
    obtain ⟨p, q, ep, eq, p6, q6, _, _⟩ := pourOk_parts OK
    exact h (by omega)
theorem pr_no3 {ps : List (List UInt8)} (h : rpOk (prS ps) (pwU ps (ps.length - 1)) (ps.length - 1) = false) : prG ps = false := by unfold prG; rw [h, Bool.and_false]

set_option maxHeartbeats 3200000 in
set_option maxRecDepth 100000 in
theorem specPrs (s : ByteArray) (w : World) (hs : s.size ≤ maxLen) :
    Calls Try.prog 22 #[.string s] w (RepPost (prG (splitL 32 s.data.toList)) (prS (splitL 32 s.data.toList)) ((splitL 32 s.data.toList).length - 1) (pwU (splitL 32 s.data.toList) ((splitL 32 s.data.toList).length - 1)) w) := by
  have hsz := bytesize s
  have HB := Lib.hid ((kept_refl w).alloc (.cells z25.toArray 32))
  have Z := Ry.zero w 32
  by_cases h4 : s.size ≤ 209
  rotate_left
  · have E : Hid (prG (splitL 32 s.data.toList) = false) := Lib.hid (by
      cases h : prG (splitL 32 s.data.toList) with
      | false => rfl
      | true => exact absurd (prG_len h) (by rw [← hsz]; omega))
    have g4 : (209 : Int) < (s.size : Int) := by omega
    go_enter Try.func22, Try.ntmps22
    go_upto_region 1 with fail
    try rw [cells25C]
    generalize w.alloc (.cells z25.toArray 32) = W at *
    have GB := HB
    clear hsz
    have S1 := Lib.hid (Z.putAll z24 (.slice none 0 0) rfl)
    have S2 := Lib.hid (GB.out.puts (b := w.heap.size) (Nat.le_refl _) 0 (rpC z24 (.slice none 0 0)))
    go_wp2_with (first | (refine guardY (isBdY 32) ?_ ?_; (· rfl); refine build_law rfl 32 rfl _ buildRpZ ?_) | (refine guardY (isStY 32) ?_ ?_; (· rfl); refine store_ry rfl 32 _ _ rfl (w.heap.size) rfl z24 (.slice none 0 0) rfl _ _ _ Z rfl rfl ?_ ?_; (· kernel_rfl)))
    exact bodyPost_ret (res_ry1 rfl _ _ (w.heap.size) z24 _ _ _ (.bool false) rfl rfl S1.out Try.underlying32 rfl (by kernel_rfl)) rfl ⟨.slice none 0 0, by rw [E.out]; rfl, by rw [E.out]; exact Rw.nil _ _, S2.out⟩
  have HS := Lib.hid (fun W => l1Split_any s 32 32 rfl W (by omega))
  have NE := Lib.hid (splitL_ne 32 s.data.toList)
  have CN := split_count 32 s.data.toList
  have HH := head_len 32 s.data.toList
  rw [← hsz] at CN HH
  clear hsz
  have g4 : ¬ (209 : Int) < (s.size : Int) := by omega
  have g5 : decide ((209 : Int) < (s.size : Int)) = false := decide_eq_false g4
  have g6 : ¬ 209 < s.size := by omega
  generalize splitL 32 s.data.toList = ps at *
  obtain ⟨M, hM⟩ : ∃ M, ps.length = M + 1 := ⟨ps.length - 1, by have := List.length_pos_iff.2 NE.out; omega⟩
  have hM1 : ps.length - 1 = M := by omega
  rw [hM1]
  go_enter Try.func22, Try.ntmps22
  go_upto_region 1 with fail
  try rw [cells25C]
  generalize w.alloc (.cells z25.toArray 32) = W at *
  go_wp2_with fail
  refine (HS.out _).mono ?_
  rintro e wL ⟨v, rfl, q1, b1⟩
  replace Z := Z.below b1
  replace HB := Lib.hid (HB.out.call b1)
  rw [hM] at q1
  obtain ⟨gw, wcap, rfl⟩ := row_succ q1
  have hgw := (World.ownsRow.lt q1 gw rfl).2
  have WD := Lib.hid (fun wr (K : Kept wL wr) k (hk : k < M + 1) => word_at q1 hgw hM K k hk)
  have ww0 := WD.out wL (kept_refl wL) 0 (by omega)
  obtain ⟨p0, hp0⟩ : ∃ p0, ps.getD 0 [] = p0 := ⟨_, rfl⟩
  rw [hp0] at ww0
  have hm1 : (0 : Int) < (M : Int) + 1 := by omega
  have hmz : (0 : Int) ≤ (M : Int) + 1 := by omega
  have hm2 : 0 < M + 1 := by omega
  rw [hp0] at HH
  have KPA := Lib.hid (fun W => l2Parse_any (mk p0) W (by rw [mk_size]; unfold maxLen at *; omega))
  rw [mk_list] at KPA
  have hpl := parseA_len p0
  have PI : Hid (okR p0 = true → parseA p0 = prS ps) := Lib.hid (fun h => by unfold prS; rw [hp0]; exact parse_is h)
  have NO1 := Lib.hid (fun h => pr_no1 (ps := ps) h)
  have YE1 := Lib.hid (fun h => pr_yes (ps := ps) h)
  rw [hp0] at NO1 YE1
  have hm7 : M + 1 ≤ 4001 := by omega
  clear q1 b1 HS CN
  go_wp2_with fail
  refine (KPA.out _).mono ?_
  rintro e w2 ⟨rfl, b2⟩
  have KL := Lib.hid (Kept.alloc b2 (.cells (ints (parseA p0)).toArray 30))
  have D5 := Has.box w2 30 hpl (by omega)
  have hw2 : wL.heap.size ≤ w2.heap.size := b2.size
  have hZL : w.heap.size < wL.heap.size := Z.lt
  clear b2 KPA
  obtain ⟨ob, hob⟩ : ∃ ob, okR p0 = ob := ⟨_, rfl⟩
  rw [hob] at PI NO1 YE1 ⊢
  obtain ⟨R, hRR⟩ : ∃ R, parseA p0 = R := ⟨_, rfl⟩
  rw [hRR] at PI hpl KL D5 ⊢
  clear hRR ww0 HH hob
  have h24 := hpl
  obtain ⟨b6, hb6⟩ : ∃ x, w2.heap.size = x := ⟨_, rfl⟩
  go_upto_region 5 with (refine guardY (isStY 30) ?_ ?_; (· rfl); refine store_new rfl 30 _ _ rfl _ _ _ rfl b6 hb6.symm R rfl rfl ?_ ?_ ?_; (· exact h24); (· kernel_rfl))
  have hs6 : (w2.alloc (.cells (ints R).toArray 30)).heap.size = b6 + 1 := by rw [size1, hb6]
  rw [hb6] at D5 hw2
  generalize w2.alloc (.cells (ints R).toArray 30) = W6 at *
  clear hb6
  have P0 := prs_none W6 W6.heap.size (Nat.le_refl _)
  have C0 := (Ry.box (v := .slice (some ⟨b6 + 1, 0, none⟩) 0 0) (W6.alloc (.cells #[] 51)) 32 h24).at (q := b6 + 2) (by rw [size1, hs6])
  have P1 : Hid (Prs ((W6.alloc (.cells #[] 51)).alloc (.cells (rpC R (.slice (some ⟨b6 + 1, 0, none⟩) 0 0)).toArray 32)) (b6 + 1) (.slice (some ⟨b6 + 1, 0, none⟩) 0 0) 0 []) := Lib.hid (by rw [hs6] at P0; exact World.ownsRow.alloc P0 _)
  have hs7 : (W6.alloc (.cells #[] 51)).heap.size = b6 + 2 := by rw [size1, hs6]
  replace KL := Lib.hid ((KL.out.alloc (.cells #[] 51)).alloc (.cells (rpC R (.slice (some ⟨b6 + 1, 0, none⟩) 0 0)).toArray 32))
  go_upto_region 6 with (first | (refine guardY (isLdY 30) ?_ ?_; (· rfl); refine load_has rfl 30 _ rfl b6 rfl R 24 D5 _ Try.underlying30 rfl ?_ ?_; (· kernel_rfl)) | (refine slice0Di rfl 26 51 rfl Try.underlying26 (by kernel_rfl) ?_) | (refine guardY (isBdY 32) ?_ ?_; (· rfl); refine build_rp rfl 32 _ _ rfl _ _ _ rfl rfl (buildRp R _ 0 0 h24) ?_) | (refine guardY (isStY 32) ?_ ?_; (· rfl); refine store_newry rfl 32 _ _ rfl _ _ _ rfl (b6 + 2) hs7.symm R (.slice (some ⟨b6 + 1, 0, none⟩) 0 0) rfl rfl rfl h24 rfl ?_ ?_; (· kernel_rfl)))
  generalize (W6.alloc (.cells #[] 51)).alloc (.cells (rpC R (.slice (some ⟨b6 + 1, 0, none⟩) 0 0)).toArray 32) = W7 at *
  clear P0 D5 hs6 hs7
  have NE0 : Hid (∀ z, (Value.slice (some ⟨b6 + 1, 0, none⟩) 0 0).ownBlock = some z → z ≠ b6 + 2) := Lib.hid (fun z hz => by have := Option.some.inj (show some (b6 + 1) = some z from hz); omega)
  go_wp2_with fail
  go_loopw [6, 8] (fun o i wr => ∃ (k N : Nat) (okb : Bool) (va : Option Addr) (vc : Nat) (F : List Int), k ≤ M ∧ i = .int .i64 ((k : Int) + 1) ∧ o = .bool okb ∧ Ry wr (b6 + 2) R (.slice va N vc) 32 ∧ Hid (Prs wr (b6 + 1) (.slice va N vc) N F) ∧ Hid (∀ z, (Value.slice va N vc).ownBlock = some z → z ≠ b6 + 2) ∧ Hid (okb = true → N = k ∧ F = pwU ps k ∧ twoS ps k = true ∧ ob = true) ∧ Hid (okb = false → prG ps = false) ∧ Hid (Kept wL wr)) (fun o i _ => M + 1 - (intOf i).toNat)
  case atStart => exact ⟨0, 0, ob, some ⟨b6 + 1, 0, none⟩, 0, [], by omega, by simp, rfl, C0, P1, NE0, Lib.hid (fun h => ⟨rfl, rfl, two_zero ps, h⟩), Lib.hid (fun h => NO1.out h), KL⟩
  case round =>
    clear C0 P1 NE0 KL
    obtain ⟨k, N, okb, va, vc, F, hk, rfl, rfl, C, GP, NE, TK, NK, KL⟩ := hrel
    cases okb with
    | false =>
      have E := Lib.hid (NK.out rfl)
      have GB := Lib.hid (HB.out.call KL.out)
      replace Z := Z.below KL.out
      clear TK NK GP NE WD YE1 NO1 PI KL
      by_cases hlt : k < M
      · have ki : (k : Int) + 1 < (M : Int) + 1 := by omega
        have ki2 : (k : Int) < (M : Int) := by omega
        have S1 := Lib.hid (Z.putAll z24 (.slice none 0 0) rfl)
        have S2 := Lib.hid (GB.out.puts (b := w.heap.size) (Nat.le_refl _) 0 (rpC z24 (.slice none 0 0)))
        go_wp2_with (first | (refine guardY (isBdY 32) ?_ ?_; (· rfl); refine build_law rfl 32 rfl _ buildRpZ ?_) | (refine guardY (isStY 32) ?_ ?_; (· rfl); refine store_ry rfl 32 _ _ rfl (w.heap.size) rfl z24 (.slice none 0 0) rfl _ _ _ Z rfl rfl ?_ ?_; (· kernel_rfl)))
        exact bodyPost_ret (res_ry1 rfl _ _ (w.heap.size) z24 _ _ _ (.bool false) rfl rfl S1.out Try.underlying32 rfl (by kernel_rfl)) rfl ⟨.slice none 0 0, by rw [E.out]; rfl, by rw [E.out]; exact Rw.nil _ _, S2.out⟩
      · obtain rfl : k = M := by omega
        have hnn : decide ((k : Int) < (k : Int)) = false := by simp
        have S1 := Lib.hid (Z.putAll z24 (.slice none 0 0) rfl)
        have S2 := Lib.hid (GB.out.puts (b := w.heap.size) (Nat.le_refl _) 0 (rpC z24 (.slice none 0 0)))
        go_wp2_with (first | (refine guardY (isBdY 32) ?_ ?_; (· rfl); refine build_law rfl 32 rfl _ buildRpZ ?_) | (refine guardY (isStY 32) ?_ ?_; (· rfl); refine store_ry rfl 32 _ _ rfl (w.heap.size) rfl z24 (.slice none 0 0) rfl _ _ _ Z rfl rfl ?_ ?_; (· kernel_rfl)))
        exact bodyPost_ret (res_ry1 rfl _ _ (w.heap.size) z24 _ _ _ (.bool false) rfl rfl S1.out Try.underlying32 rfl (by kernel_rfl)) rfl ⟨.slice none 0 0, by rw [E.out]; rfl, by rw [E.out]; exact Rw.nil _ _, S2.out⟩
    | true =>
      obtain ⟨rfl, rfl, T2, hob⟩ := TK.out rfl
      subst hob
      have eR := Lib.hid (PI.out rfl)
      by_cases hlt : N < M
      · have ki : (N : Int) + 1 < (M : Int) + 1 := by omega
        have ki2 : (N : Int) < (M : Int) := by omega
        have k0 : (0 : Int) ≤ (N : Int) + 1 := by omega
        have cw : wr.cell? ⟨gw, N + 1, none⟩ = some (.string (mk (ps.getD (N + 1) []))) := WD.out wr KL.out (N + 1) (by omega)
        have SU : Hid (pwU ps (N + 1) = pwU ps N ++ [pwI (ps.getD (N + 1) []) 0, pwI (ps.getD (N + 1) []) 1]) := Lib.hid rfl
        have TN := Lib.hid (fun h => two_next T2 (k := N) h)
        have TO := Lib.hid (fun h => two_off (ps := ps) hlt h)
        have DG := Lib.hid (fun h => dig_off (R := R) (ps := ps) hlt h)
        have P3 : Hid (rpOk R (pwU ps M) M = false → prG ps = false) := Lib.hid (fun h => pr_no3 (by rw [hM1, ← eR.out]; exact h))
        obtain ⟨p, hp⟩ : ∃ p, ps.getD (N + 1) [] = p := ⟨_, rfl⟩
        rw [hp] at cw SU TN TO DG
        have P2 : Hid (¬ p.length = 2 → prG ps = false) := Lib.hid (fun h => pr_no2 (by rw [hM1]; exact TO.out h))
        clear hp TO TK NK
        have MS := Lib.hid (mk_size p)
        have ML := mk_list p
        obtain ⟨X, hX⟩ : ∃ X, mk p = X := ⟨_, rfl⟩
        rw [hX] at cw MS ML
        clear hX
        have w0 := WD
        by_cases h2 : p.length = 2
        rotate_left
        · have EF := Lib.hid (P2.out h2)
          have q2 : ((X.size : Int) == 2) = false := by rw [beq_eq_false_iff_ne]; rw [MS.out]; omega
          have q3 : ¬ X.size = 2 := by rw [MS.out]; exact h2
          clear DG P2 P3 TN SU h2 MS ML w0
          go_wp2_with fail
          (try simp only [List.getElem_toArray, List.getElem_cons_zero, List.getElem_cons_succ, Act.put, List.setIfInBounds_toArray, List.set_cons_zero, List.set_cons_succ])
          go_roundw
          case rel => exact ⟨N + 1, N, false, va, vc, pwU ps N, by omega, by go_num, rfl, C, GP, NE, Lib.hid (fun h => by cases h), Lib.hid (fun _ => EF.out), KL⟩
          case measure => simp [intOf]; omega
        have hx2 : X.size = 2 := by rw [MS.out]; exact h2
        have q2 : ((X.size : Int) == 2) = true := by rw [hx2]; rfl
        have hb0 := dat_at X 0 (by omega)
        have hb1 := dat_at X 1 (by omega)
        rw [ML] at hb0 hb1
        have e0 : pwI p 0 = (X[0].toNat : Int) - 48 := by unfold pwI; rw [hb0]
        have e1 : pwI p 1 = (X[1].toNat : Int) - 48 := by unfold pwI; rw [hb1]
        rw [e0, e1] at DG SU
        have l0 := UInt8.toNat_lt X[0]
        have l1 := UInt8.toNat_lt X[1]
        have TT := Lib.hid (TN.out h2)
        have hs0 : (0 : Int) < (X.size : Int) := by omega
        have hs1 : (1 : Int) < (X.size : Int) := by omega
        have hs2 : 0 < X.size := by omega
        have hs3 : 1 < X.size := by omega
        have wr0 : IntKind.i64.wrap ((X[0].toNat : Int)) = (X[0].toNat : Int) := IntWalk.i64_in _ (by omega)
        have wr1 : IntKind.i64.wrap ((X[1].toNat : Int)) = (X[1].toNat : Int) := IntWalk.i64_in _ (by omega)
        clear hb0 hb1 e0 e1 TN MS ML h2 P2 w0
        go_wp2_with fail
        refine (l1In_any _ _ _ _).mono ?_
        rintro e w' ⟨rfl, rfl⟩
        by_cases hd0 : (48 : Int) ≤ (X[0].toNat : Int) ∧ (X[0].toNat : Int) ≤ 53
        rotate_left
        · have EF := Lib.hid (P3.out (DG.out (fun h => hd0 (by omega))))
          rw [decide_eq_false hd0]
          clear DG P3 SU TT cw hd0
          go_wp2_with fail
          (try simp only [List.getElem_toArray, List.getElem_cons_zero, List.getElem_cons_succ, Act.put, List.setIfInBounds_toArray, List.set_cons_zero, List.set_cons_succ])
          go_roundw
          case rel => exact ⟨N + 1, N, false, va, vc, pwU ps N, by omega, by go_num, rfl, C, GP, NE, Lib.hid (fun h => by cases h), Lib.hid (fun _ => EF.out), KL⟩
          case measure => simp [intOf]; omega
        rw [decide_eq_true hd0]
        go_wp2_with fail
        refine (l1In_any _ _ _ _).mono ?_
        rintro e w' ⟨rfl, rfl⟩
        by_cases hd1 : (48 : Int) ≤ (X[1].toNat : Int) ∧ (X[1].toNat : Int) ≤ 53
        rotate_left
        · have EF := Lib.hid (P3.out (DG.out (fun h => hd1 (by omega))))
          rw [decide_eq_false hd1]
          clear DG P3 SU TT cw hd0 hd1
          go_wp2_with fail
          (try simp only [List.getElem_toArray, List.getElem_cons_zero, List.getElem_cons_succ, Act.put, List.setIfInBounds_toArray, List.set_cons_zero, List.set_cons_succ])
          go_roundw
          case rel => exact ⟨N + 1, N, false, va, vc, pwU ps N, by omega, by go_num, rfl, C, GP, NE, Lib.hid (fun h => by cases h), Lib.hid (fun _ => EF.out), KL⟩
          case measure => simp [intOf]; omega
        rw [decide_eq_true hd1]
        have wru0 : IntKind.u8.wrap ((X[0].toNat : Int) - 48) = (X[0].toNat : Int) - 48 := IntWalk.u8_in _ (by omega)
        have wru1 : IntKind.u8.wrap ((X[1].toNat : Int) - 48) = (X[1].toNat : Int) - 48 := IntWalk.u8_in _ (by omega)
        have wr2 : IntKind.i64.wrap ((X[0].toNat : Int) - 48) = (X[0].toNat : Int) - 48 := IntWalk.i64_in _ (by omega)
        have wr3 : IntKind.i64.wrap ((X[1].toNat : Int) - 48) = (X[1].toNat : Int) - 48 := IntWalk.i64_in _ (by omega)
        clear DG P3
        go_wp2_with fail
        clear cw
        have KD : Kept wr wr.drew := (kept_refl wr).drewN 1
        replace C := C.below KD
        replace GP := Lib.hid (GP.out.belowDi KD)
        replace KL := Lib.hid (KL.out.call KD)
        clear KD
        refine wp_region_held_drew (S := fun _ => True) (by kernel_rfl) trivial (fun hHeld => ?_)
        generalize wr.drew = wd at *
        (refine wpAnyH_take (i := 0) (v := ?_) rfl (by kernel_rfl) (by kernel_rfl) (by kernel_rfl) (fun _ _ _ h => h) (Or.inl ⟨by rfl, ?_⟩) hHeld ?_; rotate_left; (· (intro w' hSw; go_simp; try with_reducible rfl)); (try simp only [List.getElem_toArray, List.getElem_cons_zero, List.getElem_cons_succ, Act.put, List.setIfInBounds_toArray, List.set_cons_zero, List.set_cons_succ])); (refine wpAnyH_take (i := 2) (v := ?_) rfl (by kernel_rfl) (by kernel_rfl) (by kernel_rfl) (fun _ _ _ h => h) (Or.inl ⟨by rfl, ?_⟩) hHeld ?_; rotate_left; (· (intro w' hSw; go_simp; try with_reducible rfl)); (try simp only [List.getElem_toArray, List.getElem_cons_zero, List.getElem_cons_succ, Act.put, List.setIfInBounds_toArray, List.set_cons_zero, List.set_cons_succ])); (refine wpAnyH_take (i := 3) (v := ?_) rfl (by kernel_rfl) (by kernel_rfl) (by kernel_rfl) (fun _ _ _ h => h) (Or.inl ⟨by rfl, ?_⟩) hHeld ?_; rotate_left; (· (intro w' hSw; go_simp; try with_reducible rfl)); (try simp only [List.getElem_toArray, List.getElem_cons_zero, List.getElem_cons_succ, Act.put, List.setIfInBounds_toArray, List.set_cons_zero, List.set_cons_succ])); (refine wpAnyH_take (i := 4) (v := ?_) rfl (by kernel_rfl) (by kernel_rfl) (by kernel_rfl) (fun _ _ _ h => h) (Or.inl ⟨by rfl, ?_⟩) hHeld ?_; rotate_left; (· (intro w' hSw; go_simp; try with_reducible rfl)); (try simp only [List.getElem_toArray, List.getElem_cons_zero, List.getElem_cons_succ, Act.put, List.setIfInBounds_toArray, List.set_cons_zero, List.set_cons_succ])); (refine wpAnyH_take (i := 5) (v := ?_) rfl (by kernel_rfl) (by kernel_rfl) (by kernel_rfl) (fun _ _ _ h => h) (Or.inl ⟨by rfl, ?_⟩) hHeld ?_; rotate_left; (· (intro w' hSw; go_simp; try with_reducible rfl)); (try simp only [List.getElem_toArray, List.getElem_cons_zero, List.getElem_cons_succ, Act.put, List.setIfInBounds_toArray, List.set_cons_zero, List.set_cons_succ])); (refine wpAnyH_take (i := 6) (v := ?_) rfl (by kernel_rfl) (by kernel_rfl) (by kernel_rfl) (fun _ _ _ h => h) (Or.inl ⟨by rfl, ?_⟩) hHeld ?_; rotate_left; (· (intro w' hSw; go_simp; try with_reducible rfl)); (try simp only [List.getElem_toArray, List.getElem_cons_zero, List.getElem_cons_succ, Act.put, List.setIfInBounds_toArray, List.set_cons_zero, List.set_cons_succ])); (refine wpAnyH_take (i := 7) (v := ?_) rfl (by kernel_rfl) (by kernel_rfl) (by kernel_rfl) (fun _ _ _ h => h) (Or.inl ⟨by rfl, ?_⟩) hHeld ?_; rotate_left; (· (intro w' hSw; go_simp; try with_reducible rfl)); (try simp only [List.getElem_toArray, List.getElem_cons_zero, List.getElem_cons_succ, Act.put, List.setIfInBounds_toArray, List.set_cons_zero, List.set_cons_succ])); (refine wpAnyH_take (i := 8) (v := ?_) rfl (by kernel_rfl) (by kernel_rfl) (by kernel_rfl) (fun _ _ _ h => h) (Or.inl ⟨by rfl, ?_⟩) hHeld ?_; rotate_left; (· (intro w' hSw; go_simp; try with_reducible rfl)); (try simp only [List.getElem_toArray, List.getElem_cons_zero, List.getElem_cons_succ, Act.put, List.setIfInBounds_toArray, List.set_cons_zero, List.set_cons_succ])); (refine wpAnyH_take (i := 9) (v := ?_) rfl (by kernel_rfl) (by kernel_rfl) (by kernel_rfl) (fun _ _ _ h => h) (Or.inl ⟨by rfl, ?_⟩) hHeld ?_; rotate_left; (· (intro w' hSw; go_simp; try with_reducible rfl)); (try simp only [List.getElem_toArray, List.getElem_cons_zero, List.getElem_cons_succ, Act.put, List.setIfInBounds_toArray, List.set_cons_zero, List.set_cons_succ])); (refine wpAnyH_take (i := 10) (v := ?_) rfl (by kernel_rfl) (by kernel_rfl) (by kernel_rfl) (fun _ _ _ h => h) (Or.inl ⟨by rfl, ?_⟩) hHeld ?_; rotate_left; (· (intro w' hSw; go_simp; try with_reducible rfl)); (try simp only [List.getElem_toArray, List.getElem_cons_zero, List.getElem_cons_succ, Act.put, List.setIfInBounds_toArray, List.set_cons_zero, List.set_cons_succ]))
        refine wpAnyH_ready (rs := [1, 11]) (by kernel_rfl) (by simp) ?_
        refine AllReadyH.cons (o := _) rfl (fun K hK => ?loadFirst) (AllReadyH.cons (o := _) rfl (fun K hK => ?buildFirst) AllReadyH.nil)
        case' loadFirst =>
          (simp only [List.getElem_toArray, List.getElem_cons_zero, List.getElem_cons_succ, Region.wanted, if_true])
          have c24 := C.pours
          go_simp
          refine hK.out _ _ trivial (fun hHeld => ?_)
          clear hK K c24
          (refine wpAnyH_ready (rs := [11]) (by kernel_rfl) (by simp) ?_; refine AllReadyH.cons (o := _) rfl (fun K hK => ?_) AllReadyH.nil; (simp only [List.getElem_toArray, List.getElem_cons_zero, List.getElem_cons_succ, Region.wanted, if_true]))
          refine wp_slice1 26 51 _ rfl 2 16 Try.underlying26 (by kernel_rfl) (by omega) (by omega) [(X[0].toNat : Int) - 48, (X[1].toNat : Int) - 48] rfl rfl ?_
          refine hK.out _ _ trivial (fun hHeld => ?_)
          clear hK K
          (try simp only [List.getElem_toArray, List.getElem_cons_zero, List.getElem_cons_succ, Act.put, List.setIfInBounds_toArray, List.set_cons_zero, List.set_cons_succ])
          have C2 := C.alloc (.cells (ints [(X[0].toNat : Int) - 48, (X[1].toNat : Int) - 48]).toArray 51)
          have Q2 := Prs.allocDi GP.out (.cells (ints [(X[0].toNat : Int) - 48, (X[1].toNat : Int) - 48]).toArray 51)
        case' buildFirst =>
          (simp only [List.getElem_toArray, List.getElem_cons_zero, List.getElem_cons_succ, Region.wanted, if_true])
          refine wp_slice1 26 51 _ rfl 2 16 Try.underlying26 (by kernel_rfl) (by omega) (by omega) [(X[0].toNat : Int) - 48, (X[1].toNat : Int) - 48] rfl rfl ?_
          refine hK.out _ _ trivial (fun hHeld => ?_)
          clear hK K
          (try simp only [List.getElem_toArray, List.getElem_cons_zero, List.getElem_cons_succ, Act.put, List.setIfInBounds_toArray, List.set_cons_zero, List.set_cons_succ])
          have C2 := C.alloc (.cells (ints [(X[0].toNat : Int) - 48, (X[1].toNat : Int) - 48]).toArray 51)
          have Q2 := Prs.allocDi GP.out (.cells (ints [(X[0].toNat : Int) - 48, (X[1].toNat : Int) - 48]).toArray 51)
          (refine wpAnyH_ready (rs := [1]) (by kernel_rfl) (by simp) ?_; refine AllReadyH.cons (o := _) rfl (fun K hK => ?_) AllReadyH.nil; (simp only [List.getElem_toArray, List.getElem_cons_zero, List.getElem_cons_succ, Region.wanted, if_true]))
          have c24 := C2.pours
          go_simp
          refine hK.out _ _ trivial (fun hHeld => ?_)
          clear hK K c24
        all_goals
          have hcs : some (b6 + 2) ≠ (Value.slice va N vc).ownBlock := fun e => NE.out _ e.symm rfl
          have own0 := Lib.hid (fun z hz => (World.ownsRow.lt GP.out z hz))
          have clt := C.lt
          have sz8 := size1 wd (.cells (ints [(X[0].toNat : Int) - 48, (X[1].toNat : Int) - 48]).toArray 51)
          (refine wpAnyH_ready (rs := [12]) (by kernel_rfl) (by simp) ?_; refine AllReadyH.cons (o := _) rfl (fun K hK => ?_) AllReadyH.nil; (simp only [List.getElem_toArray, List.getElem_cons_zero, List.getElem_cons_succ, Region.wanted, if_true]))
          refine wp_append_prs _ _ rfl (b6 + 1) _ N (pwU ps N) rfl Q2 (some ⟨wd.heap.size, 0, none⟩) 1 1 rfl [(X[0].toNat : Int) - 48, (X[1].toNat : Int) - 48] rfl (from_new wd _ _ _) (by rw [size1]; omega) (by omega) ?_
          intro v' w9 hP hgrow hlie
          obtain ⟨va', vc', rfl⟩ := hP.rw.shape
          have C3 := C2.grown hgrow hcs
          have c24' := C3.pours
          have f24' := C3.free 24
          refine hK.out _ _ trivial (fun hHeld => ?_)
          clear hK K
          (try simp only [List.getElem_toArray, List.getElem_cons_zero, List.getElem_cons_succ, Act.put, List.setIfInBounds_toArray, List.set_cons_zero, List.set_cons_succ])
          (refine wpAnyH_take (i := 13) (v := ?_) rfl (by kernel_rfl) (by kernel_rfl) (by kernel_rfl) (fun _ _ _ h => h) (Or.inl ⟨by rfl, ?_⟩) hHeld ?_; rotate_left; (· (intro w' hSw; go_simp; try with_reducible rfl)); (try simp only [List.getElem_toArray, List.getElem_cons_zero, List.getElem_cons_succ, Act.put, List.setIfInBounds_toArray, List.set_cons_zero, List.set_cons_succ]))
          (refine wpAnyH_ready (rs := [14]) (by kernel_rfl) (by simp) ?_; refine AllReadyH.cons (o := _) rfl (fun K hK => ?_) AllReadyH.nil; (simp only [List.getElem_toArray, List.getElem_cons_zero, List.getElem_cons_succ, Region.wanted, if_true]))
          go_simp
          refine hK.out _ _ trivial (fun hHeld => ?_)
          clear hK K
          refine wpAnyH_done (by kernel_rfl) ?_ _
          have NE3 : Hid (∀ z, (Value.slice va' (N + 1) vc').ownBlock = some z → z ≠ b6 + 2) := Lib.hid (fun z hz => by
            rcases hlie with h3 | h3
            · exact NE.out z (h3.symm.trans hz)
            · have h4 := Option.some.inj (h3.symm.trans hz); omega)
          have KL3 : Hid (Kept wL w9) := Lib.hid ((KL.out.alloc (.cells (ints [(X[0].toNat : Int) - 48, (X[1].toNat : Int) - 48]).toArray 51)).grown hgrow (by rw [size1]; have := KL.out.size; omega) (fun z hz => by have := (own0.out z hz).1; omega))
          have P9 := Lib.hid hP
          have C4 := C3.setPours (.slice va' (N + 1) vc')
          have P4 : Hid (Prs (w9.setCell ⟨b6 + 2, 24, none⟩ (.slice va' (N + 1) vc')) (b6 + 1) (.slice va' (N + 1) vc') (N + 1) (pwU ps (N + 1))) := Lib.hid (by rw [SU.out]; exact P9.out.putsY (b6 + 2) 24 [.slice va' (N + 1) vc'] (fun z hz => NE3.out z hz))
          have KL4 := Lib.hid (KL3.out.set (b := b6 + 2) (by omega) 24 (.slice va' (N + 1) vc'))
          clear hP hgrow hlie Q2 GP C C2 C3 NE c24' f24' own0 KL KL3 P9
          generalize World.setCell w9 ⟨b6 + 2, 24, none⟩ (.slice va' (N + 1) vc') = W9 at *
          go_wp2_with fail
          (try simp only [List.getElem_toArray, List.getElem_cons_zero, List.getElem_cons_succ, Act.put, List.setIfInBounds_toArray, List.set_cons_zero, List.set_cons_succ])
          go_roundw
          case rel => exact ⟨N + 1, N + 1, true, va', vc', pwU ps (N + 1), by omega, by go_num, rfl, C4, P4, NE3, Lib.hid (fun _ => ⟨rfl, rfl, TT.out, by trivial⟩), Lib.hid (fun h => by cases h), KL4⟩
          case measure => simp [intOf]; omega
      · obtain rfl : N = M := by omega
        have hnn : decide ((N : Int) < (N : Int)) = false := by simp
        have EQ := Lib.hid (YE1.out rfl (by rw [hM1]; exact T2))
        rw [hM1, ← eR.out] at EQ
        have HRS := eR
        have Q := Lib.hid (GP.out.rw.mono (b' := 0) (Nat.zero_le _))
        have own := Lib.hid (fun z hz => (World.ownsRow.lt GP.out z hz).1)
        have GB := Lib.hid (HB.out.call KL.out)
        replace Z := Z.below KL.out
        clear TK NK WD YE1 NO1 PI eR
        go_wp2_with (refine guardY (isLdY 32) ?_ ?_; (· rfl); refine load_ry rfl 32 _ rfl (b6 + 2) rfl _ _ _ C _ Try.underlying32 rfl ?_ ?_; (· kernel_rfl))
        refine (specIsReplay R (pwU ps N) _ N 0 _ h24 (by omega) Q.out).mono ?_
        rintro e w9 ⟨rfl, b9⟩
        replace C := C.below b9
        replace Z := Z.below b9
        replace GB := Lib.hid (GB.out.call b9)
        replace GP := Lib.hid (GP.out.belowDi b9)
        clear b9 KL Q
        cases hok : rpOk R (pwU ps N) N with
        | false =>
          have E := Lib.hid (EQ.out.trans hok)
          clear hok EQ
          have S1 := Lib.hid (Z.putAll z24 (.slice none 0 0) rfl)
          have S2 := Lib.hid (GB.out.puts (b := w.heap.size) (Nat.le_refl _) 0 (rpC z24 (.slice none 0 0)))
          go_wp2_with (first | (refine guardY (isBdY 32) ?_ ?_; (· rfl); refine build_law rfl 32 rfl _ buildRpZ ?_) | (refine guardY (isStY 32) ?_ ?_; (· rfl); refine store_ry rfl 32 _ _ rfl (w.heap.size) rfl z24 (.slice none 0 0) rfl _ _ _ Z rfl rfl ?_ ?_; (· kernel_rfl)))
          exact bodyPost_ret (res_ry1 rfl _ _ (w.heap.size) z24 _ _ _ (.bool false) rfl rfl S1.out Try.underlying32 rfl (by kernel_rfl)) rfl ⟨.slice none 0 0, by rw [E.out]; rfl, by rw [E.out]; exact Rw.nil _ _, S2.out⟩
        | true =>
          have E := Lib.hid (EQ.out.trans hok)
          have S1 := Lib.hid (Z.putAll R (.slice va N vc) h24)
          have S2 := Lib.hid (GB.out.puts (b := w.heap.size) (Nat.le_refl _) 0 (rpC R (.slice va N vc)))
          have S3 := Lib.hid ((GP.out.rw.puts (w.heap.size) 0 (rpC R (.slice va N vc)) (fun _ e => by have := own.out _ e; omega)).mono (show w.heap.size ≤ b6 + 1 by omega))
          clear hok EQ
          go_wp2_with (first | (refine guardY (isLdY 32) ?_ ?_; (· rfl); refine load_ry rfl 32 _ rfl (b6 + 2) rfl _ _ _ C _ Try.underlying32 rfl ?_ ?_; (· kernel_rfl)) | (refine guardY (isStY 32) ?_ ?_; (· rfl); refine store_ry rfl 32 _ _ rfl (w.heap.size) rfl R (.slice va N vc) rfl _ _ _ Z h24 rfl ?_ ?_; (· kernel_rfl)))
          exact bodyPost_ret (res_ry1 rfl _ _ (w.heap.size) R _ _ _ (.bool true) rfl rfl S1.out Try.underlying32 rfl (by kernel_rfl)) rfl ⟨_, by rw [E.out, ← HRS.out]; rfl, by rw [E.out]; exact S3.out, S2.out⟩
end Go.Proofs.Ytalngdccjoafhab.base
