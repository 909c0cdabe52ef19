/-
  The text of a replay read, walked on the program's side.
-/
import Derived.Test.YtalngdccjoafhabRyPm
namespace Go.Proofs.Ytalngdccjoafhab.base
open Go.ChangeShapes Go.WideShapes Go.ChangeAt Go.RowKit
set_option linter.unusedVariables false
set_option linter.unusedSimpArgs false

theorem word_at {wL wr : World} {gw M cap B : Nat} {ps : List (List UInt8)} (q : wL.ownsRow B 9 1 (.slice (some ⟨gw, 0, none⟩) M cap) M (ps.map strV)) (hg : gw < wL.heap.size) (hM : ps.length = M) (K : Kept wL wr) (k : Nat) (hk : k < M) : wr.cell? ⟨gw, k, none⟩ = some (.string (mk (ps.getD k []))) := by
  have h1 := World.ownsRow.cellAt q k (by omega)
  have hb := K.block gw hg
  rw [World.cell?_of_block (w' := wr) (w := wL) (a := ⟨gw, k, none⟩) hb, h1, List.getElem?_map, List.getD_eq_getElem?_getD, List.getElem?_eq_getElem (by omega)]
  rfl

theorem head_len (b : UInt8) (l : List UInt8) : ((splitL b l).getD 0 []).length ≤ l.length := by
  have ht := tot_split b l
  cases h : splitL b l with
  | nil => exact absurd h (splitL_ne b l)
  | cons p r =>
    rw [h] at ht
    rw [List.getD_cons_zero]
    simp only [totS] at ht
    omega

set_option maxHeartbeats 3200000 in
set_option maxRecDepth 100000 in
theorem implPrs (s : ByteArray) (w : World) (hs : s.size ≤ maxLen) :
    Calls Try.prog 23 #[.string s] w (RepPost (prG (splitL 32 s.data.toList)) (prS (splitL 32 s.data.toList)) ((splitL 32 s.data.toList).length - 1) (pwU (splitL 32 s.data.toList) ((splitL 32 s.data.toList).length - 1)) w) := by
  have hsz := bytesize s
  have HB := Lib.hid ((kept_refl w).alloc (.cells z25.toArray 32))
  have Z := Ry.zero w 32
  have HS := Lib.hid (fun W => implSplit_any s ⟨#[32]⟩ W hs (by unfold maxLen; decide))
  by_cases h4 : s.size ≤ 4000
  rotate_left
  · have E : Hid (prG (splitL 32 s.data.toList) = false) := Lib.hid (by
      cases h : prG (splitL 32 s.data.toList) with
      | false => rfl
      | true => exact absurd (prG_len h) (by rw [← hsz]; omega))
    rw [splitB_32no s h4] at HS
    go_enter Try.func23, Try.ntmps23
    go_upto_region 1 with fail
    try rw [cells25C]
    generalize w.alloc (.cells z25.toArray 32) = W at *
    go_wp2_with fail
    refine (HS.out _).mono ?_
    rintro e w1 ⟨v, rfl, q1, b1⟩
    replace Z := Z.below b1
    replace HB := Lib.hid (HB.out.call b1)
    have S1 := Lib.hid (Z.putAll z24 (.slice none 0 0) rfl)
    have S2 := Lib.hid (HB.out.puts (b := w.heap.size) (Nat.le_refl _) 0 (rpC z24 (.slice none 0 0)))
    clear q1 b1 HS
    go_wp2_with (first | (refine guardY (isBdY 32) ?_ ?_; (· rfl); refine build_law rfl 32 rfl _ buildRpZ ?_) | (refine guardY (isStY 32) ?_ ?_; (· rfl); refine store_ry rfl 32 _ _ rfl (w.heap.size) rfl z24 (.slice none 0 0) rfl _ _ _ Z rfl rfl ?_ ?_; (· kernel_rfl)))
    exact bodyPost_ret (res_ry1 rfl _ _ (w.heap.size) z24 _ _ _ (.bool false) rfl rfl S1.out Try.underlying32 rfl (by kernel_rfl)) rfl ⟨.slice none 0 0, by rw [E.out]; rfl, by rw [E.out]; exact Rw.nil _ _, S2.out⟩
  rw [splitB_32 s h4, splitP_32 s h4] at HS
  have NE := Lib.hid (splitL_ne 32 s.data.toList)
  have CN := split_count 32 s.data.toList
  have HH := head_len 32 s.data.toList
  rw [← hsz] at CN HH
  generalize splitL 32 s.data.toList = ps at *
  obtain ⟨M, hM⟩ : ∃ M, ps.length = M + 1 := ⟨ps.length - 1, by have := List.length_pos_iff.2 NE.out; omega⟩
  have hM1 : ps.length - 1 = M := by omega
  rw [hM1]
  go_enter Try.func23, Try.ntmps23
  go_upto_region 1 with fail
  try rw [cells25C]
  generalize w.alloc (.cells z25.toArray 32) = W at *
  go_wp2_with fail
  refine (HS.out _).mono ?_
  rintro e wL ⟨v, rfl, q1, b1⟩
  replace Z := Z.below b1
  replace HB := Lib.hid (HB.out.call b1)
  rw [hM] at q1
  obtain ⟨gw, wcap, rfl⟩ := row_succ q1
  have hcapw := row_cap q1
  have hgw := (World.ownsRow.lt q1 gw rfl).2
  have WD := Lib.hid (fun wr (K : Kept wL wr) k (hk : k < M + 1) => word_at q1 hgw hM K k hk)
  have ww0 := WD.out wL (kept_refl wL) 0 (by omega)
  obtain ⟨p0, hp0⟩ : ∃ p0, ps.getD 0 [] = p0 := ⟨_, rfl⟩
  rw [hp0] at ww0
  have hm1 : (0 : Int) < (M : Int) + 1 := by omega
  have hmz : (0 : Int) ≤ (M : Int) + 1 := by omega
  have hm2 : 0 < M + 1 := by omega
  rw [hp0] at HH
  have KPA := Lib.hid (fun W => implParse (mk p0) W (by rw [mk_size]; unfold maxLen at *; omega))
  rw [mk_list] at KPA
  have hpl := parseA_len p0
  have PI := Lib.hid (fun h => parse_is (l := p0) h)
  have GP0 : Hid (prS ps = getR p0) := Lib.hid (by unfold prS; rw [hp0])
  have NO1 := Lib.hid (fun h => pr_no1 (ps := ps) h)
  have YE1 := Lib.hid (fun h => pr_yes (ps := ps) h)
  rw [hp0] at NO1 YE1
  have hm7 : M + 1 ≤ 4001 := by omega
  clear q1 b1 HS CN
  go_wp2_with fail
  refine (KPA.out _).mono ?_
  rintro e w2 ⟨rfl, b2⟩
  have KL := Lib.hid (Kept.alloc b2 (.cells (ints (parseA p0)).toArray 30))
  have D5 := Has.box w2 30 hpl (by omega)
  have hw2 : wL.heap.size ≤ w2.heap.size := b2.size
  have hZL : w.heap.size < wL.heap.size := Z.lt
  clear b2 KPA
  cases hk0 : okR p0 with
  | false =>
    have E := Lib.hid (NO1.out hk0)
    replace Z := Z.below KL.out
    replace HB := Lib.hid (HB.out.call KL.out)
    have S1 := Lib.hid (Z.putAll z24 (.slice none 0 0) rfl)
    have S2 := Lib.hid (HB.out.puts (b := w.heap.size) (Nat.le_refl _) 0 (rpC z24 (.slice none 0 0)))
    clear hk0 NO1 YE1 PI WD ww0 KL D5
    go_wp2_with (first | (refine guardY (isStY 30) ?_ ?_; (· rfl); (refine store_new rfl 30 _ _ rfl _ _ _ rfl _ rfl _ rfl rfl ?_ ?_ ?_; (· (first | assumption | rfl)); (· kernel_rfl))) | (refine guardY (isBdY 32) ?_ ?_; (· rfl); refine build_law rfl 32 rfl _ buildRpZ ?_) | (refine guardY (isStY 32) ?_ ?_; (· rfl); refine store_ry rfl 32 _ _ rfl (w.heap.size) rfl z24 (.slice none 0 0) rfl _ _ _ Z rfl rfl ?_ ?_; (· kernel_rfl)))
    exact bodyPost_ret (res_ry1 rfl _ _ (w.heap.size) z24 _ _ _ (.bool false) rfl rfl S1.out Try.underlying32 rfl (by kernel_rfl)) rfl ⟨.slice none 0 0, by rw [E.out]; rfl, by rw [E.out]; exact Rw.nil _ _, S2.out⟩
  | true =>
    have e0 := (PI.out hk0).trans GP0.out.symm
    have YE := Lib.hid (fun h => YE1.out hk0 h)
    obtain ⟨R, hRR⟩ : ∃ R, prS ps = R := ⟨_, rfl⟩
    rw [hRR] at e0 YE
    rw [e0] at hpl KL D5 ⊢
    have HRS := Lib.hid hRR
    clear hRR e0 NO1 YE1 PI GP0 hk0 ww0 HH
    have h24 := hpl
    obtain ⟨b6, hb6⟩ : ∃ x, w2.heap.size = x := ⟨_, rfl⟩
    go_upto_region 5 with (refine guardY (isStY 30) ?_ ?_; (· rfl); refine store_new rfl 30 _ _ rfl _ _ _ rfl b6 hb6.symm R rfl rfl ?_ ?_ ?_; (· exact h24); (· kernel_rfl))
    have hs6 : (w2.alloc (.cells (ints R).toArray 30)).heap.size = b6 + 1 := by rw [size1, hb6]
    rw [hb6] at D5 hw2
    generalize w2.alloc (.cells (ints R).toArray 30) = W6 at *
    clear hb6
    have P0 := prs_none W6 W6.heap.size (Nat.le_refl _)
    have C0 := (Ry.box (v := .slice (some ⟨b6 + 1, 0, none⟩) 0 0) (W6.alloc (.cells #[] 51)) 32 h24).at (q := b6 + 2) (by rw [size1, hs6])
    have P1 : Hid (Prs ((W6.alloc (.cells #[] 51)).alloc (.cells (rpC R (.slice (some ⟨b6 + 1, 0, none⟩) 0 0)).toArray 32)) (b6 + 1) (.slice (some ⟨b6 + 1, 0, none⟩) 0 0) 0 []) := Lib.hid (by rw [hs6] at P0; exact World.ownsRow.alloc P0 _)
    have hs7 : (W6.alloc (.cells #[] 51)).heap.size = b6 + 2 := by rw [size1, hs6]
    have D6 := D5.alloc (.cells #[] 51)
    replace KL := Lib.hid ((KL.out.alloc (.cells #[] 51)).alloc (.cells (rpC R (.slice (some ⟨b6 + 1, 0, none⟩) 0 0)).toArray 32))
    go_upto_region 8 with (first | (refine guardY (isLdY 30) ?_ ?_; (· rfl); refine load_has rfl 30 _ rfl b6 rfl R 24 D5 _ Try.underlying30 rfl ?_ ?_; (· kernel_rfl)) | (refine slice0Di rfl 26 51 rfl Try.underlying26 (by kernel_rfl) ?_) | (refine guardY (isBdY 32) ?_ ?_; (· rfl); refine build_rp rfl 32 _ _ rfl _ _ _ rfl rfl (buildRp R _ 0 0 h24) ?_) | (refine guardY (isStY 32) ?_ ?_; (· rfl); refine store_newry rfl 32 _ _ rfl _ _ _ rfl (b6 + 2) hs7.symm R (.slice (some ⟨b6 + 1, 0, none⟩) 0 0) rfl rfl rfl h24 rfl ?_ ?_; (· kernel_rfl)))
    generalize (W6.alloc (.cells #[] 51)).alloc (.cells (rpC R (.slice (some ⟨b6 + 1, 0, none⟩) 0 0)).toArray 32) = W7 at *
    clear P0 D5 D6 hs6 hs7
    have NE0 : Hid (∀ z, (Value.slice (some ⟨b6 + 1, 0, none⟩) 0 0).ownBlock = some z → z ≠ b6 + 2) := Lib.hid (fun z hz => by have := Option.some.inj (show some (b6 + 1) = some z from hz); omega)
    have hm3 : (1 : Int) ≤ (M : Int) + 1 := by omega
    have hm4 : (M : Int) + 1 ≤ (wcap : Int) := by omega
    have hm5 : ((M : Int) + 1 - 1).toNat = M := by omega
    have hm6 : 1 ≤ wcap := by omega
    go_wp2_with fail
    case inl h =>
      have hM0 : M = 0 := by omega
      go_loopw [34] (fun i wr => ∃ (k : Nat) (va : Option Addr) (vc : Nat), k ≤ M ∧ i = .int .i64 k ∧ Ry wr (b6 + 2) R (.slice va k vc) 32 ∧ Hid (Prs wr (b6 + 1) (.slice va k vc) k (pwU ps k)) ∧ Hid (∀ z, (Value.slice va k vc).ownBlock = some z → z ≠ b6 + 2) ∧ twoS ps k = true ∧ Hid (Kept wL wr)) (fun i _ => M - (intOf i).toNat)
      case atStart => exact ⟨0, some ⟨b6 + 1, 0, none⟩, 0, by omega, rfl, C0, P1, NE0, two_zero ps, KL⟩
      case round =>
        clear C0 P1 NE0 KL
        obtain ⟨k, va, vc, hk, rfl, C, GP, NE, T2, KL⟩ := hrel
        obtain rfl : k = 0 := by omega
        subst hM0
        have Q := Lib.hid (GP.out.rw.mono (b' := 0) (Nat.zero_le _))
        have own := Lib.hid (fun z hz => (World.ownsRow.lt GP.out z hz).1)
        have GB := Lib.hid (HB.out.call KL.out)
        replace Z := Z.below KL.out
        go_wp2_with (refine guardY (isLdY 32) ?_ ?_; (· rfl); refine load_ry rfl 32 _ rfl (b6 + 2) rfl _ _ _ C _ Try.underlying32 rfl ?_ ?_; (· kernel_rfl))
        refine (implIsReplay R (pwU ps 0) _ 0 0 _ h24 (by omega) Q.out).mono ?_
        rintro e w9 ⟨rfl, b9⟩
        replace C := C.below b9
        replace Z := Z.below b9
        replace GB := Lib.hid (GB.out.call b9)
        replace GP := Lib.hid (GP.out.belowDi b9)
        have EQ := Lib.hid (YE.out (by rw [hM1]; exact T2))
        rw [hM1] at EQ
        clear b9 KL WD Q
        cases hok : rpOk R (pwU ps 0) 0 with
        | false =>
          have E := Lib.hid (EQ.out.trans hok)
          have S1 := Lib.hid (Z.putAll z24 (.slice none 0 0) rfl)
          have S2 := Lib.hid (GB.out.puts (b := w.heap.size) (Nat.le_refl _) 0 (rpC z24 (.slice none 0 0)))
          clear hok EQ YE
          go_wp2_with (first | (refine guardY (isBdY 32) ?_ ?_; (· rfl); refine build_law rfl 32 rfl _ buildRpZ ?_) | (refine guardY (isStY 32) ?_ ?_; (· rfl); refine store_ry rfl 32 _ _ rfl (w.heap.size) rfl z24 (.slice none 0 0) rfl _ _ _ Z rfl rfl ?_ ?_; (· kernel_rfl)))
          exact bodyPost_ret (res_ry1 rfl _ _ (w.heap.size) z24 _ _ _ (.bool false) rfl rfl S1.out Try.underlying32 rfl (by kernel_rfl)) rfl ⟨.slice none 0 0, by rw [E.out]; rfl, by rw [E.out]; exact Rw.nil _ _, S2.out⟩
        | true =>
          have E := Lib.hid (EQ.out.trans hok)
          have S1 := Lib.hid (Z.putAll R (.slice va 0 vc) h24)
          have S2 := Lib.hid (GB.out.puts (b := w.heap.size) (Nat.le_refl _) 0 (rpC R (.slice va 0 vc)))
          have S3 := Lib.hid ((GP.out.rw.puts (w.heap.size) 0 (rpC R (.slice va 0 vc)) (fun _ e => by have := own.out _ e; omega)).mono (show w.heap.size ≤ b6 + 1 by omega))
          clear hok EQ YE
          go_wp2_with (first | (refine guardY (isLdY 32) ?_ ?_; (· rfl); refine load_ry rfl 32 _ rfl (b6 + 2) rfl _ _ _ C _ Try.underlying32 rfl ?_ ?_; (· kernel_rfl)) | (refine guardY (isStY 32) ?_ ?_; (· rfl); refine store_ry rfl 32 _ _ rfl (w.heap.size) rfl R (.slice va 0 vc) rfl _ _ _ Z h24 rfl ?_ ?_; (· kernel_rfl)))
          exact bodyPost_ret (res_ry1 rfl _ _ (w.heap.size) R _ _ _ (.bool true) rfl rfl S1.out Try.underlying32 rfl (by kernel_rfl)) rfl ⟨_, by rw [E.out, HRS.out]; rfl, by rw [E.out]; exact S3.out, S2.out⟩
    case inr h =>
      go_loopw [34] (fun i wr => ∃ (k : Nat) (va : Option Addr) (vc : Nat), k ≤ M ∧ i = .int .i64 k ∧ Ry wr (b6 + 2) R (.slice va k vc) 32 ∧ Hid (Prs wr (b6 + 1) (.slice va k vc) k (pwU ps k)) ∧ Hid (∀ z, (Value.slice va k vc).ownBlock = some z → z ≠ b6 + 2) ∧ twoS ps k = true ∧ Hid (Kept wL wr)) (fun i _ => M - (intOf i).toNat)
      case atStart => exact ⟨0, some ⟨b6 + 1, 0, none⟩, 0, by omega, rfl, C0, P1, NE0, two_zero ps, KL⟩
      case round =>
        clear C0 P1 NE0 KL
        obtain ⟨k, va, vc, hk, rfl, C, GP, NE, T2, KL⟩ := hrel
        by_cases hlt : k < M
        · have ki : (k : Int) < (M : Int) := by omega
          have k0 : (0 : Int) ≤ (k : Int) := by omega
          have cw : wr.cell? ⟨gw, 1 + k, none⟩ = some (.string (mk (ps.getD (k + 1) []))) := by rw [Nat.add_comm]; exact WD.out wr KL.out (k + 1) (by omega)
          have SU : Hid (pwU ps (k + 1) = pwU ps k ++ [pwI (ps.getD (k + 1) []) 0, pwI (ps.getD (k + 1) []) 1]) := Lib.hid rfl
          have TN := Lib.hid (fun h => two_next T2 (k := k) h)
          have TO := Lib.hid (fun h => two_off (ps := ps) hlt h)
          obtain ⟨p, hp⟩ : ∃ p, ps.getD (k + 1) [] = p := ⟨_, rfl⟩
          rw [hp] at cw SU TN TO
          clear hp
          have MS := Lib.hid (mk_size p)
          by_cases h2 : p.length = 2
          rotate_left
          · have E : Hid (prG ps = false) := Lib.hid (pr_no2 (by rw [hM1]; exact TO.out h2))
            have q2 : (((mk p).size : Int) != 2) = true := by rw [bne_iff_ne]; rw [MS.out]; omega
            have GB := Lib.hid (HB.out.call KL.out)
            replace Z := Z.below KL.out
            have S1 := Lib.hid (Z.putAll z24 (.slice none 0 0) rfl)
            have S2 := Lib.hid (GB.out.puts (b := w.heap.size) (Nat.le_refl _) 0 (rpC z24 (.slice none 0 0)))
            clear GP NE TN TO SU WD YE KL h2 MS
            go_wp2_with (first | (refine guardY (isBdY 32) ?_ ?_; (· rfl); refine build_law rfl 32 rfl _ buildRpZ ?_) | (refine guardY (isStY 32) ?_ ?_; (· rfl); refine store_ry rfl 32 _ _ rfl (w.heap.size) rfl z24 (.slice none 0 0) rfl _ _ _ Z rfl rfl ?_ ?_; (· kernel_rfl)))
            exact bodyPost_ret (res_ry1 rfl _ _ (w.heap.size) z24 _ _ _ (.bool false) rfl rfl S1.out Try.underlying32 rfl (by kernel_rfl)) rfl ⟨.slice none 0 0, by rw [E.out]; rfl, by rw [E.out]; exact Rw.nil _ _, S2.out⟩
          have hx2 : (mk p).size = 2 := by rw [MS.out]; exact h2
          have q2 : (((mk p).size : Int) != 2) = false := by rw [hx2]; rfl
          have KRP := Lib.hid (fun W => readPour_any (mk p) W hx2)
          rw [mk_list] at KRP
          have TT := Lib.hid (TN.out h2)
          clear TN TO MS h2
          obtain ⟨x, hx⟩ : ∃ x, pwI p 0 = x := ⟨_, rfl⟩
          obtain ⟨y, hy⟩ : ∃ y, pwI p 1 = y := ⟨_, rfl⟩
          rw [hx, hy] at KRP SU
          clear hx hy
          go_wp2_with fail
          clear cw
          have KD : Kept wr wr.drew := (kept_refl wr).drewN 1
          replace C := C.below KD
          replace GP := Lib.hid (GP.out.belowDi KD)
          replace KL := Lib.hid (KL.out.call KD)
          clear KD
          refine wp_region_held_drew (S := fun _ => True) (by kernel_rfl) trivial (fun hHeld => ?_)
          generalize wr.drew = wd at *
          (refine wpAnyH_take (i := 0) (v := ?_) rfl (by kernel_rfl) (by kernel_rfl) (by kernel_rfl) (fun _ _ _ h => h) (Or.inl ⟨by rfl, ?_⟩) hHeld ?_; rotate_left; (· (intro w' hSw; go_simp; try with_reducible rfl)); (try simp only [List.getElem_toArray, List.getElem_cons_zero, List.getElem_cons_succ, Act.put, List.setIfInBounds_toArray, List.set_cons_zero, List.set_cons_succ])); (refine wpAnyH_take (i := 2) (v := ?_) rfl (by kernel_rfl) (by kernel_rfl) (by kernel_rfl) (fun _ _ _ h => h) (Or.inl ⟨by rfl, ?_⟩) hHeld ?_; rotate_left; (· (intro w' hSw; go_simp; try with_reducible rfl)); (try simp only [List.getElem_toArray, List.getElem_cons_zero, List.getElem_cons_succ, Act.put, List.setIfInBounds_toArray, List.set_cons_zero, List.set_cons_succ]))
          refine wpAnyH_ready (rs := [1, 3]) (by kernel_rfl) (by simp) ?_
          refine AllReadyH.cons (o := _) rfl (fun K hK => ?loadFirst) (AllReadyH.cons (o := _) rfl (fun K hK => ?callFirst) AllReadyH.nil)
          case' loadFirst =>
            (simp only [List.getElem_toArray, List.getElem_cons_zero, List.getElem_cons_succ, Region.wanted, if_true])
            have c24 := C.pours
            go_simp
            refine hK.out _ _ trivial (fun hHeld => ?_)
            clear hK K c24
            (refine wpAnyH_ready (rs := [3]) (by kernel_rfl) (by simp) ?_; refine AllReadyH.cons (o := _) rfl (fun K hK => ?_) AllReadyH.nil; (simp only [List.getElem_toArray, List.getElem_cons_zero, List.getElem_cons_succ, Region.wanted, if_true]))
            go_simp
            refine (KRP.out _).mono ?_
            rintro e w8 ⟨rfl, b8⟩
            dsimp only
            (try simp only [List.getElem_toArray, List.getElem_cons_zero, List.getElem_cons_succ, Act.put, List.setIfInBounds_toArray, List.set_cons_zero, List.set_cons_succ])
            replace C := C.below b8
            replace GP := Lib.hid (GP.out.belowDi b8)
            replace KL := Lib.hid (KL.out.call b8)
            refine hK.out _ _ trivial (fun hHeld => ?_)
            clear hK K b8
            (refine wpAnyH_ready (rs := [4]) (by kernel_rfl) (by simp) ?_; refine AllReadyH.cons (o := _) rfl (fun K hK => ?_) AllReadyH.nil; (simp only [List.getElem_toArray, List.getElem_cons_zero, List.getElem_cons_succ, Region.wanted, if_true]))
            refine wp_slice1 26 51 _ rfl 2 16 Try.underlying26 (by kernel_rfl) (by omega) (by omega) [x, y] rfl rfl ?_
            refine hK.out _ _ trivial (fun hHeld => ?_)
            clear hK K
            (try simp only [List.getElem_toArray, List.getElem_cons_zero, List.getElem_cons_succ, Act.put, List.setIfInBounds_toArray, List.set_cons_zero, List.set_cons_succ])
            have C2 := C.alloc (.cells (ints [x, y]).toArray 51)
            have Q2 := Prs.allocDi GP.out (.cells (ints [x, y]).toArray 51)
          case' callFirst =>
            (simp only [List.getElem_toArray, List.getElem_cons_zero, List.getElem_cons_succ, Region.wanted, if_true])
            go_simp
            refine (KRP.out _).mono ?_
            rintro e w8 ⟨rfl, b8⟩
            dsimp only
            (try simp only [List.getElem_toArray, List.getElem_cons_zero, List.getElem_cons_succ, Act.put, List.setIfInBounds_toArray, List.set_cons_zero, List.set_cons_succ])
            replace C := C.below b8
            replace GP := Lib.hid (GP.out.belowDi b8)
            replace KL := Lib.hid (KL.out.call b8)
            refine hK.out _ _ trivial (fun hHeld => ?_)
            clear hK K b8
            refine wpAnyH_ready (rs := [1, 4]) (by kernel_rfl) (by simp) ?_
            refine AllReadyH.cons (o := _) rfl (fun K hK => ?loadSecond) (AllReadyH.cons (o := _) rfl (fun K hK => ?buildSecond) AllReadyH.nil)
          case' loadSecond =>
            (simp only [List.getElem_toArray, List.getElem_cons_zero, List.getElem_cons_succ, Region.wanted, if_true])
            have c24 := C.pours
            go_simp
            refine hK.out _ _ trivial (fun hHeld => ?_)
            clear hK K c24
            (refine wpAnyH_ready (rs := [4]) (by kernel_rfl) (by simp) ?_; refine AllReadyH.cons (o := _) rfl (fun K hK => ?_) AllReadyH.nil; (simp only [List.getElem_toArray, List.getElem_cons_zero, List.getElem_cons_succ, Region.wanted, if_true]))
            refine wp_slice1 26 51 _ rfl 2 16 Try.underlying26 (by kernel_rfl) (by omega) (by omega) [x, y] rfl rfl ?_
            refine hK.out _ _ trivial (fun hHeld => ?_)
            clear hK K
            (try simp only [List.getElem_toArray, List.getElem_cons_zero, List.getElem_cons_succ, Act.put, List.setIfInBounds_toArray, List.set_cons_zero, List.set_cons_succ])
            have C2 := C.alloc (.cells (ints [x, y]).toArray 51)
            have Q2 := Prs.allocDi GP.out (.cells (ints [x, y]).toArray 51)
          case' buildSecond =>
            (simp only [List.getElem_toArray, List.getElem_cons_zero, List.getElem_cons_succ, Region.wanted, if_true])
            refine wp_slice1 26 51 _ rfl 2 16 Try.underlying26 (by kernel_rfl) (by omega) (by omega) [x, y] rfl rfl ?_
            refine hK.out _ _ trivial (fun hHeld => ?_)
            clear hK K
            (try simp only [List.getElem_toArray, List.getElem_cons_zero, List.getElem_cons_succ, Act.put, List.setIfInBounds_toArray, List.set_cons_zero, List.set_cons_succ])
            have C2 := C.alloc (.cells (ints [x, y]).toArray 51)
            have Q2 := Prs.allocDi GP.out (.cells (ints [x, y]).toArray 51)
            (refine wpAnyH_ready (rs := [1]) (by kernel_rfl) (by simp) ?_; refine AllReadyH.cons (o := _) rfl (fun K hK => ?_) AllReadyH.nil; (simp only [List.getElem_toArray, List.getElem_cons_zero, List.getElem_cons_succ, Region.wanted, if_true]))
            have c24 := C2.pours
            go_simp
            refine hK.out _ _ trivial (fun hHeld => ?_)
            clear hK K c24
          all_goals
            have hcs : some (b6 + 2) ≠ (Value.slice va k vc).ownBlock := fun e => NE.out _ e.symm rfl
            have own0 := Lib.hid (fun z hz => (World.ownsRow.lt GP.out z hz))
            have clt := C.lt
            have sz8 := size1 w8 (.cells (ints [x, y]).toArray 51)
            (refine wpAnyH_ready (rs := [5]) (by kernel_rfl) (by simp) ?_; refine AllReadyH.cons (o := _) rfl (fun K hK => ?_) AllReadyH.nil; (simp only [List.getElem_toArray, List.getElem_cons_zero, List.getElem_cons_succ, Region.wanted, if_true]))
            refine wp_append_prs _ _ rfl (b6 + 1) _ k (pwU ps k) rfl Q2 (some ⟨w8.heap.size, 0, none⟩) 1 1 rfl [x, y] rfl (from_new w8 x y _) (by rw [size1]; omega) (by omega) ?_
            intro v' w9 hP hgrow hlie
            obtain ⟨va', vc', rfl⟩ := hP.rw.shape
            have C3 := C2.grown hgrow hcs
            have c24' := C3.pours
            have f24' := C3.free 24
            refine hK.out _ _ trivial (fun hHeld => ?_)
            clear hK K
            (try simp only [List.getElem_toArray, List.getElem_cons_zero, List.getElem_cons_succ, Act.put, List.setIfInBounds_toArray, List.set_cons_zero, List.set_cons_succ])
            (refine wpAnyH_take (i := 6) (v := ?_) rfl (by kernel_rfl) (by kernel_rfl) (by kernel_rfl) (fun _ _ _ h => h) (Or.inl ⟨by rfl, ?_⟩) hHeld ?_; rotate_left; (· (intro w' hSw; go_simp; try with_reducible rfl)); (try simp only [List.getElem_toArray, List.getElem_cons_zero, List.getElem_cons_succ, Act.put, List.setIfInBounds_toArray, List.set_cons_zero, List.set_cons_succ]))
            (refine wpAnyH_ready (rs := [7]) (by kernel_rfl) (by simp) ?_; refine AllReadyH.cons (o := _) rfl (fun K hK => ?_) AllReadyH.nil; (simp only [List.getElem_toArray, List.getElem_cons_zero, List.getElem_cons_succ, Region.wanted, if_true]))
            go_simp
            refine hK.out _ _ trivial (fun hHeld => ?_)
            clear hK K
            refine wpAnyH_done (by kernel_rfl) ?_ _
            have NE3 : Hid (∀ z, (Value.slice va' (k + 1) vc').ownBlock = some z → z ≠ b6 + 2) := Lib.hid (fun z hz => by
              rcases hlie with h3 | h3
              · exact NE.out z (h3.symm.trans hz)
              · have h4 := Option.some.inj (h3.symm.trans hz); omega)
            have KL3 : Hid (Kept wL w9) := Lib.hid ((KL.out.alloc (.cells (ints [x, y]).toArray 51)).grown hgrow (by rw [size1]; have := KL.out.size; omega) (fun z hz => by have := (own0.out z hz).1; omega))
            have P9 := Lib.hid hP
            have C4 := C3.setPours (.slice va' (k + 1) vc')
            have P4 : Hid (Prs (w9.setCell ⟨b6 + 2, 24, none⟩ (.slice va' (k + 1) vc')) (b6 + 1) (.slice va' (k + 1) vc') (k + 1) (pwU ps (k + 1))) := Lib.hid (by rw [SU.out]; exact P9.out.putsY (b6 + 2) 24 [.slice va' (k + 1) vc'] (fun z hz => NE3.out z hz))
            have KL4 := Lib.hid (KL3.out.set (b := b6 + 2) (by omega) 24 (.slice va' (k + 1) vc'))
            clear hP hgrow hlie Q2 GP C C2 C3 NE c24' f24' own0 KL KL3 P9
            generalize World.setCell w9 ⟨b6 + 2, 24, none⟩ (.slice va' (k + 1) vc') = W9 at *
            go_wp2_with fail
            go_roundw
            case rel => exact ⟨k + 1, va', vc', by omega, by go_num, C4, P4, NE3, TT.out, KL4⟩
            case measure => simp [intOf]; omega
        · obtain rfl : k = M := by omega
          have Q := Lib.hid (GP.out.rw.mono (b' := 0) (Nat.zero_le _))
          have own := Lib.hid (fun z hz => (World.ownsRow.lt GP.out z hz).1)
          have GB := Lib.hid (HB.out.call KL.out)
          replace Z := Z.below KL.out
          go_wp2_with (refine guardY (isLdY 32) ?_ ?_; (· rfl); refine load_ry rfl 32 _ rfl (b6 + 2) rfl _ _ _ C _ Try.underlying32 rfl ?_ ?_; (· kernel_rfl))
          refine (implIsReplay R (pwU ps k) _ k 0 _ h24 (by omega) Q.out).mono ?_
          rintro e w9 ⟨rfl, b9⟩
          replace C := C.below b9
          replace Z := Z.below b9
          replace GB := Lib.hid (GB.out.call b9)
          replace GP := Lib.hid (GP.out.belowDi b9)
          have EQ := Lib.hid (YE.out (by rw [hM1]; exact T2))
          rw [hM1] at EQ
          clear b9 KL WD Q
          cases hok : rpOk R (pwU ps k) k with
          | false =>
            have E := Lib.hid (EQ.out.trans hok)
            have S1 := Lib.hid (Z.putAll z24 (.slice none 0 0) rfl)
            have S2 := Lib.hid (GB.out.puts (b := w.heap.size) (Nat.le_refl _) 0 (rpC z24 (.slice none 0 0)))
            clear hok EQ YE
            go_wp2_with (first | (refine guardY (isBdY 32) ?_ ?_; (· rfl); refine build_law rfl 32 rfl _ buildRpZ ?_) | (refine guardY (isStY 32) ?_ ?_; (· rfl); refine store_ry rfl 32 _ _ rfl (w.heap.size) rfl z24 (.slice none 0 0) rfl _ _ _ Z rfl rfl ?_ ?_; (· kernel_rfl)))
            exact bodyPost_ret (res_ry1 rfl _ _ (w.heap.size) z24 _ _ _ (.bool false) rfl rfl S1.out Try.underlying32 rfl (by kernel_rfl)) rfl ⟨.slice none 0 0, by rw [E.out]; rfl, by rw [E.out]; exact Rw.nil _ _, S2.out⟩
          | true =>
            have E := Lib.hid (EQ.out.trans hok)
            have S1 := Lib.hid (Z.putAll R (.slice va k vc) h24)
            have S2 := Lib.hid (GB.out.puts (b := w.heap.size) (Nat.le_refl _) 0 (rpC R (.slice va k vc)))
            have S3 := Lib.hid ((GP.out.rw.puts (w.heap.size) 0 (rpC R (.slice va k vc)) (fun _ e => by have := own.out _ e; omega)).mono (show w.heap.size ≤ b6 + 1 by omega))
            clear hok EQ YE
            go_wp2_with (first | (refine guardY (isLdY 32) ?_ ?_; (· rfl); refine load_ry rfl 32 _ rfl (b6 + 2) rfl _ _ _ C _ Try.underlying32 rfl ?_ ?_; (· kernel_rfl)) | (refine guardY (isStY 32) ?_ ?_; (· rfl); refine store_ry rfl 32 _ _ rfl (w.heap.size) rfl R (.slice va k vc) rfl _ _ _ Z h24 rfl ?_ ?_; (· kernel_rfl)))
            exact bodyPost_ret (res_ry1 rfl _ _ (w.heap.size) R _ _ _ (.bool true) rfl rfl S1.out Try.underlying32 rfl (by kernel_rfl)) rfl ⟨_, by rw [E.out, HRS.out]; rfl, by rw [E.out]; exact S3.out, S2.out⟩
end Go.Proofs.Ytalngdccjoafhab.base
