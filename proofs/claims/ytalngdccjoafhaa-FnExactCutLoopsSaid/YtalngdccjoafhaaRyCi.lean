/-
  Loops that are cut out, walked on the program's side.
-/
import Derived.Test.YtalngdccjoafhaaRyCm
import Derived.Test.YtalngdccjoafhaaRyEZ
namespace Go.Proofs.Ytalngdccjoafhaa.base
open Go.ChangeShapes Go.WideShapes Go.ChangeAt Go.RowKit
set_option linter.unusedVariables false
set_option linter.unusedSimpArgs false

set_option maxHeartbeats 800000 in
theorem isWider_any (x y p q : Int) (w : World) :
    Calls Try.prog 50 #[.agg (ints [x, y]).toArray, .agg (ints [p, q]).toArray] w fun e w' => e = .returned (.bool (decide (x = p ∧ q < y))) ∧ Kept w w' := by
  have H1 := (Has.box (ns := [x, y]) (n := 2) w 41 rfl (by omega)).alloc (.cells (ints [p, q]).toArray 41)
  have H2 := (Has.box (ns := [p, q]) (n := 2) (w.alloc (.cells (ints [x, y]).toArray 41)) 41 rfl (by omega)).at (size1 _ _)
  have HB := Lib.hid (((kept_refl w).alloc (.cells (ints [x, y]).toArray 41)).alloc (.cells (ints [p, q]).toArray 41))
  have c00 : ((w.alloc (.cells (ints [x, y]).toArray 41)).alloc (.cells (ints [p, q]).toArray 41)).cell? ⟨w.heap.size, 0, none⟩ = some (.int .i64 x) := H1.cell 0 (by omega)
  have c01 : ((w.alloc (.cells (ints [x, y]).toArray 41)).alloc (.cells (ints [p, q]).toArray 41)).cell? ⟨w.heap.size, 1, none⟩ = some (.int .i64 y) := H1.cell 1 (by omega)
  have c10 : ((w.alloc (.cells (ints [x, y]).toArray 41)).alloc (.cells (ints [p, q]).toArray 41)).cell? ⟨w.heap.size + 1, 0, none⟩ = some (.int .i64 p) := H2.cell 0 (by omega)
  have c11 : ((w.alloc (.cells (ints [x, y]).toArray 41)).alloc (.cells (ints [p, q]).toArray 41)).cell? ⟨w.heap.size + 1, 1, none⟩ = some (.int .i64 q) := H2.cell 1 (by omega)
  clear H1 H2
  by_cases h0 : x = p
  · subst h0
    have e : Hid (decide (x = x ∧ q < y) = decide (q < y)) := Lib.hid (by simp)
    go_enter Try.func50, Try.ntmps50
    go_upto_region 1 with fail
    generalize ((w.alloc (.cells (ints [x, y]).toArray 41)).alloc (.cells (ints [x, q]).toArray 41)) = W at *
    go_wp2_with fail
    go_ret
    exact ⟨by first | rfl | (rw [e.out]; rfl), HB.out⟩
  · have e : Hid (decide (x = p ∧ q < y) = false) := Lib.hid (by simp [h0])
    have hf : (x == p) = false := by simpa using h0
    have hf2 : decide (x = p) = false := by simpa using h0
    go_enter Try.func50, Try.ntmps50
    go_upto_region 1 with fail
    generalize ((w.alloc (.cells (ints [x, y]).toArray 41)).alloc (.cells (ints [p, q]).toArray 41)) = W at *
    go_wp2_with fail
    go_ret
    exact ⟨by rw [e.out]; rfl, HB.out⟩

theorem Rw.pairAt {w : World} {b g cap n : Nat} {P : List (Nat × Nat)} (h : Rw w b (.slice (some ⟨g, 0, Option.none⟩) n cap) n (flatP P)) (hn : n = P.length) (i : Nat) (hi : i < n) : w.rangeAt g (i * 2) (ints [((P.getD i (0, 0)).1 : Int), ((P.getD i (0, 0)).2 : Int)]) := by
  obtain ⟨e1, e2⟩ := flatP_get P i (by omega)
  have c1 := h.cell (i * 2) (by omega)
  have c2 := h.cell (i * 2 + 1) (by omega)
  rw [e1] at c1
  rw [e2] at c2
  exact range_two c1 c2
theorem Rw.grab {w : World} {b b' n : Nat} {v : Value} {fs : List Int} (h : Rw w b v n fs) (hz : 0 < n → ∀ z, v.ownBlock = some z → b' ≤ z) : Rw w b' v n fs := by
  refine ⟨h.1, ?_⟩
  rcases h.2 with h0 | ⟨g, cap, hv, hg, rest⟩
  · exact .inl h0
  · by_cases hn : 0 < n
    · exact .inr ⟨g, cap, hv, hz hn g (by rw [hv]; rfl), rest⟩
    · have e0 : n = 0 := by omega
      subst e0
      exact .inl ⟨rfl, _, _, hv⟩
theorem wd_next (P : List (Nat × Nat)) (i : Nat) : (decide (((P.getD i (0, 0)).1 : Int) = ((P.getD 0 (0, 0)).1 : Int) ∧ ((wdP P i : Nat) : Int) < ((P.getD i (0, 0)).2 : Int)) = true → wdP P (i + 1) = (P.getD i (0, 0)).2) ∧ (decide (((P.getD i (0, 0)).1 : Int) = ((P.getD 0 (0, 0)).1 : Int) ∧ ((wdP P i : Nat) : Int) < ((P.getD i (0, 0)).2 : Int)) = false → wdP P (i + 1) = wdP P i) := by
  constructor
  · intro h
    have := of_decide_eq_true h
    rw [wdP, if_pos (by omega)]
  · intro h
    have := of_decide_eq_false h
    rw [wdP, if_neg (by omega)]

set_option maxHeartbeats 6400000 in
set_option maxRecDepth 100000 in
theorem implCut (ns fs : List Int) (v : Value) (n b : Nat) (w : World) (h24 : ns.length = 24) (hn : n ≤ 1048576) (h : Rw w b v n fs) :
    Calls Try.prog 33 #[rpV ns v] w (RepPost (rpOk ns fs n) ns (ctN ns fs n) (ctF ns fs n) w) := by
  have RY := (Ry.box (v := v) w 33 h24).alloc (.cells z25.toArray 33)
  have Z := (Ry.zero (w.alloc (.cells (rpC ns v).toArray 33)) 33).at (size1 _ _)
  have HB := Lib.hid (((kept_refl w).alloc (.cells (rpC ns v).toArray 33)).alloc (.cells z25.toArray 33))
  have HR := Lib.hid ((h.alloc (.cells (rpC ns v).toArray 33)).alloc (.cells z25.toArray 33))
  have hsz : ((w.alloc (.cells (rpC ns v).toArray 33)).alloc (.cells z25.toArray 33)).heap.size = w.heap.size + 2 := by simp
  have KL := Lib.hid (fun V b2 fs2 n2 W q hn2 => implLoops ns fs2 V n2 b2 W h24 hn2 q)
  have KW := Lib.hid (fun V b2 fs2 n2 k m W q hn2 hk hm => without_any ns fs2 V n2 b2 k m W h24 hn2 q hk hm)
  have CI := Lib.hid (fun f c (h : 0 < (lpA ns f c).length) => ct_in h)
  have CS := Lib.hid (fun f c t (h : 0 < (lpA ns f c).length) (ht : c ≤ t) => ct_step h ht)
  have C0 := Lib.hid (fun f c (h : (lpA ns f c).length = 0) t => ct_stop h t)
  have LF := Lib.hid (fun f c => lpF_flat ns f c)
  have LN := Lib.hid (fun f c => lpN_len ns f c)
  have LN2 := Lib.hid (fun f c => lpN_le ns f c)
  clear h
  unfold rpV
  go_enter Try.func33, Try.ntmps33
  go_upto_region 1 with fail
  try rw [cells25C]
  generalize ((w.alloc (.cells (rpC ns v).toArray 33)).alloc (.cells z25.toArray 33)) = W at *
  go_wp2_with (refine guardY (isLdY 33) ?_ ?_; (· rfl); refine load_ry rfl 33 _ rfl w.heap.size rfl _ _ _ RY _ Try.underlying33 rfl ?_ ?_; (· kernel_rfl))
  refine (KL.out _ _ fs n _ HR.out hn).mono ?_
  rintro e w1 ⟨u, rfl, q1, b1⟩
  rw [LF.out, LN.out] at q1
  have hws : w.heap.size + 2 ≤ w1.heap.size := by have := b1.size; omega
  replace RY := RY.below b1
  replace Z := Z.below b1
  replace HB := Lib.hid (HB.out.call b1)
  replace HR := Lib.hid (HR.out.below b1)
  clear b1
  cases hok : rpOk ns fs n with
  | false =>
    have E := Lib.hid hok
    have S1 := Lib.hid (Z.putAll z24 (.slice none 0 0) rfl)
    have S2 := Lib.hid (HB.out.puts (b := w.heap.size + 1) (by omega) 0 (rpC z24 (.slice none 0 0)))
    clear hok q1
    go_wp2_with (first | (refine guardY (isBdY 33) ?_ ?_; (· rfl); refine build_law rfl 33 rfl _ buildRpZ ?_) | (refine guardY (isStY 33) ?_ ?_; (· rfl); refine store_ry rfl 33 _ _ rfl (w.heap.size + 1) rfl z24 (.slice none 0 0) rfl _ _ _ Z rfl rfl ?_ ?_; (· kernel_rfl)))
    exact bodyPost_ret (res_ry1 rfl _ _ (w.heap.size + 1) z24 _ _ _ (.bool false) rfl rfl S1.out Try.underlying33 rfl (by kernel_rfl)) rfl ⟨.slice none 0 0, by rw [E.out]; rfl, by rw [E.out]; exact Rw.nil _ _, S2.out⟩
  | true =>
  have E := Lib.hid hok
  have n60 := rp_le hok
  have H24 := Lib.hid h24
  have QU := Lib.hid (q1.mono (b' := 0) (Nat.zero_le _))
  clear hok q1
  go_wp2_with (refine guardY (isLdY 33) ?_ ?_; (· rfl); refine load_ry rfl 33 _ rfl w.heap.size rfl _ _ _ RY _ Try.underlying33 rfl ?_ ?_; (· kernel_rfl))
  refine (copied_any ns fs v n b _ h24 hn HR.out).mono ?_
  rintro e w2 ⟨g, rfl, q2, b2⟩
  have ow := World.ownsRow.lt q2 g rfl
  have ow1 : w.heap.size + 2 ≤ g := by omega
  have ow2 : g < w2.heap.size := ow.2
  have usz := Lib.hid (fun h0 z hz => (QU.out.ownlt h0 z hz).2)
  have hs2 := b2.size
  replace QU := Lib.hid ((QU.out.below b2).alloc (.cells (rpC ns (.slice (some ⟨g, 0, none⟩) n n)).toArray 33))
  replace Z := (Z.below b2).alloc (.cells (rpC ns (.slice (some ⟨g, 0, none⟩) n n)).toArray 33)
  replace HB := Lib.hid ((HB.out.call b2).alloc (.cells (rpC ns (.slice (some ⟨g, 0, none⟩) n n)).toArray 33))
  have RC := Ry.box (v := .slice (some ⟨g, 0, none⟩) n n) w2 33 h24
  have QV := Lib.hid ((q2.rw.mono (b' := 0) (Nat.zero_le _)).alloc (.cells (rpC ns (.slice (some ⟨g, 0, none⟩) n n)).toArray 33))
  have US : Hid (0 < (lpA ns fs n).length → ∀ z, u.ownBlock = some z → z ≠ w2.heap.size) := Lib.hid (fun h0 z hz => by have := usz.out h0 z hz; omega)
  have VS : Hid (∀ z, (Value.slice (some ⟨g, 0, none⟩) n n).ownBlock = some z → z ≠ w2.heap.size ∧ w.heap.size + 2 ≤ z) := Lib.hid (fun z hz => by have := Option.some.inj (show some g = some z from hz); omega)
  clear q2 b2 HR RY usz ow ow2
  go_wp2_with (refine guardY (isStY 33) ?_ ?_; (· rfl); refine store_newry rfl 33 _ _ rfl w2 _ _ rfl _ rfl ns (.slice (some ⟨g, 0, none⟩) n n) rfl rfl rfl h24 rfl ?_ ?_; (· kernel_rfl))
  have hcl := RC.lt
  obtain ⟨c, hc⟩ : ∃ c, w2.heap.size = c := ⟨_, rfl⟩
  rw [hc] at RC US VS hs2 hcl ⊢
  generalize w2.alloc (.cells (rpC ns (.slice (some ⟨g, 0, none⟩) n n)).toArray 33) = W2 at *
  have hcw : w.heap.size + 2 ≤ c := by omega
  clear hc hs2
  simp only [Act.put]
  go_loopg [4] n (fun gk x wr => ∃ (fc : List Int) (nc t : Nat) (va : Option Addr) (vc : Nat), gk = nc ∧ nc ≤ n ∧ nc ≤ t ∧ Hid (ctR ns t fc nc = ctR ns n fs n) ∧ Hid (Rw wr 0 x (lpA ns fc nc).length (flatP (lpA ns fc nc))) ∧ Hid (Rw wr 0 (.slice va nc vc) nc fc) ∧ Ry wr c ns (.slice va nc vc) 33 ∧ Ry wr (w.heap.size + 1) z24 (.slice none 0 0) 33 ∧ Hid (Kept w wr) ∧ Hid (0 < (lpA ns fc nc).length → ∀ z, x.ownBlock = some z → z ≠ c) ∧ Hid (0 < nc → ∀ z, (Value.slice va nc vc).ownBlock = some z → z ≠ c ∧ w.heap.size + 2 ≤ z))
  case atStart => exact ⟨fs, n, n, _, _, rfl, Nat.le_refl _, Nat.le_refl _, Lib.hid rfl, QU, QV, RC, Z, HB, US, Lib.hid (fun _ => VS.out)⟩
  case round =>
    clear QU QV RC Z HB US VS
    obtain ⟨fc, nc, t, va, vc, rfl, hnc, hct, CT, QU, QV, RC, Z, HB, US, VS⟩ := hrel
    obtain ⟨P, hP⟩ : ∃ P, lpA ns fc gk = P := ⟨_, rfl⟩
    have HP := Lib.hid hP
    rw [hP] at QU US
    have PL := LN2.out fc gk
    rw [LN.out, hP] at PL
    clear hP
    obtain ⟨ua, uc, rfl⟩ := QU.out.shape
    obtain ⟨N, hN⟩ : ∃ N, P.length = N := ⟨_, rfl⟩
    have HN := Lib.hid hN
    rw [hN] at QU US PL ⊢
    clear hN
    by_cases h0 : 0 < N
    · have P0 : 0 < (lpA ns fc gk).length := by rw [HP.out, HN.out]; exact h0
      have CIN := Lib.hid (CI.out fc gk P0)
      obtain ⟨t', st1, st2, st3⟩ := CS.out fc gk t P0 hct
      have EK : Hid (ctK ns fc gk = (P.getD 0 (0, 0)).1) := Lib.hid (by unfold ctK; rw [HP.out])
      have EM : Hid (ctM ns fc gk = wdP P N) := Lib.hid (by unfold ctM; rw [HP.out, HN.out])
      obtain ⟨k, hk⟩ : ∃ k, ctK ns fc gk = k := ⟨_, rfl⟩
      obtain ⟨m, hm⟩ : ∃ m, ctM ns fc gk = m := ⟨_, rfl⟩
      rw [hk, hm] at st1 st2 st3 CIN
      rw [hk] at EK
      rw [hm] at EM
      have ST1 := Lib.hid st1
      have ST2 := Lib.hid st2
      have ST3 := Lib.hid st3
      clear st1 st2 st3 hk hm P0
      obtain ⟨gu, cu, he, _, hgu⟩ := QU.out.form h0
      injection he with e1 _ e3
      subst e1
      subst e3
      have R0 := Lib.hid (QU.out.pairAt HN.out.symm 0 h0)
      rw [Nat.zero_mul] at R0
      rw [← EK.out] at R0
      obtain ⟨m0, hm0⟩ : ∃ m0, (P.getD 0 (0, 0)).2 = m0 := ⟨_, rfl⟩
      have HM0 : Hid (wdP P 0 = m0) := Lib.hid hm0
      rw [hm0] at R0
      clear hm0
      have hNi : (0 : Int) < (N : Int) := by omega
      have hN0 : decide ((0 : Int) < (N : Int)) = true := by simpa using hNi
      have XW := Has.box (ns := [(k : Int), (m0 : Int)]) (n := 2) wr 41 rfl (by omega)
      have uow := Lib.hid (fun z hz => (QU.out.ownlt h0 z hz).2)
      have vow := Lib.hid (fun hn0 z hz => (QV.out.ownlt hn0 z hz).2)
      replace QU := Lib.hid (QU.out.alloc (.cells (ints [(k : Int), (m0 : Int)]).toArray 41))
      replace QV := Lib.hid (QV.out.alloc (.cells (ints [(k : Int), (m0 : Int)]).toArray 41))
      have hcr := RC.lt
      have hzr := Z.lt
      replace RC := RC.alloc (.cells (ints [(k : Int), (m0 : Int)]).toArray 41)
      replace Z := Z.alloc (.cells (ints [(k : Int), (m0 : Int)]).toArray 41)
      replace HB := Lib.hid (HB.out.alloc (.cells (ints [(k : Int), (m0 : Int)]).toArray 41))
      go_upto_region 7 with (first | (refine wpList_load_mid rfl 41 _ rfl gu 0 rfl (ints [(k : Int), (m0 : Int)]) _ R0.out Try.underlying41 rfl (by kernel_rfl) ?_) | (refine guardY (isStY 41) ?_ ?_; (· rfl); (refine store_new rfl 41 _ _ rfl _ _ _ rfl _ rfl _ rfl rfl ?_ ?_ ?_; (· (first | assumption | rfl)); (· kernel_rfl))))
      obtain ⟨wb, hwb⟩ : ∃ wb, wr.heap.size = wb := ⟨_, rfl⟩
      rw [hwb] at XW uow vow hcr hzr ⊢
      generalize wr.alloc (.cells (ints [(k : Int), (m0 : Int)]).toArray 41) = W3 at *
      clear hwb R0
      rw [← HM0.out] at XW
      go_wp2_with fail
      go_loopw [28] (fun x wq => ∃ i : Nat, i ≤ N ∧ x = .int .i64 i ∧ Has wq wb [(k : Int), ((wdP P i : Nat) : Int)] 2 ∧ Hid (Rw wq 0 (.slice (some ⟨gu, 0, none⟩) N uc) N (flatP P)) ∧ Hid (Rw wq 0 (.slice va gk vc) gk fc) ∧ Ry wq c ns (.slice va gk vc) 33 ∧ Ry wq (w.heap.size + 1) z24 (.slice none 0 0) 33 ∧ Hid (Kept w wq)) (fun x _ => N - (intOf x).toNat)
      case atStart => exact ⟨0, by omega, rfl, XW, QU, QV, RC, Z, HB⟩
      case round =>
        clear XW QU QV RC Z HB
        obtain ⟨i, hi, rfl, XW, QU, QV, RC, Z, HB⟩ := hrel
        by_cases hlt : i < N
        · have ii : (i : Int) < (N : Int) := by omega
          have i0 : (0 : Int) ≤ (i : Int) := by omega
          have RI := Lib.hid (QU.out.pairAt HN.out.symm i hlt)
          have NX := Lib.hid (wd_next P i)
          rw [← EK.out] at NX
          obtain ⟨a, ha⟩ : ∃ a, (P.getD i (0, 0)).1 = a := ⟨_, rfl⟩
          obtain ⟨d, hd⟩ : ∃ d, (P.getD i (0, 0)).2 = d := ⟨_, rfl⟩
          rw [ha, hd] at RI NX
          obtain ⟨q, hq⟩ : ∃ q, wdP P i = q := ⟨_, rfl⟩
          rw [hq] at NX XW
          clear ha hd hq
          have XI := Has.box (ns := [(a : Int), (d : Int)]) (n := 2) wr 41 rfl (by omega)
          replace XW := XW.alloc (.cells (ints [(a : Int), (d : Int)]).toArray 41)
          replace QU := Lib.hid (QU.out.alloc (.cells (ints [(a : Int), (d : Int)]).toArray 41))
          replace QV := Lib.hid (QV.out.alloc (.cells (ints [(a : Int), (d : Int)]).toArray 41))
          replace RC := RC.alloc (.cells (ints [(a : Int), (d : Int)]).toArray 41)
          replace Z := Z.alloc (.cells (ints [(a : Int), (d : Int)]).toArray 41)
          replace HB := Lib.hid (HB.out.alloc (.cells (ints [(a : Int), (d : Int)]).toArray 41))
          go_upto_region 10 with (first | (refine wpList_load_mid rfl 41 _ rfl gu (i * 2) rfl (ints [(a : Int), (d : Int)]) _ RI.out Try.underlying41 rfl (by kernel_rfl) ?_) | (refine guardY (isStY 41) ?_ ?_; (· rfl); (refine store_new rfl 41 _ _ rfl _ _ _ rfl _ rfl _ rfl rfl ?_ ?_ ?_; (· (first | assumption | rfl)); (· kernel_rfl))))
          obtain ⟨xb, hxb⟩ : ∃ xb, wr.heap.size = xb := ⟨_, rfl⟩
          rw [hxb] at XI ⊢
          generalize wr.alloc (.cells (ints [(a : Int), (d : Int)]).toArray 41) = W4 at *
          clear hxb RI
          go_wp2_with (first | (refine guardY (isLdY 41) ?_ ?_; (· rfl); refine load_has rfl 41 _ rfl xb rfl [(a : Int), (d : Int)] 2 XI _ Try.underlying41 rfl ?_ ?_; (· kernel_rfl)) | (refine guardY (isLdY 41) ?_ ?_; (· rfl); refine load_has rfl 41 _ rfl wb rfl [(k : Int), (q : Int)] 2 XW _ Try.underlying41 rfl ?_ ?_; (· kernel_rfl)))
          refine (isWider_any (a : Int) (d : Int) (k : Int) (q : Int) _).mono ?_
          rintro e w5 ⟨rfl, b5⟩
          replace XW := XW.below b5
          replace XI := XI.below b5
          replace QU := Lib.hid (QU.out.below b5)
          replace QV := Lib.hid (QV.out.below b5)
          replace RC := RC.below b5
          replace Z := Z.below b5
          replace HB := Lib.hid (HB.out.call b5)
          clear b5
          obtain ⟨B, hB⟩ : ∃ B, decide ((a : Int) = (k : Int) ∧ (q : Int) < (d : Int)) = B := ⟨_, rfl⟩
          rw [hB] at NX ⊢
          have HAK : Hid (B = true → (a : Int) = (k : Int)) := Lib.hid (fun h => (of_decide_eq_true (hB.trans h)).1)
          clear hB
          cases B with
          | true =>
            have EN := Lib.hid (NX.out.1 rfl)
            have hak := Lib.hid (HAK.out rfl)
            rw [hak.out] at XI
            have U2 := Lib.hid (QU.out.puts wb 0 (ints [(k : Int), (d : Int)]) (fun _ e => by have := uow.out wb e; omega))
            have V2 := Lib.hid (QV.out.puts wb 0 (ints [(k : Int), (d : Int)]) (fun h0 e => by have := vow.out h0 wb e; omega))
            have C2 := RC.putOther (q := wb) 0 (ints [(k : Int), (d : Int)]) (by omega)
            have Z2 := Z.putOther (q := wb) 0 (ints [(k : Int), (d : Int)]) (by omega)
            have B2 := Lib.hid (HB.out.puts (b := wb) (by omega) 0 (ints [(k : Int), (d : Int)]))
            have X2 := XW.putAll [(k : Int), (d : Int)] rfl
            go_wp2_with (first | (refine guardY (isLdY 41) ?_ ?_; (· rfl); refine load_has rfl 41 _ rfl xb rfl [(k : Int), (d : Int)] 2 XI _ Try.underlying41 rfl ?_ ?_; (· kernel_rfl)) | (refine guardY (isStY 41) ?_ ?_; (· rfl); refine store_at rfl 41 _ _ rfl _ [(k : Int), (d : Int)] rfl rfl _ 2 XW rfl ?_ ?_; (· kernel_rfl)))
            go_roundw
            case rel => exact ⟨i + 1, by omega, by go_num, by rw [EN.out]; exact X2, U2, V2, C2, Z2, B2⟩
            case measure => simp [intOf]; omega
          | false =>
            have EN := Lib.hid (NX.out.2 rfl)
            go_wp2_with fail
            go_roundw
            case rel => exact ⟨i + 1, by omega, by go_num, by rw [EN.out]; exact XW, QU, QV, RC, Z, HB⟩
            case measure => simp [intOf]; omega
        · obtain rfl : i = N := by omega
          rw [← EM.out] at XW
          have cc0 := XW.cell 0 (by omega)
          have cc1 := XW.cell 1 (by omega)
          rw [List.getD_cons_zero] at cc0
          rw [List.getD_cons_succ, List.getD_cons_zero] at cc1
          have hgn : gk ≤ 1048576 := by omega
          go_wp2_with (refine guardY (isLdY 33) ?_ ?_; (· rfl); refine load_ry rfl 33 _ rfl c rfl _ _ _ RC _ Try.underlying33 rfl ?_ ?_; (· kernel_rfl))
          refine (KW.out _ _ fc gk k m _ QV.out hgn (by have := CIN.out; omega) (by have := CIN.out; omega)).mono ?_
          rintro e w6 ⟨v6, rfl, q6, b6⟩
          obtain ⟨n', hn'⟩ : ∃ n', gk - (m - k) = n' := ⟨_, rfl⟩
          obtain ⟨f', hf'⟩ : ∃ f', outF fc k m = f' := ⟨_, rfl⟩
          rw [hn', hf'] at q6 ST1
          rw [hn'] at ST2 ST3
          clear hn' hf'
          obtain ⟨va', vc', rfl⟩ := q6.shape
          have ow6 := Lib.hid (fun h0 z hz => (q6.ownlt h0 z hz))
          have hcr6 := RC.lt
          have hzr6 := Z.lt
          have hwr6 := HB.out.size
          replace RC := RC.below b6
          replace Z := Z.below b6
          replace HB := Lib.hid (HB.out.call b6)
          have C7 := RC.putAll ns (.slice va' n' vc') H24.out
          have Z7 := Z.putOther (q := c) 0 (rpC ns (.slice va' n' vc')) (by omega)
          have B7 := Lib.hid (HB.out.puts (b := c) (by omega) 0 (rpC ns (.slice va' n' vc')))
          have V7 := Lib.hid ((q6.mono (b' := 0) (Nat.zero_le _)).puts c 0 (rpC ns (.slice va' n' vc')) (fun h0 e => by have := ow6.out h0 c e; omega))
          have VS7 : Hid (0 < n' → ∀ z, (Value.slice va' n' vc').ownBlock = some z → z ≠ c ∧ w.heap.size + 2 ≤ z) := Lib.hid (fun h0 z hz => by have := ow6.out h0 z hz; omega)
          clear q6 b6 cc0 cc1 XW QU QV HB ow6
          go_upto_region 14 with (refine guardY (isStY 33) ?_ ?_; (· rfl); refine store_ry rfl 33 _ _ rfl c rfl ns (.slice va' n' vc') rfl _ _ _ RC H24.out rfl ?_ ?_; (· kernel_rfl))
          clear RC Z
          have hw7 : c < (w6.setCells c 0 (rpC ns (.slice va' n' vc'))).heap.size := C7.lt
          generalize World.setCells w6 c 0 (rpC ns (.slice va' n' vc')) = W7 at *
          have st3 := ST3.out
          go_wp2_with (refine guardY (isLdY 33) ?_ ?_; (· rfl); refine load_ry rfl 33 _ rfl c rfl _ _ _ C7 _ Try.underlying33 rfl ?_ ?_; (· kernel_rfl))
          refine (KL.out _ _ f' n' _ V7.out (by omega)).mono ?_
          rintro e w8 ⟨u8, rfl, q8, b8⟩
          rw [LF.out, LN.out] at q8
          have US8 : Hid (0 < (lpA ns f' n').length → ∀ z, u8.ownBlock = some z → z ≠ c) := Lib.hid (fun h0 z hz => by have := (q8.ownlt h0 z hz).1; omega)
          have Q8 := Lib.hid (q8.mono (b' := 0) (Nat.zero_le _))
          replace C7 := C7.below b8
          replace Z7 := Z7.below b8
          replace V7 := Lib.hid (V7.out.below b8)
          replace B7 := Lib.hid (B7.out.call b8)
          have CT2 : Hid (ctR ns t' f' n' = ctR ns n fs n) := Lib.hid (by rw [← ST1.out]; exact CT.out)
          have st2 := ST2.out
          clear q8 b8
          go_wp2_with fail
          go_roundg n'
          case rel => exact ⟨f', n', t', va', vc', rfl, by omega, st2, CT2, Q8, V7, C7, Z7, B7, US8, VS7⟩
          case measure => exact st3
    · have e0 : (lpA ns fc gk).length = 0 := by rw [HP.out, HN.out]; omega
      have EE := Lib.hid (C0.out fc gk e0 t)
      have EC : Hid (ctN ns fs n = gk ∧ ctF ns fs n = fc) := Lib.hid (by
        have := CT.out
        rw [EE.out] at this
        unfold ctN ctF
        rw [← this]; exact ⟨rfl, rfl⟩)
      have hNf : decide ((0 : Int) < (N : Int)) = false := by simp; omega
      have hNn : ¬ (0 : Int) < (N : Int) := by omega
      have hNz : N = 0 := by omega
      have S1 := Lib.hid (Z.putAll ns (.slice va gk vc) H24.out)
      have S2 := Lib.hid (HB.out.puts (b := w.heap.size + 1) (by omega) 0 (rpC ns (.slice va gk vc)))
      have S3 := Lib.hid (Rw.grab (QV.out.puts (w.heap.size + 1) 0 (rpC ns (.slice va gk vc)) (fun h0 e => by have := (VS.out h0 _ e).2; omega)) (fun h0 z hz => by have := (VS.out h0 z hz).2; omega) : Rw _ w.heap.size _ gk fc)
      go_wp2_with (first | (refine guardY (isLdY 33) ?_ ?_; (· rfl); refine load_ry rfl 33 _ rfl c rfl _ _ _ RC _ Try.underlying33 rfl ?_ ?_; (· kernel_rfl)) | (refine guardY (isStY 33) ?_ ?_; (· rfl); refine store_ry rfl 33 _ _ rfl (w.heap.size + 1) rfl ns (.slice va gk vc) rfl _ _ _ Z H24.out rfl ?_ ?_; (· kernel_rfl)))
      exact bodyPost_ret (res_ry1 rfl _ _ (w.heap.size + 1) ns _ _ _ (.bool true) rfl rfl S1.out Try.underlying33 rfl (by kernel_rfl)) rfl ⟨_, by rw [E.out]; rfl, by rw [E.out, EC.out.1, EC.out.2]; exact S3.out, S2.out⟩
end Go.Proofs.Ytalngdccjoafhaa.base
