/-
  Loops that are cut out, walked on the model's side.
-/
import Derived.Test.YtalngdccjoafhaaRyCi
import Derived.Test.YtalngdccjoafhaaRyCZ
import Derived.Test.YtalngdccjoafhaaRyS
namespace Go.Proofs.Ytalngdccjoafhaa.base
open Go.ChangeShapes Go.WideShapes Go.ChangeAt Go.RowKit
set_option linter.unusedVariables false
set_option linter.unusedSimpArgs false

/-- Where a part of a row of pairs begins. -/
def loA (g cap m : Nat) : Option Addr := if cap = m then some ⟨g, 0, none⟩ else some ⟨g, m * 2, none⟩
theorem run_loP {P : Program} (w : World) (T : TypeId) (g len cap m : Nat) (hT : P.underlying T = some (.slice (P.elem T))) (hz : (sizeOf (P.elem T)).run P w = .ok 2 w) (hm : m ≤ len) :
    (Instr.sliceAt T (.slice (some ⟨g, 0, none⟩) len cap) (some (.int .i64 (m : Int))) none none).run P w = .ok (.slice (loA g cap m) (len - m) (cap - m)) w := by
  rw [run_sliceAt_slice w T _ _ _ _ hT, run_slice_l w T (some ⟨g, 0, none⟩) len cap hT .i64 (m : Int) (by omega) (by omega), hz]
  simp only [Result.andThen_ok, sliced, Int.toNat_natCast, Option.map_some]
  unfold loA
  rw [add_lit, Nat.zero_add]
theorem exec_loY {P : Program} {ev : Operand → Value} {op : Oper} {w : World} {T : TypeId} {x y : Operand} {u v r : Value} (ho : op.op = .slice T x (some y) none none) (hx : ev x = u) (hy : ev y = v) (hq : (Instr.sliceAt T u (some v) none none).run P w = .ok r w) : Sem.run P (execOp ev op) w = .ok (.value r) w := by
  unfold execOp
  simp only [ho, hx, hy, Option.map_some, Option.map_none, Sem.run_bind, hq, Result.andThen_ok, Sem.run_pure]
theorem Rw.fromDrop {w : World} {b n g cap : Nat} {fs : List Int} (h : Rw w b (.slice (some ⟨g, 0, none⟩) n cap) n fs) (m : Nat) (hn : 0 < n) : From w (loA g cap m) (fs.drop (m * 2)) := fun h0 => by
  have hl := h.flat
  have hr := h.room hn
  rw [List.length_drop] at h0
  unfold loA
  rw [if_neg (by omega)]
  refine ⟨_, rfl, fun j v hj => ?_⟩
  have hj2 : j < (fs.drop (m * 2)).length := by have := (List.getElem?_eq_some_iff.1 hj).1; rwa [ints_len] at this
  rw [ints_get _ _ hj2] at hj
  rw [List.length_drop] at hj2
  rw [add_lit, h.cell (m * 2 + j) (by omega), ← hj, List.getD_eq_getElem?_getD, List.getD_eq_getElem?_getD, List.getElem?_drop]

set_option maxHeartbeats 6400000 in
set_option maxRecDepth 100000 in
theorem specCut (ns fs : List Int) (v : Value) (n b : Nat) (w : World) (h24 : ns.length = 24) (hn : n ≤ 1048576) (h : Rw w b v n fs) :
    Calls Try.prog 32 #[rpV ns v] w (RepPost (rpOk ns fs n) ns (ctN ns fs n) (ctF ns fs n) w) := by
  obtain ⟨a0, cap0, rfl⟩ := h.shape
  have RY := (Ry.box (v := .slice a0 n cap0) w 33 h24).alloc (.cells z25.toArray 33)
  have Z := (Ry.zero (w.alloc (.cells (rpC ns (.slice a0 n cap0)).toArray 33)) 33).at (size1 _ _)
  have HB := Lib.hid (((kept_refl w).alloc (.cells (rpC ns (.slice a0 n cap0)).toArray 33)).alloc (.cells z25.toArray 33))
  have HR := Lib.hid ((h.alloc (.cells (rpC ns (.slice a0 n cap0)).toArray 33)).alloc (.cells z25.toArray 33))
  have hsz : ((w.alloc (.cells (rpC ns (.slice a0 n cap0)).toArray 33)).alloc (.cells z25.toArray 33)).heap.size = w.heap.size + 2 := by simp
  have KL := Lib.hid (fun V b2 fs2 n2 W q hn2 => l11Racks_any ns fs2 V n2 b2 W h24 hn2 q)
  have KO := Lib.hid (fun f2 n2 U b2 W q => l11Loops_any (rkA ns f2 n2) U b2 W (rk_le ns f2 n2) q)
  have LH := Lib.hid (show ∀ f2 n2, lpL (rkA ns f2 n2) = flatP (lpA ns f2 n2) ∧ (lpL (rkA ns f2 n2)).length / 2 = (lpA ns f2 n2).length from fun f2 n2 => ⟨lpL_flat _, lpL_half _⟩)
  have AS := Lib.hid (fun f2 n2 (h : 0 < (lpA ns f2 n2).length) => (lpA_ok (ns := ns) (fs := f2) (n := n2) h).2)
  have FL := Lib.hid h.flat
  have CI := Lib.hid (fun f c (h : 0 < (lpA ns f c).length) => ct_in h)
  have CS := Lib.hid (fun f c t (h : 0 < (lpA ns f c).length) (ht : c ≤ t) => ct_step h ht)
  have C0 := Lib.hid (fun f c (h : (lpA ns f c).length = 0) t => ct_stop h t)
  have LF := Lib.hid (fun f c => lpF_flat ns f c)
  have LN := Lib.hid (fun f c => lpN_len ns f c)
  have LN2 := Lib.hid (fun f c => lpN_le ns f c)
  clear h
  unfold rpV
  go_enter Try.func32, Try.ntmps32
  go_upto_region 1 with fail
  try rw [cells25C]
  generalize ((w.alloc (.cells (rpC ns (.slice a0 n cap0)).toArray 33)).alloc (.cells z25.toArray 33)) = W at *
  go_wp2_with (refine guardY (isLdY 33) ?_ ?_; (· rfl); refine load_ry rfl 33 _ rfl w.heap.size rfl _ _ _ RY _ Try.underlying33 rfl ?_ ?_; (· kernel_rfl))
  refine (KL.out _ _ fs n _ HR.out hn).mono ?_
  rintro e w1 ⟨u, rfl, q1, b1⟩
  have hws : w.heap.size + 2 ≤ w1.heap.size := by have := b1.size; omega
  replace RY := RY.below b1
  replace Z := Z.below b1
  replace HB := Lib.hid (HB.out.call b1)
  replace HR := Lib.hid (HR.out.below b1)
  clear b1
  cases hok : rpOk ns fs n with
  | false =>
    have E := Lib.hid hok
    have S1 := Lib.hid (Z.putAll z24 (.slice none 0 0) rfl)
    have S2 := Lib.hid (HB.out.puts (b := w.heap.size + 1) (by omega) 0 (rpC z24 (.slice none 0 0)))
    clear hok q1
    go_wp2_with (first | (refine guardY (isBdY 33) ?_ ?_; (· rfl); refine build_law rfl 33 rfl _ buildRpZ ?_) | (refine guardY (isStY 33) ?_ ?_; (· rfl); refine store_ry rfl 33 _ _ rfl (w.heap.size + 1) rfl z24 (.slice none 0 0) rfl _ _ _ Z rfl rfl ?_ ?_; (· kernel_rfl)))
    exact bodyPost_ret (res_ry1 rfl _ _ (w.heap.size + 1) z24 _ _ _ (.bool false) rfl rfl S1.out Try.underlying33 rfl (by kernel_rfl)) rfl ⟨.slice none 0 0, by rw [E.out]; rfl, by rw [E.out]; exact Rw.nil _ _, S2.out⟩
  | true =>
  have E := Lib.hid hok
  have n60 := rp_le hok
  have H24 := Lib.hid h24
  have ET : Hid (fs.take (n * 2) = fs) := Lib.hid (List.take_of_length_le (by rw [FL.out]; omega))
  have G1 := Lib.hid q1
  clear hok q1
  have c24 := RY.pours
  go_wp2_with (refine guardY (isLdY 33) ?_ ?_; (· rfl); refine load_ry rfl 33 _ rfl w.heap.size rfl _ _ _ RY _ Try.underlying33 rfl ?_ ?_; (· kernel_rfl))
  refine (l11CutG_any ns fs (.slice a0 n cap0) n b n _ h24 hn HR.out (Nat.le_refl _)).mono ?_
  rintro e w2 ⟨g, gc, rfl, q2, b2⟩
  rw [ET.out] at q2
  have ow := World.ownsRow.lt q2 g rfl
  have ow1 : w.heap.size + 2 ≤ g := by omega
  have ow2 : g < w2.heap.size := ow.2
  have hs2 := b2.size
  replace G1 := Lib.hid ((G1.out.below b2).alloc (.cells (rpC ns (.slice (some ⟨g, 0, none⟩) n gc)).toArray 33))
  replace Z := (Z.below b2).alloc (.cells (rpC ns (.slice (some ⟨g, 0, none⟩) n gc)).toArray 33)
  replace HB := Lib.hid ((HB.out.call b2).alloc (.cells (rpC ns (.slice (some ⟨g, 0, none⟩) n gc)).toArray 33))
  have RC := Ry.box (v := .slice (some ⟨g, 0, none⟩) n gc) w2 33 h24
  have QV := Lib.hid ((q2.rw.mono (b' := 0) (Nat.zero_le _)).alloc (.cells (rpC ns (.slice (some ⟨g, 0, none⟩) n gc)).toArray 33))
  have VS : Hid (∀ z, (Value.slice (some ⟨g, 0, none⟩) n gc).ownBlock = some z → z ≠ w2.heap.size ∧ w.heap.size + 2 ≤ z) := Lib.hid (fun z hz => by have := Option.some.inj (show some g = some z from hz); omega)
  clear q2 b2 HR RY ow ow2 c24
  go_upto_region 5 with (refine guardY (isStY 33) ?_ ?_; (· rfl); refine store_newry rfl 33 _ _ rfl w2 _ _ rfl _ rfl ns (.slice (some ⟨g, 0, none⟩) n gc) rfl rfl rfl h24 rfl ?_ ?_; (· kernel_rfl))
  have hcl := RC.lt
  obtain ⟨c, hc⟩ : ∃ c, w2.heap.size = c := ⟨_, rfl⟩
  rw [hc] at RC VS hs2 hcl ⊢
  generalize w2.alloc (.cells (rpC ns (.slice (some ⟨g, 0, none⟩) n gc)).toArray 33) = W2 at *
  have hcw : w.heap.size + 2 ≤ c := by omega
  clear hc hs2
  go_wp2_with fail
  refine (KO.out fs n u _ W2 G1.out).mono ?_
  rintro e w3 ⟨x3, rfl, q3, b3⟩
  rw [(LH.out fs n).1, ← (LH.out fs n).1, (LH.out fs n).2, (LH.out fs n).1] at q3
  have US : Hid (0 < (lpA ns fs n).length → ∀ z, x3.ownBlock = some z → z ≠ c) := Lib.hid (fun _ z hz => by have := (World.ownsRow.lt q3 z hz).1; omega)
  have QU := Lib.hid (q3.rw.mono (b' := 0) (Nat.zero_le _))
  replace QV := Lib.hid (QV.out.below b3)
  replace RC := RC.below b3
  replace Z := Z.below b3
  replace HB := Lib.hid (HB.out.call b3)
  clear q3 b3 G1
  go_wp2_with fail
  go_loopg [7] n (fun gk x wr => ∃ (fc : List Int) (nc t : Nat) (va : Option Addr) (vc : Nat), gk = nc ∧ nc ≤ n ∧ nc ≤ t ∧ Hid (ctR ns t fc nc = ctR ns n fs n) ∧ Hid (Rw wr 0 x (lpA ns fc nc).length (flatP (lpA ns fc nc))) ∧ Hid (Rw wr 0 (.slice va nc vc) nc fc) ∧ Ry wr c ns (.slice va nc vc) 33 ∧ Ry wr (w.heap.size + 1) z24 (.slice none 0 0) 33 ∧ Hid (Kept w wr) ∧ Hid (0 < (lpA ns fc nc).length → ∀ z, x.ownBlock = some z → z ≠ c) ∧ Hid (0 < nc → ∀ z, (Value.slice va nc vc).ownBlock = some z → z ≠ c ∧ w.heap.size + 2 ≤ z))
  case atStart => exact ⟨fs, n, n, _, _, rfl, Nat.le_refl _, Nat.le_refl _, Lib.hid rfl, QU, QV, RC, Z, HB, US, Lib.hid (fun _ => VS.out)⟩
  case round =>
    clear QU QV RC Z HB US VS
    obtain ⟨fc, nc, t, va, vc, rfl, hnc, hct, CT, QU, QV, RC, Z, HB, US, VS⟩ := hrel
    obtain ⟨P, hP⟩ : ∃ P, lpA ns fc gk = P := ⟨_, rfl⟩
    have HP := Lib.hid hP
    rw [hP] at QU US
    have PL := LN2.out fc gk
    rw [LN.out, hP] at PL
    clear hP
    obtain ⟨ua, uc, rfl⟩ := QU.out.shape
    obtain ⟨N, hN⟩ : ∃ N, P.length = N := ⟨_, rfl⟩
    have HN := Lib.hid hN
    rw [hN] at QU US PL ⊢
    clear hN
    by_cases h0 : 0 < N
    · have P0 : 0 < (lpA ns fc gk).length := by rw [HP.out, HN.out]; exact h0
      have CIN := Lib.hid (CI.out fc gk P0)
      obtain ⟨t', st1, st2, st3⟩ := CS.out fc gk t P0 hct
      have EK : Hid (ctK ns fc gk = (P.getD 0 (0, 0)).1) := Lib.hid (by unfold ctK; rw [HP.out])
      have EM : Hid (ctM ns fc gk = wdP P N) := Lib.hid (by unfold ctM; rw [HP.out, HN.out])
      obtain ⟨k, hk⟩ : ∃ k, ctK ns fc gk = k := ⟨_, rfl⟩
      obtain ⟨m, hm⟩ : ∃ m, ctM ns fc gk = m := ⟨_, rfl⟩
      rw [hk, hm] at st1 st2 st3 CIN
      rw [hk] at EK
      rw [hm] at EM
      have ST1 := Lib.hid st1
      have ST2 := Lib.hid st2
      have ST3 := Lib.hid st3
      clear st1 st2 st3 hk hm P0
      obtain ⟨gu, cu, he, _, hgu⟩ := QU.out.form h0
      injection he with e1 _ e3
      subst e1
      subst e3
      have AC := Lib.hid (AS.out fc gk (by rw [HP.out, HN.out]; exact h0))
      rw [HP.out] at AC
      obtain ⟨e00, e01⟩ := flatP_get P 0 (by rw [HN.out]; exact h0)
      have c0 := QU.out.cell (0 * 2) (by omega)
      have c1 := QU.out.cell (0 * 2 + 1) (by omega)
      rw [e00, ← EK.out, Nat.zero_mul] at c0
      rw [e01, Nat.zero_mul, Nat.zero_add] at c1
      obtain ⟨m0, hm0⟩ : ∃ m0, (P.getD 0 (0, 0)).2 = m0 := ⟨_, rfl⟩
      have HM0 : Hid (wdP P 1 = m0) := Lib.hid (by rw [wd_same AC.out 0 (by rw [HN.out]; exact h0) rfl, hm0])
      rw [hm0] at c1
      have CC0 := Lib.hid (fun w' (hw : Kept wr w') => (hw.cell (p := ⟨gu, 0, none⟩) hgu).trans c0)
      have CC1 := Lib.hid (fun w' (hw : Kept wr w') => (hw.cell (p := ⟨gu, 1, none⟩) hgu).trans c1)
      clear hm0 e00 e01 c0 c1
      have hNi : (0 : Int) < (N : Int) := by omega
      have hN0 : decide ((0 : Int) < (N : Int)) = true := by simpa using hNi
      have ngk : 0 < gk := by have := CIN.out; omega
      obtain ⟨gv, cv, hev, _, hgv⟩ := QV.out.form ngk
      injection hev with ev1 _ ev3
      subst ev1
      subst ev3
      have FLC := Lib.hid QV.out.flat
      have hkv : Hid (k ≤ vc) := Lib.hid (by have := QV.out.room ngk; have := CIN.out; omega)
      have VG : Hid (gv ≠ c ∧ w.heap.size + 2 ≤ gv) := Lib.hid (VS.out ngk gv rfl)
      go_wp2_with fail
      refine wp_region_held_drew (S := fun w' => Kept wr w') (by kernel_rfl) ((kept_refl wr).drewN 1) (fun hHeld => ?_)
      (refine wpAnyH_take (i := 0) (v := ?_) rfl (by kernel_rfl) (by kernel_rfl) (by kernel_rfl) (fun _ _ _ h => h) (Or.inl ⟨by rfl, ?_⟩) hHeld ?_; rotate_left; (· (intro w' hSw; go_simp; try with_reducible rfl)); (try simp only [List.getElem_toArray, List.getElem_cons_zero, List.getElem_cons_succ, Act.put, List.setIfInBounds_toArray, List.set_cons_zero, List.set_cons_succ])); (refine wpAnyH_take (i := 1) (v := ?_) rfl (by kernel_rfl) (by kernel_rfl) (by kernel_rfl) (fun _ _ _ h => h) (Or.inl ⟨by rfl, ?_⟩) hHeld ?_; rotate_left; (· (intro w' hSw; go_simp; try with_reducible rfl)); (try simp only [List.getElem_toArray, List.getElem_cons_zero, List.getElem_cons_succ, Act.put, List.setIfInBounds_toArray, List.set_cons_zero, List.set_cons_succ])); (refine wpAnyH_take (i := 2) (v := ?_) rfl (by kernel_rfl) (by kernel_rfl) (by kernel_rfl) (fun _ _ _ h => h) (Or.inl ⟨by rfl, ?_⟩) hHeld ?_; rotate_left; (· (intro w' hSw; go_simp; try with_reducible rfl)); (try simp only [List.getElem_toArray, List.getElem_cons_zero, List.getElem_cons_succ, Act.put, List.setIfInBounds_toArray, List.set_cons_zero, List.set_cons_succ])); (refine wpAnyH_take (i := 4) (v := ?_) rfl (by kernel_rfl) (by kernel_rfl) (by kernel_rfl) (fun _ _ _ h => h) (Or.inl ⟨by rfl, ?_⟩) hHeld ?_; rotate_left; (· (intro w' hSw; go_simp; try with_reducible rfl)); (try simp only [List.getElem_toArray, List.getElem_cons_zero, List.getElem_cons_succ, Act.put, List.setIfInBounds_toArray, List.set_cons_zero, List.set_cons_succ])); (refine wpAnyH_take (i := 5) (v := ?_) rfl (by kernel_rfl) (by kernel_rfl) (by kernel_rfl) (fun _ _ _ h => h) (Or.inl ⟨by rfl, ?_⟩) hHeld ?_; rotate_left; (· (intro w' hSw; go_simp; try with_reducible rfl)); (try simp only [List.getElem_toArray, List.getElem_cons_zero, List.getElem_cons_succ, Act.put, List.setIfInBounds_toArray, List.set_cons_zero, List.set_cons_succ])); (refine wpAnyH_take (i := 6) (v := ?_) rfl (by kernel_rfl) (by kernel_rfl) (by kernel_rfl) (fun _ _ _ h => h) (Or.inl ⟨by rfl, ?_⟩) hHeld ?_; rotate_left; (· (intro w' hSw; go_simp; try with_reducible rfl)); (try simp only [List.getElem_toArray, List.getElem_cons_zero, List.getElem_cons_succ, Act.put, List.setIfInBounds_toArray, List.set_cons_zero, List.set_cons_succ]))
      (refine wpAnyH_take (i := 3) (v := .int .i64 (k : Int)) rfl (by kernel_rfl) (by kernel_rfl) (by kernel_rfl) (fun _ _ _ h => h) (Or.inl ⟨by rfl, ?_⟩) hHeld ?_; (· (intro w' hSw; have q := CC0.out w' hSw; clear hSw; go_simp; try with_reducible rfl)); (try simp only [List.getElem_toArray, List.getElem_cons_zero, List.getElem_cons_succ, Act.put, List.setIfInBounds_toArray, List.set_cons_zero, List.set_cons_succ]))
      (refine wpAnyH_take (i := 7) (v := .int .i64 (m0 : Int)) rfl (by kernel_rfl) (by kernel_rfl) (by kernel_rfl) (fun _ _ _ h => h) (Or.inl ⟨by rfl, ?_⟩) hHeld ?_; (· (intro w' hSw; have q := CC1.out w' hSw; clear hSw; go_simp; try with_reducible rfl)); (try simp only [List.getElem_toArray, List.getElem_cons_zero, List.getElem_cons_succ, Act.put, List.setIfInBounds_toArray, List.set_cons_zero, List.set_cons_succ]))
      (refine wpAnyH_take (i := 8) (v := ?_) rfl (by kernel_rfl) (by kernel_rfl) (by kernel_rfl) (fun _ _ _ h => h) (Or.inl ⟨by rfl, ?_⟩) hHeld ?_; rotate_left; (· (intro w' hSw; go_simp; try with_reducible rfl)); (try simp only [List.getElem_toArray, List.getElem_cons_zero, List.getElem_cons_succ, Act.put, List.setIfInBounds_toArray, List.set_cons_zero, List.set_cons_succ])); (refine wpAnyH_take (i := 9) (v := ?_) rfl (by kernel_rfl) (by kernel_rfl) (by kernel_rfl) (fun _ _ _ h => h) (Or.inl ⟨by rfl, ?_⟩) hHeld ?_; rotate_left; (· (intro w' hSw; go_simp; try with_reducible rfl)); (try simp only [List.getElem_toArray, List.getElem_cons_zero, List.getElem_cons_succ, Act.put, List.setIfInBounds_toArray, List.set_cons_zero, List.set_cons_succ]))
      refine wpAnyH_done (by kernel_rfl) ?_ _
      replace QU := Lib.hid (QU.out.below hHeld)
      replace QV := Lib.hid (QV.out.below hHeld)
      replace RC := RC.below hHeld
      replace Z := Z.below hHeld
      replace HB := Lib.hid (HB.out.call hHeld)
      clear CC0 CC1 hHeld
      generalize World.drew wr = w6 at *
      rw [← HM0.out]
      go_wp2_with fail
      go_loopg [9, 10] (N - 1) (fun gi x y wq => ∃ i : Nat, gi = N - i ∧ 1 ≤ i ∧ i ≤ N ∧ x = .int .i64 ((wdP P i : Nat) : Int) ∧ y = .int .i64 i ∧ w6 = wq)
      case atStart => exact ⟨1, rfl, Nat.le_refl _, by omega, rfl, rfl, rfl⟩
      case round =>
        obtain ⟨i, rfl, hi1, hi, rfl, rfl, rfl⟩ := hrel
        have i0 : (0 : Int) ≤ (i : Int) := by omega
        by_cases hgo : i < N ∧ (P.getD i (0, 0)).1 = k
        · obtain ⟨hlt, hak⟩ := hgo
          have ii : (i : Int) < (N : Int) := by omega
          obtain ⟨e00, e01⟩ := flatP_get P i (by rw [HN.out]; exact hlt)
          have c0 := QU.out.cell (i * 2) (by omega)
          have c1 := QU.out.cell (i * 2 + 1) (by omega)
          rw [e00, hak] at c0
          rw [e01] at c1
          have EN := Lib.hid (wd_same AC.out i (by rw [HN.out]; exact hlt) (by rw [hak]; exact EK.out))
          obtain ⟨d, hd⟩ : ∃ d, (P.getD i (0, 0)).2 = d := ⟨_, rfl⟩
          rw [hd] at c1 EN
          clear e00 e01 hd
          go_wp2_with fail
          go_roundg (N - (i + 1))
          case rel => exact ⟨i + 1, rfl, by omega, by omega, by rw [EN.out], by go_num, rfl⟩
          case measure => omega
        · have EMW : Hid (wdP P i = m) := Lib.hid (by
            rw [EM.out]
            by_cases hl : i < N
            · have he : ¬ (P.getD i (0, 0)).1 = (P.getD 0 (0, 0)).1 := by rw [← EK.out]; exact fun e => hgo ⟨hl, e⟩
              have := wd_rest AC.out he (N - i) (by rw [HN.out]; omega)
              rw [show i + (N - i) = N by omega] at this
              exact this.symm
            · rw [show i = N by omega])
          rw [EMW.out]
          obtain ⟨n', hn'⟩ : ∃ n', gk - (m - k) = n' := ⟨_, rfl⟩
          obtain ⟨f', hf'⟩ : ∃ f', outF fc k m = f' := ⟨_, rfl⟩
          rw [hn', hf'] at ST1
          rw [hn'] at ST2 ST3
          have HF : Hid (fc.take (k * 2) ++ fc.drop (m * 2) = f') := Lib.hid hf'
          have HN' := Lib.hid hn'
          clear hn' hf'
          have hcr6 := RC.lt
          have hzr6 := Z.lt
          have hwr6 := HB.out.size
          by_cases hl : i < N
          case' pos =>
            have ii : (i : Int) < (N : Int) := by omega
            obtain ⟨e00, e01⟩ := flatP_get P i (by rw [HN.out]; exact hl)
            have c0 := QU.out.cell (i * 2) (by omega)
            rw [e00] at c0
            obtain ⟨a, ha⟩ : ∃ a, (P.getD i (0, 0)).1 = a := ⟨_, rfl⟩
            rw [ha] at c0
            have hne : ¬ (a : Int) = (k : Int) := fun e => hgo ⟨hl, by omega⟩
            have hneb : ((a : Int) == (k : Int)) = false := by simpa using hne
            have hnd : decide ((a : Int) = (k : Int)) = false := by simpa using hne
            clear e00 e01 ha hgo
            go_wp2_with fail
            clear c0 ii hne hneb hnd
          case' neg =>
            have hd : decide ((i : Int) < (N : Int)) = false := by simp; omega
            have hnd : ¬ (i : Int) < (N : Int) := by omega
            clear hgo
            go_wp2_with fail
            clear hd hnd
          all_goals
            clear hl QU
            have hgv6 := (QV.out.lt ngk).2
            refine wp_region_held_drew (S := fun _ => True) (by kernel_rfl) trivial (fun hHeld => ?_)
            replace QV := Lib.hid (show Rw w6.drew 0 _ gk fc from QV.out)
            replace RC := RC.drew
            replace Z := Z.drew
            replace HB := Lib.hid (show Kept w w6.drew from keptDrewY HB.out)
            have hds : w6.heap.size ≤ w6.drew.heap.size := Nat.le_refl _
            obtain ⟨WD, hWD⟩ : ∃ WD, w6.drew = WD := ⟨_, rfl⟩
            rw [hWD] at QV RC Z HB hds ⊢
            clear hWD
            have gvc := VG.out
            (refine wpAnyH_take (i := 1) (v := ?_) rfl (by kernel_rfl) (by kernel_rfl) (by kernel_rfl) (fun _ _ _ h => h) (Or.inl ⟨by rfl, ?_⟩) hHeld ?_; rotate_left; (· (intro w' hSw; go_simp; try with_reducible rfl)); (try simp only [List.getElem_toArray, List.getElem_cons_zero, List.getElem_cons_succ, Act.put, List.setIfInBounds_toArray, List.set_cons_zero, List.set_cons_succ]))
            (refine wpAnyH_take (i := 3) (v := ?_) rfl (by kernel_rfl) (by kernel_rfl) (by kernel_rfl) (fun _ _ _ h => h) (Or.inl ⟨by rfl, ?_⟩) hHeld ?_; rotate_left; (· (intro w' hSw; go_simp; try with_reducible rfl)); (try simp only [List.getElem_toArray, List.getElem_cons_zero, List.getElem_cons_succ, Act.put, List.setIfInBounds_toArray, List.set_cons_zero, List.set_cons_succ]))
            (refine wpAnyH_take (i := 6) (v := ?_) rfl (by kernel_rfl) (by kernel_rfl) (by kernel_rfl) (fun _ _ _ h => h) (Or.inl ⟨by rfl, ?_⟩) hHeld ?_; rotate_left; (· (intro w' hSw; go_simp; try with_reducible rfl)); (try simp only [List.getElem_toArray, List.getElem_cons_zero, List.getElem_cons_succ, Act.put, List.setIfInBounds_toArray, List.set_cons_zero, List.set_cons_succ]))
            (refine wpAnyH_take (i := 8) (v := ?_) rfl (by kernel_rfl) (by kernel_rfl) (by kernel_rfl) (fun _ _ _ h => h) (Or.inl ⟨by rfl, ?_⟩) hHeld ?_; rotate_left; (· (intro w' hSw; go_simp; try with_reducible rfl)); (try simp only [List.getElem_toArray, List.getElem_cons_zero, List.getElem_cons_succ, Act.put, List.setIfInBounds_toArray, List.set_cons_zero, List.set_cons_succ]))
            refine wpAnyH_ready (rs := [0, 2, 7]) (by kernel_rfl) (by simp) ?_
            refine AllReadyH.cons (o := _) rfl (fun K hK => ?_) (AllReadyH.cons (o := _) rfl (fun K hK => ?_) (AllReadyH.cons (o := _) rfl (fun K hK => ?_) AllReadyH.nil))
            (simp only [List.getElem_toArray, List.getElem_cons_zero, List.getElem_cons_succ, Region.wanted, if_true])
            go_simp
            refine hK.out _ _ trivial (fun hHeld => ?_)
            clear hK K
            have PN := prs_none WD w6.heap.size (by omega)
            replace RC := RC.alloc (.cells #[] 41)
            replace Z := Z.alloc (.cells #[] 41)
            replace HB := Lib.hid (HB.out.alloc (.cells #[] 41))
            replace QV := Lib.hid (QV.out.alloc (.cells #[] 41))
            obtain ⟨ab, hab⟩ : ∃ ab, WD.heap.size = ab := ⟨_, rfl⟩
            rw [hab] at PN ⊢
            have hab2 : w6.heap.size ≤ ab := by omega
            have hWs : (WD.alloc (.cells #[] 41)).heap.size = ab + 1 := by rw [size1, hab]
            generalize WD.alloc (.cells #[] 41) = WE at *
            clear hab
            (try simp only [List.getElem_toArray, List.getElem_cons_zero, List.getElem_cons_succ, Act.put, List.setIfInBounds_toArray, List.set_cons_zero, List.set_cons_succ])
            refine wpAnyH_ready (rs := [2, 7]) (by kernel_rfl) (by simp) ?_
            refine AllReadyH.cons (o := _) rfl (fun K hK => ?_) (AllReadyH.cons (o := _) rfl (fun K hK => ?_) AllReadyH.nil)
            (simp only [List.getElem_toArray, List.getElem_cons_zero, List.getElem_cons_succ, Region.wanted, if_true])
            have c24 := RC.pours
            go_simp
            (try simp only [List.getElem_toArray, List.getElem_cons_zero, List.getElem_cons_succ, Act.put, List.setIfInBounds_toArray, List.set_cons_zero, List.set_cons_succ])
            refine hK.out _ _ trivial (fun hHeld => ?_)
            clear hK K c24
            (refine wpAnyH_take (i := 4) (v := .slice (some ⟨gv, 0, none⟩) k vc) rfl (by kernel_rfl) (by kernel_rfl) (by kernel_rfl) (fun _ _ _ h => h) (Or.inl ⟨by rfl, ?_⟩) hHeld ?_; (· (intro w' hSw; exact exec_hiY rfl rfl rfl (run_hiP w' 26 _ gk vc k elemPY (sizePY w') hkv.out))); (try simp only [List.getElem_toArray, List.getElem_cons_zero, List.getElem_cons_succ, Act.put, List.setIfInBounds_toArray, List.set_cons_zero, List.set_cons_succ]))
            refine wpAnyH_ready (rs := [5, 7]) (by kernel_rfl) (by simp) ?_
            refine AllReadyH.cons (o := _) rfl (fun K hK => ?_) (AllReadyH.cons (o := _) rfl (fun K hK => ?_) AllReadyH.nil)
            (simp only [List.getElem_toArray, List.getElem_cons_zero, List.getElem_cons_succ, Region.wanted, if_true])
            refine wp_append_prs _ _ rfl w6.heap.size _ 0 [] rfl PN _ k vc rfl (fc.take (k * 2)) (by rw [List.length_take]; have := FLC.out; have := CIN.out; omega) (QV.out.from k (by have := CIN.out; omega)) (by omega) (by have := CIN.out; omega) ?_
            intro v1 wF hP1 hg1 hl1
            rw [Nat.zero_add, List.nil_append] at hP1
            have ow1' := Lib.hid (fun z hz => (World.ownsRow.lt hP1 z hz).1)
            have hg1' : WE.grownBy wF (some ab) := hg1
            have own1 : v1.ownBlock = some ab ∨ v1.ownBlock = some (ab + 1) := by
              rcases hl1 with h3 | h3
              · exact .inl h3
              · exact .inr (by rw [h3, hWs])
            replace RC := RC.grown hg1' (fun e => by have := Option.some.inj e; omega)
            replace Z := Z.grown hg1' (fun e => by have := Option.some.inj e; omega)
            replace HB : Hid (Kept w wF) := Lib.hid (HB.out.grown hg1' HB.out.size (fun z hz => by have := Option.some.inj hz; omega))
            replace QV := Lib.hid (QV.out.grownP hg1' (fun _ z hz => .inr (fun e => by have := Option.some.inj hz; have := Option.some.inj (show some gv = some z from e); omega)))
            have hWF : ab + 1 ≤ wF.heap.size := by have := hg1'.size; omega
            refine hK.out _ _ trivial (fun hHeld => ?_)
            clear hK K hg1 hl1 hg1' PN
            (try simp only [List.getElem_toArray, List.getElem_cons_zero, List.getElem_cons_succ, Act.put, List.setIfInBounds_toArray, List.set_cons_zero, List.set_cons_succ])
            (refine wpAnyH_ready (rs := [7]) (by kernel_rfl) (by simp) ?_; refine AllReadyH.cons (o := _) rfl (fun K hK => ?_) AllReadyH.nil; (simp only [List.getElem_toArray, List.getElem_cons_zero, List.getElem_cons_succ, Region.wanted, if_true]))
            have c24 := RC.pours
            go_simp
            (try simp only [List.getElem_toArray, List.getElem_cons_zero, List.getElem_cons_succ, Act.put, List.setIfInBounds_toArray, List.set_cons_zero, List.set_cons_succ])
            refine hK.out _ _ trivial (fun hHeld => ?_)
            clear hK K c24
            (refine wpAnyH_take (i := 9) (v := .slice (loA gv vc m) (gk - m) (vc - m)) rfl (by kernel_rfl) (by kernel_rfl) (by kernel_rfl) (fun _ _ _ h => h) (Or.inl ⟨by rfl, ?_⟩) hHeld ?_; (· (intro w' hSw; exact exec_loY rfl rfl rfl (run_loP w' 26 gv gk vc m elemPY (sizePY w') (by have := CIN.out; omega)))); (try simp only [List.getElem_toArray, List.getElem_cons_zero, List.getElem_cons_succ, Act.put, List.setIfInBounds_toArray, List.set_cons_zero, List.set_cons_succ]))
            (refine wpAnyH_ready (rs := [10]) (by kernel_rfl) (by simp) ?_; refine AllReadyH.cons (o := _) rfl (fun K hK => ?_) AllReadyH.nil; (simp only [List.getElem_toArray, List.getElem_cons_zero, List.getElem_cons_succ, Region.wanted, if_true]))
            refine wp_append_prs _ _ rfl w6.heap.size v1 k (fc.take (k * 2)) rfl hP1 (loA gv vc m) (gk - m) (vc - m) rfl (fc.drop (m * 2)) (by rw [List.length_drop]; have := FLC.out; omega) (QV.out.fromDrop m (by have := CIN.out; omega)) (by omega) (by have := CIN.out; omega) ?_
            intro v2 wG hP2 hg2 hl2
            have EO : Hid (fc.take (k * 2) ++ fc.drop (m * 2) = f') := Lib.hid HF.out
            have EN' : Hid (k + (gk - m) = n') := Lib.hid (by have := HN'.out; have := CIN.out; omega)
            rw [EO.out, EN'.out] at hP2
            have ow2' := Lib.hid (fun z hz => (World.ownsRow.lt hP2 z hz).1)
            replace RC := RC.grown hg2 (fun e => by rcases own1 with h3 | h3 <;> (have := Option.some.inj (e.trans h3); omega))
            replace Z := Z.grown hg2 (fun e => by rcases own1 with h3 | h3 <;> (have := Option.some.inj (e.trans h3); omega))
            replace HB : Hid (Kept w wG) := Lib.hid (HB.out.grown hg2 HB.out.size (fun z hz => by rcases own1 with h3 | h3 <;> (have := Option.some.inj (hz.symm.trans h3); omega)))
            obtain ⟨va', vc', rfl⟩ := hP2.rw.shape
            refine hK.out _ _ trivial (fun hHeld => ?_)
            clear hK K hg2 hl2 own1 hP1 ow1' QV
            (try simp only [List.getElem_toArray, List.getElem_cons_zero, List.getElem_cons_succ, Act.put, List.setIfInBounds_toArray, List.set_cons_zero, List.set_cons_succ])
            (refine wpAnyH_take (i := 11) (v := ?_) rfl (by kernel_rfl) (by kernel_rfl) (by kernel_rfl) (fun _ _ _ h => h) (Or.inl ⟨by rfl, ?_⟩) hHeld ?_; rotate_left; (· (intro w' hSw; go_simp; try with_reducible rfl)); (try simp only [List.getElem_toArray, List.getElem_cons_zero, List.getElem_cons_succ, Act.put, List.setIfInBounds_toArray, List.set_cons_zero, List.set_cons_succ]))
            (refine wpAnyH_ready (rs := [12]) (by kernel_rfl) (by simp) ?_; refine AllReadyH.cons (o := _) rfl (fun K hK => ?_) AllReadyH.nil; (simp only [List.getElem_toArray, List.getElem_cons_zero, List.getElem_cons_succ, Region.wanted, if_true]))
            have c24 := RC.pours
            have f24 := RC.free 24
            have C7 := RC.setPours (.slice va' n' vc')
            have Z7 := Z.setOther (q := c) 24 (.slice va' n' vc') (by omega)
            have B7 := Lib.hid (HB.out.set (b := c) (by omega) 24 (.slice va' n' vc'))
            have V7 : Hid (Rw (wG.setCell ⟨c, 24, none⟩ (.slice va' n' vc')) w6.heap.size (.slice va' n' vc') n' f') := Lib.hid (hP2.rw.puts c 24 [.slice va' n' vc'] (fun _ e => by have := ow2'.out c e; omega))
            go_simp
            refine hK.out _ _ trivial (fun hHeld => ?_)
            clear hK K c24 f24 RC Z HB hP2
            refine wpAnyH_done (by kernel_rfl) ?_ _
            have VS7 : Hid (0 < n' → ∀ z, (Value.slice va' n' vc').ownBlock = some z → z ≠ c ∧ w.heap.size + 2 ≤ z) := Lib.hid (fun _ z hz => by have := ow2'.out z hz; omega)
            replace V7 := Lib.hid (V7.out.mono (b' := 0) (Nat.zero_le _))
            generalize World.setCell wG ⟨c, 24, none⟩ (.slice va' n' vc') = W7 at *
            clear ow2' hHeld
            (try simp only [List.getElem_toArray, List.getElem_cons_zero, List.getElem_cons_succ, Act.put, List.setIfInBounds_toArray, List.set_cons_zero, List.set_cons_succ])
            rotate_left
            (simp only [List.getElem_toArray, List.getElem_cons_zero, List.getElem_cons_succ, Region.wanted, if_true])
            have c24 := RC.pours
            go_simp
            (try simp only [List.getElem_toArray, List.getElem_cons_zero, List.getElem_cons_succ, Act.put, List.setIfInBounds_toArray, List.set_cons_zero, List.set_cons_succ])
            refine hK.out _ _ trivial (fun hHeld => ?_)
            clear hK K c24
            (refine wpAnyH_take (i := 9) (v := .slice (loA gv vc m) (gk - m) (vc - m)) rfl (by kernel_rfl) (by kernel_rfl) (by kernel_rfl) (fun _ _ _ h => h) (Or.inl ⟨by rfl, ?_⟩) hHeld ?_; (· (intro w' hSw; exact exec_loY rfl rfl rfl (run_loP w' 26 gv gk vc m elemPY (sizePY w') (by have := CIN.out; omega)))); (try simp only [List.getElem_toArray, List.getElem_cons_zero, List.getElem_cons_succ, Act.put, List.setIfInBounds_toArray, List.set_cons_zero, List.set_cons_succ]))
            (refine wpAnyH_ready (rs := [5]) (by kernel_rfl) (by simp) ?_; refine AllReadyH.cons (o := _) rfl (fun K hK => ?_) AllReadyH.nil; (simp only [List.getElem_toArray, List.getElem_cons_zero, List.getElem_cons_succ, Region.wanted, if_true]))
            refine wp_append_prs _ _ rfl w6.heap.size _ 0 [] rfl PN _ k vc rfl (fc.take (k * 2)) (by rw [List.length_take]; have := FLC.out; have := CIN.out; omega) (QV.out.from k (by have := CIN.out; omega)) (by omega) (by have := CIN.out; omega) ?_
            intro v1 wF hP1 hg1 hl1
            rw [Nat.zero_add, List.nil_append] at hP1
            have ow1' := Lib.hid (fun z hz => (World.ownsRow.lt hP1 z hz).1)
            have hg1' : WE.grownBy wF (some ab) := hg1
            have own1 : v1.ownBlock = some ab ∨ v1.ownBlock = some (ab + 1) := by
              rcases hl1 with h3 | h3
              · exact .inl h3
              · exact .inr (by rw [h3, hWs])
            replace RC := RC.grown hg1' (fun e => by have := Option.some.inj e; omega)
            replace Z := Z.grown hg1' (fun e => by have := Option.some.inj e; omega)
            replace HB : Hid (Kept w wF) := Lib.hid (HB.out.grown hg1' HB.out.size (fun z hz => by have := Option.some.inj hz; omega))
            replace QV := Lib.hid (QV.out.grownP hg1' (fun _ z hz => .inr (fun e => by have := Option.some.inj hz; have := Option.some.inj (show some gv = some z from e); omega)))
            have hWF : ab + 1 ≤ wF.heap.size := by have := hg1'.size; omega
            refine hK.out _ _ trivial (fun hHeld => ?_)
            clear hK K hg1 hl1 hg1' PN
            (try simp only [List.getElem_toArray, List.getElem_cons_zero, List.getElem_cons_succ, Act.put, List.setIfInBounds_toArray, List.set_cons_zero, List.set_cons_succ])
            (refine wpAnyH_ready (rs := [10]) (by kernel_rfl) (by simp) ?_; refine AllReadyH.cons (o := _) rfl (fun K hK => ?_) AllReadyH.nil; (simp only [List.getElem_toArray, List.getElem_cons_zero, List.getElem_cons_succ, Region.wanted, if_true]))
            refine wp_append_prs _ _ rfl w6.heap.size v1 k (fc.take (k * 2)) rfl hP1 (loA gv vc m) (gk - m) (vc - m) rfl (fc.drop (m * 2)) (by rw [List.length_drop]; have := FLC.out; omega) (QV.out.fromDrop m (by have := CIN.out; omega)) (by omega) (by have := CIN.out; omega) ?_
            intro v2 wG hP2 hg2 hl2
            have EO : Hid (fc.take (k * 2) ++ fc.drop (m * 2) = f') := Lib.hid HF.out
            have EN' : Hid (k + (gk - m) = n') := Lib.hid (by have := HN'.out; have := CIN.out; omega)
            rw [EO.out, EN'.out] at hP2
            have ow2' := Lib.hid (fun z hz => (World.ownsRow.lt hP2 z hz).1)
            replace RC := RC.grown hg2 (fun e => by rcases own1 with h3 | h3 <;> (have := Option.some.inj (e.trans h3); omega))
            replace Z := Z.grown hg2 (fun e => by rcases own1 with h3 | h3 <;> (have := Option.some.inj (e.trans h3); omega))
            replace HB : Hid (Kept w wG) := Lib.hid (HB.out.grown hg2 HB.out.size (fun z hz => by rcases own1 with h3 | h3 <;> (have := Option.some.inj (hz.symm.trans h3); omega)))
            obtain ⟨va', vc', rfl⟩ := hP2.rw.shape
            refine hK.out _ _ trivial (fun hHeld => ?_)
            clear hK K hg2 hl2 own1 hP1 ow1' QV
            (try simp only [List.getElem_toArray, List.getElem_cons_zero, List.getElem_cons_succ, Act.put, List.setIfInBounds_toArray, List.set_cons_zero, List.set_cons_succ])
            (refine wpAnyH_take (i := 11) (v := ?_) rfl (by kernel_rfl) (by kernel_rfl) (by kernel_rfl) (fun _ _ _ h => h) (Or.inl ⟨by rfl, ?_⟩) hHeld ?_; rotate_left; (· (intro w' hSw; go_simp; try with_reducible rfl)); (try simp only [List.getElem_toArray, List.getElem_cons_zero, List.getElem_cons_succ, Act.put, List.setIfInBounds_toArray, List.set_cons_zero, List.set_cons_succ]))
            (refine wpAnyH_ready (rs := [12]) (by kernel_rfl) (by simp) ?_; refine AllReadyH.cons (o := _) rfl (fun K hK => ?_) AllReadyH.nil; (simp only [List.getElem_toArray, List.getElem_cons_zero, List.getElem_cons_succ, Region.wanted, if_true]))
            have c24 := RC.pours
            have f24 := RC.free 24
            have C7 := RC.setPours (.slice va' n' vc')
            have Z7 := Z.setOther (q := c) 24 (.slice va' n' vc') (by omega)
            have B7 := Lib.hid (HB.out.set (b := c) (by omega) 24 (.slice va' n' vc'))
            have V7 : Hid (Rw (wG.setCell ⟨c, 24, none⟩ (.slice va' n' vc')) w6.heap.size (.slice va' n' vc') n' f') := Lib.hid (hP2.rw.puts c 24 [.slice va' n' vc'] (fun _ e => by have := ow2'.out c e; omega))
            go_simp
            refine hK.out _ _ trivial (fun hHeld => ?_)
            clear hK K c24 f24 RC Z HB hP2
            refine wpAnyH_done (by kernel_rfl) ?_ _
            have VS7 : Hid (0 < n' → ∀ z, (Value.slice va' n' vc').ownBlock = some z → z ≠ c ∧ w.heap.size + 2 ≤ z) := Lib.hid (fun _ z hz => by have := ow2'.out z hz; omega)
            replace V7 := Lib.hid (V7.out.mono (b' := 0) (Nat.zero_le _))
            generalize World.setCell wG ⟨c, 24, none⟩ (.slice va' n' vc') = W7 at *
            clear ow2' hHeld
            (try simp only [List.getElem_toArray, List.getElem_cons_zero, List.getElem_cons_succ, Act.put, List.setIfInBounds_toArray, List.set_cons_zero, List.set_cons_succ])
            rotate_left
            (simp only [List.getElem_toArray, List.getElem_cons_zero, List.getElem_cons_succ, Region.wanted, if_true])
            have c24 := RC.pours
            go_simp
            (try simp only [List.getElem_toArray, List.getElem_cons_zero, List.getElem_cons_succ, Act.put, List.setIfInBounds_toArray, List.set_cons_zero, List.set_cons_succ])
            refine hK.out _ _ trivial (fun hHeld => ?_)
            clear hK K c24
            (refine wpAnyH_take (i := 9) (v := .slice (loA gv vc m) (gk - m) (vc - m)) rfl (by kernel_rfl) (by kernel_rfl) (by kernel_rfl) (fun _ _ _ h => h) (Or.inl ⟨by rfl, ?_⟩) hHeld ?_; (· (intro w' hSw; exact exec_loY rfl rfl rfl (run_loP w' 26 gv gk vc m elemPY (sizePY w') (by have := CIN.out; omega)))); (try simp only [List.getElem_toArray, List.getElem_cons_zero, List.getElem_cons_succ, Act.put, List.setIfInBounds_toArray, List.set_cons_zero, List.set_cons_succ]))
            (refine wpAnyH_ready (rs := [2]) (by kernel_rfl) (by simp) ?_; refine AllReadyH.cons (o := _) rfl (fun K hK => ?_) AllReadyH.nil; (simp only [List.getElem_toArray, List.getElem_cons_zero, List.getElem_cons_succ, Region.wanted, if_true]))
            have c24 := RC.pours
            go_simp
            (try simp only [List.getElem_toArray, List.getElem_cons_zero, List.getElem_cons_succ, Act.put, List.setIfInBounds_toArray, List.set_cons_zero, List.set_cons_succ])
            refine hK.out _ _ trivial (fun hHeld => ?_)
            clear hK K c24
            (refine wpAnyH_take (i := 4) (v := .slice (some ⟨gv, 0, none⟩) k vc) rfl (by kernel_rfl) (by kernel_rfl) (by kernel_rfl) (fun _ _ _ h => h) (Or.inl ⟨by rfl, ?_⟩) hHeld ?_; (· (intro w' hSw; exact exec_hiY rfl rfl rfl (run_hiP w' 26 _ gk vc k elemPY (sizePY w') hkv.out))); (try simp only [List.getElem_toArray, List.getElem_cons_zero, List.getElem_cons_succ, Act.put, List.setIfInBounds_toArray, List.set_cons_zero, List.set_cons_succ]))
            (refine wpAnyH_ready (rs := [5]) (by kernel_rfl) (by simp) ?_; refine AllReadyH.cons (o := _) rfl (fun K hK => ?_) AllReadyH.nil; (simp only [List.getElem_toArray, List.getElem_cons_zero, List.getElem_cons_succ, Region.wanted, if_true]))
            refine wp_append_prs _ _ rfl w6.heap.size _ 0 [] rfl PN _ k vc rfl (fc.take (k * 2)) (by rw [List.length_take]; have := FLC.out; have := CIN.out; omega) (QV.out.from k (by have := CIN.out; omega)) (by omega) (by have := CIN.out; omega) ?_
            intro v1 wF hP1 hg1 hl1
            rw [Nat.zero_add, List.nil_append] at hP1
            have ow1' := Lib.hid (fun z hz => (World.ownsRow.lt hP1 z hz).1)
            have hg1' : WE.grownBy wF (some ab) := hg1
            have own1 : v1.ownBlock = some ab ∨ v1.ownBlock = some (ab + 1) := by
              rcases hl1 with h3 | h3
              · exact .inl h3
              · exact .inr (by rw [h3, hWs])
            replace RC := RC.grown hg1' (fun e => by have := Option.some.inj e; omega)
            replace Z := Z.grown hg1' (fun e => by have := Option.some.inj e; omega)
            replace HB : Hid (Kept w wF) := Lib.hid (HB.out.grown hg1' HB.out.size (fun z hz => by have := Option.some.inj hz; omega))
            replace QV := Lib.hid (QV.out.grownP hg1' (fun _ z hz => .inr (fun e => by have := Option.some.inj hz; have := Option.some.inj (show some gv = some z from e); omega)))
            have hWF : ab + 1 ≤ wF.heap.size := by have := hg1'.size; omega
            refine hK.out _ _ trivial (fun hHeld => ?_)
            clear hK K hg1 hl1 hg1' PN
            (try simp only [List.getElem_toArray, List.getElem_cons_zero, List.getElem_cons_succ, Act.put, List.setIfInBounds_toArray, List.set_cons_zero, List.set_cons_succ])
            (refine wpAnyH_ready (rs := [10]) (by kernel_rfl) (by simp) ?_; refine AllReadyH.cons (o := _) rfl (fun K hK => ?_) AllReadyH.nil; (simp only [List.getElem_toArray, List.getElem_cons_zero, List.getElem_cons_succ, Region.wanted, if_true]))
            refine wp_append_prs _ _ rfl w6.heap.size v1 k (fc.take (k * 2)) rfl hP1 (loA gv vc m) (gk - m) (vc - m) rfl (fc.drop (m * 2)) (by rw [List.length_drop]; have := FLC.out; omega) (QV.out.fromDrop m (by have := CIN.out; omega)) (by omega) (by have := CIN.out; omega) ?_
            intro v2 wG hP2 hg2 hl2
            have EO : Hid (fc.take (k * 2) ++ fc.drop (m * 2) = f') := Lib.hid HF.out
            have EN' : Hid (k + (gk - m) = n') := Lib.hid (by have := HN'.out; have := CIN.out; omega)
            rw [EO.out, EN'.out] at hP2
            have ow2' := Lib.hid (fun z hz => (World.ownsRow.lt hP2 z hz).1)
            replace RC := RC.grown hg2 (fun e => by rcases own1 with h3 | h3 <;> (have := Option.some.inj (e.trans h3); omega))
            replace Z := Z.grown hg2 (fun e => by rcases own1 with h3 | h3 <;> (have := Option.some.inj (e.trans h3); omega))
            replace HB : Hid (Kept w wG) := Lib.hid (HB.out.grown hg2 HB.out.size (fun z hz => by rcases own1 with h3 | h3 <;> (have := Option.some.inj (hz.symm.trans h3); omega)))
            obtain ⟨va', vc', rfl⟩ := hP2.rw.shape
            refine hK.out _ _ trivial (fun hHeld => ?_)
            clear hK K hg2 hl2 own1 hP1 ow1' QV
            (try simp only [List.getElem_toArray, List.getElem_cons_zero, List.getElem_cons_succ, Act.put, List.setIfInBounds_toArray, List.set_cons_zero, List.set_cons_succ])
            (refine wpAnyH_take (i := 11) (v := ?_) rfl (by kernel_rfl) (by kernel_rfl) (by kernel_rfl) (fun _ _ _ h => h) (Or.inl ⟨by rfl, ?_⟩) hHeld ?_; rotate_left; (· (intro w' hSw; go_simp; try with_reducible rfl)); (try simp only [List.getElem_toArray, List.getElem_cons_zero, List.getElem_cons_succ, Act.put, List.setIfInBounds_toArray, List.set_cons_zero, List.set_cons_succ]))
            (refine wpAnyH_ready (rs := [12]) (by kernel_rfl) (by simp) ?_; refine AllReadyH.cons (o := _) rfl (fun K hK => ?_) AllReadyH.nil; (simp only [List.getElem_toArray, List.getElem_cons_zero, List.getElem_cons_succ, Region.wanted, if_true]))
            have c24 := RC.pours
            have f24 := RC.free 24
            have C7 := RC.setPours (.slice va' n' vc')
            have Z7 := Z.setOther (q := c) 24 (.slice va' n' vc') (by omega)
            have B7 := Lib.hid (HB.out.set (b := c) (by omega) 24 (.slice va' n' vc'))
            have V7 : Hid (Rw (wG.setCell ⟨c, 24, none⟩ (.slice va' n' vc')) w6.heap.size (.slice va' n' vc') n' f') := Lib.hid (hP2.rw.puts c 24 [.slice va' n' vc'] (fun _ e => by have := ow2'.out c e; omega))
            go_simp
            refine hK.out _ _ trivial (fun hHeld => ?_)
            clear hK K c24 f24 RC Z HB hP2
            refine wpAnyH_done (by kernel_rfl) ?_ _
            have VS7 : Hid (0 < n' → ∀ z, (Value.slice va' n' vc').ownBlock = some z → z ≠ c ∧ w.heap.size + 2 ≤ z) := Lib.hid (fun _ z hz => by have := ow2'.out z hz; omega)
            replace V7 := Lib.hid (V7.out.mono (b' := 0) (Nat.zero_le _))
            generalize World.setCell wG ⟨c, 24, none⟩ (.slice va' n' vc') = W7 at *
            clear ow2' hHeld
            (try simp only [List.getElem_toArray, List.getElem_cons_zero, List.getElem_cons_succ, Act.put, List.setIfInBounds_toArray, List.set_cons_zero, List.set_cons_succ])
            rotate_left
            (simp only [List.getElem_toArray, List.getElem_cons_zero, List.getElem_cons_succ, Region.wanted, if_true])
            have c24 := RC.pours
            go_simp
            (try simp only [List.getElem_toArray, List.getElem_cons_zero, List.getElem_cons_succ, Act.put, List.setIfInBounds_toArray, List.set_cons_zero, List.set_cons_succ])
            refine hK.out _ _ trivial (fun hHeld => ?_)
            clear hK K c24
            (refine wpAnyH_take (i := 4) (v := .slice (some ⟨gv, 0, none⟩) k vc) rfl (by kernel_rfl) (by kernel_rfl) (by kernel_rfl) (fun _ _ _ h => h) (Or.inl ⟨by rfl, ?_⟩) hHeld ?_; (· (intro w' hSw; exact exec_hiY rfl rfl rfl (run_hiP w' 26 _ gk vc k elemPY (sizePY w') hkv.out))); (try simp only [List.getElem_toArray, List.getElem_cons_zero, List.getElem_cons_succ, Act.put, List.setIfInBounds_toArray, List.set_cons_zero, List.set_cons_succ]))
            refine wpAnyH_ready (rs := [0, 7]) (by kernel_rfl) (by simp) ?_
            refine AllReadyH.cons (o := _) rfl (fun K hK => ?_) (AllReadyH.cons (o := _) rfl (fun K hK => ?_) AllReadyH.nil)
            (simp only [List.getElem_toArray, List.getElem_cons_zero, List.getElem_cons_succ, Region.wanted, if_true])
            go_simp
            refine hK.out _ _ trivial (fun hHeld => ?_)
            clear hK K
            have PN := prs_none WD w6.heap.size (by omega)
            replace RC := RC.alloc (.cells #[] 41)
            replace Z := Z.alloc (.cells #[] 41)
            replace HB := Lib.hid (HB.out.alloc (.cells #[] 41))
            replace QV := Lib.hid (QV.out.alloc (.cells #[] 41))
            obtain ⟨ab, hab⟩ : ∃ ab, WD.heap.size = ab := ⟨_, rfl⟩
            rw [hab] at PN ⊢
            have hab2 : w6.heap.size ≤ ab := by omega
            have hWs : (WD.alloc (.cells #[] 41)).heap.size = ab + 1 := by rw [size1, hab]
            generalize WD.alloc (.cells #[] 41) = WE at *
            clear hab
            (try simp only [List.getElem_toArray, List.getElem_cons_zero, List.getElem_cons_succ, Act.put, List.setIfInBounds_toArray, List.set_cons_zero, List.set_cons_succ])
            refine wpAnyH_ready (rs := [5, 7]) (by kernel_rfl) (by simp) ?_
            refine AllReadyH.cons (o := _) rfl (fun K hK => ?_) (AllReadyH.cons (o := _) rfl (fun K hK => ?_) AllReadyH.nil)
            (simp only [List.getElem_toArray, List.getElem_cons_zero, List.getElem_cons_succ, Region.wanted, if_true])
            refine wp_append_prs _ _ rfl w6.heap.size _ 0 [] rfl PN _ k vc rfl (fc.take (k * 2)) (by rw [List.length_take]; have := FLC.out; have := CIN.out; omega) (QV.out.from k (by have := CIN.out; omega)) (by omega) (by have := CIN.out; omega) ?_
            intro v1 wF hP1 hg1 hl1
            rw [Nat.zero_add, List.nil_append] at hP1
            have ow1' := Lib.hid (fun z hz => (World.ownsRow.lt hP1 z hz).1)
            have hg1' : WE.grownBy wF (some ab) := hg1
            have own1 : v1.ownBlock = some ab ∨ v1.ownBlock = some (ab + 1) := by
              rcases hl1 with h3 | h3
              · exact .inl h3
              · exact .inr (by rw [h3, hWs])
            replace RC := RC.grown hg1' (fun e => by have := Option.some.inj e; omega)
            replace Z := Z.grown hg1' (fun e => by have := Option.some.inj e; omega)
            replace HB : Hid (Kept w wF) := Lib.hid (HB.out.grown hg1' HB.out.size (fun z hz => by have := Option.some.inj hz; omega))
            replace QV := Lib.hid (QV.out.grownP hg1' (fun _ z hz => .inr (fun e => by have := Option.some.inj hz; have := Option.some.inj (show some gv = some z from e); omega)))
            have hWF : ab + 1 ≤ wF.heap.size := by have := hg1'.size; omega
            refine hK.out _ _ trivial (fun hHeld => ?_)
            clear hK K hg1 hl1 hg1' PN
            (try simp only [List.getElem_toArray, List.getElem_cons_zero, List.getElem_cons_succ, Act.put, List.setIfInBounds_toArray, List.set_cons_zero, List.set_cons_succ])
            (refine wpAnyH_ready (rs := [7]) (by kernel_rfl) (by simp) ?_; refine AllReadyH.cons (o := _) rfl (fun K hK => ?_) AllReadyH.nil; (simp only [List.getElem_toArray, List.getElem_cons_zero, List.getElem_cons_succ, Region.wanted, if_true]))
            have c24 := RC.pours
            go_simp
            (try simp only [List.getElem_toArray, List.getElem_cons_zero, List.getElem_cons_succ, Act.put, List.setIfInBounds_toArray, List.set_cons_zero, List.set_cons_succ])
            refine hK.out _ _ trivial (fun hHeld => ?_)
            clear hK K c24
            (refine wpAnyH_take (i := 9) (v := .slice (loA gv vc m) (gk - m) (vc - m)) rfl (by kernel_rfl) (by kernel_rfl) (by kernel_rfl) (fun _ _ _ h => h) (Or.inl ⟨by rfl, ?_⟩) hHeld ?_; (· (intro w' hSw; exact exec_loY rfl rfl rfl (run_loP w' 26 gv gk vc m elemPY (sizePY w') (by have := CIN.out; omega)))); (try simp only [List.getElem_toArray, List.getElem_cons_zero, List.getElem_cons_succ, Act.put, List.setIfInBounds_toArray, List.set_cons_zero, List.set_cons_succ]))
            (refine wpAnyH_ready (rs := [10]) (by kernel_rfl) (by simp) ?_; refine AllReadyH.cons (o := _) rfl (fun K hK => ?_) AllReadyH.nil; (simp only [List.getElem_toArray, List.getElem_cons_zero, List.getElem_cons_succ, Region.wanted, if_true]))
            refine wp_append_prs _ _ rfl w6.heap.size v1 k (fc.take (k * 2)) rfl hP1 (loA gv vc m) (gk - m) (vc - m) rfl (fc.drop (m * 2)) (by rw [List.length_drop]; have := FLC.out; omega) (QV.out.fromDrop m (by have := CIN.out; omega)) (by omega) (by have := CIN.out; omega) ?_
            intro v2 wG hP2 hg2 hl2
            have EO : Hid (fc.take (k * 2) ++ fc.drop (m * 2) = f') := Lib.hid HF.out
            have EN' : Hid (k + (gk - m) = n') := Lib.hid (by have := HN'.out; have := CIN.out; omega)
            rw [EO.out, EN'.out] at hP2
            have ow2' := Lib.hid (fun z hz => (World.ownsRow.lt hP2 z hz).1)
            replace RC := RC.grown hg2 (fun e => by rcases own1 with h3 | h3 <;> (have := Option.some.inj (e.trans h3); omega))
            replace Z := Z.grown hg2 (fun e => by rcases own1 with h3 | h3 <;> (have := Option.some.inj (e.trans h3); omega))
            replace HB : Hid (Kept w wG) := Lib.hid (HB.out.grown hg2 HB.out.size (fun z hz => by rcases own1 with h3 | h3 <;> (have := Option.some.inj (hz.symm.trans h3); omega)))
            obtain ⟨va', vc', rfl⟩ := hP2.rw.shape
            refine hK.out _ _ trivial (fun hHeld => ?_)
            clear hK K hg2 hl2 own1 hP1 ow1' QV
            (try simp only [List.getElem_toArray, List.getElem_cons_zero, List.getElem_cons_succ, Act.put, List.setIfInBounds_toArray, List.set_cons_zero, List.set_cons_succ])
            (refine wpAnyH_take (i := 11) (v := ?_) rfl (by kernel_rfl) (by kernel_rfl) (by kernel_rfl) (fun _ _ _ h => h) (Or.inl ⟨by rfl, ?_⟩) hHeld ?_; rotate_left; (· (intro w' hSw; go_simp; try with_reducible rfl)); (try simp only [List.getElem_toArray, List.getElem_cons_zero, List.getElem_cons_succ, Act.put, List.setIfInBounds_toArray, List.set_cons_zero, List.set_cons_succ]))
            (refine wpAnyH_ready (rs := [12]) (by kernel_rfl) (by simp) ?_; refine AllReadyH.cons (o := _) rfl (fun K hK => ?_) AllReadyH.nil; (simp only [List.getElem_toArray, List.getElem_cons_zero, List.getElem_cons_succ, Region.wanted, if_true]))
            have c24 := RC.pours
            have f24 := RC.free 24
            have C7 := RC.setPours (.slice va' n' vc')
            have Z7 := Z.setOther (q := c) 24 (.slice va' n' vc') (by omega)
            have B7 := Lib.hid (HB.out.set (b := c) (by omega) 24 (.slice va' n' vc'))
            have V7 : Hid (Rw (wG.setCell ⟨c, 24, none⟩ (.slice va' n' vc')) w6.heap.size (.slice va' n' vc') n' f') := Lib.hid (hP2.rw.puts c 24 [.slice va' n' vc'] (fun _ e => by have := ow2'.out c e; omega))
            go_simp
            refine hK.out _ _ trivial (fun hHeld => ?_)
            clear hK K c24 f24 RC Z HB hP2
            refine wpAnyH_done (by kernel_rfl) ?_ _
            have VS7 : Hid (0 < n' → ∀ z, (Value.slice va' n' vc').ownBlock = some z → z ≠ c ∧ w.heap.size + 2 ≤ z) := Lib.hid (fun _ z hz => by have := ow2'.out z hz; omega)
            replace V7 := Lib.hid (V7.out.mono (b' := 0) (Nat.zero_le _))
            generalize World.setCell wG ⟨c, 24, none⟩ (.slice va' n' vc') = W7 at *
            clear ow2' hHeld
            (try simp only [List.getElem_toArray, List.getElem_cons_zero, List.getElem_cons_succ, Act.put, List.setIfInBounds_toArray, List.set_cons_zero, List.set_cons_succ])
            rotate_left
            (simp only [List.getElem_toArray, List.getElem_cons_zero, List.getElem_cons_succ, Region.wanted, if_true])
            have c24 := RC.pours
            go_simp
            (try simp only [List.getElem_toArray, List.getElem_cons_zero, List.getElem_cons_succ, Act.put, List.setIfInBounds_toArray, List.set_cons_zero, List.set_cons_succ])
            refine hK.out _ _ trivial (fun hHeld => ?_)
            clear hK K c24
            (refine wpAnyH_take (i := 9) (v := .slice (loA gv vc m) (gk - m) (vc - m)) rfl (by kernel_rfl) (by kernel_rfl) (by kernel_rfl) (fun _ _ _ h => h) (Or.inl ⟨by rfl, ?_⟩) hHeld ?_; (· (intro w' hSw; exact exec_loY rfl rfl rfl (run_loP w' 26 gv gk vc m elemPY (sizePY w') (by have := CIN.out; omega)))); (try simp only [List.getElem_toArray, List.getElem_cons_zero, List.getElem_cons_succ, Act.put, List.setIfInBounds_toArray, List.set_cons_zero, List.set_cons_succ]))
            (refine wpAnyH_ready (rs := [5]) (by kernel_rfl) (by simp) ?_; refine AllReadyH.cons (o := _) rfl (fun K hK => ?_) AllReadyH.nil; (simp only [List.getElem_toArray, List.getElem_cons_zero, List.getElem_cons_succ, Region.wanted, if_true]))
            refine wp_append_prs _ _ rfl w6.heap.size _ 0 [] rfl PN _ k vc rfl (fc.take (k * 2)) (by rw [List.length_take]; have := FLC.out; have := CIN.out; omega) (QV.out.from k (by have := CIN.out; omega)) (by omega) (by have := CIN.out; omega) ?_
            intro v1 wF hP1 hg1 hl1
            rw [Nat.zero_add, List.nil_append] at hP1
            have ow1' := Lib.hid (fun z hz => (World.ownsRow.lt hP1 z hz).1)
            have hg1' : WE.grownBy wF (some ab) := hg1
            have own1 : v1.ownBlock = some ab ∨ v1.ownBlock = some (ab + 1) := by
              rcases hl1 with h3 | h3
              · exact .inl h3
              · exact .inr (by rw [h3, hWs])
            replace RC := RC.grown hg1' (fun e => by have := Option.some.inj e; omega)
            replace Z := Z.grown hg1' (fun e => by have := Option.some.inj e; omega)
            replace HB : Hid (Kept w wF) := Lib.hid (HB.out.grown hg1' HB.out.size (fun z hz => by have := Option.some.inj hz; omega))
            replace QV := Lib.hid (QV.out.grownP hg1' (fun _ z hz => .inr (fun e => by have := Option.some.inj hz; have := Option.some.inj (show some gv = some z from e); omega)))
            have hWF : ab + 1 ≤ wF.heap.size := by have := hg1'.size; omega
            refine hK.out _ _ trivial (fun hHeld => ?_)
            clear hK K hg1 hl1 hg1' PN
            (try simp only [List.getElem_toArray, List.getElem_cons_zero, List.getElem_cons_succ, Act.put, List.setIfInBounds_toArray, List.set_cons_zero, List.set_cons_succ])
            (refine wpAnyH_ready (rs := [10]) (by kernel_rfl) (by simp) ?_; refine AllReadyH.cons (o := _) rfl (fun K hK => ?_) AllReadyH.nil; (simp only [List.getElem_toArray, List.getElem_cons_zero, List.getElem_cons_succ, Region.wanted, if_true]))
            refine wp_append_prs _ _ rfl w6.heap.size v1 k (fc.take (k * 2)) rfl hP1 (loA gv vc m) (gk - m) (vc - m) rfl (fc.drop (m * 2)) (by rw [List.length_drop]; have := FLC.out; omega) (QV.out.fromDrop m (by have := CIN.out; omega)) (by omega) (by have := CIN.out; omega) ?_
            intro v2 wG hP2 hg2 hl2
            have EO : Hid (fc.take (k * 2) ++ fc.drop (m * 2) = f') := Lib.hid HF.out
            have EN' : Hid (k + (gk - m) = n') := Lib.hid (by have := HN'.out; have := CIN.out; omega)
            rw [EO.out, EN'.out] at hP2
            have ow2' := Lib.hid (fun z hz => (World.ownsRow.lt hP2 z hz).1)
            replace RC := RC.grown hg2 (fun e => by rcases own1 with h3 | h3 <;> (have := Option.some.inj (e.trans h3); omega))
            replace Z := Z.grown hg2 (fun e => by rcases own1 with h3 | h3 <;> (have := Option.some.inj (e.trans h3); omega))
            replace HB : Hid (Kept w wG) := Lib.hid (HB.out.grown hg2 HB.out.size (fun z hz => by rcases own1 with h3 | h3 <;> (have := Option.some.inj (hz.symm.trans h3); omega)))
            obtain ⟨va', vc', rfl⟩ := hP2.rw.shape
            refine hK.out _ _ trivial (fun hHeld => ?_)
            clear hK K hg2 hl2 own1 hP1 ow1' QV
            (try simp only [List.getElem_toArray, List.getElem_cons_zero, List.getElem_cons_succ, Act.put, List.setIfInBounds_toArray, List.set_cons_zero, List.set_cons_succ])
            (refine wpAnyH_take (i := 11) (v := ?_) rfl (by kernel_rfl) (by kernel_rfl) (by kernel_rfl) (fun _ _ _ h => h) (Or.inl ⟨by rfl, ?_⟩) hHeld ?_; rotate_left; (· (intro w' hSw; go_simp; try with_reducible rfl)); (try simp only [List.getElem_toArray, List.getElem_cons_zero, List.getElem_cons_succ, Act.put, List.setIfInBounds_toArray, List.set_cons_zero, List.set_cons_succ]))
            (refine wpAnyH_ready (rs := [12]) (by kernel_rfl) (by simp) ?_; refine AllReadyH.cons (o := _) rfl (fun K hK => ?_) AllReadyH.nil; (simp only [List.getElem_toArray, List.getElem_cons_zero, List.getElem_cons_succ, Region.wanted, if_true]))
            have c24 := RC.pours
            have f24 := RC.free 24
            have C7 := RC.setPours (.slice va' n' vc')
            have Z7 := Z.setOther (q := c) 24 (.slice va' n' vc') (by omega)
            have B7 := Lib.hid (HB.out.set (b := c) (by omega) 24 (.slice va' n' vc'))
            have V7 : Hid (Rw (wG.setCell ⟨c, 24, none⟩ (.slice va' n' vc')) w6.heap.size (.slice va' n' vc') n' f') := Lib.hid (hP2.rw.puts c 24 [.slice va' n' vc'] (fun _ e => by have := ow2'.out c e; omega))
            go_simp
            refine hK.out _ _ trivial (fun hHeld => ?_)
            clear hK K c24 f24 RC Z HB hP2
            refine wpAnyH_done (by kernel_rfl) ?_ _
            have VS7 : Hid (0 < n' → ∀ z, (Value.slice va' n' vc').ownBlock = some z → z ≠ c ∧ w.heap.size + 2 ≤ z) := Lib.hid (fun _ z hz => by have := ow2'.out z hz; omega)
            replace V7 := Lib.hid (V7.out.mono (b' := 0) (Nat.zero_le _))
            generalize World.setCell wG ⟨c, 24, none⟩ (.slice va' n' vc') = W7 at *
            clear ow2' hHeld
            (try simp only [List.getElem_toArray, List.getElem_cons_zero, List.getElem_cons_succ, Act.put, List.setIfInBounds_toArray, List.set_cons_zero, List.set_cons_succ])
            rotate_left
            (simp only [List.getElem_toArray, List.getElem_cons_zero, List.getElem_cons_succ, Region.wanted, if_true])
            have c24 := RC.pours
            go_simp
            (try simp only [List.getElem_toArray, List.getElem_cons_zero, List.getElem_cons_succ, Act.put, List.setIfInBounds_toArray, List.set_cons_zero, List.set_cons_succ])
            refine hK.out _ _ trivial (fun hHeld => ?_)
            clear hK K c24
            (refine wpAnyH_take (i := 9) (v := .slice (loA gv vc m) (gk - m) (vc - m)) rfl (by kernel_rfl) (by kernel_rfl) (by kernel_rfl) (fun _ _ _ h => h) (Or.inl ⟨by rfl, ?_⟩) hHeld ?_; (· (intro w' hSw; exact exec_loY rfl rfl rfl (run_loP w' 26 gv gk vc m elemPY (sizePY w') (by have := CIN.out; omega)))); (try simp only [List.getElem_toArray, List.getElem_cons_zero, List.getElem_cons_succ, Act.put, List.setIfInBounds_toArray, List.set_cons_zero, List.set_cons_succ]))
            (refine wpAnyH_ready (rs := [0]) (by kernel_rfl) (by simp) ?_; refine AllReadyH.cons (o := _) rfl (fun K hK => ?_) AllReadyH.nil; (simp only [List.getElem_toArray, List.getElem_cons_zero, List.getElem_cons_succ, Region.wanted, if_true]))
            go_simp
            refine hK.out _ _ trivial (fun hHeld => ?_)
            clear hK K
            have PN := prs_none WD w6.heap.size (by omega)
            replace RC := RC.alloc (.cells #[] 41)
            replace Z := Z.alloc (.cells #[] 41)
            replace HB := Lib.hid (HB.out.alloc (.cells #[] 41))
            replace QV := Lib.hid (QV.out.alloc (.cells #[] 41))
            obtain ⟨ab, hab⟩ : ∃ ab, WD.heap.size = ab := ⟨_, rfl⟩
            rw [hab] at PN ⊢
            have hab2 : w6.heap.size ≤ ab := by omega
            have hWs : (WD.alloc (.cells #[] 41)).heap.size = ab + 1 := by rw [size1, hab]
            generalize WD.alloc (.cells #[] 41) = WE at *
            clear hab
            (try simp only [List.getElem_toArray, List.getElem_cons_zero, List.getElem_cons_succ, Act.put, List.setIfInBounds_toArray, List.set_cons_zero, List.set_cons_succ])
            (refine wpAnyH_ready (rs := [5]) (by kernel_rfl) (by simp) ?_; refine AllReadyH.cons (o := _) rfl (fun K hK => ?_) AllReadyH.nil; (simp only [List.getElem_toArray, List.getElem_cons_zero, List.getElem_cons_succ, Region.wanted, if_true]))
            refine wp_append_prs _ _ rfl w6.heap.size _ 0 [] rfl PN _ k vc rfl (fc.take (k * 2)) (by rw [List.length_take]; have := FLC.out; have := CIN.out; omega) (QV.out.from k (by have := CIN.out; omega)) (by omega) (by have := CIN.out; omega) ?_
            intro v1 wF hP1 hg1 hl1
            rw [Nat.zero_add, List.nil_append] at hP1
            have ow1' := Lib.hid (fun z hz => (World.ownsRow.lt hP1 z hz).1)
            have hg1' : WE.grownBy wF (some ab) := hg1
            have own1 : v1.ownBlock = some ab ∨ v1.ownBlock = some (ab + 1) := by
              rcases hl1 with h3 | h3
              · exact .inl h3
              · exact .inr (by rw [h3, hWs])
            replace RC := RC.grown hg1' (fun e => by have := Option.some.inj e; omega)
            replace Z := Z.grown hg1' (fun e => by have := Option.some.inj e; omega)
            replace HB : Hid (Kept w wF) := Lib.hid (HB.out.grown hg1' HB.out.size (fun z hz => by have := Option.some.inj hz; omega))
            replace QV := Lib.hid (QV.out.grownP hg1' (fun _ z hz => .inr (fun e => by have := Option.some.inj hz; have := Option.some.inj (show some gv = some z from e); omega)))
            have hWF : ab + 1 ≤ wF.heap.size := by have := hg1'.size; omega
            refine hK.out _ _ trivial (fun hHeld => ?_)
            clear hK K hg1 hl1 hg1' PN
            (try simp only [List.getElem_toArray, List.getElem_cons_zero, List.getElem_cons_succ, Act.put, List.setIfInBounds_toArray, List.set_cons_zero, List.set_cons_succ])
            (refine wpAnyH_ready (rs := [10]) (by kernel_rfl) (by simp) ?_; refine AllReadyH.cons (o := _) rfl (fun K hK => ?_) AllReadyH.nil; (simp only [List.getElem_toArray, List.getElem_cons_zero, List.getElem_cons_succ, Region.wanted, if_true]))
            refine wp_append_prs _ _ rfl w6.heap.size v1 k (fc.take (k * 2)) rfl hP1 (loA gv vc m) (gk - m) (vc - m) rfl (fc.drop (m * 2)) (by rw [List.length_drop]; have := FLC.out; omega) (QV.out.fromDrop m (by have := CIN.out; omega)) (by omega) (by have := CIN.out; omega) ?_
            intro v2 wG hP2 hg2 hl2
            have EO : Hid (fc.take (k * 2) ++ fc.drop (m * 2) = f') := Lib.hid HF.out
            have EN' : Hid (k + (gk - m) = n') := Lib.hid (by have := HN'.out; have := CIN.out; omega)
            rw [EO.out, EN'.out] at hP2
            have ow2' := Lib.hid (fun z hz => (World.ownsRow.lt hP2 z hz).1)
            replace RC := RC.grown hg2 (fun e => by rcases own1 with h3 | h3 <;> (have := Option.some.inj (e.trans h3); omega))
            replace Z := Z.grown hg2 (fun e => by rcases own1 with h3 | h3 <;> (have := Option.some.inj (e.trans h3); omega))
            replace HB : Hid (Kept w wG) := Lib.hid (HB.out.grown hg2 HB.out.size (fun z hz => by rcases own1 with h3 | h3 <;> (have := Option.some.inj (hz.symm.trans h3); omega)))
            obtain ⟨va', vc', rfl⟩ := hP2.rw.shape
            refine hK.out _ _ trivial (fun hHeld => ?_)
            clear hK K hg2 hl2 own1 hP1 ow1' QV
            (try simp only [List.getElem_toArray, List.getElem_cons_zero, List.getElem_cons_succ, Act.put, List.setIfInBounds_toArray, List.set_cons_zero, List.set_cons_succ])
            (refine wpAnyH_take (i := 11) (v := ?_) rfl (by kernel_rfl) (by kernel_rfl) (by kernel_rfl) (fun _ _ _ h => h) (Or.inl ⟨by rfl, ?_⟩) hHeld ?_; rotate_left; (· (intro w' hSw; go_simp; try with_reducible rfl)); (try simp only [List.getElem_toArray, List.getElem_cons_zero, List.getElem_cons_succ, Act.put, List.setIfInBounds_toArray, List.set_cons_zero, List.set_cons_succ]))
            (refine wpAnyH_ready (rs := [12]) (by kernel_rfl) (by simp) ?_; refine AllReadyH.cons (o := _) rfl (fun K hK => ?_) AllReadyH.nil; (simp only [List.getElem_toArray, List.getElem_cons_zero, List.getElem_cons_succ, Region.wanted, if_true]))
            have c24 := RC.pours
            have f24 := RC.free 24
            have C7 := RC.setPours (.slice va' n' vc')
            have Z7 := Z.setOther (q := c) 24 (.slice va' n' vc') (by omega)
            have B7 := Lib.hid (HB.out.set (b := c) (by omega) 24 (.slice va' n' vc'))
            have V7 : Hid (Rw (wG.setCell ⟨c, 24, none⟩ (.slice va' n' vc')) w6.heap.size (.slice va' n' vc') n' f') := Lib.hid (hP2.rw.puts c 24 [.slice va' n' vc'] (fun _ e => by have := ow2'.out c e; omega))
            go_simp
            refine hK.out _ _ trivial (fun hHeld => ?_)
            clear hK K c24 f24 RC Z HB hP2
            refine wpAnyH_done (by kernel_rfl) ?_ _
            have VS7 : Hid (0 < n' → ∀ z, (Value.slice va' n' vc').ownBlock = some z → z ≠ c ∧ w.heap.size + 2 ≤ z) := Lib.hid (fun _ z hz => by have := ow2'.out z hz; omega)
            replace V7 := Lib.hid (V7.out.mono (b' := 0) (Nat.zero_le _))
            generalize World.setCell wG ⟨c, 24, none⟩ (.slice va' n' vc') = W7 at *
            clear ow2' hHeld
            (try simp only [List.getElem_toArray, List.getElem_cons_zero, List.getElem_cons_succ, Act.put, List.setIfInBounds_toArray, List.set_cons_zero, List.set_cons_succ])
            rotate_left
            (simp only [List.getElem_toArray, List.getElem_cons_zero, List.getElem_cons_succ, Region.wanted, if_true])
            have c24 := RC.pours
            go_simp
            (try simp only [List.getElem_toArray, List.getElem_cons_zero, List.getElem_cons_succ, Act.put, List.setIfInBounds_toArray, List.set_cons_zero, List.set_cons_succ])
            refine hK.out _ _ trivial (fun hHeld => ?_)
            clear hK K c24
            (refine wpAnyH_take (i := 9) (v := .slice (loA gv vc m) (gk - m) (vc - m)) rfl (by kernel_rfl) (by kernel_rfl) (by kernel_rfl) (fun _ _ _ h => h) (Or.inl ⟨by rfl, ?_⟩) hHeld ?_; (· (intro w' hSw; exact exec_loY rfl rfl rfl (run_loP w' 26 gv gk vc m elemPY (sizePY w') (by have := CIN.out; omega)))); (try simp only [List.getElem_toArray, List.getElem_cons_zero, List.getElem_cons_succ, Act.put, List.setIfInBounds_toArray, List.set_cons_zero, List.set_cons_succ]))
            refine wpAnyH_ready (rs := [0, 2]) (by kernel_rfl) (by simp) ?_
            refine AllReadyH.cons (o := _) rfl (fun K hK => ?_) (AllReadyH.cons (o := _) rfl (fun K hK => ?_) AllReadyH.nil)
            (simp only [List.getElem_toArray, List.getElem_cons_zero, List.getElem_cons_succ, Region.wanted, if_true])
            go_simp
            refine hK.out _ _ trivial (fun hHeld => ?_)
            clear hK K
            have PN := prs_none WD w6.heap.size (by omega)
            replace RC := RC.alloc (.cells #[] 41)
            replace Z := Z.alloc (.cells #[] 41)
            replace HB := Lib.hid (HB.out.alloc (.cells #[] 41))
            replace QV := Lib.hid (QV.out.alloc (.cells #[] 41))
            obtain ⟨ab, hab⟩ : ∃ ab, WD.heap.size = ab := ⟨_, rfl⟩
            rw [hab] at PN ⊢
            have hab2 : w6.heap.size ≤ ab := by omega
            have hWs : (WD.alloc (.cells #[] 41)).heap.size = ab + 1 := by rw [size1, hab]
            generalize WD.alloc (.cells #[] 41) = WE at *
            clear hab
            (try simp only [List.getElem_toArray, List.getElem_cons_zero, List.getElem_cons_succ, Act.put, List.setIfInBounds_toArray, List.set_cons_zero, List.set_cons_succ])
            (refine wpAnyH_ready (rs := [2]) (by kernel_rfl) (by simp) ?_; refine AllReadyH.cons (o := _) rfl (fun K hK => ?_) AllReadyH.nil; (simp only [List.getElem_toArray, List.getElem_cons_zero, List.getElem_cons_succ, Region.wanted, if_true]))
            have c24 := RC.pours
            go_simp
            (try simp only [List.getElem_toArray, List.getElem_cons_zero, List.getElem_cons_succ, Act.put, List.setIfInBounds_toArray, List.set_cons_zero, List.set_cons_succ])
            refine hK.out _ _ trivial (fun hHeld => ?_)
            clear hK K c24
            (refine wpAnyH_take (i := 4) (v := .slice (some ⟨gv, 0, none⟩) k vc) rfl (by kernel_rfl) (by kernel_rfl) (by kernel_rfl) (fun _ _ _ h => h) (Or.inl ⟨by rfl, ?_⟩) hHeld ?_; (· (intro w' hSw; exact exec_hiY rfl rfl rfl (run_hiP w' 26 _ gk vc k elemPY (sizePY w') hkv.out))); (try simp only [List.getElem_toArray, List.getElem_cons_zero, List.getElem_cons_succ, Act.put, List.setIfInBounds_toArray, List.set_cons_zero, List.set_cons_succ]))
            (refine wpAnyH_ready (rs := [5]) (by kernel_rfl) (by simp) ?_; refine AllReadyH.cons (o := _) rfl (fun K hK => ?_) AllReadyH.nil; (simp only [List.getElem_toArray, List.getElem_cons_zero, List.getElem_cons_succ, Region.wanted, if_true]))
            refine wp_append_prs _ _ rfl w6.heap.size _ 0 [] rfl PN _ k vc rfl (fc.take (k * 2)) (by rw [List.length_take]; have := FLC.out; have := CIN.out; omega) (QV.out.from k (by have := CIN.out; omega)) (by omega) (by have := CIN.out; omega) ?_
            intro v1 wF hP1 hg1 hl1
            rw [Nat.zero_add, List.nil_append] at hP1
            have ow1' := Lib.hid (fun z hz => (World.ownsRow.lt hP1 z hz).1)
            have hg1' : WE.grownBy wF (some ab) := hg1
            have own1 : v1.ownBlock = some ab ∨ v1.ownBlock = some (ab + 1) := by
              rcases hl1 with h3 | h3
              · exact .inl h3
              · exact .inr (by rw [h3, hWs])
            replace RC := RC.grown hg1' (fun e => by have := Option.some.inj e; omega)
            replace Z := Z.grown hg1' (fun e => by have := Option.some.inj e; omega)
            replace HB : Hid (Kept w wF) := Lib.hid (HB.out.grown hg1' HB.out.size (fun z hz => by have := Option.some.inj hz; omega))
            replace QV := Lib.hid (QV.out.grownP hg1' (fun _ z hz => .inr (fun e => by have := Option.some.inj hz; have := Option.some.inj (show some gv = some z from e); omega)))
            have hWF : ab + 1 ≤ wF.heap.size := by have := hg1'.size; omega
            refine hK.out _ _ trivial (fun hHeld => ?_)
            clear hK K hg1 hl1 hg1' PN
            (try simp only [List.getElem_toArray, List.getElem_cons_zero, List.getElem_cons_succ, Act.put, List.setIfInBounds_toArray, List.set_cons_zero, List.set_cons_succ])
            (refine wpAnyH_ready (rs := [10]) (by kernel_rfl) (by simp) ?_; refine AllReadyH.cons (o := _) rfl (fun K hK => ?_) AllReadyH.nil; (simp only [List.getElem_toArray, List.getElem_cons_zero, List.getElem_cons_succ, Region.wanted, if_true]))
            refine wp_append_prs _ _ rfl w6.heap.size v1 k (fc.take (k * 2)) rfl hP1 (loA gv vc m) (gk - m) (vc - m) rfl (fc.drop (m * 2)) (by rw [List.length_drop]; have := FLC.out; omega) (QV.out.fromDrop m (by have := CIN.out; omega)) (by omega) (by have := CIN.out; omega) ?_
            intro v2 wG hP2 hg2 hl2
            have EO : Hid (fc.take (k * 2) ++ fc.drop (m * 2) = f') := Lib.hid HF.out
            have EN' : Hid (k + (gk - m) = n') := Lib.hid (by have := HN'.out; have := CIN.out; omega)
            rw [EO.out, EN'.out] at hP2
            have ow2' := Lib.hid (fun z hz => (World.ownsRow.lt hP2 z hz).1)
            replace RC := RC.grown hg2 (fun e => by rcases own1 with h3 | h3 <;> (have := Option.some.inj (e.trans h3); omega))
            replace Z := Z.grown hg2 (fun e => by rcases own1 with h3 | h3 <;> (have := Option.some.inj (e.trans h3); omega))
            replace HB : Hid (Kept w wG) := Lib.hid (HB.out.grown hg2 HB.out.size (fun z hz => by rcases own1 with h3 | h3 <;> (have := Option.some.inj (hz.symm.trans h3); omega)))
            obtain ⟨va', vc', rfl⟩ := hP2.rw.shape
            refine hK.out _ _ trivial (fun hHeld => ?_)
            clear hK K hg2 hl2 own1 hP1 ow1' QV
            (try simp only [List.getElem_toArray, List.getElem_cons_zero, List.getElem_cons_succ, Act.put, List.setIfInBounds_toArray, List.set_cons_zero, List.set_cons_succ])
            (refine wpAnyH_take (i := 11) (v := ?_) rfl (by kernel_rfl) (by kernel_rfl) (by kernel_rfl) (fun _ _ _ h => h) (Or.inl ⟨by rfl, ?_⟩) hHeld ?_; rotate_left; (· (intro w' hSw; go_simp; try with_reducible rfl)); (try simp only [List.getElem_toArray, List.getElem_cons_zero, List.getElem_cons_succ, Act.put, List.setIfInBounds_toArray, List.set_cons_zero, List.set_cons_succ]))
            (refine wpAnyH_ready (rs := [12]) (by kernel_rfl) (by simp) ?_; refine AllReadyH.cons (o := _) rfl (fun K hK => ?_) AllReadyH.nil; (simp only [List.getElem_toArray, List.getElem_cons_zero, List.getElem_cons_succ, Region.wanted, if_true]))
            have c24 := RC.pours
            have f24 := RC.free 24
            have C7 := RC.setPours (.slice va' n' vc')
            have Z7 := Z.setOther (q := c) 24 (.slice va' n' vc') (by omega)
            have B7 := Lib.hid (HB.out.set (b := c) (by omega) 24 (.slice va' n' vc'))
            have V7 : Hid (Rw (wG.setCell ⟨c, 24, none⟩ (.slice va' n' vc')) w6.heap.size (.slice va' n' vc') n' f') := Lib.hid (hP2.rw.puts c 24 [.slice va' n' vc'] (fun _ e => by have := ow2'.out c e; omega))
            go_simp
            refine hK.out _ _ trivial (fun hHeld => ?_)
            clear hK K c24 f24 RC Z HB hP2
            refine wpAnyH_done (by kernel_rfl) ?_ _
            have VS7 : Hid (0 < n' → ∀ z, (Value.slice va' n' vc').ownBlock = some z → z ≠ c ∧ w.heap.size + 2 ≤ z) := Lib.hid (fun _ z hz => by have := ow2'.out z hz; omega)
            replace V7 := Lib.hid (V7.out.mono (b' := 0) (Nat.zero_le _))
            generalize World.setCell wG ⟨c, 24, none⟩ (.slice va' n' vc') = W7 at *
            clear ow2' hHeld
            (try simp only [List.getElem_toArray, List.getElem_cons_zero, List.getElem_cons_succ, Act.put, List.setIfInBounds_toArray, List.set_cons_zero, List.set_cons_succ])
            rotate_left
            (simp only [List.getElem_toArray, List.getElem_cons_zero, List.getElem_cons_succ, Region.wanted, if_true])
            have c24 := RC.pours
            go_simp
            (try simp only [List.getElem_toArray, List.getElem_cons_zero, List.getElem_cons_succ, Act.put, List.setIfInBounds_toArray, List.set_cons_zero, List.set_cons_succ])
            refine hK.out _ _ trivial (fun hHeld => ?_)
            clear hK K c24
            (refine wpAnyH_take (i := 4) (v := .slice (some ⟨gv, 0, none⟩) k vc) rfl (by kernel_rfl) (by kernel_rfl) (by kernel_rfl) (fun _ _ _ h => h) (Or.inl ⟨by rfl, ?_⟩) hHeld ?_; (· (intro w' hSw; exact exec_hiY rfl rfl rfl (run_hiP w' 26 _ gk vc k elemPY (sizePY w') hkv.out))); (try simp only [List.getElem_toArray, List.getElem_cons_zero, List.getElem_cons_succ, Act.put, List.setIfInBounds_toArray, List.set_cons_zero, List.set_cons_succ]))
            (refine wpAnyH_ready (rs := [0]) (by kernel_rfl) (by simp) ?_; refine AllReadyH.cons (o := _) rfl (fun K hK => ?_) AllReadyH.nil; (simp only [List.getElem_toArray, List.getElem_cons_zero, List.getElem_cons_succ, Region.wanted, if_true]))
            go_simp
            refine hK.out _ _ trivial (fun hHeld => ?_)
            clear hK K
            have PN := prs_none WD w6.heap.size (by omega)
            replace RC := RC.alloc (.cells #[] 41)
            replace Z := Z.alloc (.cells #[] 41)
            replace HB := Lib.hid (HB.out.alloc (.cells #[] 41))
            replace QV := Lib.hid (QV.out.alloc (.cells #[] 41))
            obtain ⟨ab, hab⟩ : ∃ ab, WD.heap.size = ab := ⟨_, rfl⟩
            rw [hab] at PN ⊢
            have hab2 : w6.heap.size ≤ ab := by omega
            have hWs : (WD.alloc (.cells #[] 41)).heap.size = ab + 1 := by rw [size1, hab]
            generalize WD.alloc (.cells #[] 41) = WE at *
            clear hab
            (try simp only [List.getElem_toArray, List.getElem_cons_zero, List.getElem_cons_succ, Act.put, List.setIfInBounds_toArray, List.set_cons_zero, List.set_cons_succ])
            (refine wpAnyH_ready (rs := [5]) (by kernel_rfl) (by simp) ?_; refine AllReadyH.cons (o := _) rfl (fun K hK => ?_) AllReadyH.nil; (simp only [List.getElem_toArray, List.getElem_cons_zero, List.getElem_cons_succ, Region.wanted, if_true]))
            refine wp_append_prs _ _ rfl w6.heap.size _ 0 [] rfl PN _ k vc rfl (fc.take (k * 2)) (by rw [List.length_take]; have := FLC.out; have := CIN.out; omega) (QV.out.from k (by have := CIN.out; omega)) (by omega) (by have := CIN.out; omega) ?_
            intro v1 wF hP1 hg1 hl1
            rw [Nat.zero_add, List.nil_append] at hP1
            have ow1' := Lib.hid (fun z hz => (World.ownsRow.lt hP1 z hz).1)
            have hg1' : WE.grownBy wF (some ab) := hg1
            have own1 : v1.ownBlock = some ab ∨ v1.ownBlock = some (ab + 1) := by
              rcases hl1 with h3 | h3
              · exact .inl h3
              · exact .inr (by rw [h3, hWs])
            replace RC := RC.grown hg1' (fun e => by have := Option.some.inj e; omega)
            replace Z := Z.grown hg1' (fun e => by have := Option.some.inj e; omega)
            replace HB : Hid (Kept w wF) := Lib.hid (HB.out.grown hg1' HB.out.size (fun z hz => by have := Option.some.inj hz; omega))
            replace QV := Lib.hid (QV.out.grownP hg1' (fun _ z hz => .inr (fun e => by have := Option.some.inj hz; have := Option.some.inj (show some gv = some z from e); omega)))
            have hWF : ab + 1 ≤ wF.heap.size := by have := hg1'.size; omega
            refine hK.out _ _ trivial (fun hHeld => ?_)
            clear hK K hg1 hl1 hg1' PN
            (try simp only [List.getElem_toArray, List.getElem_cons_zero, List.getElem_cons_succ, Act.put, List.setIfInBounds_toArray, List.set_cons_zero, List.set_cons_succ])
            (refine wpAnyH_ready (rs := [10]) (by kernel_rfl) (by simp) ?_; refine AllReadyH.cons (o := _) rfl (fun K hK => ?_) AllReadyH.nil; (simp only [List.getElem_toArray, List.getElem_cons_zero, List.getElem_cons_succ, Region.wanted, if_true]))
            refine wp_append_prs _ _ rfl w6.heap.size v1 k (fc.take (k * 2)) rfl hP1 (loA gv vc m) (gk - m) (vc - m) rfl (fc.drop (m * 2)) (by rw [List.length_drop]; have := FLC.out; omega) (QV.out.fromDrop m (by have := CIN.out; omega)) (by omega) (by have := CIN.out; omega) ?_
            intro v2 wG hP2 hg2 hl2
            have EO : Hid (fc.take (k * 2) ++ fc.drop (m * 2) = f') := Lib.hid HF.out
            have EN' : Hid (k + (gk - m) = n') := Lib.hid (by have := HN'.out; have := CIN.out; omega)
            rw [EO.out, EN'.out] at hP2
            have ow2' := Lib.hid (fun z hz => (World.ownsRow.lt hP2 z hz).1)
            replace RC := RC.grown hg2 (fun e => by rcases own1 with h3 | h3 <;> (have := Option.some.inj (e.trans h3); omega))
            replace Z := Z.grown hg2 (fun e => by rcases own1 with h3 | h3 <;> (have := Option.some.inj (e.trans h3); omega))
            replace HB : Hid (Kept w wG) := Lib.hid (HB.out.grown hg2 HB.out.size (fun z hz => by rcases own1 with h3 | h3 <;> (have := Option.some.inj (hz.symm.trans h3); omega)))
            obtain ⟨va', vc', rfl⟩ := hP2.rw.shape
            refine hK.out _ _ trivial (fun hHeld => ?_)
            clear hK K hg2 hl2 own1 hP1 ow1' QV
            (try simp only [List.getElem_toArray, List.getElem_cons_zero, List.getElem_cons_succ, Act.put, List.setIfInBounds_toArray, List.set_cons_zero, List.set_cons_succ])
            (refine wpAnyH_take (i := 11) (v := ?_) rfl (by kernel_rfl) (by kernel_rfl) (by kernel_rfl) (fun _ _ _ h => h) (Or.inl ⟨by rfl, ?_⟩) hHeld ?_; rotate_left; (· (intro w' hSw; go_simp; try with_reducible rfl)); (try simp only [List.getElem_toArray, List.getElem_cons_zero, List.getElem_cons_succ, Act.put, List.setIfInBounds_toArray, List.set_cons_zero, List.set_cons_succ]))
            (refine wpAnyH_ready (rs := [12]) (by kernel_rfl) (by simp) ?_; refine AllReadyH.cons (o := _) rfl (fun K hK => ?_) AllReadyH.nil; (simp only [List.getElem_toArray, List.getElem_cons_zero, List.getElem_cons_succ, Region.wanted, if_true]))
            have c24 := RC.pours
            have f24 := RC.free 24
            have C7 := RC.setPours (.slice va' n' vc')
            have Z7 := Z.setOther (q := c) 24 (.slice va' n' vc') (by omega)
            have B7 := Lib.hid (HB.out.set (b := c) (by omega) 24 (.slice va' n' vc'))
            have V7 : Hid (Rw (wG.setCell ⟨c, 24, none⟩ (.slice va' n' vc')) w6.heap.size (.slice va' n' vc') n' f') := Lib.hid (hP2.rw.puts c 24 [.slice va' n' vc'] (fun _ e => by have := ow2'.out c e; omega))
            go_simp
            refine hK.out _ _ trivial (fun hHeld => ?_)
            clear hK K c24 f24 RC Z HB hP2
            refine wpAnyH_done (by kernel_rfl) ?_ _
            have VS7 : Hid (0 < n' → ∀ z, (Value.slice va' n' vc').ownBlock = some z → z ≠ c ∧ w.heap.size + 2 ≤ z) := Lib.hid (fun _ z hz => by have := ow2'.out z hz; omega)
            replace V7 := Lib.hid (V7.out.mono (b' := 0) (Nat.zero_le _))
            generalize World.setCell wG ⟨c, 24, none⟩ (.slice va' n' vc') = W7 at *
            clear ow2' hHeld
            (try simp only [List.getElem_toArray, List.getElem_cons_zero, List.getElem_cons_succ, Act.put, List.setIfInBounds_toArray, List.set_cons_zero, List.set_cons_succ])
            rotate_left
            all_goals
              have st3 := ST3.out
              have hw7 : c < W7.heap.size := C7.lt
              go_wp2_with (refine guardY (isLdY 33) ?_ ?_; (· rfl); refine load_ry rfl 33 _ rfl c rfl _ _ _ C7 _ Try.underlying33 rfl ?_ ?_; (· kernel_rfl))
              refine (KL.out _ _ f' n' _ V7.out (by omega)).mono ?_
              rintro e w8 ⟨u8, rfl, q8, b8⟩
              have G8 := Lib.hid q8
              replace C7 := C7.below b8
              replace Z7 := Z7.below b8
              replace V7 := Lib.hid (V7.out.below b8)
              replace B7 := Lib.hid (B7.out.call b8)
              have hw8 := b8.size
              clear q8 b8
              go_wp2_with fail
              refine (KO.out f' n' u8 _ w8 G8.out).mono ?_
              rintro e w9 ⟨x9, rfl, q9, b9⟩
              rw [(LH.out f' n').2, (LH.out f' n').1] at q9
              have US8 : Hid (0 < (lpA ns f' n').length → ∀ z, x9.ownBlock = some z → z ≠ c) := Lib.hid (fun _ z hz => by have := (World.ownsRow.lt q9 z hz).1; omega)
              have Q8 := Lib.hid (q9.rw.mono (b' := 0) (Nat.zero_le _))
              replace C7 := C7.below b9
              replace Z7 := Z7.below b9
              replace V7 := Lib.hid (V7.out.below b9)
              replace B7 := Lib.hid (B7.out.call b9)
              have CT2 : Hid (ctR ns t' f' n' = ctR ns n fs n) := Lib.hid (by rw [← ST1.out]; exact CT.out)
              have st2 := ST2.out
              clear q9 b9 G8
              go_wp2_with fail
              go_roundg n'
              case rel => exact ⟨f', n', t', va', vc', rfl, by omega, st2, CT2, Q8, V7, C7, Z7, B7, US8, VS7⟩
              case measure => exact st3
    · have e0 : (lpA ns fc gk).length = 0 := by rw [HP.out, HN.out]; omega
      have EE := Lib.hid (C0.out fc gk e0 t)
      have EC : Hid (ctN ns fs n = gk ∧ ctF ns fs n = fc) := Lib.hid (by
        have := CT.out
        rw [EE.out] at this
        unfold ctN ctF
        rw [← this]; exact ⟨rfl, rfl⟩)
      have hNf : decide ((0 : Int) < (N : Int)) = false := by simp; omega
      have hNn : ¬ (0 : Int) < (N : Int) := by omega
      have hNz : N = 0 := by omega
      have S1 := Lib.hid (Z.putAll ns (.slice va gk vc) H24.out)
      have S2 := Lib.hid (HB.out.puts (b := w.heap.size + 1) (by omega) 0 (rpC ns (.slice va gk vc)))
      have S3 := Lib.hid (Rw.grab (QV.out.puts (w.heap.size + 1) 0 (rpC ns (.slice va gk vc)) (fun h0 e => by have := (VS.out h0 _ e).2; omega)) (fun h0 z hz => by have := (VS.out h0 z hz).2; omega) : Rw _ w.heap.size _ gk fc)
      go_wp2_with (first | (refine guardY (isLdY 33) ?_ ?_; (· rfl); refine load_ry rfl 33 _ rfl c rfl _ _ _ RC _ Try.underlying33 rfl ?_ ?_; (· kernel_rfl)) | (refine guardY (isStY 33) ?_ ?_; (· rfl); refine store_ry rfl 33 _ _ rfl (w.heap.size + 1) rfl ns (.slice va gk vc) rfl _ _ _ Z H24.out rfl ?_ ?_; (· kernel_rfl)))
      exact bodyPost_ret (res_ry1 rfl _ _ (w.heap.size + 1) ns _ _ _ (.bool true) rfl rfl S1.out Try.underlying33 rfl (by kernel_rfl)) rfl ⟨_, by rw [E.out]; rfl, by rw [E.out, EC.out.1, EC.out.2]; exact S3.out, S2.out⟩
end Go.Proofs.Ytalngdccjoafhaa.base
