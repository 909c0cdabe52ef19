/-
  How many layers a replay moves, walked on both sides.
-/
import Derived.Test.YtalngdccjoafhabRyEZ
namespace Go.Proofs.Ytalngdccjoafhab.base
open Go.ChangeShapes Go.WideShapes Go.ChangeAt Go.RowKit
set_option linter.unusedVariables false
set_option linter.unusedSimpArgs false

theorem ml_yes {ns fs : List Int} {n : Nat} (h : rpOk ns fs n = true) : mlA ns fs n = doM ns fs n := by unfold mlA; rw [if_pos h]
theorem ml_no {ns fs : List Int} {n : Nat} (h : rpOk ns fs n = false) : mlA ns fs n = 0 := by unfold mlA; rw [if_neg (by rw [h]; simp)]
theorem doM_next (ns fs : List Int) (k : Nat) : doM ns fs (k + 1) = doM ns fs k + pourA (doR ns fs k) (fs.getD (k * 2) 0) (fs.getD (k * 2 + 1) 0) := rfl

set_option maxHeartbeats 3200000 in
set_option maxRecDepth 100000 in
theorem implMoved (ns fs : List Int) (v : Value) (n b : Nat) (w : World) (h24 : ns.length = 24) (hn : n ≤ 1048576) (h : Rw w b v n fs) :
    Calls Try.prog 17 #[rpV ns v] w fun e w' => e = .returned (.tuple #[.int .i64 (mlA ns fs n), .bool (rpOk ns fs n)]) ∧ Kept w w' := by
  obtain ⟨a, cap, rfl⟩ := h.shape
  have RY := Ry.box (v := .slice a n cap) w 32 h24
  have HB := Lib.hid ((kept_refl w).alloc (.cells (rpC ns (.slice a n cap)).toArray 32))
  have HR := Lib.hid (h.alloc (.cells (rpC ns (.slice a n cap)).toArray 32))
  have AP := Lib.hid (fun hn0 k hk => (h.ownlt hn0 k hk).2)
  clear h
  unfold rpV
  go_enter Try.func17, Try.ntmps17
  go_wp2_with (refine guardY (isLdY 32) ?_ ?_; (· rfl); refine load_ry rfl 32 _ rfl w.heap.size rfl _ _ _ RY _ Try.underlying32 rfl ?_ ?_; (· kernel_rfl))
  refine (implIsReplay ns fs (.slice a n cap) n b _ h24 hn HR.out).mono ?_
  rintro e w1 ⟨rfl, b1⟩
  have hs1 : w.heap.size ≤ w1.heap.size := by have := b1.size; rw [size1] at this; omega
  replace RY := RY.below b1
  replace HB := Lib.hid (HB.out.call b1)
  replace HR := Lib.hid (HR.out.below b1)
  clear b1
  cases hok : rpOk ns fs n with
  | false =>
    have E := Lib.hid (ml_no hok)
    have OKH := Lib.hid hok
    clear hok
    go_wp2_with fail
    go_ret2
    exact ⟨by rw [E.out, OKH.out]; rfl, HB.out⟩
  | true =>
    have E := Lib.hid (ml_yes hok)
    have OKH := Lib.hid hok
    have DD := Lib.hid (rp_do hok)
    have n60 := rp_le hok
    have HL := Lib.hid (doR_len h24 fs)
    clear hok
    go_wp2_with (refine guardY (isLdY 30) ?_ ?_; (· rfl); refine load_start rfl 30 _ rfl w.heap.size rfl _ _ _ RY _ Try.underlying30 rfl ?_ ?_; (· kernel_rfl))
    refine (goOn_any ns _ h24).mono ?_
    rintro e w2 ⟨rfl, hc, b2⟩
    have hcs : w.heap.size ≤ w1.heap.size := hs1
    obtain ⟨c, hcc⟩ : ∃ c, w1.heap.size = c := ⟨_, rfl⟩
    rw [hcc] at hc hcs ⊢
    replace RY := RY.below b2
    replace HB := Lib.hid (HB.out.call b2)
    replace HR := Lib.hid (HR.out.below b2)
    have hcl := Lib.hid (show ∀ z, (Value.slice a n cap).ownBlock = some z → 0 < n → z ≠ c from fun z hz h0 => by have := AP.out h0 z hz; have := hcc; have := hs1; omega)
    have c24 := RY.pours
    clear b2 hcc
    unfold onV
    go_wp2_with fail
    clear c24
    go_loopw [4, 20] (fun s i wr => ∃ k : Nat, k ≤ n ∧ i = .int .i64 k ∧ s = .int .i64 (doM ns fs k) ∧ Has wr c (doR ns fs k) 24 ∧ Hid (Rw wr b (.slice a n cap) n fs) ∧ Hid (Kept w wr)) (fun _ i _ => n - (intOf i).toNat)
    case atStart => exact ⟨0, by omega, rfl, rfl, hc, HR, HB⟩
    case round =>
      clear hc HR HB
      obtain ⟨k, hk, rfl, rfl, GC, GR, GB⟩ := hrel
      by_cases hlt : k < n
      · have ki : (k : Int) < ((n : Nat) : Int) := by omega
        have k0 : (0 : Int) ≤ (k : Int) := by omega
        obtain ⟨g, cap2, hv', _, hgl⟩ := GR.out.form (by omega)
        injection hv' with ha _ hcap
        subst ha
        subst hcap
        have hR := HL.out k
        have r0 := GR.out.cell (k * 2) (by omega)
        have r1 := GR.out.cell (k * 2 + 1) (by omega)
        have gc : g ≠ c := hcl.out g rfl (by omega)
        have ER := Lib.hid (doR_next (ns := ns) (fs := fs) k)
        have EM := Lib.hid (doM_next ns fs k)
        have OK := do_can DD.out hlt
        unfold canAt at OK
        have hm := doM_small ns fs k
        have ha := pourA_small (doR ns fs k) (fs.getD (k * 2) 0) (fs.getD (k * 2 + 1) 0)
        have hl2 := pourR_len hR (fs.getD (k * 2) 0) (fs.getD (k * 2 + 1) 0)
        generalize fs.getD (k * 2) 0 = x at *
        generalize fs.getD (k * 2 + 1) 0 = y at *
        obtain ⟨R, hRR⟩ : ∃ R, doR ns fs k = R := ⟨_, rfl⟩
        rw [hRR] at GC hR ER EM hl2 OK ha
        clear hRR
        have KC := Lib.hid (fun W hW => goOn1_any R x y c W hW)
        have EY : onR R x y = pourR R x y := by unfold onR; rw [if_pos OK]
        rw [EY, OK] at KC
        generalize pourR R x y = B at *
        generalize pourA R x y = M at *
        generalize doM ns fs k = D at *
        have RG := Lib.hid (range_two r0 r1)
        have B8 := Has.box (ns := [x, y]) (n := 2) wr 51 rfl (by omega)
        replace GC := GC.alloc (.cells (ints [x, y]).toArray 51)
        replace GR := Lib.hid (GR.out.alloc (.cells (ints [x, y]).toArray 51))
        replace GB := Lib.hid (GB.out.alloc (.cells (ints [x, y]).toArray 51))
        clear r0 r1 OK EY
        go_wp2_with (first | (refine wpList_load_mid rfl 51 _ rfl g (k * 2) rfl (ints [x, y]) _ RG.out Try.underlying51 rfl (by kernel_rfl) ?_) | (refine guardY (isStY 51) ?_ ?_; (· rfl); (refine store_new rfl 51 _ _ rfl _ _ _ rfl _ rfl _ rfl rfl ?_ ?_ ?_; (· (first | assumption | rfl)); (· kernel_rfl))) | (refine guardY (isLdY 51) ?_ ?_; (· rfl); (refine load_has rfl 51 _ rfl _ rfl ?_ 2 ?_ _ Try.underlying51 rfl ?_ ?_; rotate_left; (· (repeat (first | (with_reducible assumption) | ((with_reducible refine Has.box _ _ ?_ ?_) <;> (first | assumption | decide)) | (with_reducible refine Has.alloc ?_ _) | ((with_reducible refine Has.putOther ?_ _ _ ?_); rotate_left; omega; skip) | ((with_reducible refine Has.below ?_ ?_); rotate_left; assumption)))); (· kernel_rfl))))
        refine (KC.out _ GC).mono ?_
        rintro e w4 ⟨rfl, hc4, g4⟩
        replace GR := Lib.hid (GR.out.grownP g4 (fun _ j hj => .inr (fun e => by have := Option.some.inj hj; have := Option.some.inj (show some g = some j from e); omega)))
        replace GB : Hid (Kept w w4) := Lib.hid (GB.out.gbY g4 hcs)
        have A4 := Has.box w4 30 hl2 (by omega)
        have N2 : Has (w4.alloc (.cells (ints B).toArray 30)) c (doR ns fs (k + 1)) 24 := by rw [ER.out]; exact hc4.alloc _
        have N3 := Lib.hid (GR.out.alloc (.cells (ints B).toArray 30))
        have N5 := Lib.hid (GB.out.alloc (.cells (ints B).toArray 30))
        clear GC g4 B8 KC RG GR GB hc4
        have wr1 : IntKind.i64.wrap (D + M) = D + M := IntWalk.i64_in _ (by omega)
        go_wp2_with (refine guardY (isStY 30) ?_ ?_; (· rfl); (refine store_new rfl 30 _ _ rfl _ _ _ rfl _ rfl _ rfl rfl ?_ ?_ ?_; (· (first | assumption | rfl)); (· kernel_rfl)))
        go_roundw
        case rel => exact ⟨k + 1, by omega, by go_num, by rw [EM.out], N2, N3, N5⟩
        case measure => simp [intOf]; omega
      · obtain rfl : k = n := by omega
        go_wp2_with fail
        go_ret2
        exact ⟨by rw [E.out, OKH.out]; rfl, GB.out⟩

set_option maxHeartbeats 3200000 in
set_option maxRecDepth 100000 in
theorem specMoved (ns fs : List Int) (v : Value) (n b : Nat) (w : World) (h24 : ns.length = 24) (hn : n ≤ 1048576) (h : Rw w b v n fs) :
    Calls Try.prog 16 #[rpV ns v] w fun e w' => e = .returned (.tuple #[.int .i64 (mlA ns fs n), .bool (rpOk ns fs n)]) ∧ Kept w w' := by
  obtain ⟨a, cap, rfl⟩ := h.shape
  have RY := Ry.box (v := .slice a n cap) w 32 h24
  have HB := Lib.hid ((kept_refl w).alloc (.cells (rpC ns (.slice a n cap)).toArray 32))
  have HR := Lib.hid (h.alloc (.cells (rpC ns (.slice a n cap)).toArray 32))
  have hi00 : (Try.prog.info? 30).map (·.size) = some 24 := by kernel_rfl
  clear h
  unfold rpV
  go_enter Try.func16, Try.ntmps16
  go_wp2_with (refine guardY (isLdY 32) ?_ ?_; (· rfl); refine load_ry rfl 32 _ rfl w.heap.size rfl _ _ _ RY _ Try.underlying32 rfl ?_ ?_; (· kernel_rfl))
  refine (l11Racks_any ns fs (.slice a n cap) n b _ h24 hn HR.out).mono ?_
  rintro e w1 ⟨u, rfl, q1, b1⟩
  replace RY := RY.below b1
  replace HB := Lib.hid (HB.out.call b1)
  replace HR := Lib.hid (HR.out.below b1)
  clear b1
  cases hok : rpOk ns fs n with
  | false =>
    have E := Lib.hid (ml_no hok)
    have OKH := Lib.hid hok
    have c24 := RY.pours
    clear hok q1
    by_cases h0 : 0 < n
    · have hi0 : (0 : Int) < (n : Int) := by omega
      have hd0 : decide ((0 : Int) < (n : Int)) = true := by simpa using hi0
      go_wp2_with fail
      clear c24 hi0 hd0
      go_loopw [6, 7] (fun s i wr => i = .int .i64 0 ∧ s = .int .i64 0 ∧ Ry wr w.heap.size ns (.slice a n cap) 32 ∧ Hid (Kept w wr)) (fun _ _ _ => 0)
      case atStart => exact ⟨rfl, rfl, RY, HB⟩
      case round =>
        obtain ⟨rfl, rfl, RY, GB⟩ := hrel
        have c24 := RY.pours
        have hi0 : (0 : Int) < (n : Int) := by omega
        have hd0 : decide ((0 : Int) < (n : Int)) = true := by simpa using hi0
        go_wp2_with fail
        go_ret2
        exact ⟨by rw [E.out, OKH.out]; rfl, GB.out⟩
    · obtain rfl : n = 0 := by omega
      go_wp2_with fail
      clear c24
      go_loopw [6, 7] (fun s i wr => i = .int .i64 0 ∧ s = .int .i64 0 ∧ Ry wr w.heap.size ns (.slice a 0 cap) 32 ∧ Hid (Kept w wr)) (fun _ _ _ => 0)
      case atStart => exact ⟨rfl, rfl, RY, HB⟩
      case round =>
        obtain ⟨rfl, rfl, RY, GB⟩ := hrel
        have c24 := RY.pours
        go_wp2_with fail
        go_ret2
        exact ⟨by rw [E.out, OKH.out]; rfl, GB.out⟩
  | true =>
    have E := Lib.hid (ml_yes hok)
    have OKH := Lib.hid hok
    have DD := Lib.hid (rp_do hok)
    have n60 := rp_le hok
    have HL := Lib.hid (doR_len h24 fs)
    have H24 := Lib.hid h24
    rw [rk_yes hok] at q1
    obtain ⟨ua, uc, rfl⟩ := q1.shape
    have hl := rks_len ns fs n
    rw [hl] at q1 ⊢
    have GU := Lib.hid q1
    clear hok q1 hl
    go_wp2_with fail
    go_loopw [6, 7] (fun s i wr => ∃ k : Nat, k ≤ n ∧ i = .int .i64 k ∧ s = .int .i64 (doM ns fs k) ∧ Hid (Gr wr (w.alloc (.cells (rpC ns (.slice a n cap)).toArray 32)).heap.size 30 24 (.slice ua (n + 1) uc) (rks ns fs n)) ∧ Ry wr w.heap.size ns (.slice a n cap) 32 ∧ Hid (Rw wr b (.slice a n cap) n fs) ∧ Hid (Kept w wr)) (fun _ i _ => n - (intOf i).toNat)
    case atStart => exact ⟨0, by omega, rfl, rfl, GU, RY, HR, HB⟩
    case round =>
      clear GU RY HR HB
      obtain ⟨k, hk, rfl, rfl, GU, RY, GR, GB⟩ := hrel
      have c24 := RY.pours
      by_cases hlt : k < n
      · have ki : (k : Int) < ((n : Nat) : Int) := by omega
        have k0 : (0 : Int) ≤ (k : Int) := by omega
        have k1 : (k : Int) < (n : Int) + 1 := by omega
        obtain ⟨g, cap2, hv', _, hgl⟩ := GR.out.form (by omega)
        injection hv' with ha _ hcap
        subst ha
        subst hcap
        obtain ⟨gu, cu, hu, hub, hul⟩ := GU.out.form (by rw [rks_len]; omega)
        rw [rks_len] at hu
        injection hu with hu1 _ hu3
        subst hu1
        subst hu3
        have hR := HL.out k
        have gru := Lib.hid (fun w' (hw : Kept wr w') => (GU.out.below hw).range (rks_len ns fs n).symm k (by omega))
        rw [rks_get ns fs n k hk] at gru
        have C24 := Lib.hid (fun w' (hw : Kept wr w') => (RY.below hw).pours)
        have C0 : Hid (∀ w', Kept wr w' → w'.cell? ⟨g, k * 2, none⟩ = some (.int .i64 (fs.getD (k * 2) 0))) := Lib.hid (fun w' hw => (GR.out.below hw).cell (k * 2) (by omega))
        have C1 : Hid (∀ w', Kept wr w' → w'.cell? ⟨g, k * 2 + 1, none⟩ = some (.int .i64 (fs.getD (k * 2 + 1) 0))) := Lib.hid (fun w' hw => (GR.out.below hw).cell (k * 2 + 1) (by omega))
        have EM := Lib.hid (doM_next ns fs k)
        have OK := do_can DD.out hlt
        unfold canAt at OK
        have CV : Hid (vR (doR ns fs k) = true) := Lib.hid (do_valid H24.out (do_back DD.out hk))
        have hm := doM_small ns fs k
        have hA := pourA_small (doR ns fs k) (fs.getD (k * 2) 0) (fs.getD (k * 2 + 1) 0)
        generalize fs.getD (k * 2) 0 = x at *
        generalize fs.getD (k * 2 + 1) 0 = y at *
        obtain ⟨C, hC⟩ : ∃ C, doR ns fs k = C := ⟨_, rfl⟩
        rw [hC] at hR gru CV EM OK hA
        clear hC
        obtain ⟨p, q, rfl, rfl, p6, q6, hne, hc⟩ := pourOk_parts OK
        have EA : pourA C (p : Int) (q : Int) = ((canN (tub C p) (tub C q) : Nat) : Int) := by unfold pourA; rw [if_pos OK, Int.toNat_natCast, Int.toNat_natCast]
        have R24 := pourR_len hR (p : Int) (q : Int)
        rw [pourR_T OK] at R24
        rw [EA] at EM hA
        have HNE := Lib.hid hne
        have HC := Lib.hid hc
        clear OK hne hc EA
        generalize hRT : pourT C p q = R at *
        have HRT := Lib.hid hRT
        clear hRT
        obtain ⟨M, hM⟩ : ∃ M, canN (tub C p) (tub C q) = M := ⟨_, rfl⟩
        have HMM := Lib.hid hM
        rw [hM] at EM hA
        clear hM
        generalize doM ns fs k = D at *
        have wr1 : IntKind.i64.wrap (D + (M : Int)) = D + (M : Int) := IntWalk.i64_in _ (by omega)
        have l2 : (ints R).length = 24 := by rw [ints_len]; exact R24
        have hi1 : (Try.prog.info? 30).map (·.size) = some (ints C).length := by rw [ints_len, hR]; exact hi00
        have HCR := Lib.hid hR
        have hi0 := hi00
        go_wp2_with fail
        clear c24
        refine wp_region_held_drew (S := fun w' => Kept wr w') (by kernel_rfl) ?_ (fun hHeld => ?_)
        · exact (kept_refl wr).drewN 1
        (refine wpAnyH_take (i := 0) (v := ?_) rfl (by kernel_rfl) (by kernel_rfl) (by kernel_rfl) (fun _ _ _ h => h) (Or.inl ⟨by rfl, ?_⟩) hHeld ?_; rotate_left; (· (intro w' hSw; go_simp; try with_reducible rfl)); (try simp only [List.getElem_toArray, List.getElem_cons_zero, List.getElem_cons_succ, Act.put, List.setIfInBounds_toArray, List.set_cons_zero, List.set_cons_succ])); (refine wpAnyH_take (i := 1) (v := ?_) rfl (by kernel_rfl) (by kernel_rfl) (by kernel_rfl) (fun _ _ _ h => h) (Or.inl ⟨by rfl, ?_⟩) hHeld ?_; rotate_left; (· (intro w' hSw; go_simp; try with_reducible rfl)); (try simp only [List.getElem_toArray, List.getElem_cons_zero, List.getElem_cons_succ, Act.put, List.setIfInBounds_toArray, List.set_cons_zero, List.set_cons_succ])); (refine wpAnyH_take (i := 2) (v := ?_) rfl (by kernel_rfl) (by kernel_rfl) (by kernel_rfl) (fun _ _ _ h => h) (Or.inl ⟨by rfl, ?_⟩) hHeld ?_; rotate_left; (· (intro w' hSw; go_simp; try with_reducible rfl)); (try simp only [List.getElem_toArray, List.getElem_cons_zero, List.getElem_cons_succ, Act.put, List.setIfInBounds_toArray, List.set_cons_zero, List.set_cons_succ])); (refine wpAnyH_take (i := 4) (v := ?_) rfl (by kernel_rfl) (by kernel_rfl) (by kernel_rfl) (fun _ _ _ h => h) (Or.inl ⟨by rfl, ?_⟩) hHeld ?_; rotate_left; (· (intro w' hSw; go_simp; try with_reducible rfl)); (try simp only [List.getElem_toArray, List.getElem_cons_zero, List.getElem_cons_succ, Act.put, List.setIfInBounds_toArray, List.set_cons_zero, List.set_cons_succ])); (refine wpAnyH_take (i := 6) (v := ?_) rfl (by kernel_rfl) (by kernel_rfl) (by kernel_rfl) (fun _ _ _ h => h) (Or.inl ⟨by rfl, ?_⟩) hHeld ?_; rotate_left; (· (intro w' hSw; go_simp; try with_reducible rfl)); (try simp only [List.getElem_toArray, List.getElem_cons_zero, List.getElem_cons_succ, Act.put, List.setIfInBounds_toArray, List.set_cons_zero, List.set_cons_succ])); (refine wpAnyH_take (i := 10) (v := ?_) rfl (by kernel_rfl) (by kernel_rfl) (by kernel_rfl) (fun _ _ _ h => h) (Or.inl ⟨by rfl, ?_⟩) hHeld ?_; rotate_left; (· (intro w' hSw; go_simp; try with_reducible rfl)); (try simp only [List.getElem_toArray, List.getElem_cons_zero, List.getElem_cons_succ, Act.put, List.setIfInBounds_toArray, List.set_cons_zero, List.set_cons_succ])); (refine wpAnyH_take (i := 12) (v := ?_) rfl (by kernel_rfl) (by kernel_rfl) (by kernel_rfl) (fun _ _ _ h => h) (Or.inl ⟨by rfl, ?_⟩) hHeld ?_; rotate_left; (· (intro w' hSw; go_simp; try with_reducible rfl)); (try simp only [List.getElem_toArray, List.getElem_cons_zero, List.getElem_cons_succ, Act.put, List.setIfInBounds_toArray, List.set_cons_zero, List.set_cons_succ]))
        (refine wpAnyH_take (i := 3) (v := _) rfl (by kernel_rfl) (by kernel_rfl) (by kernel_rfl) (fun _ _ _ h => h) (yieldsIf_load_mid (by rfl) 30 _ rfl _ _ rfl (ints C) _ (fun w' hSw => gru.out w' hSw) Try.underlying30 rfl (hi1)) hHeld ?_; (try simp only [List.getElem_toArray, List.getElem_cons_zero, List.getElem_cons_succ, Act.put, List.setIfInBounds_toArray, List.set_cons_zero, List.set_cons_succ]))
        (refine wpAnyH_take (i := 5) (v := .slice (some ⟨g, 0, none⟩) n cap) rfl (by kernel_rfl) (by kernel_rfl) (by kernel_rfl) (fun _ _ _ h => h) (Or.inl ⟨by rfl, ?_⟩) hHeld ?_; (· (intro w' hSw; have q := C24.out w' hSw; clear hSw; go_simp; try with_reducible rfl)); (try simp only [List.getElem_toArray, List.getElem_cons_zero, List.getElem_cons_succ, Act.put, List.setIfInBounds_toArray, List.set_cons_zero, List.set_cons_succ]))
        (refine wpAnyH_take (i := 11) (v := .slice (some ⟨g, 0, none⟩) n cap) rfl (by kernel_rfl) (by kernel_rfl) (by kernel_rfl) (fun _ _ _ h => h) (Or.inl ⟨by rfl, ?_⟩) hHeld ?_; (· (intro w' hSw; have q := C24.out w' hSw; clear hSw; go_simp; try with_reducible rfl)); (try simp only [List.getElem_toArray, List.getElem_cons_zero, List.getElem_cons_succ, Act.put, List.setIfInBounds_toArray, List.set_cons_zero, List.set_cons_succ]))
        (refine wpAnyH_take (i := 7) (v := ?_) rfl (by kernel_rfl) (by kernel_rfl) (by kernel_rfl) (fun _ _ _ h => h) (Or.inl ⟨by rfl, ?_⟩) hHeld ?_; rotate_left; (· (intro w' hSw; go_simp; try with_reducible rfl)); (try simp only [List.getElem_toArray, List.getElem_cons_zero, List.getElem_cons_succ, Act.put, List.setIfInBounds_toArray, List.set_cons_zero, List.set_cons_succ])); (refine wpAnyH_take (i := 8) (v := ?_) rfl (by kernel_rfl) (by kernel_rfl) (by kernel_rfl) (fun _ _ _ h => h) (Or.inl ⟨by rfl, ?_⟩) hHeld ?_; rotate_left; (· (intro w' hSw; go_simp; try with_reducible rfl)); (try simp only [List.getElem_toArray, List.getElem_cons_zero, List.getElem_cons_succ, Act.put, List.setIfInBounds_toArray, List.set_cons_zero, List.set_cons_succ])); (refine wpAnyH_take (i := 13) (v := ?_) rfl (by kernel_rfl) (by kernel_rfl) (by kernel_rfl) (fun _ _ _ h => h) (Or.inl ⟨by rfl, ?_⟩) hHeld ?_; rotate_left; (· (intro w' hSw; go_simp; try with_reducible rfl)); (try simp only [List.getElem_toArray, List.getElem_cons_zero, List.getElem_cons_succ, Act.put, List.setIfInBounds_toArray, List.set_cons_zero, List.set_cons_succ])); (refine wpAnyH_take (i := 14) (v := ?_) rfl (by kernel_rfl) (by kernel_rfl) (by kernel_rfl) (fun _ _ _ h => h) (Or.inl ⟨by rfl, ?_⟩) hHeld ?_; rotate_left; (· (intro w' hSw; go_simp; try with_reducible rfl)); (try simp only [List.getElem_toArray, List.getElem_cons_zero, List.getElem_cons_succ, Act.put, List.setIfInBounds_toArray, List.set_cons_zero, List.set_cons_succ]))
        (refine wpAnyH_take (i := 9) (v := .int .i64 (p : Int)) rfl (by kernel_rfl) (by kernel_rfl) (by kernel_rfl) (fun _ _ _ h => h) (Or.inl ⟨by rfl, ?_⟩) hHeld ?_; (· (intro w' hSw; have q := C0.out w' hSw; clear hSw; go_simp; try with_reducible rfl)); (try simp only [List.getElem_toArray, List.getElem_cons_zero, List.getElem_cons_succ, Act.put, List.setIfInBounds_toArray, List.set_cons_zero, List.set_cons_succ]))
        (refine wpAnyH_take (i := 15) (v := .int .i64 (q : Int)) rfl (by kernel_rfl) (by kernel_rfl) (by kernel_rfl) (fun _ _ _ h => h) (Or.inl ⟨by rfl, ?_⟩) hHeld ?_; (· (intro w' hSw; have q := C1.out w' hSw; clear hSw; go_simp; try with_reducible rfl)); (try simp only [List.getElem_toArray, List.getElem_cons_zero, List.getElem_cons_succ, Act.put, List.setIfInBounds_toArray, List.set_cons_zero, List.set_cons_succ]))
        refine wpAnyH_ready (rs := [16, 20]) (by kernel_rfl) (by simp) ?_
        refine AllReadyH.cons (o := _) rfl (fun K hK => ?callFirst) (AllReadyH.cons (o := _) rfl (fun K hK => ?makeFirst) AllReadyH.nil)
        case' callFirst =>
          (simp only [List.getElem_toArray, List.getElem_cons_zero, List.getElem_cons_succ, Region.wanted, if_true])
          go_simp
          refine (l2Pour_any C p q _ HCR.out CV.out p6 q6 HNE.out HC.out).mono ?_
          rintro e wp2 ⟨rfl, bp2⟩
          rw [HRT.out, HMM.out]
          dsimp only
          (try simp only [List.getElem_toArray, List.getElem_cons_zero, List.getElem_cons_succ, Act.put, List.setIfInBounds_toArray, List.set_cons_zero, List.set_cons_succ])
          have KW := Kept.call hHeld bp2
          refine hK.out _ _ KW (fun hHeld => ?_)
          clear hK K bp2
          (refine wpAnyH_take (i := 17) (v := ?_) rfl (by kernel_rfl) (by kernel_rfl) (by kernel_rfl) (fun _ _ _ h => h) (Or.inl ⟨by rfl, ?_⟩) hHeld ?_; rotate_left; (· (intro w' hSw; go_simp; try with_reducible rfl)); (try simp only [List.getElem_toArray, List.getElem_cons_zero, List.getElem_cons_succ, Act.put, List.setIfInBounds_toArray, List.set_cons_zero, List.set_cons_succ])); (refine wpAnyH_take (i := 18) (v := ?_) rfl (by kernel_rfl) (by kernel_rfl) (by kernel_rfl) (fun _ _ _ h => h) (Or.inl ⟨by rfl, ?_⟩) hHeld ?_; rotate_left; (· (intro w' hSw; go_simp; try with_reducible rfl)); (try simp only [List.getElem_toArray, List.getElem_cons_zero, List.getElem_cons_succ, Act.put, List.setIfInBounds_toArray, List.set_cons_zero, List.set_cons_succ])); (refine wpAnyH_take (i := 19) (v := ?_) rfl (by kernel_rfl) (by kernel_rfl) (by kernel_rfl) (fun _ _ _ h => h) (Or.inl ⟨by rfl, ?_⟩) hHeld ?_; rotate_left; (· (intro w' hSw; go_simp; try with_reducible rfl)); (try simp only [List.getElem_toArray, List.getElem_cons_zero, List.getElem_cons_succ, Act.put, List.setIfInBounds_toArray, List.set_cons_zero, List.set_cons_succ]))
          (refine wpAnyH_ready (rs := [20]) (by kernel_rfl) (by simp) ?_; refine AllReadyH.cons (o := _) rfl (fun K hK => ?_) AllReadyH.nil; (simp only [List.getElem_toArray, List.getElem_cons_zero, List.getElem_cons_succ, Region.wanted, if_true]))
          go_simp
          have F9 := Has.zero24 wp2 30
          have h9 := KW.size
          replace KW := KW.alloc (.cells #[.int .i64 0, .int .i64 0, .int .i64 0, .int .i64 0, .int .i64 0, .int .i64 0, .int .i64 0, .int .i64 0, .int .i64 0, .int .i64 0, .int .i64 0, .int .i64 0, .int .i64 0, .int .i64 0, .int .i64 0, .int .i64 0, .int .i64 0, .int .i64 0, .int .i64 0, .int .i64 0, .int .i64 0, .int .i64 0, .int .i64 0, .int .i64 0] 30)
          refine hK.out _ _ KW (fun hHeld => ?_)
          clear hK K
          generalize wp2.alloc (.cells #[.int .i64 0, .int .i64 0, .int .i64 0, .int .i64 0, .int .i64 0, .int .i64 0, .int .i64 0, .int .i64 0, .int .i64 0, .int .i64 0, .int .i64 0, .int .i64 0, .int .i64 0, .int .i64 0, .int .i64 0, .int .i64 0, .int .i64 0, .int .i64 0, .int .i64 0, .int .i64 0, .int .i64 0, .int .i64 0, .int .i64 0, .int .i64 0] 30) = wp3 at *
          generalize wp2.heap.size = b9 at *
        case' makeFirst =>
          (simp only [List.getElem_toArray, List.getElem_cons_zero, List.getElem_cons_succ, Region.wanted, if_true])
          go_simp
          have F9 : Has _ wr.heap.size z24 24 := Has.zero24 wr.drew 30
          have KW := Kept.alloc hHeld (.cells #[.int .i64 0, .int .i64 0, .int .i64 0, .int .i64 0, .int .i64 0, .int .i64 0, .int .i64 0, .int .i64 0, .int .i64 0, .int .i64 0, .int .i64 0, .int .i64 0, .int .i64 0, .int .i64 0, .int .i64 0, .int .i64 0, .int .i64 0, .int .i64 0, .int .i64 0, .int .i64 0, .int .i64 0, .int .i64 0, .int .i64 0, .int .i64 0] 30)
          obtain ⟨b9, hb9⟩ : ∃ b : Nat, b = wr.heap.size := ⟨_, rfl⟩
          have h9 : wr.heap.size ≤ b9 := by omega
          rw [← hb9] at F9
          refine hK.out _ _ KW (fun hHeld => ?_)
          clear hK K
          (refine wpAnyH_ready (rs := [16]) (by kernel_rfl) (by simp) ?_; refine AllReadyH.cons (o := _) rfl (fun K hK => ?_) AllReadyH.nil; (simp only [List.getElem_toArray, List.getElem_cons_zero, List.getElem_cons_succ, Region.wanted, if_true]))
          go_simp
          refine (l2Pour_any C p q _ HCR.out CV.out p6 q6 HNE.out HC.out).mono ?_
          rintro e wp3 ⟨rfl, bp2⟩
          rw [HRT.out, HMM.out]
          dsimp only
          (try simp only [List.getElem_toArray, List.getElem_cons_zero, List.getElem_cons_succ, Act.put, List.setIfInBounds_toArray, List.set_cons_zero, List.set_cons_succ])
          replace F9 := F9.below bp2
          replace KW := KW.call bp2
          refine hK.out _ _ KW (fun hHeld => ?_)
          clear hK K bp2
          (refine wpAnyH_take (i := 17) (v := ?_) rfl (by kernel_rfl) (by kernel_rfl) (by kernel_rfl) (fun _ _ _ h => h) (Or.inl ⟨by rfl, ?_⟩) hHeld ?_; rotate_left; (· (intro w' hSw; go_simp; try with_reducible rfl)); (try simp only [List.getElem_toArray, List.getElem_cons_zero, List.getElem_cons_succ, Act.put, List.setIfInBounds_toArray, List.set_cons_zero, List.set_cons_succ])); (refine wpAnyH_take (i := 18) (v := ?_) rfl (by kernel_rfl) (by kernel_rfl) (by kernel_rfl) (fun _ _ _ h => h) (Or.inl ⟨by rfl, ?_⟩) hHeld ?_; rotate_left; (· (intro w' hSw; go_simp; try with_reducible rfl)); (try simp only [List.getElem_toArray, List.getElem_cons_zero, List.getElem_cons_succ, Act.put, List.setIfInBounds_toArray, List.set_cons_zero, List.set_cons_succ])); (refine wpAnyH_take (i := 19) (v := ?_) rfl (by kernel_rfl) (by kernel_rfl) (by kernel_rfl) (fun _ _ _ h => h) (Or.inl ⟨by rfl, ?_⟩) hHeld ?_; rotate_left; (· (intro w' hSw; go_simp; try with_reducible rfl)); (try simp only [List.getElem_toArray, List.getElem_cons_zero, List.getElem_cons_succ, Act.put, List.setIfInBounds_toArray, List.set_cons_zero, List.set_cons_succ]))
          rw [← hb9]
          clear hb9
        all_goals
          (refine wpAnyH_ready (rs := [21]) (by kernel_rfl) (by simp) ?_; refine AllReadyH.cons (o := _) rfl (fun K hK => ?_) AllReadyH.nil; (simp only [List.getElem_toArray, List.getElem_cons_zero, List.getElem_cons_succ, Region.wanted, if_true]))
          refine wp_store_mid _ _ _ rfl _ _ (ints R).toArray rfl rfl (by simpa [l2] using F9.there) (by simpa [l2] using hi0) (all_oneCell_toArray (ints_one _)) ?_
          (try simp only [List.getElem_toArray, List.getElem_cons_zero, List.getElem_cons_succ, Act.put, List.setIfInBounds_toArray, List.set_cons_zero, List.set_cons_succ, List.toList_toArray])
          replace KW := KW.puts (b := b9) h9 0 (ints R)
          refine hK.out _ _ KW (fun hHeld => ?_)
          clear hK K
          (refine wpAnyH_take (i := 22) (v := ?_) rfl (by kernel_rfl) (by kernel_rfl) (by kernel_rfl) (fun _ _ _ h => h) (Or.inl ⟨by rfl, ?_⟩) hHeld ?_; rotate_left; (· (intro w' hSw; go_simp; try with_reducible rfl)); (try simp only [List.getElem_toArray, List.getElem_cons_zero, List.getElem_cons_succ, Act.put, List.setIfInBounds_toArray, List.set_cons_zero, List.set_cons_succ]))
          refine wpAnyH_done (by kernel_rfl) ?_ _
          clear hHeld
          generalize wp3.setCells b9 0 (ints R) = wp4 at *
          replace RY := RY.below KW
          replace GU := Lib.hid (GU.out.below KW)
          replace GR := Lib.hid (GR.out.below KW)
          replace GB := Lib.hid (GB.out.call KW)
          clear KW C0 C1 C24 gru F9
          go_wp2_with fail
          go_roundw
          case rel => exact ⟨k + 1, by omega, by go_num, by rw [EM.out], GU, RY, GR, GB⟩
          case measure => simp [intOf]; omega
      · obtain rfl : k = n := by omega
        have hnn : decide ((k : Int) < (k : Int)) = false := by simp
        go_wp2_with fail
        go_ret2
        exact ⟨by rw [E.out, OKH.out]; rfl, GB.out⟩
end Go.Proofs.Ytalngdccjoafhab.base
