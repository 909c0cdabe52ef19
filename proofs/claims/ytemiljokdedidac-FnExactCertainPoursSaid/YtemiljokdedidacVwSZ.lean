/-
  Views on the model's side: hidden counts and valid views, walked.
-/
/-
  Valid views, hidden counts and the number of candidates, on the model's side, walked.
-/
import Derived.Test.YtemiljokdedidacFracWZ
import Derived.Deep.RegionHeld3

section
namespace Go.Proofs.Ytemiljokdedidac.base
open Go.ChangeShapes Go.WideShapes Go.ChangeAt Go.RowKit
set_option linter.unusedVariables false
set_option linter.unusedSimpArgs false

theorem res_ta {P : Program} {fn : Func} {p q : Tmp} {T : TypeId} (h : fn.results = #[.tmp q, .cell p T]) (tmps : Array Value) (w : World) (b : Nat) (ns : List Int) (n : Nat) (d : TypeDesc) (v : Value)
    (hq : tmps.getD q undef = v) (hp : tmps.getD p undef = .pointer (some ⟨b, 0, none⟩)) (H : Has w b ns n) (hu : P.underlying T = some d) (hd : d.isRow = true) (hi : (P.info? T).map (·.size) = some n) :
    (results fn tmps).run P w = .ok (.tuple #[v, .agg (ints ns).toArray]) w := by
  have hp' : tmps[p]?.getD undef = .pointer (some ⟨b, 0, none⟩) := by simpa using hp
  have hq' : tmps[q]?.getD undef = v := by simpa using hq
  have hl := run_loadVar_mid (P := P) w b 0 T (ints ns) d H.holds.range hu hd (by rw [ints_len, H.len]; exact hi)
  simp [results, h, hp', hq', asAddr, hl]
theorem res_tat {P : Program} {fn : Func} {p q r : Tmp} {T : TypeId} (h : fn.results = #[.tmp q, .cell p T, .tmp r]) (tmps : Array Value) (w : World) (b : Nat) (ns : List Int) (n : Nat) (d : TypeDesc) (v u : Value)
    (hq : tmps.getD q undef = v) (hp : tmps.getD p undef = .pointer (some ⟨b, 0, none⟩)) (hr : tmps.getD r undef = u) (H : Has w b ns n) (hu : P.underlying T = some d) (hd : d.isRow = true) (hi : (P.info? T).map (·.size) = some n) :
    (results fn tmps).run P w = .ok (.tuple #[v, .agg (ints ns).toArray, u]) w := by
  have hp' : tmps[p]?.getD undef = .pointer (some ⟨b, 0, none⟩) := by simpa using hp
  have hq' : tmps[q]?.getD undef = v := by simpa using hq
  have hr' : tmps[r]?.getD undef = u := by simpa using hr
  have hl := run_loadVar_mid (P := P) w b 0 T (ints ns) d H.holds.range hu hd (by rw [ints_len, H.len]; exact hi)
  simp [results, h, hp', hq', hr', asAddr, hl]

/-- The numbers of a view are the machine's. -/
def Wf (vs : List Int) : Prop := ∀ n ∈ vs, (Lit.int .i64 n).wf = true
theorem wf_in {n : Int} (h : (Lit.int .i64 n).wf = true) : -9223372036854775808 ≤ n ∧ n ≤ 9223372036854775807 := by
  simp only [Lit.wf, IntKind.min, IntKind.max, IntKind.signed, IntKind.bits, Bool.and_eq_true, decide_eq_true_eq, if_true] at h
  omega
theorem Wf.get {vs : List Int} (h : Wf vs) (i : Nat) : -9223372036854775808 ≤ vs.getD i 0 ∧ vs.getD i 0 ≤ 9223372036854775807 := by
  rw [List.getD_eq_getElem?_getD]
  by_cases hi : i < vs.length
  · rw [List.getElem?_eq_getElem hi, Option.getD_some]
    exact wf_in (h _ (List.getElem_mem hi))
  · rw [List.getElem?_eq_none (by omega)]; simp
theorem Wf.cnt {vs : List Int} (h : Wf vs) (c : Nat) (hc : c < 6) : -9223372036854775808 ≤ vCnt vs c ∧ vCnt vs c ≤ 9223372036854775807 := by
  unfold vCnt; rw [prt_getD vs 2 c hc]; exact h.get _
theorem Wf.start {vs : List Int} (h : Wf vs) : wrL (hidUp vs 0) = prt vs 2 := wrL_id fun x hx => by
  exact wf_in (h x (List.mem_of_mem_drop (List.mem_of_mem_take hx)))
theorem hid_wrap {vs : List Int} (h : vs.length = 18) (ht : topV vs = true) (hw : Wf vs) (c : Nat) (hc : c < 6) :
    (0 ≤ (wrL (hid vs)).getD c 0 ∧ (wrL (hid vs)).getD c 0 ≤ 24 → (hid vs).getD c 0 = (wrL (hid vs)).getD c 0) ∧ (0 ≤ (hid vs).getD c 0 ∧ (hid vs).getD c 0 ≤ 24 → (wrL (hid vs)).getD c 0 = (hid vs).getD c 0) := by
  rw [wrL_getD, hid_get h ht c hc]
  have := hw.cnt c hc
  have := occT_in vs c 6
  simp only [IntKind.wrap_i64]
  omega

set_option maxHeartbeats 800000 in
set_option maxRecDepth 100000 in
theorem l7Hidden_any (vs : List Int) (w : World) (h : vs.length = 18) (ht : topV vs = true) (hw : Wf vs) :
    Calls Try.prog 43 #[row vs] w fun e w' => e = .returned (.tuple #[.int .i64 (belUp vs 6), .agg (ints (wrL (hid vs))).toArray]) ∧ Kept w w' := by
  have l2 := prt_len vs 2 h (by omega)
  have H := (Has.box w 28 h (by omega)).alloc (.cells #[.int .i64 0, .int .i64 0, .int .i64 0, .int .i64 0, .int .i64 0, .int .i64 0] 22)
  have Z := (Has.zero6 (w.alloc (.cells (ints vs).toArray 28)) 22).at (size1 _ _)
  have HB := Lib.hid (((kept_refl w).alloc (.cells (ints vs).toArray 28)).alloc (.cells #[.int .i64 0, .int .i64 0, .int .i64 0, .int .i64 0, .int .i64 0, .int .i64 0] 22))
  have hi6 : (Try.prog.info? 22).map (·.size) = some (ints (prt vs 2)).length := by rw [ints_len, l2]; kernel_rfl
  have li : (ints (prt vs 2)).length = 6 := by rw [ints_len]; exact l2
  have HT := Lib.hid (fun i hi => topV_at ht i hi)
  have HBE := Lib.hid (fun i hi => belUp_in ht i hi)
  have HL := Lib.hid (show ∀ i, (wrL (hidUp vs i)).length = 6 from fun i => by rw [wrL_len]; exact hidUp_len vs h i)
  have WS := Lib.hid hw.start
  rw [row_ints]
  clear ht hw
  go_enter Try.func43, Try.ntmps43
  go_wp2_with fail
  refine wp_region_held_drew (S := fun w' => Has w' w.heap.size vs 18 ∧ Has w' (w.heap.size + 1) z6 6 ∧ Kept w w') (by kernel_rfl) ?_ (fun hHeld => ?_)
  · exact ⟨H.drew, Z.drew, HB.out.drewN 1⟩
  have hs2 : (World.drew ((w.alloc (.cells (ints vs).toArray 28)).alloc (.cells #[.int .i64 0, .int .i64 0, .int .i64 0, .int .i64 0, .int .i64 0, .int .i64 0] 22))).heap.size = w.heap.size + 1 + 1 := by simp [World.drew]
  generalize World.drew _ = WD at *
  (refine wpAnyH_take (i := 0) (v := ?_) rfl (by kernel_rfl) (by kernel_rfl) (by kernel_rfl) (fun _ _ _ h => h) (Or.inl ⟨by rfl, ?_⟩) hHeld ?_; rotate_left; (· (intro w' hSw; go_simp; try with_reducible rfl)); (try simp only [List.getElem_toArray, List.getElem_cons_zero, List.getElem_cons_succ, Act.put, List.setIfInBounds_toArray, List.set_cons_zero, List.set_cons_succ]))
  (refine wpAnyH_take (i := 1) (v := _) rfl (by kernel_rfl) (by kernel_rfl) (by kernel_rfl) (fun _ _ _ h => h) (yieldsIf_load_mid (by rfl) 22 _ rfl _ _ rfl (ints (prt vs 2)) _ (fun w' hSw => hSw.1.holds.sub 12 6) Try.underlying22 rfl (hi6)) hHeld ?_; (try simp only [List.getElem_toArray, List.getElem_cons_zero, List.getElem_cons_succ, Act.put, List.setIfInBounds_toArray, List.set_cons_zero, List.set_cons_succ]))
  (refine wpAnyH_ready (rs := [2]) (by kernel_rfl) (by simp) ?_; refine AllReadyH.cons (o := _) rfl (fun K hK => ?_) AllReadyH.nil; (simp only [List.getElem_toArray, List.getElem_cons_zero, List.getElem_cons_succ, Region.wanted, if_true]))
  go_simp
  have ZZ := Has.zero6 WD 22
  refine hK.out _ _ ⟨hHeld.1.alloc _, hHeld.2.1.alloc _, hHeld.2.2.alloc _⟩ (fun hHeld => ?_)
  clear hK K
  generalize WD.alloc (.cells #[.int .i64 0, .int .i64 0, .int .i64 0, .int .i64 0, .int .i64 0, .int .i64 0] 22) = WZ at *
  generalize WD.heap.size = bz at *
  subst hs2
  (refine wpAnyH_take (i := 3) (v := ?_) rfl (by kernel_rfl) (by kernel_rfl) (by kernel_rfl) (fun _ _ _ h => h) (Or.inl ⟨by rfl, ?_⟩) hHeld ?_; rotate_left; (· (intro w' hSw; go_simp; try with_reducible rfl)); (try simp only [List.getElem_toArray, List.getElem_cons_zero, List.getElem_cons_succ, Act.put, List.setIfInBounds_toArray, List.set_cons_zero, List.set_cons_succ]))
  (refine wpAnyH_ready (rs := [4]) (by kernel_rfl) (by simp) ?_; refine AllReadyH.cons (o := _) rfl (fun K hK => ?_) AllReadyH.nil; (simp only [List.getElem_toArray, List.getElem_cons_zero, List.getElem_cons_succ, Region.wanted, if_true]); refine wp_store_mid _ _ _ rfl _ _ (ints (prt vs 2)).toArray rfl rfl (by simpa [li] using ZZ.there) (by simpa [li] using hi6) (all_oneCell_toArray (ints_one _)) ?_; (try simp only [List.getElem_toArray, List.getElem_cons_zero, List.getElem_cons_succ, Act.put, List.setIfInBounds_toArray, List.set_cons_zero, List.set_cons_succ, List.toList_toArray]); refine hK.out _ _ (⟨hHeld.1.putOther _ _ (by omega), hHeld.2.1.putOther _ _ (by omega), hHeld.2.2.puts (by omega) _ _⟩) (fun hHeld => ?_); clear hK K)
  refine wpAnyH_done (by kernel_rfl) ?_ _
  have ZY := (ZZ.putAll (prt vs 2) l2).asV WS.out.symm
  have HH := hHeld.1
  have HZ := hHeld.2.1
  have HB := Lib.hid hHeld.2.2
  clear hHeld ZZ hi6 li H Z
  generalize WZ.setCells (w.heap.size + 1 + 1) 0 (ints (prt vs 2)) = W at *
  go_wp2_with fail
  go_loopg [4, 6] 6 (fun gk m i wr => ∃ k : Nat, gk = 6 - k ∧ k ≤ 6 ∧ i = .int .i64 k ∧ m = .int .i64 (belUp vs k) ∧ Has wr w.heap.size vs 18 ∧ Has wr (w.heap.size + 1) z6 6 ∧ Has wr (w.heap.size + 1 + 1) (wrL (hidUp vs k)) 6 ∧ Hid (Kept w wr))
  case atStart => exact ⟨0, rfl, by omega, rfl, rfl, HH, HZ, ZY, HB⟩
  case round =>
    obtain ⟨k, rfl, hk, rfl, rfl, GH, GZ, GY, GB⟩ := hrel
    by_cases hlt : k < 6
    · have hki : (k : Int) < 6 := by omega
      have tk := HT.out k hlt
      have bk := HBE.out k (by omega)
      have c1 := GH.vCell 1 k (by omega) hlt
      have c0 := GH.vCell 0 k (by omega) hlt
      have e1 : (prt vs 1).getD k 0 = vMany vs k := rfl
      have e0 : (prt vs 0).getD k 0 = vTop vs k := rfl
      rw [e1] at c1
      rw [e0] at c0
      simp only [Nat.zero_mul, Nat.one_mul, Nat.zero_add] at c0 c1
      have E : Hid (hidUp vs (k + 1) = lessAt (hidUp vs k) (vTop vs k)) := Lib.hid rfl
      have EB : Hid (belUp vs (k + 1) = belUp vs k + (if vMany vs k = 0 then 0 else vMany vs k - 1)) := Lib.hid rfl
      have y0 := bk.1
      have y1 : belUp vs k ≤ 18 := by omega
      clear e0 e1 bk
      generalize belUp vs k = y at *
      generalize vMany vs k = m at *
      generalize vTop vs k = t at *
      by_cases h0 : m = 0
      · subst h0
        obtain rfl : t = 0 := by omega
        have E2 := Lib.hid (show hidUp vs (k + 1) = hidUp vs k by rw [E.out, show lessAt (hidUp vs k) 0 = hidUp vs k by unfold lessAt; rw [if_pos rfl]])
        have EB2 := Lib.hid (show belUp vs (k + 1) = y by rw [EB.out]; simp)
        clear E EB tk
        go_wp2_with fail
        go_roundg (6 - (k + 1))
        case rel => exact ⟨k + 1, rfl, by omega, by go_num, by rw [EB2.out], GH, GZ, by rw [E2.out]; exact GY, GB⟩
        case measure => omega
      · obtain ⟨c, rfl, hc6, hc1⟩ : ∃ c : Nat, t = (c : Int) ∧ c < 6 ∧ c ≠ 0 := ⟨t.toNat, by omega, by omega, by omega⟩
        have m1 : 1 ≤ m := by omega
        have m4 : m ≤ 4 := by omega
        have mp : decide (0 < m) = true := by simp; omega
        have E2 := Lib.hid (show hidUp vs (k + 1) = (hidUp vs k).set c ((hidUp vs k).getD c 0 - 1) by rw [E.out]; unfold lessAt; rw [if_neg (by omega), Int.toNat_natCast])
        have EB2 := Lib.hid (show belUp vs (k + 1) = y + m - 1 by rw [EB.out, if_neg h0]; omega)
        have d0 := GY.cell c hc6
        have f0 := GY.free c hc6
        have hci : (c : Int) < 6 := by omega
        obtain ⟨z, hz⟩ : ∃ z, IntKind.i64.wrap ((wrL (hidUp vs k)).getD c 0 - 1) = z := ⟨_, rfl⟩
        have K1 := (GY.set c z hc6).asV (show (wrL (hidUp vs k)).set c z = wrL (hidUp vs (k + 1)) by rw [E2.out, ← hz, wrL_less])
        have K2 := GH.setOther (b' := w.heap.size + 1 + 1) c (.int .i64 z) (by omega)
        have K3 := GZ.setOther (b' := w.heap.size + 1 + 1) c (.int .i64 z) (by omega)
        have K4 := Lib.hid (GB.out.set (b := w.heap.size + 1 + 1) (by omega) c (.int .i64 z))
        have K1 := Lib.hid K1
        have K2 := Lib.hid K2
        have K3 := Lib.hid K3
        clear E EB tk h0 GH GZ GY GB E2
        generalize (wrL (hidUp vs k)).getD c 0 = x at *
        go_wp2_with fail
        go_roundg (6 - (k + 1))
        case rel => exact ⟨k + 1, rfl, by omega, by go_num, by rw [EB2.out], K2.out, K3.out, K1.out, K4⟩
        case measure => omega
    · obtain rfl : k = 6 := by omega
      have hl := HL.out 6
      have li : (ints (wrL (hidUp vs 6))).length = 6 := by rw [ints_len]; exact hl
      have hi6 : (Try.prog.info? 22).map (·.size) = some (ints (wrL (hidUp vs 6))).length := by rw [li]; kernel_rfl
      go_wp2_with fail
      refine wp_region_held_drew (S := fun w' => Has w' (w.heap.size + 1 + 1) (wrL (hidUp vs 6)) 6) (by kernel_rfl) GY.drew (fun hHeld => ?_)
      have S0 := GZ.drew
      have SB := GB.out.drewN 1
      change Kept w (World.drew wr) at SB
      generalize World.drew wr = WD at *
      have S1 := S0.putAll _ hl
      have S2 := SB.puts (b := w.heap.size + 1) (by omega) 0 (ints (wrL (hidUp vs 6)))
      (refine wpAnyH_take (i := 0) (v := ?_) rfl (by kernel_rfl) (by kernel_rfl) (by kernel_rfl) (fun _ _ _ h => h) (Or.inl ⟨by rfl, ?_⟩) hHeld ?_; rotate_left; (· (intro w' hSw; go_simp; try with_reducible rfl)); (try simp only [List.getElem_toArray, List.getElem_cons_zero, List.getElem_cons_succ, Act.put, List.setIfInBounds_toArray, List.set_cons_zero, List.set_cons_succ])); (refine wpAnyH_take (i := 2) (v := ?_) rfl (by kernel_rfl) (by kernel_rfl) (by kernel_rfl) (fun _ _ _ h => h) (Or.inl ⟨by rfl, ?_⟩) hHeld ?_; rotate_left; (· (intro w' hSw; go_simp; try with_reducible rfl)); (try simp only [List.getElem_toArray, List.getElem_cons_zero, List.getElem_cons_succ, Act.put, List.setIfInBounds_toArray, List.set_cons_zero, List.set_cons_succ]))
      (refine wpAnyH_take (i := 1) (v := _) rfl (by kernel_rfl) (by kernel_rfl) (by kernel_rfl) (fun _ _ _ h => h) (yieldsIf_load_mid (by rfl) 22 _ rfl _ _ rfl (ints (wrL (hidUp vs 6))) _ (fun w' hSw => hSw.holds.range) Try.underlying22 rfl (hi6)) hHeld ?_; (try simp only [List.getElem_toArray, List.getElem_cons_zero, List.getElem_cons_succ, Act.put, List.setIfInBounds_toArray, List.set_cons_zero, List.set_cons_succ]))
      (refine wpAnyH_ready (rs := [3]) (by kernel_rfl) (by simp) ?_; refine AllReadyH.cons (o := _) rfl (fun K hK => ?_) AllReadyH.nil; (simp only [List.getElem_toArray, List.getElem_cons_zero, List.getElem_cons_succ, Region.wanted, if_true]); refine wp_store_mid _ _ _ rfl _ _ (ints (wrL (hidUp vs 6))).toArray rfl rfl (by simpa [li] using S0.there) (by simpa [li] using hi6) (all_oneCell_toArray (ints_one _)) ?_; (try simp only [List.getElem_toArray, List.getElem_cons_zero, List.getElem_cons_succ, Act.put, List.setIfInBounds_toArray, List.set_cons_zero, List.set_cons_succ, List.toList_toArray]); refine hK.out _ _ (hHeld.putOther _ _ (by omega)) (fun hHeld => ?_); clear hK K)
      refine wpAnyH_done (by kernel_rfl) ?_ _
      clear hHeld S0 SB GH GZ GY GB hi6 li
      go_wp2_with fail
      exact bodyPost_ret (res_ta rfl _ _ (w.heap.size + 1) (wrL (hidUp vs 6)) 6 _ (.int .i64 (belUp vs 6)) rfl rfl S1 Try.underlying22 rfl (by kernel_rfl)) rfl ⟨rfl, S2⟩
end Go.Proofs.Ytemiljokdedidac.base
end

section
namespace Go.Proofs.Ytemiljokdedidac.base
open Go.ChangeShapes Go.WideShapes Go.ChangeAt Go.RowKit
set_option linter.unusedVariables false
set_option linter.unusedSimpArgs false

set_option maxHeartbeats 400000 in
theorem l7Ways_core (s : List Int) (w : World) (h6 : s.length = 6) (hn : ∀ j, j < 6 → 0 ≤ s.getD j 0) (h0 : s.getD 0 0 = 0) (hs : StepOk s) (hp : plUp s 6 ≤ 24) :
    Calls Try.prog 45 #[row s] w fun e w' => e = .returned (.int .i64 (ordA s : Nat)) ∧ Kept w w' := by
  have H := Has.box w 22 h6 (by omega)
  have HB := Lib.hid ((kept_refl w).alloc (.cells (ints s).toArray 22))
  have HL := Lib.hid h6
  have HP := Lib.hid hp
  have HN := Lib.hid hn
  have HS := Lib.hid hs
  have M1 := Lib.hid (show mulUp s 1 = 1 by simp only [mulUp, plUp, h0, zero_bin])
  have P1 := Lib.hid (show plUp s 1 = 0 by simp only [plUp, h0]; rfl)
  have EO := Lib.hid (ordA_of hn)
  rw [row_ints]
  clear h6 hp hn h0 hs
  go_enter Try.func45, Try.ntmps45
  go_wp2_with fail
  generalize w.alloc (.cells (ints s).toArray 22) = W at *
  go_loopg [3, 4, 5] 5 (fun gk m n i wr => ∃ c : Nat, gk = 6 - c ∧ 1 ≤ c ∧ c ≤ 6 ∧ i = .int .i64 c ∧ m = .int .i64 (mulUp s c : Nat) ∧ n = .int .i64 (plUp s c : Nat) ∧ W = wr)
  case atStart => exact ⟨1, rfl, by omega, by omega, rfl, by rw [M1.out]; rfl, by rw [P1.out]; rfl, rfl⟩
  case round =>
    obtain ⟨c, rfl, hc1, hc, rfl, rfl, rfl, rfl⟩ := hrel
    by_cases hlt : c < 6
    · have hci : (c : Int) ≤ 5 := by omega
      obtain ⟨k, hk⟩ : ∃ k : Nat, s.getD c 0 = (k : Int) := ⟨(s.getD c 0).toNat, by have := HN.out c hlt; omega⟩
      have ST := Lib.hid (fun q hq => HS.out c k q hlt hk hq)
      have E0 := Lib.hid (show mulUp s c * bin (plUp s c) 0 = mulUp s c by rw [bin_zero, Nat.mul_one])
      have E1 := Lib.hid (show mulUp s (c + 1) = mulUp s c * bin (plUp s c) k by rw [mulUp, hk, Int.toNat_natCast])
      have E2 := Lib.hid (show plUp s (c + 1) = plUp s c + k by rw [plUp, hk, Int.toNat_natCast])
      have g0 := H.cell c hlt
      rw [hk] at g0
      clear hk
      have hci6 : (c : Int) < 6 := by omega
      have ks : k ≤ 24 := by
        have h1 := E2.out
        have h2 := plUp_le s (show c + 1 ≤ 6 by omega)
        have h3 := HP.out
        omega
      go_wp2_with fail
      go_loopg [3, 4, 6] k (fun gk m n i wr => ∃ q : Nat, gk = k - q ∧ q ≤ k ∧ i = .int .i64 ((q : Int) + 1) ∧ m = .int .i64 (mulUp s c * bin (plUp s c) q : Nat) ∧ n = .int .i64 (plUp s c + q : Nat) ∧ W = wr)
      case atStart => exact ⟨0, rfl, by omega, rfl, by rw [E0.out], rfl, rfl⟩
      case round =>
        obtain ⟨q, rfl, hq, rfl, rfl, rfl, rfl⟩ := hrel
        by_cases hqk : q < k
        · have hqi : decide ((q : Int) + 1 ≤ (k : Int)) = true := decide_eq_true (by omega)
          obtain ⟨X, Z, Y, pl, e1, e2, e3, hpl, w1, w2, w3⟩ := ST.out q hqk
          rw [← e1, ← e3]
          have E4 := Lib.hid e2
          have E5 := Lib.hid e3
          have qk : q < 1000 := by omega
          clear e1 e2 e3
          have q1 : ((q : Int) + 1 == 0) = false := by simp; omega
          have HQ := Lib.hid (show q + 1 ≤ k from hqk)
          go_wp2_with fail
          go_roundg (k - (q + 1))
          case rel => exact ⟨q + 1, rfl, HQ.out, by go_num, by rw [← E4.out], by rw [E5.out]; go_num, rfl⟩
          case measure => omega
        · obtain rfl : q = k := by omega
          have hqi : decide ((q : Int) + 1 ≤ (q : Int)) = false := decide_eq_false (by omega)
          rw [← E1.out, ← E2.out]
          go_wp2_with fail
          go_roundg (6 - (c + 1))
          case rel => exact ⟨c + 1, rfl, by omega, by omega, by go_num, rfl, rfl, rfl⟩
          case measure => omega
    · obtain rfl : c = 6 := by omega
      go_wp2_with fail
      go_ret
      exact ⟨by rw [EO.out]; rfl, HB.out⟩

theorem l7Ways_any (s : List Int) (w : World) (h6 : s.length = 6) (hn : ∀ j, j < 6 → 0 ≤ s.getD j 0) (h0 : s.getD 0 0 = 0) (hp : plUp s 6 ≤ 18) :
    Calls Try.prog 45 #[row s] w fun e w' => e = .returned (.int .i64 (ordA s : Nat)) ∧ Kept w w' :=
  l7Ways_core s w h6 hn h0 (step18 s h6 hp) (by omega)

set_option maxHeartbeats 800000 in
set_option maxRecDepth 100000 in
theorem l7Good_any (vs : List Int) (w : World) (h : vs.length = 18) (hw : Wf vs) :
    Calls Try.prog 30 #[row vs] w fun e w' => e = .returned (.bool (vV vs)) ∧ Kept w w' := by
  have H := Has.box w 28 h (by omega)
  have HB := Lib.hid ((kept_refl w).alloc (.cells (ints vs).toArray 28))
  have HWF := Lib.hid hw
  rw [row_ints]
  go_enter Try.func30, Try.ntmps30
  go_wp2_with fail
  generalize w.alloc (.cells (ints vs).toArray 28) = W at *
  go_loopg [3] 6 (fun gk i wr => ∃ k : Nat, gk = 6 - k ∧ k ≤ 6 ∧ i = .int .i64 k ∧ Hid (∀ j, j < k → okTop vs j = true) ∧ Has wr w.heap.size vs 18 ∧ Hid (Kept w wr))
  case atStart => exact ⟨0, rfl, by omega, rfl, Lib.hid (fun j hj => by omega), H, HB⟩
  case round =>
    obtain ⟨k, rfl, hk, rfl, OK, GH, GB⟩ := hrel
    by_cases hlt : k < 6
    · have hki : (k : Int) < 6 := by omega
      have c1 := GH.vCell 1 k (by omega) hlt
      have c0 := GH.vCell 0 k (by omega) hlt
      have e1 : (prt vs 1).getD k 0 = vMany vs k := rfl
      have e0 : (prt vs 0).getD k 0 = vTop vs k := rfl
      rw [e1] at c1
      rw [e0] at c0
      simp only [Nat.zero_mul, Nat.one_mul, Nat.zero_add] at c0 c1
      have EO : Hid (okTop vs k = decide ((1 ≤ vMany vs k ∧ vMany vs k ≤ 4 ∧ 1 ≤ vTop vs k ∧ vTop vs k ≤ 5) ∨ (vMany vs k = 0 ∧ vTop vs k = 0))) := Lib.hid rfl
      have YES := Lib.hid (show okTop vs k = true → ∀ j, j < k + 1 → okTop vs j = true from fun hy j hj => by
        by_cases e : j = k
        · subst e; exact hy
        · exact OK.out j (by omega))
      have NO := Lib.hid (show okTop vs k = false → vV vs = false from fun hn => vV_tops (topV_not k hlt hn))
      clear e1 e0 OK
      generalize vMany vs k = m at *
      generalize vTop vs k = t at *
      have HI1 := Lib.hid (fun W => (l1In_any m 0 4 W).mono fun _ _ h => And.intro h.1 h.2.symm)
      have HI2 := Lib.hid (fun W => (l1In_any t 0 5 W).mono fun _ _ h => And.intro h.1 h.2.symm)
      by_cases hm : 0 ≤ m ∧ m ≤ 4
      · rw [decide_eq_true hm] at HI1
        by_cases ht : 0 ≤ t ∧ t ≤ 5
        · rw [decide_eq_true ht] at HI2
          obtain ⟨b1, hb1⟩ : ∃ b1, (m == 0) = b1 := ⟨_, rfl⟩
          obtain ⟨b2, hb2⟩ : ∃ b2, (t == 0) = b2 := ⟨_, rfl⟩
          by_cases hb : b1 = b2
          · have Y := Lib.hid (YES.out (by
              rw [EO.out]
              refine decide_eq_true ?_
              rw [← hb1, ← hb2] at hb
              by_cases e : m = 0
              · subst e; simp at hb; right; exact ⟨rfl, by omega⟩
              · left
                have : ¬ t = 0 := by
                  intro e2; subst e2; simp at hb; exact e hb
                omega))
            subst hb
            clear YES NO EO hm ht
            go_wp2_with fail
            go_quiet (first | (go_at_call 59; with_reducible exact Calls.quiet_of_same (HI1.out _)) | (go_at_call 59; with_reducible exact Calls.quiet_of_same (HI2.out _)))
            have GH2 := GH.drewN nq
            have GB2 := Lib.hid (GB.out.drewN nq)
            clear hb1 hb2
            go_wp2_with fail
            go_roundg (6 - (k + 1))
            case rel => exact ⟨k + 1, rfl, by omega, by go_num, Y, GH2, GB2⟩
            case measure => omega
          · have N := Lib.hid (NO.out (by
              rw [EO.out]
              refine decide_eq_false ?_
              intro hor
              apply hb
              rw [← hb1, ← hb2]
              rcases hor with h1 | h1
              · have e1 : (m == 0) = false := by simp; omega
                have e2 : (t == 0) = false := by simp; omega
                rw [e1, e2]
              · rw [h1.1, h1.2]))
            clear YES NO EO hm ht
            go_wp2_with fail
            have hb4 : b2 = !b1 := by cases b1 <;> cases b2 <;> simp at hb ⊢
            subst hb4
            clear hb
            cases b1
            all_goals
              simp only [Bool.not_false, Bool.not_true] at hb2
              go_quiet (first | (go_at_call 59; with_reducible exact Calls.quiet_of_same (HI1.out _)) | (go_at_call 59; with_reducible exact Calls.quiet_of_same (HI2.out _)))
              have GB2 := Lib.hid (GB.out.drewN nq)
              clear hb1 hb2
              go_wp2_with fail
              go_ret
              exact ⟨by rw [N.out]; rfl, GB2.out⟩
        · rw [decide_eq_false ht] at HI2
          have N := Lib.hid (NO.out (by rw [EO.out]; exact decide_eq_false (by rintro (h | h) <;> omega)))
          clear YES NO EO hm ht
          go_wp2_with fail
          go_quiet (first | (go_at_call 59; with_reducible exact Calls.quiet_of_same (HI1.out _)) | (go_at_call 59; with_reducible exact Calls.quiet_of_same (HI2.out _)))
          have GB2 := Lib.hid (GB.out.drewN nq)
          go_wp2_with fail
          go_ret
          exact ⟨by rw [N.out]; rfl, GB2.out⟩
      · rw [decide_eq_false hm] at HI1
        have N := Lib.hid (NO.out (by rw [EO.out]; exact decide_eq_false (by rintro (h | h) <;> omega)))
        clear YES NO EO hm
        go_wp2_with fail
        go_quiet (first | (go_at_call 59; with_reducible exact Calls.quiet_of_same (HI1.out _)) | (go_at_call 59; with_reducible exact Calls.quiet_of_same (HI2.out _)))
        have GB2 := Lib.hid (GB.out.drewN nq)
        go_wp2_with fail
        go_ret
        exact ⟨by rw [N.out]; rfl, GB2.out⟩
    · obtain rfl : k = 6 := by omega
      have ht := topV_of OK.out
      have HL := Lib.hid (show (wrL (hid vs)).length = 6 by rw [wrL_len]; exact hid_len h)
      have HX := Lib.hid (fun c hc => hid_wrap h ht HWF.out c hc)
      have HT := Lib.hid ht
      have H18 := Lib.hid h
      go_wp2_with (refine load_has rfl 28 _ rfl _ rfl ?_ 18 ?_ _ Try.underlying28 rfl ?_ ?_; rotate_left; (· (repeat (first | (with_reducible assumption) | ((with_reducible refine Has.box _ _ ?_ ?_) <;> (first | assumption | decide)) | (with_reducible refine Has.alloc ?_ _) | ((with_reducible refine Has.putOther ?_ _ _ ?_); rotate_left; omega; skip) | ((with_reducible refine Has.below ?_ ?_); rotate_left; assumption)))); (· kernel_rfl))
      refine (l7Hidden_any vs _ h ht HWF.out).mono ?_
      rintro e w1 ⟨rfl, b1⟩
      have hl := HL.out
      have GY := Has.box w1 22 hl (by omega)
      have GH1 := (GH.below b1).alloc (.cells (ints (wrL (hid vs))).toArray 22)
      have GB1 := Lib.hid ((GB.out.call b1).alloc (.cells (ints (wrL (hid vs))).toArray 22))
      clear GH GB H HB b1 ht OK
      go_wp2_with (refine store_new rfl 22 _ _ rfl _ _ _ rfl _ rfl _ rfl rfl ?_ ?_ ?_; (· (first | assumption | rfl)); (· kernel_rfl))
      generalize w1.alloc (.cells (ints (wrL (hid vs))).toArray 22) = W1 at *
      generalize w1.heap.size = b1 at *
      go_loopg [6, 7] 5 (fun gk m i wr => ∃ c : Nat, gk = 6 - c ∧ 1 ≤ c ∧ c ≤ 6 ∧ i = .int .i64 c ∧ m = .int .i64 (sumUp (hid vs) c - (hid vs).getD 0 0) ∧ Hid (∀ j, 1 ≤ j → j < c → 0 ≤ (hid vs).getD j 0 ∧ (hid vs).getD j 0 ≤ 24) ∧ Hid (0 ≤ sumUp (hid vs) c - (hid vs).getD 0 0 ∧ sumUp (hid vs) c - (hid vs).getD 0 0 ≤ 24 * (c : Int)) ∧ W1 = wr)
      case atStart => exact ⟨1, rfl, by omega, by omega, rfl, by simp [sumUp], Lib.hid (fun j h1 h2 => by omega), Lib.hid (by simp [sumUp]), rfl⟩
      case round =>
        obtain ⟨c, rfl, hc1, hc, rfl, rfl, HN, HS, rfl⟩ := hrel
        by_cases hct : c < 6
        · have hci : (c : Int) ≤ 5 := by omega
          have hci6 : (c : Int) < 6 := by omega
          have d0 := GY.cell c hct
          have xw := HX.out c hct
          have E : Hid (sumUp (hid vs) (c + 1) = sumUp (hid vs) c + (hid vs).getD c 0) := Lib.hid rfl
          have HS1 := HS.out
          generalize hx : (wrL (hid vs)).getD c 0 = x at *
          have HI := Lib.hid (fun W => (l1In_any x 0 24 W))
          have hxx := Lib.hid hx
          clear hx
          by_cases hin : 0 ≤ x ∧ x ≤ 24
          · have e := xw.1 hin
            have N := Lib.hid (show ∀ j, 1 ≤ j → j < c + 1 → 0 ≤ (hid vs).getD j 0 ∧ (hid vs).getD j 0 ≤ 24 from fun j h1 h2 => by
              by_cases e2 : j = c
              · subst e2; rw [e]; exact hin
              · exact HN.out j h1 (by omega))
            have S := Lib.hid (show 0 ≤ sumUp (hid vs) (c + 1) - (hid vs).getD 0 0 ∧ sumUp (hid vs) (c + 1) - (hid vs).getD 0 0 ≤ 24 * ((c + 1 : Nat) : Int) by rw [E.out, e]; omega)
            have E2 := Lib.hid (show sumUp (hid vs) (c + 1) - (hid vs).getD 0 0 = sumUp (hid vs) c - (hid vs).getD 0 0 + x by rw [E.out, e]; omega)
            have x0 := hin.1
            have x1 := hin.2
            have s0 := HS1.1
            have s1 : sumUp (hid vs) c - (hid vs).getD 0 0 ≤ 200 := by omega
            clear xw e E HS HN HS1
            generalize sumUp (hid vs) c - (hid vs).getD 0 0 = y at *
            go_wp2_with fail
            refine (HI.out _).mono ?_
            rintro e w' ⟨rfl, rfl⟩
            rw [decide_eq_true hin]
            clear hin
            go_wp2_with fail
            go_roundg (6 - (c + 1))
            case rel => exact ⟨c + 1, rfl, by omega, by omega, by go_num, by rw [E2.out], N, S, rfl⟩
            case measure => omega
          · have N := Lib.hid (show vV vs = false by
              by_cases h1 : (hid vs).getD c 0 < 0
              · exact vV_debt c hct h1
              · by_cases h2 : 24 < (hid vs).getD c 0
                · exact vV_many H18.out c hct h2
                · have := xw.2 (by omega)
                  omega)
            clear xw E HS HN HS1
            generalize sumUp (hid vs) c - (hid vs).getD 0 0 = y at *
            go_wp2_with fail
            refine (HI.out _).mono ?_
            rintro e w' ⟨rfl, rfl⟩
            rw [decide_eq_false hin]
            clear hin
            go_wp2_with fail
            go_ret
            exact ⟨by rw [N.out]; rfl, GB1.out⟩
        · obtain rfl : c = 6 := by omega
          have EV := Lib.hid (vV_spec H18.out HT.out (fun c h1 h2 => (HN.out c h2 h1).1))
          have c2 := GH1.vCell 2 0 (by omega) (by omega)
          have em : (prt vs 2).getD 0 0 = vCnt vs 0 := rfl
          rw [em] at c2
          simp only [Nat.reduceMul, Nat.add_zero] at c2
          clear em HS
          generalize sumUp (hid vs) 6 - (hid vs).getD 0 0 = y at *
          generalize vCnt vs 0 = z at *
          generalize belUp vs 6 = u at *
          by_cases hz : z = 0
          · subst hz
            by_cases hy : y = u
            · subst hy
              go_wp2_with fail
              go_ret
              exact ⟨by rw [EV.out]; simp, GB1.out⟩
            · have y0 : (y == u) = false := by simpa using hy
              have N := Lib.hid (decide_eq_false hy)
              clear hy
              go_wp2_with fail
              go_ret
              exact ⟨by rw [EV.out, N.out]; rfl, GB1.out⟩
          · have z0 : (z == 0) = false := by simpa using hz
            have N := Lib.hid (decide_eq_false hz)
            clear hz
            go_wp2_with fail
            go_ret
            exact ⟨by rw [EV.out, N.out]; rfl, GB1.out⟩

end Go.Proofs.Ytemiljokdedidac.base
end
