/-
  Views on the model's side: hidden counts and valid views, walked.
-/
import Derived.Test.YtemiljokdedidaaStkW
import Derived.Deep.RegionHeld3
namespace Go.Proofs.Ytemiljokdedidaa.base
open Go.ChangeShapes Go.WideShapes Go.ChangeAt Go.RowKit
set_option linter.unusedVariables false
set_option linter.unusedSimpArgs false

theorem res_ta {P : Program} {fn : Func} {p q : Tmp} {T : TypeId} (h : fn.results = #[.tmp q, .cell p T]) (tmps : Array Value) (w : World) (b : Nat) (ns : List Int) (n : Nat) (d : TypeDesc) (v : Value)
    (hq : tmps.getD q undef = v) (hp : tmps.getD p undef = .pointer (some ⟨b, 0, none⟩)) (H : Has w b ns n) (hu : P.underlying T = some d) (hd : d.isRow = true) (hi : (P.info? T).map (·.size) = some n) :
    (results fn tmps).run P w = .ok (.tuple #[v, .agg (ints ns).toArray]) w := by
  have hp' : tmps[p]?.getD undef = .pointer (some ⟨b, 0, none⟩) := by simpa using hp
  have hq' : tmps[q]?.getD undef = v := by simpa using hq
  have hl := run_loadVar_mid (P := P) w b 0 T (ints ns) d H.holds.range hu hd (by rw [ints_len, H.len]; exact hi)
  simp [results, h, hp', hq', asAddr, hl]
theorem res_tat {P : Program} {fn : Func} {p q r : Tmp} {T : TypeId} (h : fn.results = #[.tmp q, .cell p T, .tmp r]) (tmps : Array Value) (w : World) (b : Nat) (ns : List Int) (n : Nat) (d : TypeDesc) (v u : Value)
    (hq : tmps.getD q undef = v) (hp : tmps.getD p undef = .pointer (some ⟨b, 0, none⟩)) (hr : tmps.getD r undef = u) (H : Has w b ns n) (hu : P.underlying T = some d) (hd : d.isRow = true) (hi : (P.info? T).map (·.size) = some n) :
    (results fn tmps).run P w = .ok (.tuple #[v, .agg (ints ns).toArray, u]) w := by
  have hp' : tmps[p]?.getD undef = .pointer (some ⟨b, 0, none⟩) := by simpa using hp
  have hq' : tmps[q]?.getD undef = v := by simpa using hq
  have hr' : tmps[r]?.getD undef = u := by simpa using hr
  have hl := run_loadVar_mid (P := P) w b 0 T (ints ns) d H.holds.range hu hd (by rw [ints_len, H.len]; exact hi)
  simp [results, h, hp', hq', hr', asAddr, hl]

/-- The numbers of a view are the machine's. -/
def Wf (vs : List Int) : Prop := ∀ n ∈ vs, (Lit.int .i64 n).wf = true
theorem wf_in {n : Int} (h : (Lit.int .i64 n).wf = true) : -9223372036854775808 ≤ n ∧ n ≤ 9223372036854775807 := by
  simp only [Lit.wf, IntKind.min, IntKind.max, IntKind.signed, IntKind.bits, Bool.and_eq_true, decide_eq_true_eq, if_true] at h
  omega
theorem Wf.get {vs : List Int} (h : Wf vs) (i : Nat) : -9223372036854775808 ≤ vs.getD i 0 ∧ vs.getD i 0 ≤ 9223372036854775807 := by
  rw [List.getD_eq_getElem?_getD]
  by_cases hi : i < vs.length
  · rw [List.getElem?_eq_getElem hi, Option.getD_some]
    exact wf_in (h _ (List.getElem_mem hi))
  · rw [List.getElem?_eq_none (by omega)]; simp
theorem Wf.cnt {vs : List Int} (h : Wf vs) (c : Nat) (hc : c < 6) : -9223372036854775808 ≤ vCnt vs c ∧ vCnt vs c ≤ 9223372036854775807 := by
  unfold vCnt; rw [prt_getD vs 2 c hc]; exact h.get _
theorem Wf.start {vs : List Int} (h : Wf vs) : wrL (hidUp vs 0) = prt vs 2 := wrL_id fun x hx => by
  exact wf_in (h x (List.mem_of_mem_drop (List.mem_of_mem_take hx)))
theorem hid_wrap {vs : List Int} (h : vs.length = 18) (ht : topV vs = true) (hw : Wf vs) (c : Nat) (hc : c < 6) :
    (0 ≤ (wrL (hid vs)).getD c 0 ∧ (wrL (hid vs)).getD c 0 ≤ 24 → (hid vs).getD c 0 = (wrL (hid vs)).getD c 0) ∧ (0 ≤ (hid vs).getD c 0 ∧ (hid vs).getD c 0 ≤ 24 → (wrL (hid vs)).getD c 0 = (hid vs).getD c 0) := by
  rw [wrL_getD, hid_get h ht c hc]
  have := hw.cnt c hc
  have := occT_in vs c 6
  simp only [IntKind.wrap_i64]
  omega

set_option maxHeartbeats 800000 in
set_option maxRecDepth 100000 in
theorem l7Hidden_any (vs : List Int) (w : World) (h : vs.length = 18) (ht : topV vs = true) (hw : Wf vs) :
    Calls Try.prog 52 #[row vs] w fun e w' => e = .returned (.tuple #[.int .i64 (belUp vs 6), .agg (ints (wrL (hid vs))).toArray]) ∧ Kept w w' := by
  have l2 := prt_len vs 2 h (by omega)
  have H := (Has.box w 36 h (by omega)).alloc (.cells #[.int .i64 0, .int .i64 0, .int .i64 0, .int .i64 0, .int .i64 0, .int .i64 0] 22)
  have Z := (Has.zero6 (w.alloc (.cells (ints vs).toArray 36)) 22).at (size1 _ _)
  have HB := Lib.hid (((kept_refl w).alloc (.cells (ints vs).toArray 36)).alloc (.cells #[.int .i64 0, .int .i64 0, .int .i64 0, .int .i64 0, .int .i64 0, .int .i64 0] 22))
  have hi6 : (Try.prog.info? 22).map (·.size) = some (ints (prt vs 2)).length := by rw [ints_len, l2]; kernel_rfl
  have li : (ints (prt vs 2)).length = 6 := by rw [ints_len]; exact l2
  have HT := Lib.hid (fun i hi => topV_at ht i hi)
  have HBE := Lib.hid (fun i hi => belUp_in ht i hi)
  have HL := Lib.hid (show ∀ i, (wrL (hidUp vs i)).length = 6 from fun i => by rw [wrL_len]; exact hidUp_len vs h i)
  have WS := Lib.hid hw.start
  rw [row_ints]
  clear ht hw
  go_enter Try.func52, Try.ntmps52
  go_wp2_with fail
  refine wp_region_held_drew (S := fun w' => Has w' w.heap.size vs 18 ∧ Has w' (w.heap.size + 1) z6 6 ∧ Kept w w') (by kernel_rfl) ?_ (fun hHeld => ?_)
  · exact ⟨H.drew, Z.drew, HB.out.drewN 1⟩
  have hs2 : (World.drew ((w.alloc (.cells (ints vs).toArray 36)).alloc (.cells #[.int .i64 0, .int .i64 0, .int .i64 0, .int .i64 0, .int .i64 0, .int .i64 0] 22))).heap.size = w.heap.size + 1 + 1 := by simp [World.drew]
  generalize World.drew _ = WD at *
  (refine wpAnyH_take (i := 0) (v := ?_) rfl (by kernel_rfl) (by kernel_rfl) (by kernel_rfl) (fun _ _ _ h => h) (Or.inl ⟨by rfl, ?_⟩) hHeld ?_; rotate_left; (· (intro w' hSw; go_simp; try with_reducible rfl)); (try simp only [List.getElem_toArray, List.getElem_cons_zero, List.getElem_cons_succ, Act.put, List.setIfInBounds_toArray, List.set_cons_zero, List.set_cons_succ]))
  (refine wpAnyH_take (i := 1) (v := _) rfl (by kernel_rfl) (by kernel_rfl) (by kernel_rfl) (fun _ _ _ h => h) (yieldsIf_load_mid (by rfl) 22 _ rfl _ _ rfl (ints (prt vs 2)) _ (fun w' hSw => hSw.1.holds.sub 12 6) Try.underlying22 rfl (hi6)) hHeld ?_; (try simp only [List.getElem_toArray, List.getElem_cons_zero, List.getElem_cons_succ, Act.put, List.setIfInBounds_toArray, List.set_cons_zero, List.set_cons_succ]))
  (refine wpAnyH_ready (rs := [2]) (by kernel_rfl) (by simp) ?_; refine AllReadyH.cons (o := _) rfl (fun K hK => ?_) AllReadyH.nil; (simp only [List.getElem_toArray, List.getElem_cons_zero, List.getElem_cons_succ, Region.wanted, if_true]))
  go_simp
  have ZZ := Has.zero6 WD 22
  refine hK.out _ _ ⟨hHeld.1.alloc _, hHeld.2.1.alloc _, hHeld.2.2.alloc _⟩ (fun hHeld => ?_)
  clear hK K
  generalize WD.alloc (.cells #[.int .i64 0, .int .i64 0, .int .i64 0, .int .i64 0, .int .i64 0, .int .i64 0] 22) = WZ at *
  generalize WD.heap.size = bz at *
  subst hs2
  (refine wpAnyH_take (i := 3) (v := ?_) rfl (by kernel_rfl) (by kernel_rfl) (by kernel_rfl) (fun _ _ _ h => h) (Or.inl ⟨by rfl, ?_⟩) hHeld ?_; rotate_left; (· (intro w' hSw; go_simp; try with_reducible rfl)); (try simp only [List.getElem_toArray, List.getElem_cons_zero, List.getElem_cons_succ, Act.put, List.setIfInBounds_toArray, List.set_cons_zero, List.set_cons_succ]))
  (refine wpAnyH_ready (rs := [4]) (by kernel_rfl) (by simp) ?_; refine AllReadyH.cons (o := _) rfl (fun K hK => ?_) AllReadyH.nil; (simp only [List.getElem_toArray, List.getElem_cons_zero, List.getElem_cons_succ, Region.wanted, if_true]); refine wp_store_mid _ _ _ rfl _ _ (ints (prt vs 2)).toArray rfl rfl (by simpa [li] using ZZ.there) (by simpa [li] using hi6) (all_oneCell_toArray (ints_one _)) ?_; (try simp only [List.getElem_toArray, List.getElem_cons_zero, List.getElem_cons_succ, Act.put, List.setIfInBounds_toArray, List.set_cons_zero, List.set_cons_succ, List.toList_toArray]); refine hK.out _ _ (⟨hHeld.1.putOther _ _ (by omega), hHeld.2.1.putOther _ _ (by omega), hHeld.2.2.puts (by omega) _ _⟩) (fun hHeld => ?_); clear hK K)
  refine wpAnyH_done (by kernel_rfl) ?_ _
  have ZY := (ZZ.putAll (prt vs 2) l2).asV WS.out.symm
  have HH := hHeld.1
  have HZ := hHeld.2.1
  have HB := Lib.hid hHeld.2.2
  clear hHeld ZZ hi6 li H Z
  generalize WZ.setCells (w.heap.size + 1 + 1) 0 (ints (prt vs 2)) = W at *
  go_wp2_with fail
  go_loopg [4, 6] 6 (fun gk m i wr => ∃ k : Nat, gk = 6 - k ∧ k ≤ 6 ∧ i = .int .i64 k ∧ m = .int .i64 (belUp vs k) ∧ Has wr w.heap.size vs 18 ∧ Has wr (w.heap.size + 1) z6 6 ∧ Has wr (w.heap.size + 1 + 1) (wrL (hidUp vs k)) 6 ∧ Hid (Kept w wr))
  case atStart => exact ⟨0, rfl, by omega, rfl, rfl, HH, HZ, ZY, HB⟩
  case round =>
    obtain ⟨k, rfl, hk, rfl, rfl, GH, GZ, GY, GB⟩ := hrel
    by_cases hlt : k < 6
    · have hki : (k : Int) < 6 := by omega
      have tk := HT.out k hlt
      have bk := HBE.out k (by omega)
      have c1 := GH.vCell 1 k (by omega) hlt
      have c0 := GH.vCell 0 k (by omega) hlt
      have e1 : (prt vs 1).getD k 0 = vMany vs k := rfl
      have e0 : (prt vs 0).getD k 0 = vTop vs k := rfl
      rw [e1] at c1
      rw [e0] at c0
      simp only [Nat.zero_mul, Nat.one_mul, Nat.zero_add] at c0 c1
      have E : Hid (hidUp vs (k + 1) = lessAt (hidUp vs k) (vTop vs k)) := Lib.hid rfl
      have EB : Hid (belUp vs (k + 1) = belUp vs k + (if vMany vs k = 0 then 0 else vMany vs k - 1)) := Lib.hid rfl
      have y0 := bk.1
      have y1 : belUp vs k ≤ 18 := by omega
      clear e0 e1 bk
      generalize belUp vs k = y at *
      generalize vMany vs k = m at *
      generalize vTop vs k = t at *
      by_cases h0 : m = 0
      · subst h0
        obtain rfl : t = 0 := by omega
        have E2 := Lib.hid (show hidUp vs (k + 1) = hidUp vs k by rw [E.out, show lessAt (hidUp vs k) 0 = hidUp vs k by unfold lessAt; rw [if_pos rfl]])
        have EB2 := Lib.hid (show belUp vs (k + 1) = y by rw [EB.out]; simp)
        clear E EB tk
        go_wp2_with fail
        go_roundg (6 - (k + 1))
        case rel => exact ⟨k + 1, rfl, by omega, by go_num, by rw [EB2.out], GH, GZ, by rw [E2.out]; exact GY, GB⟩
        case measure => omega
      · obtain ⟨c, rfl, hc6, hc1⟩ : ∃ c : Nat, t = (c : Int) ∧ c < 6 ∧ c ≠ 0 := ⟨t.toNat, by omega, by omega, by omega⟩
        have m1 : 1 ≤ m := by omega
        have m4 : m ≤ 4 := by omega
        have mp : decide (0 < m) = true := by simp; omega
        have E2 := Lib.hid (show hidUp vs (k + 1) = (hidUp vs k).set c ((hidUp vs k).getD c 0 - 1) by rw [E.out]; unfold lessAt; rw [if_neg (by omega), Int.toNat_natCast])
        have EB2 := Lib.hid (show belUp vs (k + 1) = y + m - 1 by rw [EB.out, if_neg h0]; omega)
        have d0 := GY.cell c hc6
        have f0 := GY.free c hc6
        have hci : (c : Int) < 6 := by omega
        obtain ⟨z, hz⟩ : ∃ z, IntKind.i64.wrap ((wrL (hidUp vs k)).getD c 0 - 1) = z := ⟨_, rfl⟩
        have K1 := (GY.set c z hc6).asV (show (wrL (hidUp vs k)).set c z = wrL (hidUp vs (k + 1)) by rw [E2.out, ← hz, wrL_less])
        have K2 := GH.setOther (b' := w.heap.size + 1 + 1) c (.int .i64 z) (by omega)
        have K3 := GZ.setOther (b' := w.heap.size + 1 + 1) c (.int .i64 z) (by omega)
        have K4 := Lib.hid (GB.out.set (b := w.heap.size + 1 + 1) (by omega) c (.int .i64 z))
        have K1 := Lib.hid K1
        have K2 := Lib.hid K2
        have K3 := Lib.hid K3
        clear E EB tk h0 GH GZ GY GB E2
        generalize (wrL (hidUp vs k)).getD c 0 = x at *
        go_wp2_with fail
        go_roundg (6 - (k + 1))
        case rel => exact ⟨k + 1, rfl, by omega, by go_num, by rw [EB2.out], K2.out, K3.out, K1.out, K4⟩
        case measure => omega
    · obtain rfl : k = 6 := by omega
      have hl := HL.out 6
      have li : (ints (wrL (hidUp vs 6))).length = 6 := by rw [ints_len]; exact hl
      have hi6 : (Try.prog.info? 22).map (·.size) = some (ints (wrL (hidUp vs 6))).length := by rw [li]; kernel_rfl
      go_wp2_with fail
      refine wp_region_held_drew (S := fun w' => Has w' (w.heap.size + 1 + 1) (wrL (hidUp vs 6)) 6) (by kernel_rfl) GY.drew (fun hHeld => ?_)
      have S0 := GZ.drew
      have SB := GB.out.drewN 1
      change Kept w (World.drew wr) at SB
      generalize World.drew wr = WD at *
      have S1 := S0.putAll _ hl
      have S2 := SB.puts (b := w.heap.size + 1) (by omega) 0 (ints (wrL (hidUp vs 6)))
      (refine wpAnyH_take (i := 0) (v := ?_) rfl (by kernel_rfl) (by kernel_rfl) (by kernel_rfl) (fun _ _ _ h => h) (Or.inl ⟨by rfl, ?_⟩) hHeld ?_; rotate_left; (· (intro w' hSw; go_simp; try with_reducible rfl)); (try simp only [List.getElem_toArray, List.getElem_cons_zero, List.getElem_cons_succ, Act.put, List.setIfInBounds_toArray, List.set_cons_zero, List.set_cons_succ])); (refine wpAnyH_take (i := 2) (v := ?_) rfl (by kernel_rfl) (by kernel_rfl) (by kernel_rfl) (fun _ _ _ h => h) (Or.inl ⟨by rfl, ?_⟩) hHeld ?_; rotate_left; (· (intro w' hSw; go_simp; try with_reducible rfl)); (try simp only [List.getElem_toArray, List.getElem_cons_zero, List.getElem_cons_succ, Act.put, List.setIfInBounds_toArray, List.set_cons_zero, List.set_cons_succ]))
      (refine wpAnyH_take (i := 1) (v := _) rfl (by kernel_rfl) (by kernel_rfl) (by kernel_rfl) (fun _ _ _ h => h) (yieldsIf_load_mid (by rfl) 22 _ rfl _ _ rfl (ints (wrL (hidUp vs 6))) _ (fun w' hSw => hSw.holds.range) Try.underlying22 rfl (hi6)) hHeld ?_; (try simp only [List.getElem_toArray, List.getElem_cons_zero, List.getElem_cons_succ, Act.put, List.setIfInBounds_toArray, List.set_cons_zero, List.set_cons_succ]))
      (refine wpAnyH_ready (rs := [3]) (by kernel_rfl) (by simp) ?_; refine AllReadyH.cons (o := _) rfl (fun K hK => ?_) AllReadyH.nil; (simp only [List.getElem_toArray, List.getElem_cons_zero, List.getElem_cons_succ, Region.wanted, if_true]); refine wp_store_mid _ _ _ rfl _ _ (ints (wrL (hidUp vs 6))).toArray rfl rfl (by simpa [li] using S0.there) (by simpa [li] using hi6) (all_oneCell_toArray (ints_one _)) ?_; (try simp only [List.getElem_toArray, List.getElem_cons_zero, List.getElem_cons_succ, Act.put, List.setIfInBounds_toArray, List.set_cons_zero, List.set_cons_succ, List.toList_toArray]); refine hK.out _ _ (hHeld.putOther _ _ (by omega)) (fun hHeld => ?_); clear hK K)
      refine wpAnyH_done (by kernel_rfl) ?_ _
      clear hHeld S0 SB GH GZ GY GB hi6 li
      go_wp2_with fail
      exact bodyPost_ret (res_ta rfl _ _ (w.heap.size + 1) (wrL (hidUp vs 6)) 6 _ (.int .i64 (belUp vs 6)) rfl rfl S1 Try.underlying22 rfl (by kernel_rfl)) rfl ⟨rfl, S2⟩
end Go.Proofs.Ytemiljokdedidaa.base
