/-
  Views on the model's side: hidden counts and valid views, walked.
-/
/-
  Valid views, hidden counts and the number of candidates, on the model's side, walked.
-/
/-
  Views on the program's side: tops, counts and hidden counts, walked.
-/
/-
  Valid views, hidden counts and the number of candidates, on the program's side, walked.
-/
/-
  Hidden counts and the number of candidates, on the model's side, walked.
-/
import Derived.Test.YtcedpjjfcfeokabStkW
import Derived.Deep.RegionHeld3

section
namespace Go.Proofs.Ytcedpjjfcfeokab.base
open Go.ChangeShapes Go.WideShapes Go.ChangeAt Go.RowKit
set_option linter.unusedVariables false
set_option linter.unusedSimpArgs false

theorem res_ta {P : Program} {fn : Func} {p q : Tmp} {T : TypeId} (h : fn.results = #[.tmp q, .cell p T]) (tmps : Array Value) (w : World) (b : Nat) (ns : List Int) (n : Nat) (d : TypeDesc) (v : Value)
    (hq : tmps.getD q undef = v) (hp : tmps.getD p undef = .pointer (some ⟨b, 0, none⟩)) (H : Has w b ns n) (hu : P.underlying T = some d) (hd : d.isRow = true) (hi : (P.info? T).map (·.size) = some n) :
    (results fn tmps).run P w = .ok (.tuple #[v, .agg (ints ns).toArray]) w := by
  have hp' : tmps[p]?.getD undef = .pointer (some ⟨b, 0, none⟩) := by simpa using hp
  have hq' : tmps[q]?.getD undef = v := by simpa using hq
  have hl := run_loadVar_mid (P := P) w b 0 T (ints ns) d H.holds.range hu hd (by rw [ints_len, H.len]; exact hi)
  simp [results, h, hp', hq', asAddr, hl]
theorem res_tat {P : Program} {fn : Func} {p q r : Tmp} {T : TypeId} (h : fn.results = #[.tmp q, .cell p T, .tmp r]) (tmps : Array Value) (w : World) (b : Nat) (ns : List Int) (n : Nat) (d : TypeDesc) (v u : Value)
    (hq : tmps.getD q undef = v) (hp : tmps.getD p undef = .pointer (some ⟨b, 0, none⟩)) (hr : tmps.getD r undef = u) (H : Has w b ns n) (hu : P.underlying T = some d) (hd : d.isRow = true) (hi : (P.info? T).map (·.size) = some n) :
    (results fn tmps).run P w = .ok (.tuple #[v, .agg (ints ns).toArray, u]) w := by
  have hp' : tmps[p]?.getD undef = .pointer (some ⟨b, 0, none⟩) := by simpa using hp
  have hq' : tmps[q]?.getD undef = v := by simpa using hq
  have hr' : tmps[r]?.getD undef = u := by simpa using hr
  have hl := run_loadVar_mid (P := P) w b 0 T (ints ns) d H.holds.range hu hd (by rw [ints_len, H.len]; exact hi)
  simp [results, h, hp', hq', hr', asAddr, hl]

/-- The numbers of a view are the machine's. -/
def Wf (vs : List Int) : Prop := ∀ n ∈ vs, (Lit.int .i64 n).wf = true
theorem wf_in {n : Int} (h : (Lit.int .i64 n).wf = true) : -9223372036854775808 ≤ n ∧ n ≤ 9223372036854775807 := by
  simp only [Lit.wf, IntKind.min, IntKind.max, IntKind.signed, IntKind.bits, Bool.and_eq_true, decide_eq_true_eq, if_true] at h
  omega
theorem Wf.get {vs : List Int} (h : Wf vs) (i : Nat) : -9223372036854775808 ≤ vs.getD i 0 ∧ vs.getD i 0 ≤ 9223372036854775807 := by
  rw [List.getD_eq_getElem?_getD]
  by_cases hi : i < vs.length
  · rw [List.getElem?_eq_getElem hi, Option.getD_some]
    exact wf_in (h _ (List.getElem_mem hi))
  · rw [List.getElem?_eq_none (by omega)]; simp
theorem Wf.cnt {vs : List Int} (h : Wf vs) (c : Nat) (hc : c < 6) : -9223372036854775808 ≤ vCnt vs c ∧ vCnt vs c ≤ 9223372036854775807 := by
  unfold vCnt; rw [prt_getD vs 2 c hc]; exact h.get _
theorem Wf.start {vs : List Int} (h : Wf vs) : wrL (hidUp vs 0) = prt vs 2 := wrL_id fun x hx => by
  exact wf_in (h x (List.mem_of_mem_drop (List.mem_of_mem_take hx)))
theorem hid_wrap {vs : List Int} (h : vs.length = 18) (ht : topV vs = true) (hw : Wf vs) (c : Nat) (hc : c < 6) :
    (0 ≤ (wrL (hid vs)).getD c 0 ∧ (wrL (hid vs)).getD c 0 ≤ 24 → (hid vs).getD c 0 = (wrL (hid vs)).getD c 0) ∧ (0 ≤ (hid vs).getD c 0 ∧ (hid vs).getD c 0 ≤ 24 → (wrL (hid vs)).getD c 0 = (hid vs).getD c 0) := by
  rw [wrL_getD, hid_get h ht c hc]
  have := hw.cnt c hc
  have := occT_in vs c 6
  simp only [IntKind.wrap_i64]
  omega

set_option maxHeartbeats 800000 in
set_option maxRecDepth 100000 in
theorem l7Hidden_any (vs : List Int) (w : World) (h : vs.length = 18) (ht : topV vs = true) (hw : Wf vs) :
    Calls Try.prog 66 #[row vs] w fun e w' => e = .returned (.tuple #[.int .i64 (belUp vs 6), .agg (ints (wrL (hid vs))).toArray]) ∧ Kept w w' := by
  have l2 := prt_len vs 2 h (by omega)
  have H := (Has.box w 44 h (by omega)).alloc (.cells #[.int .i64 0, .int .i64 0, .int .i64 0, .int .i64 0, .int .i64 0, .int .i64 0] 26)
  have Z := (Has.zero6 (w.alloc (.cells (ints vs).toArray 44)) 26).at (size1 _ _)
  have HB := Lib.hid (((kept_refl w).alloc (.cells (ints vs).toArray 44)).alloc (.cells #[.int .i64 0, .int .i64 0, .int .i64 0, .int .i64 0, .int .i64 0, .int .i64 0] 26))
  have hi6 : (Try.prog.info? 26).map (·.size) = some (ints (prt vs 2)).length := by rw [ints_len, l2]; kernel_rfl
  have li : (ints (prt vs 2)).length = 6 := by rw [ints_len]; exact l2
  have HT := Lib.hid (fun i hi => topV_at ht i hi)
  have HBE := Lib.hid (fun i hi => belUp_in ht i hi)
  have HL := Lib.hid (show ∀ i, (wrL (hidUp vs i)).length = 6 from fun i => by rw [wrL_len]; exact hidUp_len vs h i)
  have WS := Lib.hid hw.start
  rw [row_ints]
  clear ht hw
  go_enter Try.func66, Try.ntmps66
  go_wp2_with fail
  refine wp_region_held_drew (S := fun w' => Has w' w.heap.size vs 18 ∧ Has w' (w.heap.size + 1) z6 6 ∧ Kept w w') (by kernel_rfl) ?_ (fun hHeld => ?_)
  · exact ⟨H.drew, Z.drew, HB.out.drewN 1⟩
  have hs2 : (World.drew ((w.alloc (.cells (ints vs).toArray 44)).alloc (.cells #[.int .i64 0, .int .i64 0, .int .i64 0, .int .i64 0, .int .i64 0, .int .i64 0] 26))).heap.size = w.heap.size + 1 + 1 := by simp [World.drew]
  generalize World.drew _ = WD at *
  (refine wpAnyH_take (i := 0) (v := ?_) rfl (by kernel_rfl) (by kernel_rfl) (by kernel_rfl) (fun _ _ _ h => h) (Or.inl ⟨by rfl, ?_⟩) hHeld ?_; rotate_left; (· (intro w' hSw; go_simp; try with_reducible rfl)); (try simp only [List.getElem_toArray, List.getElem_cons_zero, List.getElem_cons_succ, Act.put, List.setIfInBounds_toArray, List.set_cons_zero, List.set_cons_succ]))
  (refine wpAnyH_take (i := 1) (v := _) rfl (by kernel_rfl) (by kernel_rfl) (by kernel_rfl) (fun _ _ _ h => h) (yieldsIf_load_mid (by rfl) 26 _ rfl _ _ rfl (ints (prt vs 2)) _ (fun w' hSw => hSw.1.holds.sub 12 6) Try.underlying26 rfl (hi6)) hHeld ?_; (try simp only [List.getElem_toArray, List.getElem_cons_zero, List.getElem_cons_succ, Act.put, List.setIfInBounds_toArray, List.set_cons_zero, List.set_cons_succ]))
  (refine wpAnyH_ready (rs := [2]) (by kernel_rfl) (by simp) ?_; refine AllReadyH.cons (o := _) rfl (fun K hK => ?_) AllReadyH.nil; (simp only [List.getElem_toArray, List.getElem_cons_zero, List.getElem_cons_succ, Region.wanted, if_true]))
  go_simp
  have ZZ := Has.zero6 WD 26
  refine hK.out _ _ ⟨hHeld.1.alloc _, hHeld.2.1.alloc _, hHeld.2.2.alloc _⟩ (fun hHeld => ?_)
  clear hK K
  generalize WD.alloc (.cells #[.int .i64 0, .int .i64 0, .int .i64 0, .int .i64 0, .int .i64 0, .int .i64 0] 26) = WZ at *
  generalize WD.heap.size = bz at *
  subst hs2
  (refine wpAnyH_take (i := 3) (v := ?_) rfl (by kernel_rfl) (by kernel_rfl) (by kernel_rfl) (fun _ _ _ h => h) (Or.inl ⟨by rfl, ?_⟩) hHeld ?_; rotate_left; (· (intro w' hSw; go_simp; try with_reducible rfl)); (try simp only [List.getElem_toArray, List.getElem_cons_zero, List.getElem_cons_succ, Act.put, List.setIfInBounds_toArray, List.set_cons_zero, List.set_cons_succ]))
  (refine wpAnyH_ready (rs := [4]) (by kernel_rfl) (by simp) ?_; refine AllReadyH.cons (o := _) rfl (fun K hK => ?_) AllReadyH.nil; (simp only [List.getElem_toArray, List.getElem_cons_zero, List.getElem_cons_succ, Region.wanted, if_true]); refine wp_store_mid _ _ _ rfl _ _ (ints (prt vs 2)).toArray rfl rfl (by simpa [li] using ZZ.there) (by simpa [li] using hi6) (all_oneCell_toArray (ints_one _)) ?_; (try simp only [List.getElem_toArray, List.getElem_cons_zero, List.getElem_cons_succ, Act.put, List.setIfInBounds_toArray, List.set_cons_zero, List.set_cons_succ, List.toList_toArray]); refine hK.out _ _ (⟨hHeld.1.putOther _ _ (by omega), hHeld.2.1.putOther _ _ (by omega), hHeld.2.2.puts (by omega) _ _⟩) (fun hHeld => ?_); clear hK K)
  refine wpAnyH_done (by kernel_rfl) ?_ _
  have ZY := (ZZ.putAll (prt vs 2) l2).asV WS.out.symm
  have HH := hHeld.1
  have HZ := hHeld.2.1
  have HB := Lib.hid hHeld.2.2
  clear hHeld ZZ hi6 li H Z
  generalize WZ.setCells (w.heap.size + 1 + 1) 0 (ints (prt vs 2)) = W at *
  go_wp2_with fail
  go_loopg [4, 6] 6 (fun gk m i wr => ∃ k : Nat, gk = 6 - k ∧ k ≤ 6 ∧ i = .int .i64 k ∧ m = .int .i64 (belUp vs k) ∧ Has wr w.heap.size vs 18 ∧ Has wr (w.heap.size + 1) z6 6 ∧ Has wr (w.heap.size + 1 + 1) (wrL (hidUp vs k)) 6 ∧ Hid (Kept w wr))
  case atStart => exact ⟨0, rfl, by omega, rfl, rfl, HH, HZ, ZY, HB⟩
  case round =>
    obtain ⟨k, rfl, hk, rfl, rfl, GH, GZ, GY, GB⟩ := hrel
    by_cases hlt : k < 6
    · have hki : (k : Int) < 6 := by omega
      have tk := HT.out k hlt
      have bk := HBE.out k (by omega)
      have c1 := GH.vCell 1 k (by omega) hlt
      have c0 := GH.vCell 0 k (by omega) hlt
      have e1 : (prt vs 1).getD k 0 = vMany vs k := rfl
      have e0 : (prt vs 0).getD k 0 = vTop vs k := rfl
      rw [e1] at c1
      rw [e0] at c0
      simp only [Nat.zero_mul, Nat.one_mul, Nat.zero_add] at c0 c1
      have E : Hid (hidUp vs (k + 1) = lessAt (hidUp vs k) (vTop vs k)) := Lib.hid rfl
      have EB : Hid (belUp vs (k + 1) = belUp vs k + (if vMany vs k = 0 then 0 else vMany vs k - 1)) := Lib.hid rfl
      have y0 := bk.1
      have y1 : belUp vs k ≤ 18 := by omega
      clear e0 e1 bk
      generalize belUp vs k = y at *
      generalize vMany vs k = m at *
      generalize vTop vs k = t at *
      by_cases h0 : m = 0
      · subst h0
        obtain rfl : t = 0 := by omega
        have E2 := Lib.hid (show hidUp vs (k + 1) = hidUp vs k by rw [E.out, show lessAt (hidUp vs k) 0 = hidUp vs k by unfold lessAt; rw [if_pos rfl]])
        have EB2 := Lib.hid (show belUp vs (k + 1) = y by rw [EB.out]; simp)
        clear E EB tk
        go_wp2_with fail
        go_roundg (6 - (k + 1))
        case rel => exact ⟨k + 1, rfl, by omega, by go_num, by rw [EB2.out], GH, GZ, by rw [E2.out]; exact GY, GB⟩
        case measure => omega
      · obtain ⟨c, rfl, hc6, hc1⟩ : ∃ c : Nat, t = (c : Int) ∧ c < 6 ∧ c ≠ 0 := ⟨t.toNat, by omega, by omega, by omega⟩
        have m1 : 1 ≤ m := by omega
        have m4 : m ≤ 4 := by omega
        have mp : decide (0 < m) = true := by simp; omega
        have E2 := Lib.hid (show hidUp vs (k + 1) = (hidUp vs k).set c ((hidUp vs k).getD c 0 - 1) by rw [E.out]; unfold lessAt; rw [if_neg (by omega), Int.toNat_natCast])
        have EB2 := Lib.hid (show belUp vs (k + 1) = y + m - 1 by rw [EB.out, if_neg h0]; omega)
        have d0 := GY.cell c hc6
        have f0 := GY.free c hc6
        have hci : (c : Int) < 6 := by omega
        obtain ⟨z, hz⟩ : ∃ z, IntKind.i64.wrap ((wrL (hidUp vs k)).getD c 0 - 1) = z := ⟨_, rfl⟩
        have K1 := (GY.set c z hc6).asV (show (wrL (hidUp vs k)).set c z = wrL (hidUp vs (k + 1)) by rw [E2.out, ← hz, wrL_less])
        have K2 := GH.setOther (b' := w.heap.size + 1 + 1) c (.int .i64 z) (by omega)
        have K3 := GZ.setOther (b' := w.heap.size + 1 + 1) c (.int .i64 z) (by omega)
        have K4 := Lib.hid (GB.out.set (b := w.heap.size + 1 + 1) (by omega) c (.int .i64 z))
        have K1 := Lib.hid K1
        have K2 := Lib.hid K2
        have K3 := Lib.hid K3
        clear E EB tk h0 GH GZ GY GB E2
        generalize (wrL (hidUp vs k)).getD c 0 = x at *
        go_wp2_with fail
        go_roundg (6 - (k + 1))
        case rel => exact ⟨k + 1, rfl, by omega, by go_num, by rw [EB2.out], K2.out, K3.out, K1.out, K4⟩
        case measure => omega
    · obtain rfl : k = 6 := by omega
      have hl := HL.out 6
      have li : (ints (wrL (hidUp vs 6))).length = 6 := by rw [ints_len]; exact hl
      have hi6 : (Try.prog.info? 26).map (·.size) = some (ints (wrL (hidUp vs 6))).length := by rw [li]; kernel_rfl
      go_wp2_with fail
      refine wp_region_held_drew (S := fun w' => Has w' (w.heap.size + 1 + 1) (wrL (hidUp vs 6)) 6) (by kernel_rfl) GY.drew (fun hHeld => ?_)
      have S0 := GZ.drew
      have SB := GB.out.drewN 1
      change Kept w (World.drew wr) at SB
      generalize World.drew wr = WD at *
      have S1 := S0.putAll _ hl
      have S2 := SB.puts (b := w.heap.size + 1) (by omega) 0 (ints (wrL (hidUp vs 6)))
      (refine wpAnyH_take (i := 0) (v := ?_) rfl (by kernel_rfl) (by kernel_rfl) (by kernel_rfl) (fun _ _ _ h => h) (Or.inl ⟨by rfl, ?_⟩) hHeld ?_; rotate_left; (· (intro w' hSw; go_simp; try with_reducible rfl)); (try simp only [List.getElem_toArray, List.getElem_cons_zero, List.getElem_cons_succ, Act.put, List.setIfInBounds_toArray, List.set_cons_zero, List.set_cons_succ])); (refine wpAnyH_take (i := 2) (v := ?_) rfl (by kernel_rfl) (by kernel_rfl) (by kernel_rfl) (fun _ _ _ h => h) (Or.inl ⟨by rfl, ?_⟩) hHeld ?_; rotate_left; (· (intro w' hSw; go_simp; try with_reducible rfl)); (try simp only [List.getElem_toArray, List.getElem_cons_zero, List.getElem_cons_succ, Act.put, List.setIfInBounds_toArray, List.set_cons_zero, List.set_cons_succ]))
      (refine wpAnyH_take (i := 1) (v := _) rfl (by kernel_rfl) (by kernel_rfl) (by kernel_rfl) (fun _ _ _ h => h) (yieldsIf_load_mid (by rfl) 26 _ rfl _ _ rfl (ints (wrL (hidUp vs 6))) _ (fun w' hSw => hSw.holds.range) Try.underlying26 rfl (hi6)) hHeld ?_; (try simp only [List.getElem_toArray, List.getElem_cons_zero, List.getElem_cons_succ, Act.put, List.setIfInBounds_toArray, List.set_cons_zero, List.set_cons_succ]))
      (refine wpAnyH_ready (rs := [3]) (by kernel_rfl) (by simp) ?_; refine AllReadyH.cons (o := _) rfl (fun K hK => ?_) AllReadyH.nil; (simp only [List.getElem_toArray, List.getElem_cons_zero, List.getElem_cons_succ, Region.wanted, if_true]); refine wp_store_mid _ _ _ rfl _ _ (ints (wrL (hidUp vs 6))).toArray rfl rfl (by simpa [li] using S0.there) (by simpa [li] using hi6) (all_oneCell_toArray (ints_one _)) ?_; (try simp only [List.getElem_toArray, List.getElem_cons_zero, List.getElem_cons_succ, Act.put, List.setIfInBounds_toArray, List.set_cons_zero, List.set_cons_succ, List.toList_toArray]); refine hK.out _ _ (hHeld.putOther _ _ (by omega)) (fun hHeld => ?_); clear hK K)
      refine wpAnyH_done (by kernel_rfl) ?_ _
      clear hHeld S0 SB GH GZ GY GB hi6 li
      go_wp2_with fail
      exact bodyPost_ret (res_ta rfl _ _ (w.heap.size + 1) (wrL (hidUp vs 6)) 6 _ (.int .i64 (belUp vs 6)) rfl rfl S1 Try.underlying26 rfl (by kernel_rfl)) rfl ⟨rfl, S2⟩
end Go.Proofs.Ytcedpjjfcfeokab.base
end

section
namespace Go.Proofs.Ytcedpjjfcfeokab.base
open Go.ChangeShapes Go.WideShapes Go.ChangeAt Go.RowKit
set_option linter.unusedVariables false
set_option linter.unusedSimpArgs false

set_option maxHeartbeats 800000 in
set_option maxRecDepth 100000 in
theorem l7Good_any (vs : List Int) (w : World) (h : vs.length = 18) (hw : Wf vs) :
    Calls Try.prog 42 #[row vs] w fun e w' => e = .returned (.bool (vV vs)) ∧ Kept w w' := by
  have H := Has.box w 44 h (by omega)
  have HB := Lib.hid ((kept_refl w).alloc (.cells (ints vs).toArray 44))
  have HWF := Lib.hid hw
  rw [row_ints]
  go_enter Try.func42, Try.ntmps42
  go_wp2_with fail
  generalize w.alloc (.cells (ints vs).toArray 44) = W at *
  go_loopg [3] 6 (fun gk i wr => ∃ k : Nat, gk = 6 - k ∧ k ≤ 6 ∧ i = .int .i64 k ∧ Hid (∀ j, j < k → okTop vs j = true) ∧ Has wr w.heap.size vs 18 ∧ Hid (Kept w wr))
  case atStart => exact ⟨0, rfl, by omega, rfl, Lib.hid (fun j hj => by omega), H, HB⟩
  case round =>
    obtain ⟨k, rfl, hk, rfl, OK, GH, GB⟩ := hrel
    by_cases hlt : k < 6
    · have hki : (k : Int) < 6 := by omega
      have c1 := GH.vCell 1 k (by omega) hlt
      have c0 := GH.vCell 0 k (by omega) hlt
      have e1 : (prt vs 1).getD k 0 = vMany vs k := rfl
      have e0 : (prt vs 0).getD k 0 = vTop vs k := rfl
      rw [e1] at c1
      rw [e0] at c0
      simp only [Nat.zero_mul, Nat.one_mul, Nat.zero_add] at c0 c1
      have EO : Hid (okTop vs k = decide ((1 ≤ vMany vs k ∧ vMany vs k ≤ 4 ∧ 1 ≤ vTop vs k ∧ vTop vs k ≤ 5) ∨ (vMany vs k = 0 ∧ vTop vs k = 0))) := Lib.hid rfl
      have YES := Lib.hid (show okTop vs k = true → ∀ j, j < k + 1 → okTop vs j = true from fun hy j hj => by
        by_cases e : j = k
        · subst e; exact hy
        · exact OK.out j (by omega))
      have NO := Lib.hid (show okTop vs k = false → vV vs = false from fun hn => vV_tops (topV_not k hlt hn))
      clear e1 e0 OK
      generalize vMany vs k = m at *
      generalize vTop vs k = t at *
      have HI1 := Lib.hid (fun W => (l1In_any m 0 4 W).mono fun _ _ h => And.intro h.1 h.2.symm)
      have HI2 := Lib.hid (fun W => (l1In_any t 0 5 W).mono fun _ _ h => And.intro h.1 h.2.symm)
      by_cases hm : 0 ≤ m ∧ m ≤ 4
      · rw [decide_eq_true hm] at HI1
        by_cases ht : 0 ≤ t ∧ t ≤ 5
        · rw [decide_eq_true ht] at HI2
          obtain ⟨b1, hb1⟩ : ∃ b1, (m == 0) = b1 := ⟨_, rfl⟩
          obtain ⟨b2, hb2⟩ : ∃ b2, (t == 0) = b2 := ⟨_, rfl⟩
          by_cases hb : b1 = b2
          · have Y := Lib.hid (YES.out (by
              rw [EO.out]
              refine decide_eq_true ?_
              rw [← hb1, ← hb2] at hb
              by_cases e : m = 0
              · subst e; simp at hb; right; exact ⟨rfl, by omega⟩
              · left
                have : ¬ t = 0 := by
                  intro e2; subst e2; simp at hb; exact e hb
                omega))
            subst hb
            clear YES NO EO hm ht
            go_wp2_with fail
            go_quiet (first | (go_at_call 40; with_reducible exact Calls.quiet_of_same (HI1.out _)) | (go_at_call 40; with_reducible exact Calls.quiet_of_same (HI2.out _)))
            have GH2 := GH.drewN nq
            have GB2 := Lib.hid (GB.out.drewN nq)
            clear hb1 hb2
            go_wp2_with fail
            go_roundg (6 - (k + 1))
            case rel => exact ⟨k + 1, rfl, by omega, by go_num, Y, GH2, GB2⟩
            case measure => omega
          · have N := Lib.hid (NO.out (by
              rw [EO.out]
              refine decide_eq_false ?_
              intro hor
              apply hb
              rw [← hb1, ← hb2]
              rcases hor with h1 | h1
              · have e1 : (m == 0) = false := by simp; omega
                have e2 : (t == 0) = false := by simp; omega
                rw [e1, e2]
              · rw [h1.1, h1.2]))
            clear YES NO EO hm ht
            go_wp2_with fail
            have hb4 : b2 = !b1 := by cases b1 <;> cases b2 <;> simp at hb ⊢
            subst hb4
            clear hb
            cases b1
            all_goals
              simp only [Bool.not_false, Bool.not_true] at hb2
              go_quiet (first | (go_at_call 40; with_reducible exact Calls.quiet_of_same (HI1.out _)) | (go_at_call 40; with_reducible exact Calls.quiet_of_same (HI2.out _)))
              have GB2 := Lib.hid (GB.out.drewN nq)
              clear hb1 hb2
              go_wp2_with fail
              go_ret
              exact ⟨by rw [N.out]; rfl, GB2.out⟩
        · rw [decide_eq_false ht] at HI2
          have N := Lib.hid (NO.out (by rw [EO.out]; exact decide_eq_false (by rintro (h | h) <;> omega)))
          clear YES NO EO hm ht
          go_wp2_with fail
          go_quiet (first | (go_at_call 40; with_reducible exact Calls.quiet_of_same (HI1.out _)) | (go_at_call 40; with_reducible exact Calls.quiet_of_same (HI2.out _)))
          have GB2 := Lib.hid (GB.out.drewN nq)
          go_wp2_with fail
          go_ret
          exact ⟨by rw [N.out]; rfl, GB2.out⟩
      · rw [decide_eq_false hm] at HI1
        have N := Lib.hid (NO.out (by rw [EO.out]; exact decide_eq_false (by rintro (h | h) <;> omega)))
        clear YES NO EO hm
        go_wp2_with fail
        go_quiet (first | (go_at_call 40; with_reducible exact Calls.quiet_of_same (HI1.out _)) | (go_at_call 40; with_reducible exact Calls.quiet_of_same (HI2.out _)))
        have GB2 := Lib.hid (GB.out.drewN nq)
        go_wp2_with fail
        go_ret
        exact ⟨by rw [N.out]; rfl, GB2.out⟩
    · obtain rfl : k = 6 := by omega
      have ht := topV_of OK.out
      have HL := Lib.hid (show (wrL (hid vs)).length = 6 by rw [wrL_len]; exact hid_len h)
      have HX := Lib.hid (fun c hc => hid_wrap h ht HWF.out c hc)
      have HT := Lib.hid ht
      have H18 := Lib.hid h
      go_wp2_with (refine load_has rfl 44 _ rfl _ rfl ?_ 18 ?_ _ Try.underlying44 rfl ?_ ?_; rotate_left; (· (repeat (first | (with_reducible assumption) | ((with_reducible refine Has.box _ _ ?_ ?_) <;> (first | assumption | decide)) | (with_reducible refine Has.alloc ?_ _) | ((with_reducible refine Has.putOther ?_ _ _ ?_); rotate_left; omega; skip) | ((with_reducible refine Has.below ?_ ?_); rotate_left; assumption)))); (· kernel_rfl))
      refine (l7Hidden_any vs _ h ht HWF.out).mono ?_
      rintro e w1 ⟨rfl, b1⟩
      have hl := HL.out
      have GY := Has.box w1 26 hl (by omega)
      have GH1 := (GH.below b1).alloc (.cells (ints (wrL (hid vs))).toArray 26)
      have GB1 := Lib.hid ((GB.out.call b1).alloc (.cells (ints (wrL (hid vs))).toArray 26))
      clear GH GB H HB b1 ht OK
      go_wp2_with (refine store_new rfl 26 _ _ rfl _ _ _ rfl _ rfl _ rfl rfl ?_ ?_ ?_; (· (first | assumption | rfl)); (· kernel_rfl))
      generalize w1.alloc (.cells (ints (wrL (hid vs))).toArray 26) = W1 at *
      generalize w1.heap.size = b1 at *
      go_loopg [6, 7] 5 (fun gk m i wr => ∃ c : Nat, gk = 6 - c ∧ 1 ≤ c ∧ c ≤ 6 ∧ i = .int .i64 c ∧ m = .int .i64 (sumUp (hid vs) c - (hid vs).getD 0 0) ∧ Hid (∀ j, 1 ≤ j → j < c → 0 ≤ (hid vs).getD j 0 ∧ (hid vs).getD j 0 ≤ 24) ∧ Hid (0 ≤ sumUp (hid vs) c - (hid vs).getD 0 0 ∧ sumUp (hid vs) c - (hid vs).getD 0 0 ≤ 24 * (c : Int)) ∧ W1 = wr)
      case atStart => exact ⟨1, rfl, by omega, by omega, rfl, by simp [sumUp], Lib.hid (fun j h1 h2 => by omega), Lib.hid (by simp [sumUp]), rfl⟩
      case round =>
        obtain ⟨c, rfl, hc1, hc, rfl, rfl, HN, HS, rfl⟩ := hrel
        by_cases hct : c < 6
        · have hci : (c : Int) ≤ 5 := by omega
          have hci6 : (c : Int) < 6 := by omega
          have d0 := GY.cell c hct
          have xw := HX.out c hct
          have E : Hid (sumUp (hid vs) (c + 1) = sumUp (hid vs) c + (hid vs).getD c 0) := Lib.hid rfl
          have HS1 := HS.out
          generalize hx : (wrL (hid vs)).getD c 0 = x at *
          have HI := Lib.hid (fun W => (l1In_any x 0 24 W))
          have hxx := Lib.hid hx
          clear hx
          by_cases hin : 0 ≤ x ∧ x ≤ 24
          · have e := xw.1 hin
            have N := Lib.hid (show ∀ j, 1 ≤ j → j < c + 1 → 0 ≤ (hid vs).getD j 0 ∧ (hid vs).getD j 0 ≤ 24 from fun j h1 h2 => by
              by_cases e2 : j = c
              · subst e2; rw [e]; exact hin
              · exact HN.out j h1 (by omega))
            have S := Lib.hid (show 0 ≤ sumUp (hid vs) (c + 1) - (hid vs).getD 0 0 ∧ sumUp (hid vs) (c + 1) - (hid vs).getD 0 0 ≤ 24 * ((c + 1 : Nat) : Int) by rw [E.out, e]; omega)
            have E2 := Lib.hid (show sumUp (hid vs) (c + 1) - (hid vs).getD 0 0 = sumUp (hid vs) c - (hid vs).getD 0 0 + x by rw [E.out, e]; omega)
            have x0 := hin.1
            have x1 := hin.2
            have s0 := HS1.1
            have s1 : sumUp (hid vs) c - (hid vs).getD 0 0 ≤ 200 := by omega
            clear xw e E HS HN HS1
            generalize sumUp (hid vs) c - (hid vs).getD 0 0 = y at *
            go_wp2_with fail
            refine (HI.out _).mono ?_
            rintro e w' ⟨rfl, rfl⟩
            rw [decide_eq_true hin]
            clear hin
            go_wp2_with fail
            go_roundg (6 - (c + 1))
            case rel => exact ⟨c + 1, rfl, by omega, by omega, by go_num, by rw [E2.out], N, S, rfl⟩
            case measure => omega
          · have N := Lib.hid (show vV vs = false by
              by_cases h1 : (hid vs).getD c 0 < 0
              · exact vV_debt c hct h1
              · by_cases h2 : 24 < (hid vs).getD c 0
                · exact vV_many H18.out c hct h2
                · have := xw.2 (by omega)
                  omega)
            clear xw E HS HN HS1
            generalize sumUp (hid vs) c - (hid vs).getD 0 0 = y at *
            go_wp2_with fail
            refine (HI.out _).mono ?_
            rintro e w' ⟨rfl, rfl⟩
            rw [decide_eq_false hin]
            clear hin
            go_wp2_with fail
            go_ret
            exact ⟨by rw [N.out]; rfl, GB1.out⟩
        · obtain rfl : c = 6 := by omega
          have EV := Lib.hid (vV_spec H18.out HT.out (fun c h1 h2 => (HN.out c h2 h1).1))
          have c2 := GH1.vCell 2 0 (by omega) (by omega)
          have em : (prt vs 2).getD 0 0 = vCnt vs 0 := rfl
          rw [em] at c2
          simp only [Nat.reduceMul, Nat.add_zero] at c2
          clear em HS
          generalize sumUp (hid vs) 6 - (hid vs).getD 0 0 = y at *
          generalize vCnt vs 0 = z at *
          generalize belUp vs 6 = u at *
          by_cases hz : z = 0
          · subst hz
            by_cases hy : y = u
            · subst hy
              go_wp2_with fail
              go_ret
              exact ⟨by rw [EV.out]; simp, GB1.out⟩
            · have y0 : (y == u) = false := by simpa using hy
              have N := Lib.hid (decide_eq_false hy)
              clear hy
              go_wp2_with fail
              go_ret
              exact ⟨by rw [EV.out, N.out]; rfl, GB1.out⟩
          · have z0 : (z == 0) = false := by simpa using hz
            have N := Lib.hid (decide_eq_false hz)
            clear hz
            go_wp2_with fail
            go_ret
            exact ⟨by rw [EV.out, N.out]; rfl, GB1.out⟩

end Go.Proofs.Ytcedpjjfcfeokab.base
end

section
namespace Go.Proofs.Ytcedpjjfcfeokab.base
open Go.ChangeShapes Go.WideShapes Go.ChangeAt Go.RowKit
set_option linter.unusedVariables false
set_option linter.unusedSimpArgs false

theorem less1_lessAt (cs : List Int) (c : Nat) (h : c ≠ 0) : lessAt cs (c : Int) = less1 cs c := by
  unfold lessAt less1; rw [if_neg (by omega), Int.toNat_natCast]
theorem lessAt_zero (cs : List Int) : lessAt cs 0 = cs := by unfold lessAt; rw [if_pos rfl]

set_option maxHeartbeats 400000 in
set_option maxRecDepth 100000 in
theorem hidden_any (vs : List Int) (w : World) (h : vs.length = 18) (ht : topV vs = true) (hb : ∀ c, c < 6 → -900 ≤ vCnt vs c ∧ vCnt vs c ≤ 900) :
    Calls Try.prog 86 #[row vs] w fun e w' => e = .returned (row (hid vs)) ∧ Kept w w' := by
  have l2 := prt_len vs 2 h (by omega)
  have H := ((Has.box w 44 h (by omega)).alloc (.cells #[.int .i64 0, .int .i64 0, .int .i64 0, .int .i64 0, .int .i64 0, .int .i64 0] 123)).alloc (.cells (ints (prt vs 2)).toArray 123)
  have Z := ((Has.zero6 (w.alloc (.cells (ints vs).toArray 44)) 123).at (size1 _ _)).alloc (.cells (ints (prt vs 2)).toArray 123)
  have Y := (Has.box ((w.alloc (.cells (ints vs).toArray 44)).alloc (.cells #[.int .i64 0, .int .i64 0, .int .i64 0, .int .i64 0, .int .i64 0, .int .i64 0] 123)) 123 l2 (by omega)).at (c := w.heap.size + 1 + 1) (by simp)
  have HB := Lib.hid ((((kept_refl w).alloc (.cells (ints vs).toArray 44)).alloc (.cells #[.int .i64 0, .int .i64 0, .int .i64 0, .int .i64 0, .int .i64 0, .int .i64 0] 123)).alloc (.cells (ints (prt vs 2)).toArray 123))
  have HH := (Has.box w 44 h (by omega)).alloc (.cells #[.int .i64 0, .int .i64 0, .int .i64 0, .int .i64 0, .int .i64 0, .int .i64 0] 123)
  have gi := index6v 26 Try.underlying26 (prt vs 0) (prt_len vs 0 h (by omega))
  have HG := Lib.hid gi
  have HT := Lib.hid (fun i hi => topV_at ht i hi)
  have HU := Lib.hid (hidUp_len vs h)
  have HX := Lib.hid (show ∀ i c, i ≤ 6 → c < 6 → -1000 ≤ (hidUp vs i).getD c 0 ∧ (hidUp vs i).getD c 0 ≤ 1000 from fun i c hi hc => by
    rw [hidUp_get h ht c hc i hi]
    have := occT_in vs c i
    have := hb c hc
    omega)
  rw [row_ints]
  clear gi hb ht
  go_enter Try.func86, Try.ntmps86
  go_upto_region 3 with (first | (refine load_prt rfl 26 _ rfl _ (2) _ rfl ?_ ?_ ?_ ?_ _ Try.underlying26 rfl ?_ ?_; (· (first | rfl | omega)); rotate_left; (· (repeat (first | (with_reducible assumption) | ((with_reducible refine Has.box _ _ ?_ ?_) <;> (first | assumption | decide)) | (with_reducible refine Has.alloc ?_ _) | ((with_reducible refine Has.putOther ?_ _ _ ?_); rotate_left; omega; skip) | ((with_reducible refine Has.below ?_ ?_); rotate_left; assumption)))); (· omega); (· kernel_rfl)) | (refine store_new rfl 123 _ _ rfl _ _ _ rfl _ (by simp) (prt vs 2) rfl rfl ?_ ?_ ?_; (· (first | assumption | rfl)); (· kernel_rfl)) | (refine load_prt rfl 26 _ rfl _ (0) _ rfl ?_ ?_ ?_ ?_ _ Try.underlying26 rfl ?_ ?_; (· (first | rfl | omega)); rotate_left; (· (repeat (first | (with_reducible assumption) | ((with_reducible refine Has.box _ _ ?_ ?_) <;> (first | assumption | decide)) | (with_reducible refine Has.alloc ?_ _) | ((with_reducible refine Has.putOther ?_ _ _ ?_); rotate_left; omega; skip) | ((with_reducible refine Has.below ?_ ?_); rotate_left; assumption)))); (· omega); (· kernel_rfl)))
  clear H HH
  generalize (((w.alloc (.cells (ints vs).toArray 44)).alloc (.cells #[.int .i64 0, .int .i64 0, .int .i64 0, .int .i64 0, .int .i64 0, .int .i64 0] 123)).alloc (.cells (ints (prt vs 2)).toArray 123)) = W at *
  go_loopg [10] 6 (fun gk i wr => ∃ k : Nat, gk = 6 - k ∧ k ≤ 6 ∧ i = .int .i64 k ∧ Has wr (w.heap.size + 1) z6 6 ∧ Has wr (w.heap.size + 1 + 1) (hidUp vs k) 6 ∧ Hid (Kept w wr))
  case atStart => exact ⟨0, rfl, by omega, rfl, Z, Y, HB⟩
  case round =>
    obtain ⟨k, rfl, hk, rfl, GZ, GY, GB⟩ := hrel
    by_cases hlt : k < 6
    · have hki : (k : Int) < 6 := by omega
      have g0 := HG.out k hlt
      have tk := HT.out k hlt
      have E : Hid (hidUp vs (k + 1) = lessAt (hidUp vs k) (vTop vs k)) := Lib.hid rfl
      have et : (prt vs 0).getD k 0 = vTop vs k := rfl
      rw [et] at g0
      clear et
      by_cases h0 : vTop vs k = 0
      · rw [h0] at g0
        have E2 := Lib.hid (show hidUp vs (k + 1) = hidUp vs k by rw [E.out, h0, lessAt_zero])
        clear tk h0 E
        go_wp2_with fail
        go_roundg (6 - (k + 1))
        case rel => exact ⟨k + 1, rfl, by omega, by go_num, GZ, GY.asV E2.out.symm, GB⟩
        case measure => omega
      · obtain ⟨c, hc, hc6, hc1⟩ : ∃ c : Nat, vTop vs k = (c : Int) ∧ c < 6 ∧ c ≠ 0 := ⟨(vTop vs k).toNat, by omega, by omega, by omega⟩
        rw [hc] at g0
        have E2 := Lib.hid (show hidUp vs (k + 1) = less1 (hidUp vs k) c by rw [E.out, hc, less1_lessAt _ c hc1])
        have q1 : ((c : Int) != 0) = true := by simp; omega
        have q2 : ((c : Int) == 0) = false := by simp; omega
        have hl := HU.out k
        have hx := HX.out k c hk hc6
        clear tk h0 E hc
        go_wp2_with (refine load_has rfl 123 _ rfl _ rfl ?_ 6 ?_ _ Try.underlying123 rfl ?_ ?_; rotate_left; (· (repeat (first | (with_reducible assumption) | ((with_reducible refine Has.box _ _ ?_ ?_) <;> (first | assumption | decide)) | (with_reducible refine Has.alloc ?_ _) | ((with_reducible refine Has.putOther ?_ _ _ ?_); rotate_left; omega; skip) | ((with_reducible refine Has.below ?_ ?_); rotate_left; assumption)))); (· kernel_rfl))
        refine (without_any (hidUp vs k) c _ hl hc6 hx).mono ?_
        rintro e w1 ⟨rfl, b1⟩
        rw [← E2.out]
        have hl2 := HU.out (k + 1)
        have KZ := GZ.below b1
        have KY := GY.below b1
        have KB := Lib.hid (GB.out.call b1)
        have LZ := Lib.hid (KZ.putOther (b' := w.heap.size + 1 + 1) 0 (ints (hidUp vs (k + 1))) (by omega))
        have LY := Lib.hid (KY.putAll (hidUp vs (k + 1)) hl2)
        have LB := Lib.hid (KB.out.puts (b := w.heap.size + 1 + 1) (by omega) 0 (ints (hidUp vs (k + 1))))
        clear GZ GY GB b1 KZ KB hx
        rw [row_ints]
        go_wp2_with (refine store_at rfl 123 _ _ rfl _ _ rfl rfl ?_ 6 ?_ ?_ ?_ ?_; rotate_left; (· (repeat (first | (with_reducible assumption) | ((with_reducible refine Has.box _ _ ?_ ?_) <;> (first | assumption | decide)) | (with_reducible refine Has.alloc ?_ _) | ((with_reducible refine Has.putOther ?_ _ _ ?_); rotate_left; omega; skip) | ((with_reducible refine Has.below ?_ ?_); rotate_left; assumption)))); (· (first | assumption | rfl)); (· kernel_rfl))
        go_roundg (6 - (k + 1))
        case rel => exact ⟨k + 1, rfl, by omega, by go_num, LZ.out, LY.out, LB⟩
        case measure => omega
    · obtain rfl : k = 6 := by omega
      have hl := HU.out 6
      have S1 := Lib.hid (GZ.putAll (hidUp vs 6) hl)
      have S2 := Lib.hid (GB.out.puts (b := w.heap.size + 1) (by omega) 0 (ints (hidUp vs 6)))
      go_wp2_with (first | (refine load_has rfl 123 _ rfl _ rfl ?_ 6 ?_ _ Try.underlying123 rfl ?_ ?_; rotate_left; (· (repeat (first | (with_reducible assumption) | ((with_reducible refine Has.box _ _ ?_ ?_) <;> (first | assumption | decide)) | (with_reducible refine Has.alloc ?_ _) | ((with_reducible refine Has.putOther ?_ _ _ ?_); rotate_left; omega; skip) | ((with_reducible refine Has.below ?_ ?_); rotate_left; assumption)))); (· kernel_rfl)) | (refine store_at rfl 123 _ _ rfl _ _ rfl rfl ?_ 6 ?_ ?_ ?_ ?_; rotate_left; (· (repeat (first | (with_reducible assumption) | ((with_reducible refine Has.box _ _ ?_ ?_) <;> (first | assumption | decide)) | (with_reducible refine Has.alloc ?_ _) | ((with_reducible refine Has.putOther ?_ _ _ ?_); rotate_left; omega; skip) | ((with_reducible refine Has.below ?_ ?_); rotate_left; assumption)))); (· (first | assumption | rfl)); (· kernel_rfl)))
      exact bodyPost_ret (res_has rfl _ _ (w.heap.size + 1) (hidUp vs 6) 6 _ rfl S1.out Try.underlying123 rfl (by kernel_rfl)) rfl ⟨rfl, S2.out⟩

set_option maxHeartbeats 400000 in
set_option maxRecDepth 100000 in
theorem hasTops_any (vs : List Int) (w : World) (h : vs.length = 18) :
    Calls Try.prog 101 #[row vs] w fun e w' => e = .returned (.bool (topV vs)) ∧ Kept w w' := by
  have H := Has.box w 44 h (by omega)
  have HB := Lib.hid ((kept_refl w).alloc (.cells (ints vs).toArray 44))
  have gi := index6v 26 Try.underlying26 (prt vs 1) (prt_len vs 1 h (by omega))
  have HG := Lib.hid gi
  rw [row_ints]
  clear gi
  go_enter Try.func101, Try.ntmps101
  go_upto_region 2 with (refine load_prt rfl 26 _ rfl _ (1) _ rfl ?_ ?_ ?_ ?_ _ Try.underlying26 rfl ?_ ?_; (· (first | rfl | omega)); rotate_left; (· (repeat (first | (with_reducible assumption) | ((with_reducible refine Has.box _ _ ?_ ?_) <;> (first | assumption | decide)) | (with_reducible refine Has.alloc ?_ _) | ((with_reducible refine Has.putOther ?_ _ _ ?_); rotate_left; omega; skip) | ((with_reducible refine Has.below ?_ ?_); rotate_left; assumption)))); (· omega); (· kernel_rfl))
  generalize w.alloc (.cells (ints vs).toArray 44) = W at *
  go_loopg [9] 6 (fun gk i wr => ∃ k : Nat, gk = 6 - k ∧ k ≤ 6 ∧ i = .int .i64 k ∧ Hid (∀ j, j < k → okTop vs j = true) ∧ W = wr)
  case atStart => exact ⟨0, rfl, by omega, rfl, Lib.hid (fun j hj => by omega), rfl⟩
  case round =>
    obtain ⟨k, rfl, hk, rfl, OK, rfl⟩ := hrel
    by_cases hlt : k < 6
    · have hki : (k : Int) < 6 := by omega
      have g0 := HG.out k hlt
      have em : (prt vs 1).getD k 0 = vMany vs k := rfl
      have c0 := H.vCell 0 k (by omega) hlt
      rw [Nat.zero_mul, Nat.zero_add] at c0
      have et : (prt vs 0).getD k 0 = vTop vs k := rfl
      rw [em] at g0
      rw [et] at c0
      have EO : Hid (okTop vs k = decide ((1 ≤ vMany vs k ∧ vMany vs k ≤ 4 ∧ 1 ≤ vTop vs k ∧ vTop vs k ≤ 5) ∨ (vMany vs k = 0 ∧ vTop vs k = 0))) := Lib.hid rfl
      have YES := Lib.hid (show okTop vs k = true → ∀ j, j < k + 1 → okTop vs j = true from fun hy j hj => by
        by_cases e : j = k
        · subst e; exact hy
        · exact OK.out j (by omega))
      have NO := Lib.hid (show okTop vs k = false → topV vs = false from fun hn => topV_not k hlt hn)
      clear em et OK
      generalize vMany vs k = m at *
      generalize vTop vs k = t at *
      by_cases hm : 1 ≤ m ∧ m ≤ 4
      · have m1 : decide (1 ≤ m) = true := decide_eq_true hm.1
        have m4 : decide (m ≤ 4) = true := decide_eq_true hm.2
        have m0 : (m == 0) = false := by simp; omega
        go_wp2_with fail
        refine (isColor_any t _).mono ?_
        rintro e w' ⟨rfl, rfl⟩
        by_cases ht : 1 ≤ t ∧ t ≤ 5
        · rw [decide_eq_true ht]
          have Y := Lib.hid (YES.out (by rw [EO.out]; exact decide_eq_true (.inl ⟨hm.1, hm.2, ht.1, ht.2⟩)))
          clear ht hm YES NO EO
          go_wp2_with fail
          go_roundg (6 - (k + 1))
          case rel => exact ⟨k + 1, rfl, by omega, by go_num, Y, rfl⟩
          case measure => omega
        · rw [decide_eq_false ht]
          have N := Lib.hid (NO.out (by rw [EO.out]; exact decide_eq_false (by rintro (h | h) <;> omega)))
          clear ht hm YES NO EO
          go_wp2_with fail
          go_ret
          exact ⟨by rw [N.out]; rfl, HB.out⟩
      · by_cases h0 : m = 0
        · subst h0
          by_cases ht : t = 0
          · subst ht
            have Y := Lib.hid (YES.out (by rw [EO.out]; rfl))
            clear hm YES NO EO
            go_wp2_with fail
            go_roundg (6 - (k + 1))
            case rel => exact ⟨k + 1, rfl, by omega, by go_num, Y, rfl⟩
            case measure => omega
          · have N := Lib.hid (NO.out (by rw [EO.out]; exact decide_eq_false (by rintro (h | h) <;> omega)))
            have t0 : (t == 0) = false := by simpa using ht
            clear ht hm YES NO EO
            go_wp2_with fail
            go_ret
            exact ⟨by rw [N.out]; rfl, HB.out⟩
        · have N := Lib.hid (NO.out (by rw [EO.out]; exact decide_eq_false (by rintro (h | h) <;> omega)))
          have m0 : (m == 0) = false := by simpa using h0
          by_cases h1 : 1 ≤ m
          · have m1 : decide (1 ≤ m) = true := decide_eq_true h1
            have m4 : decide (m ≤ 4) = false := decide_eq_false (by omega)
            clear hm h0 h1 YES NO EO
            go_wp2_with fail
            go_ret
            exact ⟨by rw [N.out]; rfl, HB.out⟩
          · have m1 : decide (1 ≤ m) = false := decide_eq_false h1
            clear hm h0 h1 YES NO EO
            go_wp2_with fail
            go_ret
            exact ⟨by rw [N.out]; rfl, HB.out⟩
    · obtain rfl : k = 6 := by omega
      have E := Lib.hid (topV_of OK.out)
      go_wp2_with fail
      go_ret
      exact ⟨by rw [E.out]; rfl, HB.out⟩

theorem cnt_small {vs : List Int} (ht : topV vs = true) : ∀ c, c ≤ 6 → cntOk vs c = true → (0 ≤ sumUp (prt vs 2) c ∧ sumUp (prt vs 2) c ≤ 24) ∧ ∀ j, j < c → 0 ≤ vCnt vs j ∧ vCnt vs j ≤ 24
  | 0, _, _ => ⟨by simp [sumUp], fun j hj => by omega⟩
  | c + 1, hc, ho => by
    simp only [cntOk, Bool.and_eq_true, decide_eq_true_eq] at ho
    obtain ⟨i1, i2⟩ := cnt_small ht c (by omega) ho.1.1
    have hm := mnyUp_in ht 6 (by omega)
    have e : sumUp (prt vs 2) (c + 1) = sumUp (prt vs 2) c + vCnt vs c := rfl
    have h1 := ho.1.2
    have h2 := ho.2
    refine ⟨by omega, fun j hj => ?_⟩
    by_cases e2 : j = c
    · subst e2; omega
    · exact i2 j (by omega)

set_option maxHeartbeats 400000 in
set_option maxRecDepth 100000 in
theorem hasCounts_any (vs : List Int) (w : World) (h : vs.length = 18) (ht : topV vs = true) :
    Calls Try.prog 102 #[row vs] w fun e w' => e = .returned (.bool (cntVV vs)) ∧ Kept w w' := by
  have H := Has.box w 44 h (by omega)
  have HB := Lib.hid ((kept_refl w).alloc (.cells (ints vs).toArray 44))
  have gi := index6v 26 Try.underlying26 (prt vs 1) (prt_len vs 1 h (by omega))
  have HG := Lib.hid gi
  have gj := index6v 26 Try.underlying26 (prt vs 2) (prt_len vs 2 h (by omega))
  have HJ := Lib.hid gj
  have HM := Lib.hid (fun i hi => topV_at ht i hi)
  have HU := Lib.hid (fun i hi => mnyUp_in ht i hi)
  have HT := Lib.hid ht
  have EC : Hid (cntVV vs = (cntOk vs 6 && decide (mnyUp vs 6 - sumUp (prt vs 2) 6 = 0) && decide (vCnt vs 0 = 0))) := Lib.hid rfl
  rw [row_ints]
  clear gi gj ht
  go_enter Try.func102, Try.ntmps102
  go_upto_region 3 with (refine load_prt rfl 26 _ rfl _ (1) _ rfl ?_ ?_ ?_ ?_ _ Try.underlying26 rfl ?_ ?_; (· (first | rfl | omega)); rotate_left; (· (repeat (first | (with_reducible assumption) | ((with_reducible refine Has.box _ _ ?_ ?_) <;> (first | assumption | decide)) | (with_reducible refine Has.alloc ?_ _) | ((with_reducible refine Has.putOther ?_ _ _ ?_); rotate_left; omega; skip) | ((with_reducible refine Has.below ?_ ?_); rotate_left; assumption)))); (· omega); (· kernel_rfl))
  generalize w.alloc (.cells (ints vs).toArray 44) = W at *
  go_loopg [3, 10] 6 (fun gk m i wr => ∃ k : Nat, gk = 6 - k ∧ k ≤ 6 ∧ i = .int .i64 k ∧ m = .int .i64 (mnyUp vs k) ∧ W = wr)
  case atStart => exact ⟨0, rfl, by omega, rfl, rfl, rfl⟩
  case round =>
    obtain ⟨k, rfl, hk, rfl, rfl, rfl⟩ := hrel
    by_cases hlt : k < 6
    · have hki : (k : Int) < 6 := by omega
      have g0 := HG.out k hlt
      have mk := HM.out k hlt
      have uk := HU.out k (by omega)
      have em : (prt vs 1).getD k 0 = vMany vs k := rfl
      rw [em] at g0
      have E : Hid (mnyUp vs (k + 1) = mnyUp vs k + vMany vs k) := Lib.hid rfl
      have m0 : 0 ≤ vMany vs k := by omega
      have m4 : vMany vs k ≤ 4 := by omega
      have u0 := uk.1
      have u4 : mnyUp vs k ≤ 24 := by omega
      clear em mk uk
      generalize vMany vs k = m at *
      generalize mnyUp vs k = u at *
      go_wp2_with fail
      go_roundg (6 - (k + 1))
      case rel => exact ⟨k + 1, rfl, by omega, by go_num, by rw [E.out], rfl⟩
      case measure => omega
    · obtain rfl : k = 6 := by omega
      go_upto_region 8 with (refine load_prt rfl 26 _ rfl _ (2) _ rfl ?_ ?_ ?_ ?_ _ Try.underlying26 rfl ?_ ?_; (· (first | rfl | omega)); rotate_left; (· (repeat (first | (with_reducible assumption) | ((with_reducible refine Has.box _ _ ?_ ?_) <;> (first | assumption | decide)) | (with_reducible refine Has.alloc ?_ _) | ((with_reducible refine Has.putOther ?_ _ _ ?_); rotate_left; omega; skip) | ((with_reducible refine Has.below ?_ ?_); rotate_left; assumption)))); (· omega); (· kernel_rfl))
      go_loopg [3, 19] 6 (fun gk m i wr => ∃ c : Nat, gk = 6 - c ∧ c ≤ 6 ∧ i = .int .i64 c ∧ m = .int .i64 (mnyUp vs 6 - sumUp (prt vs 2) c) ∧ Hid (cntOk vs c = true) ∧ W = wr)
      case atStart => exact ⟨0, rfl, by omega, rfl, by simp [sumUp], Lib.hid rfl, rfl⟩
      case round =>
        obtain ⟨c, rfl, hc, rfl, rfl, CO, rfl⟩ := hrel
        have ub := HU.out 6 (by omega)
        have sb := (cnt_small HT.out c hc CO.out).1
        by_cases hct : c < 6
        · have hci : (c : Int) < 6 := by omega
          have g1 := HJ.out c hct
          have em : (prt vs 2).getD c 0 = vCnt vs c := rfl
          rw [em] at g1
          have E : Hid (sumUp (prt vs 2) (c + 1) = sumUp (prt vs 2) c + vCnt vs c) := Lib.hid rfl
          have EO : Hid (cntOk vs (c + 1) = (cntOk vs c && decide (0 ≤ vCnt vs c) && decide (vCnt vs c ≤ mnyUp vs 6 - sumUp (prt vs 2) c))) := Lib.hid rfl
          have NO := Lib.hid (show cntOk vs (c + 1) = false → cntVV vs = false from fun hn => by
            rw [EC.out]
            have : cntOk vs 6 = false := by
              have : ∀ d, c + 1 + d ≤ 6 → cntOk vs (c + 1 + d) = false := by
                intro d
                induction d with
                | zero => intro _; exact hn
                | succ d ih => intro hd; show (cntOk vs (c + 1 + d) && _ && _) = false; rw [ih (by omega)]; rfl
              have := this (5 - c) (by omega)
              rwa [show c + 1 + (5 - c) = 6 by omega] at this
            rw [this]; rfl)
          clear em
          have u1 := ub.2
          have u0 := ub.1
          have s0 := sb.1
          have s1 := sb.2
          clear ub sb
          generalize vCnt vs c = x at *
          have y0 : -24 ≤ mnyUp vs 6 - sumUp (prt vs 2) c := by omega
          have y1 : mnyUp vs 6 - sumUp (prt vs 2) c ≤ 24 := by omega
          have E2 := Lib.hid (show mnyUp vs 6 - sumUp (prt vs 2) (c + 1) = mnyUp vs 6 - sumUp (prt vs 2) c - x by rw [E.out]; omega)
          clear u0 u1 s0 s1 E
          generalize mnyUp vs 6 - sumUp (prt vs 2) c = y at *
          by_cases hx : x < 0
          · have N := Lib.hid (NO.out (by rw [EO.out, decide_eq_false (show ¬ 0 ≤ x by omega)]; simp))
            have x0 : decide (x < 0) = true := decide_eq_true hx
            clear hx NO EO
            go_wp2_with fail
            go_ret
            exact ⟨by rw [N.out]; rfl, HB.out⟩
          · have x0 : decide (x < 0) = false := decide_eq_false hx
            by_cases hy : y < x
            · have N := Lib.hid (NO.out (by rw [EO.out, decide_eq_false (show ¬ x ≤ y by omega)]; simp))
              have x1 : decide (y < x) = true := decide_eq_true hy
              clear hx hy NO EO
              go_wp2_with fail
              go_ret
              exact ⟨by rw [N.out]; rfl, HB.out⟩
            · have x1 : decide (y < x) = false := decide_eq_false hy
              have N := Lib.hid (show cntOk vs (c + 1) = true by rw [EO.out, CO.out, decide_eq_true (show 0 ≤ x by omega), decide_eq_true (show x ≤ y by omega)]; rfl)
              have x2 : 0 ≤ x := by omega
              have x3 : x ≤ y := by omega
              clear hx hy NO EO CO
              go_wp2_with fail
              go_roundg (6 - (c + 1))
              case rel => exact ⟨c + 1, rfl, by omega, by go_num, by rw [E2.out], N, rfl⟩
              case measure => omega
        · obtain rfl : c = 6 := by omega
          have c0 := H.vCell 2 0 (by omega) (by omega)
          have em : (prt vs 2).getD 0 0 = vCnt vs 0 := rfl
          rw [em] at c0
          simp only [Nat.reduceMul, Nat.add_zero] at c0
          have EC2 := Lib.hid (show cntVV vs = (decide (mnyUp vs 6 - sumUp (prt vs 2) 6 = 0) && decide (vCnt vs 0 = 0)) by rw [EC.out, CO.out, Bool.true_and])
          clear em ub sb CO EC
          generalize mnyUp vs 6 - sumUp (prt vs 2) 6 = y at *
          generalize vCnt vs 0 = z at *
          by_cases hy : y = 0
          · subst hy
            go_wp2_with fail
            go_ret
            exact ⟨by rw [EC2.out]; rfl, HB.out⟩
          · have y0 : (y == 0) = false := by simpa using hy
            have E3 := Lib.hid (decide_eq_false hy)
            clear hy
            go_wp2_with fail
            go_ret
            exact ⟨by rw [EC2.out, E3.out]; rfl, HB.out⟩
end Go.Proofs.Ytcedpjjfcfeokab.base
end

section
namespace Go.Proofs.Ytcedpjjfcfeokab.base
open Go.ChangeShapes Go.WideShapes Go.ChangeAt Go.RowKit
set_option linter.unusedVariables false
set_option linter.unusedSimpArgs false

/-- The least of six numbers. -/
def minUp (xs : List Int) : Nat → Int
  | 0 => xs.getD 0 0
  | k + 1 => min (minUp xs k) (xs.getD (k + 1) 0)
theorem minUp_debt (xs : List Int) : ∀ k : Nat, decide (0 ≤ minUp xs k) = noDebt xs (k + 1)
  | 0 => by rw [minUp]; simp [noDebt]
  | k + 1 => by
    have ih := minUp_debt xs k
    rw [Bool.eq_iff_iff, noDebt_iff, decide_eq_true_iff]
    rw [Bool.eq_iff_iff, noDebt_iff, decide_eq_true_iff] at ih
    rw [minUp]
    constructor
    · intro h j hj
      by_cases e : j = k + 1
      · subst e; omega
      · exact ih.1 (by omega) j (by omega)
    · intro h
      have h1 := ih.2 (fun j hj => h j (by omega))
      have h2 := h (k + 1) (by omega)
      omega

set_option maxHeartbeats 400000 in
theorem min_any (xs : List Int) (b : Nat) (w : World) (H : Has w b xs 6) :
    Calls Try.prog 92 #[.slice (some ⟨b, 0, none⟩) 6 6] w fun e w' => e = .returned (.int .i64 (minUp xs 5)) ∧ w' = w := by
  have c0 := H.cell 0 (by omega)
  have E0 : Hid (minUp xs 0 = xs.getD 0 0) := Lib.hid rfl
  have HH := Lib.hid H
  clear H
  rw [← E0.out] at c0
  go_enter Try.func92, Try.ntmps92
  go_wp2_with fail
  go_loop [3, 4] (fun m i => ∃ c : Nat, c ≤ 5 ∧ i = .int .i64 ((c + 1 : Nat) : Int) ∧ m = .int .i64 (minUp xs c)) (fun _ z => 7 - (intOf z).toNat)
  case atStart => exact ⟨0, by omega, rfl, rfl⟩
  case round =>
    obtain ⟨c, hc, rfl, rfl⟩ := hrel
    by_cases hc4 : c < 5
    · have hci : ((c + 1 : Nat) : Int) < 6 := by omega
      have hci2 : (c : Int) + 1 < 6 := by omega
      have hc0 := HH.out.cell (c + 1) (by omega)
      have EN : Hid (minUp xs (c + 1) = min (minUp xs c) (xs.getD (c + 1) 0)) := Lib.hid rfl
      generalize xs.getD (c + 1) 0 = x at *
      generalize minUp xs c = y at *
      clear c0
      go_wp2_with fail
      all_goals
        go_round
        case rel => exact ⟨c + 1, by omega, by go_num, by rw [EN.out]; congr 1; omega⟩
        case measure => simp [intOf]; omega
    · obtain rfl : c = 5 := by omega
      go_wp2_with fail
      go_ret
      exact ⟨rfl, rfl⟩

theorem cnt_bounds {vs : List Int} (ht : topV vs = true) (hc : cntVV vs = true) : ∀ c, c < 6 → -900 ≤ vCnt vs c ∧ vCnt vs c ≤ 900 := fun c h => by
  unfold cntVV at hc
  simp only [Bool.and_eq_true] at hc
  have := (cnt_small ht 6 (by omega) hc.1.1).2 c h
  omega
theorem vV_bounds {vs : List Int} (h : vs.length = 18) (hv : vV vs = true) : ∀ c, c < 6 → -900 ≤ vCnt vs c ∧ vCnt vs c ≤ 900 := by
  have F := viewFacts h hv
  refine cnt_bounds F.tops ?_
  have := vV_code h F.tops
  rw [hv] at this
  exact (Bool.and_eq_true_iff.1 this.symm).1

set_option maxHeartbeats 400000 in
theorem implIsView (vs : List Int) (w : World) (h : vs.length = 18) :
    Calls Try.prog 94 #[row vs] w fun e w' => e = .returned (.bool (vV vs)) ∧ Kept w w' := by
  have H := Has.box w 44 h (by omega)
  have HB := Lib.hid ((kept_refl w).alloc (.cells (ints vs).toArray 44))
  rw [row_ints]
  go_enter Try.func94, Try.ntmps94
  go_wp2_with (refine load_has rfl 44 _ rfl _ rfl ?_ 18 ?_ _ Try.underlying44 rfl ?_ ?_; rotate_left; (· (repeat (first | (with_reducible assumption) | ((with_reducible refine Has.box _ _ ?_ ?_) <;> (first | assumption | decide)) | (with_reducible refine Has.alloc ?_ _) | ((with_reducible refine Has.putOther ?_ _ _ ?_); rotate_left; omega; skip) | ((with_reducible refine Has.below ?_ ?_); rotate_left; assumption)))); (· kernel_rfl))
  refine (hasTops_any vs _ h).mono ?_
  rintro e w1 ⟨rfl, b1⟩
  have H1 := H.below b1
  have HB1 := Lib.hid (HB.out.call b1)
  clear H HB b1
  by_cases ht : topV vs = true
  · rw [ht]
    have HC := Lib.hid (vV_code h ht)
    have HCB := Lib.hid (cnt_bounds ht)
    go_wp2_with (refine load_has rfl 44 _ rfl _ rfl ?_ 18 ?_ _ Try.underlying44 rfl ?_ ?_; rotate_left; (· (repeat (first | (with_reducible assumption) | ((with_reducible refine Has.box _ _ ?_ ?_) <;> (first | assumption | decide)) | (with_reducible refine Has.alloc ?_ _) | ((with_reducible refine Has.putOther ?_ _ _ ?_); rotate_left; omega; skip) | ((with_reducible refine Has.below ?_ ?_); rotate_left; assumption)))); (· kernel_rfl))
    refine (hasCounts_any vs _ h ht).mono ?_
    rintro e w2 ⟨rfl, b2⟩
    have H2 := H1.below b2
    have HB2 := Lib.hid (HB1.out.call b2)
    clear H1 HB1 b2
    by_cases hc : cntVV vs = true
    · rw [hc] at HC ⊢
      have hb := HCB.out hc
      clear hc HCB
      have h6 := hid_len h
      go_wp2_with (refine load_has rfl 44 _ rfl _ rfl ?_ 18 ?_ _ Try.underlying44 rfl ?_ ?_; rotate_left; (· (repeat (first | (with_reducible assumption) | ((with_reducible refine Has.box _ _ ?_ ?_) <;> (first | assumption | decide)) | (with_reducible refine Has.alloc ?_ _) | ((with_reducible refine Has.putOther ?_ _ _ ?_); rotate_left; omega; skip) | ((with_reducible refine Has.below ?_ ?_); rotate_left; assumption)))); (· kernel_rfl))
      refine (hidden_any vs _ h ht hb).mono ?_
      rintro e w3 ⟨rfl, b3⟩
      have HB3 := Lib.hid ((HB2.out.call b3).alloc (.cells (ints (hid vs)).toArray 123))
      have Z := Has.box w3 123 h6 (by omega)
      clear H2 HB2 b3 hb ht
      rw [row_ints]
      go_wp2_with (refine store_new rfl 123 _ _ rfl _ _ _ rfl _ rfl _ rfl rfl ?_ ?_ ?_; (· (first | assumption | rfl)); (· kernel_rfl))
      refine (min_any (hid vs) _ _ Z).mono ?_
      rintro e w' ⟨rfl, rfl⟩
      have E := Lib.hid (show vV vs = decide (0 ≤ minUp (hid vs) 5) by rw [HC.out, Bool.true_and, minUp_debt])
      clear HC
      go_wp2_with fail
      go_ret
      exact ⟨by rw [E.out]; rfl, HB3.out⟩
    · have hf : cntVV vs = false := by simpa using hc
      rw [hf] at HC ⊢
      clear hf hc HCB ht
      go_wp2_with fail
      go_ret
      exact ⟨by rw [HC.out]; rfl, HB2.out⟩
  · have hf : topV vs = false := by simpa using ht
    have N := Lib.hid (vV_tops hf)
    rw [hf]
    clear hf ht
    go_wp2_with fail
    go_ret
    exact ⟨by rw [N.out]; rfl, HB1.out⟩

/-- What is hidden, for any view. -/
def hidA (vs : List Int) : List Int := if vV vs = true then hid vs else z6
def belA (vs : List Int) : Int := if vV vs = true then belUp vs 6 else 0
def candA (vs : List Int) : Nat := if vV vs = true then ordA (hid vs) else 0
theorem hidA_len {vs : List Int} (h : vs.length = 18) : (hidA vs).length = 6 := by
  unfold hidA
  by_cases hv : vV vs = true
  · rw [if_pos hv]; exact hid_len h
  · rw [if_neg hv]; rfl

theorem implCountCand (vs : List Int) (w : World) (h : vs.length = 18) :
    Calls Try.prog 84 #[row vs] w fun e w' => e = .returned (.tuple #[.int .i64 (candA vs : Nat), .bool (vV vs)]) ∧ Kept w w' := by
  have H := Has.box w 44 h (by omega)
  have HB := Lib.hid ((kept_refl w).alloc (.cells (ints vs).toArray 44))
  rw [row_ints]
  go_enter Try.func84, Try.ntmps84
  go_wp2_with (refine load_has rfl 44 _ rfl _ rfl ?_ 18 ?_ _ Try.underlying44 rfl ?_ ?_; rotate_left; (· (repeat (first | (with_reducible assumption) | ((with_reducible refine Has.box _ _ ?_ ?_) <;> (first | assumption | decide)) | (with_reducible refine Has.alloc ?_ _) | ((with_reducible refine Has.putOther ?_ _ _ ?_); rotate_left; omega; skip) | ((with_reducible refine Has.below ?_ ?_); rotate_left; assumption)))); (· kernel_rfl))
  refine (implIsView vs _ h).mono ?_
  rintro e w1 ⟨rfl, b1⟩
  have H1 := H.below b1
  have HB1 := Lib.hid (HB.out.call b1)
  clear H HB b1
  by_cases hv : vV vs = true
  · rw [hv]
    have F := Lib.hid (viewFacts h hv)
    have EA := Lib.hid (show candA vs = ordA (hid vs) by unfold candA; rw [if_pos hv])
    have hb := vV_bounds h hv
    have h6 := hid_len h
    have hp := F.out.small
    have HV := Lib.hid hv
    clear hv
    go_wp2_with (refine load_has rfl 44 _ rfl _ rfl ?_ 18 ?_ _ Try.underlying44 rfl ?_ ?_; rotate_left; (· (repeat (first | (with_reducible assumption) | ((with_reducible refine Has.box _ _ ?_ ?_) <;> (first | assumption | decide)) | (with_reducible refine Has.alloc ?_ _) | ((with_reducible refine Has.putOther ?_ _ _ ?_); rotate_left; omega; skip) | ((with_reducible refine Has.below ?_ ?_); rotate_left; assumption)))); (· kernel_rfl))
    refine (hidden_any vs _ h F.out.tops hb).mono ?_
    rintro e w3 ⟨rfl, b3⟩
    have HB3 := Lib.hid (HB1.out.call b3)
    clear H1 HB1 b3 hb
    go_wp2_with fail
    refine (orders_any (hid vs) _ h6 hp).mono ?_
    rintro e w4 ⟨rfl, b4⟩
    have HB4 := Lib.hid (HB3.out.call b4)
    clear HB3 b4
    go_wp2_with fail
    go_ret2
    exact ⟨by rw [EA.out, HV.out]; rfl, HB4.out⟩
  · have hf : vV vs = false := by simpa using hv
    have EA := Lib.hid (show candA vs = 0 by unfold candA; rw [if_neg hv])
    rw [hf]
    have HV := Lib.hid hf
    clear hf hv
    go_wp2_with fail
    go_ret2
    exact ⟨by rw [EA.out, HV.out]; rfl, HB1.out⟩
end Go.Proofs.Ytcedpjjfcfeokab.base
end

section
namespace Go.Proofs.Ytcedpjjfcfeokab.base
open Go.ChangeShapes Go.WideShapes Go.ChangeAt Go.RowKit
set_option linter.unusedVariables false
set_option linter.unusedSimpArgs false

theorem hid_same {vs : List Int} (h : vs.length = 18) (hv : vV vs = true) : wrL (hid vs) = hid vs := by
  have F := viewFacts h hv
  refine wrL_id fun x hx => ?_
  obtain ⟨j, hj, e⟩ := List.mem_iff_getElem.1 hx
  have hl := hid_len h
  have e2 : (hid vs).getD j 0 = x := by rw [List.getD_eq_getElem?_getD, List.getElem?_eq_getElem hj, e]; rfl
  have := F.nat j (by omega)
  have := F.each j (by omega)
  omega

end Go.Proofs.Ytcedpjjfcfeokab.base
end
