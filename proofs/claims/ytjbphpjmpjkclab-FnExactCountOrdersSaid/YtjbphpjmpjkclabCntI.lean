/-
  How many different racks orders make of one, on the program's side, walked.
-/
import Derived.Test.YtjbphpjmpjkclabCntM
import Derived.Test.YtjbphpjmpjkclabMapE
import Derived.Test.YtjbphpjmpjkclabEqR
import Derived.Test.YtjbphpjmpjkclabGrid
namespace Go.Proofs.Ytjbphpjmpjkclab.base
open Go.ChangeShapes Go.WideShapes Go.ChangeAt Go.RowKit
set_option linter.unusedVariables false
set_option linter.unusedSimpArgs false

theorem tubeLaw : WideMaps.KeyLaw Try.prog 71 := deep_law_laid (by kernel_rfl) (m := 2) (by omega) (of_decide_eq_true (by kernel_rfl)) (by kernel_rfl) (by rw [Try.underlying71])
theorem tubeKeyed : Go.Maps.Keyed Try.prog 71 := Go.Maps.Keyed.of_law tubeLaw
theorem zeroInt (u : World) : (zeroValue 3).run Try.prog u = .ok (.int .i64 0) u := by kernel_rfl
theorem wf_small {z : Int} (h0 : 0 ≤ z) (h5 : z ≤ 5) : (Lit.int .i64 z).wf = true := by
  simp only [Lit.wf, IntKind.min, IntKind.max, IntKind.signed, IntKind.bits, Bool.and_eq_true, decide_eq_true_eq, if_true]
  omega
theorem tub_row {ns : List Int} (h24 : ns.length = 24) (hv : vR ns = true) {p : Nat} (hp : p < 6) : KeyRow 4 (tub ns p) := by
  have h4 := tub_len ns p h24 hp
  have hk := (known_iff h4).1 (by have := vR_tub hv p hp; unfold vT at this; exact (Bool.and_eq_true_iff.1 this).1)
  refine ⟨h4, fun z hz => ?_⟩
  obtain ⟨i, hi, e⟩ := List.mem_iff_getElem.1 hz
  have := hk i (by omega)
  rw [List.getD_eq_getElem?_getD, List.getElem?_eq_getElem hi, Option.getD_some, e] at this
  exact wf_small this.1 this.2
theorem tub_key {ns : List Int} (h24 : ns.length = 24) (hv : vR ns = true) {p : Nat} (hp : p < 6) : keyOf Try.prog 71 (.agg (ints (tub ns p)).toArray) = some (keyL (tub ns p)) :=
  keyOf_row Try.underlying71 Try.underlying3 (by kernel_rfl) (by kernel_rfl) (by kernel_rfl) (of_decide_eq_true (by kernel_rfl)) _ (tub_row h24 hv hp).len (tub_row h24 hv hp).wf

/-- How often a tube is among the first k. -/
def cAt (ns : List Int) (k : Nat) (l : List Int) : Nat := (List.range k).countP (fun j => decide (tub ns j = l))
def cntV (ns : List Int) (k : Nat) : List Int → Option Value := fun l => if cAt ns k l = 0 then none else some (.int .i64 (cAt ns k l : Nat))
theorem cntV_get (ns : List Int) (k : Nat) (l : List Int) : (cntV ns k l).getD (.int .i64 0) = .int .i64 (cAt ns k l : Nat) := by
  unfold cntV
  by_cases h : cAt ns k l = 0
  · rw [if_pos h, h]; rfl
  · rw [if_neg h]; rfl
theorem cAt_succ (ns : List Int) (k : Nat) (l : List Int) : cAt ns (k + 1) l = cAt ns k l + if tub ns k = l then 1 else 0 := by
  unfold cAt
  rw [List.range_succ, List.countP_append, List.countP_singleton]
  by_cases h : tub ns k = l <;> simp [h]
theorem cntV_put (ns : List Int) (k : Nat) (l : List Int) : mapPut (cntV ns k) (tub ns k) (.int .i64 ((cAt ns k (tub ns k) + 1 : Nat) : Int)) l = cntV ns (k + 1) l := by
  unfold mapPut
  by_cases h : l = tub ns k
  · subst h
    rw [if_pos rfl]
    unfold cntV
    rw [cAt_succ, if_pos rfl, if_neg (by omega)]
  · rw [if_neg h]
    have hc : cAt ns (k + 1) l = cAt ns k l := by rw [cAt_succ, if_neg (fun e : tub ns k = l => h e.symm), Nat.add_zero]
    unfold cntV
    rw [hc]
theorem cntF_at (ns : List Int) (k : Nat) : cntF (tub ns) k = cAt ns k (tub ns k) + 1 := rfl
theorem chain_div (c k d : Nat) : Int.tdiv ((c : Int) * ((k : Int) + 1)) ((d : Nat) : Int) = ((c * (k + 1) / d : Nat) : Int) := by
  have e : (c : Int) * ((k : Int) + 1) = ((c * (k + 1) : Nat) : Int) := by rw [Int.natCast_mul]; rfl
  rw [e]; rfl
theorem wrap_small (n : Nat) (h : n < 1000) : IntKind.i64.wrap (n : Int) = (n : Int) := by
  have h1 : (n : Int) % (2 ^ IntKind.i64.bits : Int) = n := by simp only [IntKind.bits]; omega
  have h2 : ¬ ((n : Int) ≥ (2 ^ (IntKind.i64.bits - 1) : Int)) := by simp only [IntKind.bits]; omega
  unfold IntKind.wrap
  simp only [h1, decide_eq_false h2, Bool.and_false, Bool.false_eq_true, if_false]
theorem cAt_le (ns : List Int) (k : Nat) (l : List Int) : cAt ns k l ≤ k := by
  unfold cAt
  have := List.countP_le_length (p := fun j => decide (tub ns j = l)) (l := List.range k)
  rwa [List.length_range] at this

set_option maxHeartbeats 1600000 in
set_option maxRecDepth 100000 in
theorem implCountOrders (ns : List Int) (w : World) (h24 : ns.length = 24) :
    Calls Try.prog 14 #[row ns] w fun e w' => e = .returned (.tuple #[.int .i64 (ordersA ns : Nat), .bool (vR ns)]) ∧ Kept w w' := by
  have HB := Lib.hid ((kept_refl w).alloc (.cells (ints ns).toArray 29))
  have H := Has.box w 29 h24 (by omega)
  have hmm := @run_makeMap Try.prog
  rw [row_ints]
  go_enter Try.func14, Try.ntmps14
  go_wp2_with (refine load_has rfl 29 _ rfl _ rfl ?_ 24 ?_ _ Try.underlying29 rfl ?_ ?_; rotate_left; (· (repeat (first | (with_reducible assumption) | ((with_reducible refine Has.box _ _ ?_ ?_) <;> (first | assumption | decide)) | (with_reducible refine Has.alloc ?_ _) | ((with_reducible refine Has.putOther ?_ _ _ ?_); rotate_left; omega; skip) | ((with_reducible refine Has.below ?_ ?_); rotate_left; assumption)))); (· kernel_rfl))
  refine (isRack_any ns _ h24).mono ?_
  rintro e w1 ⟨rfl, b1⟩
  replace H := H.below b1
  replace HB := Lib.hid (HB.out.call b1)
  clear b1
  by_cases hv : vR ns = true
  · rw [hv]
    have HV := Lib.hid hv
    have HL := Lib.hid h24
    have E0 := Lib.hid (show ordersA ns = chainF (tub ns) 6 by unfold ordersA; rw [if_pos hv])
    have M0 : Hid (OwnV Try.prog (w1.alloc (.map #[] 0)) 71 w1.heap.size 0 4 (cntV ns 0)) := Lib.hid ((OwnV.made w1 Try.prog 71 4).as (fun l _ => by unfold cntV cAt; rfl))
    have hg0 := HB.out.size
    replace H := H.alloc (.map #[] 0)
    replace HB := Lib.hid (HB.out.alloc (.map #[] 0))
    clear hv
    go_wp2_with (first | (refine load_has rfl 23 _ rfl _ rfl ?_ 24 ?_ _ Try.underlying23 rfl ?_ ?_; rotate_left; (· (repeat (first | (with_reducible assumption) | ((with_reducible refine Has.box _ _ ?_ ?_) <;> (first | assumption | decide)) | (with_reducible refine Has.alloc ?_ _) | ((with_reducible refine Has.putOther ?_ _ _ ?_); rotate_left; omega; skip) | ((with_reducible refine Has.below ?_ ?_); rotate_left; assumption)))); (· kernel_rfl)))
    clear h24 H hmm
    generalize w1.alloc (.map #[] 0) = W at *
    generalize w1.heap.size = g0 at *
    go_loopg [5, 14] 6 (fun gk v i wr => ∃ (k n : Nat), gk = 6 - k ∧ k ≤ 6 ∧ i = .int .i64 k ∧ n ≤ k ∧ v = .int .i64 (chainF (tub ns) k : Nat) ∧ Hid (OwnV Try.prog wr 71 g0 n 4 (cntV ns k)) ∧ Hid (Kept w wr))
    case atStart => exact ⟨0, 0, rfl, by omega, rfl, by omega, rfl, M0, HB⟩
    case round =>
      obtain ⟨k, n, rfl, hk, rfl, hn, rfl, GM, GB⟩ := hrel
      by_cases hk6 : k < 6
      · have hki : (k : Int) < 6 := by omega
        have i0 := indexTub ns k hk6
        have h4 := tub_len ns k HL.out hk6
        have l1 : (ints (tub ns k)).length = 4 := by rw [ints_len]; exact h4
        have hi1 : (Try.prog.info? 22).map (·.size) = some (ints (tub ns k)).length := by rw [l1]; kernel_rfl
        have KM := Lib.hid (GM.out.alloc (.cells (ints (tub ns k)).toArray 22))
        have KB := Lib.hid (GB.out.alloc (.cells (ints (tub ns k)).toArray 22))
        have KT := Has.box wr 22 h4 (by omega)
        have hne := GM.out.lt
        have KEY := Lib.hid (tub_key HL.out HV.out hk6)
        have ROW := Lib.hid (tub_row HL.out HV.out hk6)
        have CB := (chain_prod (tub ns)).2 k hk6
        have CL := cAt_le ns k (tub ns k)
        have CS : chainF (tub ns) (k + 1) = chainF (tub ns) k * (k + 1) / (cAt ns k (tub ns k) + 1) := rfl
        have PUT := Lib.hid (cntV_put ns k)
        go_wp2_with (refine store_new rfl 22 _ _ rfl _ _ _ rfl _ rfl _ rfl rfl ?_ ?_ ?_; (· (first | assumption | rfl)); (· kernel_rfl))
        clear i0 GM GB
        generalize wr.alloc (.cells (ints (tub ns k)).toArray 22) = Wk at *
        generalize wr.heap.size = g7 at *
        have hne2 : some g7 ≠ some g0 := fun e => by have e := Option.some.inj e; omega
        refine wp_region_held_drew (S := fun w' => Has w' g7 (tub ns k) 4) (by kernel_rfl) KT.drew (fun hHeld => ?_)
        have DM := Lib.hid (KM.out.drewN 1)
        have DB := Lib.hid (KB.out.drewN 1)
        have DT := KT.drew
        clear KM KB KT
        change Hid (OwnV _ (World.drew Wk) _ _ _ _ _) at DM
        change Hid (Kept _ (World.drew Wk)) at DB
        generalize hWD : World.drew Wk = WD at *
        clear hWD
        (refine wpAnyH_take (i := 0) (v := ?_) rfl (by kernel_rfl) (by kernel_rfl) (by kernel_rfl) (fun _ _ _ h => h) (Or.inl ⟨by rfl, ?_⟩) hHeld ?_; rotate_left; (· (intro w' hSw; go_simp; try with_reducible rfl)); (try simp only [List.getElem_toArray, List.getElem_cons_zero, List.getElem_cons_succ, Act.put, List.setIfInBounds_toArray, List.set_cons_zero, List.set_cons_succ]))
        (refine wpAnyH_take (i := 1) (v := _) rfl (by kernel_rfl) (by kernel_rfl) (by kernel_rfl) (fun _ _ _ h => h) (yieldsIf_load_mid (by rfl) 22 _ rfl _ _ rfl (ints (tub ns k)) _ (fun w' hSw => hSw.holds.range) Try.underlying22 rfl (hi1)) hHeld ?_; (try simp only [List.getElem_toArray, List.getElem_cons_zero, List.getElem_cons_succ, Act.put, List.setIfInBounds_toArray, List.set_cons_zero, List.set_cons_succ]))
        obtain ⟨st, w2, r1, r2, r3, r4⟩ := DM.out.entry tubeLaw Try.underlying47 zeroInt (by unfold maxLen; omega) ROW.out KEY.out
        have W1 : IntKind.i64.wrap (((cAt ns k (tub ns k) : Nat) : Int) + 1) = ((cAt ns k (tub ns k) + 1 : Nat) : Int) := wrap_small (cAt ns k (tub ns k) + 1) (by omega)
        obtain ⟨w3, s1, s2, s3⟩ := r4 (.int .i64 ((cAt ns k (tub ns k) + 1 : Nat) : Int))
        rw [cntV_get] at r1 r2
        clear r4
        have T2 := DT.grownNo r3 hne2
        have T3 := DT.grownNo s3 hne2
        have B3 := Lib.hid (DB.out.grown s3 DB.out.size (fun j hj => by have hj := Option.some.inj hj; omega))
        refine wpAnyH_ready (rs := [2, 4]) (by kernel_rfl) (by simp) ?_
        refine AllReadyH.cons (o := _) rfl (fun K hK => ?_) (AllReadyH.cons (o := _) rfl (fun K hK => ?_) AllReadyH.nil)
        · (simp only [List.getElem_toArray, List.getElem_cons_zero, List.getElem_cons_succ, Region.wanted, if_true])
          refine wp_lookV _ _ 47 rfl tubeKeyed Try.underlying47 (zeroInt _) DM.out rfl (.agg (ints (tub ns k)).toArray) rfl (tub ns k) ROW.out KEY.out ?_
          rw [cntV_get]
          (try simp only [List.getElem_toArray, List.getElem_cons_zero, List.getElem_cons_succ, Act.put, List.setIfInBounds_toArray, List.set_cons_zero, List.set_cons_succ])
          refine hK.out _ _ hHeld (fun hHeld => ?_)
          clear hK K
          (refine wpAnyH_take (i := 3) (v := ?_) rfl (by kernel_rfl) (by kernel_rfl) (by kernel_rfl) (fun _ _ _ h => h) (Or.inl ⟨by rfl, ?_⟩) hHeld ?_; rotate_left; (· (intro w' hSw; go_simp; try with_reducible rfl)); (try simp only [List.getElem_toArray, List.getElem_cons_zero, List.getElem_cons_succ, Act.put, List.setIfInBounds_toArray, List.set_cons_zero, List.set_cons_succ]))
          (refine wpAnyH_ready (rs := [4]) (by kernel_rfl) (by simp) ?_; refine AllReadyH.cons (o := _) rfl (fun K hK => ?_) AllReadyH.nil; (simp only [List.getElem_toArray, List.getElem_cons_zero, List.getElem_cons_succ, Region.wanted, if_true]))
          refine wp_entryV _ _ 47 rfl g0 rfl _ rfl _ r1 ?_
          (try simp only [List.getElem_toArray, List.getElem_cons_zero, List.getElem_cons_succ, Act.put, List.setIfInBounds_toArray, List.set_cons_zero, List.set_cons_succ])
          refine hK.out _ _ T2 (fun hHeld => ?_)
          clear hK K
          (refine wpAnyH_take (i := 5) (v := ?_) rfl (by kernel_rfl) (by kernel_rfl) (by kernel_rfl) (fun _ _ _ h => h) (Or.inl ⟨by rfl, ?_⟩) hHeld ?_; rotate_left; (· (intro w' hSw; go_simp; try with_reducible rfl)); (try simp only [List.getElem_toArray, List.getElem_cons_zero, List.getElem_cons_succ, Act.put, List.setIfInBounds_toArray, List.set_cons_zero, List.set_cons_succ]))
          (refine wpAnyH_ready (rs := [6]) (by kernel_rfl) (by simp) ?_; refine AllReadyH.cons (o := _) rfl (fun K hK => ?_) AllReadyH.nil; (simp only [List.getElem_toArray, List.getElem_cons_zero, List.getElem_cons_succ, Region.wanted, if_true]))
          refine wp_entryStoreV _ _ _ 47 rfl g0 rfl (goInt st) (.int .i64 ((cAt ns k (tub ns k) + 1 : Nat) : Int)) rfl rfl s1 ?_
          (try simp only [List.getElem_toArray, List.getElem_cons_zero, List.getElem_cons_succ, Act.put, List.setIfInBounds_toArray, List.set_cons_zero, List.set_cons_succ])
          refine hK.out _ _ T3 (fun hHeld => ?_)
          clear hK K r1 r2 r3 s1 s3 DM DB DT T2 T3
          refine wpAnyH_done (by kernel_rfl) ?_ _
          have HT := hHeld
          clear hHeld
          have KM3 := Lib.hid (s2.as (fun l _ => PUT.out l))
          have c1 : (cntV ns (k + 1) (tub ns k)).getD (.int .i64 0) = .int .i64 ((cAt ns k (tub ns k) + 1 : Nat) : Int) := by rw [cntV_get, cAt_succ, if_pos rfl]
          have HC1 := Lib.hid c1
          have hnz : ((cAt ns k (tub ns k) + 1 : Nat) : Int) ≠ 0 := by omega
          have HCS : Hid (((chainF (tub ns) k : Nat) : Int) * ((k : Int) + 1) / (((cAt ns k (tub ns k) : Nat) : Int) + 1) = ((chainF (tub ns) (k + 1) : Nat) : Int)) := Lib.hid (by rw [CS, Int.natCast_ediv, Int.natCast_mul]; rfl)
          have hn2 : (if (cntV ns k (tub ns k)).isSome = true then n else n + 1) ≤ k + 1 := by split <;> omega
          clear s2 c1 CS CL
          generalize (if (cntV ns k (tub ns k)).isSome = true then n else n + 1) = n2 at *
          have bch : (chainF (tub ns) k : Nat) * ((k : Int) + 1) ≤ 5000 := by
            have h1 : ((chainF (tub ns) k : Nat) : Int) * ((k : Int) + 1) ≤ 720 * 6 := Int.mul_le_mul (by omega) (by omega) (by omega) (by omega)
            omega
          have bch0 : 0 ≤ ((chainF (tub ns) k : Nat) : Int) * ((k : Int) + 1) := Int.mul_nonneg (by omega) (by omega)
          go_wp2_with (first | (refine lookupV rfl _ _ 47 rfl 71 3 tubeKeyed Try.underlying47 (zeroInt _) g0 _ 4 _ KM3.out rfl (.agg (ints (tub ns k)).toArray) rfl (tub ns k) ROW.out KEY.out ?_; rw [HC1.out]) | (refine load_has rfl 22 _ rfl _ rfl ?_ 4 ?_ _ Try.underlying22 rfl ?_ ?_; rotate_left; (· (repeat (first | (with_reducible assumption) | ((with_reducible refine Has.box _ _ ?_ ?_) <;> (first | assumption | decide)) | (with_reducible refine Has.alloc ?_ _) | ((with_reducible refine Has.putOther ?_ _ _ ?_); rotate_left; omega; skip) | ((with_reducible refine Has.below ?_ ?_); rotate_left; assumption)))); (· kernel_rfl)))
          go_roundg (6 - (k + 1))
          case rel => exact ⟨k + 1, n2, rfl, by omega, by go_num, hn2, by rw [HCS.out], KM3, B3⟩
          case measure => omega
        · (simp only [List.getElem_toArray, List.getElem_cons_zero, List.getElem_cons_succ, Region.wanted, if_true])
          refine wp_entryV _ _ 47 rfl g0 rfl _ rfl _ r1 ?_
          (try simp only [List.getElem_toArray, List.getElem_cons_zero, List.getElem_cons_succ, Act.put, List.setIfInBounds_toArray, List.set_cons_zero, List.set_cons_succ])
          refine hK.out _ _ T2 (fun hHeld => ?_)
          clear hK K
          (refine wpAnyH_take (i := 5) (v := ?_) rfl (by kernel_rfl) (by kernel_rfl) (by kernel_rfl) (fun _ _ _ h => h) (Or.inl ⟨by rfl, ?_⟩) hHeld ?_; rotate_left; (· (intro w' hSw; go_simp; try with_reducible rfl)); (try simp only [List.getElem_toArray, List.getElem_cons_zero, List.getElem_cons_succ, Act.put, List.setIfInBounds_toArray, List.set_cons_zero, List.set_cons_succ]))
          (refine wpAnyH_ready (rs := [2]) (by kernel_rfl) (by simp) ?_; refine AllReadyH.cons (o := _) rfl (fun K hK => ?_) AllReadyH.nil; (simp only [List.getElem_toArray, List.getElem_cons_zero, List.getElem_cons_succ, Region.wanted, if_true]))
          refine wp_lookV _ _ 47 rfl tubeKeyed Try.underlying47 (zeroInt _) r2 rfl (.agg (ints (tub ns k)).toArray) rfl (tub ns k) ROW.out KEY.out ?_
          rw [show (mapPut (cntV ns k) (tub ns k) (.int .i64 (cAt ns k (tub ns k) : Nat)) (tub ns k)).getD (.int .i64 0) = .int .i64 (cAt ns k (tub ns k) : Nat) by unfold mapPut; rw [if_pos rfl]; rfl]
          (try simp only [List.getElem_toArray, List.getElem_cons_zero, List.getElem_cons_succ, Act.put, List.setIfInBounds_toArray, List.set_cons_zero, List.set_cons_succ])
          refine hK.out _ _ hHeld (fun hHeld => ?_)
          clear hK K
          (refine wpAnyH_take (i := 3) (v := ?_) rfl (by kernel_rfl) (by kernel_rfl) (by kernel_rfl) (fun _ _ _ h => h) (Or.inl ⟨by rfl, ?_⟩) hHeld ?_; rotate_left; (· (intro w' hSw; go_simp; try with_reducible rfl)); (try simp only [List.getElem_toArray, List.getElem_cons_zero, List.getElem_cons_succ, Act.put, List.setIfInBounds_toArray, List.set_cons_zero, List.set_cons_succ]))
          (refine wpAnyH_ready (rs := [6]) (by kernel_rfl) (by simp) ?_; refine AllReadyH.cons (o := _) rfl (fun K hK => ?_) AllReadyH.nil; (simp only [List.getElem_toArray, List.getElem_cons_zero, List.getElem_cons_succ, Region.wanted, if_true]))
          refine wp_entryStoreV _ _ _ 47 rfl g0 rfl (goInt st) (.int .i64 ((cAt ns k (tub ns k) + 1 : Nat) : Int)) rfl rfl s1 ?_
          (try simp only [List.getElem_toArray, List.getElem_cons_zero, List.getElem_cons_succ, Act.put, List.setIfInBounds_toArray, List.set_cons_zero, List.set_cons_succ])
          refine hK.out _ _ T3 (fun hHeld => ?_)
          clear hK K r1 r2 r3 s1 s3 DM DB DT T2 T3
          refine wpAnyH_done (by kernel_rfl) ?_ _
          have HT := hHeld
          clear hHeld
          have KM3 := Lib.hid (s2.as (fun l _ => PUT.out l))
          have c1 : (cntV ns (k + 1) (tub ns k)).getD (.int .i64 0) = .int .i64 ((cAt ns k (tub ns k) + 1 : Nat) : Int) := by rw [cntV_get, cAt_succ, if_pos rfl]
          have HC1 := Lib.hid c1
          have hnz : ((cAt ns k (tub ns k) + 1 : Nat) : Int) ≠ 0 := by omega
          have HCS : Hid (((chainF (tub ns) k : Nat) : Int) * ((k : Int) + 1) / (((cAt ns k (tub ns k) : Nat) : Int) + 1) = ((chainF (tub ns) (k + 1) : Nat) : Int)) := Lib.hid (by rw [CS, Int.natCast_ediv, Int.natCast_mul]; rfl)
          have hn2 : (if (cntV ns k (tub ns k)).isSome = true then n else n + 1) ≤ k + 1 := by split <;> omega
          clear s2 c1 CS CL
          generalize (if (cntV ns k (tub ns k)).isSome = true then n else n + 1) = n2 at *
          have bch : (chainF (tub ns) k : Nat) * ((k : Int) + 1) ≤ 5000 := by
            have h1 : ((chainF (tub ns) k : Nat) : Int) * ((k : Int) + 1) ≤ 720 * 6 := Int.mul_le_mul (by omega) (by omega) (by omega) (by omega)
            omega
          have bch0 : 0 ≤ ((chainF (tub ns) k : Nat) : Int) * ((k : Int) + 1) := Int.mul_nonneg (by omega) (by omega)
          go_wp2_with (first | (refine lookupV rfl _ _ 47 rfl 71 3 tubeKeyed Try.underlying47 (zeroInt _) g0 _ 4 _ KM3.out rfl (.agg (ints (tub ns k)).toArray) rfl (tub ns k) ROW.out KEY.out ?_; rw [HC1.out]) | (refine load_has rfl 22 _ rfl _ rfl ?_ 4 ?_ _ Try.underlying22 rfl ?_ ?_; rotate_left; (· (repeat (first | (with_reducible assumption) | ((with_reducible refine Has.box _ _ ?_ ?_) <;> (first | assumption | decide)) | (with_reducible refine Has.alloc ?_ _) | ((with_reducible refine Has.putOther ?_ _ _ ?_); rotate_left; omega; skip) | ((with_reducible refine Has.below ?_ ?_); rotate_left; assumption)))); (· kernel_rfl)))
          go_roundg (6 - (k + 1))
          case rel => exact ⟨k + 1, n2, rfl, by omega, by go_num, hn2, by rw [HCS.out], KM3, B3⟩
          case measure => omega
      · obtain rfl : k = 6 := by omega
        go_wp2_with fail
        go_ret2
        exact ⟨by rw [HV.out, E0.out]; rfl, GB.out⟩
  · have hf : vR ns = false := by simpa using hv
    have E0 := Lib.hid (show ordersA ns = 0 by unfold ordersA; rw [if_neg hv])
    rw [hf]
    have HF := Lib.hid hf
    clear hv hf
    go_wp2_with fail
    go_ret2
    exact ⟨by rw [HF.out, E0.out]; rfl, HB.out⟩
end Go.Proofs.Ytjbphpjmpjkclab.base
