/-
  How many racks pours by a rule lead to, on the program's side, walked.
-/
import Derived.Test.YtcedpjjfcfeokabRbhI
import Derived.Carry
namespace Go.Proofs.Ytcedpjjfcfeokab.base
open Go.ChangeShapes Go.WideShapes Go.ChangeAt Go.RowKit Go.Maps
set_option linter.unusedVariables false
set_option linter.unusedSimpArgs false

theorem Gr.one8 (w : World) (b : Nat) (t : TypeId) (x : List Int) (hx : x.length = 24) (hb : b ≤ w.heap.size) : Gr (w.alloc (.cells (ints x).toArray t)) b t 24 (.slice (some ⟨w.heap.size, 0, Option.none⟩) 1 1) [x] := by
  have := World.ownsRow_lit (base := b) (e := t) (size := 24) w (ints x).toArray 1 hb (by unfold maxLen; omega) (by simp [ints_len, hx])
  exact ⟨by simpa using this, fun l hl => by rw [List.mem_singleton.1 hl]; exact hx⟩
section
variable {P : Program} {w : World} {o : Oper} {a : Act} {K : Act → World → Prop} {Q : Exit → Act → World → Prop}
theorem wp_insertV (m x v : Operand) (t : TypeId) (hop : o.op = Op.insert t m x v) (K' e : TypeId) (KL : Keyed P K') (ht : P.underlying t = some (.map K' e))
    (b n L : Nat) (f : List Int → Option Value) (hown : OwnV P w K' b n L f) (hn : n < maxLen) (hm : a.eval m = .map (some b)) (key val : Value) (hx : a.eval x = key) (hv : a.eval v = val) (r : List Int) (hr : KeyRow L r) (hkey : keyOf P K' key = some (keyL r))
    (h : ∀ w', OwnV P w' K' b (if (f r).isSome then n else n + 1) L (mapPut f r val) → w.grownBy w' (some b) → K (a.put o.dst undef) w') : Oper.wp P o a w K Q := by
  obtain ⟨w', hrun, r1, r2⟩ := hown.store (val := val) KL ht hn hr hkey
  unfold Oper.wp
  simp only [execOp, hop, hm, hx, hv, hrun, Result.andThen, Sem.run_bind, Result.andThen_ok, Sem.run_pure]
  exact h w' r1 r2
end
theorem OwnV.seen1 {w : World} {mb : Nat} {r : List Int} (h : OwnV Try.prog w 30 mb (if ((fun _ => none : List Int → Option Value) r).isSome then 0 else 0 + 1) 24 (mapPut (fun _ => none) r (.bool true))) : OwnV Try.prog w 30 mb 1 24 (seenR [r]) := by
  refine OwnV.as (m := mapPut (fun _ => none) r (.bool true)) h (fun l _ => ?_)
  unfold mapPut seenR
  by_cases e : l = r
  · subst e; rw [if_pos rfl, if_pos (List.mem_singleton.2 rfl)]
  · rw [if_neg e, if_neg (fun h => e (List.mem_singleton.1 h))]

/-- How many racks at most n pours lead to. -/
def reOk (ns ds : List Int) (x n : Int) : Bool := byOk ns ds x && decide (0 ≤ n ∧ n ≤ 2)
def reA (ns ds : List Int) (x n : Int) : Int := if reOk ns ds x n = true then (((rkP ds x ns n.toNat).1.length : Nat) : Int) else 0

set_option maxHeartbeats 6400000 in
set_option maxRecDepth 100000 in
theorem implReach (ns ds : List Int) (x n : Int) (w : World) (h24 : ns.length = 24) (h6 : ds.length = 6) :
    Calls Try.prog 20 #[row ns, row ds, .int .i64 x, .int .i64 n] w fun e w' => e = .returned (.tuple #[.int .i64 (reA ns ds x n), .bool (reOk ns ds x n)]) ∧ Kept w w' := by
  have HB := Lib.hid (((kept_refl w).alloc (.cells (ints ns).toArray 30)).alloc (.cells (ints ds).toArray 26))
  have H := (Has.box w 30 h24 (by omega)).alloc (.cells (ints ds).toArray 26)
  have D := (Has.box (w.alloc (.cells (ints ns).toArray 30)) 26 h6 (by omega)).at (size1 _ _)
  have lg := pgR_len ns ds x h6
  have hiR : (Try.prog.info? 30).map (·.size) = some (ints ns).length := by rw [ints_len, h24]; kernel_rfl
  have HIR := Lib.hid hiR
  clear hiR
  rw [row_ints, row_ints]
  go_enter Try.func20, Try.ntmps20
  go_wp2_with (first | (refine load_has rfl 30 _ rfl _ rfl ?_ 24 ?_ _ Try.underlying30 rfl ?_ ?_; rotate_left; (· (repeat (first | (with_reducible assumption) | ((with_reducible refine Has.box _ _ ?_ ?_) <;> (first | assumption | decide)) | (with_reducible refine Has.alloc ?_ _) | ((with_reducible refine Has.putOther ?_ _ _ ?_); rotate_left; omega; skip) | ((with_reducible refine Has.below ?_ ?_); rotate_left; assumption)))); (· kernel_rfl)) | (refine load_has rfl 26 _ rfl _ rfl ?_ 6 ?_ _ Try.underlying26 rfl ?_ ?_; rotate_left; (· (repeat (first | (with_reducible assumption) | ((with_reducible refine Has.box _ _ ?_ ?_) <;> (first | assumption | decide)) | (with_reducible refine Has.alloc ?_ _) | ((with_reducible refine Has.putOther ?_ _ _ ?_); rotate_left; omega; skip) | ((with_reducible refine Has.below ?_ ?_); rotate_left; assumption)))); (· kernel_rfl)))
  refine (pouringBy_any ns ds x _ h24 h6).mono ?_
  rintro e w1 ⟨rfl, b1⟩
  have O1 : ∀ v ∈ pgR ns ds x, v.oneCell' = true := by
    unfold pgR; split
    · exact pg_one ds _ rfl
    · exact pg_one _ _ rfl
  have H1 := (H.below b1).alloc (.cells (pgR ns ds x).toArray 63)
  have G1 := Bk.box w1 (pgR ns ds x) 63
  have HB1 := Lib.hid ((HB.out.call b1).alloc (.cells (pgR ns ds x).toArray 63))
  clear H D HB b1
  generalize hg : pgR ns ds x = g at *
  by_cases hok : byOk ns ds x = true
  · obtain rfl : g = pgA ds x := by rw [← hg]; unfold pgR; rw [if_pos hok]
    clear hg
    have OK := Lib.hid hok
    rw [hok]
    clear hok
    by_cases hn : 0 ≤ n ∧ n ≤ 2
    · have R := Lib.hid (show reOk ns ds x n = true by unfold reOk; rw [OK.out, decide_eq_true hn]; rfl)
      have A := Lib.hid (show reA ns ds x n = (((rkP ds x ns n.toNat).1.length : Nat) : Int) by unfold reA; rw [if_pos R.out])
      obtain ⟨k, rfl⟩ : ∃ k : Nat, n = (k : Int) := ⟨n.toNat, by omega⟩
      rw [Int.toNat_natCast] at A
      have hk2 : k ≤ 2 := by omega
      have hki : (k : Int) ≤ 2 := by omega
      have hk0 : (0 : Int) ≤ (k : Int) := by omega
      have n1 : decide ((k : Int) < 0) = false := by simp
      have n2 : decide ((k : Int) > 2) = false := by simp; omega
      have n3 : decide ((2 : Int) < (k : Int)) = false := by simp; omega
      have n4 : decide (2 < k) = false := by simp; omega
      clear hn
      have hrv : ruleV x = true := (Bool.and_eq_true_iff.1 OK.out).2
      have gR : GoodR ds ns := ⟨h24, (Bool.and_eq_true_iff.1 OK.out).1⟩
      have GOOD := Lib.hid (rk_good (x := x) gR)
      have LEN := Lib.hid (rk_len ds x ns)
      have ROW := Lib.hid (rack_row8 h24 (fit_of gR.fit).1)
      have KEY := Lib.hid (rack_key8 ROW.out)
      clear gR
      go_wp2_with (first | (refine store_newbk rfl 63 _ _ rfl _ _ _ rfl _ rfl (pgA ds x) rfl rfl ?_ O1 ?_ ?_; (· exact lg); (· kernel_rfl)))
      obtain ⟨pb, hpb⟩ : ∃ pb, w1.heap.size = pb := ⟨_, rfl⟩
      rw [hpb] at G1 ⊢
      clear O1 n1 n2 n3 n4
      generalize w1.alloc (.cells (pgA ds x).toArray 63) = W at *
      clear hpb
      go_cut [12, 13] from 31 to 35 (fun s12 s13 wx => ∃ (lv : Value) (mb : Nat), s12 = lv ∧ s13 = .map (some mb) ∧ Bk wx pb (pgA ds x) 63 ∧ Hid (Gr wx 0 30 24 lv [ns]) ∧ Hid (OwnV Try.prog wx 30 mb 1 24 (seenR [ns])) ∧ Hid (∀ z, lv.ownBlock = some z → z ≠ mb) ∧ Hid (w.heap.size ≤ mb) ∧ Hid (pb ≠ mb) ∧ Hid (Kept w wx))
      case first =>
        have hmm := @run_makeMap Try.prog
        have BK := G1.drew
        have HR := H1.drew
        have KB := Lib.hid (keptDrew8 HB1.out)
        have bl0 := BK.lt
        have rl0 := HR.lt
        have kl0 := KB.out.size
        refine wp_region_held_drew (S := fun w' => Has w' w.heap.size ns 24) (by kernel_rfl) HR (fun hHeld => ?_)
        generalize W.drew = V0 at *
        (refine wpAnyH_take (i := 0) (v := _) rfl (by kernel_rfl) (by kernel_rfl) (by kernel_rfl) (fun _ _ _ h => h) (yieldsIf_load_mid (by rfl) 30 _ rfl _ _ rfl (ints ns) _ (fun w' hSw => hSw.holds.range) Try.underlying30 rfl (HIR.out)) hHeld ?_; (try simp only [List.getElem_toArray, List.getElem_cons_zero, List.getElem_cons_succ, Act.put, List.setIfInBounds_toArray, List.set_cons_zero, List.set_cons_succ]))
        (refine wpAnyH_take (i := 3) (v := _) rfl (by kernel_rfl) (by kernel_rfl) (by kernel_rfl) (fun _ _ _ h => h) (yieldsIf_load_mid (by rfl) 30 _ rfl _ _ rfl (ints ns) _ (fun w' hSw => hSw.holds.range) Try.underlying30 rfl (HIR.out)) hHeld ?_; (try simp only [List.getElem_toArray, List.getElem_cons_zero, List.getElem_cons_succ, Act.put, List.setIfInBounds_toArray, List.set_cons_zero, List.set_cons_succ]))
        refine wpAnyH_ready (rs := [1, 2]) (by kernel_rfl) (by simp) ?_
        refine AllReadyH.cons (o := _) rfl (fun K hK => ?_) (AllReadyH.cons (o := _) rfl (fun K hK => ?_) AllReadyH.nil)
        · (simp only [List.getElem_toArray, List.getElem_cons_zero, List.getElem_cons_succ, Region.wanted, if_true])
          refine wp_slice1 66 30 _ rfl 24 192 Try.underlying66 (by kernel_rfl) (by omega) (by omega) ns rfl h24 ?_
          (try simp only [List.getElem_toArray, List.getElem_cons_zero, List.getElem_cons_succ, Act.put, List.setIfInBounds_toArray, List.set_cons_zero, List.set_cons_succ])
          refine hK.out _ _ (hHeld.alloc _) (fun hHeld => ?_)
          clear hK K
          have GL := Lib.hid (Gr.one8 V0 0 30 ns h24 (Nat.zero_le _))
          replace BK := BK.alloc (.cells (ints ns).toArray 30)
          have cl := BK.lt
          replace KB := Lib.hid (KB.out.alloc (.cells (ints ns).toArray 30))
          (refine wpAnyH_take (i := 6) (v := ?_) rfl (by kernel_rfl) (by kernel_rfl) (by kernel_rfl) (fun _ _ _ h => h) (Or.inl ⟨by rfl, ?_⟩) hHeld ?_; rotate_left; (· (intro w' hSw; go_simp; try with_reducible rfl)); (try simp only [List.getElem_toArray, List.getElem_cons_zero, List.getElem_cons_succ, Act.put, List.setIfInBounds_toArray, List.set_cons_zero, List.set_cons_succ]))
          generalize hV1 : V0.alloc (.cells (ints ns).toArray 30) = V1 at *
          have S1 := Lib.hid (show V1.heap.size = V0.heap.size + 1 by rw [← hV1]; simp)
          clear hV1
          (refine wpAnyH_ready (rs := [2]) (by kernel_rfl) (by simp) ?_; refine AllReadyH.cons (o := _) rfl (fun K hK => ?_) AllReadyH.nil; (simp only [List.getElem_toArray, List.getElem_cons_zero, List.getElem_cons_succ, Region.wanted, if_true]))
          go_simp
          refine hK.out _ _ (hHeld.alloc _) (fun hHeld => ?_)
          clear hK K
          have GM := Lib.hid (OwnV.made V1 Try.prog 30 24)
          replace KB := Lib.hid (KB.out.alloc (.map #[] 0))
          have bl := BK.lt
          replace BK := BK.alloc (.map #[] 0)
          have sl := Lib.hid (fun z hz => (GL.out.own z hz).2)
          replace GL := Lib.hid (GL.out.alloc (.map #[] 0))
          (refine wpAnyH_ready (rs := [4]) (by kernel_rfl) (by simp) ?_; refine AllReadyH.cons (o := _) rfl (fun K hK => ?_) AllReadyH.nil; (simp only [List.getElem_toArray, List.getElem_cons_zero, List.getElem_cons_succ, Region.wanted, if_true]))
          refine wp_insertV _ _ _ 67 rfl 30 4 rackKeyed8 Try.underlying67 (V1.heap.size) 0 24 _ GM.out (by unfold maxLen; omega) rfl (.agg (ints ns).toArray) (.bool true) rfl rfl ns ROW.out KEY.out ?_
          intro w4 hM hgM
          (try simp only [List.getElem_toArray, List.getElem_cons_zero, List.getElem_cons_succ, Act.put, List.setIfInBounds_toArray, List.set_cons_zero, List.set_cons_succ])
          refine hK.out _ _ (hHeld.grownNo hgM (fun e => by have e := Option.some.inj e; have := S1.out; omega)) (fun hHeld => ?_)
          clear hK K
          replace GM := Lib.hid hM.seen1
          replace BK := BK.grown hgM (fun e => by have e := Option.some.inj e; have := S1.out; omega)
          replace KB : Hid (Kept w w4) := Lib.hid (KB.out.grown hgM KB.out.size (fun j hj => by have hj := Option.some.inj hj; have := S1.out; omega))
          replace GL := Lib.hid (GL.out.kept hgM (fun z hz e => by have e := Option.some.inj e; have := sl.out z hz; have := S1.out; omega))
          (refine wpAnyH_take (i := 5) (v := ?_) rfl (by kernel_rfl) (by kernel_rfl) (by kernel_rfl) (fun _ _ _ h => h) (Or.inl ⟨by rfl, ?_⟩) hHeld ?_; rotate_left; (· (intro w' hSw; go_simp; try with_reducible rfl)); (try simp only [List.getElem_toArray, List.getElem_cons_zero, List.getElem_cons_succ, Act.put, List.setIfInBounds_toArray, List.set_cons_zero, List.set_cons_succ])); (refine wpAnyH_take (i := 7) (v := ?_) rfl (by kernel_rfl) (by kernel_rfl) (by kernel_rfl) (fun _ _ _ h => h) (Or.inl ⟨by rfl, ?_⟩) hHeld ?_; rotate_left; (· (intro w' hSw; go_simp; try with_reducible rfl)); (try simp only [List.getElem_toArray, List.getElem_cons_zero, List.getElem_cons_succ, Act.put, List.setIfInBounds_toArray, List.set_cons_zero, List.set_cons_succ]))
          refine wpAnyH_done (by kernel_rfl) ?_ _
          clear hHeld hmm
          go_wp2_with fail
          go_meet
          case rel => exact ⟨_, V1.heap.size, rfl, rfl, BK, GL, GM, Lib.hid (fun z hz => by have := Option.some.inj (show some V0.heap.size = some z from hz); have := S1.out; omega), Lib.hid (by have := S1.out; omega), Lib.hid (by have := S1.out; omega), KB⟩
        · (simp only [List.getElem_toArray, List.getElem_cons_zero, List.getElem_cons_succ, Region.wanted, if_true])
          go_simp
          refine hK.out _ _ (hHeld.alloc _) (fun hHeld => ?_)
          clear hK K
          have GM := Lib.hid (OwnV.made V0 Try.prog 30 24)
          replace KB := Lib.hid (KB.out.alloc (.map #[] 0))
          have bl := BK.lt
          replace BK := BK.alloc (.map #[] 0)
          generalize hV1 : V0.alloc (.map #[] 0) = V1 at *
          have S1 := Lib.hid (show V1.heap.size = V0.heap.size + 1 by rw [← hV1]; simp)
          clear hV1
          refine wpAnyH_ready (rs := [1, 4]) (by kernel_rfl) (by simp) ?_
          refine AllReadyH.cons (o := _) rfl (fun K hK => ?_) (AllReadyH.cons (o := _) rfl (fun K hK => ?_) AllReadyH.nil)
          · (simp only [List.getElem_toArray, List.getElem_cons_zero, List.getElem_cons_succ, Region.wanted, if_true])
            refine wp_slice1 66 30 _ rfl 24 192 Try.underlying66 (by kernel_rfl) (by omega) (by omega) ns rfl h24 ?_
            (try simp only [List.getElem_toArray, List.getElem_cons_zero, List.getElem_cons_succ, Act.put, List.setIfInBounds_toArray, List.set_cons_zero, List.set_cons_succ])
            refine hK.out _ _ (hHeld.alloc _) (fun hHeld => ?_)
            clear hK K
            have GL := Lib.hid (Gr.one8 V1 0 30 ns h24 (Nat.zero_le _))
            replace BK := BK.alloc (.cells (ints ns).toArray 30)
            have cl := BK.lt
            replace KB := Lib.hid (KB.out.alloc (.cells (ints ns).toArray 30))
            (refine wpAnyH_take (i := 6) (v := ?_) rfl (by kernel_rfl) (by kernel_rfl) (by kernel_rfl) (fun _ _ _ h => h) (Or.inl ⟨by rfl, ?_⟩) hHeld ?_; rotate_left; (· (intro w' hSw; go_simp; try with_reducible rfl)); (try simp only [List.getElem_toArray, List.getElem_cons_zero, List.getElem_cons_succ, Act.put, List.setIfInBounds_toArray, List.set_cons_zero, List.set_cons_succ]))
            have ml := GM.out.lt
            replace GM := Lib.hid (GM.out.alloc (.cells (ints ns).toArray 30))
            generalize hV2 : V1.alloc (.cells (ints ns).toArray 30) = V2 at *
            clear hV2
            (refine wpAnyH_ready (rs := [4]) (by kernel_rfl) (by simp) ?_; refine AllReadyH.cons (o := _) rfl (fun K hK => ?_) AllReadyH.nil; (simp only [List.getElem_toArray, List.getElem_cons_zero, List.getElem_cons_succ, Region.wanted, if_true]))
            refine wp_insertV _ _ _ 67 rfl 30 4 rackKeyed8 Try.underlying67 (V0.heap.size) 0 24 _ GM.out (by unfold maxLen; omega) rfl (.agg (ints ns).toArray) (.bool true) rfl rfl ns ROW.out KEY.out ?_
            intro w4 hM hgM
            (try simp only [List.getElem_toArray, List.getElem_cons_zero, List.getElem_cons_succ, Act.put, List.setIfInBounds_toArray, List.set_cons_zero, List.set_cons_succ])
            refine hK.out _ _ (hHeld.grownNo hgM (fun e => by have e := Option.some.inj e; have := S1.out; omega)) (fun hHeld => ?_)
            clear hK K
            replace GM := Lib.hid hM.seen1
            replace BK := BK.grown hgM (fun e => by have e := Option.some.inj e; have := S1.out; omega)
            replace KB : Hid (Kept w w4) := Lib.hid (KB.out.grown hgM KB.out.size (fun j hj => by have hj := Option.some.inj hj; have := S1.out; omega))
            replace GL := Lib.hid (GL.out.kept hgM (fun z hz e => by have e := Option.some.inj e; have := Option.some.inj (show some V1.heap.size = some z from hz); have := S1.out; omega))
            (refine wpAnyH_take (i := 5) (v := ?_) rfl (by kernel_rfl) (by kernel_rfl) (by kernel_rfl) (fun _ _ _ h => h) (Or.inl ⟨by rfl, ?_⟩) hHeld ?_; rotate_left; (· (intro w' hSw; go_simp; try with_reducible rfl)); (try simp only [List.getElem_toArray, List.getElem_cons_zero, List.getElem_cons_succ, Act.put, List.setIfInBounds_toArray, List.set_cons_zero, List.set_cons_succ])); (refine wpAnyH_take (i := 7) (v := ?_) rfl (by kernel_rfl) (by kernel_rfl) (by kernel_rfl) (fun _ _ _ h => h) (Or.inl ⟨by rfl, ?_⟩) hHeld ?_; rotate_left; (· (intro w' hSw; go_simp; try with_reducible rfl)); (try simp only [List.getElem_toArray, List.getElem_cons_zero, List.getElem_cons_succ, Act.put, List.setIfInBounds_toArray, List.set_cons_zero, List.set_cons_succ]))
            refine wpAnyH_done (by kernel_rfl) ?_ _
            clear hHeld hmm
            go_wp2_with fail
            go_meet
            case rel => exact ⟨_, V0.heap.size, rfl, rfl, BK, GL, GM, Lib.hid (fun z hz => by have := Option.some.inj (show some V1.heap.size = some z from hz); have := S1.out; omega), Lib.hid (by have := S1.out; omega), Lib.hid (by have := S1.out; omega), KB⟩
          · (simp only [List.getElem_toArray, List.getElem_cons_zero, List.getElem_cons_succ, Region.wanted, if_true])
            refine wp_insertV _ _ _ 67 rfl 30 4 rackKeyed8 Try.underlying67 (V0.heap.size) 0 24 _ GM.out (by unfold maxLen; omega) rfl (.agg (ints ns).toArray) (.bool true) rfl rfl ns ROW.out KEY.out ?_
            intro w4 hM hgM
            (try simp only [List.getElem_toArray, List.getElem_cons_zero, List.getElem_cons_succ, Act.put, List.setIfInBounds_toArray, List.set_cons_zero, List.set_cons_succ])
            refine hK.out _ _ (hHeld.grownNo hgM (fun e => by have e := Option.some.inj e; have := S1.out; omega)) (fun hHeld => ?_)
            clear hK K
            replace GM := Lib.hid hM.seen1
            replace BK := BK.grown hgM (fun e => by have e := Option.some.inj e; have := S1.out; omega)
            replace KB : Hid (Kept w w4) := Lib.hid (KB.out.grown hgM KB.out.size (fun j hj => by have hj := Option.some.inj hj; have := S1.out; omega))
            (refine wpAnyH_take (i := 5) (v := ?_) rfl (by kernel_rfl) (by kernel_rfl) (by kernel_rfl) (fun _ _ _ h => h) (Or.inl ⟨by rfl, ?_⟩) hHeld ?_; rotate_left; (· (intro w' hSw; go_simp; try with_reducible rfl)); (try simp only [List.getElem_toArray, List.getElem_cons_zero, List.getElem_cons_succ, Act.put, List.setIfInBounds_toArray, List.set_cons_zero, List.set_cons_succ]))
            (refine wpAnyH_ready (rs := [1]) (by kernel_rfl) (by simp) ?_; refine AllReadyH.cons (o := _) rfl (fun K hK => ?_) AllReadyH.nil; (simp only [List.getElem_toArray, List.getElem_cons_zero, List.getElem_cons_succ, Region.wanted, if_true]))
            have s4 : V0.heap.size < w4.heap.size := GM.out.lt
            refine wp_slice1 66 30 _ rfl 24 192 Try.underlying66 (by kernel_rfl) (by omega) (by omega) ns rfl h24 ?_
            (try simp only [List.getElem_toArray, List.getElem_cons_zero, List.getElem_cons_succ, Act.put, List.setIfInBounds_toArray, List.set_cons_zero, List.set_cons_succ])
            refine hK.out _ _ (hHeld.alloc _) (fun hHeld => ?_)
            clear hK K
            have GL := Lib.hid (Gr.one8 w4 0 30 ns h24 (Nat.zero_le _))
            replace BK := BK.alloc (.cells (ints ns).toArray 30)
            have cl := BK.lt
            replace KB := Lib.hid (KB.out.alloc (.cells (ints ns).toArray 30))
            (refine wpAnyH_take (i := 6) (v := ?_) rfl (by kernel_rfl) (by kernel_rfl) (by kernel_rfl) (fun _ _ _ h => h) (Or.inl ⟨by rfl, ?_⟩) hHeld ?_; rotate_left; (· (intro w' hSw; go_simp; try with_reducible rfl)); (try simp only [List.getElem_toArray, List.getElem_cons_zero, List.getElem_cons_succ, Act.put, List.setIfInBounds_toArray, List.set_cons_zero, List.set_cons_succ]))
            have ml := GM.out.lt
            replace GM := Lib.hid (GM.out.alloc (.cells (ints ns).toArray 30))
            (refine wpAnyH_take (i := 7) (v := ?_) rfl (by kernel_rfl) (by kernel_rfl) (by kernel_rfl) (fun _ _ _ h => h) (Or.inl ⟨by rfl, ?_⟩) hHeld ?_; rotate_left; (· (intro w' hSw; go_simp; try with_reducible rfl)); (try simp only [List.getElem_toArray, List.getElem_cons_zero, List.getElem_cons_succ, Act.put, List.setIfInBounds_toArray, List.set_cons_zero, List.set_cons_succ]))
            refine wpAnyH_done (by kernel_rfl) ?_ _
            clear hHeld hmm
            go_wp2_with fail
            go_meet
            case rel => exact ⟨_, V0.heap.size, rfl, rfl, BK, GL, GM, Lib.hid (fun z hz => by have := Option.some.inj (show some w4.heap.size = some z from hz); omega), Lib.hid (by have := S1.out; omega), Lib.hid (by have := S1.out; omega), KB⟩
      clear G1 H1 HB1
      obtain ⟨lv, mb, rfl, rfl, BK, GL, GM, NE, hmbw0, pbne, KB⟩ := hcut
      have P0 : Hid (rkP ds x ns 0 = ([ns], [ns])) := Lib.hid rfl
      go_wp2_with fail
      go_loopw [12, 37] (fun v z wr => ∃ i : Nat, i ≤ k ∧ z = .int .i64 i ∧ Bk wr pb (pgA ds x) 63 ∧ Hid (Gr wr 0 30 24 v (rkP ds x ns i).2) ∧ Hid (OwnV Try.prog wr 30 mb (rkP ds x ns i).1.length 24 (seenR (rkP ds x ns i).1)) ∧ Hid (∀ z, v.ownBlock = some z → z ≠ mb) ∧ Hid (Kept w wr)) (fun _ z _ => k - (intOf z).toNat)
      case atStart => exact ⟨0, by omega, rfl, BK, Lib.hid GL.out, Lib.hid GM.out, NE, KB⟩
      case round =>
        clear BK GL GM NE KB
        obtain ⟨i, hi, rfl, BK, GL, GM, NE, KB⟩ := hrel
        have SU := Lib.hid (show rkP ds x ns (i + 1) = (growL ds x (rkP ds x ns i).1 (rkP ds x ns i).2 (rkP ds x ns i).2.length, (growL ds x (rkP ds x ns i).1 (rkP ds x ns i).2 (rkP ds x ns i).2.length).drop (rkP ds x ns i).1.length) from rfl)
        by_cases hik : i < k
        · have hii : (i : Int) < (k : Int) := by omega
          have hmbw := hmbw0.out
          have g12 := GOOD.out i
          have hl : (rkP ds x ns i).2.length ≤ 1296 ∧ (rkP ds x ns i).1.length ≤ 1333 := by
            obtain ⟨l1, l2, l3, l4, _⟩ := LEN.out
            have : i = 0 ∨ i = 1 := by omega
            rcases this with rfl | rfl <;> omega
          generalize hSS : (rkP ds x ns i).1 = SS at *
          generalize hLL : (rkP ds x ns i).2 = LL at *
          go_wp2_with (refine load_bk rfl 63 _ rfl _ rfl _ _ BK _ Try.underlying63 rfl ?_ ?_; (· rw [lg]; kernel_rfl))
          refine (behind_any ds x LL SS _ mb wr h6 hrv g12.2 g12.1 hl.1 hl.2 GL.out GM.out NE.out).mono ?_
          rintro e w5 ⟨v5, rfl, q1, q2, q3⟩
          have bkl := BK.lt
          have pne := pbne.out
          have ml := GM.out.lt
          have NE5 : Hid (∀ z, v5.ownBlock = some z → z ≠ mb) := Lib.hid (fun z hz => by have := (q1.own z hz).1; omega)
          have BK5 := BK.grown q3 (fun e => pne (Option.some.inj e))
          have KB5 : Hid (Kept w w5) := Lib.hid (KB.out.grown q3 KB.out.size (fun j hj => by have hj := Option.some.inj hj; omega))
          have GL5 : Hid (Gr w5 0 30 24 v5 (rkP ds x ns (i + 1)).2) := Lib.hid (by rw [SU.out]; exact q1.mono (Nat.zero_le _))
          have GM5 : Hid (OwnV Try.prog w5 30 mb (rkP ds x ns (i + 1)).1.length 24 (seenR (rkP ds x ns (i + 1)).1)) := Lib.hid (by rw [SU.out]; exact q2)
          clear q1 q2 q3 BK GL GM NE KB SU g12 hl bkl pne ml hSS hLL
          go_wp2_with fail
          go_roundw
          case rel => exact ⟨i + 1, by omega, by go_num, BK5, GL5, GM5, NE5, KB5⟩
          case measure => simp [intOf]; omega
        · obtain rfl : i = k := by omega
          have LENM := fun ty => GM.out.len Try.underlying67 ty
          clear SU
          generalize (rkP ds x ns i).1.length = cnt at *
          go_wp2_with fail
          go_ret2
          exact ⟨by rw [A.out, R.out]; rfl, KB.out⟩
    · have R := Lib.hid (show reOk ns ds x n = false by unfold reOk; rw [decide_eq_false hn, Bool.and_false])
      have A := Lib.hid (show reA ns ds x n = 0 by unfold reA; rw [R.out]; rfl)
      by_cases hn0 : n < 0
      · have n1 : decide (n < 0) = true := decide_eq_true hn0
        clear hn hn0
        go_wp2_with (first | (refine store_newbk rfl 63 _ _ rfl _ _ _ rfl _ rfl (pgA ds x) rfl rfl ?_ O1 ?_ ?_; (· exact lg); (· kernel_rfl)))
        go_ret2
        exact ⟨by rw [A.out, R.out]; rfl, HB1.out⟩
      · have n1 : decide (n < 0) = false := decide_eq_false hn0
        have n2 : decide (n > 2) = true := decide_eq_true (by omega)
        have n3 : decide (2 < n) = true := decide_eq_true (by omega)
        clear hn hn0
        go_wp2_with (first | (refine store_newbk rfl 63 _ _ rfl _ _ _ rfl _ rfl (pgA ds x) rfl rfl ?_ O1 ?_ ?_; (· exact lg); (· kernel_rfl)))
        go_ret2
        exact ⟨by rw [A.out, R.out]; rfl, HB1.out⟩
  · have hf : byOk ns ds x = false := by simpa using hok
    obtain rfl : g = pgZ := by rw [← hg]; unfold pgR; rw [hf]; rfl
    clear hg
    have R := Lib.hid (show reOk ns ds x n = false by unfold reOk; rw [hf]; rfl)
    have A := Lib.hid (show reA ns ds x n = 0 by unfold reA; rw [R.out]; rfl)
    rw [hf]
    clear hok hf
    go_wp2_with (first | (refine store_newbk rfl 63 _ _ rfl _ _ _ rfl _ rfl pgZ rfl rfl ?_ O1 ?_ ?_; (· exact lg); (· kernel_rfl)))
    go_ret2
    exact ⟨by rw [A.out, R.out]; rfl, HB1.out⟩
end Go.Proofs.Ytcedpjjfcfeokab.base
