/-
  The fewest pours by a rule that sort a rack, on the program's side, walked.
-/
import Derived.Test.YtglhinihhlmgeacRbhIZ
import Derived.Test.YtglhinihhlmgeacSrtP
namespace Go.Proofs.Ytglhinihhlmgeac.base
open Go.ChangeShapes Go.WideShapes Go.ChangeAt Go.RowKit Go.Maps
set_option linter.unusedVariables false
set_option linter.unusedSimpArgs false

/-- The fewest pours by a rule that sort a rack, at most three. -/
def feW (ns ds : List Int) (x : Int) : Option Nat := if byOk ns ds x = true then fewFrom sortedA ds x ns 0 4 else none
def feA (ns ds : List Int) (x : Int) : Int := match feW ns ds x with | some k => (k : Int) | none => 0
def feOk (ns ds : List Int) (x : Int) : Bool := (feW ns ds x).isSome
theorem fe_some {ns ds : List Int} {x : Int} {i : Nat} (hok : byOk ns ds x = true) (hi : i ≤ 3) (h : ∀ m, m < i → srt sortedA ds x m ns = false) (h2 : srt sortedA ds x i ns = true) : feA ns ds x = (i : Int) ∧ feOk ns ds x = true := by
  have : feW ns ds x = some i := by unfold feW; rw [if_pos hok]; exact few_some 4 0 (by omega) (by omega) h h2
  unfold feA feOk; rw [this]; exact ⟨rfl, rfl⟩
theorem fe_none {ns ds : List Int} {x : Int} (h : ∀ m, m < 4 → srt sortedA ds x m ns = false) : feA ns ds x = 0 ∧ feOk ns ds x = false := by
  have : feW ns ds x = none := by
    unfold feW; split
    · exact few_none 4 0 (fun m hm => h m (by omega))
    · rfl
  unfold feA feOk; rw [this]; exact ⟨rfl, rfl⟩
theorem fe_bad {ns ds : List Int} {x : Int} (h : byOk ns ds x = false) : feA ns ds x = 0 ∧ feOk ns ds x = false := by
  have : feW ns ds x = none := by unfold feW; rw [h, if_neg (by decide)]
  unfold feA feOk; rw [this]; exact ⟨rfl, rfl⟩
theorem below_step {P : Nat → Prop} {i : Nat} (h : ∀ m, m < i → P m) (h2 : P i) : ∀ m, m < i + 1 → P m := fun m hm => by
  by_cases e : m = i
  · rw [e]; exact h2
  · exact h m (by omega)

set_option maxHeartbeats 6400000 in
set_option maxRecDepth 100000 in
theorem implFewest (ns ds : List Int) (x : Int) (w : World) (h24 : ns.length = 24) (h6 : ds.length = 6) :
    Calls Try.prog 6 #[row ns, row ds, .int .i64 x] w fun e w' => e = .returned (.tuple #[.int .i64 (feA ns ds x), .bool (feOk ns ds x)]) ∧ Kept w w' := by
  have HB := Lib.hid (((kept_refl w).alloc (.cells (ints ns).toArray 27)).alloc (.cells (ints ds).toArray 28))
  have H := (Has.box w 27 h24 (by omega)).alloc (.cells (ints ds).toArray 28)
  have D := (Has.box (w.alloc (.cells (ints ns).toArray 27)) 28 h6 (by omega)).at (size1 _ _)
  have lg := pgR_len ns ds x h6
  have hiR : (Try.prog.info? 27).map (·.size) = some (ints ns).length := by rw [ints_len, h24]; kernel_rfl
  have HIR := Lib.hid hiR
  clear hiR
  rw [row_ints, row_ints]
  go_enter Try.func6, Try.ntmps6
  go_wp2_with (first | (refine load_has rfl 27 _ rfl _ rfl ?_ 24 ?_ _ Try.underlying27 rfl ?_ ?_; rotate_left; (· (repeat (first | (with_reducible assumption) | ((with_reducible refine Has.box _ _ ?_ ?_) <;> (first | assumption | decide)) | (with_reducible refine Has.alloc ?_ _) | ((with_reducible refine Has.putOther ?_ _ _ ?_); rotate_left; omega; skip) | ((with_reducible refine Has.below ?_ ?_); rotate_left; assumption)))); (· kernel_rfl)) | (refine load_has rfl 28 _ rfl _ rfl ?_ 6 ?_ _ Try.underlying28 rfl ?_ ?_; rotate_left; (· (repeat (first | (with_reducible assumption) | ((with_reducible refine Has.box _ _ ?_ ?_) <;> (first | assumption | decide)) | (with_reducible refine Has.alloc ?_ _) | ((with_reducible refine Has.putOther ?_ _ _ ?_); rotate_left; omega; skip) | ((with_reducible refine Has.below ?_ ?_); rotate_left; assumption)))); (· kernel_rfl)))
  refine (pouringBy_any ns ds x _ h24 h6).mono ?_
  rintro e w1 ⟨rfl, b1⟩
  have O1 : ∀ v ∈ pgR ns ds x, v.oneCell' = true := by
    unfold pgR; split
    · exact pg_one ds _ rfl
    · exact pg_one _ _ rfl
  have H1 := (H.below b1).alloc (.cells (pgR ns ds x).toArray 58)
  have G1 := Bk.box w1 (pgR ns ds x) 58
  have HB1 := Lib.hid ((HB.out.call b1).alloc (.cells (pgR ns ds x).toArray 58))
  clear H D HB b1
  generalize hg : pgR ns ds x = g at *
  by_cases hok : byOk ns ds x = true
  · obtain rfl : g = pgA ds x := by rw [← hg]; unfold pgR; rw [if_pos hok]
    clear hg
    have OK := Lib.hid hok
    rw [hok]
    clear hok
    have hrv : ruleV x = true := (Bool.and_eq_true_iff.1 OK.out).2
    have gR : GoodR ds ns := ⟨h24, (Bool.and_eq_true_iff.1 OK.out).1⟩
    have GOOD := Lib.hid (rk_good (x := x) gR)
    have LEN := Lib.hid (rk_len ds x ns)
    have ROW := Lib.hid (rack_row8 h24 (fit_of gR.fit).1)
    have KEY := Lib.hid (rack_key8 ROW.out)
    clear gR
    go_wp2_with (first | (refine store_newbk rfl 58 _ _ rfl _ _ _ rfl _ rfl (pgA ds x) rfl rfl ?_ O1 ?_ ?_; (· exact lg); (· kernel_rfl)))
    obtain ⟨pb, hpb⟩ : ∃ pb, w1.heap.size = pb := ⟨_, rfl⟩
    rw [hpb] at G1 ⊢
    clear O1
    generalize w1.alloc (.cells (pgA ds x).toArray 58) = W at *
    clear hpb
    go_cut [10, 11] from 22 to 26 (fun s12 s13 wx => ∃ (lv : Value) (mb : Nat), s12 = lv ∧ s13 = .map (some mb) ∧ Bk wx pb (pgA ds x) 58 ∧ Hid (Gr wx 0 27 24 lv [ns]) ∧ Hid (OwnV Try.prog wx 27 mb 1 24 (seenR [ns])) ∧ Hid (∀ z, lv.ownBlock = some z → z ≠ mb) ∧ Hid (w.heap.size ≤ mb) ∧ Hid (pb ≠ mb) ∧ Hid (Kept w wx))
    case first =>
      have hmm := @run_makeMap Try.prog
      have BK := G1.drew
      have HR := H1.drew
      have KB := Lib.hid (keptDrew8 HB1.out)
      have bl0 := BK.lt
      have rl0 := HR.lt
      have kl0 := KB.out.size
      refine wp_region_held_drew (S := fun w' => Has w' w.heap.size ns 24) (by kernel_rfl) HR (fun hHeld => ?_)
      generalize W.drew = V0 at *
      (refine wpAnyH_take (i := 0) (v := _) rfl (by kernel_rfl) (by kernel_rfl) (by kernel_rfl) (fun _ _ _ h => h) (yieldsIf_load_mid (by rfl) 27 _ rfl _ _ rfl (ints ns) _ (fun w' hSw => hSw.holds.range) Try.underlying27 rfl (HIR.out)) hHeld ?_; (try simp only [List.getElem_toArray, List.getElem_cons_zero, List.getElem_cons_succ, Act.put, List.setIfInBounds_toArray, List.set_cons_zero, List.set_cons_succ]))
      (refine wpAnyH_take (i := 3) (v := _) rfl (by kernel_rfl) (by kernel_rfl) (by kernel_rfl) (fun _ _ _ h => h) (yieldsIf_load_mid (by rfl) 27 _ rfl _ _ rfl (ints ns) _ (fun w' hSw => hSw.holds.range) Try.underlying27 rfl (HIR.out)) hHeld ?_; (try simp only [List.getElem_toArray, List.getElem_cons_zero, List.getElem_cons_succ, Act.put, List.setIfInBounds_toArray, List.set_cons_zero, List.set_cons_succ]))
      refine wpAnyH_ready (rs := [1, 2]) (by kernel_rfl) (by simp) ?_
      refine AllReadyH.cons (o := _) rfl (fun K hK => ?_) (AllReadyH.cons (o := _) rfl (fun K hK => ?_) AllReadyH.nil)
      · (simp only [List.getElem_toArray, List.getElem_cons_zero, List.getElem_cons_succ, Region.wanted, if_true])
        refine wp_slice1 61 27 _ rfl 24 192 Try.underlying61 (by kernel_rfl) (by omega) (by omega) ns rfl h24 ?_
        (try simp only [List.getElem_toArray, List.getElem_cons_zero, List.getElem_cons_succ, Act.put, List.setIfInBounds_toArray, List.set_cons_zero, List.set_cons_succ])
        refine hK.out _ _ (hHeld.alloc _) (fun hHeld => ?_)
        clear hK K
        have GL := Lib.hid (Gr.one8 V0 0 27 ns h24 (Nat.zero_le _))
        replace BK := BK.alloc (.cells (ints ns).toArray 27)
        have cl := BK.lt
        replace KB := Lib.hid (KB.out.alloc (.cells (ints ns).toArray 27))
        (refine wpAnyH_take (i := 6) (v := ?_) rfl (by kernel_rfl) (by kernel_rfl) (by kernel_rfl) (fun _ _ _ h => h) (Or.inl ⟨by rfl, ?_⟩) hHeld ?_; rotate_left; (· (intro w' hSw; go_simp; try with_reducible rfl)); (try simp only [List.getElem_toArray, List.getElem_cons_zero, List.getElem_cons_succ, Act.put, List.setIfInBounds_toArray, List.set_cons_zero, List.set_cons_succ]))
        generalize hV1 : V0.alloc (.cells (ints ns).toArray 27) = V1 at *
        have S1 := Lib.hid (show V1.heap.size = V0.heap.size + 1 by rw [← hV1]; simp)
        clear hV1
        (refine wpAnyH_ready (rs := [2]) (by kernel_rfl) (by simp) ?_; refine AllReadyH.cons (o := _) rfl (fun K hK => ?_) AllReadyH.nil; (simp only [List.getElem_toArray, List.getElem_cons_zero, List.getElem_cons_succ, Region.wanted, if_true]))
        go_simp
        refine hK.out _ _ (hHeld.alloc _) (fun hHeld => ?_)
        clear hK K
        have GM := Lib.hid (OwnV.made V1 Try.prog 27 24)
        replace KB := Lib.hid (KB.out.alloc (.map #[] 0))
        have bl := BK.lt
        replace BK := BK.alloc (.map #[] 0)
        have sl := Lib.hid (fun z hz => (GL.out.own z hz).2)
        replace GL := Lib.hid (GL.out.alloc (.map #[] 0))
        (refine wpAnyH_ready (rs := [4]) (by kernel_rfl) (by simp) ?_; refine AllReadyH.cons (o := _) rfl (fun K hK => ?_) AllReadyH.nil; (simp only [List.getElem_toArray, List.getElem_cons_zero, List.getElem_cons_succ, Region.wanted, if_true]))
        refine wp_insertV _ _ _ 62 rfl 27 4 rackKeyed8 Try.underlying62 (V1.heap.size) 0 24 _ GM.out (by unfold maxLen; omega) rfl (.agg (ints ns).toArray) (.bool true) rfl rfl ns ROW.out KEY.out ?_
        intro w4 hM hgM
        (try simp only [List.getElem_toArray, List.getElem_cons_zero, List.getElem_cons_succ, Act.put, List.setIfInBounds_toArray, List.set_cons_zero, List.set_cons_succ])
        refine hK.out _ _ (hHeld.grownNo hgM (fun e => by have e := Option.some.inj e; have := S1.out; omega)) (fun hHeld => ?_)
        clear hK K
        replace GM := Lib.hid hM.seen1
        replace BK := BK.grown hgM (fun e => by have e := Option.some.inj e; have := S1.out; omega)
        replace KB : Hid (Kept w w4) := Lib.hid (KB.out.grown hgM KB.out.size (fun j hj => by have hj := Option.some.inj hj; have := S1.out; omega))
        replace GL := Lib.hid (GL.out.kept hgM (fun z hz e => by have e := Option.some.inj e; have := sl.out z hz; have := S1.out; omega))
        (refine wpAnyH_take (i := 5) (v := ?_) rfl (by kernel_rfl) (by kernel_rfl) (by kernel_rfl) (fun _ _ _ h => h) (Or.inl ⟨by rfl, ?_⟩) hHeld ?_; rotate_left; (· (intro w' hSw; go_simp; try with_reducible rfl)); (try simp only [List.getElem_toArray, List.getElem_cons_zero, List.getElem_cons_succ, Act.put, List.setIfInBounds_toArray, List.set_cons_zero, List.set_cons_succ])); (refine wpAnyH_take (i := 7) (v := ?_) rfl (by kernel_rfl) (by kernel_rfl) (by kernel_rfl) (fun _ _ _ h => h) (Or.inl ⟨by rfl, ?_⟩) hHeld ?_; rotate_left; (· (intro w' hSw; go_simp; try with_reducible rfl)); (try simp only [List.getElem_toArray, List.getElem_cons_zero, List.getElem_cons_succ, Act.put, List.setIfInBounds_toArray, List.set_cons_zero, List.set_cons_succ]))
        refine wpAnyH_done (by kernel_rfl) ?_ _
        clear hHeld hmm
        go_wp2_with fail
        go_meet
        case rel => exact ⟨_, V1.heap.size, rfl, rfl, BK, GL, GM, Lib.hid (fun z hz => by have := Option.some.inj (show some V0.heap.size = some z from hz); have := S1.out; omega), Lib.hid (by have := S1.out; omega), Lib.hid (by have := S1.out; omega), KB⟩
      · (simp only [List.getElem_toArray, List.getElem_cons_zero, List.getElem_cons_succ, Region.wanted, if_true])
        go_simp
        refine hK.out _ _ (hHeld.alloc _) (fun hHeld => ?_)
        clear hK K
        have GM := Lib.hid (OwnV.made V0 Try.prog 27 24)
        replace KB := Lib.hid (KB.out.alloc (.map #[] 0))
        have bl := BK.lt
        replace BK := BK.alloc (.map #[] 0)
        generalize hV1 : V0.alloc (.map #[] 0) = V1 at *
        have S1 := Lib.hid (show V1.heap.size = V0.heap.size + 1 by rw [← hV1]; simp)
        clear hV1
        refine wpAnyH_ready (rs := [1, 4]) (by kernel_rfl) (by simp) ?_
        refine AllReadyH.cons (o := _) rfl (fun K hK => ?_) (AllReadyH.cons (o := _) rfl (fun K hK => ?_) AllReadyH.nil)
        · (simp only [List.getElem_toArray, List.getElem_cons_zero, List.getElem_cons_succ, Region.wanted, if_true])
          refine wp_slice1 61 27 _ rfl 24 192 Try.underlying61 (by kernel_rfl) (by omega) (by omega) ns rfl h24 ?_
          (try simp only [List.getElem_toArray, List.getElem_cons_zero, List.getElem_cons_succ, Act.put, List.setIfInBounds_toArray, List.set_cons_zero, List.set_cons_succ])
          refine hK.out _ _ (hHeld.alloc _) (fun hHeld => ?_)
          clear hK K
          have GL := Lib.hid (Gr.one8 V1 0 27 ns h24 (Nat.zero_le _))
          replace BK := BK.alloc (.cells (ints ns).toArray 27)
          have cl := BK.lt
          replace KB := Lib.hid (KB.out.alloc (.cells (ints ns).toArray 27))
          (refine wpAnyH_take (i := 6) (v := ?_) rfl (by kernel_rfl) (by kernel_rfl) (by kernel_rfl) (fun _ _ _ h => h) (Or.inl ⟨by rfl, ?_⟩) hHeld ?_; rotate_left; (· (intro w' hSw; go_simp; try with_reducible rfl)); (try simp only [List.getElem_toArray, List.getElem_cons_zero, List.getElem_cons_succ, Act.put, List.setIfInBounds_toArray, List.set_cons_zero, List.set_cons_succ]))
          have ml := GM.out.lt
          replace GM := Lib.hid (GM.out.alloc (.cells (ints ns).toArray 27))
          generalize hV2 : V1.alloc (.cells (ints ns).toArray 27) = V2 at *
          clear hV2
          (refine wpAnyH_ready (rs := [4]) (by kernel_rfl) (by simp) ?_; refine AllReadyH.cons (o := _) rfl (fun K hK => ?_) AllReadyH.nil; (simp only [List.getElem_toArray, List.getElem_cons_zero, List.getElem_cons_succ, Region.wanted, if_true]))
          refine wp_insertV _ _ _ 62 rfl 27 4 rackKeyed8 Try.underlying62 (V0.heap.size) 0 24 _ GM.out (by unfold maxLen; omega) rfl (.agg (ints ns).toArray) (.bool true) rfl rfl ns ROW.out KEY.out ?_
          intro w4 hM hgM
          (try simp only [List.getElem_toArray, List.getElem_cons_zero, List.getElem_cons_succ, Act.put, List.setIfInBounds_toArray, List.set_cons_zero, List.set_cons_succ])
          refine hK.out _ _ (hHeld.grownNo hgM (fun e => by have e := Option.some.inj e; have := S1.out; omega)) (fun hHeld => ?_)
          clear hK K
          replace GM := Lib.hid hM.seen1
          replace BK := BK.grown hgM (fun e => by have e := Option.some.inj e; have := S1.out; omega)
          replace KB : Hid (Kept w w4) := Lib.hid (KB.out.grown hgM KB.out.size (fun j hj => by have hj := Option.some.inj hj; have := S1.out; omega))
          replace GL := Lib.hid (GL.out.kept hgM (fun z hz e => by have e := Option.some.inj e; have := Option.some.inj (show some V1.heap.size = some z from hz); have := S1.out; omega))
          (refine wpAnyH_take (i := 5) (v := ?_) rfl (by kernel_rfl) (by kernel_rfl) (by kernel_rfl) (fun _ _ _ h => h) (Or.inl ⟨by rfl, ?_⟩) hHeld ?_; rotate_left; (· (intro w' hSw; go_simp; try with_reducible rfl)); (try simp only [List.getElem_toArray, List.getElem_cons_zero, List.getElem_cons_succ, Act.put, List.setIfInBounds_toArray, List.set_cons_zero, List.set_cons_succ])); (refine wpAnyH_take (i := 7) (v := ?_) rfl (by kernel_rfl) (by kernel_rfl) (by kernel_rfl) (fun _ _ _ h => h) (Or.inl ⟨by rfl, ?_⟩) hHeld ?_; rotate_left; (· (intro w' hSw; go_simp; try with_reducible rfl)); (try simp only [List.getElem_toArray, List.getElem_cons_zero, List.getElem_cons_succ, Act.put, List.setIfInBounds_toArray, List.set_cons_zero, List.set_cons_succ]))
          refine wpAnyH_done (by kernel_rfl) ?_ _
          clear hHeld hmm
          go_wp2_with fail
          go_meet
          case rel => exact ⟨_, V0.heap.size, rfl, rfl, BK, GL, GM, Lib.hid (fun z hz => by have := Option.some.inj (show some V1.heap.size = some z from hz); have := S1.out; omega), Lib.hid (by have := S1.out; omega), Lib.hid (by have := S1.out; omega), KB⟩
        · (simp only [List.getElem_toArray, List.getElem_cons_zero, List.getElem_cons_succ, Region.wanted, if_true])
          refine wp_insertV _ _ _ 62 rfl 27 4 rackKeyed8 Try.underlying62 (V0.heap.size) 0 24 _ GM.out (by unfold maxLen; omega) rfl (.agg (ints ns).toArray) (.bool true) rfl rfl ns ROW.out KEY.out ?_
          intro w4 hM hgM
          (try simp only [List.getElem_toArray, List.getElem_cons_zero, List.getElem_cons_succ, Act.put, List.setIfInBounds_toArray, List.set_cons_zero, List.set_cons_succ])
          refine hK.out _ _ (hHeld.grownNo hgM (fun e => by have e := Option.some.inj e; have := S1.out; omega)) (fun hHeld => ?_)
          clear hK K
          replace GM := Lib.hid hM.seen1
          replace BK := BK.grown hgM (fun e => by have e := Option.some.inj e; have := S1.out; omega)
          replace KB : Hid (Kept w w4) := Lib.hid (KB.out.grown hgM KB.out.size (fun j hj => by have hj := Option.some.inj hj; have := S1.out; omega))
          (refine wpAnyH_take (i := 5) (v := ?_) rfl (by kernel_rfl) (by kernel_rfl) (by kernel_rfl) (fun _ _ _ h => h) (Or.inl ⟨by rfl, ?_⟩) hHeld ?_; rotate_left; (· (intro w' hSw; go_simp; try with_reducible rfl)); (try simp only [List.getElem_toArray, List.getElem_cons_zero, List.getElem_cons_succ, Act.put, List.setIfInBounds_toArray, List.set_cons_zero, List.set_cons_succ]))
          (refine wpAnyH_ready (rs := [1]) (by kernel_rfl) (by simp) ?_; refine AllReadyH.cons (o := _) rfl (fun K hK => ?_) AllReadyH.nil; (simp only [List.getElem_toArray, List.getElem_cons_zero, List.getElem_cons_succ, Region.wanted, if_true]))
          have s4 : V0.heap.size < w4.heap.size := GM.out.lt
          refine wp_slice1 61 27 _ rfl 24 192 Try.underlying61 (by kernel_rfl) (by omega) (by omega) ns rfl h24 ?_
          (try simp only [List.getElem_toArray, List.getElem_cons_zero, List.getElem_cons_succ, Act.put, List.setIfInBounds_toArray, List.set_cons_zero, List.set_cons_succ])
          refine hK.out _ _ (hHeld.alloc _) (fun hHeld => ?_)
          clear hK K
          have GL := Lib.hid (Gr.one8 w4 0 27 ns h24 (Nat.zero_le _))
          replace BK := BK.alloc (.cells (ints ns).toArray 27)
          have cl := BK.lt
          replace KB := Lib.hid (KB.out.alloc (.cells (ints ns).toArray 27))
          (refine wpAnyH_take (i := 6) (v := ?_) rfl (by kernel_rfl) (by kernel_rfl) (by kernel_rfl) (fun _ _ _ h => h) (Or.inl ⟨by rfl, ?_⟩) hHeld ?_; rotate_left; (· (intro w' hSw; go_simp; try with_reducible rfl)); (try simp only [List.getElem_toArray, List.getElem_cons_zero, List.getElem_cons_succ, Act.put, List.setIfInBounds_toArray, List.set_cons_zero, List.set_cons_succ]))
          have ml := GM.out.lt
          replace GM := Lib.hid (GM.out.alloc (.cells (ints ns).toArray 27))
          (refine wpAnyH_take (i := 7) (v := ?_) rfl (by kernel_rfl) (by kernel_rfl) (by kernel_rfl) (fun _ _ _ h => h) (Or.inl ⟨by rfl, ?_⟩) hHeld ?_; rotate_left; (· (intro w' hSw; go_simp; try with_reducible rfl)); (try simp only [List.getElem_toArray, List.getElem_cons_zero, List.getElem_cons_succ, Act.put, List.setIfInBounds_toArray, List.set_cons_zero, List.set_cons_succ]))
          refine wpAnyH_done (by kernel_rfl) ?_ _
          clear hHeld hmm
          go_wp2_with fail
          go_meet
          case rel => exact ⟨_, V0.heap.size, rfl, rfl, BK, GL, GM, Lib.hid (fun z hz => by have := Option.some.inj (show some w4.heap.size = some z from hz); omega), Lib.hid (by have := S1.out; omega), Lib.hid (by have := S1.out; omega), KB⟩
    clear G1 H1 HB1
    obtain ⟨lv, mb, rfl, rfl, BK, GL, GM, NE, hmbw0, pbne, KB⟩ := hcut
    have P0 : Hid (rkP ds x ns 0 = ([ns], [ns])) := Lib.hid rfl
    go_wp2_with fail
    go_loopw [10, 12] (fun v z wr => ∃ i : Nat, i ≤ 3 ∧ z = .int .i64 i ∧ Hid (∀ m, m < i → srt sortedA ds x m ns = false) ∧ Bk wr pb (pgA ds x) 58 ∧ Hid (Gr wr 0 27 24 v (rkP ds x ns i).2) ∧ Hid (OwnV Try.prog wr 27 mb (rkP ds x ns i).1.length 24 (seenR (rkP ds x ns i).1)) ∧ Hid (∀ z, v.ownBlock = some z → z ≠ mb) ∧ Hid (Kept w wr)) (fun _ z _ => 3 - (intOf z).toNat)
    case atStart => exact ⟨0, by omega, rfl, Lib.hid (fun m hm => by omega), BK, Lib.hid GL.out, Lib.hid GM.out, NE, KB⟩
    case round =>
      clear BK GL GM NE KB
      obtain ⟨i, hi, rfl, SF, BK, GL, GM, NE, KB⟩ := hrel
      have SU := Lib.hid (show rkP ds x ns (i + 1) = (growL ds x (rkP ds x ns i).1 (rkP ds x ns i).2 (rkP ds x ns i).2.length, (growL ds x (rkP ds x ns i).1 (rkP ds x ns i).2 (rkP ds x ns i).2.length).drop (rkP ds x ns i).1.length) from rfl)
      have SL := Lib.hid (srt_level sortedA ds x ns i SF.out)
      have g12 := GOOD.out i
      have hl5 : (rkP ds x ns i).2.length ≤ 100000 := by
        obtain ⟨l1, l2, l3, l4, l5, l6, l7, l8⟩ := LEN.out
        have : i = 0 ∨ i = 1 ∨ i = 2 ∨ i = 3 := by omega
        rcases this with rfl | rfl | rfl | rfl <;> omega
      have hl : i < 3 → (rkP ds x ns i).2.length ≤ 1296 ∧ (rkP ds x ns i).1.length ≤ 1333 := fun h => by
        obtain ⟨l1, l2, l3, l4, l5, l6, l7, l8⟩ := LEN.out
        have : i = 0 ∨ i = 1 ∨ i = 2 := by omega
        rcases this with rfl | rfl | rfl <;> omega
      have HL := Lib.hid hl
      have G12 := Lib.hid g12
      clear hl g12
      generalize hSS : (rkP ds x ns i).1 = SS at *
      generalize hLL : (rkP ds x ns i).2 = LL at *
      go_wp2_with fail
      refine (containsSorted_any LL _ wr hl5 GL.out).mono ?_
      rintro e w3 ⟨rfl, b3⟩
      replace BK := BK.below b3
      replace GL := Lib.hid (GL.out.below b3)
      replace GM := Lib.hid (GM.out.below b3)
      replace KB := Lib.hid (KB.out.call b3)
      clear b3 hl5
      rw [← SL.out]
      cases hs : srt sortedA ds x i ns with
      | true =>
        have FE := Lib.hid (fe_some OK.out hi SF.out hs)
        clear hs SL SU hSS hLL
        go_wp2_with fail
        go_ret2
        exact ⟨by rw [FE.out.1, FE.out.2]; rfl, KB.out⟩
      | false =>
        have SF2 := Lib.hid (below_step SF.out hs)
        clear hs SL
        by_cases hi3 : i = 3
        · subst hi3
          have FE := Lib.hid (fe_none (ns := ns) (ds := ds) (x := x) SF2.out)
          clear SU hSS hLL
          go_wp2_with fail
          go_ret2
          exact ⟨by rw [FE.out.1, FE.out.2]; rfl, KB.out⟩
        · have hii : (i : Int) < 3 := by omega
          have e1 : ((i : Int) == 3) = false := by simp; omega
          have e2 : decide ((i : Int) = 3) = false := by simp; omega
          have e3 : decide (i = 3) = false := by simp; omega
          have e4 : (i == 3) = false := by simp; omega
          have hmbw := hmbw0.out
          have hl := HL.out (by omega)
          go_wp2_with (refine load_bk rfl 58 _ rfl _ rfl _ _ BK _ Try.underlying58 rfl ?_ ?_; (· rw [lg]; kernel_rfl))
          refine (behind_any ds x LL SS _ mb _ h6 hrv G12.out.2 G12.out.1 hl.1 hl.2 GL.out GM.out NE.out).mono ?_
          rintro e w5 ⟨v5, rfl, q1, q2, q3⟩
          have bkl := BK.lt
          have pne := pbne.out
          have ml := GM.out.lt
          have NE5 : Hid (∀ z, v5.ownBlock = some z → z ≠ mb) := Lib.hid (fun z hz => by have := (q1.own z hz).1; omega)
          have BK5 := BK.grown q3 (fun e => pne (Option.some.inj e))
          have KB5 : Hid (Kept w w5) := Lib.hid (KB.out.grown q3 KB.out.size (fun j hj => by have hj := Option.some.inj hj; omega))
          have GL5 : Hid (Gr w5 0 27 24 v5 (rkP ds x ns (i + 1)).2) := Lib.hid (by rw [SU.out]; exact q1.mono (Nat.zero_le _))
          have GM5 : Hid (OwnV Try.prog w5 27 mb (rkP ds x ns (i + 1)).1.length 24 (seenR (rkP ds x ns (i + 1)).1)) := Lib.hid (by rw [SU.out]; exact q2)
          clear q1 q2 q3 BK GL GM NE KB SU G12 HL hl bkl pne ml hSS hLL e1 e2 e3 e4
          go_wp2_with fail
          go_roundw
          case rel => exact ⟨i + 1, by omega, by go_num, SF2, BK5, GL5, GM5, NE5, KB5⟩
          case measure => simp [intOf]; omega
  · have hf : byOk ns ds x = false := by simpa using hok
    obtain rfl : g = pgZ := by rw [← hg]; unfold pgR; rw [hf]; rfl
    clear hg
    have FE := Lib.hid (fe_bad hf)
    rw [hf]
    clear hok hf
    go_wp2_with (first | (refine store_newbk rfl 58 _ _ rfl _ _ _ rfl _ rfl pgZ rfl rfl ?_ O1 ?_ ?_; (· exact lg); (· kernel_rfl)))
    go_ret2
    exact ⟨by rw [FE.out.1, FE.out.2]; rfl, HB1.out⟩
end Go.Proofs.Ytglhinihhlmgeac.base
