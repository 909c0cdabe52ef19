/-
  The chances of plays, the mean of runs and the number of ends, on the program's side, walked.
-/
import Derived.Test.YtemiljokdedidacPlyCZ
import Derived.Test.YtemiljokdedidacSortSZ
import Derived.Test.YtemiljokdedidacStuck
import Derived.Test.YtemiljokdedidacBndI
import Derived.Deep.RegionHeld3
import Derived.Shelf.Abstract
namespace Go.Proofs.Ytemiljokdedidac.base
open Go.ChangeShapes Go.WideShapes Go.ChangeAt Go.RowKit
set_option linter.unusedVariables false
set_option linter.unusedSimpArgs false

def gSort (x : List Int) : Nat := if sortedA x = true then 1 else 0
def gStuck (x : List Int) : Nat := if stuckA x = true then 1 else 0
def gRuns (x : List Int) : Nat := runUp x 6
theorem gSort_le (x : List Int) : gSort x ≤ 24 := by unfold gSort; split <;> omega
theorem gStuck_le (x : List Int) : gStuck x ≤ 24 := by unfold gStuck; split <;> omega
theorem gRuns_le {x : List Int} (G : GR x) : gRuns x ≤ 24 := by
  have := runUp_le G.1 G.2 6 (by omega)
  unfold gRuns; omega
/-- A function that was handed over lies in a box. -/
theorem oneIf_any (v : Value) (h1 : v.oneCell' = true) (w : World) :
    Calls Try.prog 54 #[v] w fun e w' => e = .returned (.func (Fn.func 91) #[] #[.pointer (some ⟨w.heap.size, 0, none⟩)]) ∧ Bk w' w.heap.size [v] 69 ∧ Kept w w' := by
  have HB := Lib.hid ((kept_refl w).alloc (.cells #[v] 69))
  have BK := Bk.box w [v] 69
  go_enter Try.func54, Try.ntmps54
  go_wp2_with fail
  go_ret
  exact ⟨rfl, BK, HB.out⟩

set_option maxHeartbeats 800000 in
theorem oneSort_any (x : List Int) (s : Nat) (w : World) (G : GR x) (hs : Bk w s [.func (Fn.func 48) #[] #[]] 69) :
    Calls Try.prog 91 #[.agg (ints x).toArray, .pointer (some ⟨s, 0, none⟩)] w fun e w' => e = .returned (.int .i64 (gSort x : Nat)) ∧ Kept w w' := by
  have h24 := G.1
  have H := Has.box w 42 h24 (by omega)
  have HB := Lib.hid ((kept_refl w).alloc (.cells (ints x).toArray 42))
  have c0 := (hs.alloc (.cells (ints x).toArray 42)).cell 0 rfl
  have KI := Lib.hid (fun W => implSorted x W h24)
  have E := Lib.hid (show gSort x = if sortedA x = true then 1 else 0 from rfl)
  go_enter Try.func91, Try.ntmps91
  go_wp2_with (refine load_has rfl 42 _ rfl _ rfl ?_ 24 ?_ _ Try.underlying42 rfl ?_ ?_; rotate_left; (· (repeat (first | (with_reducible assumption) | ((with_reducible refine Has.box _ _ ?_ ?_) <;> (first | assumption | decide)) | (with_reducible refine Has.alloc ?_ _) | ((with_reducible refine Has.putOther ?_ _ _ ?_); rotate_left; omega; skip) | ((with_reducible refine Has.below ?_ ?_); rotate_left; assumption)))); (· kernel_rfl))
  refine (KI.out _).mono ?_
  rintro e w1 ⟨rfl, b1⟩
  have HB1 := Lib.hid (HB.out.call b1)
  cases hb : sortedA x with
  | true =>
    have E2 := Lib.hid (show gSort x = 1 by rw [E.out, hb]; rfl)
    clear b1
    go_wp2_with fail
    go_ret
    exact ⟨by rw [E2.out]; rfl, HB1.out⟩
  | false =>
    have E2 := Lib.hid (show gSort x = 0 by rw [E.out, hb]; rfl)
    clear b1
    go_wp2_with fail
    go_ret
    exact ⟨by rw [E2.out]; rfl, HB1.out⟩

set_option maxHeartbeats 1600000 in
set_option maxRecDepth 100000 in
theorem implChanceSort (r : List Int) (n : Int) (w : World) (h24 : r.length = 24) :
    Calls Try.prog 21 #[row r, .int .i64 n] w fun e w' => e = .returned (.tuple #[.agg (ints (mnA r n gSort)).toArray, .bool (BhOk r n)]) ∧ Kept w w' := by
  have H := (Has.box w 42 h24 (by omega)).alloc (.cells #[.int .i64 0, .int .i64 0] 33)
  have Z := (Has.zero2v (w.alloc (.cells (ints r).toArray 42)) 33).at (size1 _ _)
  have HB := Lib.hid (((kept_refl w).alloc (.cells (ints r).toArray 42)).alloc (.cells #[.int .i64 0, .int .i64 0] 33))
  have li : (ints r).length = 24 := by rw [ints_len]; exact h24
  have hi1 : (Try.prog.info? 42).map (·.size) = some (ints r).length := by rw [li]; kernel_rfl
  have fl := mnA_len r n gSort
  have lf : (ints (mnA r n gSort)).length = 2 := by rw [ints_len]; exact fl
  have hi2 : (Try.prog.info? 33).map (·.size) = some (ints (mnA r n gSort)).length := by rw [lf]; kernel_rfl
  have KO := Lib.hid (fun W => oneIf_any (.func (Fn.func 48) #[] #[]) rfl W)
  have KM := Lib.hid (fun (s : Nat) (W : World) (hs : Bk W s [.func (Fn.func 48) #[] #[]] 69) => mean_any1 91 s gSort r n W h24 (fun x _ => gSort_le x) (fun V hV x gx => oneSort_any x s V gx (hs.below hV)) (fun x V => enters_of Try.func91 (by kernel_rfl) rfl _ V))
  rw [row_ints]
  go_enter Try.func21, Try.ntmps21
  go_wp2_with fail
  refine wp_region_held_drew (S := fun w' => Has w' w.heap.size r 24 ∧ (∃ zs, Has w' (w.heap.size + 1) zs 2) ∧ Kept w w') (by kernel_rfl) ⟨H.drew, ⟨_, Z.drew⟩, HB.out.drewN 1⟩ (fun hHeld => ?_)
  clear H Z HB
  generalize World.drew _ = WD at *
  (refine wpAnyH_take (i := 1) (v := ?_) rfl (by kernel_rfl) (by kernel_rfl) (by kernel_rfl) (fun _ _ _ h => h) (Or.inl ⟨by rfl, ?_⟩) hHeld ?_; rotate_left; (· (intro w' hSw; go_simp; try with_reducible rfl)); (try simp only [List.getElem_toArray, List.getElem_cons_zero, List.getElem_cons_succ, Act.put, List.setIfInBounds_toArray, List.set_cons_zero, List.set_cons_succ]))
  (refine wpAnyH_take (i := 0) (v := _) rfl (by kernel_rfl) (by kernel_rfl) (by kernel_rfl) (fun _ _ _ h => h) (yieldsIf_load_mid (by rfl) 42 _ rfl _ _ rfl (ints r) _ (fun w' hSw => hSw.1.holds.range) Try.underlying42 rfl (hi1)) hHeld ?_; (try simp only [List.getElem_toArray, List.getElem_cons_zero, List.getElem_cons_succ, Act.put, List.setIfInBounds_toArray, List.set_cons_zero, List.set_cons_succ]))
  (refine wpAnyH_ready (rs := [2]) (by kernel_rfl) (by simp) ?_; refine AllReadyH.cons (o := _) rfl (fun K hK => ?_) AllReadyH.nil; (simp only [List.getElem_toArray, List.getElem_cons_zero, List.getElem_cons_succ, Region.wanted, if_true]))
  go_simp
  refine (KO.out _).mono ?_
  rintro e w3 ⟨rfl, bs, bq⟩
  dsimp only
  (try simp only [List.getElem_toArray, List.getElem_cons_zero, List.getElem_cons_succ, Act.put, List.setIfInBounds_toArray, List.set_cons_zero, List.set_cons_succ])
  refine hK.out _ _ ⟨hHeld.1.below bq, ⟨_, hHeld.2.1.choose_spec.below bq⟩, hHeld.2.2.call bq⟩ (fun hHeld => ?_)
  clear hK K bq
  (refine wpAnyH_ready (rs := [3]) (by kernel_rfl) (by simp) ?_; refine AllReadyH.cons (o := _) rfl (fun K hK => ?_) AllReadyH.nil; (simp only [List.getElem_toArray, List.getElem_cons_zero, List.getElem_cons_succ, Region.wanted, if_true]))
  go_simp
  refine (KM.out _ _ bs).mono ?_
  rintro e w4 ⟨rfl, bq⟩
  dsimp only
  (try simp only [List.getElem_toArray, List.getElem_cons_zero, List.getElem_cons_succ, Act.put, List.setIfInBounds_toArray, List.set_cons_zero, List.set_cons_succ])
  refine hK.out _ _ ⟨hHeld.1.below bq, ⟨_, hHeld.2.1.choose_spec.below bq⟩, hHeld.2.2.call bq⟩ (fun hHeld => ?_)
  clear hK K bq bs
  generalize hRR : mnA r n gSort = RR at *
  (refine wpAnyH_take (i := 4) (v := ?_) rfl (by kernel_rfl) (by kernel_rfl) (by kernel_rfl) (fun _ _ _ h => h) (Or.inl ⟨by rfl, ?_⟩) hHeld ?_; rotate_left; (· (intro w' hSw; go_simp; try with_reducible rfl)); (try simp only [List.getElem_toArray, List.getElem_cons_zero, List.getElem_cons_succ, Act.put, List.setIfInBounds_toArray, List.set_cons_zero, List.set_cons_succ])); (refine wpAnyH_take (i := 5) (v := ?_) rfl (by kernel_rfl) (by kernel_rfl) (by kernel_rfl) (fun _ _ _ h => h) (Or.inl ⟨by rfl, ?_⟩) hHeld ?_; rotate_left; (· (intro w' hSw; go_simp; try with_reducible rfl)); (try simp only [List.getElem_toArray, List.getElem_cons_zero, List.getElem_cons_succ, Act.put, List.setIfInBounds_toArray, List.set_cons_zero, List.set_cons_succ]))
  have S0 := hHeld.2.1.choose_spec
  have S1 := S0.putAll RR fl
  have S2 := hHeld.2.2.puts (b := w.heap.size + 1) (by omega) 0 (ints RR)
  have S3 := hHeld.1.putOther (b' := w.heap.size + 1) 0 (ints RR) (by omega)
  (refine wpAnyH_ready (rs := [6]) (by kernel_rfl) (by simp) ?_; refine AllReadyH.cons (o := _) rfl (fun K hK => ?_) AllReadyH.nil; (simp only [List.getElem_toArray, List.getElem_cons_zero, List.getElem_cons_succ, Region.wanted, if_true]); refine wp_store_mid _ _ _ rfl _ _ (ints RR).toArray rfl rfl (by simpa [lf] using S0.there) (by simpa [lf] using hi2) (all_oneCell_toArray (ints_one _)) ?_; (try simp only [List.getElem_toArray, List.getElem_cons_zero, List.getElem_cons_succ, Act.put, List.setIfInBounds_toArray, List.set_cons_zero, List.set_cons_succ, List.toList_toArray]); refine hK.out _ _ (⟨S3, ⟨_, S1⟩, S2⟩) (fun hHeld => ?_); clear hK K)
  (refine wpAnyH_take (i := 7) (v := ?_) rfl (by kernel_rfl) (by kernel_rfl) (by kernel_rfl) (fun _ _ _ h => h) (Or.inl ⟨by rfl, ?_⟩) hHeld ?_; rotate_left; (· (intro w' hSw; go_simp; try with_reducible rfl)); (try simp only [List.getElem_toArray, List.getElem_cons_zero, List.getElem_cons_succ, Act.put, List.setIfInBounds_toArray, List.set_cons_zero, List.set_cons_succ]))
  refine wpAnyH_done (by kernel_rfl) ?_ _
  clear hHeld
  go_wp2_with fail
  exact bodyPost_ret (res_has1 rfl _ _ (w.heap.size + 1) RR 2 _ (.bool (BhOk r n)) rfl rfl S1 Try.underlying33 rfl (by kernel_rfl)) rfl ⟨by rw [← hRR], S2⟩

set_option maxHeartbeats 800000 in
theorem oneStuck_any (x : List Int) (s : Nat) (w : World) (G : GR x) (hs : Bk w s [.func (Fn.func 55) #[] #[]] 69) :
    Calls Try.prog 91 #[.agg (ints x).toArray, .pointer (some ⟨s, 0, none⟩)] w fun e w' => e = .returned (.int .i64 (gStuck x : Nat)) ∧ Kept w w' := by
  have h24 := G.1
  have H := Has.box w 42 h24 (by omega)
  have HB := Lib.hid ((kept_refl w).alloc (.cells (ints x).toArray 42))
  have c0 := (hs.alloc (.cells (ints x).toArray 42)).cell 0 rfl
  have KI := Lib.hid (fun W => implStuck x W h24)
  have E := Lib.hid (show gStuck x = if stuckA x = true then 1 else 0 from rfl)
  go_enter Try.func91, Try.ntmps91
  go_wp2_with (refine load_has rfl 42 _ rfl _ rfl ?_ 24 ?_ _ Try.underlying42 rfl ?_ ?_; rotate_left; (· (repeat (first | (with_reducible assumption) | ((with_reducible refine Has.box _ _ ?_ ?_) <;> (first | assumption | decide)) | (with_reducible refine Has.alloc ?_ _) | ((with_reducible refine Has.putOther ?_ _ _ ?_); rotate_left; omega; skip) | ((with_reducible refine Has.below ?_ ?_); rotate_left; assumption)))); (· kernel_rfl))
  refine (KI.out _).mono ?_
  rintro e w1 ⟨rfl, b1⟩
  have HB1 := Lib.hid (HB.out.call b1)
  cases hb : stuckA x with
  | true =>
    have E2 := Lib.hid (show gStuck x = 1 by rw [E.out, hb]; rfl)
    clear b1
    go_wp2_with fail
    go_ret
    exact ⟨by rw [E2.out]; rfl, HB1.out⟩
  | false =>
    have E2 := Lib.hid (show gStuck x = 0 by rw [E.out, hb]; rfl)
    clear b1
    go_wp2_with fail
    go_ret
    exact ⟨by rw [E2.out]; rfl, HB1.out⟩

set_option maxHeartbeats 1600000 in
set_option maxRecDepth 100000 in
theorem implChanceStuck (r : List Int) (n : Int) (w : World) (h24 : r.length = 24) :
    Calls Try.prog 23 #[row r, .int .i64 n] w fun e w' => e = .returned (.tuple #[.agg (ints (mnA r n gStuck)).toArray, .bool (BhOk r n)]) ∧ Kept w w' := by
  have H := (Has.box w 42 h24 (by omega)).alloc (.cells #[.int .i64 0, .int .i64 0] 33)
  have Z := (Has.zero2v (w.alloc (.cells (ints r).toArray 42)) 33).at (size1 _ _)
  have HB := Lib.hid (((kept_refl w).alloc (.cells (ints r).toArray 42)).alloc (.cells #[.int .i64 0, .int .i64 0] 33))
  have li : (ints r).length = 24 := by rw [ints_len]; exact h24
  have hi1 : (Try.prog.info? 42).map (·.size) = some (ints r).length := by rw [li]; kernel_rfl
  have fl := mnA_len r n gStuck
  have lf : (ints (mnA r n gStuck)).length = 2 := by rw [ints_len]; exact fl
  have hi2 : (Try.prog.info? 33).map (·.size) = some (ints (mnA r n gStuck)).length := by rw [lf]; kernel_rfl
  have KO := Lib.hid (fun W => oneIf_any (.func (Fn.func 55) #[] #[]) rfl W)
  have KM := Lib.hid (fun (s : Nat) (W : World) (hs : Bk W s [.func (Fn.func 55) #[] #[]] 69) => mean_any1 91 s gStuck r n W h24 (fun x _ => gStuck_le x) (fun V hV x gx => oneStuck_any x s V gx (hs.below hV)) (fun x V => enters_of Try.func91 (by kernel_rfl) rfl _ V))
  rw [row_ints]
  go_enter Try.func23, Try.ntmps23
  go_wp2_with fail
  refine wp_region_held_drew (S := fun w' => Has w' w.heap.size r 24 ∧ (∃ zs, Has w' (w.heap.size + 1) zs 2) ∧ Kept w w') (by kernel_rfl) ⟨H.drew, ⟨_, Z.drew⟩, HB.out.drewN 1⟩ (fun hHeld => ?_)
  clear H Z HB
  generalize World.drew _ = WD at *
  (refine wpAnyH_take (i := 1) (v := ?_) rfl (by kernel_rfl) (by kernel_rfl) (by kernel_rfl) (fun _ _ _ h => h) (Or.inl ⟨by rfl, ?_⟩) hHeld ?_; rotate_left; (· (intro w' hSw; go_simp; try with_reducible rfl)); (try simp only [List.getElem_toArray, List.getElem_cons_zero, List.getElem_cons_succ, Act.put, List.setIfInBounds_toArray, List.set_cons_zero, List.set_cons_succ]))
  (refine wpAnyH_take (i := 0) (v := _) rfl (by kernel_rfl) (by kernel_rfl) (by kernel_rfl) (fun _ _ _ h => h) (yieldsIf_load_mid (by rfl) 42 _ rfl _ _ rfl (ints r) _ (fun w' hSw => hSw.1.holds.range) Try.underlying42 rfl (hi1)) hHeld ?_; (try simp only [List.getElem_toArray, List.getElem_cons_zero, List.getElem_cons_succ, Act.put, List.setIfInBounds_toArray, List.set_cons_zero, List.set_cons_succ]))
  (refine wpAnyH_ready (rs := [2]) (by kernel_rfl) (by simp) ?_; refine AllReadyH.cons (o := _) rfl (fun K hK => ?_) AllReadyH.nil; (simp only [List.getElem_toArray, List.getElem_cons_zero, List.getElem_cons_succ, Region.wanted, if_true]))
  go_simp
  refine (KO.out _).mono ?_
  rintro e w3 ⟨rfl, bs, bq⟩
  dsimp only
  (try simp only [List.getElem_toArray, List.getElem_cons_zero, List.getElem_cons_succ, Act.put, List.setIfInBounds_toArray, List.set_cons_zero, List.set_cons_succ])
  refine hK.out _ _ ⟨hHeld.1.below bq, ⟨_, hHeld.2.1.choose_spec.below bq⟩, hHeld.2.2.call bq⟩ (fun hHeld => ?_)
  clear hK K bq
  (refine wpAnyH_ready (rs := [3]) (by kernel_rfl) (by simp) ?_; refine AllReadyH.cons (o := _) rfl (fun K hK => ?_) AllReadyH.nil; (simp only [List.getElem_toArray, List.getElem_cons_zero, List.getElem_cons_succ, Region.wanted, if_true]))
  go_simp
  refine (KM.out _ _ bs).mono ?_
  rintro e w4 ⟨rfl, bq⟩
  dsimp only
  (try simp only [List.getElem_toArray, List.getElem_cons_zero, List.getElem_cons_succ, Act.put, List.setIfInBounds_toArray, List.set_cons_zero, List.set_cons_succ])
  refine hK.out _ _ ⟨hHeld.1.below bq, ⟨_, hHeld.2.1.choose_spec.below bq⟩, hHeld.2.2.call bq⟩ (fun hHeld => ?_)
  clear hK K bq bs
  generalize hRR : mnA r n gStuck = RR at *
  (refine wpAnyH_take (i := 4) (v := ?_) rfl (by kernel_rfl) (by kernel_rfl) (by kernel_rfl) (fun _ _ _ h => h) (Or.inl ⟨by rfl, ?_⟩) hHeld ?_; rotate_left; (· (intro w' hSw; go_simp; try with_reducible rfl)); (try simp only [List.getElem_toArray, List.getElem_cons_zero, List.getElem_cons_succ, Act.put, List.setIfInBounds_toArray, List.set_cons_zero, List.set_cons_succ])); (refine wpAnyH_take (i := 5) (v := ?_) rfl (by kernel_rfl) (by kernel_rfl) (by kernel_rfl) (fun _ _ _ h => h) (Or.inl ⟨by rfl, ?_⟩) hHeld ?_; rotate_left; (· (intro w' hSw; go_simp; try with_reducible rfl)); (try simp only [List.getElem_toArray, List.getElem_cons_zero, List.getElem_cons_succ, Act.put, List.setIfInBounds_toArray, List.set_cons_zero, List.set_cons_succ]))
  have S0 := hHeld.2.1.choose_spec
  have S1 := S0.putAll RR fl
  have S2 := hHeld.2.2.puts (b := w.heap.size + 1) (by omega) 0 (ints RR)
  have S3 := hHeld.1.putOther (b' := w.heap.size + 1) 0 (ints RR) (by omega)
  (refine wpAnyH_ready (rs := [6]) (by kernel_rfl) (by simp) ?_; refine AllReadyH.cons (o := _) rfl (fun K hK => ?_) AllReadyH.nil; (simp only [List.getElem_toArray, List.getElem_cons_zero, List.getElem_cons_succ, Region.wanted, if_true]); refine wp_store_mid _ _ _ rfl _ _ (ints RR).toArray rfl rfl (by simpa [lf] using S0.there) (by simpa [lf] using hi2) (all_oneCell_toArray (ints_one _)) ?_; (try simp only [List.getElem_toArray, List.getElem_cons_zero, List.getElem_cons_succ, Act.put, List.setIfInBounds_toArray, List.set_cons_zero, List.set_cons_succ, List.toList_toArray]); refine hK.out _ _ (⟨S3, ⟨_, S1⟩, S2⟩) (fun hHeld => ?_); clear hK K)
  (refine wpAnyH_take (i := 7) (v := ?_) rfl (by kernel_rfl) (by kernel_rfl) (by kernel_rfl) (fun _ _ _ h => h) (Or.inl ⟨by rfl, ?_⟩) hHeld ?_; rotate_left; (· (intro w' hSw; go_simp; try with_reducible rfl)); (try simp only [List.getElem_toArray, List.getElem_cons_zero, List.getElem_cons_succ, Act.put, List.setIfInBounds_toArray, List.set_cons_zero, List.set_cons_succ]))
  refine wpAnyH_done (by kernel_rfl) ?_ _
  clear hHeld
  go_wp2_with fail
  exact bodyPost_ret (res_has1 rfl _ _ (w.heap.size + 1) RR 2 _ (.bool (BhOk r n)) rfl rfl S1 Try.underlying33 rfl (by kernel_rfl)) rfl ⟨by rw [← hRR], S2⟩

set_option maxHeartbeats 800000 in
theorem runs1_any (x : List Int) (w : World) (G : GR x) :
    Calls Try.prog 56 #[.agg (ints x).toArray] w fun e w' => e = .returned (.int .i64 (gRuns x : Nat)) ∧ Kept w w' := by
  have h24 := G.1
  have H := Has.box w 42 h24 (by omega)
  have HB := Lib.hid ((kept_refl w).alloc (.cells (ints x).toArray 42))
  have KI := Lib.hid (fun W => implCountRuns x W h24)
  have E : runsA x = (gRuns x : Nat) := by unfold runsA gRuns; rw [if_pos G.2]
  rw [E] at KI
  clear E
  go_enter Try.func56, Try.ntmps56
  go_wp2_with (refine load_has rfl 42 _ rfl _ rfl ?_ 24 ?_ _ Try.underlying42 rfl ?_ ?_; rotate_left; (· (repeat (first | (with_reducible assumption) | ((with_reducible refine Has.box _ _ ?_ ?_) <;> (first | assumption | decide)) | (with_reducible refine Has.alloc ?_ _) | ((with_reducible refine Has.putOther ?_ _ _ ?_); rotate_left; omega; skip) | ((with_reducible refine Has.below ?_ ?_); rotate_left; assumption)))); (· kernel_rfl))
  refine (KI.out _).mono ?_
  rintro e w1 ⟨rfl, b1⟩
  have HB1 := Lib.hid (HB.out.call b1)
  clear b1
  go_wp2_with fail
  go_ret
  exact ⟨rfl, HB1.out⟩

set_option maxHeartbeats 1600000 in
set_option maxRecDepth 100000 in
theorem implMeanRuns (r : List Int) (n : Int) (w : World) (h24 : r.length = 24) :
    Calls Try.prog 25 #[row r, .int .i64 n] w fun e w' => e = .returned (.tuple #[.agg (ints (mnA r n gRuns)).toArray, .bool (BhOk r n)]) ∧ Kept w w' := by
  have H := (Has.box w 42 h24 (by omega)).alloc (.cells #[.int .i64 0, .int .i64 0] 33)
  have Z := (Has.zero2v (w.alloc (.cells (ints r).toArray 42)) 33).at (size1 _ _)
  have HB := Lib.hid (((kept_refl w).alloc (.cells (ints r).toArray 42)).alloc (.cells #[.int .i64 0, .int .i64 0] 33))
  have fl := mnA_len r n gRuns
  have KM := Lib.hid (fun (W : World) => mean_any0 56 gRuns r n W h24 (fun x gx => gRuns_le gx) (fun V _ x gx => runs1_any x V gx) (fun x V => enters_of Try.func56 (by kernel_rfl) rfl _ V))
  rw [row_ints]
  go_enter Try.func25, Try.ntmps25
  go_wp2_with (refine load_has rfl 42 _ rfl _ rfl ?_ 24 ?_ _ Try.underlying42 rfl ?_ ?_; rotate_left; (· (repeat (first | (with_reducible assumption) | ((with_reducible refine Has.box _ _ ?_ ?_) <;> (first | assumption | decide)) | (with_reducible refine Has.alloc ?_ _) | ((with_reducible refine Has.putOther ?_ _ _ ?_); rotate_left; omega; skip) | ((with_reducible refine Has.below ?_ ?_); rotate_left; assumption)))); (· kernel_rfl))
  refine (KM.out _).mono ?_
  rintro e w1 ⟨rfl, b1⟩
  have Z1 := Z.below b1
  have S1 := Lib.hid (Z1.putAll (mnA r n gRuns) fl)
  have S2 := Lib.hid ((HB.out.call b1).puts (b := w.heap.size + 1) (by omega) 0 (ints (mnA r n gRuns)))
  clear b1 H Z HB
  go_wp2_with (refine store_at rfl 33 _ _ rfl _ _ rfl rfl ?_ 2 ?_ ?_ ?_ ?_; rotate_left; (· (repeat (first | (with_reducible assumption) | ((with_reducible refine Has.box _ _ ?_ ?_) <;> (first | assumption | decide)) | (with_reducible refine Has.alloc ?_ _) | ((with_reducible refine Has.putOther ?_ _ _ ?_); rotate_left; omega; skip) | ((with_reducible refine Has.below ?_ ?_); rotate_left; assumption)))); (· (first | assumption | rfl)); (· kernel_rfl))
  exact bodyPost_ret (res_has1 rfl _ _ (w.heap.size + 1) (mnA r n gRuns) 2 _ (.bool (BhOk r n)) rfl rfl S1.out Try.underlying33 rfl (by kernel_rfl)) rfl ⟨rfl, S2.out⟩

/-- The number of ends, whatever list has them all, none twice. -/
def EndsPost (r : List Int) (n : Int) (w : World) (e : Ending) (w' : World) : Prop :=
  ((BhOk r n = true ∧ ∃ K : List (List Int), e = .returned (.tuple #[.int .i64 (K.length : Nat), .bool true]) ∧ K.Nodup ∧ ∀ x, x ∈ K ↔ endP n.toNat r x) ∨ (BhOk r n = false ∧ e = .returned (.tuple #[.int .i64 0, .bool false]))) ∧ Kept w w'
set_option maxHeartbeats 1600000 in
set_option maxRecDepth 100000 in
theorem implEnds (r : List Int) (n : Int) (w : World) (h24 : r.length = 24) :
    Calls Try.prog 29 #[row r, .int .i64 n] w (EndsPost r n w) := by
  have H := Has.box w 42 h24 (by omega)
  have HB := Lib.hid ((kept_refl w).alloc (.cells (ints r).toArray 42))
  rw [row_ints]
  go_enter Try.func29, Try.ntmps29
  go_wp2_with (refine load_has rfl 42 _ rfl _ rfl ?_ 24 ?_ _ Try.underlying42 rfl ?_ ?_; rotate_left; (· (repeat (first | (with_reducible assumption) | ((with_reducible refine Has.box _ _ ?_ ?_) <;> (first | assumption | decide)) | (with_reducible refine Has.alloc ?_ _) | ((with_reducible refine Has.putOther ?_ _ _ ?_); rotate_left; omega; skip) | ((with_reducible refine Has.below ?_ ?_); rotate_left; assumption)))); (· kernel_rfl))
  refine (behind_any r n _ h24).mono ?_
  rintro e w1 ⟨hp, b1⟩
  replace HB := Lib.hid (HB.out.call b1)
  clear H b1
  rcases hp with ⟨hok, all, mb, K, W, rfl, q1, BH⟩ | ⟨hno, rfl⟩
  · have BP := Bk.box w1 (plC all mb) 92
    have HB2 := Lib.hid (HB.out.alloc (.cells (plC all mb).toArray 92))
    have c1 := BP.cell 1 (v := .map (some mb)) rfl
    have PM := q1.alloc (.cells (plC all mb).toArray 92)
    have LENM := fun ty => OwnV.len PM Try.underlying90 ty
    have OK := Lib.hid hok
    have BHH := Lib.hid BH
    clear q1 hok BH PM
    go_wp2_with (refine store_newbk rfl 92 _ _ rfl w1 z92.toArray 92 rfl _ rfl (plC all mb) rfl rfl rfl (plC_one _ _) ?_ ?_; (· kernel_rfl))
    go_ret2
    exact ⟨.inl ⟨OK.out, K, rfl, BHH.out.tab.nodup, BHH.out.ends⟩, HB2.out⟩
  · have BP := Bk.box w1 z92 92
    have HB2 := Lib.hid (HB.out.alloc (.cells z92.toArray 92))
    have c1 := BP.cell 1 (v := .map none) rfl
    have zz : ∀ v ∈ z92, v.oneCell' = true := by
      intro v hv
      unfold z92 at hv
      simp only [List.mem_cons, List.not_mem_nil, or_false] at hv
      rcases hv with rfl | rfl <;> rfl
    have OK := Lib.hid hno
    clear hno
    go_wp2_with (refine store_newbk rfl 92 _ _ rfl w1 z92.toArray 92 rfl _ rfl z92 rfl rfl rfl zz ?_ ?_; (· kernel_rfl))
    go_ret2
    exact ⟨.inr ⟨OK.out, rfl⟩, HB2.out⟩
end Go.Proofs.Ytemiljokdedidac.base
