/-
  How many layers a pour by a rule moves, on the program's side, walked.
-/
/-
  Pours by a rule, on the program's side, walked.
-/
import Derived.Test.YtglhinihhlmgeacMvrIZ
import Derived.Deep.Cut
import Derived.Deep.CutRange

section
namespace Go.Proofs.Ytglhinihhlmgeac.base
open Go.ChangeShapes Go.WideShapes Go.ChangeAt Go.RowKit
set_option linter.unusedVariables false
set_option linter.unusedSimpArgs false

theorem meth1 (w : World) : Sem.run Try.prog (method 226 101 (.agg #[]) "Moves") w = .ok (87, .agg #[]) w := by kernel_rfl
theorem meth2 (w : World) : Sem.run Try.prog (method 226 102 (.agg #[]) "Moves") w = .ok (90, .agg #[]) w := by kernel_rfl
theorem meth3 (w : World) : Sem.run Try.prog (method 226 103 (.agg #[]) "Moves") w = .ok (91, .agg #[]) w := by kernel_rfl
theorem meth4 (w : World) : Sem.run Try.prog (method 226 104 (.agg #[]) "Moves") w = .ok (92, .agg #[]) w := by kernel_rfl
theorem pg_cellF (ds : List Int) (x : Int) (h : ds.length = 6) : (pgA ds x)[6]? = some (pgF x) := by
  obtain ⟨a, b, c, d, e, f, rfl⟩ := list6 h
  rfl
theorem pg_cellD (ds : List Int) (x : Int) (h : ds.length = 6) (q : Nat) (hq : q < 6) : (pgA ds x)[q]? = some (.int .i64 (ds.getD q 0)) := by
  obtain ⟨a, b, c, d, e, f, rfl⟩ := list6 h
  match q, hq with
  | 0, _ => rfl
  | 1, _ => rfl
  | 2, _ => rfl
  | 3, _ => rfl
  | 4, _ => rfl
  | 5, _ => rfl
def mvI (ns ds : List Int) (x i j : Int) : Nat := if (0 ≤ i ∧ i < 6) ∧ (0 ≤ j ∧ j < 6) then mvN ns ds x i.toNat j.toNat else 0
theorem mvI_nat {ns ds : List Int} {x : Int} {p q : Nat} (hp : p < 6) (hq : q < 6) : mvI ns ds x (p : Int) (q : Int) = mvN ns ds x p q := by
  unfold mvI; rw [if_pos (by omega)]; simp
theorem pb_mvI (ns ds : List Int) (x i j : Int) (h : byOk ns ds x = true) : pbOk ns ds x i j = decide (0 < mvI ns ds x i j) := by
  unfold pbOk mvI
  rw [show (fitA ns ds && ruleV x) = true from h, Bool.true_and]
  by_cases hi : 0 ≤ i ∧ i < 6
  · by_cases hj : 0 ≤ j ∧ j < 6
    · rw [decide_eq_true hi, decide_eq_true hj, if_pos ⟨hi, hj⟩]; rfl
    · rw [decide_eq_false hj, if_neg (fun e => hj e.2), Bool.and_false]; rfl
  · rw [decide_eq_false hi, if_neg (fun e => hi e.1)]; rfl

set_option maxHeartbeats 6400000 in
set_option maxRecDepth 100000 in
theorem moved_any (ns ds : List Int) (x i j : Int) (w : World) (h24 : ns.length = 24) (h6 : ds.length = 6) (hok : byOk ns ds x = true) :
    Calls Try.prog 39 #[.agg (pgA ds x).toArray, row ns, .int .i64 i, .int .i64 j] w fun e w' => e = .returned (.int .i64 (mvI ns ds x i j : Nat)) ∧ Kept w w' := by
  have HB := Lib.hid (((kept_refl w).alloc (.cells (pgA ds x).toArray 58)).alloc (.cells (ints ns).toArray 27))
  have G := (Bk.box w (pgA ds x) 58).alloc (.cells (ints ns).toArray 27)
  have H := (Has.box (w.alloc (.cells (pgA ds x).toArray 58)) 27 h24 (by omega)).at (size1 _ _)
  have hfit : fitA ns ds = true := (Bool.and_eq_true_iff.1 hok).1
  have hrule : ruleV x = true := (Bool.and_eq_true_iff.1 hok).2
  have hv := (fit_of hfit).1
  rw [row_ints]
  go_enter Try.func39, Try.ntmps39
  by_cases hne : i = j
  · subst hne
    have R := Lib.hid (show mvI ns ds x i i = 0 by
      unfold mvI; split
      · unfold mvN; rw [if_pos rfl]
      · rfl)
    go_wp2_with fail
    go_ret
    exact ⟨ret_int (by rw [R.out]; rfl), HB.out⟩
  · have e1 : (i == j) = false := by simp [hne]
    go_wp2_with fail
    refine (isPlace_any i _).mono ?_
    rintro e w' ⟨rfl, rfl⟩
    by_cases hp : 0 ≤ i ∧ i < 6
    · rw [decide_eq_true hp]
      obtain ⟨p, rfl⟩ : ∃ p : Nat, i = (p : Int) := ⟨i.toNat, by omega⟩
      have hp6 : p < 6 := by omega
      have hpi : (p : Int) < 6 := by omega
      clear hp
      go_wp2_with fail
      refine (isPlace_any j _).mono ?_
      rintro e w' ⟨rfl, rfl⟩
      by_cases hq : 0 ≤ j ∧ j < 6
      · rw [decide_eq_true hq]
        obtain ⟨q, rfl⟩ : ∃ q : Nat, j = (q : Int) := ⟨j.toNat, by omega⟩
        have hq6 : q < 6 := by omega
        have hqi : (q : Int) < 6 := by omega
        clear hq
        have sA := tub_len ns p h24 hp6
        have sB := tub_len ns q h24 hq6
        have vA := vR_tub hv p hp6
        have vB := vR_tub hv q hq6
        have lA : (ints (tub ns p)).length = 4 := by rw [ints_len]; exact sA
        have lB : (ints (tub ns q)).length = 4 := by rw [ints_len]; exact sB
        have hiA : (Try.prog.info? 24).map (·.size) = some (ints (tub ns p)).length := by rw [lA]; kernel_rfl
        have hiB : (Try.prog.info? 24).map (·.size) = some (ints (tub ns q)).length := by rw [lB]; kernel_rfl
        have hiS : (Try.prog.info? 76).map (·.size) = some (ints (tub ns p)).length := by rw [lA]; kernel_rfl
        have hiT : (Try.prog.info? 76).map (·.size) = some (ints (tub ns q)).length := by rw [lB]; kernel_rfl
        have FA := tubeFacts sA vA
        have FB := tubeFacts sB vB
        have RE := room_eq h24 hfit q hq6
        have DE := vD_at (fit_of hfit).2.1 q hq6
        have hl4 := FB.lay4
        have R := Lib.hid (show mvI ns ds x (p : Int) (q : Int) = mvT x (tub ns p) (tub ns q) (roomD ns ds q) by
          rw [mvI_nat hp6 hq6]; unfold mvN; rw [if_neg (by omega)])
        have CF := Lib.hid (pg_cellF ds x h6)
        have CD := Lib.hid (pg_cellD ds x h6 q hq6)
        clear hne FA
        go_wp2_with fail
        go_cut [9, 10] from 24 to 31 (fun s9 s10 wx => ∃ F T : Nat, s9 = .pointer (some ⟨F, 0, none⟩) ∧ s10 = .pointer (some ⟨T, 0, none⟩) ∧ Has wx F (tub ns p) 4 ∧ Has wx T (tub ns q) 4 ∧ Bk wx w.heap.size (pgA ds x) 58 ∧ Hid (Kept w wx))
        case first =>
          have H0 := H.drew
          clear H
          generalize hW : ((w.alloc (.cells (pgA ds x).toArray 58)).alloc (.cells (ints ns).toArray 27)) = W at *
          have hWs : W.heap.size = w.heap.size + 1 + 1 := by rw [← hW]; simp
          clear hW
          refine wp_region_held_drew (S := fun w' => Has w' (w.heap.size + 1) ns 24) (by kernel_rfl) H0 (fun hHeld => ?_)
          (refine wpAnyH_take (i := 0) (v := ?_) rfl (by kernel_rfl) (by kernel_rfl) (by kernel_rfl) (fun _ _ _ h => h) (Or.inl ⟨by rfl, ?_⟩) hHeld ?_; rotate_left; (· (intro w' hSw; go_simp; try with_reducible rfl)); (try simp only [List.getElem_toArray, List.getElem_cons_zero, List.getElem_cons_succ, Act.put, List.setIfInBounds_toArray, List.set_cons_zero, List.set_cons_succ])); (refine wpAnyH_take (i := 1) (v := ?_) rfl (by kernel_rfl) (by kernel_rfl) (by kernel_rfl) (fun _ _ _ h => h) (Or.inl ⟨by rfl, ?_⟩) hHeld ?_; rotate_left; (· (intro w' hSw; go_simp; try with_reducible rfl)); (try simp only [List.getElem_toArray, List.getElem_cons_zero, List.getElem_cons_succ, Act.put, List.setIfInBounds_toArray, List.set_cons_zero, List.set_cons_succ])); (refine wpAnyH_take (i := 2) (v := ?_) rfl (by kernel_rfl) (by kernel_rfl) (by kernel_rfl) (fun _ _ _ h => h) (Or.inl ⟨by rfl, ?_⟩) hHeld ?_; rotate_left; (· (intro w' hSw; go_simp; try with_reducible rfl)); (try simp only [List.getElem_toArray, List.getElem_cons_zero, List.getElem_cons_succ, Act.put, List.setIfInBounds_toArray, List.set_cons_zero, List.set_cons_succ])); (refine wpAnyH_take (i := 4) (v := ?_) rfl (by kernel_rfl) (by kernel_rfl) (by kernel_rfl) (fun _ _ _ h => h) (Or.inl ⟨by rfl, ?_⟩) hHeld ?_; rotate_left; (· (intro w' hSw; go_simp; try with_reducible rfl)); (try simp only [List.getElem_toArray, List.getElem_cons_zero, List.getElem_cons_succ, Act.put, List.setIfInBounds_toArray, List.set_cons_zero, List.set_cons_succ])); (refine wpAnyH_take (i := 5) (v := ?_) rfl (by kernel_rfl) (by kernel_rfl) (by kernel_rfl) (fun _ _ _ h => h) (Or.inl ⟨by rfl, ?_⟩) hHeld ?_; rotate_left; (· (intro w' hSw; go_simp; try with_reducible rfl)); (try simp only [List.getElem_toArray, List.getElem_cons_zero, List.getElem_cons_succ, Act.put, List.setIfInBounds_toArray, List.set_cons_zero, List.set_cons_succ])); (refine wpAnyH_take (i := 6) (v := ?_) rfl (by kernel_rfl) (by kernel_rfl) (by kernel_rfl) (fun _ _ _ h => h) (Or.inl ⟨by rfl, ?_⟩) hHeld ?_; rotate_left; (· (intro w' hSw; go_simp; try with_reducible rfl)); (try simp only [List.getElem_toArray, List.getElem_cons_zero, List.getElem_cons_succ, Act.put, List.setIfInBounds_toArray, List.set_cons_zero, List.set_cons_succ]))
          (refine wpAnyH_take (i := 3) (v := _) rfl (by kernel_rfl) (by kernel_rfl) (by kernel_rfl) (fun _ _ _ h => h) (yieldsIf_load_mid (by rfl) 24 _ rfl _ _ rfl (ints (tub ns p)) _ (fun w' hSw => hSw.holds.sub (p * 4) 4) Try.underlying24 rfl (hiA)) hHeld ?_; (try simp only [List.getElem_toArray, List.getElem_cons_zero, List.getElem_cons_succ, Act.put, List.setIfInBounds_toArray, List.set_cons_zero, List.set_cons_succ]))
          (refine wpAnyH_take (i := 7) (v := _) rfl (by kernel_rfl) (by kernel_rfl) (by kernel_rfl) (fun _ _ _ h => h) (yieldsIf_load_mid (by rfl) 24 _ rfl _ _ rfl (ints (tub ns q)) _ (fun w' hSw => hSw.holds.sub (q * 4) 4) Try.underlying24 rfl (hiB)) hHeld ?_; (try simp only [List.getElem_toArray, List.getElem_cons_zero, List.getElem_cons_succ, Act.put, List.setIfInBounds_toArray, List.set_cons_zero, List.set_cons_succ]))
          refine wpAnyH_ready (rs := [8, 9]) (by kernel_rfl) (by simp) ?_
          refine AllReadyH.cons (o := _) rfl (fun K hK => ?_) (AllReadyH.cons (o := _) rfl (fun K hK => ?_) AllReadyH.nil)
          · (simp only [List.getElem_toArray, List.getElem_cons_zero, List.getElem_cons_succ, Region.wanted, if_true])
            go_simp
            (try simp only [List.getElem_toArray, List.getElem_cons_zero, List.getElem_cons_succ, Act.put, List.setIfInBounds_toArray, List.set_cons_zero, List.set_cons_succ])
            refine hK.out _ _ (hHeld.alloc _) (fun hHeld => ?_)
            clear hK K
            (refine wpAnyH_ready (rs := [9]) (by kernel_rfl) (by simp) ?_; refine AllReadyH.cons (o := _) rfl (fun K hK => ?_) AllReadyH.nil; (simp only [List.getElem_toArray, List.getElem_cons_zero, List.getElem_cons_succ, Region.wanted, if_true]))
            go_simp
            (try simp only [List.getElem_toArray, List.getElem_cons_zero, List.getElem_cons_succ, Act.put, List.setIfInBounds_toArray, List.set_cons_zero, List.set_cons_succ])
            refine hK.out _ _ (hHeld.alloc _) (fun hHeld => ?_)
            clear hK K
            have Z1 : Has ((W.alloc (.cells #[.int .i64 0, .int .i64 0, .int .i64 0, .int .i64 0] 76)).alloc (.cells #[.int .i64 0, .int .i64 0, .int .i64 0, .int .i64 0] 76)).drew (w.heap.size + 1 + 1) [0, 0, 0, 0] 4 := (((Has.zero W 76).alloc (.cells #[.int .i64 0, .int .i64 0, .int .i64 0, .int .i64 0] 76)).drew).at hWs
            have Z2 : Has ((W.alloc (.cells #[.int .i64 0, .int .i64 0, .int .i64 0, .int .i64 0] 76)).alloc (.cells #[.int .i64 0, .int .i64 0, .int .i64 0, .int .i64 0] 76)).drew (w.heap.size + 1 + 1 + 1) [0, 0, 0, 0] 4 := ((Has.zero2 W (.cells #[.int .i64 0, .int .i64 0, .int .i64 0, .int .i64 0] 76) 76).drew).at (by rw [hWs])
            have G1 := ((G.alloc (.cells #[.int .i64 0, .int .i64 0, .int .i64 0, .int .i64 0] 76)).alloc (.cells #[.int .i64 0, .int .i64 0, .int .i64 0, .int .i64 0] 76)).drew
            have K1 := ((HB.out.alloc (.cells #[.int .i64 0, .int .i64 0, .int .i64 0, .int .i64 0] 76)).alloc (.cells #[.int .i64 0, .int .i64 0, .int .i64 0, .int .i64 0] 76)).drewN 1
            have F0 : Has ((W.alloc (.cells #[.int .i64 0, .int .i64 0, .int .i64 0, .int .i64 0] 76)).alloc (.cells #[.int .i64 0, .int .i64 0, .int .i64 0, .int .i64 0] 76)).drew (w.heap.size + 1 + 1) [0, 0, 0, 0] 4 := Z1
            have T0 : Has ((W.alloc (.cells #[.int .i64 0, .int .i64 0, .int .i64 0, .int .i64 0] 76)).alloc (.cells #[.int .i64 0, .int .i64 0, .int .i64 0, .int .i64 0] 76)).drew (w.heap.size + 1 + 1 + 1) [0, 0, 0, 0] 4 := Z2
            have F1 := F0.putAll (tub ns p) sA
            have T1 := T0.putOther (b' := w.heap.size + 1 + 1) 0 (ints (tub ns p)) (by omega)
            have G2 := G1.putOther (q := w.heap.size + 1 + 1) 0 (ints (tub ns p)) (by omega)
            have K2 := K1.puts (b := w.heap.size + 1 + 1) (by omega) 0 (ints (tub ns p))
            have T2 := T1.putAll (tub ns q) sB
            have F2 := F1.putOther (b' := w.heap.size + 1 + 1 + 1) 0 (ints (tub ns q)) (by omega)
            have G3 := G2.putOther (q := w.heap.size + 1 + 1 + 1) 0 (ints (tub ns q)) (by omega)
            have K3 := K2.puts (b := w.heap.size + 1 + 1 + 1) (by omega) 0 (ints (tub ns q))
            have ft := F0.there
            have tt := T1.there
            (refine wpAnyH_ready (rs := [10]) (by kernel_rfl) (by simp) ?_; refine AllReadyH.cons (o := _) rfl (fun K hK => ?_) AllReadyH.nil; (simp only [List.getElem_toArray, List.getElem_cons_zero, List.getElem_cons_succ, Region.wanted, if_true]); refine wp_store_mid _ _ _ rfl _ _ (ints (tub ns p)).toArray rfl rfl (by simpa [ints_len, sA] using ft) (by simpa [ints_len, sA] using hiS) (all_oneCell_toArray (ints_one _)) ?_; (try simp only [List.getElem_toArray, List.getElem_cons_zero, List.getElem_cons_succ, Act.put, List.setIfInBounds_toArray, List.set_cons_zero, List.set_cons_succ, List.toList_toArray]); refine hK.out _ _ (hHeld.putOther _ _ (by omega)) (fun hHeld => ?_); clear hK K)
            (refine wpAnyH_ready (rs := [11]) (by kernel_rfl) (by simp) ?_; refine AllReadyH.cons (o := _) rfl (fun K hK => ?_) AllReadyH.nil; (simp only [List.getElem_toArray, List.getElem_cons_zero, List.getElem_cons_succ, Region.wanted, if_true]); refine wp_store_mid _ _ _ rfl _ _ (ints (tub ns q)).toArray rfl rfl (by simpa [ints_len, sB] using tt) (by simpa [ints_len, sB] using hiT) (all_oneCell_toArray (ints_one _)) ?_; (try simp only [List.getElem_toArray, List.getElem_cons_zero, List.getElem_cons_succ, Act.put, List.setIfInBounds_toArray, List.set_cons_zero, List.set_cons_succ, List.toList_toArray]); refine hK.out _ _ (hHeld.putOther _ _ (by omega)) (fun hHeld => ?_); clear hK K)
            refine wpAnyH_done (by kernel_rfl) ?_ _
            clear hHeld
            go_wp2_with fail
            go_meet
            case rel => exact ⟨w.heap.size + 1 + 1, w.heap.size + 1 + 1 + 1, rfl, rfl, F2, T2, G3, Lib.hid K3⟩
          · (simp only [List.getElem_toArray, List.getElem_cons_zero, List.getElem_cons_succ, Region.wanted, if_true])
            go_simp
            (try simp only [List.getElem_toArray, List.getElem_cons_zero, List.getElem_cons_succ, Act.put, List.setIfInBounds_toArray, List.set_cons_zero, List.set_cons_succ])
            refine hK.out _ _ (hHeld.alloc _) (fun hHeld => ?_)
            clear hK K
            (refine wpAnyH_ready (rs := [8]) (by kernel_rfl) (by simp) ?_; refine AllReadyH.cons (o := _) rfl (fun K hK => ?_) AllReadyH.nil; (simp only [List.getElem_toArray, List.getElem_cons_zero, List.getElem_cons_succ, Region.wanted, if_true]))
            go_simp
            (try simp only [List.getElem_toArray, List.getElem_cons_zero, List.getElem_cons_succ, Act.put, List.setIfInBounds_toArray, List.set_cons_zero, List.set_cons_succ])
            refine hK.out _ _ (hHeld.alloc _) (fun hHeld => ?_)
            clear hK K
            have Z1 : Has ((W.alloc (.cells #[.int .i64 0, .int .i64 0, .int .i64 0, .int .i64 0] 76)).alloc (.cells #[.int .i64 0, .int .i64 0, .int .i64 0, .int .i64 0] 76)).drew (w.heap.size + 1 + 1) [0, 0, 0, 0] 4 := (((Has.zero W 76).alloc (.cells #[.int .i64 0, .int .i64 0, .int .i64 0, .int .i64 0] 76)).drew).at hWs
            have Z2 : Has ((W.alloc (.cells #[.int .i64 0, .int .i64 0, .int .i64 0, .int .i64 0] 76)).alloc (.cells #[.int .i64 0, .int .i64 0, .int .i64 0, .int .i64 0] 76)).drew (w.heap.size + 1 + 1 + 1) [0, 0, 0, 0] 4 := ((Has.zero2 W (.cells #[.int .i64 0, .int .i64 0, .int .i64 0, .int .i64 0] 76) 76).drew).at (by rw [hWs])
            have G1 := ((G.alloc (.cells #[.int .i64 0, .int .i64 0, .int .i64 0, .int .i64 0] 76)).alloc (.cells #[.int .i64 0, .int .i64 0, .int .i64 0, .int .i64 0] 76)).drew
            have K1 := ((HB.out.alloc (.cells #[.int .i64 0, .int .i64 0, .int .i64 0, .int .i64 0] 76)).alloc (.cells #[.int .i64 0, .int .i64 0, .int .i64 0, .int .i64 0] 76)).drewN 1
            have F0 : Has ((W.alloc (.cells #[.int .i64 0, .int .i64 0, .int .i64 0, .int .i64 0] 76)).alloc (.cells #[.int .i64 0, .int .i64 0, .int .i64 0, .int .i64 0] 76)).drew (w.heap.size + 1 + 1 + 1) [0, 0, 0, 0] 4 := Z2
            have T0 : Has ((W.alloc (.cells #[.int .i64 0, .int .i64 0, .int .i64 0, .int .i64 0] 76)).alloc (.cells #[.int .i64 0, .int .i64 0, .int .i64 0, .int .i64 0] 76)).drew (w.heap.size + 1 + 1) [0, 0, 0, 0] 4 := Z1
            have F1 := F0.putAll (tub ns p) sA
            have T1 := T0.putOther (b' := w.heap.size + 1 + 1 + 1) 0 (ints (tub ns p)) (by omega)
            have G2 := G1.putOther (q := w.heap.size + 1 + 1 + 1) 0 (ints (tub ns p)) (by omega)
            have K2 := K1.puts (b := w.heap.size + 1 + 1 + 1) (by omega) 0 (ints (tub ns p))
            have T2 := T1.putAll (tub ns q) sB
            have F2 := F1.putOther (b' := w.heap.size + 1 + 1) 0 (ints (tub ns q)) (by omega)
            have G3 := G2.putOther (q := w.heap.size + 1 + 1) 0 (ints (tub ns q)) (by omega)
            have K3 := K2.puts (b := w.heap.size + 1 + 1) (by omega) 0 (ints (tub ns q))
            have ft := F0.there
            have tt := T1.there
            (refine wpAnyH_ready (rs := [10]) (by kernel_rfl) (by simp) ?_; refine AllReadyH.cons (o := _) rfl (fun K hK => ?_) AllReadyH.nil; (simp only [List.getElem_toArray, List.getElem_cons_zero, List.getElem_cons_succ, Region.wanted, if_true]); refine wp_store_mid _ _ _ rfl _ _ (ints (tub ns p)).toArray rfl rfl (by simpa [ints_len, sA] using ft) (by simpa [ints_len, sA] using hiS) (all_oneCell_toArray (ints_one _)) ?_; (try simp only [List.getElem_toArray, List.getElem_cons_zero, List.getElem_cons_succ, Act.put, List.setIfInBounds_toArray, List.set_cons_zero, List.set_cons_succ, List.toList_toArray]); refine hK.out _ _ (hHeld.putOther _ _ (by omega)) (fun hHeld => ?_); clear hK K)
            (refine wpAnyH_ready (rs := [11]) (by kernel_rfl) (by simp) ?_; refine AllReadyH.cons (o := _) rfl (fun K hK => ?_) AllReadyH.nil; (simp only [List.getElem_toArray, List.getElem_cons_zero, List.getElem_cons_succ, Region.wanted, if_true]); refine wp_store_mid _ _ _ rfl _ _ (ints (tub ns q)).toArray rfl rfl (by simpa [ints_len, sB] using tt) (by simpa [ints_len, sB] using hiT) (all_oneCell_toArray (ints_one _)) ?_; (try simp only [List.getElem_toArray, List.getElem_cons_zero, List.getElem_cons_succ, Act.put, List.setIfInBounds_toArray, List.set_cons_zero, List.set_cons_succ, List.toList_toArray]); refine hK.out _ _ (hHeld.putOther _ _ (by omega)) (fun hHeld => ?_); clear hK K)
            refine wpAnyH_done (by kernel_rfl) ?_ _
            clear hHeld
            go_wp2_with fail
            go_meet
            case rel => exact ⟨w.heap.size + 1 + 1 + 1, w.heap.size + 1 + 1, rfl, rfl, F2, T2, G3, Lib.hid K3⟩
        clear HB H G
        obtain ⟨F, T, rfl, rfl, HF, HT, HG, HK⟩ := hcut
        obtain ⟨d, hd⟩ : ∃ d : Int, ds.getD q 0 = d := ⟨_, rfl⟩
        rw [hd] at CD RE DE
        have HD := Lib.hid hd
        clear hd
        obtain ⟨lq, hlq⟩ : ∃ lq : Nat, lay (tub ns q) = lq := ⟨_, rfl⟩
        have HLQ := Lib.hid hlq
        obtain ⟨rm, hrm⟩ : ∃ rm : Nat, roomD ns ds q = rm := ⟨_, rfl⟩
        rw [hlq] at RE hl4
        rw [hrm] at RE R
        clear hlq hrm
        have hsub : d - (lq : Int) = (rm : Int) := by omega
        have hmr : rm + lay (tub ns q) ≤ 4 := by rw [HLQ.out]; exact RE.2
        go_wp2_with fail
        refine wp_region_held_drew (S := fun w' => Has w' F (tub ns p) 4 ∧ Has w' T (tub ns q) 4 ∧ Bk w' w.heap.size (pgA ds x) 58) (by kernel_rfl) ⟨HF.drew, HT.drew, HG.drew⟩ (fun hHeld => ?_)
        have KK := Lib.hid (HK.out.drewN 1)
        (refine wpAnyH_take (i := 0) (v := ?_) rfl (by kernel_rfl) (by kernel_rfl) (by kernel_rfl) (fun _ _ _ h => h) (Or.inl ⟨by rfl, ?_⟩) hHeld ?_; rotate_left; (· (intro w' hSw; go_simp; try with_reducible rfl)); (try simp only [List.getElem_toArray, List.getElem_cons_zero, List.getElem_cons_succ, Act.put, List.setIfInBounds_toArray, List.set_cons_zero, List.set_cons_succ])); (refine wpAnyH_take (i := 4) (v := ?_) rfl (by kernel_rfl) (by kernel_rfl) (by kernel_rfl) (fun _ _ _ h => h) (Or.inl ⟨by rfl, ?_⟩) hHeld ?_; rotate_left; (· (intro w' hSw; go_simp; try with_reducible rfl)); (try simp only [List.getElem_toArray, List.getElem_cons_zero, List.getElem_cons_succ, Act.put, List.setIfInBounds_toArray, List.set_cons_zero, List.set_cons_succ])); (refine wpAnyH_take (i := 5) (v := ?_) rfl (by kernel_rfl) (by kernel_rfl) (by kernel_rfl) (fun _ _ _ h => h) (Or.inl ⟨by rfl, ?_⟩) hHeld ?_; rotate_left; (· (intro w' hSw; go_simp; try with_reducible rfl)); (try simp only [List.getElem_toArray, List.getElem_cons_zero, List.getElem_cons_succ, Act.put, List.setIfInBounds_toArray, List.set_cons_zero, List.set_cons_succ])); (refine wpAnyH_take (i := 6) (v := ?_) rfl (by kernel_rfl) (by kernel_rfl) (by kernel_rfl) (fun _ _ _ h => h) (Or.inl ⟨by rfl, ?_⟩) hHeld ?_; rotate_left; (· (intro w' hSw; go_simp; try with_reducible rfl)); (try simp only [List.getElem_toArray, List.getElem_cons_zero, List.getElem_cons_succ, Act.put, List.setIfInBounds_toArray, List.set_cons_zero, List.set_cons_succ]))
        (refine wpAnyH_take (i := 1) (v := pgF x) rfl (by kernel_rfl) (by kernel_rfl) (by kernel_rfl) (fun _ _ _ h => h) (Or.inl ⟨by rfl, ?_⟩) hHeld ?_; (· (intro w' hSw; have q := hSw.2.2.cell 6 CF.out; clear hSw; go_simp; try with_reducible rfl)); (try simp only [List.getElem_toArray, List.getElem_cons_zero, List.getElem_cons_succ, Act.put, List.setIfInBounds_toArray, List.set_cons_zero, List.set_cons_succ]))
        (refine wpAnyH_take (i := 2) (v := _) rfl (by kernel_rfl) (by kernel_rfl) (by kernel_rfl) (fun _ _ _ h => h) (yieldsIf_load_mid (by rfl) 76 _ rfl _ _ rfl (ints (tub ns p)) _ (fun w' hSw => hSw.1.holds.range) Try.underlying76 rfl (hiS)) hHeld ?_; (try simp only [List.getElem_toArray, List.getElem_cons_zero, List.getElem_cons_succ, Act.put, List.setIfInBounds_toArray, List.set_cons_zero, List.set_cons_succ]))
        (refine wpAnyH_take (i := 3) (v := _) rfl (by kernel_rfl) (by kernel_rfl) (by kernel_rfl) (fun _ _ _ h => h) (yieldsIf_load_mid (by rfl) 76 _ rfl _ _ rfl (ints (tub ns q)) _ (fun w' hSw => hSw.2.1.holds.range) Try.underlying76 rfl (hiT)) hHeld ?_; (try simp only [List.getElem_toArray, List.getElem_cons_zero, List.getElem_cons_succ, Act.put, List.setIfInBounds_toArray, List.set_cons_zero, List.set_cons_succ]))
        (refine wpAnyH_take (i := 7) (v := .int .i64 d) rfl (by kernel_rfl) (by kernel_rfl) (by kernel_rfl) (fun _ _ _ h => h) (Or.inl ⟨by rfl, ?_⟩) hHeld ?_; (· (intro w' hSw; have q := hSw.2.2.cell q CD.out; clear hSw; go_simp; try with_reducible rfl)); (try simp only [List.getElem_toArray, List.getElem_cons_zero, List.getElem_cons_succ, Act.put, List.setIfInBounds_toArray, List.set_cons_zero, List.set_cons_succ]))
        (refine wpAnyH_take (i := 8) (v := _) rfl (by kernel_rfl) (by kernel_rfl) (by kernel_rfl) (fun _ _ _ h => h) (yieldsIf_load_mid (by rfl) 76 _ rfl _ _ rfl (ints (tub ns q)) _ (fun w' hSw => hSw.2.1.holds.range) Try.underlying76 rfl (hiT)) hHeld ?_; (try simp only [List.getElem_toArray, List.getElem_cons_zero, List.getElem_cons_succ, Act.put, List.setIfInBounds_toArray, List.set_cons_zero, List.set_cons_succ]))
        (refine wpAnyH_ready (rs := [9]) (by kernel_rfl) (by simp) ?_; refine AllReadyH.cons (o := _) rfl (fun K hK => ?_) AllReadyH.nil; (simp only [List.getElem_toArray, List.getElem_cons_zero, List.getElem_cons_succ, Region.wanted, if_true]))
        go_simp
        refine (layers_any (tub ns q) _ sB vB).mono ?_
        rintro e u1 ⟨rfl, d1⟩
        dsimp only
        (try simp only [List.getElem_toArray, List.getElem_cons_zero, List.getElem_cons_succ, Act.put, List.setIfInBounds_toArray, List.set_cons_zero, List.set_cons_succ])
        refine hK.out _ _ ⟨hHeld.1.below d1, hHeld.2.1.below d1, hHeld.2.2.below d1⟩ (fun hHeld => ?_)
        clear hK K
        have KK1 := Lib.hid (KK.out.call d1)
        clear d1 KK
        (refine wpAnyH_take (i := 10) (v := ?_) rfl (by kernel_rfl) (by kernel_rfl) (by kernel_rfl) (fun _ _ _ h => h) (Or.inl ⟨by rfl, ?_⟩) hHeld ?_; rotate_left; (· (intro w' hSw; go_simp; try with_reducible rfl)); (try simp only [List.getElem_toArray, List.getElem_cons_zero, List.getElem_cons_succ, Act.put, List.setIfInBounds_toArray, List.set_cons_zero, List.set_cons_succ]))
        have hsw : IntKind.i64.wrap (d - ((lay (tub ns q) : Nat) : Int)) = (rm : Int) := by rw [HLQ.out, hsub]; exact IntWalk.i64_in _ (by omega)
        rw [hsw]
        clear hsw hsub DE RE HD CF CD
        rcases rule_cases hrule with rfl | rfl | rfl | rfl
        · rw [show pgF 1 = Value.func (.method "Moves") #[.iface 101 (.agg #[])] #[] from rfl]
          (refine wpAnyH_ready (rs := [11]) (by kernel_rfl) (by simp) ?_; refine AllReadyH.cons (o := _) rfl (fun K hK => ?_) AllReadyH.nil; (simp only [List.getElem_toArray, List.getElem_cons_zero, List.getElem_cons_succ, Region.wanted, if_true]))
          go_simp
          rw [meth1]
          go_simp
          refine (pourM_any (tub ns p) (tub ns q) rm _ sA sB vA vB hmr).mono ?_
          rintro e u2 ⟨rfl, d2⟩
          dsimp only
          (try simp only [List.getElem_toArray, List.getElem_cons_zero, List.getElem_cons_succ, Act.put, List.setIfInBounds_toArray, List.set_cons_zero, List.set_cons_succ])
          refine hK.out _ _ ⟨hHeld.1.below d2, hHeld.2.1.below d2, hHeld.2.2.below d2⟩ (fun hHeld => ?_)
          clear hK K
          have KK2 := Lib.hid (KK1.out.call d2)
          clear d2 KK1
          (refine wpAnyH_take (i := 12) (v := ?_) rfl (by kernel_rfl) (by kernel_rfl) (by kernel_rfl) (fun _ _ _ h => h) (Or.inl ⟨by rfl, ?_⟩) hHeld ?_; rotate_left; (· (intro w' hSw; go_simp; try with_reducible rfl)); (try simp only [List.getElem_toArray, List.getElem_cons_zero, List.getElem_cons_succ, Act.put, List.setIfInBounds_toArray, List.set_cons_zero, List.set_cons_succ]))
          refine wpAnyH_done (by kernel_rfl) ?_ _
          clear hHeld
          go_wp2_with fail
          go_ret
          exact ⟨ret_int (by rw [R.out]), KK2.out⟩
        · rw [show pgF 2 = Value.func (.method "Moves") #[.iface 102 (.agg #[])] #[] from rfl]
          (refine wpAnyH_ready (rs := [11]) (by kernel_rfl) (by simp) ?_; refine AllReadyH.cons (o := _) rfl (fun K hK => ?_) AllReadyH.nil; (simp only [List.getElem_toArray, List.getElem_cons_zero, List.getElem_cons_succ, Region.wanted, if_true]))
          go_simp
          rw [meth2]
          go_simp
          refine (dropM_any (tub ns p) (tub ns q) rm _ sA sB vA vB hmr).mono ?_
          rintro e u2 ⟨rfl, d2⟩
          dsimp only
          (try simp only [List.getElem_toArray, List.getElem_cons_zero, List.getElem_cons_succ, Act.put, List.setIfInBounds_toArray, List.set_cons_zero, List.set_cons_succ])
          refine hK.out _ _ ⟨hHeld.1.below d2, hHeld.2.1.below d2, hHeld.2.2.below d2⟩ (fun hHeld => ?_)
          clear hK K
          have KK2 := Lib.hid (KK1.out.call d2)
          clear d2 KK1
          (refine wpAnyH_take (i := 12) (v := ?_) rfl (by kernel_rfl) (by kernel_rfl) (by kernel_rfl) (fun _ _ _ h => h) (Or.inl ⟨by rfl, ?_⟩) hHeld ?_; rotate_left; (· (intro w' hSw; go_simp; try with_reducible rfl)); (try simp only [List.getElem_toArray, List.getElem_cons_zero, List.getElem_cons_succ, Act.put, List.setIfInBounds_toArray, List.set_cons_zero, List.set_cons_succ]))
          refine wpAnyH_done (by kernel_rfl) ?_ _
          clear hHeld
          go_wp2_with fail
          go_ret
          exact ⟨ret_int (by rw [R.out]), KK2.out⟩
        · rw [show pgF 3 = Value.func (.method "Moves") #[.iface 103 (.agg #[])] #[] from rfl]
          (refine wpAnyH_ready (rs := [11]) (by kernel_rfl) (by simp) ?_; refine AllReadyH.cons (o := _) rfl (fun K hK => ?_) AllReadyH.nil; (simp only [List.getElem_toArray, List.getElem_cons_zero, List.getElem_cons_succ, Region.wanted, if_true]))
          go_simp
          rw [meth3]
          go_simp
          refine (strictM_any (tub ns p) (tub ns q) rm _ sA sB vA vB hmr).mono ?_
          rintro e u2 ⟨rfl, d2⟩
          dsimp only
          (try simp only [List.getElem_toArray, List.getElem_cons_zero, List.getElem_cons_succ, Act.put, List.setIfInBounds_toArray, List.set_cons_zero, List.set_cons_succ])
          refine hK.out _ _ ⟨hHeld.1.below d2, hHeld.2.1.below d2, hHeld.2.2.below d2⟩ (fun hHeld => ?_)
          clear hK K
          have KK2 := Lib.hid (KK1.out.call d2)
          clear d2 KK1
          (refine wpAnyH_take (i := 12) (v := ?_) rfl (by kernel_rfl) (by kernel_rfl) (by kernel_rfl) (fun _ _ _ h => h) (Or.inl ⟨by rfl, ?_⟩) hHeld ?_; rotate_left; (· (intro w' hSw; go_simp; try with_reducible rfl)); (try simp only [List.getElem_toArray, List.getElem_cons_zero, List.getElem_cons_succ, Act.put, List.setIfInBounds_toArray, List.set_cons_zero, List.set_cons_succ]))
          refine wpAnyH_done (by kernel_rfl) ?_ _
          clear hHeld
          go_wp2_with fail
          go_ret
          exact ⟨ret_int (by rw [R.out]), KK2.out⟩
        · rw [show pgF 4 = Value.func (.method "Moves") #[.iface 104 (.agg #[])] #[] from rfl]
          (refine wpAnyH_ready (rs := [11]) (by kernel_rfl) (by simp) ?_; refine AllReadyH.cons (o := _) rfl (fun K hK => ?_) AllReadyH.nil; (simp only [List.getElem_toArray, List.getElem_cons_zero, List.getElem_cons_succ, Region.wanted, if_true]))
          go_simp
          rw [meth4]
          go_simp
          refine (looseM_any (tub ns p) (tub ns q) rm _ sA sB vA vB hmr).mono ?_
          rintro e u2 ⟨rfl, d2⟩
          dsimp only
          (try simp only [List.getElem_toArray, List.getElem_cons_zero, List.getElem_cons_succ, Act.put, List.setIfInBounds_toArray, List.set_cons_zero, List.set_cons_succ])
          refine hK.out _ _ ⟨hHeld.1.below d2, hHeld.2.1.below d2, hHeld.2.2.below d2⟩ (fun hHeld => ?_)
          clear hK K
          have KK2 := Lib.hid (KK1.out.call d2)
          clear d2 KK1
          (refine wpAnyH_take (i := 12) (v := ?_) rfl (by kernel_rfl) (by kernel_rfl) (by kernel_rfl) (fun _ _ _ h => h) (Or.inl ⟨by rfl, ?_⟩) hHeld ?_; rotate_left; (· (intro w' hSw; go_simp; try with_reducible rfl)); (try simp only [List.getElem_toArray, List.getElem_cons_zero, List.getElem_cons_succ, Act.put, List.setIfInBounds_toArray, List.set_cons_zero, List.set_cons_succ]))
          refine wpAnyH_done (by kernel_rfl) ?_ _
          clear hHeld
          go_wp2_with fail
          go_ret
          exact ⟨ret_int (by rw [R.out]), KK2.out⟩
      · rw [decide_eq_false hq]
        have R := Lib.hid (show mvI ns ds x (p : Int) j = 0 by unfold mvI; rw [if_neg (fun e => hq e.2)])
        clear hq
        go_wp2_with fail
        go_ret
        exact ⟨ret_int (by rw [R.out]; rfl), HB.out⟩
    · rw [decide_eq_false hp]
      have R := Lib.hid (show mvI ns ds x i j = 0 by unfold mvI; rw [if_neg (fun e => hp e.1)])
      clear hp
      go_wp2_with fail
      go_ret
      exact ⟨ret_int (by rw [R.out]; rfl), HB.out⟩
end Go.Proofs.Ytglhinihhlmgeac.base
end

section
namespace Go.Proofs.Ytglhinihhlmgeac.base
open Go.ChangeShapes Go.WideShapes Go.ChangeAt Go.RowKit
set_option linter.unusedVariables false
set_option linter.unusedSimpArgs false

set_option maxHeartbeats 3200000 in
set_option maxRecDepth 100000 in
theorem implPourBy (ns ds : List Int) (x i j : Int) (w : World) (h24 : ns.length = 24) (h6 : ds.length = 6) :
    Calls Try.prog 16 #[row ns, row ds, .int .i64 x, .int .i64 i, .int .i64 j] w fun e w' => e = .returned (.tuple #[.agg (ints (pbR ns ds x i j)).toArray, .int .i64 (pbN ns ds x i j), .bool (pbOk ns ds x i j)]) ∧ Kept w w' := by
  have HB := Lib.hid ((((kept_refl w).alloc (.cells (ints ns).toArray 27)).alloc (.cells (ints ds).toArray 28)).alloc (.cells #[.int .i64 0, .int .i64 0, .int .i64 0, .int .i64 0, .int .i64 0, .int .i64 0, .int .i64 0, .int .i64 0, .int .i64 0, .int .i64 0, .int .i64 0, .int .i64 0, .int .i64 0, .int .i64 0, .int .i64 0, .int .i64 0, .int .i64 0, .int .i64 0, .int .i64 0, .int .i64 0, .int .i64 0, .int .i64 0, .int .i64 0, .int .i64 0] 27))
  have H := ((Has.box w 27 h24 (by omega)).alloc (.cells (ints ds).toArray 28)).alloc (.cells #[.int .i64 0, .int .i64 0, .int .i64 0, .int .i64 0, .int .i64 0, .int .i64 0, .int .i64 0, .int .i64 0, .int .i64 0, .int .i64 0, .int .i64 0, .int .i64 0, .int .i64 0, .int .i64 0, .int .i64 0, .int .i64 0, .int .i64 0, .int .i64 0, .int .i64 0, .int .i64 0, .int .i64 0, .int .i64 0, .int .i64 0, .int .i64 0] 27)
  have D := ((Has.box (w.alloc (.cells (ints ns).toArray 27)) 28 h6 (by omega)).at (size1 _ _)).alloc (.cells #[.int .i64 0, .int .i64 0, .int .i64 0, .int .i64 0, .int .i64 0, .int .i64 0, .int .i64 0, .int .i64 0, .int .i64 0, .int .i64 0, .int .i64 0, .int .i64 0, .int .i64 0, .int .i64 0, .int .i64 0, .int .i64 0, .int .i64 0, .int .i64 0, .int .i64 0, .int .i64 0, .int .i64 0, .int .i64 0, .int .i64 0, .int .i64 0] 27)
  have Z := (Has.zero24 ((w.alloc (.cells (ints ns).toArray 27)).alloc (.cells (ints ds).toArray 28)) 27).at (c := w.heap.size + 1 + 1) (by simp)
  have hz : z24.length = 24 := rfl
  have lg := pgR_len ns ds x h6
  rw [row_ints, row_ints]
  go_enter Try.func16, Try.ntmps16
  go_wp2_with (first | (refine load_has rfl 27 _ rfl _ rfl ?_ 24 ?_ _ Try.underlying27 rfl ?_ ?_; rotate_left; (· (repeat (first | (with_reducible assumption) | ((with_reducible refine Has.box _ _ ?_ ?_) <;> (first | assumption | decide)) | (with_reducible refine Has.alloc ?_ _) | ((with_reducible refine Has.putOther ?_ _ _ ?_); rotate_left; omega; skip) | ((with_reducible refine Has.below ?_ ?_); rotate_left; assumption)))); (· kernel_rfl)) | (refine load_has rfl 28 _ rfl _ rfl ?_ 6 ?_ _ Try.underlying28 rfl ?_ ?_; rotate_left; (· (repeat (first | (with_reducible assumption) | ((with_reducible refine Has.box _ _ ?_ ?_) <;> (first | assumption | decide)) | (with_reducible refine Has.alloc ?_ _) | ((with_reducible refine Has.putOther ?_ _ _ ?_); rotate_left; omega; skip) | ((with_reducible refine Has.below ?_ ?_); rotate_left; assumption)))); (· kernel_rfl)))
  refine (pouringBy_any ns ds x _ h24 h6).mono ?_
  rintro e w1 ⟨rfl, b1⟩
  have O1 : ∀ v ∈ pgR ns ds x, v.oneCell' = true := by
    unfold pgR; split
    · exact pg_one ds _ rfl
    · exact pg_one _ _ rfl
  have hs1 : w.heap.size + 1 + 1 < w1.heap.size := (Z.below b1).lt
  have H1 := (H.below b1).alloc (.cells (pgR ns ds x).toArray 58)
  have Z1 := (Z.below b1).alloc (.cells (pgR ns ds x).toArray 58)
  have G1 := Bk.box w1 (pgR ns ds x) 58
  have HB1 := Lib.hid ((HB.out.call b1).alloc (.cells (pgR ns ds x).toArray 58))
  clear H D Z HB b1
  generalize hg : pgR ns ds x = g at *
  by_cases hok : byOk ns ds x = true
  · obtain rfl : g = pgA ds x := by rw [← hg]; unfold pgR; rw [if_pos hok]
    clear hg
    have HOK := Lib.hid hok
    have PB := Lib.hid (pb_mvI ns ds x i j hok)
    rw [hok]
    clear hok
    go_wp2_with (first | (refine store_newbk rfl 58 _ _ rfl _ _ _ rfl _ rfl (pgA ds x) rfl rfl ?_ O1 ?_ ?_; (· exact lg); (· kernel_rfl)) | (refine load_bk rfl 58 _ rfl _ rfl _ _ G1 _ Try.underlying58 rfl ?_ ?_; (· rw [lg]; kernel_rfl)) | (refine load_has rfl 27 _ rfl _ rfl ?_ 24 ?_ _ Try.underlying27 rfl ?_ ?_; rotate_left; (· (repeat (first | (with_reducible assumption) | ((with_reducible refine Has.box _ _ ?_ ?_) <;> (first | assumption | decide)) | (with_reducible refine Has.alloc ?_ _) | ((with_reducible refine Has.putOther ?_ _ _ ?_); rotate_left; omega; skip) | ((with_reducible refine Has.below ?_ ?_); rotate_left; assumption)))); (· kernel_rfl)))
    refine (moved_any ns ds x i j _ h24 h6 HOK.out).mono ?_
    rintro e w2 ⟨rfl, b2⟩
    have H2 := H1.below b2
    have Z2 := Z1.below b2
    have HB2 := Lib.hid (HB1.out.call b2)
    clear H1 Z1 G1 HB1 b2 O1 lg
    generalize pgA ds x = gg at *
    by_cases h0 : mvI ns ds x i j = 0
    · have O := Lib.hid (show pbOk ns ds x i j = false by rw [PB.out, h0]; rfl)
      have S1 := Lib.hid (Z2.putAll z24 rfl)
      have S2 := Lib.hid (HB2.out.puts (b := w.heap.size + 1 + 1) (by omega) 0 (ints z24))
      rw [h0]
      clear h0
      go_wp2_with (first | (refine build_law rfl 27 rfl _ buildRack ?_) | (refine store_at rfl 27 _ _ rfl _ _ rfl rfl ?_ 24 ?_ ?_ ?_ ?_; rotate_left; (· (repeat (first | (with_reducible assumption) | ((with_reducible refine Has.box _ _ ?_ ?_) <;> (first | assumption | decide)) | (with_reducible refine Has.alloc ?_ _) | ((with_reducible refine Has.putOther ?_ _ _ ?_); rotate_left; omega; skip) | ((with_reducible refine Has.below ?_ ?_); rotate_left; assumption)))); (· (first | assumption | rfl)); (· kernel_rfl)))
      exact bodyPost_ret (res_has2 rfl _ _ (w.heap.size + 1 + 1) z24 24 _ (.int .i64 0) (.bool false) rfl rfl rfl S1.out Try.underlying27 rfl (by kernel_rfl)) rfl ⟨by rw [(pb_no O.out).1, (pb_no O.out).2, O.out], S2.out⟩
    · have O := Lib.hid (show pbOk ns ds x i j = true by rw [PB.out]; exact decide_eq_true (by omega))
      obtain ⟨hf, _, p, q, rfl, rfl, hp, hq, hpos⟩ := pbOk_of O.out
      have M := mv_moveOk h24 hf hp hq hpos
      have Y := pb_yes O.out
      rw [mvI_nat hp hq] at h0 ⊢
      have YR := Lib.hid Y.1
      have YN := Lib.hid Y.2
      have hT := M.len24
      have hm4 := M.hm
      have hl4 := (tubeFacts (tub_len ns p h24 hp) (vR_tub (fit_of hf).1 p hp)).lay4
      have KM := Lib.hid (fun W => move_any ns p q (mvN ns ds x p q) W M)
      obtain ⟨m, hm⟩ : ∃ m : Nat, mvN ns ds x p q = m := ⟨_, rfl⟩
      rw [hm] at h0 YR YN hT hm4 KM ⊢
      have n0 : ((m : Int) == 0) = false := by simp; omega
      have n1 : (m == 0) = false := by simp; omega
      clear h0 hf M Y hpos hm
      go_wp2_with (refine load_has rfl 27 _ rfl _ rfl ?_ 24 ?_ _ Try.underlying27 rfl ?_ ?_; rotate_left; (· (repeat (first | (with_reducible assumption) | ((with_reducible refine Has.box _ _ ?_ ?_) <;> (first | assumption | decide)) | (with_reducible refine Has.alloc ?_ _) | ((with_reducible refine Has.putOther ?_ _ _ ?_); rotate_left; omega; skip) | ((with_reducible refine Has.below ?_ ?_); rotate_left; assumption)))); (· kernel_rfl))
      refine (KM.out _).mono ?_
      rintro e w3 ⟨rfl, b3⟩
      have Z3 := Z2.below b3
      have S1 := Lib.hid (Z3.putAll (moveT ns p q m) hT)
      have S2 := Lib.hid ((HB2.out.call b3).puts (b := w.heap.size + 1 + 1) (by omega) 0 (ints (moveT ns p q m)))
      clear H2 Z2 HB2 b3 KM
      go_wp2_with (refine store_at rfl 27 _ _ rfl _ _ rfl rfl ?_ 24 ?_ ?_ ?_ ?_; rotate_left; (· (repeat (first | (with_reducible assumption) | ((with_reducible refine Has.box _ _ ?_ ?_) <;> (first | assumption | decide)) | (with_reducible refine Has.alloc ?_ _) | ((with_reducible refine Has.putOther ?_ _ _ ?_); rotate_left; omega; skip) | ((with_reducible refine Has.below ?_ ?_); rotate_left; assumption)))); (· (first | assumption | rfl)); (· kernel_rfl))
      exact bodyPost_ret (res_has2 rfl _ _ (w.heap.size + 1 + 1) _ 24 _ (.int .i64 (m : Nat)) (.bool true) rfl rfl rfl S1.out Try.underlying27 rfl (by kernel_rfl)) rfl ⟨by rw [YR.out, YN.out, O.out], S2.out⟩
  · have hf : byOk ns ds x = false := by simpa using hok
    obtain rfl : g = pgZ := by rw [← hg]; unfold pgR; rw [hf]; rfl
    clear hg
    have O := Lib.hid (show pbOk ns ds x i j = false by
      unfold pbOk; rw [show (fitA ns ds && ruleV x) = false from hf]; rfl)
    rw [hf]
    clear hok hf
    have S1 := Lib.hid (Z1.putAll z24 rfl)
    have S2 := Lib.hid (HB1.out.puts (b := w.heap.size + 1 + 1) (by omega) 0 (ints z24))
    go_wp2_with (first | (refine build_law rfl 27 rfl _ buildRack ?_) | (refine store_newbk rfl 58 _ _ rfl _ _ _ rfl _ rfl pgZ rfl rfl ?_ O1 ?_ ?_; (· exact lg); (· kernel_rfl)) | (refine store_at rfl 27 _ _ rfl _ _ rfl rfl ?_ 24 ?_ ?_ ?_ ?_; rotate_left; (· (repeat (first | (with_reducible assumption) | ((with_reducible refine Has.box _ _ ?_ ?_) <;> (first | assumption | decide)) | (with_reducible refine Has.alloc ?_ _) | ((with_reducible refine Has.putOther ?_ _ _ ?_); rotate_left; omega; skip) | ((with_reducible refine Has.below ?_ ?_); rotate_left; assumption)))); (· (first | assumption | rfl)); (· kernel_rfl)))
    exact bodyPost_ret (res_has2 rfl _ _ (w.heap.size + 1 + 1) z24 24 _ (.int .i64 0) (.bool false) rfl rfl rfl S1.out Try.underlying27 rfl (by kernel_rfl)) rfl ⟨by rw [(pb_no O.out).1, (pb_no O.out).2, O.out], S2.out⟩
end Go.Proofs.Ytglhinihhlmgeac.base
end
