/-
  Tops of deals, on the program's side, walked.
-/
import Derived.Test.YtemiljokdedidaaDelI
namespace Go.Proofs.Ytemiljokdedidaa.base
open Go.ChangeShapes Go.WideShapes Go.ChangeAt Go.RowKit
set_option linter.unusedVariables false
set_option linter.unusedSimpArgs false
theorem cnt_le {ms cs : List Int} {L : Nat} (F : DealFacts ms cs L) (c : Nat) (hc : c < 6) : (cs.getD c 0).toNat ≤ L := by
  have := getD_le_plUp cs c hc
  rw [F.cpl] at this
  exact this
theorem many_pos {ms cs : List Int} {L : Nat} (F : DealFacts ms cs L) (i : Nat) (hi : i < 6) (h : ms.getD i 0 ≠ 0) : 0 < L := by
  have h1 := getD_le_plUp ms i hi
  have h2 := F.many i hi
  rw [F.mpl] at h1
  omega
theorem many_two {ms cs : List Int} {L : Nat} (F : DealFacts ms cs L) (i j : Nat) (hi : i < 6) (hj : j < 6) (hn : i ≠ j) (h : ms.getD i 0 ≠ 0) (k : ms.getD j 0 ≠ 0) : 2 ≤ L := by
  have h2 := F.many i hi
  have h3 := F.many j hj
  have key : ∀ a b : Nat, a < b → b < 6 → ms.getD a 0 ≠ 0 → ms.getD b 0 ≠ 0 → 2 ≤ plUp ms 6 := fun a b hab hb ha hbb => by
    have x1 := F.many a (by omega)
    have x2 := F.many b hb
    have y1 := plUp_le ms (show a + 1 ≤ b by omega)
    have y2 := plUp_le ms (show b + 1 ≤ 6 by omega)
    rw [plUp] at y1 y2
    omega
  rw [← F.mpl]
  rcases Nat.lt_or_gt_of_ne hn with h4 | h4
  · exact key i j h4 hj h k
  · exact key j i h4 hi k h
theorem build01z (w : World) : (Instr.build 23 #[(0, .int .i64 0), (1, .int .i64 1)]).run Try.prog w = .ok (.agg (ints z01).toArray) w := by kernel_rfl

set_option maxHeartbeats 1600000 in
set_option maxRecDepth 100000 in
theorem implDealTop (ms cs : List Int) (i c : Int) (w : World) (h1 : ms.length = 6) (h2 : cs.length = 6) :
    Calls Try.prog 18 #[row ms, row cs, .int .i64 i, .int .i64 c] w fun e w' => e = .returned (.tuple #[.agg (ints (dtopA ms cs i c)).toArray, .bool (dtopOk ms cs i c)]) ∧ Kept w w' := by
  have H1 := ((Has.box w 22 h1 (by omega)).alloc (.cells (ints cs).toArray 22)).alloc (.cells #[.int .i64 0, .int .i64 0] 23)
  have H2 := ((Has.box (w.alloc (.cells (ints ms).toArray 22)) 22 h2 (by omega)).at (size1 _ _)).alloc (.cells #[.int .i64 0, .int .i64 0] 23)
  have Z := (Has.zero2v ((w.alloc (.cells (ints ms).toArray 22)).alloc (.cells (ints cs).toArray 22)) 23).at (c := w.heap.size + 1 + 1) (by simp)
  have HB := Lib.hid ((((kept_refl w).alloc (.cells (ints ms).toArray 22)).alloc (.cells (ints cs).toArray 22)).alloc (.cells #[.int .i64 0, .int .i64 0] 23))
  rw [row_ints, row_ints]
  go_enter Try.func18, Try.ntmps18
  go_wp2_with (refine load_has rfl 22 _ rfl _ rfl ?_ 6 ?_ _ Try.underlying22 rfl ?_ ?_; rotate_left; (· (repeat (first | (with_reducible assumption) | ((with_reducible refine Has.box _ _ ?_ ?_) <;> (first | assumption | decide)) | (with_reducible refine Has.alloc ?_ _) | ((with_reducible refine Has.putOther ?_ _ _ ?_); rotate_left; omega; skip) | ((with_reducible refine Has.below ?_ ?_); rotate_left; assumption)))); (· kernel_rfl))
  refine (isDeal_any ms cs _ h1 h2).mono ?_
  rintro e w1 ⟨rfl, b1⟩
  have H3 := H1.below b1
  have H4 := H2.below b1
  have Z1 := Z.below b1
  have HB1 := Lib.hid (HB.out.call b1)
  clear H1 H2 Z HB b1
  by_cases hv : dV ms cs = true
  rotate_left
  · have O := Lib.hid (dtopA_not (ms := ms) (cs := cs) (i := i) (c := c) (fun hh => hv hh.1))
    have hf : dV ms cs = false := by simpa using hv
    rw [hf]
    clear hv hf
    have S1 := Lib.hid (Z1.putAll z2 rfl)
    have S2 := Lib.hid (HB1.out.puts (b := w.heap.size + 1 + 1) (by omega) 0 (ints z2))
    clear HB1
    go_wp2_with (first | (refine build_law rfl 23 rfl _ build2z ?_) | (refine store_at rfl 23 _ _ rfl _ _ rfl rfl ?_ 2 ?_ ?_ ?_ ?_; rotate_left; (· (repeat (first | (with_reducible assumption) | ((with_reducible refine Has.box _ _ ?_ ?_) <;> (first | assumption | decide)) | (with_reducible refine Has.alloc ?_ _) | ((with_reducible refine Has.putOther ?_ _ _ ?_); rotate_left; omega; skip) | ((with_reducible refine Has.below ?_ ?_); rotate_left; assumption)))); (· (first | assumption | rfl)); (· kernel_rfl)))
    exact bodyPost_ret (res_has1 rfl _ _ (w.heap.size + 1 + 1) z2 2 _ (.bool false) rfl rfl S1.out Try.underlying23 rfl (by kernel_rfl)) rfl ⟨by rw [O.out.1, O.out.2], S2.out⟩
  rw [hv]
  go_wp2_with fail
  refine (isPlace_any i _).mono ?_
  rintro e w' ⟨rfl, rfl⟩
  by_cases hp : 0 ≤ i ∧ i < 6
  rotate_left
  · rw [decide_eq_false hp]
    have O := Lib.hid (dtopA_not (ms := ms) (cs := cs) (i := i) (c := c) (fun hh => hp hh.2.1))
    clear hp hv
    have S1 := Lib.hid (Z1.putAll z2 rfl)
    have S2 := Lib.hid (HB1.out.puts (b := w.heap.size + 1 + 1) (by omega) 0 (ints z2))
    clear HB1
    go_wp2_with (first | (refine build_law rfl 23 rfl _ build2z ?_) | (refine store_at rfl 23 _ _ rfl _ _ rfl rfl ?_ 2 ?_ ?_ ?_ ?_; rotate_left; (· (repeat (first | (with_reducible assumption) | ((with_reducible refine Has.box _ _ ?_ ?_) <;> (first | assumption | decide)) | (with_reducible refine Has.alloc ?_ _) | ((with_reducible refine Has.putOther ?_ _ _ ?_); rotate_left; omega; skip) | ((with_reducible refine Has.below ?_ ?_); rotate_left; assumption)))); (· (first | assumption | rfl)); (· kernel_rfl)))
    exact bodyPost_ret (res_has1 rfl _ _ (w.heap.size + 1 + 1) z2 2 _ (.bool false) rfl rfl S1.out Try.underlying23 rfl (by kernel_rfl)) rfl ⟨by rw [O.out.1, O.out.2], S2.out⟩
  rw [decide_eq_true hp]
  go_wp2_with fail
  refine (isColor_any c _).mono ?_
  rintro e w' ⟨rfl, rfl⟩
  by_cases hc : 1 ≤ c ∧ c ≤ 5
  rotate_left
  · rw [decide_eq_false hc]
    have O := Lib.hid (dtopA_not (ms := ms) (cs := cs) (i := i) (c := c) (fun hh => hc hh.2.2))
    clear hp hv hc
    have S1 := Lib.hid (Z1.putAll z2 rfl)
    have S2 := Lib.hid (HB1.out.puts (b := w.heap.size + 1 + 1) (by omega) 0 (ints z2))
    clear HB1
    go_wp2_with (first | (refine build_law rfl 23 rfl _ build2z ?_) | (refine store_at rfl 23 _ _ rfl _ _ rfl rfl ?_ 2 ?_ ?_ ?_ ?_; rotate_left; (· (repeat (first | (with_reducible assumption) | ((with_reducible refine Has.box _ _ ?_ ?_) <;> (first | assumption | decide)) | (with_reducible refine Has.alloc ?_ _) | ((with_reducible refine Has.putOther ?_ _ _ ?_); rotate_left; omega; skip) | ((with_reducible refine Has.below ?_ ?_); rotate_left; assumption)))); (· (first | assumption | rfl)); (· kernel_rfl)))
    exact bodyPost_ret (res_has1 rfl _ _ (w.heap.size + 1 + 1) z2 2 _ (.bool false) rfl rfl S1.out Try.underlying23 rfl (by kernel_rfl)) rfl ⟨by rw [O.out.1, O.out.2], S2.out⟩
  rw [decide_eq_true hc]
  have OK := Lib.hid (dtopA_yes (ms := ms) (cs := cs) hv hp hc)
  have EV := Lib.hid (show dtopA ms cs i c = (if ms.getD i.toNat 0 = 0 then z01 else frac (cs.getD c.toNat 0).toNat (plUp cs 6)) by unfold dtopA; rw [if_pos OK.out])
  obtain ⟨p, rfl⟩ : ∃ p : Nat, i = (p : Int) := ⟨i.toNat, by omega⟩
  obtain ⟨q, rfl⟩ : ∃ q : Nat, c = (q : Int) := ⟨c.toNat, by omega⟩
  rw [Int.toNat_natCast, Int.toNat_natCast] at EV
  obtain ⟨L, F⟩ := dealFacts hv
  have hp6 : p < 6 := by omega
  have hq6 : q < 6 := by omega
  have hpi : (p : Int) < 6 := by omega
  have hqi : (q : Int) < 6 := by omega
  have c0 := H3.cell p hp6
  have FH := Lib.hid F
  clear hp hc hv
  by_cases hm : ms.getD p 0 = 0
  · rw [hm] at c0
    have O := Lib.hid (show dtopOk ms cs (p : Int) (q : Int) = true ∧ dtopA ms cs (p : Int) (q : Int) = z01 from ⟨OK.out, by rw [EV.out, if_pos hm]⟩)
    clear hm F
    have S1 := Lib.hid (Z1.putAll z01 rfl)
    have S2 := Lib.hid (HB1.out.puts (b := w.heap.size + 1 + 1) (by omega) 0 (ints z01))
    clear HB1
    go_wp2_with (first | (refine store_at rfl 23 _ _ rfl _ [0, 1] rfl rfl ?_ 2 ?_ ?_ ?_ ?_; rotate_left; (· (repeat (first | (with_reducible assumption) | ((with_reducible refine Has.box _ _ ?_ ?_) <;> (first | assumption | decide)) | (with_reducible refine Has.alloc ?_ _) | ((with_reducible refine Has.putOther ?_ _ _ ?_); rotate_left; omega; skip) | ((with_reducible refine Has.below ?_ ?_); rotate_left; assumption)))); (· (first | assumption | rfl)); (· kernel_rfl)))
    exact bodyPost_ret (res_has1 rfl _ _ (w.heap.size + 1 + 1) z01 2 _ (.bool true) rfl rfl S1.out Try.underlying23 rfl (by kernel_rfl)) rfl ⟨by rw [O.out.1, O.out.2], S2.out⟩
  have l0 := many_pos F p hp6 hm
  have l24 := F.small
  have qn := cnt_le F q hq6
  have cn := F.cnt q hq6
  obtain ⟨k, hk⟩ : ∃ k : Nat, cs.getD q 0 = (k : Int) := ⟨(cs.getD q 0).toNat, by omega⟩
  rw [hk, Int.toNat_natCast] at qn
  have O := Lib.hid (show dtopOk ms cs (p : Int) (q : Int) = true ∧ dtopA ms cs (p : Int) (q : Int) = frac k L from ⟨OK.out, by rw [EV.out, if_neg hm, hk, Int.toNat_natCast, F.cpl]⟩)
  have KF := Lib.hid (fun W => fraction_any k L W l0 (by omega) (by omega))
  have es := sumUp_pl (fun j hj => (F.cnt j hj).1) 6 (by omega)
  rw [F.cpl] at es
  have KZ := Lib.hid (fun W => size_any cs W h2 (fun j hj => by have := F.cnt j hj; omega))
  rw [es] at KZ
  have q0 : (ms.getD p 0 == 0) = false := by simpa using hm
  have fl := frac_len k L
  have li : (ints cs).length = 6 := by rw [ints_len]; exact h2
  have hi1 : (Try.prog.info? 22).map (·.size) = some (ints cs).length := by rw [li]; kernel_rfl
  have lf : (ints (frac k L)).length = 2 := rfl
  have hi2 : (Try.prog.info? 23).map (·.size) = some (ints (frac k L)).length := by rw [lf]; kernel_rfl
  have HK := Lib.hid hk
  clear es l0 l24 qn cn F hm FH EV OK hk
  generalize ms.getD p 0 = x at *
  go_wp2_with fail
  clear c0
  refine wp_region_held_drew (S := fun w' => Has w' (w.heap.size + 1) cs 6 ∧ (∃ zs, Has w' (w.heap.size + 1 + 1) zs 2) ∧ Kept w w') (by kernel_rfl) ⟨H4.drew, ⟨_, Z1.drew⟩, HB1.out.drewN 1⟩ (fun hHeld => ?_)
  clear H3 H4 Z1 HB1
  generalize World.drew _ = WD at *
  (refine wpAnyH_take (i := 0) (v := ?_) rfl (by kernel_rfl) (by kernel_rfl) (by kernel_rfl) (fun _ _ _ h => h) (Or.inl ⟨by rfl, ?_⟩) hHeld ?_; rotate_left; (· (intro w' hSw; go_simp; try with_reducible rfl)); (try simp only [List.getElem_toArray, List.getElem_cons_zero, List.getElem_cons_succ, Act.put, List.setIfInBounds_toArray, List.set_cons_zero, List.set_cons_succ])); (refine wpAnyH_take (i := 1) (v := ?_) rfl (by kernel_rfl) (by kernel_rfl) (by kernel_rfl) (fun _ _ _ h => h) (Or.inl ⟨by rfl, ?_⟩) hHeld ?_; rotate_left; (· (intro w' hSw; go_simp; try with_reducible rfl)); (try simp only [List.getElem_toArray, List.getElem_cons_zero, List.getElem_cons_succ, Act.put, List.setIfInBounds_toArray, List.set_cons_zero, List.set_cons_succ]))
  (refine wpAnyH_take (i := 2) (v := .int .i64 (k : Int)) rfl (by kernel_rfl) (by kernel_rfl) (by kernel_rfl) (fun _ _ _ h => h) (Or.inl ⟨by rfl, ?_⟩) hHeld ?_; (· (intro w' hSw; have q := hSw.1.cellX hq6 HK.out; clear hSw; go_simp; try with_reducible rfl)); (try simp only [List.getElem_toArray, List.getElem_cons_zero, List.getElem_cons_succ, Act.put, List.setIfInBounds_toArray, List.set_cons_zero, List.set_cons_succ]))
  (refine wpAnyH_take (i := 3) (v := _) rfl (by kernel_rfl) (by kernel_rfl) (by kernel_rfl) (fun _ _ _ h => h) (yieldsIf_load_mid (by rfl) 22 _ rfl _ _ rfl (ints cs) _ (fun w' hSw => hSw.1.holds.range) Try.underlying22 rfl (hi1)) hHeld ?_; (try simp only [List.getElem_toArray, List.getElem_cons_zero, List.getElem_cons_succ, Act.put, List.setIfInBounds_toArray, List.set_cons_zero, List.set_cons_succ]))
  (refine wpAnyH_ready (rs := [4]) (by kernel_rfl) (by simp) ?_; refine AllReadyH.cons (o := _) rfl (fun K hK => ?_) AllReadyH.nil; (simp only [List.getElem_toArray, List.getElem_cons_zero, List.getElem_cons_succ, Region.wanted, if_true]))
  go_simp
  refine (KZ.out _).mono ?_
  rintro e w3 ⟨rfl, bq⟩
  dsimp only
  (try simp only [List.getElem_toArray, List.getElem_cons_zero, List.getElem_cons_succ, Act.put, List.setIfInBounds_toArray, List.set_cons_zero, List.set_cons_succ])
  refine hK.out _ _ ⟨hHeld.1.below bq, ⟨_, hHeld.2.1.choose_spec.below bq⟩, hHeld.2.2.call bq⟩ (fun hHeld => ?_)
  clear hK K bq
  (refine wpAnyH_ready (rs := [5]) (by kernel_rfl) (by simp) ?_; refine AllReadyH.cons (o := _) rfl (fun K hK => ?_) AllReadyH.nil; (simp only [List.getElem_toArray, List.getElem_cons_zero, List.getElem_cons_succ, Region.wanted, if_true]))
  go_simp
  refine (KF.out _).mono ?_
  rintro e w13 ⟨rfl, bq⟩
  dsimp only
  (try simp only [List.getElem_toArray, List.getElem_cons_zero, List.getElem_cons_succ, Act.put, List.setIfInBounds_toArray, List.set_cons_zero, List.set_cons_succ])
  refine hK.out _ _ ⟨hHeld.1.below bq, ⟨_, hHeld.2.1.choose_spec.below bq⟩, hHeld.2.2.call bq⟩ (fun hHeld => ?_)
  clear hK K bq
  have S0 := hHeld.2.1.choose_spec
  have S1 := S0.putAll (frac k L) fl
  have S2 := hHeld.2.2.puts (b := w.heap.size + 1 + 1) (by omega) 0 (ints (frac k L))
  have S3 := hHeld.1.putOther (b' := w.heap.size + 1 + 1) 0 (ints (frac k L)) (by omega)
  (refine wpAnyH_ready (rs := [6]) (by kernel_rfl) (by simp) ?_; refine AllReadyH.cons (o := _) rfl (fun K hK => ?_) AllReadyH.nil; (simp only [List.getElem_toArray, List.getElem_cons_zero, List.getElem_cons_succ, Region.wanted, if_true]); refine wp_store_mid _ _ _ rfl _ _ (ints (frac k L)).toArray rfl rfl (by simpa [lf] using S0.there) (by simpa [lf] using hi2) (all_oneCell_toArray (ints_one _)) ?_; (try simp only [List.getElem_toArray, List.getElem_cons_zero, List.getElem_cons_succ, Act.put, List.setIfInBounds_toArray, List.set_cons_zero, List.set_cons_succ, List.toList_toArray]); refine hK.out _ _ (⟨S3, ⟨_, S1⟩, S2⟩) (fun hHeld => ?_); clear hK K)
  (refine wpAnyH_take (i := 7) (v := ?_) rfl (by kernel_rfl) (by kernel_rfl) (by kernel_rfl) (fun _ _ _ h => h) (Or.inl ⟨by rfl, ?_⟩) hHeld ?_; rotate_left; (· (intro w' hSw; go_simp; try with_reducible rfl)); (try simp only [List.getElem_toArray, List.getElem_cons_zero, List.getElem_cons_succ, Act.put, List.setIfInBounds_toArray, List.set_cons_zero, List.set_cons_succ]))
  refine wpAnyH_done (by kernel_rfl) ?_ _
  clear hHeld
  go_wp2_with fail
  exact bodyPost_ret (res_has1 rfl _ _ (w.heap.size + 1 + 1) (frac k L) 2 _ (.bool true) rfl rfl S1 Try.underlying23 rfl (by kernel_rfl)) rfl ⟨by rw [O.out.1, O.out.2], S2⟩

set_option maxHeartbeats 1600000 in
set_option maxRecDepth 100000 in
theorem implDealAlike (ms cs : List Int) (i j : Int) (w : World) (h1 : ms.length = 6) (h2 : cs.length = 6) :
    Calls Try.prog 20 #[row ms, row cs, .int .i64 i, .int .i64 j] w fun e w' => e = .returned (.tuple #[.agg (ints (alA ms cs i j)).toArray, .bool (alOk ms cs i j)]) ∧ Kept w w' := by
  have H1 := ((Has.box w 22 h1 (by omega)).alloc (.cells (ints cs).toArray 22)).alloc (.cells #[.int .i64 0, .int .i64 0] 23)
  have H2 := ((Has.box (w.alloc (.cells (ints ms).toArray 22)) 22 h2 (by omega)).at (size1 _ _)).alloc (.cells #[.int .i64 0, .int .i64 0] 23)
  have Z := (Has.zero2v ((w.alloc (.cells (ints ms).toArray 22)).alloc (.cells (ints cs).toArray 22)) 23).at (c := w.heap.size + 1 + 1) (by simp)
  have HB := Lib.hid ((((kept_refl w).alloc (.cells (ints ms).toArray 22)).alloc (.cells (ints cs).toArray 22)).alloc (.cells #[.int .i64 0, .int .i64 0] 23))
  rw [row_ints, row_ints]
  go_enter Try.func20, Try.ntmps20
  go_wp2_with (refine load_has rfl 22 _ rfl _ rfl ?_ 6 ?_ _ Try.underlying22 rfl ?_ ?_; rotate_left; (· (repeat (first | (with_reducible assumption) | ((with_reducible refine Has.box _ _ ?_ ?_) <;> (first | assumption | decide)) | (with_reducible refine Has.alloc ?_ _) | ((with_reducible refine Has.putOther ?_ _ _ ?_); rotate_left; omega; skip) | ((with_reducible refine Has.below ?_ ?_); rotate_left; assumption)))); (· kernel_rfl))
  refine (isDeal_any ms cs _ h1 h2).mono ?_
  rintro e w1 ⟨rfl, b1⟩
  have H3 := H1.below b1
  have H4 := H2.below b1
  have Z1 := Z.below b1
  have HB1 := Lib.hid (HB.out.call b1)
  clear H1 H2 Z HB b1
  by_cases hv : dV ms cs = true
  rotate_left
  · have O := Lib.hid (alA_not (ms := ms) (cs := cs) (i := i) (j := j) (fun hh => hv hh.1))
    have hf : dV ms cs = false := by simpa using hv
    rw [hf]
    clear hv hf
    have S1 := Lib.hid (Z1.putAll z2 rfl)
    have S2 := Lib.hid (HB1.out.puts (b := w.heap.size + 1 + 1) (by omega) 0 (ints z2))
    clear HB1
    go_wp2_with (first | (refine build_law rfl 23 rfl _ build2z ?_) | (refine store_at rfl 23 _ _ rfl _ _ rfl rfl ?_ 2 ?_ ?_ ?_ ?_; rotate_left; (· (repeat (first | (with_reducible assumption) | ((with_reducible refine Has.box _ _ ?_ ?_) <;> (first | assumption | decide)) | (with_reducible refine Has.alloc ?_ _) | ((with_reducible refine Has.putOther ?_ _ _ ?_); rotate_left; omega; skip) | ((with_reducible refine Has.below ?_ ?_); rotate_left; assumption)))); (· (first | assumption | rfl)); (· kernel_rfl)))
    exact bodyPost_ret (res_has1 rfl _ _ (w.heap.size + 1 + 1) z2 2 _ (.bool false) rfl rfl S1.out Try.underlying23 rfl (by kernel_rfl)) rfl ⟨by rw [O.out.1, O.out.2], S2.out⟩
  rw [hv]
  go_wp2_with fail
  refine (isPlace_any i _).mono ?_
  rintro e w' ⟨rfl, rfl⟩
  by_cases hp : 0 ≤ i ∧ i < 6
  rotate_left
  · rw [decide_eq_false hp]
    have O := Lib.hid (alA_not (ms := ms) (cs := cs) (i := i) (j := j) (fun hh => hp hh.2.1))
    clear hp hv
    have S1 := Lib.hid (Z1.putAll z2 rfl)
    have S2 := Lib.hid (HB1.out.puts (b := w.heap.size + 1 + 1) (by omega) 0 (ints z2))
    clear HB1
    go_wp2_with (first | (refine build_law rfl 23 rfl _ build2z ?_) | (refine store_at rfl 23 _ _ rfl _ _ rfl rfl ?_ 2 ?_ ?_ ?_ ?_; rotate_left; (· (repeat (first | (with_reducible assumption) | ((with_reducible refine Has.box _ _ ?_ ?_) <;> (first | assumption | decide)) | (with_reducible refine Has.alloc ?_ _) | ((with_reducible refine Has.putOther ?_ _ _ ?_); rotate_left; omega; skip) | ((with_reducible refine Has.below ?_ ?_); rotate_left; assumption)))); (· (first | assumption | rfl)); (· kernel_rfl)))
    exact bodyPost_ret (res_has1 rfl _ _ (w.heap.size + 1 + 1) z2 2 _ (.bool false) rfl rfl S1.out Try.underlying23 rfl (by kernel_rfl)) rfl ⟨by rw [O.out.1, O.out.2], S2.out⟩
  rw [decide_eq_true hp]
  go_wp2_with fail
  refine (isPlace_any j _).mono ?_
  rintro e w' ⟨rfl, rfl⟩
  by_cases hc : 0 ≤ j ∧ j < 6
  rotate_left
  · rw [decide_eq_false hc]
    have O := Lib.hid (alA_not (ms := ms) (cs := cs) (i := i) (j := j) (fun hh => hc hh.2.2.1))
    clear hp hv hc
    have S1 := Lib.hid (Z1.putAll z2 rfl)
    have S2 := Lib.hid (HB1.out.puts (b := w.heap.size + 1 + 1) (by omega) 0 (ints z2))
    clear HB1
    go_wp2_with (first | (refine build_law rfl 23 rfl _ build2z ?_) | (refine store_at rfl 23 _ _ rfl _ _ rfl rfl ?_ 2 ?_ ?_ ?_ ?_; rotate_left; (· (repeat (first | (with_reducible assumption) | ((with_reducible refine Has.box _ _ ?_ ?_) <;> (first | assumption | decide)) | (with_reducible refine Has.alloc ?_ _) | ((with_reducible refine Has.putOther ?_ _ _ ?_); rotate_left; omega; skip) | ((with_reducible refine Has.below ?_ ?_); rotate_left; assumption)))); (· (first | assumption | rfl)); (· kernel_rfl)))
    exact bodyPost_ret (res_has1 rfl _ _ (w.heap.size + 1 + 1) z2 2 _ (.bool false) rfl rfl S1.out Try.underlying23 rfl (by kernel_rfl)) rfl ⟨by rw [O.out.1, O.out.2], S2.out⟩
  rw [decide_eq_true hc]
  obtain ⟨p, rfl⟩ : ∃ p : Nat, i = (p : Int) := ⟨i.toNat, by omega⟩
  obtain ⟨q, rfl⟩ : ∃ q : Nat, j = (q : Int) := ⟨j.toNat, by omega⟩
  have hp6 : p < 6 := by omega
  have hq6 : q < 6 := by omega
  have hpi : (p : Int) < 6 := by omega
  have hqi : (q : Int) < 6 := by omega
  by_cases hn : p = q
  · subst hn
    have O := Lib.hid (alA_not (ms := ms) (cs := cs) (i := (p : Int)) (j := (p : Int)) (fun hh => hh.2.2.2.1 rfl))
    clear hp hv hc
    have S1 := Lib.hid (Z1.putAll z2 rfl)
    have S2 := Lib.hid (HB1.out.puts (b := w.heap.size + 1 + 1) (by omega) 0 (ints z2))
    clear HB1
    go_wp2_with (first | (refine build_law rfl 23 rfl _ build2z ?_) | (refine store_at rfl 23 _ _ rfl _ _ rfl rfl ?_ 2 ?_ ?_ ?_ ?_; rotate_left; (· (repeat (first | (with_reducible assumption) | ((with_reducible refine Has.box _ _ ?_ ?_) <;> (first | assumption | decide)) | (with_reducible refine Has.alloc ?_ _) | ((with_reducible refine Has.putOther ?_ _ _ ?_); rotate_left; omega; skip) | ((with_reducible refine Has.below ?_ ?_); rotate_left; assumption)))); (· (first | assumption | rfl)); (· kernel_rfl)))
    exact bodyPost_ret (res_has1 rfl _ _ (w.heap.size + 1 + 1) z2 2 _ (.bool false) rfl rfl S1.out Try.underlying23 rfl (by kernel_rfl)) rfl ⟨by rw [O.out.1, O.out.2], S2.out⟩
  have n0 : ((p : Int) == (q : Int)) = false := by simp; omega
  have c0 := H3.cell p hp6
  have c1 := H3.cell q hq6
  by_cases hm : ms.getD p 0 = 0
  · have O := Lib.hid (alA_not (ms := ms) (cs := cs) (i := (p : Int)) (j := (q : Int)) (fun hh => hh.2.2.2.2.1 (by rw [Int.toNat_natCast]; exact hm)))
    rw [hm] at c0
    clear hp hv hc hm c1
    have S1 := Lib.hid (Z1.putAll z2 rfl)
    have S2 := Lib.hid (HB1.out.puts (b := w.heap.size + 1 + 1) (by omega) 0 (ints z2))
    clear HB1
    go_wp2_with (first | (refine build_law rfl 23 rfl _ build2z ?_) | (refine store_at rfl 23 _ _ rfl _ _ rfl rfl ?_ 2 ?_ ?_ ?_ ?_; rotate_left; (· (repeat (first | (with_reducible assumption) | ((with_reducible refine Has.box _ _ ?_ ?_) <;> (first | assumption | decide)) | (with_reducible refine Has.alloc ?_ _) | ((with_reducible refine Has.putOther ?_ _ _ ?_); rotate_left; omega; skip) | ((with_reducible refine Has.below ?_ ?_); rotate_left; assumption)))); (· (first | assumption | rfl)); (· kernel_rfl)))
    exact bodyPost_ret (res_has1 rfl _ _ (w.heap.size + 1 + 1) z2 2 _ (.bool false) rfl rfl S1.out Try.underlying23 rfl (by kernel_rfl)) rfl ⟨by rw [O.out.1, O.out.2], S2.out⟩
  by_cases hk : ms.getD q 0 = 0
  · have O := Lib.hid (alA_not (ms := ms) (cs := cs) (i := (p : Int)) (j := (q : Int)) (fun hh => hh.2.2.2.2.2 (by rw [Int.toNat_natCast]; exact hk)))
    rw [hk] at c1
    have q0 : (ms.getD p 0 == 0) = false := by simpa using hm
    clear hp hv hc hm hk
    generalize ms.getD p 0 = x at *
    have S1 := Lib.hid (Z1.putAll z2 rfl)
    have S2 := Lib.hid (HB1.out.puts (b := w.heap.size + 1 + 1) (by omega) 0 (ints z2))
    clear HB1
    go_wp2_with (first | (refine build_law rfl 23 rfl _ build2z ?_) | (refine store_at rfl 23 _ _ rfl _ _ rfl rfl ?_ 2 ?_ ?_ ?_ ?_; rotate_left; (· (repeat (first | (with_reducible assumption) | ((with_reducible refine Has.box _ _ ?_ ?_) <;> (first | assumption | decide)) | (with_reducible refine Has.alloc ?_ _) | ((with_reducible refine Has.putOther ?_ _ _ ?_); rotate_left; omega; skip) | ((with_reducible refine Has.below ?_ ?_); rotate_left; assumption)))); (· (first | assumption | rfl)); (· kernel_rfl)))
    exact bodyPost_ret (res_has1 rfl _ _ (w.heap.size + 1 + 1) z2 2 _ (.bool false) rfl rfl S1.out Try.underlying23 rfl (by kernel_rfl)) rfl ⟨by rw [O.out.1, O.out.2], S2.out⟩
  have OK := Lib.hid (alA_yes (ms := ms) (cs := cs) hv hp hc (by omega) (by rw [Int.toNat_natCast]; exact hm) (by rw [Int.toNat_natCast]; exact hk))
  obtain ⟨L, F⟩ := dealFacts hv
  have O := Lib.hid (show alOk ms cs (p : Int) (q : Int) = true ∧ alA ms cs (p : Int) (q : Int) = frac (prUp cs 6) (onePl L) from ⟨OK.out, by unfold alA; rw [if_pos OK.out, F.cpl]⟩)
  have KA := Lib.hid (fun W => alike_any cs L W h2 F.cnt F.cpl F.small)
  have q0 : (ms.getD p 0 == 0) = false := by simpa using hm
  have q1 : (ms.getD q 0 == 0) = false := by simpa using hk
  have fl := frac_len (prUp cs 6) (onePl L)
  clear hp hv hc hm hk OK F
  generalize ms.getD p 0 = x at *
  generalize ms.getD q 0 = y at *
  go_wp2_with (refine load_has rfl 22 _ rfl _ rfl ?_ 6 ?_ _ Try.underlying22 rfl ?_ ?_; rotate_left; (· (repeat (first | (with_reducible assumption) | ((with_reducible refine Has.box _ _ ?_ ?_) <;> (first | assumption | decide)) | (with_reducible refine Has.alloc ?_ _) | ((with_reducible refine Has.putOther ?_ _ _ ?_); rotate_left; omega; skip) | ((with_reducible refine Has.below ?_ ?_); rotate_left; assumption)))); (· kernel_rfl))
  refine (KA.out _).mono ?_
  rintro e w3 ⟨rfl, b3⟩
  have Z3 := Z1.below b3
  have S1 := Lib.hid (Z3.putAll _ fl)
  have S2 := Lib.hid ((HB1.out.call b3).puts (b := w.heap.size + 1 + 1) (by omega) 0 (ints (frac (prUp cs 6) (onePl L))))
  clear b3 Z1 HB1
  go_wp2_with (refine store_at rfl 23 _ _ rfl _ _ rfl rfl ?_ 2 ?_ ?_ ?_ ?_; rotate_left; (· (repeat (first | (with_reducible assumption) | ((with_reducible refine Has.box _ _ ?_ ?_) <;> (first | assumption | decide)) | (with_reducible refine Has.alloc ?_ _) | ((with_reducible refine Has.putOther ?_ _ _ ?_); rotate_left; omega; skip) | ((with_reducible refine Has.below ?_ ?_); rotate_left; assumption)))); (· (first | assumption | rfl)); (· kernel_rfl))
  exact bodyPost_ret (res_has1 rfl _ _ (w.heap.size + 1 + 1) _ 2 _ (.bool true) rfl rfl S1.out Try.underlying23 rfl (by kernel_rfl)) rfl ⟨by rw [O.out.1, O.out.2], S2.out⟩
end Go.Proofs.Ytemiljokdedidaa.base
