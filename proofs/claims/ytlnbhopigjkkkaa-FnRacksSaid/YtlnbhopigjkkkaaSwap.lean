/-
  Exchanging two tubes, on both sides, walked.
-/
import Derived.Test.YtlnbhopigjkkkaaRackOps
namespace Go.Proofs.Ytlnbhopigjkkkaa.base
open Go.ChangeShapes Go.WideShapes Go.ChangeAt Go.RowKit
set_option linter.unusedVariables false
set_option linter.unusedSimpArgs false

def swapOk (ns : List Int) (i j : Int) : Bool := vR ns && decide (0 ≤ i ∧ i < 6) && decide (0 ≤ j ∧ j < 6)
def swapR (ns : List Int) (i j : Int) : List Int := if swapOk ns i j = true then setTub (setTub ns i.toNat (tub ns j.toNat)) j.toNat (tub ns i.toNat) else z24
theorem swapOk_not {ns : List Int} {i j : Int} (h : ¬ (vR ns = true ∧ (0 ≤ i ∧ i < 6) ∧ (0 ≤ j ∧ j < 6))) : swapOk ns i j = false := by
  cases hb : swapOk ns i j with
  | false => rfl
  | true => unfold swapOk at hb; simp at hb; exact absurd ⟨hb.1.1, hb.1.2, hb.2⟩ h
theorem swapR_yes {ns : List Int} {p q : Nat} (hv : vR ns = true) (hp : p < 6) (hq : q < 6) : swapOk ns p q = true ∧ swapR ns p q = setTub (setTub ns p (tub ns q)) q (tub ns p) := by
  have h : swapOk ns p q = true := by unfold swapOk; rw [hv]; simp; omega
  exact ⟨h, by unfold swapR; rw [if_pos h]; simp⟩
theorem swapR_len {ns : List Int} (h : ns.length = 24) (i j : Int) : (swapR ns i j).length = 24 := by
  unfold swapR
  by_cases hb : swapOk ns i j = true
  · rw [if_pos hb]
    unfold swapOk at hb
    simp at hb
    have a1 := tub_len ns j.toNat h (by omega)
    have a2 := tub_len ns i.toNat h (by omega)
    exact setTub_len _ _ _ (setTub_len ns _ _ h (by omega) a1) (by omega) a2
  · rw [if_neg hb]; rfl

structure HasOnly (w : World) (b : Nat) (ns : List Int) : Prop where
  has : Has w b ns 24
set_option maxHeartbeats 1600000 in
set_option maxRecDepth 100000 in
theorem implSwapTubes (ns : List Int) (i j : Int) (w : World) (h24 : ns.length = 24) :
    Calls Try.prog 20 #[row ns, .int .i64 i, .int .i64 j] w fun e w' => e = .returned (.tuple #[.agg (ints (swapR ns i j)).toArray, .bool (swapOk ns i j)]) ∧ Kept w w' := by
  have HB := Lib.hid (((kept_refl w).alloc (.cells (ints ns).toArray 27)).alloc (.cells #[.int .i64 0, .int .i64 0, .int .i64 0, .int .i64 0, .int .i64 0, .int .i64 0, .int .i64 0, .int .i64 0, .int .i64 0, .int .i64 0, .int .i64 0, .int .i64 0, .int .i64 0, .int .i64 0, .int .i64 0, .int .i64 0, .int .i64 0, .int .i64 0, .int .i64 0, .int .i64 0, .int .i64 0, .int .i64 0, .int .i64 0, .int .i64 0] 27))
  have H := (Has.box w 27 h24 (by omega)).alloc (.cells #[.int .i64 0, .int .i64 0, .int .i64 0, .int .i64 0, .int .i64 0, .int .i64 0, .int .i64 0, .int .i64 0, .int .i64 0, .int .i64 0, .int .i64 0, .int .i64 0, .int .i64 0, .int .i64 0, .int .i64 0, .int .i64 0, .int .i64 0, .int .i64 0, .int .i64 0, .int .i64 0, .int .i64 0, .int .i64 0, .int .i64 0, .int .i64 0] 27)
  have Z := (Has.zero24 (w.alloc (.cells (ints ns).toArray 27)) 27).at (size1 _ _)
  have hz : z24.length = 24 := rfl
  have S1 := Lib.hid (Z.putAll z24 rfl)
  have S2 := Lib.hid (HB.out.puts (b := w.heap.size + 1) (by omega) 0 (ints z24))
  rw [row_ints]
  go_enter Try.func20, Try.ntmps20
  go_wp2_with fail
  refine (isPlace_any i _).mono ?_
  rintro e w' ⟨rfl, rfl⟩
  by_cases hp : 0 ≤ i ∧ i < 6
  · rw [decide_eq_true hp]
    obtain ⟨p, rfl⟩ : ∃ p : Nat, i = (p : Int) := ⟨i.toNat, by omega⟩
    have hp6 : p < 6 := by omega
    have hpi : (p : Int) < 6 := by omega
    have hp0 : (0 : Int) ≤ (p : Int) := by omega
    clear hp
    go_wp2_with fail
    refine (isPlace_any j _).mono ?_
    rintro e w' ⟨rfl, rfl⟩
    by_cases hq : 0 ≤ j ∧ j < 6
    · rw [decide_eq_true hq]
      obtain ⟨q, rfl⟩ : ∃ q : Nat, j = (q : Int) := ⟨j.toNat, by omega⟩
      have hq6 : q < 6 := by omega
      have hqi : (q : Int) < 6 := by omega
      have hq0 : (0 : Int) ≤ (q : Int) := by omega
      clear hq S1 S2
      go_wp2_with (refine load_has rfl 27 _ rfl _ rfl ?_ 24 ?_ _ Try.underlying27 rfl ?_ ?_; rotate_left; (· (repeat (first | (with_reducible assumption) | ((with_reducible refine Has.box _ _ ?_ ?_) <;> (first | assumption | decide)) | (with_reducible refine Has.alloc ?_ _) | ((with_reducible refine Has.putOther ?_ _ _ ?_); rotate_left; omega; skip) | ((with_reducible refine Has.below ?_ ?_); rotate_left; assumption)))); (· kernel_rfl))
      refine (isRack_any ns _ h24).mono ?_
      rintro e w1 ⟨rfl, b1⟩
      have H1 := H.below b1
      have Z1 := Z.below b1
      have HB1 := Lib.hid (HB.out.call b1)
      clear H Z HB b1
      by_cases hv : vR ns = true
      · rw [hv]
        have V := Lib.hid (swapR_yes hv hp6 hq6)
        have sp := tub_len ns p h24 hp6
        have sq := tub_len ns q h24 hq6
        have l1 : (ints (tub ns p)).length = 4 := by rw [ints_len]; exact sp
        have l2 : (ints (tub ns q)).length = 4 := by rw [ints_len]; exact sq
        have hi1 : (Try.prog.info? 24).map (·.size) = some (ints (tub ns p)).length := by rw [l1]; kernel_rfl
        have hi2 : (Try.prog.info? 24).map (·.size) = some (ints (tub ns q)).length := by rw [l2]; kernel_rfl
        have H2 := H1.drew
        have H3 := H2.putTub p hp6 (tub ns q) sq
        have H4 := H3.putTub q hq6 (tub ns p) sp
        have t1 := H2.holds.thereSub (p * 4) 4 (by rw [ints_len, H2.len]; omega)
        have t2 := H3.holds.thereSub (q * 4) 4 (by rw [ints_len, H3.len]; omega)
        have hl4 := H4.len
        have Z4 := (Z1.drew.putOther (b' := w.heap.size) (p * 4) (ints (tub ns q)) (by omega)).putOther (b' := w.heap.size) (q * 4) (ints (tub ns p)) (by omega)
        have S1 := Lib.hid (Z4.putAll _ hl4)
        have S2 := Lib.hid ((((HB1.out.drewN 1).puts (b := w.heap.size) (Nat.le_refl _) (p * 4) (ints (tub ns q))).puts (b := w.heap.size) (Nat.le_refl _) (q * 4) (ints (tub ns p))).puts (b := w.heap.size + 1) (by omega) 0 (ints (setTub (setTub ns p (tub ns q)) q (tub ns p))))
        clear hv
        go_wp2_with fail
        refine wp_region_held_drew (S := fun w' => True) (by kernel_rfl) trivial (fun hHeld => ?_)
        (refine wpAnyH_take (i := 0) (v := ?_) rfl (by kernel_rfl) (by kernel_rfl) (by kernel_rfl) (fun _ _ _ h => h) (Or.inl ⟨by rfl, ?_⟩) hHeld ?_; rotate_left; (· (intro w' hSw; go_simp; try with_reducible rfl)); (try simp only [List.getElem_toArray, List.getElem_cons_zero, List.getElem_cons_succ, Act.put, List.setIfInBounds_toArray, List.set_cons_zero, List.set_cons_succ])); (refine wpAnyH_take (i := 1) (v := ?_) rfl (by kernel_rfl) (by kernel_rfl) (by kernel_rfl) (fun _ _ _ h => h) (Or.inl ⟨by rfl, ?_⟩) hHeld ?_; rotate_left; (· (intro w' hSw; go_simp; try with_reducible rfl)); (try simp only [List.getElem_toArray, List.getElem_cons_zero, List.getElem_cons_succ, Act.put, List.setIfInBounds_toArray, List.set_cons_zero, List.set_cons_succ])); (refine wpAnyH_take (i := 2) (v := ?_) rfl (by kernel_rfl) (by kernel_rfl) (by kernel_rfl) (fun _ _ _ h => h) (Or.inl ⟨by rfl, ?_⟩) hHeld ?_; rotate_left; (· (intro w' hSw; go_simp; try with_reducible rfl)); (try simp only [List.getElem_toArray, List.getElem_cons_zero, List.getElem_cons_succ, Act.put, List.setIfInBounds_toArray, List.set_cons_zero, List.set_cons_succ])); (refine wpAnyH_take (i := 3) (v := ?_) rfl (by kernel_rfl) (by kernel_rfl) (by kernel_rfl) (fun _ _ _ h => h) (Or.inl ⟨by rfl, ?_⟩) hHeld ?_; rotate_left; (· (intro w' hSw; go_simp; try with_reducible rfl)); (try simp only [List.getElem_toArray, List.getElem_cons_zero, List.getElem_cons_succ, Act.put, List.setIfInBounds_toArray, List.set_cons_zero, List.set_cons_succ])); (refine wpAnyH_take (i := 4) (v := ?_) rfl (by kernel_rfl) (by kernel_rfl) (by kernel_rfl) (fun _ _ _ h => h) (Or.inl ⟨by rfl, ?_⟩) hHeld ?_; rotate_left; (· (intro w' hSw; go_simp; try with_reducible rfl)); (try simp only [List.getElem_toArray, List.getElem_cons_zero, List.getElem_cons_succ, Act.put, List.setIfInBounds_toArray, List.set_cons_zero, List.set_cons_succ])); (refine wpAnyH_take (i := 6) (v := ?_) rfl (by kernel_rfl) (by kernel_rfl) (by kernel_rfl) (fun _ _ _ h => h) (Or.inl ⟨by rfl, ?_⟩) hHeld ?_; rotate_left; (· (intro w' hSw; go_simp; try with_reducible rfl)); (try simp only [List.getElem_toArray, List.getElem_cons_zero, List.getElem_cons_succ, Act.put, List.setIfInBounds_toArray, List.set_cons_zero, List.set_cons_succ])); (refine wpAnyH_take (i := 7) (v := ?_) rfl (by kernel_rfl) (by kernel_rfl) (by kernel_rfl) (fun _ _ _ h => h) (Or.inl ⟨by rfl, ?_⟩) hHeld ?_; rotate_left; (· (intro w' hSw; go_simp; try with_reducible rfl)); (try simp only [List.getElem_toArray, List.getElem_cons_zero, List.getElem_cons_succ, Act.put, List.setIfInBounds_toArray, List.set_cons_zero, List.set_cons_succ])); (refine wpAnyH_take (i := 8) (v := ?_) rfl (by kernel_rfl) (by kernel_rfl) (by kernel_rfl) (fun _ _ _ h => h) (Or.inl ⟨by rfl, ?_⟩) hHeld ?_; rotate_left; (· (intro w' hSw; go_simp; try with_reducible rfl)); (try simp only [List.getElem_toArray, List.getElem_cons_zero, List.getElem_cons_succ, Act.put, List.setIfInBounds_toArray, List.set_cons_zero, List.set_cons_succ])); (refine wpAnyH_take (i := 10) (v := ?_) rfl (by kernel_rfl) (by kernel_rfl) (by kernel_rfl) (fun _ _ _ h => h) (Or.inl ⟨by rfl, ?_⟩) hHeld ?_; rotate_left; (· (intro w' hSw; go_simp; try with_reducible rfl)); (try simp only [List.getElem_toArray, List.getElem_cons_zero, List.getElem_cons_succ, Act.put, List.setIfInBounds_toArray, List.set_cons_zero, List.set_cons_succ])); (refine wpAnyH_take (i := 13) (v := ?_) rfl (by kernel_rfl) (by kernel_rfl) (by kernel_rfl) (fun _ _ _ h => h) (Or.inl ⟨by rfl, ?_⟩) hHeld ?_; rotate_left; (· (intro w' hSw; go_simp; try with_reducible rfl)); (try simp only [List.getElem_toArray, List.getElem_cons_zero, List.getElem_cons_succ, Act.put, List.setIfInBounds_toArray, List.set_cons_zero, List.set_cons_succ]))
        refine wpAnyH_ready (rs := [5, 9]) (by kernel_rfl) (by simp) ?_
        refine AllReadyH.cons (o := _) rfl (fun K hK => ?_) (AllReadyH.cons (o := _) rfl (fun K hK => ?_) AllReadyH.nil)
        · (simp only [List.getElem_toArray, List.getElem_cons_zero, List.getElem_cons_succ, Region.wanted, if_true])
          refine wp_load_mid _ _ rfl _ _ rfl (ints (tub ns q)) _ (H2.holds.sub (q * 4) 4) Try.underlying24 rfl hi2 ?_
          (try simp only [List.getElem_toArray, List.getElem_cons_zero, List.getElem_cons_succ, Act.put, List.setIfInBounds_toArray, List.set_cons_zero, List.set_cons_succ])
          refine hK.out _ _ trivial (fun hHeld => ?_)
          clear hK K
          (refine wpAnyH_ready (rs := [9]) (by kernel_rfl) (by simp) ?_; refine AllReadyH.cons (o := _) rfl (fun K hK => ?_) AllReadyH.nil; (simp only [List.getElem_toArray, List.getElem_cons_zero, List.getElem_cons_succ, Region.wanted, if_true]); refine wp_load_mid _ _ rfl _ _ rfl (ints (tub ns p)) _ (H2.holds.sub (p * 4) 4) Try.underlying24 rfl (hi1) ?_; (try simp only [List.getElem_toArray, List.getElem_cons_zero, List.getElem_cons_succ, Act.put, List.setIfInBounds_toArray, List.set_cons_zero, List.set_cons_succ]); refine hK.out _ _ trivial (fun hHeld => ?_); clear hK K)
          (refine wpAnyH_take (i := 11) (v := ?_) rfl (by kernel_rfl) (by kernel_rfl) (by kernel_rfl) (fun _ _ _ h => h) (Or.inl ⟨by rfl, ?_⟩) hHeld ?_; rotate_left; (· (intro w' hSw; go_simp; try with_reducible rfl)); (try simp only [List.getElem_toArray, List.getElem_cons_zero, List.getElem_cons_succ, Act.put, List.setIfInBounds_toArray, List.set_cons_zero, List.set_cons_succ]))
          (refine wpAnyH_ready (rs := [12]) (by kernel_rfl) (by simp) ?_; refine AllReadyH.cons (o := _) rfl (fun K hK => ?_) AllReadyH.nil; (simp only [List.getElem_toArray, List.getElem_cons_zero, List.getElem_cons_succ, Region.wanted, if_true]); refine wp_store_mid _ _ _ rfl _ _ (ints (tub ns q)).toArray rfl rfl (by simpa [l2] using t1) (by simpa [l2] using hi2) (all_oneCell_toArray (ints_one _)) ?_; (try simp only [List.getElem_toArray, List.getElem_cons_zero, List.getElem_cons_succ, Act.put, List.setIfInBounds_toArray, List.set_cons_zero, List.set_cons_succ, List.toList_toArray]); refine hK.out _ _ (trivial) (fun hHeld => ?_); clear hK K)
          (refine wpAnyH_take (i := 14) (v := ?_) rfl (by kernel_rfl) (by kernel_rfl) (by kernel_rfl) (fun _ _ _ h => h) (Or.inl ⟨by rfl, ?_⟩) hHeld ?_; rotate_left; (· (intro w' hSw; go_simp; try with_reducible rfl)); (try simp only [List.getElem_toArray, List.getElem_cons_zero, List.getElem_cons_succ, Act.put, List.setIfInBounds_toArray, List.set_cons_zero, List.set_cons_succ]))
          (refine wpAnyH_ready (rs := [15]) (by kernel_rfl) (by simp) ?_; refine AllReadyH.cons (o := _) rfl (fun K hK => ?_) AllReadyH.nil; (simp only [List.getElem_toArray, List.getElem_cons_zero, List.getElem_cons_succ, Region.wanted, if_true]); refine wp_store_mid _ _ _ rfl _ _ (ints (tub ns p)).toArray rfl rfl (by simpa [l1] using t2) (by simpa [l1] using hi1) (all_oneCell_toArray (ints_one _)) ?_; (try simp only [List.getElem_toArray, List.getElem_cons_zero, List.getElem_cons_succ, Act.put, List.setIfInBounds_toArray, List.set_cons_zero, List.set_cons_succ, List.toList_toArray]); refine hK.out _ _ (trivial) (fun hHeld => ?_); clear hK K)
          refine wpAnyH_done (by kernel_rfl) ?_ _
          clear H2 H3 Z1 H1 hHeld hi1 l1 hi2 l2 t1 t2
          go_wp2_with (first | (refine load_has rfl 27 _ rfl _ rfl ?_ 24 ?_ _ Try.underlying27 rfl ?_ ?_; rotate_left; (· (repeat (first | (with_reducible assumption) | ((with_reducible refine Has.box _ _ ?_ ?_) <;> (first | assumption | decide)) | (with_reducible refine Has.alloc ?_ _) | ((with_reducible refine Has.putOther ?_ _ _ ?_); rotate_left; omega; skip) | ((with_reducible refine Has.below ?_ ?_); rotate_left; assumption)))); (· kernel_rfl)) | (refine store_at rfl 27 _ _ rfl _ _ rfl rfl ?_ 24 ?_ ?_ ?_ ?_; rotate_left; (· (repeat (first | (with_reducible assumption) | ((with_reducible refine Has.box _ _ ?_ ?_) <;> (first | assumption | decide)) | (with_reducible refine Has.alloc ?_ _) | ((with_reducible refine Has.putOther ?_ _ _ ?_); rotate_left; omega; skip) | ((with_reducible refine Has.below ?_ ?_); rotate_left; assumption)))); (· (first | assumption | rfl)); (· kernel_rfl)))
          exact bodyPost_ret (res_has1 rfl _ _ (w.heap.size + 1) _ 24 _ (.bool true) rfl rfl S1.out Try.underlying27 rfl (by kernel_rfl)) rfl ⟨by rw [V.out.1, V.out.2], S2.out⟩
        · (simp only [List.getElem_toArray, List.getElem_cons_zero, List.getElem_cons_succ, Region.wanted, if_true])
          refine wp_load_mid _ _ rfl _ _ rfl (ints (tub ns p)) _ (H2.holds.sub (p * 4) 4) Try.underlying24 rfl hi1 ?_
          (try simp only [List.getElem_toArray, List.getElem_cons_zero, List.getElem_cons_succ, Act.put, List.setIfInBounds_toArray, List.set_cons_zero, List.set_cons_succ])
          refine hK.out _ _ trivial (fun hHeld => ?_)
          clear hK K
          (refine wpAnyH_ready (rs := [5]) (by kernel_rfl) (by simp) ?_; refine AllReadyH.cons (o := _) rfl (fun K hK => ?_) AllReadyH.nil; (simp only [List.getElem_toArray, List.getElem_cons_zero, List.getElem_cons_succ, Region.wanted, if_true]); refine wp_load_mid _ _ rfl _ _ rfl (ints (tub ns q)) _ (H2.holds.sub (q * 4) 4) Try.underlying24 rfl (hi2) ?_; (try simp only [List.getElem_toArray, List.getElem_cons_zero, List.getElem_cons_succ, Act.put, List.setIfInBounds_toArray, List.set_cons_zero, List.set_cons_succ]); refine hK.out _ _ trivial (fun hHeld => ?_); clear hK K)
          (refine wpAnyH_take (i := 11) (v := ?_) rfl (by kernel_rfl) (by kernel_rfl) (by kernel_rfl) (fun _ _ _ h => h) (Or.inl ⟨by rfl, ?_⟩) hHeld ?_; rotate_left; (· (intro w' hSw; go_simp; try with_reducible rfl)); (try simp only [List.getElem_toArray, List.getElem_cons_zero, List.getElem_cons_succ, Act.put, List.setIfInBounds_toArray, List.set_cons_zero, List.set_cons_succ]))
          (refine wpAnyH_ready (rs := [12]) (by kernel_rfl) (by simp) ?_; refine AllReadyH.cons (o := _) rfl (fun K hK => ?_) AllReadyH.nil; (simp only [List.getElem_toArray, List.getElem_cons_zero, List.getElem_cons_succ, Region.wanted, if_true]); refine wp_store_mid _ _ _ rfl _ _ (ints (tub ns q)).toArray rfl rfl (by simpa [l2] using t1) (by simpa [l2] using hi2) (all_oneCell_toArray (ints_one _)) ?_; (try simp only [List.getElem_toArray, List.getElem_cons_zero, List.getElem_cons_succ, Act.put, List.setIfInBounds_toArray, List.set_cons_zero, List.set_cons_succ, List.toList_toArray]); refine hK.out _ _ (trivial) (fun hHeld => ?_); clear hK K)
          (refine wpAnyH_take (i := 14) (v := ?_) rfl (by kernel_rfl) (by kernel_rfl) (by kernel_rfl) (fun _ _ _ h => h) (Or.inl ⟨by rfl, ?_⟩) hHeld ?_; rotate_left; (· (intro w' hSw; go_simp; try with_reducible rfl)); (try simp only [List.getElem_toArray, List.getElem_cons_zero, List.getElem_cons_succ, Act.put, List.setIfInBounds_toArray, List.set_cons_zero, List.set_cons_succ]))
          (refine wpAnyH_ready (rs := [15]) (by kernel_rfl) (by simp) ?_; refine AllReadyH.cons (o := _) rfl (fun K hK => ?_) AllReadyH.nil; (simp only [List.getElem_toArray, List.getElem_cons_zero, List.getElem_cons_succ, Region.wanted, if_true]); refine wp_store_mid _ _ _ rfl _ _ (ints (tub ns p)).toArray rfl rfl (by simpa [l1] using t2) (by simpa [l1] using hi1) (all_oneCell_toArray (ints_one _)) ?_; (try simp only [List.getElem_toArray, List.getElem_cons_zero, List.getElem_cons_succ, Act.put, List.setIfInBounds_toArray, List.set_cons_zero, List.set_cons_succ, List.toList_toArray]); refine hK.out _ _ (trivial) (fun hHeld => ?_); clear hK K)
          refine wpAnyH_done (by kernel_rfl) ?_ _
          clear H2 H3 Z1 H1 hHeld hi1 l1 hi2 l2 t1 t2
          go_wp2_with (first | (refine load_has rfl 27 _ rfl _ rfl ?_ 24 ?_ _ Try.underlying27 rfl ?_ ?_; rotate_left; (· (repeat (first | (with_reducible assumption) | ((with_reducible refine Has.box _ _ ?_ ?_) <;> (first | assumption | decide)) | (with_reducible refine Has.alloc ?_ _) | ((with_reducible refine Has.putOther ?_ _ _ ?_); rotate_left; omega; skip) | ((with_reducible refine Has.below ?_ ?_); rotate_left; assumption)))); (· kernel_rfl)) | (refine store_at rfl 27 _ _ rfl _ _ rfl rfl ?_ 24 ?_ ?_ ?_ ?_; rotate_left; (· (repeat (first | (with_reducible assumption) | ((with_reducible refine Has.box _ _ ?_ ?_) <;> (first | assumption | decide)) | (with_reducible refine Has.alloc ?_ _) | ((with_reducible refine Has.putOther ?_ _ _ ?_); rotate_left; omega; skip) | ((with_reducible refine Has.below ?_ ?_); rotate_left; assumption)))); (· (first | assumption | rfl)); (· kernel_rfl)))
          exact bodyPost_ret (res_has1 rfl _ _ (w.heap.size + 1) _ 24 _ (.bool true) rfl rfl S1.out Try.underlying27 rfl (by kernel_rfl)) rfl ⟨by rw [V.out.1, V.out.2], S2.out⟩
      · have hf : vR ns = false := by simpa using hv
        have O := Lib.hid (swapOk_not (ns := ns) (i := p) (j := q) fun h => hv h.1)
        rw [hf]
        have S1 := Lib.hid (Z1.putAll z24 rfl)
        have S2 := Lib.hid (HB1.out.puts (b := w.heap.size + 1) (by omega) 0 (ints z24))
        clear hf hv
        go_wp2_with (first | (refine build_law rfl 27 rfl _ buildRack ?_) | (refine store_at rfl 27 _ _ rfl _ _ rfl rfl ?_ 24 ?_ ?_ ?_ ?_; rotate_left; (· (repeat (first | (with_reducible assumption) | ((with_reducible refine Has.box _ _ ?_ ?_) <;> (first | assumption | decide)) | (with_reducible refine Has.alloc ?_ _) | ((with_reducible refine Has.putOther ?_ _ _ ?_); rotate_left; omega; skip) | ((with_reducible refine Has.below ?_ ?_); rotate_left; assumption)))); (· (first | assumption | rfl)); (· kernel_rfl)))
        exact bodyPost_ret (res_has1 rfl _ _ (w.heap.size + 1) z24 24 _ (.bool false) rfl rfl S1.out Try.underlying27 rfl (by kernel_rfl)) rfl ⟨by unfold swapR; rw [O.out]; rfl, S2.out⟩
    · rw [decide_eq_false hq]
      have O := Lib.hid (swapOk_not (ns := ns) (i := p) (j := j) fun h => hq h.2.2)
      clear hq
      go_wp2_with (first | (refine build_law rfl 27 rfl _ buildRack ?_) | (refine store_at rfl 27 _ _ rfl _ _ rfl rfl ?_ 24 ?_ ?_ ?_ ?_; rotate_left; (· (repeat (first | (with_reducible assumption) | ((with_reducible refine Has.box _ _ ?_ ?_) <;> (first | assumption | decide)) | (with_reducible refine Has.alloc ?_ _) | ((with_reducible refine Has.putOther ?_ _ _ ?_); rotate_left; omega; skip) | ((with_reducible refine Has.below ?_ ?_); rotate_left; assumption)))); (· (first | assumption | rfl)); (· kernel_rfl)))
      exact bodyPost_ret (res_has1 rfl _ _ (w.heap.size + 1) z24 24 _ (.bool false) rfl rfl S1.out Try.underlying27 rfl (by kernel_rfl)) rfl ⟨by unfold swapR; rw [O.out]; rfl, S2.out⟩
  · rw [decide_eq_false hp]
    have O := Lib.hid (swapOk_not (ns := ns) (i := i) (j := j) fun h => hp h.2.1)
    clear hp
    go_wp2_with (first | (refine build_law rfl 27 rfl _ buildRack ?_) | (refine store_at rfl 27 _ _ rfl _ _ rfl rfl ?_ 24 ?_ ?_ ?_ ?_; rotate_left; (· (repeat (first | (with_reducible assumption) | ((with_reducible refine Has.box _ _ ?_ ?_) <;> (first | assumption | decide)) | (with_reducible refine Has.alloc ?_ _) | ((with_reducible refine Has.putOther ?_ _ _ ?_); rotate_left; omega; skip) | ((with_reducible refine Has.below ?_ ?_); rotate_left; assumption)))); (· (first | assumption | rfl)); (· kernel_rfl)))
    exact bodyPost_ret (res_has1 rfl _ _ (w.heap.size + 1) z24 24 _ (.bool false) rfl rfl S1.out Try.underlying27 rfl (by kernel_rfl)) rfl ⟨by unfold swapR; rw [O.out]; rfl, S2.out⟩

set_option maxHeartbeats 3200000 in
set_option maxRecDepth 100000 in
theorem specSwapTubes (ns : List Int) (i j : Int) (w : World) (h24 : ns.length = 24) :
    Calls Try.prog 21 #[row ns, .int .i64 i, .int .i64 j] w fun e w' => e = .returned (.tuple #[.agg (ints (swapR ns i j)).toArray, .bool (swapOk ns i j)]) ∧ Kept w w' := by
  have HB := Lib.hid (((kept_refl w).alloc (.cells (ints ns).toArray 27)).alloc (.cells #[.int .i64 0, .int .i64 0, .int .i64 0, .int .i64 0, .int .i64 0, .int .i64 0, .int .i64 0, .int .i64 0, .int .i64 0, .int .i64 0, .int .i64 0, .int .i64 0, .int .i64 0, .int .i64 0, .int .i64 0, .int .i64 0, .int .i64 0, .int .i64 0, .int .i64 0, .int .i64 0, .int .i64 0, .int .i64 0, .int .i64 0, .int .i64 0] 27))
  have H := (Has.box w 27 h24 (by omega)).alloc (.cells #[.int .i64 0, .int .i64 0, .int .i64 0, .int .i64 0, .int .i64 0, .int .i64 0, .int .i64 0, .int .i64 0, .int .i64 0, .int .i64 0, .int .i64 0, .int .i64 0, .int .i64 0, .int .i64 0, .int .i64 0, .int .i64 0, .int .i64 0, .int .i64 0, .int .i64 0, .int .i64 0, .int .i64 0, .int .i64 0, .int .i64 0, .int .i64 0] 27)
  have Z := (Has.zero24 (w.alloc (.cells (ints ns).toArray 27)) 27).at (size1 _ _)
  have hz : z24.length = 24 := rfl
  rw [row_ints]
  go_enter Try.func21, Try.ntmps21
  go_wp2_with (refine load_has rfl 27 _ rfl _ rfl ?_ 24 ?_ _ Try.underlying27 rfl ?_ ?_; rotate_left; (· (repeat (first | (with_reducible assumption) | ((with_reducible refine Has.box _ _ ?_ ?_) <;> (first | assumption | decide)) | (with_reducible refine Has.alloc ?_ _) | ((with_reducible refine Has.putOther ?_ _ _ ?_); rotate_left; omega; skip) | ((with_reducible refine Has.below ?_ ?_); rotate_left; assumption)))); (· kernel_rfl))
  refine (l2Rack_any ns _ h24).mono ?_
  rintro e w1 ⟨rfl, b1⟩
  have H1 := H.below b1
  have Z1 := Z.below b1
  have HB1 := Lib.hid (HB.out.call b1)
  have HZ1 := Lib.hid Z1.lt
  have S1 := Lib.hid (Z1.putAll z24 rfl)
  have S2 := Lib.hid (HB1.out.puts (b := w.heap.size + 1) (by omega) 0 (ints z24))
  clear H Z HB b1
  by_cases hv : vR ns = true
  · rw [hv]
    have HV := Lib.hid hv
    clear hv
    go_wp2_with fail
    refine (l2Place_any i _).mono ?_
    rintro e w' ⟨rfl, rfl⟩
    by_cases hp : 0 ≤ i ∧ i < 6
    · rw [decide_eq_true hp]
      obtain ⟨p, rfl⟩ : ∃ p : Nat, i = (p : Int) := ⟨i.toNat, by omega⟩
      have hp6 : p < 6 := by omega
      have hpi : (p : Int) < 6 := by omega
      have hp0 : (0 : Int) ≤ (p : Int) := by omega
      clear hp
      go_wp2_with fail
      refine (l2Place_any j _).mono ?_
      rintro e w' ⟨rfl, rfl⟩
      by_cases hq : 0 ≤ j ∧ j < 6
      · rw [decide_eq_true hq]
        obtain ⟨q, rfl⟩ : ∃ q : Nat, j = (q : Int) := ⟨j.toNat, by omega⟩
        have hq6 : q < 6 := by omega
        have hqi : (q : Int) < 6 := by omega
        have hq0 : (0 : Int) ≤ (q : Int) := by omega
        clear hq S1 S2
        have V := Lib.hid (swapR_yes HV.out hp6 hq6)
        have sp := tub_len ns p h24 hp6
        have sq := tub_len ns q h24 hq6
        have l1 : (ints (tub ns p)).length = 4 := by rw [ints_len]; exact sp
        have l2 : (ints (tub ns q)).length = 4 := by rw [ints_len]; exact sq
        have hi1 : (Try.prog.info? 24).map (·.size) = some (ints (tub ns p)).length := by rw [l1]; kernel_rfl
        have hi2 : (Try.prog.info? 24).map (·.size) = some (ints (tub ns q)).length := by rw [l2]; kernel_rfl
        go_wp2_with fail
        refine wp_region_held_drew (S := fun w' => HasOnly w' w.heap.size ns) (by kernel_rfl) ⟨H1.drew⟩ (fun hHeld => ?_)
        (refine wpAnyH_take (i := 0) (v := ?_) rfl (by kernel_rfl) (by kernel_rfl) (by kernel_rfl) (fun _ _ _ h => h) (Or.inl ⟨by rfl, ?_⟩) hHeld ?_; rotate_left; (· (intro w' hSw; go_simp; try with_reducible rfl)); (try simp only [List.getElem_toArray, List.getElem_cons_zero, List.getElem_cons_succ, Act.put, List.setIfInBounds_toArray, List.set_cons_zero, List.set_cons_succ])); (refine wpAnyH_take (i := 1) (v := ?_) rfl (by kernel_rfl) (by kernel_rfl) (by kernel_rfl) (fun _ _ _ h => h) (Or.inl ⟨by rfl, ?_⟩) hHeld ?_; rotate_left; (· (intro w' hSw; go_simp; try with_reducible rfl)); (try simp only [List.getElem_toArray, List.getElem_cons_zero, List.getElem_cons_succ, Act.put, List.setIfInBounds_toArray, List.set_cons_zero, List.set_cons_succ])); (refine wpAnyH_take (i := 2) (v := ?_) rfl (by kernel_rfl) (by kernel_rfl) (by kernel_rfl) (fun _ _ _ h => h) (Or.inl ⟨by rfl, ?_⟩) hHeld ?_; rotate_left; (· (intro w' hSw; go_simp; try with_reducible rfl)); (try simp only [List.getElem_toArray, List.getElem_cons_zero, List.getElem_cons_succ, Act.put, List.setIfInBounds_toArray, List.set_cons_zero, List.set_cons_succ])); (refine wpAnyH_take (i := 4) (v := ?_) rfl (by kernel_rfl) (by kernel_rfl) (by kernel_rfl) (fun _ _ _ h => h) (Or.inl ⟨by rfl, ?_⟩) hHeld ?_; rotate_left; (· (intro w' hSw; go_simp; try with_reducible rfl)); (try simp only [List.getElem_toArray, List.getElem_cons_zero, List.getElem_cons_succ, Act.put, List.setIfInBounds_toArray, List.set_cons_zero, List.set_cons_succ])); (refine wpAnyH_take (i := 5) (v := ?_) rfl (by kernel_rfl) (by kernel_rfl) (by kernel_rfl) (fun _ _ _ h => h) (Or.inl ⟨by rfl, ?_⟩) hHeld ?_; rotate_left; (· (intro w' hSw; go_simp; try with_reducible rfl)); (try simp only [List.getElem_toArray, List.getElem_cons_zero, List.getElem_cons_succ, Act.put, List.setIfInBounds_toArray, List.set_cons_zero, List.set_cons_succ])); (refine wpAnyH_take (i := 6) (v := ?_) rfl (by kernel_rfl) (by kernel_rfl) (by kernel_rfl) (fun _ _ _ h => h) (Or.inl ⟨by rfl, ?_⟩) hHeld ?_; rotate_left; (· (intro w' hSw; go_simp; try with_reducible rfl)); (try simp only [List.getElem_toArray, List.getElem_cons_zero, List.getElem_cons_succ, Act.put, List.setIfInBounds_toArray, List.set_cons_zero, List.set_cons_succ]))
        (refine wpAnyH_take (i := 3) (v := _) rfl (by kernel_rfl) (by kernel_rfl) (by kernel_rfl) (fun _ _ _ h => h) (yieldsIf_load_mid (by rfl) 24 _ rfl _ _ rfl (ints (tub ns p)) _ (fun w' hSw => hSw.1.holds.sub (p * 4) 4) Try.underlying24 rfl (hi1)) hHeld ?_; (try simp only [List.getElem_toArray, List.getElem_cons_zero, List.getElem_cons_succ, Act.put, List.setIfInBounds_toArray, List.set_cons_zero, List.set_cons_succ]))
        (refine wpAnyH_take (i := 7) (v := _) rfl (by kernel_rfl) (by kernel_rfl) (by kernel_rfl) (fun _ _ _ h => h) (yieldsIf_load_mid (by rfl) 24 _ rfl _ _ rfl (ints (tub ns q)) _ (fun w' hSw => hSw.1.holds.sub (q * 4) 4) Try.underlying24 rfl (hi2)) hHeld ?_; (try simp only [List.getElem_toArray, List.getElem_cons_zero, List.getElem_cons_succ, Act.put, List.setIfInBounds_toArray, List.set_cons_zero, List.set_cons_succ]))
        refine wpAnyH_ready (rs := [8, 9]) (by kernel_rfl) (by simp) ?_
        refine AllReadyH.cons (o := _) rfl (fun K hK => ?_) (AllReadyH.cons (o := _) rfl (fun K hK => ?_) AllReadyH.nil)
        · (simp only [List.getElem_toArray, List.getElem_cons_zero, List.getElem_cons_succ, Region.wanted, if_true])
          go_simp
          refine hK.out _ _ ⟨hHeld.1.alloc _⟩ (fun hHeld => ?_)
          clear hK K
          (refine wpAnyH_ready (rs := [9]) (by kernel_rfl) (by simp) ?_; refine AllReadyH.cons (o := _) rfl (fun K hK => ?_) AllReadyH.nil; (simp only [List.getElem_toArray, List.getElem_cons_zero, List.getElem_cons_succ, Region.wanted, if_true]))
          go_simp
          refine hK.out _ _ ⟨hHeld.1.alloc _⟩ (fun hHeld => ?_)
          clear hK K
          have B8 : Has ((w1.alloc (.cells #[.int .i64 0, .int .i64 0, .int .i64 0, .int .i64 0] 24)).alloc (.cells #[.int .i64 0, .int .i64 0, .int .i64 0, .int .i64 0] 24)).drew (w1.heap.size) [0, 0, 0, 0] 4 := ((Has.zero w1 _).alloc _).drew
          have B9 : Has ((w1.alloc (.cells #[.int .i64 0, .int .i64 0, .int .i64 0, .int .i64 0] 24)).alloc (.cells #[.int .i64 0, .int .i64 0, .int .i64 0, .int .i64 0] 24)).drew (w1.heap.size + 1) [0, 0, 0, 0] 4 := ((Has.zero (w1.alloc _) _).at (size1 _ _)).drew
          have hn : w.heap.size + 1 < w1.heap.size := HZ1.out
          have C8 := (B8.putAll (tub ns p) sp).putOther (b' := w1.heap.size + 1) 0 (ints (tub ns q)) (by omega)
          have C9 := (B9.putOther (b' := w1.heap.size) 0 (ints (tub ns p)) (by omega)).putAll (tub ns q) sq
          have A1 := (((H1.alloc (.cells #[.int .i64 0, .int .i64 0, .int .i64 0, .int .i64 0] 24)).alloc (.cells #[.int .i64 0, .int .i64 0, .int .i64 0, .int .i64 0] 24)).drew.putOther (b' := w1.heap.size) 0 (ints (tub ns p)) (by omega)).putOther (b' := w1.heap.size + 1) 0 (ints (tub ns q)) (by omega)
          have Y1 := (((Z1.alloc (.cells #[.int .i64 0, .int .i64 0, .int .i64 0, .int .i64 0] 24)).alloc (.cells #[.int .i64 0, .int .i64 0, .int .i64 0, .int .i64 0] 24)).drew.putOther (b' := w1.heap.size) 0 (ints (tub ns p)) (by omega)).putOther (b' := w1.heap.size + 1) 0 (ints (tub ns q)) (by omega)
          have K1 := ((((HB1.out.alloc (.cells #[.int .i64 0, .int .i64 0, .int .i64 0, .int .i64 0] 24)).alloc (.cells #[.int .i64 0, .int .i64 0, .int .i64 0, .int .i64 0] 24)).drewN 1).puts (b := w1.heap.size) (by omega) 0 (ints (tub ns p))).puts (b := w1.heap.size + 1) (by omega) 0 (ints (tub ns q))
          (refine wpAnyH_ready (rs := [10]) (by kernel_rfl) (by simp) ?_; refine AllReadyH.cons (o := _) rfl (fun K hK => ?_) AllReadyH.nil; (simp only [List.getElem_toArray, List.getElem_cons_zero, List.getElem_cons_succ, Region.wanted, if_true]); refine wp_store_mid _ _ _ rfl _ _ (ints (tub ns p)).toArray rfl rfl (by simpa [l1] using B8.there) (by simpa [l1] using hi1) (all_oneCell_toArray (ints_one _)) ?_; (try simp only [List.getElem_toArray, List.getElem_cons_zero, List.getElem_cons_succ, Act.put, List.setIfInBounds_toArray, List.set_cons_zero, List.set_cons_succ, List.toList_toArray]); refine hK.out _ _ (⟨hHeld.1.putOther _ _ (by omega)⟩) (fun hHeld => ?_); clear hK K)
          (refine wpAnyH_ready (rs := [11]) (by kernel_rfl) (by simp) ?_; refine AllReadyH.cons (o := _) rfl (fun K hK => ?_) AllReadyH.nil; (simp only [List.getElem_toArray, List.getElem_cons_zero, List.getElem_cons_succ, Region.wanted, if_true]); refine wp_store_mid _ _ _ rfl _ _ (ints (tub ns q)).toArray rfl rfl (by simpa [l2] using (B9.putOther (b' := w1.heap.size) 0 (ints (tub ns p)) (by omega)).there) (by simpa [l2] using hi2) (all_oneCell_toArray (ints_one _)) ?_; (try simp only [List.getElem_toArray, List.getElem_cons_zero, List.getElem_cons_succ, Act.put, List.setIfInBounds_toArray, List.set_cons_zero, List.set_cons_succ, List.toList_toArray]); refine hK.out _ _ (⟨hHeld.1.putOther _ _ (by omega)⟩) (fun hHeld => ?_); clear hK K)
          refine wpAnyH_done (by kernel_rfl) ?_ _
          clear B8 B9 hHeld hi1 l1 hi2 l2 H1 Z1
          have A2 := A1.putTub p hp6 (tub ns q) sq
          have C82 := C8.putOther (b' := w.heap.size) (p * 4) (ints (tub ns q)) (by omega)
          have A3 := A2.putTub q hq6 (tub ns p) sp
          have t1 := Lib.hid (A1.holds.thereSub (p * 4) 4 (by rw [ints_len, A1.len]; omega))
          have t2 := Lib.hid (A2.holds.thereSub (q * 4) 4 (by rw [ints_len, A2.len]; omega))
          have hl4 := A3.len
          have Y2 := (Y1.putOther (b' := w.heap.size) (p * 4) (ints (tub ns q)) (by omega)).putOther (b' := w.heap.size) (q * 4) (ints (tub ns p)) (by omega)
          have S1 := Lib.hid (Y2.putAll _ hl4)
          have S2 := Lib.hid (((K1.puts (b := w.heap.size) (Nat.le_refl _) (p * 4) (ints (tub ns q))).puts (b := w.heap.size) (Nat.le_refl _) (q * 4) (ints (tub ns p))).puts (b := w.heap.size + 1) (by omega) 0 (ints (setTub (setTub ns p (tub ns q)) q (tub ns p))))
          clear K1 Y1 A1 A2
          go_wp2_with (first | (refine load_has rfl 24 _ rfl _ rfl ?_ 4 ?_ _ Try.underlying24 rfl ?_ ?_; rotate_left; (· (repeat (first | (with_reducible assumption) | ((with_reducible refine Has.box _ _ ?_ ?_) <;> (first | assumption | decide)) | (with_reducible refine Has.alloc ?_ _) | ((with_reducible refine Has.putOther ?_ _ _ ?_); rotate_left; omega; skip) | ((with_reducible refine Has.below ?_ ?_); rotate_left; assumption)))); (· kernel_rfl)) | (refine store_has rfl 24 _ _ rfl w.heap.size (p * 4) (tub ns q) rfl rfl 4 sq t1.out ?_ ?_; (· kernel_rfl)) | (refine store_has rfl 24 _ _ rfl w.heap.size (q * 4) (tub ns p) rfl rfl 4 sp t2.out ?_ ?_; (· kernel_rfl)) | (refine load_has rfl 27 _ rfl _ rfl ?_ 24 ?_ _ Try.underlying27 rfl ?_ ?_; rotate_left; (· (repeat (first | (with_reducible assumption) | ((with_reducible refine Has.box _ _ ?_ ?_) <;> (first | assumption | decide)) | (with_reducible refine Has.alloc ?_ _) | ((with_reducible refine Has.putOther ?_ _ _ ?_); rotate_left; omega; skip) | ((with_reducible refine Has.below ?_ ?_); rotate_left; assumption)))); (· kernel_rfl)) | (refine store_at rfl 27 _ _ rfl _ _ rfl rfl ?_ 24 ?_ ?_ ?_ ?_; rotate_left; (· (repeat (first | (with_reducible assumption) | ((with_reducible refine Has.box _ _ ?_ ?_) <;> (first | assumption | decide)) | (with_reducible refine Has.alloc ?_ _) | ((with_reducible refine Has.putOther ?_ _ _ ?_); rotate_left; omega; skip) | ((with_reducible refine Has.below ?_ ?_); rotate_left; assumption)))); (· (first | assumption | rfl)); (· kernel_rfl)))
          exact bodyPost_ret (res_has1 rfl _ _ (w.heap.size + 1) _ 24 _ (.bool true) rfl rfl S1.out Try.underlying27 rfl (by kernel_rfl)) rfl ⟨by rw [V.out.1, V.out.2], S2.out⟩
        · (simp only [List.getElem_toArray, List.getElem_cons_zero, List.getElem_cons_succ, Region.wanted, if_true])
          go_simp
          refine hK.out _ _ ⟨hHeld.1.alloc _⟩ (fun hHeld => ?_)
          clear hK K
          (refine wpAnyH_ready (rs := [8]) (by kernel_rfl) (by simp) ?_; refine AllReadyH.cons (o := _) rfl (fun K hK => ?_) AllReadyH.nil; (simp only [List.getElem_toArray, List.getElem_cons_zero, List.getElem_cons_succ, Region.wanted, if_true]))
          go_simp
          refine hK.out _ _ ⟨hHeld.1.alloc _⟩ (fun hHeld => ?_)
          clear hK K
          have B8 : Has ((w1.alloc (.cells #[.int .i64 0, .int .i64 0, .int .i64 0, .int .i64 0] 24)).alloc (.cells #[.int .i64 0, .int .i64 0, .int .i64 0, .int .i64 0] 24)).drew (w1.heap.size + 1) [0, 0, 0, 0] 4 := ((Has.zero (w1.alloc _) _).at (size1 _ _)).drew
          have B9 : Has ((w1.alloc (.cells #[.int .i64 0, .int .i64 0, .int .i64 0, .int .i64 0] 24)).alloc (.cells #[.int .i64 0, .int .i64 0, .int .i64 0, .int .i64 0] 24)).drew (w1.heap.size) [0, 0, 0, 0] 4 := ((Has.zero w1 _).alloc _).drew
          have hn : w.heap.size + 1 < w1.heap.size := HZ1.out
          have C8 := (B8.putAll (tub ns p) sp).putOther (b' := w1.heap.size) 0 (ints (tub ns q)) (by omega)
          have C9 := (B9.putOther (b' := w1.heap.size + 1) 0 (ints (tub ns p)) (by omega)).putAll (tub ns q) sq
          have A1 := (((H1.alloc (.cells #[.int .i64 0, .int .i64 0, .int .i64 0, .int .i64 0] 24)).alloc (.cells #[.int .i64 0, .int .i64 0, .int .i64 0, .int .i64 0] 24)).drew.putOther (b' := w1.heap.size + 1) 0 (ints (tub ns p)) (by omega)).putOther (b' := w1.heap.size) 0 (ints (tub ns q)) (by omega)
          have Y1 := (((Z1.alloc (.cells #[.int .i64 0, .int .i64 0, .int .i64 0, .int .i64 0] 24)).alloc (.cells #[.int .i64 0, .int .i64 0, .int .i64 0, .int .i64 0] 24)).drew.putOther (b' := w1.heap.size + 1) 0 (ints (tub ns p)) (by omega)).putOther (b' := w1.heap.size) 0 (ints (tub ns q)) (by omega)
          have K1 := ((((HB1.out.alloc (.cells #[.int .i64 0, .int .i64 0, .int .i64 0, .int .i64 0] 24)).alloc (.cells #[.int .i64 0, .int .i64 0, .int .i64 0, .int .i64 0] 24)).drewN 1).puts (b := w1.heap.size + 1) (by omega) 0 (ints (tub ns p))).puts (b := w1.heap.size) (by omega) 0 (ints (tub ns q))
          (refine wpAnyH_ready (rs := [10]) (by kernel_rfl) (by simp) ?_; refine AllReadyH.cons (o := _) rfl (fun K hK => ?_) AllReadyH.nil; (simp only [List.getElem_toArray, List.getElem_cons_zero, List.getElem_cons_succ, Region.wanted, if_true]); refine wp_store_mid _ _ _ rfl _ _ (ints (tub ns p)).toArray rfl rfl (by simpa [l1] using B8.there) (by simpa [l1] using hi1) (all_oneCell_toArray (ints_one _)) ?_; (try simp only [List.getElem_toArray, List.getElem_cons_zero, List.getElem_cons_succ, Act.put, List.setIfInBounds_toArray, List.set_cons_zero, List.set_cons_succ, List.toList_toArray]); refine hK.out _ _ (⟨hHeld.1.putOther _ _ (by omega)⟩) (fun hHeld => ?_); clear hK K)
          (refine wpAnyH_ready (rs := [11]) (by kernel_rfl) (by simp) ?_; refine AllReadyH.cons (o := _) rfl (fun K hK => ?_) AllReadyH.nil; (simp only [List.getElem_toArray, List.getElem_cons_zero, List.getElem_cons_succ, Region.wanted, if_true]); refine wp_store_mid _ _ _ rfl _ _ (ints (tub ns q)).toArray rfl rfl (by simpa [l2] using (B9.putOther (b' := w1.heap.size + 1) 0 (ints (tub ns p)) (by omega)).there) (by simpa [l2] using hi2) (all_oneCell_toArray (ints_one _)) ?_; (try simp only [List.getElem_toArray, List.getElem_cons_zero, List.getElem_cons_succ, Act.put, List.setIfInBounds_toArray, List.set_cons_zero, List.set_cons_succ, List.toList_toArray]); refine hK.out _ _ (⟨hHeld.1.putOther _ _ (by omega)⟩) (fun hHeld => ?_); clear hK K)
          refine wpAnyH_done (by kernel_rfl) ?_ _
          clear B8 B9 hHeld hi1 l1 hi2 l2 H1 Z1
          have A2 := A1.putTub p hp6 (tub ns q) sq
          have C82 := C8.putOther (b' := w.heap.size) (p * 4) (ints (tub ns q)) (by omega)
          have A3 := A2.putTub q hq6 (tub ns p) sp
          have t1 := Lib.hid (A1.holds.thereSub (p * 4) 4 (by rw [ints_len, A1.len]; omega))
          have t2 := Lib.hid (A2.holds.thereSub (q * 4) 4 (by rw [ints_len, A2.len]; omega))
          have hl4 := A3.len
          have Y2 := (Y1.putOther (b' := w.heap.size) (p * 4) (ints (tub ns q)) (by omega)).putOther (b' := w.heap.size) (q * 4) (ints (tub ns p)) (by omega)
          have S1 := Lib.hid (Y2.putAll _ hl4)
          have S2 := Lib.hid (((K1.puts (b := w.heap.size) (Nat.le_refl _) (p * 4) (ints (tub ns q))).puts (b := w.heap.size) (Nat.le_refl _) (q * 4) (ints (tub ns p))).puts (b := w.heap.size + 1) (by omega) 0 (ints (setTub (setTub ns p (tub ns q)) q (tub ns p))))
          clear K1 Y1 A1 A2
          go_wp2_with (first | (refine load_has rfl 24 _ rfl _ rfl ?_ 4 ?_ _ Try.underlying24 rfl ?_ ?_; rotate_left; (· (repeat (first | (with_reducible assumption) | ((with_reducible refine Has.box _ _ ?_ ?_) <;> (first | assumption | decide)) | (with_reducible refine Has.alloc ?_ _) | ((with_reducible refine Has.putOther ?_ _ _ ?_); rotate_left; omega; skip) | ((with_reducible refine Has.below ?_ ?_); rotate_left; assumption)))); (· kernel_rfl)) | (refine store_has rfl 24 _ _ rfl w.heap.size (p * 4) (tub ns q) rfl rfl 4 sq t1.out ?_ ?_; (· kernel_rfl)) | (refine store_has rfl 24 _ _ rfl w.heap.size (q * 4) (tub ns p) rfl rfl 4 sp t2.out ?_ ?_; (· kernel_rfl)) | (refine load_has rfl 27 _ rfl _ rfl ?_ 24 ?_ _ Try.underlying27 rfl ?_ ?_; rotate_left; (· (repeat (first | (with_reducible assumption) | ((with_reducible refine Has.box _ _ ?_ ?_) <;> (first | assumption | decide)) | (with_reducible refine Has.alloc ?_ _) | ((with_reducible refine Has.putOther ?_ _ _ ?_); rotate_left; omega; skip) | ((with_reducible refine Has.below ?_ ?_); rotate_left; assumption)))); (· kernel_rfl)) | (refine store_at rfl 27 _ _ rfl _ _ rfl rfl ?_ 24 ?_ ?_ ?_ ?_; rotate_left; (· (repeat (first | (with_reducible assumption) | ((with_reducible refine Has.box _ _ ?_ ?_) <;> (first | assumption | decide)) | (with_reducible refine Has.alloc ?_ _) | ((with_reducible refine Has.putOther ?_ _ _ ?_); rotate_left; omega; skip) | ((with_reducible refine Has.below ?_ ?_); rotate_left; assumption)))); (· (first | assumption | rfl)); (· kernel_rfl)))
          exact bodyPost_ret (res_has1 rfl _ _ (w.heap.size + 1) _ 24 _ (.bool true) rfl rfl S1.out Try.underlying27 rfl (by kernel_rfl)) rfl ⟨by rw [V.out.1, V.out.2], S2.out⟩
      · rw [decide_eq_false hq]
        have O := Lib.hid (swapOk_not (ns := ns) (i := p) (j := j) fun h => hq h.2.2)
        clear hq
        go_wp2_with (first | (refine build_law rfl 27 rfl _ buildRack ?_) | (refine store_at rfl 27 _ _ rfl _ _ rfl rfl ?_ 24 ?_ ?_ ?_ ?_; rotate_left; (· (repeat (first | (with_reducible assumption) | ((with_reducible refine Has.box _ _ ?_ ?_) <;> (first | assumption | decide)) | (with_reducible refine Has.alloc ?_ _) | ((with_reducible refine Has.putOther ?_ _ _ ?_); rotate_left; omega; skip) | ((with_reducible refine Has.below ?_ ?_); rotate_left; assumption)))); (· (first | assumption | rfl)); (· kernel_rfl)))
        exact bodyPost_ret (res_has1 rfl _ _ (w.heap.size + 1) z24 24 _ (.bool false) rfl rfl S1.out Try.underlying27 rfl (by kernel_rfl)) rfl ⟨by unfold swapR; rw [O.out]; rfl, S2.out⟩
    · rw [decide_eq_false hp]
      have O := Lib.hid (swapOk_not (ns := ns) (i := i) (j := j) fun h => hp h.2.1)
      clear hp
      go_wp2_with (first | (refine build_law rfl 27 rfl _ buildRack ?_) | (refine store_at rfl 27 _ _ rfl _ _ rfl rfl ?_ 24 ?_ ?_ ?_ ?_; rotate_left; (· (repeat (first | (with_reducible assumption) | ((with_reducible refine Has.box _ _ ?_ ?_) <;> (first | assumption | decide)) | (with_reducible refine Has.alloc ?_ _) | ((with_reducible refine Has.putOther ?_ _ _ ?_); rotate_left; omega; skip) | ((with_reducible refine Has.below ?_ ?_); rotate_left; assumption)))); (· (first | assumption | rfl)); (· kernel_rfl)))
      exact bodyPost_ret (res_has1 rfl _ _ (w.heap.size + 1) z24 24 _ (.bool false) rfl rfl S1.out Try.underlying27 rfl (by kernel_rfl)) rfl ⟨by unfold swapR; rw [O.out]; rfl, S2.out⟩
  · have hf : vR ns = false := by simpa using hv
    have O := Lib.hid (swapOk_not (ns := ns) (i := i) (j := j) fun h => hv h.1)
    rw [hf]
    clear hf hv
    go_wp2_with (first | (refine build_law rfl 27 rfl _ buildRack ?_) | (refine store_at rfl 27 _ _ rfl _ _ rfl rfl ?_ 24 ?_ ?_ ?_ ?_; rotate_left; (· (repeat (first | (with_reducible assumption) | ((with_reducible refine Has.box _ _ ?_ ?_) <;> (first | assumption | decide)) | (with_reducible refine Has.alloc ?_ _) | ((with_reducible refine Has.putOther ?_ _ _ ?_); rotate_left; omega; skip) | ((with_reducible refine Has.below ?_ ?_); rotate_left; assumption)))); (· (first | assumption | rfl)); (· kernel_rfl)))
    exact bodyPost_ret (res_has1 rfl _ _ (w.heap.size + 1) z24 24 _ (.bool false) rfl rfl S1.out Try.underlying27 rfl (by kernel_rfl)) rfl ⟨by unfold swapR; rw [O.out]; rfl, S2.out⟩
end Go.Proofs.Ytlnbhopigjkkkaa.base
