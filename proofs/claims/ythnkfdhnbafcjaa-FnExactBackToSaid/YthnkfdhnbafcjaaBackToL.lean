/-
  The exact law of BackTo, walked.
-/
import Derived.Test.YthnkfdhnbafcjaaBackTo
import Derived.Test.YthnkfdhnbafcjaaTri
import Derived.Test.YthnkfdhnbafcjaaRackTo
import Derived.Deep.Cut
import Derived.Deep.CutRange
import Derived.Deep.RegionHeld3
namespace Go.Proofs.Ythnkfdhnbafcjaa.base
open Go.ChangeShapes Go.WideShapes Go.ChangeAt Go.RowKit
set_option linter.unusedVariables false
set_option linter.unusedSimpArgs false

def btN (a b : List Int) : Nat := (btA a b).length
def btF (a b : List Int) : List Int := (btA a b).flatten
def BtTri (a b : List Int) (w : World) (e : Ending) (w' : World) : Prop := ∃ v : Value, e = .returned (.tuple #[v, .bool (btOk a b)]) ∧ Tri w' w.heap.size v (btN a b) (btF a b) ∧ Kept w w'
theorem specBtT (a b : List Int) (w : World) (ha : a.length = 24) (hb : b.length = 24) : Calls Try.prog 26 #[row a, row b] w (BtTri a b w) :=
  (specBackTo a b w ha hb).mono fun e w' ⟨v, h1, h2, h3⟩ => ⟨v, h1, h2.toTri, h3⟩
theorem implBtT (a b : List Int) (w : World) (ha : a.length = 24) (hb : b.length = 24) : Calls Try.prog 27 #[row a, row b] w (BtTri a b w) :=
  (implBackTo a b w ha hb).mono fun e w' ⟨v, h1, h2, h3⟩ => ⟨v, h1, h2.toTri, h3⟩

set_option maxHeartbeats 3200000 in
set_option maxRecDepth 100000 in
theorem lawBackTo (a b : List Int) (w : World) (fa : a.length = 24 ∧ ∀ n ∈ a, (Lit.int .i64 n).wf = true) (fb : b.length = 24 ∧ ∀ n ∈ b, (Lit.int .i64 n).wf = true) :
    Calls Try.prog 7 #[row a, row b] w fun e w' => e = .returned (.bool true) ∧ Kept w w' := by
  have ha := fa.1
  have hb := fb.1
  clear fa fb
  have hN : btN a b ≤ 144 := btA_le a b
  have HB := Lib.hid (((kept_refl w).alloc (.cells (ints a).toArray 25)).alloc (.cells (ints b).toArray 25))
  have H := (Has.box w 25 ha (by omega)).alloc (.cells (ints b).toArray 25)
  have G := (Has.box (w.alloc (.cells (ints a).toArray 25)) 25 hb (by omega)).at (size1 _ _)
  have hi1 : (Try.prog.info? 25).map (·.size) = some (ints a).length := by rw [ints_len, ha]; kernel_rfl
  have hi2 : (Try.prog.info? 25).map (·.size) = some (ints b).length := by rw [ints_len, hb]; kernel_rfl
  rw [row_ints, row_ints]
  go_enter Try.func7, Try.ntmps7
  go_wp2_with fail
  refine wp_region_held_drew (S := fun w' => Has w' w.heap.size a 24 ∧ Has w' (w.heap.size + 1) b 24 ∧ Kept w w') (by kernel_rfl) ⟨H.drew, G.drew, HB.out.drewN 1⟩ (fun hHeld => ?_)
  clear H G HB 
  (refine wpAnyH_take (i := 0) (v := _) rfl (by kernel_rfl) (by kernel_rfl) (by kernel_rfl) (fun _ _ _ h => h) (yieldsIf_load_mid (by rfl) 25 _ rfl _ _ rfl (ints a) _ (fun w' hSw => hSw.1.holds.range) Try.underlying25 rfl (hi1)) hHeld ?_; (try simp only [List.getElem_toArray, List.getElem_cons_zero, List.getElem_cons_succ, Act.put, List.setIfInBounds_toArray, List.set_cons_zero, List.set_cons_succ]))
  (refine wpAnyH_take (i := 2) (v := _) rfl (by kernel_rfl) (by kernel_rfl) (by kernel_rfl) (fun _ _ _ h => h) (yieldsIf_load_mid (by rfl) 25 _ rfl _ _ rfl (ints b) _ (fun w' hSw => hSw.2.1.holds.range) Try.underlying25 rfl (hi2)) hHeld ?_; (try simp only [List.getElem_toArray, List.getElem_cons_zero, List.getElem_cons_succ, Act.put, List.setIfInBounds_toArray, List.set_cons_zero, List.set_cons_succ]))
  (refine wpAnyH_ready (rs := [1]) (by kernel_rfl) (by simp) ?_; refine AllReadyH.cons (o := _) rfl (fun K hK => ?_) AllReadyH.nil; (simp only [List.getElem_toArray, List.getElem_cons_zero, List.getElem_cons_succ, Region.wanted, if_true]))
  go_simp
  refine (toRack_any a _ ha).mono ?_
  rintro e w1 ⟨rfl, b1⟩
  dsimp only
  (try simp only [List.getElem_toArray, List.getElem_cons_zero, List.getElem_cons_succ, Act.put, List.setIfInBounds_toArray, List.set_cons_zero, List.set_cons_succ])
  refine hK.out _ _ ⟨hHeld.1.below b1, hHeld.2.1.below b1, hHeld.2.2.call b1⟩ (fun hHeld => ?_)
  clear hK K b1
  (refine wpAnyH_ready (rs := [3]) (by kernel_rfl) (by simp) ?_; refine AllReadyH.cons (o := _) rfl (fun K hK => ?_) AllReadyH.nil; (simp only [List.getElem_toArray, List.getElem_cons_zero, List.getElem_cons_succ, Region.wanted, if_true]))
  go_simp
  refine (toRack_any b _ hb).mono ?_
  rintro e w2 ⟨rfl, b2⟩
  dsimp only
  (try simp only [List.getElem_toArray, List.getElem_cons_zero, List.getElem_cons_succ, Act.put, List.setIfInBounds_toArray, List.set_cons_zero, List.set_cons_succ])
  refine hK.out _ _ ⟨hHeld.1.below b2, hHeld.2.1.below b2, hHeld.2.2.call b2⟩ (fun hHeld => ?_)
  clear hK K b2
  (refine wpAnyH_ready (rs := [4]) (by kernel_rfl) (by simp) ?_; refine AllReadyH.cons (o := _) rfl (fun K hK => ?_) AllReadyH.nil; (simp only [List.getElem_toArray, List.getElem_cons_zero, List.getElem_cons_succ, Region.wanted, if_true]))
  go_simp
  refine (specBtT a b _ ha hb).mono ?_
  rintro e w3 ⟨v1, rfl, q1, b3⟩
  dsimp only
  (try simp only [List.getElem_toArray, List.getElem_cons_zero, List.getElem_cons_succ, Act.put, List.setIfInBounds_toArray, List.set_cons_zero, List.set_cons_succ])
  refine hK.out _ _ ⟨hHeld.1.below b3, hHeld.2.1.below b3, hHeld.2.2.call b3⟩ (fun hHeld => ?_)
  clear hK K b3
  (refine wpAnyH_take (i := 5) (v := ?_) rfl (by kernel_rfl) (by kernel_rfl) (by kernel_rfl) (fun _ _ _ h => h) (Or.inl ⟨by rfl, ?_⟩) hHeld ?_; rotate_left; (· (intro w' hSw; go_simp; try with_reducible rfl)); (try simp only [List.getElem_toArray, List.getElem_cons_zero, List.getElem_cons_succ, Act.put, List.setIfInBounds_toArray, List.set_cons_zero, List.set_cons_succ])); (refine wpAnyH_take (i := 6) (v := ?_) rfl (by kernel_rfl) (by kernel_rfl) (by kernel_rfl) (fun _ _ _ h => h) (Or.inl ⟨by rfl, ?_⟩) hHeld ?_; rotate_left; (· (intro w' hSw; go_simp; try with_reducible rfl)); (try simp only [List.getElem_toArray, List.getElem_cons_zero, List.getElem_cons_succ, Act.put, List.setIfInBounds_toArray, List.set_cons_zero, List.set_cons_succ])); (refine wpAnyH_take (i := 7) (v := ?_) rfl (by kernel_rfl) (by kernel_rfl) (by kernel_rfl) (fun _ _ _ h => h) (Or.inl ⟨by rfl, ?_⟩) hHeld ?_; rotate_left; (· (intro w' hSw; go_simp; try with_reducible rfl)); (try simp only [List.getElem_toArray, List.getElem_cons_zero, List.getElem_cons_succ, Act.put, List.setIfInBounds_toArray, List.set_cons_zero, List.set_cons_succ])); (refine wpAnyH_take (i := 8) (v := ?_) rfl (by kernel_rfl) (by kernel_rfl) (by kernel_rfl) (fun _ _ _ h => h) (Or.inl ⟨by rfl, ?_⟩) hHeld ?_; rotate_left; (· (intro w' hSw; go_simp; try with_reducible rfl)); (try simp only [List.getElem_toArray, List.getElem_cons_zero, List.getElem_cons_succ, Act.put, List.setIfInBounds_toArray, List.set_cons_zero, List.set_cons_succ])); (refine wpAnyH_take (i := 9) (v := ?_) rfl (by kernel_rfl) (by kernel_rfl) (by kernel_rfl) (fun _ _ _ h => h) (Or.inl ⟨by rfl, ?_⟩) hHeld ?_; rotate_left; (· (intro w' hSw; go_simp; try with_reducible rfl)); (try simp only [List.getElem_toArray, List.getElem_cons_zero, List.getElem_cons_succ, Act.put, List.setIfInBounds_toArray, List.set_cons_zero, List.set_cons_succ]))
  refine wpAnyH_done (by kernel_rfl) ?_ _
  have A1 := hHeld.1
  have B1 := hHeld.2.1
  have C1 := Lib.hid hHeld.2.2
  have N1 := Lib.hid q1
  clear hHeld q1
  go_wp2_with fail
  refine wp_region_held_drew (S := fun w' => Has w' w.heap.size a 24 ∧ Has w' (w.heap.size + 1) b 24 ∧ Kept w w' ∧ Tri w' w2.heap.size v1 (btN a b) (btF a b)) (by kernel_rfl) ⟨A1.drew, B1.drew, C1.out.drewN 1, N1.out.drewN 1⟩ (fun hHeld => ?_)
  clear A1 B1 C1 N1
  (refine wpAnyH_take (i := 0) (v := _) rfl (by kernel_rfl) (by kernel_rfl) (by kernel_rfl) (fun _ _ _ h => h) (yieldsIf_load_mid (by rfl) 25 _ rfl _ _ rfl (ints a) _ (fun w' hSw => hSw.1.holds.range) Try.underlying25 rfl (hi1)) hHeld ?_; (try simp only [List.getElem_toArray, List.getElem_cons_zero, List.getElem_cons_succ, Act.put, List.setIfInBounds_toArray, List.set_cons_zero, List.set_cons_succ]))
  (refine wpAnyH_take (i := 2) (v := _) rfl (by kernel_rfl) (by kernel_rfl) (by kernel_rfl) (fun _ _ _ h => h) (yieldsIf_load_mid (by rfl) 25 _ rfl _ _ rfl (ints b) _ (fun w' hSw => hSw.2.1.holds.range) Try.underlying25 rfl (hi2)) hHeld ?_; (try simp only [List.getElem_toArray, List.getElem_cons_zero, List.getElem_cons_succ, Act.put, List.setIfInBounds_toArray, List.set_cons_zero, List.set_cons_succ]))
  (refine wpAnyH_ready (rs := [1]) (by kernel_rfl) (by simp) ?_; refine AllReadyH.cons (o := _) rfl (fun K hK => ?_) AllReadyH.nil; (simp only [List.getElem_toArray, List.getElem_cons_zero, List.getElem_cons_succ, Region.wanted, if_true]))
  go_simp
  refine (toRack_any a _ ha).mono ?_
  rintro e w4 ⟨rfl, b4⟩
  dsimp only
  (try simp only [List.getElem_toArray, List.getElem_cons_zero, List.getElem_cons_succ, Act.put, List.setIfInBounds_toArray, List.set_cons_zero, List.set_cons_succ])
  refine hK.out _ _ ⟨hHeld.1.below b4, hHeld.2.1.below b4, hHeld.2.2.1.call b4, hHeld.2.2.2.below b4⟩ (fun hHeld => ?_)
  clear hK K b4
  (refine wpAnyH_ready (rs := [3]) (by kernel_rfl) (by simp) ?_; refine AllReadyH.cons (o := _) rfl (fun K hK => ?_) AllReadyH.nil; (simp only [List.getElem_toArray, List.getElem_cons_zero, List.getElem_cons_succ, Region.wanted, if_true]))
  go_simp
  refine (toRack_any b _ hb).mono ?_
  rintro e w5 ⟨rfl, b5⟩
  dsimp only
  (try simp only [List.getElem_toArray, List.getElem_cons_zero, List.getElem_cons_succ, Act.put, List.setIfInBounds_toArray, List.set_cons_zero, List.set_cons_succ])
  refine hK.out _ _ ⟨hHeld.1.below b5, hHeld.2.1.below b5, hHeld.2.2.1.call b5, hHeld.2.2.2.below b5⟩ (fun hHeld => ?_)
  clear hK K b5
  (refine wpAnyH_ready (rs := [4]) (by kernel_rfl) (by simp) ?_; refine AllReadyH.cons (o := _) rfl (fun K hK => ?_) AllReadyH.nil; (simp only [List.getElem_toArray, List.getElem_cons_zero, List.getElem_cons_succ, Region.wanted, if_true]))
  go_simp
  have L5 := Lib.hid (fun k hk => (World.ownsRow.lt hHeld.2.2.2 k hk).2)
  have L6 := Lib.hid hHeld.2.1.lt
  refine (implBtT a b _ ha hb).mono ?_
  rintro e w6 ⟨v2, rfl, q4, b6⟩
  dsimp only
  (try simp only [List.getElem_toArray, List.getElem_cons_zero, List.getElem_cons_succ, Act.put, List.setIfInBounds_toArray, List.set_cons_zero, List.set_cons_succ])
  refine hK.out _ _ ⟨hHeld.1.below b6, hHeld.2.1.below b6, hHeld.2.2.1.call b6, hHeld.2.2.2.below b6⟩ (fun hHeld => ?_)
  clear hK K b6
  (refine wpAnyH_take (i := 5) (v := ?_) rfl (by kernel_rfl) (by kernel_rfl) (by kernel_rfl) (fun _ _ _ h => h) (Or.inl ⟨by rfl, ?_⟩) hHeld ?_; rotate_left; (· (intro w' hSw; go_simp; try with_reducible rfl)); (try simp only [List.getElem_toArray, List.getElem_cons_zero, List.getElem_cons_succ, Act.put, List.setIfInBounds_toArray, List.set_cons_zero, List.set_cons_succ])); (refine wpAnyH_take (i := 6) (v := ?_) rfl (by kernel_rfl) (by kernel_rfl) (by kernel_rfl) (fun _ _ _ h => h) (Or.inl ⟨by rfl, ?_⟩) hHeld ?_; rotate_left; (· (intro w' hSw; go_simp; try with_reducible rfl)); (try simp only [List.getElem_toArray, List.getElem_cons_zero, List.getElem_cons_succ, Act.put, List.setIfInBounds_toArray, List.set_cons_zero, List.set_cons_succ])); (refine wpAnyH_take (i := 7) (v := ?_) rfl (by kernel_rfl) (by kernel_rfl) (by kernel_rfl) (fun _ _ _ h => h) (Or.inl ⟨by rfl, ?_⟩) hHeld ?_; rotate_left; (· (intro w' hSw; go_simp; try with_reducible rfl)); (try simp only [List.getElem_toArray, List.getElem_cons_zero, List.getElem_cons_succ, Act.put, List.setIfInBounds_toArray, List.set_cons_zero, List.set_cons_succ])); (refine wpAnyH_take (i := 8) (v := ?_) rfl (by kernel_rfl) (by kernel_rfl) (by kernel_rfl) (fun _ _ _ h => h) (Or.inl ⟨by rfl, ?_⟩) hHeld ?_; rotate_left; (· (intro w' hSw; go_simp; try with_reducible rfl)); (try simp only [List.getElem_toArray, List.getElem_cons_zero, List.getElem_cons_succ, Act.put, List.setIfInBounds_toArray, List.set_cons_zero, List.set_cons_succ])); (refine wpAnyH_take (i := 9) (v := ?_) rfl (by kernel_rfl) (by kernel_rfl) (by kernel_rfl) (fun _ _ _ h => h) (Or.inl ⟨by rfl, ?_⟩) hHeld ?_; rotate_left; (· (intro w' hSw; go_simp; try with_reducible rfl)); (try simp only [List.getElem_toArray, List.getElem_cons_zero, List.getElem_cons_succ, Act.put, List.setIfInBounds_toArray, List.set_cons_zero, List.set_cons_succ]))
  refine wpAnyH_done (by kernel_rfl) ?_ _
  have A4 := hHeld.1
  have B4 := hHeld.2.1
  have C4 := Lib.hid hHeld.2.2.1
  have N1 := Lib.hid hHeld.2.2.2
  have N4 := Lib.hid q4
  clear hHeld q4
  go_wp2_with fail
  refine (eqSourceS_same v2 v1 _ _ _ _ _ (by omega) N4.out N1.out).mono ?_
  rintro e w7 ⟨rfl, b7⟩
  have L0 := Lib.hid A4.lt
  have A5 := A4.below b7
  have B5 := B4.below b7
  have C5 := Lib.hid (C4.out.call b7)
  have N5 := Lib.hid (N4.out.below b7)
  have M5 := Lib.hid (N1.out.below b7)
  have hs5 := L5.out
  clear A4 B4 C4 N4 N1 b7
  go_wp2_with fail
  obtain ⟨z, hz, hz0, hz1⟩ : ∃ z : Int, z = ((1 + btN a b * 3 : Nat) : Int) ∧ 0 ≤ z ∧ z ≤ 999 := ⟨_, rfl, by omega, by omega⟩
  have HZ := Lib.hid hz
  clear hz
  refine (markSourceS_any _ v2 (btN a b) 1 _ _ (by omega) (by omega) N5.out).mono ?_
  rintro e w8 ⟨rfl, m1, m2⟩
  rw [← HZ.out]
  have hv2 : ∀ k, v2.ownBlock = some k → w5.heap.size ≤ k := fun k hk => (World.ownsRow.lt N5.out k hk).1
  have A6 := A5.grownNo m2 (fun e => by have := hv2 _ e.symm; have := L6.out; omega)
  have B6 := B5.grownNo m2 (fun e => by have := hv2 _ e.symm; have := L6.out; omega)
  have C6 : Hid (Kept w w8) := Lib.hid (C5.out.grown m2 C5.out.size (fun k hk => by have := hv2 k hk; have := L6.out; omega))
  have M6 := Lib.hid (M5.out.grownP m2 (fun k hk => .inr (fun e => by have := hs5 k e; have := hv2 k hk; omega)))
  have N6 := Lib.hid m1
  clear A5 B5 C5 M5 N5 m1 m2 hv2 hs5
  have zl : decide (z < 0) = false := by simp; omega
  go_wp2_with fail
  refine (heldSourceS_any _ v2 (btN a b) 1 _ _ (by omega) (by omega) N6.out).mono ?_
  rintro e w' ⟨rfl, rfl⟩
  rw [← HZ.out]
  go_wp2_with fail
  refine wp_region_held_drew (S := fun w' => Has w' w.heap.size a 24 ∧ Has w' (w.heap.size + 1) b 24 ∧ Kept w w' ∧ Tri w' w2.heap.size v1 (btN a b) (btF a b) ∧ Tri w' w5.heap.size v2 (btN a b) (markF 1 (btN a b * 3) (btF a b))) (by kernel_rfl) ⟨A6.drew, B6.drew, C6.out.drewN 1, M6.out.drewN 1, N6.out.drewN 1⟩ (fun hHeld => ?_)
  clear A6 B6 C6 M6 N6
  (refine wpAnyH_take (i := 0) (v := _) rfl (by kernel_rfl) (by kernel_rfl) (by kernel_rfl) (fun _ _ _ h => h) (yieldsIf_load_mid (by rfl) 25 _ rfl _ _ rfl (ints a) _ (fun w' hSw => hSw.1.holds.range) Try.underlying25 rfl (hi1)) hHeld ?_; (try simp only [List.getElem_toArray, List.getElem_cons_zero, List.getElem_cons_succ, Act.put, List.setIfInBounds_toArray, List.set_cons_zero, List.set_cons_succ]))
  (refine wpAnyH_take (i := 2) (v := _) rfl (by kernel_rfl) (by kernel_rfl) (by kernel_rfl) (fun _ _ _ h => h) (yieldsIf_load_mid (by rfl) 25 _ rfl _ _ rfl (ints b) _ (fun w' hSw => hSw.2.1.holds.range) Try.underlying25 rfl (hi2)) hHeld ?_; (try simp only [List.getElem_toArray, List.getElem_cons_zero, List.getElem_cons_succ, Act.put, List.setIfInBounds_toArray, List.set_cons_zero, List.set_cons_succ]))
  (refine wpAnyH_ready (rs := [1]) (by kernel_rfl) (by simp) ?_; refine AllReadyH.cons (o := _) rfl (fun K hK => ?_) AllReadyH.nil; (simp only [List.getElem_toArray, List.getElem_cons_zero, List.getElem_cons_succ, Region.wanted, if_true]))
  go_simp
  refine (toRack_any a _ ha).mono ?_
  rintro e w9 ⟨rfl, b9⟩
  dsimp only
  (try simp only [List.getElem_toArray, List.getElem_cons_zero, List.getElem_cons_succ, Act.put, List.setIfInBounds_toArray, List.set_cons_zero, List.set_cons_succ])
  refine hK.out _ _ ⟨hHeld.1.below b9, hHeld.2.1.below b9, hHeld.2.2.1.call b9, hHeld.2.2.2.1.below b9, hHeld.2.2.2.2.below b9⟩ (fun hHeld => ?_)
  clear hK K b9
  (refine wpAnyH_ready (rs := [3]) (by kernel_rfl) (by simp) ?_; refine AllReadyH.cons (o := _) rfl (fun K hK => ?_) AllReadyH.nil; (simp only [List.getElem_toArray, List.getElem_cons_zero, List.getElem_cons_succ, Region.wanted, if_true]))
  go_simp
  refine (toRack_any b _ hb).mono ?_
  rintro e w10 ⟨rfl, b10⟩
  dsimp only
  (try simp only [List.getElem_toArray, List.getElem_cons_zero, List.getElem_cons_succ, Act.put, List.setIfInBounds_toArray, List.set_cons_zero, List.set_cons_succ])
  refine hK.out _ _ ⟨hHeld.1.below b10, hHeld.2.1.below b10, hHeld.2.2.1.call b10, hHeld.2.2.2.1.below b10, hHeld.2.2.2.2.below b10⟩ (fun hHeld => ?_)
  clear hK K b10
  (refine wpAnyH_ready (rs := [4]) (by kernel_rfl) (by simp) ?_; refine AllReadyH.cons (o := _) rfl (fun K hK => ?_) AllReadyH.nil; (simp only [List.getElem_toArray, List.getElem_cons_zero, List.getElem_cons_succ, Region.wanted, if_true]))
  go_simp
  refine (implBtT a b _ ha hb).mono ?_
  rintro e w11 ⟨v3, rfl, q9, b11⟩
  dsimp only
  (try simp only [List.getElem_toArray, List.getElem_cons_zero, List.getElem_cons_succ, Act.put, List.setIfInBounds_toArray, List.set_cons_zero, List.set_cons_succ])
  refine hK.out _ _ ⟨hHeld.1.below b11, hHeld.2.1.below b11, hHeld.2.2.1.call b11, hHeld.2.2.2.1.below b11, hHeld.2.2.2.2.below b11⟩ (fun hHeld => ?_)
  clear hK K b11
  (refine wpAnyH_take (i := 5) (v := ?_) rfl (by kernel_rfl) (by kernel_rfl) (by kernel_rfl) (fun _ _ _ h => h) (Or.inl ⟨by rfl, ?_⟩) hHeld ?_; rotate_left; (· (intro w' hSw; go_simp; try with_reducible rfl)); (try simp only [List.getElem_toArray, List.getElem_cons_zero, List.getElem_cons_succ, Act.put, List.setIfInBounds_toArray, List.set_cons_zero, List.set_cons_succ])); (refine wpAnyH_take (i := 6) (v := ?_) rfl (by kernel_rfl) (by kernel_rfl) (by kernel_rfl) (fun _ _ _ h => h) (Or.inl ⟨by rfl, ?_⟩) hHeld ?_; rotate_left; (· (intro w' hSw; go_simp; try with_reducible rfl)); (try simp only [List.getElem_toArray, List.getElem_cons_zero, List.getElem_cons_succ, Act.put, List.setIfInBounds_toArray, List.set_cons_zero, List.set_cons_succ])); (refine wpAnyH_take (i := 7) (v := ?_) rfl (by kernel_rfl) (by kernel_rfl) (by kernel_rfl) (fun _ _ _ h => h) (Or.inl ⟨by rfl, ?_⟩) hHeld ?_; rotate_left; (· (intro w' hSw; go_simp; try with_reducible rfl)); (try simp only [List.getElem_toArray, List.getElem_cons_zero, List.getElem_cons_succ, Act.put, List.setIfInBounds_toArray, List.set_cons_zero, List.set_cons_succ])); (refine wpAnyH_take (i := 8) (v := ?_) rfl (by kernel_rfl) (by kernel_rfl) (by kernel_rfl) (fun _ _ _ h => h) (Or.inl ⟨by rfl, ?_⟩) hHeld ?_; rotate_left; (· (intro w' hSw; go_simp; try with_reducible rfl)); (try simp only [List.getElem_toArray, List.getElem_cons_zero, List.getElem_cons_succ, Act.put, List.setIfInBounds_toArray, List.set_cons_zero, List.set_cons_succ])); (refine wpAnyH_take (i := 9) (v := ?_) rfl (by kernel_rfl) (by kernel_rfl) (by kernel_rfl) (fun _ _ _ h => h) (Or.inl ⟨by rfl, ?_⟩) hHeld ?_; rotate_left; (· (intro w' hSw; go_simp; try with_reducible rfl)); (try simp only [List.getElem_toArray, List.getElem_cons_zero, List.getElem_cons_succ, Act.put, List.setIfInBounds_toArray, List.set_cons_zero, List.set_cons_succ]))
  refine wpAnyH_done (by kernel_rfl) ?_ _
  have A9 := hHeld.1
  have B9 := hHeld.2.1
  have C9 := Lib.hid hHeld.2.2.1
  have M6 := Lib.hid hHeld.2.2.2.1
  have N6 := Lib.hid hHeld.2.2.2.2
  have N9 := Lib.hid q9
  clear hHeld q9
  go_wp2_with fail
  refine (eqSourceS_same v3 v1 _ _ _ _ _ (by omega) N9.out M6.out).mono ?_
  rintro e w12 ⟨rfl, b12⟩
  have C12 := Lib.hid (C9.out.call b12)
  have N12 := Lib.hid (N6.out.below b12)
  clear C9 N6 N9 M6 b12 A9 B9
  go_wp2_with fail
  refine (heldSourceS_any _ v2 (btN a b) 1 _ _ (by omega) (by omega) N12.out).mono ?_
  rintro e w' ⟨rfl, rfl⟩
  rw [← HZ.out]
  go_wp2_with fail
  go_ret
  exact ⟨rfl, C12.out⟩
end Go.Proofs.Ythnkfdhnbafcjaa.base
