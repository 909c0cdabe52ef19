/-
  A law's rack is turned into the program's, walked.
-/
import Derived.Test.YtpbfdjiglacbbabRackCopy
namespace Go.Proofs.Ytpbfdjiglacbbab.base
open Go.ChangeShapes Go.WideShapes Go.ChangeAt Go.RowKit
set_option linter.unusedVariables false
set_option linter.unusedSimpArgs false

set_option maxHeartbeats 1600000 in
theorem toRack_any (ns : List Int) (w : World) (h : ns.length = 24) :
    Calls Try.prog 9 #[row ns] w fun e w' => e = .returned (row ns) ∧ Below w.heap.size w w' := by
  have HC := Lib.hid (fun W => copy24 ns W h)
  unfold row at HC ⊢
  have hcl : (ns.map (Value.int .i64)).length = 24 := by simp [h]
  have HO : Hid (∀ v ∈ ns.map (Value.int .i64), v.oneCell' = true) := Lib.hid (fun v hv => by obtain ⟨z, _, rfl⟩ := List.mem_map.1 hv; rfl)
  generalize ns.map (Value.int .i64) = cs at *
  go_enter Try.func9, Try.ntmps9
  have hz1 : (w.alloc (.cells cs.toArray 25)).heap.size = w.heap.size + 1 := by simp
  have hz2 : ((w.alloc (.cells cs.toArray 25)).alloc (.cells zeros.toArray 28)).heap.size = w.heap.size + 1 + 1 := by simp
  have b1 : Below (w.heap.size + 1) (w.alloc (.cells cs.toArray 25)) (((w.alloc (.cells cs.toArray 25)).alloc (.cells zeros.toArray 28)).alloc (.cells zeros.toArray 28)) := ((Below.refl _ _).alloc (by simp) _).alloc (by simp) _
  have b2 : Below (w.heap.size + 1 + 1) ((w.alloc (.cells cs.toArray 25)).alloc (.cells zeros.toArray 28)) (((w.alloc (.cells cs.toArray 25)).alloc (.cells zeros.toArray 28)).alloc (.cells zeros.toArray 28)) := (Below.refl _ _).alloc (by simp) _
  have b0 : Below w.heap.size w (((w.alloc (.cells cs.toArray 25)).alloc (.cells zeros.toArray 28)).alloc (.cells zeros.toArray 28)) := (((Below.refl _ _).alloc (Nat.le_refl _) _).alloc (by simp) _).alloc (by simp; omega) _
  have r0 := range_below (range_new w cs.toArray 25) b1 (by omega)
  have t1 := there_below (there_new (w.alloc (.cells cs.toArray 25)) zeros.toArray 28) b2 (by simp)
  have t2 := there_new ((w.alloc (.cells cs.toArray 25)).alloc (.cells zeros.toArray 28)) zeros.toArray 28
  rw [hz1] at t1
  rw [hz2] at t2
  have hs : (((w.alloc (.cells cs.toArray 25)).alloc (.cells zeros.toArray 28)).alloc (.cells zeros.toArray 28)).heap.size = w.heap.size + 1 + 1 + 1 := by simp
  have B0 := Lib.hid b0
  have R0 := Lib.hid r0
  have T1 := Lib.hid t1
  have T2 := Lib.hid t2
  have HS := Lib.hid hs
  clear b0 b1 b2 r0 t1 t2 hs hz1 hz2
  go_wp2_with (first
    | (refine wpList_load_mid rfl 23 _ rfl w.heap.size 0 rfl cs _ R0.out Try.underlying23 rfl (by rw [hcl]; kernel_rfl) ?_))
  refine (HC.out _).mono ?_
  rintro e w1 ⟨rfl, m1⟩
  have hss := HS.out
  have m2 := m1.mono (B' := w.heap.size + 1 + 1 + 1) (Nat.le_of_eq hss.symm)
  have t1 : w1.there (w.heap.size + 1) 0 24 := there_below T1.out m2 (by omega)
  have t2 : w1.there (w.heap.size + 1 + 1) 0 24 := there_below T2.out m2 (by omega)
  have B1 := Lib.hid (B0.out.trans (m1.mono B0.out.size))
  clear hss m1 m2
  have r2 := World.rangeAt_setCells_same w1 (w.heap.size + 1 + 1) 0 cs (by rw [hcl]; exact t2)
  have t3 : (w1.setCells (w.heap.size + 1 + 1) 0 cs).there (w.heap.size + 1) 0 24 := there_put t1 _ _
  have r3 := World.rangeAt_setCells_same (w1.setCells (w.heap.size + 1 + 1) 0 cs) (w.heap.size + 1) 0 cs (by rw [hcl]; exact t3)
  have B3 := Lib.hid (below_setCells (w.heap.size + 1) (Nat.le_succ _) cs 0 _ _ (below_setCells (w.heap.size + 1 + 1) (show w.heap.size ≤ w.heap.size + 1 + 1 by omega) cs 0 _ _ B1.out))
  have T2 := Lib.hid t2; have T3 := Lib.hid t3; have R2 := Lib.hid r2; have R3 := Lib.hid r3
  clear t1 t2 r2 t3 r3
  go_wp2_with (first
    | (refine wpList_store_mid rfl 23 _ _ rfl (w.heap.size + 1 + 1) 0 cs.toArray rfl rfl (by simpa [hcl] using T2.out) (by rw [show cs.toArray.size = 24 by simp [hcl]]; kernel_rfl) (all_oneCell_toArray HO.out) ?_)
    | (refine wpList_load_mid rfl 28 _ rfl (w.heap.size + 1 + 1) 0 rfl cs _ R2.out Try.underlying28 rfl (by rw [hcl]; kernel_rfl) ?_)
    | (refine wpList_store_mid rfl 28 _ _ rfl (w.heap.size + 1) 0 cs.toArray rfl rfl (by simpa [hcl] using T3.out) (by rw [show cs.toArray.size = 24 by simp [hcl]]; kernel_rfl) (all_oneCell_toArray HO.out) ?_))
  exact bodyPost_ret (v := .agg cs.toArray) (results_cell_mid (P := Try.prog) rfl _ _ (w.heap.size + 1) cs _ rfl R3.out Try.underlying28 rfl (by rw [hcl]; kernel_rfl)) rfl ⟨rfl, B3.out⟩
end Go.Proofs.Ytpbfdjiglacbbab.base
