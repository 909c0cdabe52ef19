/-
  A law's rack is turned into the program's, walked.
-/
/-
  How many layers have each color, on both sides, walked.
-/
import Derived.Test.YtalngdccjoafhabRackCopyZ
import Derived.Test.YtalngdccjoafhabSpecWZ

section
namespace Go.Proofs.Ytalngdccjoafhab.base
open Go.ChangeShapes Go.WideShapes Go.ChangeAt Go.RowKit
set_option linter.unusedVariables false
set_option linter.unusedSimpArgs false

set_option maxHeartbeats 1600000 in
theorem toRack_any (ns : List Int) (w : World) (h : ns.length = 24) :
    Calls Try.prog 32 #[row ns] w fun e w' => e = .returned (row ns) ∧ Below w.heap.size w w' := by
  have HC := Lib.hid (fun W => copy24 ns W h)
  unfold row at HC ⊢
  have hcl : (ns.map (Value.int .i64)).length = 24 := by simp [h]
  have HO : Hid (∀ v ∈ ns.map (Value.int .i64), v.oneCell' = true) := Lib.hid (fun v hv => by obtain ⟨z, _, rfl⟩ := List.mem_map.1 hv; rfl)
  generalize ns.map (Value.int .i64) = cs at *
  go_enter Try.func32, Try.ntmps32
  have hz1 : (w.alloc (.cells cs.toArray 25)).heap.size = w.heap.size + 1 := by simp
  have hz2 : ((w.alloc (.cells cs.toArray 25)).alloc (.cells zeros.toArray 30)).heap.size = w.heap.size + 1 + 1 := by simp
  have b1 : Below (w.heap.size + 1) (w.alloc (.cells cs.toArray 25)) (((w.alloc (.cells cs.toArray 25)).alloc (.cells zeros.toArray 30)).alloc (.cells zeros.toArray 30)) := ((Below.refl _ _).alloc (by simp) _).alloc (by simp) _
  have b2 : Below (w.heap.size + 1 + 1) ((w.alloc (.cells cs.toArray 25)).alloc (.cells zeros.toArray 30)) (((w.alloc (.cells cs.toArray 25)).alloc (.cells zeros.toArray 30)).alloc (.cells zeros.toArray 30)) := (Below.refl _ _).alloc (by simp) _
  have b0 : Below w.heap.size w (((w.alloc (.cells cs.toArray 25)).alloc (.cells zeros.toArray 30)).alloc (.cells zeros.toArray 30)) := (((Below.refl _ _).alloc (Nat.le_refl _) _).alloc (by simp) _).alloc (by simp; omega) _
  have r0 := range_below (range_new w cs.toArray 25) b1 (by omega)
  have t1 := there_below (there_new (w.alloc (.cells cs.toArray 25)) zeros.toArray 30) b2 (by simp)
  have t2 := there_new ((w.alloc (.cells cs.toArray 25)).alloc (.cells zeros.toArray 30)) zeros.toArray 30
  rw [hz1] at t1
  rw [hz2] at t2
  have hs : (((w.alloc (.cells cs.toArray 25)).alloc (.cells zeros.toArray 30)).alloc (.cells zeros.toArray 30)).heap.size = w.heap.size + 1 + 1 + 1 := by simp
  have B0 := Lib.hid b0
  have R0 := Lib.hid r0
  have T1 := Lib.hid t1
  have T2 := Lib.hid t2
  have HS := Lib.hid hs
  clear b0 b1 b2 r0 t1 t2 hs hz1 hz2
  go_wp2_with (first
    | (refine wpList_load_mid rfl 23 _ rfl w.heap.size 0 rfl cs _ R0.out Try.underlying23 rfl (by rw [hcl]; kernel_rfl) ?_))
  refine (HC.out _).mono ?_
  rintro e w1 ⟨rfl, m1⟩
  have hss := HS.out
  have m2 := m1.mono (B' := w.heap.size + 1 + 1 + 1) (Nat.le_of_eq hss.symm)
  have t1 : w1.there (w.heap.size + 1) 0 24 := there_below T1.out m2 (by omega)
  have t2 : w1.there (w.heap.size + 1 + 1) 0 24 := there_below T2.out m2 (by omega)
  have B1 := Lib.hid (B0.out.trans (m1.mono B0.out.size))
  clear hss m1 m2
  have r2 := World.rangeAt_setCells_same w1 (w.heap.size + 1 + 1) 0 cs (by rw [hcl]; exact t2)
  have t3 : (w1.setCells (w.heap.size + 1 + 1) 0 cs).there (w.heap.size + 1) 0 24 := there_put t1 _ _
  have r3 := World.rangeAt_setCells_same (w1.setCells (w.heap.size + 1 + 1) 0 cs) (w.heap.size + 1) 0 cs (by rw [hcl]; exact t3)
  have B3 := Lib.hid (below_setCells (w.heap.size + 1) (Nat.le_succ _) cs 0 _ _ (below_setCells (w.heap.size + 1 + 1) (show w.heap.size ≤ w.heap.size + 1 + 1 by omega) cs 0 _ _ B1.out))
  have T2 := Lib.hid t2; have T3 := Lib.hid t3; have R2 := Lib.hid r2; have R3 := Lib.hid r3
  clear t1 t2 r2 t3 r3
  go_wp2_with (first
    | (refine wpList_store_mid rfl 23 _ _ rfl (w.heap.size + 1 + 1) 0 cs.toArray rfl rfl (by simpa [hcl] using T2.out) (by rw [show cs.toArray.size = 24 by simp [hcl]]; kernel_rfl) (all_oneCell_toArray HO.out) ?_)
    | (refine wpList_load_mid rfl 30 _ rfl (w.heap.size + 1 + 1) 0 rfl cs _ R2.out Try.underlying30 rfl (by rw [hcl]; kernel_rfl) ?_)
    | (refine wpList_store_mid rfl 30 _ _ rfl (w.heap.size + 1) 0 cs.toArray rfl rfl (by simpa [hcl] using T3.out) (by rw [show cs.toArray.size = 24 by simp [hcl]]; kernel_rfl) (all_oneCell_toArray HO.out) ?_))
  exact bodyPost_ret (v := .agg cs.toArray) (results_cell_mid (P := Try.prog) rfl _ _ (w.heap.size + 1) cs _ rfl R3.out Try.underlying30 rfl (by rw [hcl]; kernel_rfl)) rfl ⟨rfl, B3.out⟩
end Go.Proofs.Ytalngdccjoafhab.base
end

section
namespace Go.Proofs.Ytalngdccjoafhab.base
open Go.ChangeShapes Go.WideShapes Go.ChangeAt Go.RowKit
set_option linter.unusedVariables false
set_option linter.unusedSimpArgs false

def z6 : List Int := [0, 0, 0, 0, 0, 0]
def bump (cs : List Int) (c : Nat) : List Int := cs.set c (cs.getD c 0 + 1)
def cntUp (ns : List Int) (k : Nat) : List Int := (ns.take k).foldl (fun cs x => bump cs x.toNat) z6
theorem cntUp_step (ns : List Int) (k : Nat) (h : k < ns.length) : cntUp ns (k + 1) = bump (cntUp ns k) (ns.getD k 0).toNat := by
  unfold cntUp
  rw [List.take_succ_eq_append_getElem h, List.foldl_append, List.getD_eq_getElem?_getD, List.getElem?_eq_getElem h]; rfl
theorem bump_len (cs : List Int) (c : Nat) : (bump cs c).length = cs.length := by unfold bump; rw [List.length_set]
theorem cnt_all (ns : List Int) (k : Nat) : (cntUp ns k).length = 6 ∧ ∀ c, 0 ≤ (cntUp ns k).getD c 0 ∧ (cntUp ns k).getD c 0 ≤ k := by
  unfold cntUp
  suffices ∀ (l : List Int) (cs : List Int) (n : Nat), cs.length = 6 → (∀ c, 0 ≤ cs.getD c 0 ∧ cs.getD c 0 ≤ n) →
      (l.foldl (fun cs x => bump cs x.toNat) cs).length = 6 ∧ ∀ c, 0 ≤ (l.foldl (fun cs x => bump cs x.toNat) cs).getD c 0 ∧ (l.foldl (fun cs x => bump cs x.toNat) cs).getD c 0 ≤ ((n + l.length : Nat) : Int) by
    have h := this (ns.take k) z6 0 rfl (fun c => by
      unfold z6
      rcases c with _ | _ | _ | _ | _ | _ | c <;> simp)
    refine ⟨h.1, fun c => ⟨(h.2 c).1, ?_⟩⟩
    have := (h.2 c).2
    have hl : (ns.take k).length ≤ k := by rw [List.length_take]; omega
    omega
  intro l
  induction l with
  | nil => intro cs n h1 h2; exact ⟨h1, fun c => ⟨(h2 c).1, by have := (h2 c).2; simpa using this⟩⟩
  | cons x r ih =>
    intro cs n h1 h2
    have hb : ∀ c, 0 ≤ (bump cs x.toNat).getD c 0 ∧ (bump cs x.toNat).getD c 0 ≤ ((n + 1 : Nat) : Int) := fun c => by
      unfold bump
      rw [List.getD_eq_getElem?_getD, List.getElem?_set]
      by_cases e : x.toNat = c
      · subst e
        by_cases hl : x.toNat < cs.length
        · simp only [hl, if_true, Option.getD_some]
          have := h2 x.toNat; omega
        · simp only [hl, if_true, if_false, Option.getD_none]; omega
      · rw [if_neg e, ← List.getD_eq_getElem?_getD]
        have := h2 c; omega
    have := ih (bump cs x.toNat) (n + 1) (by rw [bump_len]; exact h1) hb
    refine ⟨this.1, fun c => ⟨(this.2 c).1, ?_⟩⟩
    have h := (this.2 c).2
    simp only [List.foldl_cons, List.length_cons]
    have e : ((n + 1 + r.length : Nat) : Int) = ((n + (r.length + 1) : Nat) : Int) := by omega
    rw [← e]; exact h
def countA (ns : List Int) : List Int := if vR ns = true then cntUp ns 24 else z6
theorem countA_len (ns : List Int) : (countA ns).length = 6 := by
  unfold countA
  by_cases h : vR ns = true
  · rw [if_pos h]; exact (cnt_all ns 24).1
  · rw [if_neg h]; rfl
theorem Has.zero6 (w : World) (T : TypeId) : Has (w.alloc (.cells #[.int .i64 0, .int .i64 0, .int .i64 0, .int .i64 0, .int .i64 0, .int .i64 0] T)) w.heap.size z6 6 := Has.box (ns := z6) w T rfl (by decide)
/-- A layer of a valid rack is a color's number; its count goes up. -/
theorem count_layer (ns : List Int) (h24 : ns.length = 24) (hv : vR ns = true) (p q : Nat) (hp : p < 6) (hq : q < 4) :
    ∃ c : Nat, c < 6 ∧ (tub ns p).getD q 0 = (c : Int) ∧ cntUp ns (p * 4 + q + 1) = (cntUp ns (p * 4 + q)).set c ((cntUp ns (p * 4 + q)).getD c 0 + 1) := by
  have h4 := tub_len ns p h24 hp
  have hk := (known_iff h4).1 (by have := vR_tub hv p hp; unfold vT at this; exact (Bool.and_eq_true_iff.1 this).1) q hq
  refine ⟨((tub ns p).getD q 0).toNat, by omega, by omega, ?_⟩
  rw [cntUp_step ns (p * 4 + q) (by omega), tub_getD ns p q hq]; rfl

end Go.Proofs.Ytalngdccjoafhab.base
end
