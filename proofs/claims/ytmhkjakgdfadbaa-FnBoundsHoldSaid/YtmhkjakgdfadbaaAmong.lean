/-
  One of some numbers is drawn, walked (the cursor's among).
-/
import Derived.Test.YtmhkjakgdfadbaaDraw
namespace Go.Proofs.Ytmhkjakgdfadbaa.base
open Go.ChangeShapes Go.WideShapes Go.ChangeAt Go.RowKit
open Go.Proofs.Ytmhkjakgdfadbaa.cur
set_option linter.unusedVariables false
set_option linter.unusedSimpArgs false

/-- A row of numbers, each as P asks. -/
def RowI (P : Int → Prop) (w : World) (g len : Nat) : Prop := ∀ j : Nat, j < len → ∃ n : Int, w.cell? ⟨g, j, none⟩ = some (.int .i64 n) ∧ P n

set_option maxHeartbeats 800000 in
theorem among_any (P : Int → Prop) (c k g len cap : Nat) (w : World) (h : Cur w c k) (hk : k < 1099511627776 - 2) (h0 : 0 < len) (h1 : len ≤ 1000) (hr : RowI P w g len) (hgc : g ≠ c) :
    Calls Try.prog 67 #[.pointer (some ⟨c, 0, none⟩), .slice (some ⟨g, 0, none⟩) len cap] w fun e w' => ∃ s : Int, e = .returned (.int .i64 s) ∧ P s ∧ Cur w' c (k + 2) ∧ Moved c w w' := by
  have hg : g < w.heap.size := by
    obtain ⟨s, hs, _⟩ := hr 0 h0
    exact World.block_lt_of_cell? _ _ hs
  have HC := Lib.hid h
  have HR := Lib.hid hr
  clear h hr
  go_enter Try.func67, Try.ntmps67
  go_wp2_with fail
  refine (pick_any c k len w HC.out (by omega) (by omega) (by omega)).mono ?_
  rintro e w1 ⟨z, rfl, z0, z1, hc1, m1⟩
  have HC1 := Lib.hid hc1; have M1 := Lib.hid m1
  obtain ⟨s, hs, hp⟩ := HR.out z.toNat (by omega)
  have hs1 : w1.cell? ⟨g, z.toNat, none⟩ = some (.int .i64 s) := (World.cell?_of_block (w := w) (m1.block g hg hgc)).trans hs
  have HP := Lib.hid hp
  clear hc1 m1 hs hp
  go_wp2_with fail
  go_ret
  exact ⟨_, rfl, HP.out, HC1.out, M1.out⟩

def intsP (P : Int → Prop) (cs : List Value) : Prop := ∀ v ∈ cs, ∃ n : Int, v = .int .i64 n ∧ P n
theorem among_new (P : Int → Prop) (c k n : Nat) (w : World) (cs : Array Value) (t : TypeId) (h : Cur w c k) (hk : k < 1099511627776 - 2) (hn : n = cs.size) (h0 : 0 < n) (h1 : n ≤ 1000) (hp : intsP P cs.toList) :
    Calls Try.prog 67 #[.pointer (some ⟨c, 0, none⟩), .slice (some ⟨w.heap.size, 0, none⟩) n n] (w.alloc (.cells cs t)) fun e w' => ∃ s : Int, e = .returned (.int .i64 s) ∧ P s ∧ Cur w' c (k + 2) ∧ Moved c w w' := by
  have hb : Below w.heap.size w (w.alloc (.cells cs t)) := (Below.refl _ _).alloc (Nat.le_refl _) _
  refine (among_any P c k w.heap.size n n _ (h.below hb) hk h0 h1 (fun j hj => ?_) (by have := h.lt; omega)).mono ?_
  · subst hn
    obtain ⟨m, e, hm⟩ := hp cs[j] (by simp)
    have hc : (w.alloc (.cells cs t)).cell? ⟨w.heap.size, j, none⟩ = some cs[j] := by
      unfold World.cell? World.alloc
      simp [hj]
    exact ⟨m, by rw [hc, e], hm⟩
  · rintro e w' ⟨s, rfl, hs, hc, m⟩
    exact ⟨s, rfl, hs, hc, (moved_of_below hb).trans m⟩


/-- As among_new; where the row lies is told beside. -/
theorem among_at (P : Int → Prop) (c k n g : Nat) (w : World) (cs : Array Value) (t : TypeId) (hg : g = w.heap.size) (h : Cur w c k) (hk : k < 1099511627776 - 2) (hn : n = cs.size) (h0 : 0 < n) (h1 : n ≤ 1000) (hp : intsP P cs.toList) :
    Calls Try.prog 67 #[.pointer (some ⟨c, 0, none⟩), .slice (some ⟨g, 0, none⟩) n n] (w.alloc (.cells cs t)) fun e w' => ∃ s : Int, e = .returned (.int .i64 s) ∧ P s ∧ Cur w' c (k + 2) ∧ Moved c w w' := by
  subst hg; exact among_new P c k n w cs t h hk hn h0 h1 hp
end Go.Proofs.Ytmhkjakgdfadbaa.base
