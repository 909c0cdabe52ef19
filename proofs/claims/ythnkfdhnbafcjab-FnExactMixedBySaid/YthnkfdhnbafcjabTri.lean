/-
  Rows of sources that are the call's own, and the law's own helpers for them, walked.
-/
import Derived.Test.YthnkfdhnbafcjabMarkF
import Derived.Test.YthnkfdhnbafcjabGrid
import Derived.Test.YthnkfdhnbafcjabRackOps
namespace Go.Proofs.Ythnkfdhnbafcjab.base
open Go.ChangeShapes Go.WideShapes Go.ChangeAt Go.RowKit
set_option linter.unusedVariables false
set_option linter.unusedSimpArgs false

/-- v is an own row of n sources, flat fs. -/
def Tri (w : World) (b : Nat) (v : Value) (n : Nat) (fs : List Int) : Prop := w.ownsRow b 60 3 v n (ints fs)
section
variable {w w' : World} {b n : Nat} {v : Value} {fs : List Int}
theorem Tri.below (h : Tri w b v n fs) (m : Below w.heap.size w w') : Tri w' b v n fs :=
  World.ownsRow.kept (row := none) h ⟨m.os, m.tape, m.output, m.size, fun j hj _ => m.block j hj⟩ (by cases v.ownBlock <;> simp)
theorem Tri.drewN (h : Tri w b v n fs) (k : Nat) : Tri (w.drewN k) b v n fs := h
theorem Tri.alloc (h : Tri w b v n fs) (o : Obj) : Tri (w.alloc o) b v n fs := World.ownsRow.alloc h o
theorem Tri.form (h : Tri w b v n fs) (hn : 0 < n) : ∃ g cap, v = .slice (some ⟨g, 0, Option.none⟩) n cap ∧ b ≤ g ∧ g < w.heap.size := by
  rcases h.2 with ⟨_, h0⟩ | ⟨g, cap, cur, hv, hb, hg, _⟩
  · omega
  · exact ⟨g, cap, hv, hb, lt_of_block hg⟩
theorem Tri.zero (h : Tri w b v 0 fs) : ∃ a cap, v = .slice a 0 cap := by
  rcases h.2 with ⟨h0, _⟩ | ⟨g, cap, cur, hv, _⟩
  · exact ⟨_, _, h0⟩
  · exact ⟨_, _, hv⟩
theorem Tri.flat (h : Tri w b v n fs) : fs.length = n * 3 := by have := h.1; rwa [ints_len] at this
theorem Tri.cell {g cap : Nat} (h : Tri w b (.slice (some ⟨g, 0, Option.none⟩) n cap) n fs) (j : Nat) (hj : j < n * 3) : w.cell? ⟨g, j, Option.none⟩ = some (.int .i64 (fs.getD j 0)) := by
  rw [World.ownsRow.cellAt h j hj]; exact ints_get _ _ (by rw [h.flat]; exact hj)
def tr3 (fs : List Int) (k : Nat) : List Int := (fs.drop (k * 3)).take 3
theorem tr3_len (fs : List Int) (k n : Nat) (h : fs.length = n * 3) (hk : k < n) : (tr3 fs k).length = 3 := by
  unfold tr3; rw [List.length_take, List.length_drop]; omega
theorem Tri.range {g cap : Nat} (h : Tri w b (.slice (some ⟨g, 0, Option.none⟩) n cap) n fs) (k : Nat) (hk : k < n) : w.rangeAt g (k * 3) (ints (tr3 fs k)) := by
  intro j v hv
  have hl := tr3_len fs k n h.flat hk
  have hj : j < 3 := by
    rcases Nat.lt_or_ge j 3 with h1 | h1
    · exact h1
    · rw [List.getElem?_eq_none (by rw [ints_len, hl]; exact h1)] at hv; cases hv
  rw [h.cell (k * 3 + j) (by omega), ← hv, ints_get _ _ (by rw [hl]; exact hj)]
  unfold tr3
  rw [List.getD_eq_getElem?_getD, List.getD_eq_getElem?_getD, List.getElem?_take, if_pos hj, List.getElem?_drop]
theorem Tri.grownP (h : Tri w b v n fs) {r : Option Nat} (hg : w.grownBy w' r) (hr : ∀ k, r = some k → w.heap.size ≤ k ∨ v.ownBlock ≠ some k) : Tri w' b v n fs := by
  refine World.ownsRow.kept (row := r) h hg ?_
  cases hv : v.ownBlock with
  | none => exact .inl rfl
  | some k =>
    right
    intro e
    rcases hr k e.symm with h1 | h1
    · exact absurd (World.ownsRow.lt h k hv).2 (by omega)
    · exact h1 hv
theorem Tri.stored {g cap : Nat} (h : Tri w b (.slice (some ⟨g, 0, Option.none⟩) n cap) n fs) (j : Nat) (z : Int) : Tri (w.setCell ⟨g, j, Option.none⟩ (.int .i64 z)) b (.slice (some ⟨g, 0, Option.none⟩) n cap) n (fs.set j z) ∧ w.grownBy (w.setCell ⟨g, j, Option.none⟩ (.int .i64 z)) (some g) := by
  obtain ⟨a1, a2⟩ := World.ownsRow.stored h j (.int .i64 z)
  rw [ints_set] at a1
  exact ⟨a1, a2⟩
theorem Tri.storedAs {g cap : Nat} (h : Tri w b (.slice (some ⟨g, 0, Option.none⟩) n cap) n fs) (j : Nat) (z : Int) {fs' : List Int} (e : fs.set j z = fs') : Tri (w.setCell ⟨g, j, Option.none⟩ (.int .i64 z)) b (.slice (some ⟨g, 0, Option.none⟩) n cap) n fs' ∧ w.grownBy (w.setCell ⟨g, j, Option.none⟩ (.int .i64 z)) (some g) := e ▸ h.stored j z
theorem Tri.freeAt {g cap : Nat} (h : Tri w b (.slice (some ⟨g, 0, Option.none⟩) n cap) n fs) (j : Nat) : w.frozen? ⟨g, j, Option.none⟩ = false := World.ownsRow.frozenAt h j
theorem grown_trans {a b c : World} {g : Nat} (h : a.grownBy b (some g)) (k : b.grownBy c (some g)) : a.grownBy c (some g) :=
  ⟨k.os.trans h.os, k.tape.trans h.tape, k.output.trans h.output, Nat.le_trans h.size k.size, fun i hi hn => (k.block i (Nat.lt_of_lt_of_le hi h.size) hn).trans (h.block i hi hn)⟩
theorem grown_self (w : World) (r : Option Nat) : w.grownBy w r := ⟨rfl, rfl, rfl, Nat.le_refl _, fun _ _ _ => rfl⟩
theorem Gr.toTri {ls : List (List Int)} (h : Gr w b 60 3 v ls) : Tri w b v ls.length ls.flatten := h.row
end

theorem len3 {t : List Int} (h : t.length = 3) : ∃ a b c, t = [a, b, c] := by
  match t, h with
  | [a, b, c], _ => exact ⟨a, b, c, rfl⟩

end Go.Proofs.Ythnkfdhnbafcjab.base
