/-
  Rows of numbers that are the call's own, and the laws' helpers for them, walked.
-/
import Derived.Test.YtalngdccjoafhabMarkFZ
import Derived.Test.YtalngdccjoafhabGridZ
import Derived.Test.YtalngdccjoafhabCanZ
import Derived.Deep.RegionHeld3
namespace Go.Proofs.Ytalngdccjoafhab.base
open Go.ChangeShapes Go.WideShapes Go.ChangeAt Go.RowKit
set_option linter.unusedVariables false
set_option linter.unusedSimpArgs false

/-- v is an own row of n numbers. -/
def Nu (w : World) (b : Nat) (v : Value) (n : Nat) (fs : List Int) : Prop := w.ownsRow b 3 1 v n (ints fs)
section
variable {w w' : World} {b n : Nat} {v : Value} {fs : List Int}
theorem Nu.below (h : Nu w b v n fs) (m : Below w.heap.size w w') : Nu w' b v n fs :=
  World.ownsRow.kept (row := none) h ⟨m.os, m.tape, m.output, m.size, fun j hj _ => m.block j hj⟩ (by cases v.ownBlock <;> simp)
theorem Nu.drewN (h : Nu w b v n fs) (k : Nat) : Nu (w.drewN k) b v n fs := h
theorem Nu.alloc (h : Nu w b v n fs) (o : Obj) : Nu (w.alloc o) b v n fs := World.ownsRow.alloc h o
theorem Nu.form (h : Nu w b v n fs) (hn : 0 < n) : ∃ g cap, v = .slice (some ⟨g, 0, Option.none⟩) n cap ∧ b ≤ g ∧ g < w.heap.size := by
  rcases h.2 with ⟨_, h0⟩ | ⟨g, cap, cur, hv, hb, hg, _⟩
  · omega
  · exact ⟨g, cap, hv, hb, lt_of_block hg⟩
theorem Nu.shape (h : Nu w b v n fs) : ∃ a cap, v = .slice a n cap := by
  rcases h.2 with ⟨h0, h1⟩ | ⟨g, cap, cur, hv, _⟩
  · exact ⟨_, _, by rw [h1]; exact h0⟩
  · exact ⟨_, _, hv⟩
theorem Nu.flat (h : Nu w b v n fs) : fs.length = n := by have := h.1; rw [ints_len] at this; omega
theorem Nu.own (h : Nu w b v n fs) : ∀ k, v.ownBlock = some k → b ≤ k ∧ k < w.heap.size := fun k hk => World.ownsRow.lt h k hk
theorem Nu.cell {g cap : Nat} (h : Nu w b (.slice (some ⟨g, 0, Option.none⟩) n cap) n fs) (j : Nat) (hj : j < n) : w.cell? ⟨g, j, Option.none⟩ = some (.int .i64 (fs.getD j 0)) := by
  rw [World.ownsRow.cellAt h j (by omega)]; exact ints_get _ _ (by rw [h.flat]; exact hj)
theorem Nu.cellX {g cap j : Nat} {x : Int} (h : Nu w b (.slice (some ⟨g, 0, Option.none⟩) n cap) n fs) (hj : j < n) (hx : fs.getD j 0 = x) : w.cell? ⟨g, j, Option.none⟩ = some (.int .i64 x) := by rw [h.cell j hj, hx]
theorem Nu.grownP (h : Nu w b v n fs) {r : Option Nat} (hg : w.grownBy w' r) (hr : ∀ k, r = some k → w.heap.size ≤ k ∨ v.ownBlock ≠ some k) : Nu w' b v n fs := by
  refine World.ownsRow.kept (row := r) h hg ?_
  cases hv : v.ownBlock with
  | none => exact .inl rfl
  | some k =>
    right
    intro e
    rcases hr k e.symm with h1 | h1
    · exact absurd (World.ownsRow.lt h k hv).2 (by omega)
    · exact h1 hv
theorem Nu.stored {g cap : Nat} (h : Nu w b (.slice (some ⟨g, 0, Option.none⟩) n cap) n fs) (j : Nat) (z : Int) : Nu (w.setCell ⟨g, j, Option.none⟩ (.int .i64 z)) b (.slice (some ⟨g, 0, Option.none⟩) n cap) n (fs.set j z) ∧ w.grownBy (w.setCell ⟨g, j, Option.none⟩ (.int .i64 z)) (some g) := by
  obtain ⟨a1, a2⟩ := World.ownsRow.stored h j (.int .i64 z)
  rw [ints_set] at a1
  exact ⟨a1, a2⟩
theorem Nu.storedAs {g cap : Nat} (h : Nu w b (.slice (some ⟨g, 0, Option.none⟩) n cap) n fs) (j : Nat) (z : Int) {fs' : List Int} (e : fs.set j z = fs') : Nu (w.setCell ⟨g, j, Option.none⟩ (.int .i64 z)) b (.slice (some ⟨g, 0, Option.none⟩) n cap) n fs' ∧ w.grownBy (w.setCell ⟨g, j, Option.none⟩ (.int .i64 z)) (some g) := e ▸ h.stored j z
theorem Nu.freeAt {g cap : Nat} (h : Nu w b (.slice (some ⟨g, 0, Option.none⟩) n cap) n fs) (j : Nat) : w.frozen? ⟨g, j, Option.none⟩ = false := World.ownsRow.frozenAt h j
theorem grownN_trans {a b c : World} {g : Nat} (h : a.grownBy b (some g)) (k : b.grownBy c (some g)) : a.grownBy c (some g) :=
  ⟨k.os.trans h.os, k.tape.trans h.tape, k.output.trans h.output, Nat.le_trans h.size k.size, fun i hi hn => (k.block i (Nat.lt_of_lt_of_le hi h.size) hn).trans (h.block i hi hn)⟩
theorem grownN_self (w : World) (r : Option Nat) : w.grownBy w r := ⟨rfl, rfl, rfl, Nat.le_refl _, fun _ _ _ => rfl⟩
end
/-- What the walk is told of a slice of numbers that came in. -/
def IsNums (w : World) (a : Option Addr) (len : Nat) (zs : List Int) : Prop :=
  len ≤ maxLen ∧ zs.length = len ∧ (len = 0 ∨ ∃ b off : Nat, a = some ⟨b, off, none⟩ ∧ b < w.heap.size ∧ ∀ j, j < len → w.cell? ⟨b, off + j, none⟩ = some (.int .i64 (zs.getD j 0)))
theorem IsNums.below {w w' : World} {a : Option Addr} {len : Nat} {zs : List Int} (h : IsNums w a len zs) (hb : Below w.heap.size w w') : IsNums w' a len zs := by
  obtain ⟨h1, h2, h4 | ⟨b, off, h4, h5, h6⟩⟩ := h
  · exact ⟨h1, h2, .inl h4⟩
  · exact ⟨h1, h2, .inr ⟨b, off, h4, Nat.lt_of_lt_of_le h5 hb.size, fun j hj => (hb.cell (p := ⟨b, off + j, none⟩) h5).trans (h6 j hj)⟩⟩
def upN (xs ys : List Int) (k : Nat) : List Int := xs.take k ++ ys.drop k
theorem upN_set (xs ys : List Int) (k : Nat) (hx : k < xs.length) (hy : k < ys.length) : (upN xs ys k).set k (xs.getD k 0) = upN xs ys (k + 1) := by
  unfold upN
  have hl : (xs.take k).length = k := by rw [List.length_take]; omega
  rw [List.set_append_right _ _ (by omega), hl, Nat.sub_self, List.take_succ_eq_append_getElem hx, List.append_assoc]
  congr 1
  rw [List.drop_eq_getElem_cons hy, List.getD_eq_getElem?_getD, List.getElem?_eq_getElem hx]; rfl
theorem made_zero1 (n : Nat) : (madeCells (Value.int .i64 0).cells n).toList = ints (List.replicate n 0) := by
  have e : (Value.int .i64 0).cells = #[Value.int .i64 0] := rfl
  rw [e]
  apply List.ext_getElem?
  intro j
  unfold madeCells ints
  by_cases hj : j < n
  · simp [hj, Nat.mod_one]
  · simp [hj]
theorem infoN : (Try.prog.info? 3).map (fun i => (i.zero, i.size, i.bytes)) = some (some (.int .i64 0), 1, 8) := by kernel_rfl
theorem infoN_parts {t : TypeId} {z : Value} {m bytes : Nat} (h : (Try.prog.info? t).map (fun i => (i.zero, i.size, i.bytes)) = some (some z, m, bytes)) : ∃ i, Try.prog.info? t = some i ∧ i.zero = some z ∧ i.size = m ∧ i.bytes = bytes := by
  cases hi : Try.prog.info? t with
  | none => rw [hi] at h; cases h
  | some i =>
    rw [hi] at h
    have h := Option.some.inj h
    simp only [Prod.mk.injEq] at h
    exact ⟨i, rfl, h.1, h.2.1, h.2.2⟩

end Go.Proofs.Ytalngdccjoafhab.base
