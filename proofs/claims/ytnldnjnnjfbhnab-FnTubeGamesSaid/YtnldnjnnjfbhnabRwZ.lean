/-
  A row of pairs that can be read and written and that no other value shares: its cells alone; rows that are the call's own are such rows. The law's helpers over them.
-/
/-
  The law's own helpers for rows of pairs, walked over rows that hold their cells alone.
-/
import Derived.Test.YtnldnjnnjfbhnabRunsZ
import Derived.Test.YtnldnjnnjfbhnabSortZ
import Derived.Deep.Upon
import Derived.Laws.IdiomCopy

section
namespace Go.Proofs.Ytnldnjnnjfbhnab.base
open Go.ChangeShapes Go.WideShapes Go.ChangeAt Go.RowKit
set_option linter.unusedVariables false
set_option linter.unusedSimpArgs false

def Rw (w : World) (b : Nat) (v : Value) (n : Nat) (fs : List Int) : Prop :=
  fs.length = n * 2 ∧ ((n = 0 ∧ ∃ a cap, v = .slice a 0 cap) ∨
    ∃ g cap, v = .slice (some ⟨g, 0, none⟩) n cap ∧ b ≤ g ∧ g < w.heap.size ∧ n ≤ cap ∧ (∀ j, j < n * 2 → w.cell? ⟨g, j, none⟩ = some (.int .i64 (fs.getD j 0))) ∧ ∀ j, j < n * 2 → w.frozen? ⟨g, j, none⟩ = false)
section
variable {w w' : World} {b n : Nat} {v : Value} {fs : List Int}
theorem Prs.rw (h : Prs w b v n fs) : Rw w b v n fs := by
  refine ⟨h.flat, ?_⟩
  cases n with
  | zero => exact .inl ⟨rfl, prs_zero h⟩
  | succ n =>
    obtain ⟨g, cap, rfl, hb, hg⟩ := h.form (by omega)
    have hnc : n + 1 ≤ cap := by
      rcases h.2 with ⟨_, h0⟩ | ⟨g', cap', cur, hv, _, _, hc, _⟩
      · omega
      · injection hv with _ _ hcc
        omega
    exact .inr ⟨g, cap, rfl, hb, hg, hnc, fun j hj => h.cell j hj, fun j _ => World.ownsRow.frozenAt h j⟩
theorem Rw.flat (h : Rw w b v n fs) : fs.length = n * 2 := h.1
theorem Rw.shape (h : Rw w b v n fs) : ∃ a cap, v = .slice a n cap := by
  rcases h.2 with ⟨rfl, a, cap, rfl⟩ | ⟨g, cap, rfl, _⟩
  · exact ⟨a, cap, rfl⟩
  · exact ⟨_, cap, rfl⟩
theorem Rw.form (h : Rw w b v n fs) (hn : 0 < n) : ∃ g cap, v = .slice (some ⟨g, 0, Option.none⟩) n cap ∧ b ≤ g ∧ g < w.heap.size := by
  rcases h.2 with ⟨rfl, _⟩ | ⟨g, cap, hv, hb, hg, _⟩
  · omega
  · exact ⟨g, cap, hv, hb, hg⟩
theorem Rw.mono {b' : Nat} (h : Rw w b v n fs) (hb : b' ≤ b) : Rw w b' v n fs := by
  refine ⟨h.1, ?_⟩
  rcases h.2 with h0 | ⟨g, cap, hv, hg, rest⟩
  · exact .inl h0
  · exact .inr ⟨g, cap, hv, by omega, rest⟩
theorem Rw.grownP (h : Rw w b v n fs) {r : Option Nat} (hg : w.grownBy w' r) (hr : 0 < n → ∀ k, r = some k → w.heap.size ≤ k ∨ v.ownBlock ≠ some k) : Rw w' b v n fs := by
  refine ⟨h.1, ?_⟩
  rcases h.2 with h0 | ⟨g, cap, rfl, hb, hl, hnc, hc, hf⟩
  · exact .inl h0
  · by_cases hn : 0 < n
    · have e : w'.heap[g]? = w.heap[g]? := hg.block g hl (fun e => by
        rcases hr hn g e.symm with h1 | h1
        · omega
        · exact h1 rfl)
      exact .inr ⟨g, cap, rfl, hb, Nat.lt_of_lt_of_le hl hg.size, hnc, fun j hj => (World.cell?_of_block (a := ⟨g, j, none⟩) e).trans (hc j hj), fun j hj => (World.frozen?_of_block (a := ⟨g, j, none⟩) e).trans (hf j hj)⟩
    · obtain rfl : n = 0 := by omega
      exact .inl ⟨rfl, _, _, rfl⟩
theorem Rw.below (h : Rw w b v n fs) (m : Below w.heap.size w w') : Rw w' b v n fs :=
  h.grownP (r := none) ⟨m.os, m.tape, m.output, m.size, fun k hk _ => m.block k hk⟩ (fun _ k hk => by cases hk)
theorem Rw.alloc (h : Rw w b v n fs) (o : Obj) : Rw (w.alloc o) b v n fs := h.grownP (World.grownBy_alloc w o none) (fun _ k hk => by cases hk)
theorem Rw.drewN (h : Rw w b v n fs) (k : Nat) : Rw (w.drewN k) b v n fs := h
theorem Rw.drew (h : Rw w b v n fs) : Rw w.drew b v n fs := h
theorem Rw.puts (h : Rw w b v n fs) (c o : Nat) (vs : List Value) (hne : 0 < n → v.ownBlock ≠ some c) : Rw (w.setCells c o vs) b v n fs :=
  h.grownP (r := some c) (by
    have hb := below_setCells (B := 0) c (Nat.zero_le _) vs o w w (Below.refl _ _)
    exact ⟨hb.os, hb.tape, hb.output, Nat.le_of_eq (size_setCells c vs o w).symm, fun i hi hn => World.heap_setCells_other w c o vs hi (fun e => hn (by rw [e]))⟩) (fun hn k hk => by injection hk with hk; subst hk; exact .inr (hne hn))
variable {g cap : Nat}
theorem Rw.cell (h : Rw w b (.slice (some ⟨g, 0, Option.none⟩) n cap) n fs) (j : Nat) (hj : j < n * 2) : w.cell? ⟨g, j, Option.none⟩ = some (.int .i64 (fs.getD j 0)) := by
  rcases h.2 with ⟨rfl, _⟩ | ⟨g', cap', hv, _, _, _, hc, _⟩
  · omega
  · injection hv with ha _ _
    injection ha with ha
    injection ha with ha _ _
    subst ha
    exact hc j hj
theorem Rw.cellX {j : Nat} {x : Int} (h : Rw w b (.slice (some ⟨g, 0, Option.none⟩) n cap) n fs) (hj : j < n * 2) (hx : fs.getD j 0 = x) : w.cell? ⟨g, j, Option.none⟩ = some (.int .i64 x) := by rw [h.cell j hj, hx]
theorem Rw.lt (h : Rw w b (.slice (some ⟨g, 0, Option.none⟩) n cap) n fs) (hn : 0 < n) : b ≤ g ∧ g < w.heap.size := by
  obtain ⟨g', cap', hv, h1, h2⟩ := h.form hn
  injection hv with ha _ _
  injection ha with ha
  injection ha with ha _ _
  subst ha
  exact ⟨h1, h2⟩
theorem Rw.room (h : Rw w b (.slice (some ⟨g, 0, Option.none⟩) n cap) n fs) (hn : 0 < n) : n ≤ cap := by
  rcases h.2 with ⟨rfl, _⟩ | ⟨g', cap', hv, _, _, hc, _⟩
  · omega
  · injection hv with _ _ hcc
    omega
theorem Rw.freeAt (h : Rw w b (.slice (some ⟨g, 0, Option.none⟩) n cap) n fs) (hn : 0 < n) (j : Nat) (hj : j < n * 2) : w.frozen? ⟨g, j, Option.none⟩ = false := by
  rcases h.2 with ⟨rfl, _⟩ | ⟨g', cap', hv, _, _, _, _, hf⟩
  · omega
  · injection hv with ha _ _
    injection ha with ha
    injection ha with ha _ _
    subst ha
    exact hf j hj
theorem Rw.range (h : Rw w b (.slice (some ⟨g, 0, Option.none⟩) n cap) n fs) (k : Nat) (hk : k < n) : w.rangeAt g (k * 2) (ints (pr fs k)) := by
  intro j v hv
  have hl := pr_len fs k n h.flat hk
  have hj : j < 2 := by
    rcases Nat.lt_or_ge j 2 with h1 | h1
    · exact h1
    · rw [List.getElem?_eq_none (by rw [ints_len, hl]; exact h1)] at hv; cases hv
  rw [h.cell (k * 2 + j) (by omega), ← hv, ints_get _ _ (by rw [hl]; exact hj)]
  unfold pr
  rw [List.getD_eq_getElem?_getD, List.getD_eq_getElem?_getD, List.getElem?_take, if_pos hj, List.getElem?_drop]
/-- A number is stored. -/
theorem Rw.stored (h : Rw w b (.slice (some ⟨g, 0, Option.none⟩) n cap) n fs) (j : Nat) (hj : j < n * 2) (z : Int) :
    Rw (w.setCell ⟨g, j, Option.none⟩ (.int .i64 z)) b (.slice (some ⟨g, 0, Option.none⟩) n cap) n (fs.set j z) ∧ w.grownBy (w.setCell ⟨g, j, Option.none⟩ (.int .i64 z)) (some g) := by
  have hn : 0 < n := by omega
  have hl := h.lt hn
  refine ⟨⟨by rw [List.length_set]; exact h.1, .inr ⟨g, cap, rfl, hl.1, by simpa using hl.2, h.room hn, fun i hi => ?_, fun i hi => ?_⟩⟩, ⟨rfl, rfl, rfl, by simp, fun k _ hk => heap_setCell_other w ⟨g, j, Option.none⟩ k _ (fun e => hk (by simp [e]))⟩⟩
  · by_cases e : i = j
    · subst e
      rw [World.cell?_setCell_same' w _ _ (by rw [h.cell i hi]; rfl)]
      rw [List.getD_eq_getElem?_getD, List.getElem?_set_self (by rw [h.1]; exact hi)]; rfl
    · have hne : (⟨g, j, Option.none⟩ : Addr) ≠ ⟨g, i, Option.none⟩ := fun q => e (by injection q with _ q; exact q.symm)
      rw [World.cell?_setCell_other w ⟨g, j, Option.none⟩ ⟨g, i, Option.none⟩ _ hne, h.cell i hi, List.getD_eq_getElem?_getD, List.getD_eq_getElem?_getD, List.getElem?_set_ne (fun q => e q.symm)]
  · rw [World.frozen?_setCell]; exact h.freeAt hn i hi
/-- A pair is stored. -/
theorem Rw.putPair (h : Rw w b (.slice (some ⟨g, 0, Option.none⟩) n cap) n fs) (k : Nat) (hk : k < n) (x y : Int) :
    Rw (w.setCells g (k * 2) (ints [x, y])) b (.slice (some ⟨g, 0, Option.none⟩) n cap) n ((fs.set (k * 2) x).set (k * 2 + 1) y) :=
  ((h.stored (k * 2) (by omega) x).1.stored (k * 2 + 1) (by omega) y).1
theorem Rw.there2 (h : Rw w b (.slice (some ⟨g, 0, Option.none⟩) n cap) n fs) (k : Nat) (hk : k < n) : w.there g (k * 2) 2 := fun i hi => by
  rw [h.cell (k * 2 + i) (by omega)]
  exact ⟨rfl, h.freeAt (by omega) _ (by omega)⟩
theorem zero_pairs (n : Nat) : (Builtin.zeroCells (Value.agg #[.int .i64 0, .int .i64 0]).cells n).toList = ints (List.replicate (n * 2) 0) := by
  have h : ∀ j : Nat, (#[Value.int .i64 0, Value.int .i64 0] : Array Value)[j % 2]! = .int .i64 0 := fun j => by
    have : j % 2 = 0 ∨ j % 2 = 1 := by omega
    rcases this with h | h <;> rw [h] <;> rfl
  have e : (Value.agg #[.int .i64 0, .int .i64 0]).cells = #[Value.int .i64 0, Value.int .i64 0] := rfl
  rw [e]
  apply List.ext_getElem?
  intro j
  unfold Builtin.zeroCells ints
  have e2 : (#[Value.int .i64 0, Value.int .i64 0] : Array Value).size = 2 := rfl
  rw [e2]
  by_cases hj : j < n * 2
  · simp [hj, h]
  · simp [hj]
/-- The last pairs are made zero, and the row cut. -/
theorem Rw.cleared (h : Rw w b (.slice (some ⟨g, 0, Option.none⟩) n cap) n fs) (m : Nat) (hm : m < n) {gs : List Int} (hg : gs.length = m * 2) (e : ∀ j, j < m * 2 → gs.getD j 0 = fs.getD j 0) :
    (∀ ty, (Builtin.clear_ #[32] ty #[.slice (some ⟨g, m * 2, Option.none⟩) (n - m) (cap - m)]).run Try.prog w = .ok (.tuple #[]) (w.setCells g (m * 2) (ints (List.replicate ((n - m) * 2) 0)))) ∧
      Rw (w.setCells g (m * 2) (ints (List.replicate ((n - m) * 2) 0))) b (.slice (some ⟨g, 0, Option.none⟩) m cap) m gs ∧ w.grownBy (w.setCells g (m * 2) (ints (List.replicate ((n - m) * 2) 0))) (some g) := by
  have hl : (ints (List.replicate ((n - m) * 2) 0)).length = (n - m) * 2 := by rw [ints_len, List.length_replicate]
  have hn : 0 < n := by omega
  refine ⟨fun ty => ?_, ⟨hg, ?_⟩, ?_⟩
  · have hv : ∀ w, (zeroValue 36).run Try.prog w = .ok (.agg #[.int .i64 0, .int .i64 0]) w := fun w => by kernel_rfl
    have hst := run_storeCells_cells (P := Try.prog) g (m * 2) (ints (List.replicate ((n - m) * 2) 0)) 0 w
      (fun j hj => by rw [hl] at hj; rw [Nat.add_zero, h.cell (m * 2 + j) (by omega)]; rfl) (fun j hj => h.freeAt hn _ (by rw [hl] at hj; omega)) (ints_one _)
    simp only [Nat.add_zero] at hst
    obtain ⟨d, hd⟩ : ∃ d, n - m = d + 1 := ⟨n - m - 1, by omega⟩
    rw [hd] at hst ⊢
    have hz := zero_pairs (d + 1)
    simp [Builtin.clear_, run_underlying Try.underlying32, hv, hz, hst]
  · cases m with
    | zero => exact .inl ⟨rfl, _, _, rfl⟩
    | succ m =>
      have hl2 := h.lt hn
      refine .inr ⟨g, cap, rfl, hl2.1, by rw [size_setCells]; exact hl2.2, by have := h.room hn; omega, fun j hj => ?_, fun j hj => ?_⟩
      · rw [World.cell?_setCells_out g _ _ w ⟨g, j, Option.none⟩ (fun _ _ => .inl hj), h.cell j (by omega), e j hj]
      · rw [World.frozen?_setCells]; exact h.freeAt hn j (by omega)
  · have hb := below_setCells (B := 0) g (Nat.zero_le _) (ints (List.replicate ((n - m) * 2) 0)) (m * 2) w w (Below.refl _ _)
    exact ⟨hb.os, hb.tape, hb.output, Nat.le_of_eq (size_setCells g _ (m * 2) w).symm, fun i hi hn => World.heap_setCells_other w g (m * 2) _ hi (fun e => hn (by rw [e]))⟩
end
end Go.Proofs.Ytnldnjnnjfbhnab.base
end

section
namespace Go.Proofs.Ytnldnjnnjfbhnab.base
open Go.ChangeShapes Go.WideShapes Go.ChangeAt Go.RowKit
set_option linter.unusedVariables false
set_option linter.unusedSimpArgs false

/-- What is written lies in the row alone. -/
def GrR (w w' : World) (b : Nat) (v : Value) (n : Nat) : Prop := ∃ r, w.grownBy w' r ∧ ∀ k, r = some k → b ≤ k ∧ v.ownBlock = some k ∧ 0 < n
theorem Rw.ownlt {w : World} {b n : Nat} {v : Value} {fs : List Int} (h : Rw w b v n fs) (hn : 0 < n) : ∀ k, v.ownBlock = some k → b ≤ k ∧ k < w.heap.size := by
  obtain ⟨g, cap, rfl, h1, h2⟩ := h.form hn
  intro k hk
  simp only [Value.ownBlock, Option.some.injEq] at hk
  subst hk; exact ⟨h1, h2⟩
theorem rw_zero {w : World} {b : Nat} {v : Value} {fs : List Int} (h : Rw w b v 0 fs) : ∃ a cap, v = .slice a 0 cap := h.shape
end Go.Proofs.Ytnldnjnnjfbhnab.base
end
