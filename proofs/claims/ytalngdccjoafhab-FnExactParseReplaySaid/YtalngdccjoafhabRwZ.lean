/-
  A row of pairs that can be read and written and that no other value shares: its cells alone; rows that are the call's own are such rows. The law's helpers over them.
-/
/-
  The law's own helpers for rows of pairs, walked over rows that hold their cells alone.
-/
import Derived.Test.YtalngdccjoafhabMarkFZ
import Derived.Test.YtalngdccjoafhabUseS
import Derived.Deep.Upon
import Derived.Laws.IdiomCopy

section
namespace Go.Proofs.Ytalngdccjoafhab.base
open Go.ChangeShapes Go.WideShapes Go.ChangeAt Go.RowKit
set_option linter.unusedVariables false
set_option linter.unusedSimpArgs false

def Rw (w : World) (b : Nat) (v : Value) (n : Nat) (fs : List Int) : Prop :=
  fs.length = n * 2 ∧ ((n = 0 ∧ ∃ a cap, v = .slice a 0 cap) ∨
    ∃ g cap, v = .slice (some ⟨g, 0, none⟩) n cap ∧ b ≤ g ∧ g < w.heap.size ∧ n ≤ cap ∧ (∀ j, j < n * 2 → w.cell? ⟨g, j, none⟩ = some (.int .i64 (fs.getD j 0))) ∧ ∀ j, j < n * 2 → w.frozen? ⟨g, j, none⟩ = false)
section
variable {w w' : World} {b n : Nat} {v : Value} {fs : List Int}
theorem Prs.rw (h : Prs w b v n fs) : Rw w b v n fs := by
  refine ⟨h.flat, ?_⟩
  cases n with
  | zero => exact .inl ⟨rfl, prs_zero h⟩
  | succ n =>
    obtain ⟨g, cap, rfl, hb, hg⟩ := h.form (by omega)
    have hnc : n + 1 ≤ cap := by
      rcases h.2 with ⟨_, h0⟩ | ⟨g', cap', cur, hv, _, _, hc, _⟩
      · omega
      · injection hv with _ _ hcc
        omega
    exact .inr ⟨g, cap, rfl, hb, hg, hnc, fun j hj => h.cell j hj, fun j _ => World.ownsRow.frozenAt h j⟩
theorem Rw.flat (h : Rw w b v n fs) : fs.length = n * 2 := h.1
theorem Rw.shape (h : Rw w b v n fs) : ∃ a cap, v = .slice a n cap := by
  rcases h.2 with ⟨rfl, a, cap, rfl⟩ | ⟨g, cap, rfl, _⟩
  · exact ⟨a, cap, rfl⟩
  · exact ⟨_, cap, rfl⟩
theorem Rw.form (h : Rw w b v n fs) (hn : 0 < n) : ∃ g cap, v = .slice (some ⟨g, 0, Option.none⟩) n cap ∧ b ≤ g ∧ g < w.heap.size := by
  rcases h.2 with ⟨rfl, _⟩ | ⟨g, cap, hv, hb, hg, _⟩
  · omega
  · exact ⟨g, cap, hv, hb, hg⟩
theorem Rw.mono {b' : Nat} (h : Rw w b v n fs) (hb : b' ≤ b) : Rw w b' v n fs := by
  refine ⟨h.1, ?_⟩
  rcases h.2 with h0 | ⟨g, cap, hv, hg, rest⟩
  · exact .inl h0
  · exact .inr ⟨g, cap, hv, by omega, rest⟩
theorem Rw.grownP (h : Rw w b v n fs) {r : Option Nat} (hg : w.grownBy w' r) (hr : 0 < n → ∀ k, r = some k → w.heap.size ≤ k ∨ v.ownBlock ≠ some k) : Rw w' b v n fs := by
  refine ⟨h.1, ?_⟩
  rcases h.2 with h0 | ⟨g, cap, rfl, hb, hl, hnc, hc, hf⟩
  · exact .inl h0
  · by_cases hn : 0 < n
    · have e : w'.heap[g]? = w.heap[g]? := hg.block g hl (fun e => by
        rcases hr hn g e.symm with h1 | h1
        · omega
        · exact h1 rfl)
      exact .inr ⟨g, cap, rfl, hb, Nat.lt_of_lt_of_le hl hg.size, hnc, fun j hj => (World.cell?_of_block (a := ⟨g, j, none⟩) e).trans (hc j hj), fun j hj => (World.frozen?_of_block (a := ⟨g, j, none⟩) e).trans (hf j hj)⟩
    · obtain rfl : n = 0 := by omega
      exact .inl ⟨rfl, _, _, rfl⟩
theorem Rw.below (h : Rw w b v n fs) (m : Below w.heap.size w w') : Rw w' b v n fs :=
  h.grownP (r := none) ⟨m.os, m.tape, m.output, m.size, fun k hk _ => m.block k hk⟩ (fun _ k hk => by cases hk)
theorem Rw.alloc (h : Rw w b v n fs) (o : Obj) : Rw (w.alloc o) b v n fs := h.grownP (World.grownBy_alloc w o none) (fun _ k hk => by cases hk)
theorem Rw.drewN (h : Rw w b v n fs) (k : Nat) : Rw (w.drewN k) b v n fs := h
theorem Rw.drew (h : Rw w b v n fs) : Rw w.drew b v n fs := h
theorem Rw.puts (h : Rw w b v n fs) (c o : Nat) (vs : List Value) (hne : 0 < n → v.ownBlock ≠ some c) : Rw (w.setCells c o vs) b v n fs :=
  h.grownP (r := some c) (by
    have hb := below_setCells (B := 0) c (Nat.zero_le _) vs o w w (Below.refl _ _)
    exact ⟨hb.os, hb.tape, hb.output, Nat.le_of_eq (size_setCells c vs o w).symm, fun i hi hn => World.heap_setCells_other w c o vs hi (fun e => hn (by rw [e]))⟩) (fun hn k hk => by injection hk with hk; subst hk; exact .inr (hne hn))
variable {g cap : Nat}
theorem Rw.cell (h : Rw w b (.slice (some ⟨g, 0, Option.none⟩) n cap) n fs) (j : Nat) (hj : j < n * 2) : w.cell? ⟨g, j, Option.none⟩ = some (.int .i64 (fs.getD j 0)) := by
  rcases h.2 with ⟨rfl, _⟩ | ⟨g', cap', hv, _, _, _, hc, _⟩
  · omega
  · injection hv with ha _ _
    injection ha with ha
    injection ha with ha _ _
    subst ha
    exact hc j hj
theorem Rw.cellX {j : Nat} {x : Int} (h : Rw w b (.slice (some ⟨g, 0, Option.none⟩) n cap) n fs) (hj : j < n * 2) (hx : fs.getD j 0 = x) : w.cell? ⟨g, j, Option.none⟩ = some (.int .i64 x) := by rw [h.cell j hj, hx]
theorem Rw.lt (h : Rw w b (.slice (some ⟨g, 0, Option.none⟩) n cap) n fs) (hn : 0 < n) : b ≤ g ∧ g < w.heap.size := by
  obtain ⟨g', cap', hv, h1, h2⟩ := h.form hn
  injection hv with ha _ _
  injection ha with ha
  injection ha with ha _ _
  subst ha
  exact ⟨h1, h2⟩
theorem Rw.room (h : Rw w b (.slice (some ⟨g, 0, Option.none⟩) n cap) n fs) (hn : 0 < n) : n ≤ cap := by
  rcases h.2 with ⟨rfl, _⟩ | ⟨g', cap', hv, _, _, hc, _⟩
  · omega
  · injection hv with _ _ hcc
    omega
theorem Rw.freeAt (h : Rw w b (.slice (some ⟨g, 0, Option.none⟩) n cap) n fs) (hn : 0 < n) (j : Nat) (hj : j < n * 2) : w.frozen? ⟨g, j, Option.none⟩ = false := by
  rcases h.2 with ⟨rfl, _⟩ | ⟨g', cap', hv, _, _, _, _, hf⟩
  · omega
  · injection hv with ha _ _
    injection ha with ha
    injection ha with ha _ _
    subst ha
    exact hf j hj
theorem Rw.range (h : Rw w b (.slice (some ⟨g, 0, Option.none⟩) n cap) n fs) (k : Nat) (hk : k < n) : w.rangeAt g (k * 2) (ints (pr fs k)) := by
  intro j v hv
  have hl := pr_len fs k n h.flat hk
  have hj : j < 2 := by
    rcases Nat.lt_or_ge j 2 with h1 | h1
    · exact h1
    · rw [List.getElem?_eq_none (by rw [ints_len, hl]; exact h1)] at hv; cases hv
  rw [h.cell (k * 2 + j) (by omega), ← hv, ints_get _ _ (by rw [hl]; exact hj)]
  unfold pr
  rw [List.getD_eq_getElem?_getD, List.getD_eq_getElem?_getD, List.getElem?_take, if_pos hj, List.getElem?_drop]
/-- A number is stored. -/
theorem Rw.stored (h : Rw w b (.slice (some ⟨g, 0, Option.none⟩) n cap) n fs) (j : Nat) (hj : j < n * 2) (z : Int) :
    Rw (w.setCell ⟨g, j, Option.none⟩ (.int .i64 z)) b (.slice (some ⟨g, 0, Option.none⟩) n cap) n (fs.set j z) ∧ w.grownBy (w.setCell ⟨g, j, Option.none⟩ (.int .i64 z)) (some g) := by
  have hn : 0 < n := by omega
  have hl := h.lt hn
  refine ⟨⟨by rw [List.length_set]; exact h.1, .inr ⟨g, cap, rfl, hl.1, by simpa using hl.2, h.room hn, fun i hi => ?_, fun i hi => ?_⟩⟩, ⟨rfl, rfl, rfl, by simp, fun k _ hk => heap_setCell_other w ⟨g, j, Option.none⟩ k _ (fun e => hk (by simp [e]))⟩⟩
  · by_cases e : i = j
    · subst e
      rw [World.cell?_setCell_same' w _ _ (by rw [h.cell i hi]; rfl)]
      rw [List.getD_eq_getElem?_getD, List.getElem?_set_self (by rw [h.1]; exact hi)]; rfl
    · have hne : (⟨g, j, Option.none⟩ : Addr) ≠ ⟨g, i, Option.none⟩ := fun q => e (by injection q with _ q; exact q.symm)
      rw [World.cell?_setCell_other w ⟨g, j, Option.none⟩ ⟨g, i, Option.none⟩ _ hne, h.cell i hi, List.getD_eq_getElem?_getD, List.getD_eq_getElem?_getD, List.getElem?_set_ne (fun q => e q.symm)]
  · rw [World.frozen?_setCell]; exact h.freeAt hn i hi
/-- A pair is stored. -/
theorem Rw.putPair (h : Rw w b (.slice (some ⟨g, 0, Option.none⟩) n cap) n fs) (k : Nat) (hk : k < n) (x y : Int) :
    Rw (w.setCells g (k * 2) (ints [x, y])) b (.slice (some ⟨g, 0, Option.none⟩) n cap) n ((fs.set (k * 2) x).set (k * 2 + 1) y) :=
  ((h.stored (k * 2) (by omega) x).1.stored (k * 2 + 1) (by omega) y).1
theorem Rw.there2 (h : Rw w b (.slice (some ⟨g, 0, Option.none⟩) n cap) n fs) (k : Nat) (hk : k < n) : w.there g (k * 2) 2 := fun i hi => by
  rw [h.cell (k * 2 + i) (by omega)]
  exact ⟨rfl, h.freeAt (by omega) _ (by omega)⟩
theorem zero_pairs (n : Nat) : (Builtin.zeroCells (Value.agg #[.int .i64 0, .int .i64 0]).cells n).toList = ints (List.replicate (n * 2) 0) := by
  have h : ∀ j : Nat, (#[Value.int .i64 0, Value.int .i64 0] : Array Value)[j % 2]! = .int .i64 0 := fun j => by
    have : j % 2 = 0 ∨ j % 2 = 1 := by omega
    rcases this with h | h <;> rw [h] <;> rfl
  have e : (Value.agg #[.int .i64 0, .int .i64 0]).cells = #[Value.int .i64 0, Value.int .i64 0] := rfl
  rw [e]
  apply List.ext_getElem?
  intro j
  unfold Builtin.zeroCells ints
  have e2 : (#[Value.int .i64 0, Value.int .i64 0] : Array Value).size = 2 := rfl
  rw [e2]
  by_cases hj : j < n * 2
  · simp [hj, h]
  · simp [hj]
/-- The last pairs are made zero, and the row cut. -/
theorem Rw.cleared (h : Rw w b (.slice (some ⟨g, 0, Option.none⟩) n cap) n fs) (m : Nat) (hm : m < n) {gs : List Int} (hg : gs.length = m * 2) (e : ∀ j, j < m * 2 → gs.getD j 0 = fs.getD j 0) :
    (∀ ty, (Builtin.clear_ #[26] ty #[.slice (some ⟨g, m * 2, Option.none⟩) (n - m) (cap - m)]).run Try.prog w = .ok (.tuple #[]) (w.setCells g (m * 2) (ints (List.replicate ((n - m) * 2) 0)))) ∧
      Rw (w.setCells g (m * 2) (ints (List.replicate ((n - m) * 2) 0))) b (.slice (some ⟨g, 0, Option.none⟩) m cap) m gs ∧ w.grownBy (w.setCells g (m * 2) (ints (List.replicate ((n - m) * 2) 0))) (some g) := by
  have hl : (ints (List.replicate ((n - m) * 2) 0)).length = (n - m) * 2 := by rw [ints_len, List.length_replicate]
  have hn : 0 < n := by omega
  refine ⟨fun ty => ?_, ⟨hg, ?_⟩, ?_⟩
  · have hv : ∀ w, (zeroValue 51).run Try.prog w = .ok (.agg #[.int .i64 0, .int .i64 0]) w := fun w => by kernel_rfl
    have hst := run_storeCells_cells (P := Try.prog) g (m * 2) (ints (List.replicate ((n - m) * 2) 0)) 0 w
      (fun j hj => by rw [hl] at hj; rw [Nat.add_zero, h.cell (m * 2 + j) (by omega)]; rfl) (fun j hj => h.freeAt hn _ (by rw [hl] at hj; omega)) (ints_one _)
    simp only [Nat.add_zero] at hst
    obtain ⟨d, hd⟩ : ∃ d, n - m = d + 1 := ⟨n - m - 1, by omega⟩
    rw [hd] at hst ⊢
    have hz := zero_pairs (d + 1)
    simp [Builtin.clear_, run_underlying Try.underlying26, hv, hz, hst]
  · cases m with
    | zero => exact .inl ⟨rfl, _, _, rfl⟩
    | succ m =>
      have hl2 := h.lt hn
      refine .inr ⟨g, cap, rfl, hl2.1, by rw [size_setCells]; exact hl2.2, by have := h.room hn; omega, fun j hj => ?_, fun j hj => ?_⟩
      · rw [World.cell?_setCells_out g _ _ w ⟨g, j, Option.none⟩ (fun _ _ => .inl hj), h.cell j (by omega), e j hj]
      · rw [World.frozen?_setCells]; exact h.freeAt hn j (by omega)
  · have hb := below_setCells (B := 0) g (Nat.zero_le _) (ints (List.replicate ((n - m) * 2) 0)) (m * 2) w w (Below.refl _ _)
    exact ⟨hb.os, hb.tape, hb.output, Nat.le_of_eq (size_setCells g _ (m * 2) w).symm, fun i hi hn => World.heap_setCells_other w g (m * 2) _ hi (fun e => hn (by rw [e]))⟩
end
end Go.Proofs.Ytalngdccjoafhab.base
end

section
namespace Go.Proofs.Ytalngdccjoafhab.base
open Go.ChangeShapes Go.WideShapes Go.ChangeAt Go.RowKit
set_option linter.unusedVariables false
set_option linter.unusedSimpArgs false

/-- What is written lies in the row alone. -/
def GrR (w w' : World) (b : Nat) (v : Value) (n : Nat) : Prop := ∃ r, w.grownBy w' r ∧ ∀ k, r = some k → b ≤ k ∧ v.ownBlock = some k ∧ 0 < n
theorem Rw.ownlt {w : World} {b n : Nat} {v : Value} {fs : List Int} (h : Rw w b v n fs) (hn : 0 < n) : ∀ k, v.ownBlock = some k → b ≤ k ∧ k < w.heap.size := by
  obtain ⟨g, cap, rfl, h1, h2⟩ := h.form hn
  intro k hk
  simp only [Value.ownBlock, Option.some.injEq] at hk
  subst hk; exact ⟨h1, h2⟩
theorem rw_zero {w : World} {b : Nat} {v : Value} {fs : List Int} (h : Rw w b v 0 fs) : ∃ a cap, v = .slice a 0 cap := h.shape
set_option maxHeartbeats 1600000 in
theorem markRw (b : Nat) (v : Value) (n K : Nat) (fs : List Int) (w : World) (hn : n ≤ 1000) (hK : K ≤ 1000) (h : Rw w b v n fs) :
    Calls Try.prog 38 #[v, .int .i64 (K : Int)] w fun e w' => e = .returned (.int .i64 ((K + n * 2 : Nat) : Int)) ∧ Rw w' b v n (markF K (n * 2) fs) ∧ GrR w w' b v n := by
  cases n with
  | zero =>
    obtain ⟨a, c, hv⟩ := rw_zero h
    have HH := Lib.hid h
    clear h
    subst hv
    go_enter Try.func38, Try.ntmps38
    go_wp2_with fail
    go_loop [1, 5, 6] (fun q i j => i = .int .i64 0 ∧ q = .int .i64 (K : Int)) (fun _ _ _ => 0)
    case atStart => exact ⟨rfl, rfl⟩
    case round =>
      obtain ⟨rfl, rfl⟩ := hrel
      go_wp2_with fail
      go_ret
      refine ⟨rfl, ?_, ⟨none, ⟨rfl, rfl, rfl, Nat.le_refl _, fun _ _ _ => rfl⟩, fun k hk => by cases hk⟩⟩
      rw [show markF K 0 fs = fs from markF_zero K fs]; exact HH.out
  | succ n =>
    obtain ⟨g, c, rfl, hbg, _⟩ := h.form (by omega)
    have HBG := Lib.hid hbg
    clear hbg
    have HL := Lib.hid h.flat
    have HH := Lib.hid h
    clear h
    go_enter Try.func38, Try.ntmps38
    go_wp2_with fail
    go_loopg [1, 5, 6] (n + 1) (fun gk q i j wr => ∃ p : Nat, gk = n + 1 - p ∧ p ≤ n + 1 ∧ i = .int .i64 p ∧ q = .int .i64 ((K + p * 2 : Nat) : Int) ∧ Hid (Rw wr b (.slice (some ⟨g, 0, none⟩) (n + 1) c) (n + 1) (markF K (p * 2) fs)) ∧ Hid (w.grownBy wr (some g)))
    case atStart => exact ⟨0, rfl, by omega, rfl, by simp, Lib.hid (by rw [Nat.zero_mul, markF_zero]; exact HH.out), Lib.hid ⟨rfl, rfl, rfl, Nat.le_refl _, fun _ _ _ => rfl⟩⟩
    case round =>
      obtain ⟨p, rfl, hp, rfl, rfl, GP, GG⟩ := hrel
      by_cases hlt : p < n + 1
      · have hpi : (p : Int) < (n : Int) + 1 := by omega
        go_wp2_with fail
        go_loopg [1, 6] 2 (fun gk q j wr => ∃ z : Nat, gk = 2 - z ∧ z ≤ 2 ∧ j = .int .i64 z ∧ q = .int .i64 ((K + (p * 2 + z) : Nat) : Int) ∧ Hid (Rw wr b (.slice (some ⟨g, 0, none⟩) (n + 1) c) (n + 1) (markF K (p * 2 + z) fs)) ∧ Hid (w.grownBy wr (some g)))
        case atStart => exact ⟨0, rfl, by omega, rfl, by simp, GP, GG⟩
        case round =>
          obtain ⟨z, rfl, hz, rfl, rfl, KP, KG⟩ := hrel
          by_cases hz2 : z < 2
          · have hzi : (z : Int) < 2 := by omega
            have c0 := KP.out.cell (p * 2 + z) (by omega)
            have f0 := KP.out.freeAt (by omega) (p * 2 + z) (by omega)
            have st := KP.out.stored (p * 2 + z) (by omega) ((K + (p * 2 + z) : Nat) : Int)
            have e : (markF K (p * 2 + z) fs).set (p * 2 + z) ((K + (p * 2 + z) : Nat) : Int) = markF K (p * 2 + z + 1) fs := markF_set K _ fs (by rw [HL.out]; omega)
            rw [e] at st
            clear e
            have S1 := Lib.hid st.1
            have S2 := Lib.hid (show w.grownBy _ (some g) from ⟨st.2.os.trans KG.out.os, st.2.tape.trans KG.out.tape, st.2.output.trans KG.out.output, Nat.le_trans KG.out.size st.2.size, fun i hi hn => (st.2.block i (Nat.lt_of_lt_of_le hi KG.out.size) hn).trans (KG.out.block i hi hn)⟩)
            clear st
            generalize (markF K (p * 2 + z) fs).getD (p * 2 + z) 0 = y at *
            go_wp2_with fail
            go_roundg (2 - (z + 1))
            case rel => exact ⟨z + 1, rfl, by omega, by go_num, by go_num, S1, S2⟩
            case measure => omega
          · obtain rfl : z = 2 := by omega
            have E : p * 2 + 2 = (p + 1) * 2 := by omega
            rw [E] at KP
            go_wp2_with fail
            go_roundg (n + 1 - (p + 1))
            case rel => exact ⟨p + 1, rfl, by omega, by go_num, by rw [← E], KP, KG⟩
            case measure => omega
      · obtain rfl : p = n + 1 := by omega
        go_wp2_with fail
        go_ret
        exact ⟨rfl, GP.out, ⟨some g, GG.out, fun k hk => by injection hk with hk; subst hk; exact ⟨HBG.out, rfl, by omega⟩⟩⟩

set_option maxHeartbeats 1600000 in
theorem heldRw (b : Nat) (v : Value) (n K : Nat) (fs : List Int) (w : World) (hn : n ≤ 1000) (hK : K ≤ 1000) (h : Rw w b v n (markF K (n * 2) fs)) :
    Calls Try.prog 39 #[v, .int .i64 (K : Int)] w fun e w' => e = .returned (.int .i64 ((K + n * 2 : Nat) : Int)) ∧ w' = w := by
  cases n with
  | zero =>
    obtain ⟨a, c, hv⟩ := rw_zero h
    clear h
    subst hv
    go_enter Try.func39, Try.ntmps39
    go_wp2_with fail
    go_loop [1, 5, 6] (fun q i j => i = .int .i64 0 ∧ q = .int .i64 (K : Int)) (fun _ _ _ => 0)
    case atStart => exact ⟨rfl, rfl⟩
    case round =>
      obtain ⟨rfl, rfl⟩ := hrel
      go_wp2_with fail
      go_ret
      exact ⟨rfl, rfl⟩
  | succ n =>
    obtain ⟨g, c, rfl, _, _⟩ := h.form (by omega)
    have HH := Lib.hid h
    clear h
    go_enter Try.func39, Try.ntmps39
    go_wp2_with fail
    go_loopg [1, 5, 6] (n + 1) (fun gk q i j wr => ∃ p : Nat, gk = n + 1 - p ∧ p ≤ n + 1 ∧ i = .int .i64 p ∧ q = .int .i64 ((K + p * 2 : Nat) : Int) ∧ w = wr)
    case atStart => exact ⟨0, rfl, by omega, rfl, by simp, rfl⟩
    case round =>
      obtain ⟨p, rfl, hp, rfl, rfl, rfl⟩ := hrel
      by_cases hlt : p < n + 1
      · have hpi : (p : Int) < (n : Int) + 1 := by omega
        go_wp2_with fail
        go_loopg [1, 6] 2 (fun gk q j wr => ∃ z : Nat, gk = 2 - z ∧ z ≤ 2 ∧ j = .int .i64 z ∧ q = .int .i64 ((K + (p * 2 + z) : Nat) : Int) ∧ w = wr)
        case atStart => exact ⟨0, rfl, by omega, rfl, by simp, rfl⟩
        case round =>
          obtain ⟨z, rfl, hz, rfl, rfl, rfl⟩ := hrel
          by_cases hz2 : z < 2
          · have hzi : (z : Int) < 2 := by omega
            have c0 := HH.out.cell (p * 2 + z) (by omega)
            rw [markF_get K _ _ fs (by omega)] at c0
            go_wp2_with fail
            go_roundg (2 - (z + 1))
            case rel => exact ⟨z + 1, rfl, by omega, by go_num, by go_num, rfl⟩
            case measure => omega
          · obtain rfl : z = 2 := by omega
            have E : p * 2 + 2 = (p + 1) * 2 := by omega
            go_wp2_with fail
            go_roundg (n + 1 - (p + 1))
            case rel => exact ⟨p + 1, rfl, by omega, by go_num, by rw [← E], rfl⟩
            case measure => omega
      · obtain rfl : p = n + 1 := by omega
        go_wp2_with fail
        go_ret
        exact ⟨rfl, rfl⟩
set_option maxHeartbeats 1600000 in
set_option maxRecDepth 100000 in
theorem eqRw_same (v1 v2 : Value) (b1 b2 n : Nat) (fs : List Int) (w : World) (hn : n ≤ 1048576) (h1 : Rw w b1 v1 n fs) (h2 : Rw w b2 v2 n fs) :
    Calls Try.prog 37 #[v1, v2] w fun e w' => e = .returned (.bool true) ∧ Kept w w' := by
  cases n with
  | zero =>
    obtain ⟨a1, c1, rfl⟩ := rw_zero h1
    obtain ⟨a2, c2, rfl⟩ := rw_zero h2
    clear h1 h2
    go_enter Try.func37, Try.ntmps37
    go_wp2_with fail
    go_loop [5] (fun i => i = .int .i64 0) (fun _ => 0)
    case atStart => rfl
    case round =>
      obtain rfl := hrel
      go_wp2_with fail
      go_ret
      exact ⟨rfl, kept_refl _⟩
  | succ n =>
    obtain ⟨g1, c1, rfl, _, _⟩ := h1.form (by omega)
    obtain ⟨g2, c2, rfl, _, _⟩ := h2.form (by omega)
    have HF := Lib.hid h1.flat
    go_enter Try.func37, Try.ntmps37
    go_wp2_with fail
    go_loopw [5] (fun z wr => ∃ k : Nat, k ≤ n + 1 ∧ z = .int .i64 k ∧ Hid (Rw wr b1 (.slice (some ⟨g1, 0, none⟩) (n + 1) c1) (n + 1) fs) ∧ Hid (Rw wr b2 (.slice (some ⟨g2, 0, none⟩) (n + 1) c2) (n + 1) fs) ∧ Hid (Kept w wr)) (fun z _ => n + 1 - (intOf z).toNat)
    case atStart => exact ⟨0, by omega, rfl, Lib.hid h1, Lib.hid h2, Lib.hid (kept_refl _)⟩
    case round =>
      obtain ⟨k, hk, rfl, G1, G2, GB⟩ := hrel
      by_cases h : k < n + 1
      · have hki : (k : Int) < (n : Int) + 1 := by omega
        have hk0 : (0 : Int) ≤ (k : Int) := by omega
        have hl := pr_len fs k (n + 1) HF.out h
        have l1 : (ints (pr fs k)).length = 2 := by rw [ints_len]; exact hl
        have hi1 : (Try.prog.info? 51).map (·.size) = some (ints (pr fs k)).length := by rw [l1]; kernel_rfl
        go_wp2_with fail
        refine wp_region_held_drew (S := fun w' => Rw w' b1 (.slice (some ⟨g1, 0, none⟩) (n + 1) c1) (n + 1) fs ∧ Rw w' b2 (.slice (some ⟨g2, 0, none⟩) (n + 1) c2) (n + 1) fs ∧ Kept w w') (by kernel_rfl) ?_ (fun hHeld => ?_)
        · exact ⟨G1.out.drewN 1, G2.out.drewN 1, GB.out.drewN 1⟩
        (refine wpAnyH_take (i := 0) (v := ?_) rfl (by kernel_rfl) (by kernel_rfl) (by kernel_rfl) (fun _ _ _ h => h) (Or.inl ⟨by rfl, ?_⟩) hHeld ?_; rotate_left; (· (intro w' hSw; go_simp; try with_reducible rfl)); (try simp only [List.getElem_toArray, List.getElem_cons_zero, List.getElem_cons_succ, Act.put, List.setIfInBounds_toArray, List.set_cons_zero, List.set_cons_succ])); (refine wpAnyH_take (i := 1) (v := ?_) rfl (by kernel_rfl) (by kernel_rfl) (by kernel_rfl) (fun _ _ _ h => h) (Or.inl ⟨by rfl, ?_⟩) hHeld ?_; rotate_left; (· (intro w' hSw; go_simp; try with_reducible rfl)); (try simp only [List.getElem_toArray, List.getElem_cons_zero, List.getElem_cons_succ, Act.put, List.setIfInBounds_toArray, List.set_cons_zero, List.set_cons_succ])); (refine wpAnyH_take (i := 2) (v := ?_) rfl (by kernel_rfl) (by kernel_rfl) (by kernel_rfl) (fun _ _ _ h => h) (Or.inl ⟨by rfl, ?_⟩) hHeld ?_; rotate_left; (· (intro w' hSw; go_simp; try with_reducible rfl)); (try simp only [List.getElem_toArray, List.getElem_cons_zero, List.getElem_cons_succ, Act.put, List.setIfInBounds_toArray, List.set_cons_zero, List.set_cons_succ])); (refine wpAnyH_take (i := 4) (v := ?_) rfl (by kernel_rfl) (by kernel_rfl) (by kernel_rfl) (fun _ _ _ h => h) (Or.inl ⟨by rfl, ?_⟩) hHeld ?_; rotate_left; (· (intro w' hSw; go_simp; try with_reducible rfl)); (try simp only [List.getElem_toArray, List.getElem_cons_zero, List.getElem_cons_succ, Act.put, List.setIfInBounds_toArray, List.set_cons_zero, List.set_cons_succ])); (refine wpAnyH_take (i := 5) (v := ?_) rfl (by kernel_rfl) (by kernel_rfl) (by kernel_rfl) (fun _ _ _ h => h) (Or.inl ⟨by rfl, ?_⟩) hHeld ?_; rotate_left; (· (intro w' hSw; go_simp; try with_reducible rfl)); (try simp only [List.getElem_toArray, List.getElem_cons_zero, List.getElem_cons_succ, Act.put, List.setIfInBounds_toArray, List.set_cons_zero, List.set_cons_succ])); (refine wpAnyH_take (i := 6) (v := ?_) rfl (by kernel_rfl) (by kernel_rfl) (by kernel_rfl) (fun _ _ _ h => h) (Or.inl ⟨by rfl, ?_⟩) hHeld ?_; rotate_left; (· (intro w' hSw; go_simp; try with_reducible rfl)); (try simp only [List.getElem_toArray, List.getElem_cons_zero, List.getElem_cons_succ, Act.put, List.setIfInBounds_toArray, List.set_cons_zero, List.set_cons_succ]))
        (refine wpAnyH_take (i := 3) (v := _) rfl (by kernel_rfl) (by kernel_rfl) (by kernel_rfl) (fun _ _ _ h => h) (yieldsIf_load_mid (by rfl) 51 _ rfl _ _ rfl (ints (pr fs k)) _ (fun w' hSw => hSw.1.range k h) Try.underlying51 rfl (hi1)) hHeld ?_; (try simp only [List.getElem_toArray, List.getElem_cons_zero, List.getElem_cons_succ, Act.put, List.setIfInBounds_toArray, List.set_cons_zero, List.set_cons_succ]))
        (refine wpAnyH_take (i := 7) (v := _) rfl (by kernel_rfl) (by kernel_rfl) (by kernel_rfl) (fun _ _ _ h => h) (yieldsIf_load_mid (by rfl) 51 _ rfl _ _ rfl (ints (pr fs k)) _ (fun w' hSw => hSw.2.1.range k h) Try.underlying51 rfl (hi1)) hHeld ?_; (try simp only [List.getElem_toArray, List.getElem_cons_zero, List.getElem_cons_succ, Act.put, List.setIfInBounds_toArray, List.set_cons_zero, List.set_cons_succ]))
        (refine wpAnyH_ready (rs := [8]) (by kernel_rfl) (by simp) ?_; refine AllReadyH.cons (o := _) rfl (fun K hK => ?_) AllReadyH.nil; (simp only [List.getElem_toArray, List.getElem_cons_zero, List.getElem_cons_succ, Region.wanted, if_true]))
        go_simp
        refine (eqIntA2_same (pr fs k) _ hl).mono ?_
        rintro e w1 ⟨rfl, b1'⟩
        have G3 := hHeld.1.below b1'
        have G4 := hHeld.2.1.below b1'
        have GB2 := hHeld.2.2.call b1'
        dsimp only
        (try simp only [List.getElem_toArray, List.getElem_cons_zero, List.getElem_cons_succ, Act.put, List.setIfInBounds_toArray, List.set_cons_zero, List.set_cons_succ])
        refine hK.out _ _ ⟨G3, G4, GB2⟩ (fun hHeld => ?_)
        clear hK K
        (refine wpAnyH_take (i := 9) (v := ?_) rfl (by kernel_rfl) (by kernel_rfl) (by kernel_rfl) (fun _ _ _ h => h) (Or.inl ⟨by rfl, ?_⟩) hHeld ?_; rotate_left; (· (intro w' hSw; go_simp; try with_reducible rfl)); (try simp only [List.getElem_toArray, List.getElem_cons_zero, List.getElem_cons_succ, Act.put, List.setIfInBounds_toArray, List.set_cons_zero, List.set_cons_succ]))
        refine wpAnyH_done (by kernel_rfl) ?_ _
        have GB3 := Lib.hid GB2
        have G5 := Lib.hid G3
        have G6 := Lib.hid G4
        clear hHeld GB2 b1' G1 G2 GB hi1 l1 G3 G4
        go_wp2_with fail
        go_roundw
        case rel => exact ⟨k + 1, by omega, by go_num, G5, G6, GB3⟩
        case measure => simp [intOf]; omega
      · obtain rfl : k = n + 1 := by omega
        go_wp2_with fail
        go_ret
        exact ⟨rfl, GB.out⟩
end Go.Proofs.Ytalngdccjoafhab.base
end
