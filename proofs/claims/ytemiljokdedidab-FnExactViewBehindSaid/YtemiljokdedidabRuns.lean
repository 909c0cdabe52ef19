/-
  The runs of a tube: plain mathematics, and the model's side, walked: a new slice of pairs.
-/
import Derived.Test.YtemiljokdedidabSpecW
import Derived.OwnWalk
import Derived.Laws.AppendOwn
import Derived.Laws.OwnMore
import Derived.Deep.AppendLies
import Derived.Deep.RegionHeld3
namespace Go.Proofs.Ytemiljokdedidab.base
open Go.ChangeShapes Go.WideShapes Go.ChangeAt Go.RowKit
set_option linter.unusedVariables false
set_option linter.unusedSimpArgs false

/-- The last count of a flat list of pairs goes up. -/
def bumpF (fs : List Int) : List Int := fs.set (fs.length - 1) (fs.getD (fs.length - 1) 0 + 1)
/-- The runs of the first k layers, flat: colors and counts. -/
def runsF (t : List Int) : Nat → List Int
  | 0 => []
  | k + 1 => if k ≠ 0 ∧ t.getD k 0 = t.getD (k - 1) 0 then bumpF (runsF t k) else runsF t k ++ [t.getD k 0, 1]
def runsN (t : List Int) (k : Nat) : Nat := (runsF t k).length / 2
theorem runsF0 (t : List Int) : runsF t 0 = [] := rfl
theorem runsN0 (t : List Int) : runsN t 0 = 0 := by unfold runsN; rw [runsF0]; rfl
theorem runsF_new (t : List Int) (k : Nat) (h : ¬ (k ≠ 0 ∧ t.getD k 0 = t.getD (k - 1) 0)) : runsF t (k + 1) = runsF t k ++ [t.getD k 0, 1] := by rw [runsF, if_neg h]
theorem runsF_same (t : List Int) (k : Nat) (h : k ≠ 0 ∧ t.getD k 0 = t.getD (k - 1) 0) : runsF t (k + 1) = bumpF (runsF t k) := by rw [runsF, if_pos h]
theorem runsN_new (t : List Int) (k : Nat) (h : ¬ (k ≠ 0 ∧ t.getD k 0 = t.getD (k - 1) 0)) : runsN t (k + 1) = runsN t k + 1 := by
  unfold runsN; rw [runsF_new t k h, List.length_append]; simp
theorem runsN_same (t : List Int) (k : Nat) (h : k ≠ 0 ∧ t.getD k 0 = t.getD (k - 1) 0) : runsN t (k + 1) = runsN t k := by
  unfold runsN; rw [runsF_same t k h]; unfold bumpF; rw [List.length_set]
def runsOK (t : List Int) : Bool := (List.range 5).all fun k =>
  decide ((runsF t k).length = runsN t k * 2) && decide (runsN t k ≤ k) && (decide (k = 0) || decide (0 < runsN t k)) && (runsF t k).all (fun x => decide (0 ≤ x ∧ x ≤ 5))
theorem runsOK_all : allT.all runsOK = true := by decide +kernel
structure RunFacts (t : List Int) (k : Nat) : Prop where
  len : (runsF t k).length = runsN t k * 2
  small : runsN t k ≤ k
  some : k = 0 ∨ 0 < runsN t k
  vals : ∀ x ∈ runsF t k, 0 ≤ x ∧ x ≤ 5
theorem runFacts {t : List Int} (h4 : t.length = 4) (hv : vT t = true) (k : Nat) (hk : k ≤ 4) : RunFacts t k := by
  have h := List.all_eq_true.1 (forT runsOK runsOK_all h4 hv) k (by simp; omega)
  simp only [Bool.and_eq_true, Bool.or_eq_true, decide_eq_true_eq, List.all_eq_true] at h
  exact ⟨h.1.1.1, h.1.1.2, h.1.2, h.2⟩

/-! rows of pairs that are the call's own -/
theorem infoPair : (Try.prog.info? 42).map (fun i => (i.zero, i.size, i.bytes)) = some (some (.agg #[.int .i64 0, .int .i64 0]), 2, 16) := by kernel_rfl
/-- The value v is a row of n pairs, flat: fs, in blocks from b on. -/
def Prs (w : World) (b : Nat) (v : Value) (n : Nat) (fs : List Int) : Prop := w.ownsRow b 42 2 v n (ints fs)
theorem Prs.below {w w' : World} {b : Nat} {v : Value} {n : Nat} {fs : List Int} (h : Prs w b v n fs) (m : Below w.heap.size w w') : Prs w' b v n fs :=
  World.ownsRow.kept (row := none) h ⟨m.os, m.tape, m.output, m.size, fun k hk _ => m.block k hk⟩ (by cases v.ownBlock <;> simp)
theorem Prs.drewN {w : World} {b : Nat} {v : Value} {n : Nat} {fs : List Int} (h : Prs w b v n fs) (k : Nat) : Prs (w.drewN k) b v n fs := h
theorem Prs.alloc {w : World} {b : Nat} {v : Value} {n : Nat} {fs : List Int} (h : Prs w b v n fs) (o : Obj) : Prs (w.alloc o) b v n fs := World.ownsRow.alloc h o
theorem Prs.none (w : World) (b : Nat) (hb : b ≤ w.heap.size) : Prs (w.alloc (.cells #[] 42)) b (.slice (some ⟨w.heap.size, 0, Option.none⟩) 0 0) 0 [] := by
  have := World.ownsRow_made (base := b) (e := 42) (size := 2) w #[] 0 hb (by unfold maxLen; omega) (by simp)
  simpa [Prs, ints] using this
theorem Prs.form {w : World} {b : Nat} {v : Value} {n : Nat} {fs : List Int} (h : Prs w b v n fs) (hn : 0 < n) : ∃ g cap, v = .slice (some ⟨g, 0, Option.none⟩) n cap ∧ b ≤ g ∧ g < w.heap.size := by
  rcases h.2 with ⟨_, h0⟩ | ⟨g, cap, cur, hv, hb, hg, _⟩
  · omega
  · exact ⟨g, cap, hv, hb, lt_of_block hg⟩
theorem Has.grown {w w' : World} {c : Nat} {ns : List Int} {m : Nat} (H : Has w c ns m) {r : Option Nat} (hg : w.grownBy w' r) (hr : ∀ k, r = some k → c + 1 ≤ k) : Has w' c ns m :=
  ⟨H.holds.below ((Below.refl (c + 1) w).grown hg H.lt hr) (Nat.lt_succ_self c), H.len, H.pos⟩
theorem Prs.own {w : World} {b : Nat} {v : Value} {n : Nat} {fs : List Int} (h : Prs w b v n fs) : ∀ k, v.ownBlock = some k → b ≤ k := fun k hk => (World.ownsRow.lt h k hk).1
theorem Prs.mono {w : World} {b b' : Nat} {v : Value} {n : Nat} {fs : List Int} (h : Prs w b v n fs) (hb : b' ≤ b) : Prs w b' v n fs := by
  refine ⟨h.1, ?_⟩
  rcases h.2 with h0 | ⟨g, cap, cur, hv, hg, rest⟩
  · exact .inl h0
  · exact .inr ⟨g, cap, cur, hv, by omega, rest⟩
/-- Two new cells are what a pair's block holds. -/
theorem cell_two_new (w : World) (x y : Value) (t : TypeId) : ∀ j u, [x, y][j]? = some u → (w.alloc (.cells #[x, y] t)).cell? ((⟨w.heap.size, 0, Option.none⟩ : Addr).add j) = some u :=
  World.news_of_block (w := w.alloc (.cells #[x, y] t)) (B := w.heap.size) (cs := #[x, y]) (t := t) (fr := (0, 0)) (by rw [show (w.alloc (.cells #[x, y] t)).heap = w.heap.push (.cells #[x, y] t) from rfl]; simp)

/-- One pair more. -/
theorem prs_new {w0 w1 w3 : World} {c q : Nat} {t : List Int} {k : Nat} {v v' : Value} {o : Obj} (GP : Prs w1 (c + 1) v (runsN t k) (runsF t k)) (G : Has w1 c t 4) (GB : Kept w0 w1) (hc : w0.heap.size ≤ c)
    (hn : ¬ (k ≠ 0 ∧ t.getD k 0 = t.getD (k - 1) 0)) (hown : w3.ownsRow (c + 1) 42 2 v' (runsN t k + 1) (ints (runsF t k) ++ [.int .i64 (t.getD k 0), .int .i64 1])) (hg : ((w1.drewN q).alloc o).grownBy w3 v.ownBlock) :
    Has w3 c t 4 ∧ Prs w3 (c + 1) v' (runsN t (k + 1)) (runsF t (k + 1)) ∧ Kept w0 w3 := by
  refine ⟨((G.drewN q).alloc o).grown hg GP.own, ?_, ((GB.drewN q).alloc o).grown hg ((GB.drewN q).alloc o).size (fun j hj => by have := GP.own j hj; omega)⟩
  unfold Prs
  rw [runsN_new t k hn, runsF_new t k hn]
  have e : ints (runsF t k ++ [t.getD k 0, 1]) = ints (runsF t k) ++ [.int .i64 (t.getD k 0), .int .i64 1] := by simp [ints]
  rw [e]; exact hown
/-- The last count goes up. -/
theorem prs_bump {w0 w1 : World} {c g m cap : Nat} {t : List Int} {k : Nat} (GP : Prs w1 (c + 1) (.slice (some ⟨g, 0, Option.none⟩) (m + 1) cap) (m + 1) (runsF t k)) (G : Has w1 c t 4) (GB : Kept w0 w1) (hc : w0.heap.size ≤ c) (hm : runsN t k = m + 1)
    (hlen : (runsF t k).length = (m + 1) * 2) (hs : k ≠ 0 ∧ t.getD k 0 = t.getD (k - 1) 0) :
    w1.cell? ⟨g, m * 2 + 1, Option.none⟩ = some (.int .i64 ((runsF t k).getD (m * 2 + 1) 0)) ∧ w1.frozen? ⟨g, m * 2 + 1, Option.none⟩ = false ∧
    Has (w1.setCell ⟨g, m * 2 + 1, Option.none⟩ (.int .i64 ((runsF t k).getD (m * 2 + 1) 0 + 1))) c t 4 ∧
    Prs (w1.setCell ⟨g, m * 2 + 1, Option.none⟩ (.int .i64 ((runsF t k).getD (m * 2 + 1) 0 + 1))) (c + 1) (.slice (some ⟨g, 0, Option.none⟩) (m + 1) cap) (runsN t (k + 1)) (runsF t (k + 1)) ∧
    Kept w0 (w1.setCell ⟨g, m * 2 + 1, Option.none⟩ (.int .i64 ((runsF t k).getD (m * 2 + 1) 0 + 1))) := by
  have hgc : c + 1 ≤ g := GP.own g rfl
  refine ⟨?_, World.ownsRow.frozenAt GP _, G.setOther _ _ (by omega), ?_, GB.set (by omega) _ _⟩
  · rw [World.ownsRow.cellAt GP (m * 2 + 1) (by omega)]
    exact ints_get _ _ (by omega)
  · have := (World.ownsRow.stored GP (m * 2 + 1) (.int .i64 ((runsF t k).getD (m * 2 + 1) 0 + 1))).1
    unfold Prs
    rw [runsN_same t k hs, runsF_same t k hs, hm]
    unfold bumpF
    rw [show (runsF t k).length - 1 = m * 2 + 1 by omega]
    have e : ints ((runsF t k).set (m * 2 + 1) ((runsF t k).getD (m * 2 + 1) 0 + 1)) = (ints (runsF t k)).set (m * 2 + 1) (.int .i64 ((runsF t k).getD (m * 2 + 1) 0 + 1)) := by unfold ints; rw [List.map_set]
    rw [e]; exact this
theorem val_at {t : List Int} {k j : Nat} (F : RunFacts t k) (h : j < (runsF t k).length) : 0 ≤ (runsF t k).getD j 0 ∧ (runsF t k).getD j 0 ≤ 5 := by
  rw [List.getD_eq_getElem?_getD, List.getElem?_eq_getElem h]
  exact F.vals _ (List.getElem_mem h)

end Go.Proofs.Ytemiljokdedidab.base
