/-
  Equal rows of pairs are told equal, walked.
-/
import Derived.Test.YtemiljokdedidabPrsL
namespace Go.Proofs.Ytemiljokdedidab.base
open Go.ChangeShapes Go.WideShapes Go.ChangeAt Go.RowKit
set_option linter.unusedVariables false
set_option linter.unusedSimpArgs false

set_option maxHeartbeats 400000 in
theorem eqIntA2_same (t : List Int) (w : World) (h2 : t.length = 2) :
    Calls Try.prog 22 #[.agg (ints t).toArray, .agg (ints t).toArray] w fun e w' => e = .returned (.bool true) ∧ Kept w w' := by
  have HB := Lib.hid (((kept_refl w).alloc (.cells (ints t).toArray 42)).alloc (.cells (ints t).toArray 42))
  have H1 := (Has.box w 42 h2 (by omega)).alloc (.cells (ints t).toArray 42)
  have H2 := (Has.box (w.alloc (.cells (ints t).toArray 42)) 42 h2 (by omega)).at (size1 _ _)
  go_enter Try.func22, Try.ntmps22
  go_wp2_with fail
  have HL := Lib.hid h2
  clear h2
  generalize ((w.alloc (.cells (ints t).toArray 42)).alloc (.cells (ints t).toArray 42)) = W at *
  go_loopw [5] (fun z wr => ∃ k : Nat, k ≤ 2 ∧ z = .int .i64 k ∧ Has wr w.heap.size t 2 ∧ Has wr (w.heap.size + 1) t 2 ∧ Hid (Kept w wr)) (fun z _ => 2 - (intOf z).toNat)
  case atStart => exact ⟨0, by omega, rfl, H1, H2, HB⟩
  case round =>
    obtain ⟨k, hk, rfl, G1, G2, GB⟩ := hrel
    by_cases h : k < 2
    · have c1 := G1.cell k h
      have c2 := G2.cell k h
      have hki : (k : Int) < 2 := by omega
      have hk0 : (0 : Int) ≤ (k : Int) := by omega
      generalize t.getD k 0 = x at *
      go_wp2_with fail
      go_quiet (fail)
      have G3 := G1.drewN nq
      have G4 := G2.drewN nq
      have GB2 := Lib.hid (GB.out.drewN nq)
      go_wp2_with fail
      go_roundw
      case rel => exact ⟨k + 1, by omega, by go_num, G3, G4, GB2⟩
      case measure => simp [intOf]; omega
    · go_wp2_with fail
      go_ret
      exact ⟨rfl, GB.out⟩

def pr (fs : List Int) (k : Nat) : List Int := (fs.drop (k * 2)).take 2
theorem pr_len (fs : List Int) (k n : Nat) (h : fs.length = n * 2) (hk : k < n) : (pr fs k).length = 2 := by
  unfold pr; rw [List.length_take, List.length_drop]; omega
theorem Prs.range {w : World} {b g cap n : Nat} {fs : List Int} (h : Prs w b (.slice (some ⟨g, 0, Option.none⟩) n cap) n fs) (k : Nat) (hk : k < n) : w.rangeAt g (k * 2) (ints (pr fs k)) := by
  intro j v hv
  have hl := pr_len fs k n h.flat hk
  have hj : j < 2 := by
    rcases Nat.lt_or_ge j 2 with h1 | h1
    · exact h1
    · rw [List.getElem?_eq_none (by rw [ints_len, hl]; exact h1)] at hv; cases hv
  rw [h.cell (k * 2 + j) (by omega), ← hv, ints_get _ _ (by rw [hl]; exact hj)]
  unfold pr
  rw [List.getD_eq_getElem?_getD, List.getD_eq_getElem?_getD, List.getElem?_take, if_pos hj, List.getElem?_drop]

end Go.Proofs.Ytemiljokdedidab.base
