/-
  Is a number in a row? The library's answer, walked; rows of single numbers.
-/
import Derived.Test.YtlleenepinijdaaGrid
namespace Go.Proofs.Ytlleenepinijdaa.base
open Go.ChangeShapes Go.WideShapes Go.ChangeAt Go.RowKit
set_option linter.unusedVariables false
set_option linter.unusedSimpArgs false

theorem mem_take_next (ns : List Int) (k : Nat) (x : Int) (h : k < ns.length) : x ∈ ns.take (k + 1) ↔ x ∈ ns.take k ∨ x = ns.getD k 0 := by
  rw [List.take_succ_eq_append_getElem h, List.mem_append, List.mem_singleton, List.getD_eq_getElem?_getD, List.getElem?_eq_getElem h, Option.getD_some]

set_option maxHeartbeats 400000 in
theorem sIndex_any (g off n cap : Nat) (xs : List Int) (x : Int) (w : World) (hl : xs.length = n) (hn : n ≤ 100000) (hc : ∀ j, j < n → w.cell? ⟨g, off + j, none⟩ = some (.int .i64 (xs.getD j 0))) :
    Calls Try.prog 74 #[.slice (some ⟨g, off, none⟩) n cap, .int .i64 x] w fun e w' => (∃ z : Int, e = .returned (.int .i64 z) ∧ (0 ≤ z ↔ x ∈ xs)) ∧ w' = w := by
  have HC := Lib.hid hc
  clear hc
  go_enter Try.func74, Try.ntmps74
  go_wp2_with fail
  go_loop [8] (fun i => ∃ j : Nat, j ≤ n ∧ i = .int .i64 j ∧ Hid (¬ x ∈ xs.take j)) (fun i => n - (intOf i).toNat)
  case atStart => exact ⟨0, by omega, rfl, Lib.hid (by simp)⟩
  case round =>
    obtain ⟨j, hj, rfl, HN⟩ := hrel
    by_cases h : j < n
    · have c0 := HC.out j h
      have hji : (j : Int) < (n : Int) := by omega
      have M := mem_take_next xs j x (by omega)
      by_cases e : x = xs.getD j 0
      · have R := Lib.hid (show ((0 : Int) ≤ (j : Int)) ↔ x ∈ xs from ⟨fun _ => List.mem_of_mem_take (M.2 (.inr e)), fun _ => by omega⟩)
        rw [← e] at c0
        clear e M
        go_wp2_with fail
        go_ret
        exact ⟨⟨(j : Int), rfl, R.out⟩, rfl⟩
      · have N2 := Lib.hid (show ¬ x ∈ xs.take (j + 1) from fun hm => (M.1 hm).elim HN.out e)
        have e1 : (x == xs.getD j 0) = false := by simpa using e
        clear e M
        generalize xs.getD j 0 = y at *
        go_wp2_with fail
        go_round
        case rel => exact ⟨j + 1, by omega, by go_num, N2⟩
        case measure => simp [intOf]; omega
    · obtain rfl : j = n := by omega
      have R := Lib.hid (show ((0 : Int) ≤ (-1 : Int)) ↔ x ∈ xs from ⟨fun h => by omega, fun h => absurd (by rw [List.take_of_length_le (by omega)]; exact h) HN.out⟩)
      go_wp2_with fail
      go_ret
      exact ⟨⟨-1, rfl, R.out⟩, rfl⟩
theorem sContains_any (g off n cap : Nat) (xs : List Int) (x : Int) (w : World) (hl : xs.length = n) (hn : n ≤ 100000) (hc : ∀ j, j < n → w.cell? ⟨g, off + j, none⟩ = some (.int .i64 (xs.getD j 0))) :
    Calls Try.prog 57 #[.slice (some ⟨g, off, none⟩) n cap, .int .i64 x] w fun e w' => e = .returned (.bool (decide (x ∈ xs))) ∧ w' = w := by
  have HI := Lib.hid (sIndex_any g off n cap xs x w hl hn hc)
  clear hc
  go_enter Try.func57, Try.ntmps57
  go_wp2_with fail
  refine HI.out.mono ?_
  rintro e w' ⟨⟨z, rfl, hz⟩, rfl⟩
  have HZ := Lib.hid (show decide (0 ≤ z) = decide (x ∈ xs) from decide_eq_decide.2 hz)
  clear hz
  go_wp2_with fail
  go_ret
  exact ⟨ret_bool HZ.out, rfl⟩

/-- Places as a row of single numbers. -/
def ni (os : List Nat) : List Int := os.map (fun p : Nat => (p : Int))
def sg (os : List Nat) : List (List Int) := os.map (fun p : Nat => [(p : Int)])
theorem sg_len (os : List Nat) : (sg os).length = os.length := List.length_map _
theorem ni_len (os : List Nat) : (ni os).length = os.length := List.length_map _
theorem sg_app (os : List Nat) (p : Nat) : sg (os ++ [p]) = sg os ++ [[(p : Int)]] := by unfold sg; rw [List.map_append]; rfl
theorem mem_ni (os : List Nat) (p : Nat) : (p : Int) ∈ ni os ↔ p ∈ os := by
  unfold ni
  rw [List.mem_map]
  constructor
  · rintro ⟨q, hq, e⟩
    have : q = p := by omega
    exact this ▸ hq
  · intro h; exact ⟨p, h, rfl⟩
theorem sg_flat (os : List Nat) : (sg os).flatten = ni os := by
  unfold sg ni
  induction os with
  | nil => rfl
  | cons x r ih => simp only [List.map_cons, List.flatten_cons, List.singleton_append]; rw [ih]
theorem Gr.nums {w : World} {b : Nat} {t : TypeId} {g cap n : Nat} {os : List Nat} (h : Gr w b t 1 (.slice (some ⟨g, 0, Option.none⟩) n cap) (sg os)) (hn : n = os.length) : ∀ j, j < n → w.cell? ⟨g, 0 + j, Option.none⟩ = some (.int .i64 ((ni os).getD j 0)) := by
  intro j hj
  have hl := sg_len os
  have := h.cell (by omega) j 0 hj (by omega)
  rw [Nat.mul_one, Nat.add_zero] at this
  rw [Nat.zero_add, this]
  congr 2
  unfold sg ni
  rw [List.getD_eq_getElem?_getD, List.getD_eq_getElem?_getD, List.getElem?_map, List.getD_eq_getElem?_getD, List.getElem?_map, List.getElem?_eq_getElem (show j < os.length by omega)]
  rfl
theorem Gr.numsRange {w : World} {b : Nat} {t : TypeId} {g cap n : Nat} {os : List Nat} (h : Gr w b t 1 (.slice (some ⟨g, 0, Option.none⟩) n cap) (sg os)) (hn : n = os.length) : w.rangeAt g 0 (ints (ni os)) := by
  intro j v hv
  have hj : j < n := by
    rcases Nat.lt_or_ge j n with h1 | h1
    · exact h1
    · rw [List.getElem?_eq_none (by rw [ints_len, ni_len]; omega)] at hv; cases hv
  rw [h.nums hn j hj, ← hv, ints_get _ _ (by rw [ni_len]; omega)]
end Go.Proofs.Ytlleenepinijdaa.base
