/-
  Whether a pair is in a row of pairs: the library's search, walked.
-/
import Derived.Test.YtcedpjjfcfeokabRwZ
import Derived.Test.YtcedpjjfcfeokabDepIZ
import Derived.Test.YtcedpjjfcfeokabEqR
import Derived.Deep.RegionHeld3
namespace Go.Proofs.Ytcedpjjfcfeokab.base
open Go.ChangeShapes Go.WideShapes Go.ChangeAt Go.RowKit
set_option linter.unusedVariables false
set_option linter.unusedSimpArgs false

def isPr (fs : List Int) (x y : Int) (j : Nat) : Bool := decide (fs.getD (j * 2) 0 = x) && decide (fs.getD (j * 2 + 1) 0 = y)
def hasP (fs : List Int) (n : Nat) (x y : Int) : Bool := (List.range n).any fun j => isPr fs x y j
def FoundP (fs : List Int) (n : Nat) (x y : Int) (z : Int) : Prop := (z = -1 ∧ hasP fs n x y = false) ∨ (0 ≤ z ∧ hasP fs n x y = true)
theorem eqPairT (xs ys : List Int) (hx : xs.length = 2) (hy : ys.length = 2) (w : World) : (Op.equalIn 10000 50 (.agg (ints xs).toArray) (.agg (ints ys).toArray)).run Try.prog w = .ok (decide (xs = ys)) w :=
  run_eq2 9998 50 3 Try.underlying50 Try.underlying3 (fun w => by rw [Try.sizeOf3]) xs ys hx hy w
theorem range_twoP {w : World} {g o : Nat} {x y : Int} (h0 : w.cell? ⟨g, o, Option.none⟩ = some (.int .i64 x)) (h1 : w.cell? ⟨g, o + 1, Option.none⟩ = some (.int .i64 y)) : w.rangeAt g o (ints [x, y]) := by
  intro j v hv
  match j, hv with
  | 0, hv => cases hv; exact h0
  | 1, hv => cases hv; exact h1

set_option maxHeartbeats 1600000 in
set_option maxRecDepth 100000 in
theorem indexP_any (fs : List Int) (x y : Int) (b n : Nat) (v : Value) (w : World) (hn : n ≤ 1000) (h : Rw w b v n fs) :
    Calls Try.prog 57 #[v, .agg (ints [x, y]).toArray] w fun e w' => (∃ z : Int, e = .returned (.int .i64 z) ∧ FoundP fs n x y z) ∧ Kept w w' := by
  obtain ⟨a, cap, rfl⟩ := h.shape
  have B0 := Has.box (ns := [x, y]) (n := 2) w 50 rfl (by omega)
  have R0 := Lib.hid (h.alloc (.cells (ints [x, y]).toArray 50))
  have K0 := Lib.hid ((kept_refl w).alloc (.cells (ints [x, y]).toArray 50))
  have hiP : (Try.prog.info? 50).map (·.size) = some (ints [x, y]).length := by kernel_rfl
  clear h
  go_enter Try.func57, Try.ntmps57
  go_wp2_with fail
  generalize w.alloc (.cells (ints [x, y]).toArray 50) = W at *
  go_loopw [8] (fun i wr => ∃ j : Nat, j ≤ n ∧ i = .int .i64 j ∧ Has wr w.heap.size [x, y] 2 ∧ Hid (Rw wr b (.slice a n cap) n fs) ∧ Hid (Kept w wr) ∧ Hid (∀ t, t < j → isPr fs x y t = false)) (fun i _ => n - (intOf i).toNat)
  case atStart => exact ⟨0, by omega, rfl, B0, R0, K0, Lib.hid (fun t ht => by omega)⟩
  case round =>
    obtain ⟨j, hj, rfl, GH, GR, GB, GA⟩ := hrel
    clear B0 R0 K0
    by_cases hjn : j < n
    · have hji : (j : Int) < (n : Int) := by omega
      obtain ⟨g, cap2, hv', _, _⟩ := GR.out.form (by omega)
      injection hv' with ha _ hcap
      subst ha
      subst hcap
      obtain ⟨s, hs⟩ : ∃ s : Int, fs.getD (j * 2) 0 = s := ⟨_, rfl⟩
      obtain ⟨t, ht⟩ : ∃ t : Int, fs.getD (j * 2 + 1) 0 = t := ⟨_, rfl⟩
      have EQ := Lib.hid (show isPr fs x y j = (decide (s = x) && decide (t = y)) by unfold isPr; rw [hs, ht])
      have HS := Lib.hid hs
      have HT := Lib.hid ht
      clear hs ht
      have hiQ : (Try.prog.info? 50).map (·.size) = some (ints [s, t]).length := by kernel_rfl
      replace GH := GH.drew
      replace GR := Lib.hid GR.out.drew
      replace GB := Lib.hid (keptDrew8 GB.out)
      go_wp2_with fail
      refine wp_region_held_drew (S := fun w' => Has w' w.heap.size [x, y] 2 ∧ Rw w' b (.slice (some ⟨g, 0, none⟩) n cap) n fs) (by kernel_rfl) ⟨GH, GR.out⟩ (fun hHeld => ?_)
      (refine wpAnyH_take (i := 0) (v := _) rfl (by kernel_rfl) (by kernel_rfl) (by kernel_rfl) (fun _ _ _ h => h) (yieldsIf_load_mid (by rfl) 50 _ rfl _ _ rfl (ints [x, y]) _ (fun w' hSw => hSw.1.holds.range) Try.underlying50 rfl (hiP)) hHeld ?_; (try simp only [List.getElem_toArray, List.getElem_cons_zero, List.getElem_cons_succ, Act.put, List.setIfInBounds_toArray, List.set_cons_zero, List.set_cons_succ]))
      (refine wpAnyH_take (i := 1) (v := ?_) rfl (by kernel_rfl) (by kernel_rfl) (by kernel_rfl) (fun _ _ _ h => h) (Or.inl ⟨by rfl, ?_⟩) hHeld ?_; rotate_left; (· (intro w' hSw; go_simp; try with_reducible rfl)); (try simp only [List.getElem_toArray, List.getElem_cons_zero, List.getElem_cons_succ, Act.put, List.setIfInBounds_toArray, List.set_cons_zero, List.set_cons_succ])); (refine wpAnyH_take (i := 2) (v := ?_) rfl (by kernel_rfl) (by kernel_rfl) (by kernel_rfl) (fun _ _ _ h => h) (Or.inl ⟨by rfl, ?_⟩) hHeld ?_; rotate_left; (· (intro w' hSw; go_simp; try with_reducible rfl)); (try simp only [List.getElem_toArray, List.getElem_cons_zero, List.getElem_cons_succ, Act.put, List.setIfInBounds_toArray, List.set_cons_zero, List.set_cons_succ])); (refine wpAnyH_take (i := 3) (v := ?_) rfl (by kernel_rfl) (by kernel_rfl) (by kernel_rfl) (fun _ _ _ h => h) (Or.inl ⟨by rfl, ?_⟩) hHeld ?_; rotate_left; (· (intro w' hSw; go_simp; try with_reducible rfl)); (try simp only [List.getElem_toArray, List.getElem_cons_zero, List.getElem_cons_succ, Act.put, List.setIfInBounds_toArray, List.set_cons_zero, List.set_cons_succ]))
      (refine wpAnyH_take (i := 4) (v := _) rfl (by kernel_rfl) (by kernel_rfl) (by kernel_rfl) (fun _ _ _ h => h) (yieldsIf_load_mid (by rfl) 50 _ rfl _ _ rfl (ints [s, t]) _ (fun w' hSw => range_twoP (hSw.2.cellX (by omega) HS.out) (hSw.2.cellX (by omega) HT.out)) Try.underlying50 rfl (hiQ)) hHeld ?_; (try simp only [List.getElem_toArray, List.getElem_cons_zero, List.getElem_cons_succ, Act.put, List.setIfInBounds_toArray, List.set_cons_zero, List.set_cons_succ]))
      (refine wpAnyH_take (i := 5) (v := .bool (decide ([x, y] = [s, t]))) rfl (by kernel_rfl) (by kernel_rfl) (by kernel_rfl) (fun _ _ _ h => h) (Or.inl ⟨by rfl, ?_⟩) hHeld ?_; (· (intro w' hSw; have q := eqPairT [x, y] [s, t] rfl rfl w'; clear hSw; go_simp; try with_reducible rfl)); (try simp only [List.getElem_toArray, List.getElem_cons_zero, List.getElem_cons_succ, Act.put, List.setIfInBounds_toArray, List.set_cons_zero, List.set_cons_succ]))
      refine wpAnyH_done (by kernel_rfl) ?_ _
      clear hHeld
      by_cases hst : [x, y] = [s, t]
      · injection hst with h1 h2
        injection h2 with h2 _
        subst h1
        subst h2
        have F := Lib.hid (show FoundP fs n x y (j : Int) from .inr ⟨by omega, List.any_eq_true.2 ⟨j, List.mem_range.2 hjn, by rw [EQ.out]; simp⟩⟩)
        have q1 : decide ([x, y] = [x, y]) = true := decide_eq_true rfl
        rw [q1]
        clear q1
        go_wp2_with fail
        go_ret
        exact ⟨⟨_, rfl, F.out⟩, GB.out⟩
      · have q1 : decide ([x, y] = [s, t]) = false := decide_eq_false hst
        rw [q1]
        have A2 := Lib.hid (show ∀ t', t' < j + 1 → isPr fs x y t' = false from fun t' ht => by
          by_cases e : t' = j
          · subst e
            rw [EQ.out]
            cases hb : (decide (s = x) && decide (t = y)) with
            | false => rfl
            | true =>
              simp only [Bool.and_eq_true, decide_eq_true_eq] at hb
              exact absurd (by rw [hb.1, hb.2]) hst
          · exact GA.out t' (by omega))
        clear q1 hst
        go_wp2_with fail
        go_roundw
        case rel => exact ⟨j + 1, by omega, by go_num, GH, GR, GB, A2⟩
        case measure => simp [intOf]; omega
    · obtain rfl : j = n := by omega
      have F := Lib.hid (show FoundP fs j x y (-1) from .inl ⟨rfl, List.any_eq_false.2 fun t ht => by rw [GA.out t (List.mem_range.1 ht)]; decide⟩)
      go_wp2_with fail
      go_ret
      exact ⟨⟨-1, rfl, F.out⟩, GB.out⟩

set_option maxHeartbeats 800000 in
theorem containsP_any (fs : List Int) (x y : Int) (b n : Nat) (v : Value) (w : World) (hn : n ≤ 1000) (h : Rw w b v n fs) :
    Calls Try.prog 31 #[v, .agg (ints [x, y]).toArray] w fun e w' => e = .returned (.bool (hasP fs n x y)) ∧ Kept w w' := by
  have B0 := Has.box (ns := [x, y]) (n := 2) w 50 rfl (by omega)
  have R0 := Lib.hid (h.alloc (.cells (ints [x, y]).toArray 50))
  have K0 := Lib.hid ((kept_refl w).alloc (.cells (ints [x, y]).toArray 50))
  clear h
  go_enter Try.func31, Try.ntmps31
  go_wp2_with (refine load_has rfl 50 _ rfl _ rfl ?_ 2 ?_ _ Try.underlying50 rfl ?_ ?_; rotate_left; (· (repeat (first | (with_reducible assumption) | ((with_reducible refine Has.box _ _ ?_ ?_) <;> (first | assumption | decide)) | (with_reducible refine Has.alloc ?_ _) | ((with_reducible refine Has.putOther ?_ _ _ ?_); rotate_left; omega; skip) | ((with_reducible refine Has.below ?_ ?_); rotate_left; assumption)))); (· kernel_rfl))
  refine (indexP_any fs x y b n v _ hn R0.out).mono ?_
  rintro e w1 ⟨⟨z, rfl, hz⟩, b1⟩
  have K1 := Lib.hid (K0.out.call b1)
  clear B0 R0 K0 b1
  rcases hz with ⟨rfl, hz⟩ | ⟨hz0, hz⟩
  · have V := Lib.hid hz
    clear hz
    go_wp2_with fail
    go_ret
    exact ⟨ret_bool (by rw [V.out]), K1.out⟩
  · have V := Lib.hid hz
    have q1 : decide (0 ≤ z) = true := decide_eq_true hz0
    have q2 : decide (z ≥ 0) = true := decide_eq_true hz0
    clear hz hz0
    go_wp2_with fail
    go_ret
    exact ⟨ret_bool (by rw [V.out]), K1.out⟩
end Go.Proofs.Ytcedpjjfcfeokab.base
