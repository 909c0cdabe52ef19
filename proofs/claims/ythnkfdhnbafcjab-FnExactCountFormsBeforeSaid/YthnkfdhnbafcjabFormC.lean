/-
  The form of a rack, walked on the program's side: a row of tubes is sorted by the library's slices.SortFunc.
-/
import Derived.Test.YthnkfdhnbafcjabFormS
import Derived.Test.YthnkfdhnbafcjabLaySort
import Derived.Shelf.SlSortCmp.SmallK
namespace Go.Proofs.Ythnkfdhnbafcjab.base
open Go.ChangeShapes Go.WideShapes Go.ChangeAt Go.RowKit
set_option linter.unusedVariables false
set_option linter.unusedSimpArgs false

def cmpI (x y : Int) : Int := if x < y then -1 else if y < x then 1 else 0
def cmpL : List Int → List Int → Int
  | a :: r, b :: s => if cmpI a b = 0 then cmpL r s else cmpI a b
  | _, _ => 0
theorem cmpI_lt {x y : Int} (h : x < y) : cmpI x y = -1 := by unfold cmpI; rw [if_pos h]
theorem cmpI_gt {x y : Int} (h : y < x) : cmpI x y = 1 := by unfold cmpI; rw [if_neg (by omega), if_pos h]
theorem cmpI_eq (x : Int) : cmpI x x = 0 := by unfold cmpI; rw [if_neg (by omega), if_neg (by omega)]
theorem cmpL_lex : ∀ s t : List Int, s.length = t.length → decide (cmpL s t < 0) = lexB s t
  | [], [], _ => rfl
  | [], b :: t, h => by simp at h
  | a :: s, [], h => by simp at h
  | a :: s, b :: t, h => by
    rw [cmpL, lexB]
    by_cases e : a = b
    · subst e
      rw [cmpI_eq, if_pos rfl, if_pos rfl]; exact cmpL_lex s t (by simpa using h)
    · rw [if_neg e]
      by_cases l : a < b
      · rw [cmpI_lt l]; simp [l]
      · rw [cmpI_gt (by omega)]; simp [l]
theorem cmp_at (s t : List Int) (k : Nat) (h1 : k < s.length) (h2 : k < t.length) : cmpL (s.drop k) (t.drop k) = if cmpI (s.getD k 0) (t.getD k 0) = 0 then cmpL (s.drop (k + 1)) (t.drop (k + 1)) else cmpI (s.getD k 0) (t.getD k 0) := by
  rw [List.drop_eq_getElem_cons h1, List.drop_eq_getElem_cons h2, cmpL, List.getD_eq_getElem?_getD, List.getD_eq_getElem?_getD, List.getElem?_eq_getElem h1, List.getElem?_eq_getElem h2]; rfl

theorem isNaN_any (x : Int) (w : World) : Calls Try.prog 113 #[.int .i64 x] w fun e w' => e = .returned (.bool false) ∧ w' = w := by
  go_enter Try.func113, Try.ntmps113
  go_wp2_with fail
  go_ret
  exact ⟨rfl, rfl⟩

theorem cmpInt_any (x y : Int) (w : World) : Calls Try.prog 95 #[.int .i64 x, .int .i64 y] w fun e w' => e = .returned (.int .i64 (cmpI x y)) ∧ w' = w := by
  have HN := Lib.hid (fun z => isNaN_any z w)
  by_cases h1 : x < y
  · have C := Lib.hid (cmpI_lt h1)
    have g1 : decide (x < y) = true := by simpa using h1
    clear h1
    go_enter Try.func95, Try.ntmps95
    go_wp2_with fail
    refine (HN.out _).mono ?_
    rintro e w' ⟨rfl, rfl⟩
    go_wp2_with fail
    refine (HN.out _).mono ?_
    rintro e w' ⟨rfl, rfl⟩
    go_wp2_with fail
    go_ret
    exact ⟨by rw [C.out]; rfl, rfl⟩
  · have g1 : decide (x < y) = false := by simpa using h1
    by_cases h2 : y < x
    · have C := Lib.hid (cmpI_gt h2)
      have g2 : decide (y < x) = true := by simpa using h2
      clear h1 h2
      go_enter Try.func95, Try.ntmps95
      go_wp2_with fail
      refine (HN.out _).mono ?_
      rintro e w' ⟨rfl, rfl⟩
      go_wp2_with fail
      refine (HN.out _).mono ?_
      rintro e w' ⟨rfl, rfl⟩
      go_wp2_with fail
      go_ret
      exact ⟨by rw [C.out]; rfl, rfl⟩
    · obtain rfl : x = y := by omega
      have C := Lib.hid (cmpI_eq x)
      have g2 : decide (x < x) = false := by simp
      clear h1 h2
      go_enter Try.func95, Try.ntmps95
      go_wp2_with fail
      refine (HN.out _).mono ?_
      rintro e w' ⟨rfl, rfl⟩
      go_wp2_with fail
      refine (HN.out _).mono ?_
      rintro e w' ⟨rfl, rfl⟩
      go_wp2_with fail
      go_ret
      exact ⟨by rw [C.out]; rfl, rfl⟩

set_option maxHeartbeats 800000 in
theorem compare_any (p q : Nat) (s t : List Int) (w : World) (h1 : Has w p s 4) (h2 : Has w q t 4) :
    Calls Try.prog 75 #[.slice (some ⟨p, 0, none⟩) 4 4, .slice (some ⟨q, 0, none⟩) 4 4] w fun e w' => e = .returned (.int .i64 (cmpL s t)) ∧ w' = w := by
  have hs := h1.len
  have ht := h2.len
  have CA := Lib.hid (fun k (hk : k < 4) => cmp_at s t k (by omega) (by omega))
  have C4 : Hid (cmpL (s.drop 4) (t.drop 4) = 0) := Lib.hid (by rw [List.drop_of_length_le (by omega), List.drop_of_length_le (by omega)]; rfl)
  have HC := Lib.hid (fun x y => cmpInt_any x y w)
  have H1 := Lib.hid h1
  have H2 := Lib.hid h2
  clear h1 h2 hs ht
  go_enter Try.func75, Try.ntmps75
  go_wp2_with fail
  go_loopw [11] (fun z wr => ∃ k : Nat, k ≤ 4 ∧ z = .int .i64 k ∧ Hid (cmpL s t = cmpL (s.drop k) (t.drop k)) ∧ w = wr) (fun z _ => 4 - (intOf z).toNat)
  case atStart => exact ⟨0, by omega, rfl, Lib.hid rfl, rfl⟩
  case round =>
    obtain ⟨k, hk, rfl, GC, rfl⟩ := hrel
    by_cases h : k < 4
    · have c1 := H1.out.cell k h
      have c2 := H2.out.cell k h
      have hki : (k : Int) < 4 := by omega
      have hk0 : (0 : Int) ≤ (k : Int) := by omega
      have g1 : decide ((4 : Int) ≤ (k : Int)) = false := by simp; omega
      have CK := Lib.hid (CA.out k h)
      generalize s.getD k 0 = x at *
      generalize t.getD k 0 = y at *
      go_wp2_with fail
      refine (HC.out x y).mono ?_
      rintro e w' ⟨rfl, rfl⟩
      generalize cmpI x y = c at *
      by_cases e : c = 0
      · have C2 : Hid (cmpL s t = cmpL (s.drop (k + 1)) (t.drop (k + 1))) := Lib.hid (by rw [GC.out, CK.out, if_pos e])
        have e1 : (c != 0) = false := by simp [e]
        clear e
        go_wp2_with fail
        go_roundw
        case rel => exact ⟨k + 1, by omega, by go_num, C2, by first | trivial | rfl⟩
        case measure => simp [intOf]; omega
      · have C2 : Hid (cmpL s t = c) := Lib.hid (by rw [GC.out, CK.out, if_neg e])
        have e1 : (c != 0) = true := by simp [e]
        clear e
        go_wp2_with fail
        go_ret
        exact ⟨by rw [C2.out]; rfl, rfl⟩
    · obtain rfl : k = 4 := by omega
      have C2 : Hid (cmpL s t = 0) := Lib.hid (by rw [GC.out, C4.out])
      go_wp2_with fail
      go_ret
      exact ⟨by rw [C2.out]; rfl, rfl⟩

set_option maxHeartbeats 800000 in
theorem cmpTubes_any (s t : List Int) (W : World) (hs : s.length = 4) (ht : t.length = 4) :
    Calls Try.prog 74 #[.agg (ints s).toArray, .agg (ints t).toArray] W fun e w' => e = .returned (.int .i64 (cmpL s t)) ∧ ∃ q os', w' = Go.Sort.grow (W.drewN q) os' := by
  have H1 := (Has.box W 22 hs (by omega)).alloc (.cells (ints t).toArray 22)
  have H2 := (Has.box (W.alloc (.cells (ints s).toArray 22)) 22 ht (by omega)).at (size1 _ _)
  go_enter Try.func74, Try.ntmps74
  go_wp2_with fail
  refine wp_region_held_drew (S := fun w' => w' = ((W.alloc (.cells (ints s).toArray 22)).alloc (.cells (ints t).toArray 22)).drew) (by kernel_rfl) rfl (fun hHeld => ?_)
  (refine wpAnyH_take (i := 0) (v := ?_) rfl (by kernel_rfl) (by kernel_rfl) (by kernel_rfl) (fun _ _ _ h => h) (Or.inl ⟨by rfl, ?_⟩) hHeld ?_; rotate_left; (· (intro w' hSw; go_simp; try with_reducible rfl)); (try simp only [List.getElem_toArray, List.getElem_cons_zero, List.getElem_cons_succ, Act.put, List.setIfInBounds_toArray, List.set_cons_zero, List.set_cons_succ])); (refine wpAnyH_take (i := 1) (v := ?_) rfl (by kernel_rfl) (by kernel_rfl) (by kernel_rfl) (fun _ _ _ h => h) (Or.inl ⟨by rfl, ?_⟩) hHeld ?_; rotate_left; (· (intro w' hSw; go_simp; try with_reducible rfl)); (try simp only [List.getElem_toArray, List.getElem_cons_zero, List.getElem_cons_succ, Act.put, List.setIfInBounds_toArray, List.set_cons_zero, List.set_cons_succ]))
  (refine wpAnyH_ready (rs := [2]) (by kernel_rfl) (by simp) ?_; refine AllReadyH.cons (o := _) rfl (fun K hK => ?_) AllReadyH.nil; (simp only [List.getElem_toArray, List.getElem_cons_zero, List.getElem_cons_succ, Region.wanted, if_true]))
  go_simp
  refine (compare_any W.heap.size (W.heap.size + 1) s t _ H1.drew H2.drew).mono ?_
  rintro e w2 ⟨rfl, rfl⟩
  dsimp only
  (try simp only [List.getElem_toArray, List.getElem_cons_zero, List.getElem_cons_succ, Act.put, List.setIfInBounds_toArray, List.set_cons_zero, List.set_cons_succ])
  refine hK.out _ _ rfl (fun hHeld => ?_)
  clear hK K
  (refine wpAnyH_take (i := 3) (v := ?_) rfl (by kernel_rfl) (by kernel_rfl) (by kernel_rfl) (fun _ _ _ h => h) (Or.inl ⟨by rfl, ?_⟩) hHeld ?_; rotate_left; (· (intro w' hSw; go_simp; try with_reducible rfl)); (try simp only [List.getElem_toArray, List.getElem_cons_zero, List.getElem_cons_succ, Act.put, List.setIfInBounds_toArray, List.set_cons_zero, List.set_cons_succ]))
  refine wpAnyH_done (by kernel_rfl) ?_ _
  go_wp2_with fail
  go_ret
  exact ⟨rfl, 1, _, by rw [Go.Sort.alloc_eq_grow, Go.Sort.alloc_eq_grow, Go.Sort.grow_grow]; rfl⟩

theorem len64_any (n : Nat) (W : World) (h : n ≤ 12) : Calls Try.prog 93 #[.int .u64 (n : Int)] W fun e w' => (∃ l : Int, e = .returned (.int .i64 l)) ∧ w' = W := by
  have hn : n = 0 ∨ n = 1 ∨ n = 2 ∨ n = 3 ∨ n = 4 ∨ n = 5 ∨ n = 6 ∨ n = 7 ∨ n = 8 ∨ n = 9 ∨ n = 10 ∨ n = 11 ∨ n = 12 := by omega
  clear h
  rcases hn with rfl | rfl | rfl | rfl | rfl | rfl | rfl | rfl | rfl | rfl | rfl | rfl | rfl
  all_goals
    go_enter Try.func93, Try.ntmps93
    go_wp2_with fail
    go_ret
    exact ⟨⟨_, rfl⟩, rfl⟩
theorem bitsLen_any (n : Nat) (W : World) (h : n ≤ 12) : Calls Try.prog 69 #[.int .u64 (n : Int)] W fun e w' => (∃ l : Int, e = .returned (.int .i64 l)) ∧ w' = W := by
  have HL := Lib.hid (len64_any n W h)
  clear h
  go_enter Try.func69, Try.ntmps69
  go_wp2_with fail
  refine HL.out.mono ?_
  rintro e w' ⟨⟨l, rfl⟩, rfl⟩
  go_wp2_with fail
  go_ret
  exact ⟨⟨_, rfl⟩, rfl⟩
end Go.Proofs.Ythnkfdhnbafcjab.base
