/-
  Depths, and racks that are valid for them, on both sides, walked.
-/
import Derived.Test.YtcedpjjfcfeokabOthM
import Derived.Test.YtcedpjjfcfeokabSixV
import Derived.Test.YtcedpjjfcfeokabSpecW
namespace Go.Proofs.Ytcedpjjfcfeokab.base
open Go.ChangeShapes Go.WideShapes Go.ChangeAt Go.RowKit
set_option linter.unusedVariables false
set_option linter.unusedSimpArgs false

def loUp (xs : List Int) : Nat → Int
  | 0 => xs.getD 0 0
  | k + 1 => min (loUp xs k) (xs.getD (k + 1) 0)
def hiUp (xs : List Int) : Nat → Int
  | 0 => xs.getD 0 0
  | k + 1 => max (hiUp xs k) (xs.getD (k + 1) 0)
theorem lo_iff (xs : List Int) (a : Int) : ∀ k, a ≤ loUp xs k ↔ ∀ i, i ≤ k → a ≤ xs.getD i 0
  | 0 => by
    rw [loUp]
    exact ⟨fun h i hi => by obtain rfl : i = 0 := by omega
                            exact h, fun h => h 0 (Nat.le_refl 0)⟩
  | k + 1 => by
    have ih := lo_iff xs a k
    rw [loUp]
    constructor
    · intro h i hi
      have h1 : a ≤ loUp xs k := by omega
      have h2 : a ≤ xs.getD (k + 1) 0 := by omega
      by_cases e : i = k + 1
      · subst e; exact h2
      · exact ih.1 h1 i (by omega)
    · intro h
      have h1 := ih.2 fun i hi => h i (by omega)
      have h2 := h (k + 1) (Nat.le_refl _)
      omega
theorem hi_iff (xs : List Int) (a : Int) : ∀ k, hiUp xs k ≤ a ↔ ∀ i, i ≤ k → xs.getD i 0 ≤ a
  | 0 => by
    rw [hiUp]
    exact ⟨fun h i hi => by obtain rfl : i = 0 := by omega
                            exact h, fun h => h 0 (Nat.le_refl 0)⟩
  | k + 1 => by
    have ih := hi_iff xs a k
    rw [hiUp]
    constructor
    · intro h i hi
      have h1 : hiUp xs k ≤ a := by omega
      have h2 : xs.getD (k + 1) 0 ≤ a := by omega
      by_cases e : i = k + 1
      · subst e; exact h2
      · exact ih.1 h1 i (by omega)
    · intro h
      have h1 := ih.2 fun i hi => h i (by omega)
      have h2 := h (k + 1) (Nat.le_refl _)
      omega
theorem vD_lohi (ds : List Int) : vD ds = (decide (1 ≤ loUp ds 5) && decide (hiUp ds 5 ≤ 4)) := by
  rw [Bool.eq_iff_iff, Bool.and_eq_true, decide_eq_true_eq, decide_eq_true_eq, lo_iff, hi_iff]
  unfold vD
  rw [List.all_eq_true]
  constructor
  · intro h
    refine ⟨fun i hi => (of_decide_eq_true (h i (List.mem_range.2 (by omega)))).1, fun i hi => (of_decide_eq_true (h i (List.mem_range.2 (by omega)))).2⟩
  · rintro ⟨h1, h2⟩ i hi
    have := List.mem_range.1 hi
    exact decide_eq_true ⟨h1 i (by omega), h2 i (by omega)⟩

set_option maxHeartbeats 800000 in
theorem min6_any (xs : List Int) (b : Nat) (w : World) (H : Has w b xs 6) :
    Calls Try.prog 92 #[.slice (some ⟨b, 0, none⟩) 6 6] w fun e w' => e = .returned (.int .i64 (loUp xs 5)) ∧ w' = w := by
  have c0 := H.cell 0 (by omega)
  have E0 : Hid (loUp xs 0 = xs.getD 0 0) := Lib.hid rfl
  have HH := Lib.hid H
  clear H
  rw [← E0.out] at c0
  go_enter Try.func92, Try.ntmps92
  go_wp2_with fail
  go_loop [3, 4] (fun m i => ∃ c : Nat, c ≤ 5 ∧ i = .int .i64 ((c + 1 : Nat) : Int) ∧ m = .int .i64 (loUp xs c)) (fun _ z => 6 - (intOf z).toNat)
  case atStart => exact ⟨0, by omega, rfl, rfl⟩
  case round =>
    obtain ⟨c, hc, rfl, rfl⟩ := hrel
    by_cases hc4 : c < 5
    · have hci : ((c + 1 : Nat) : Int) < 6 := by omega
      have hci2 : (c : Int) + 1 < 6 := by omega
      have hc0 := HH.out.cell (c + 1) (by omega)
      have EN : Hid (loUp xs (c + 1) = min (loUp xs c) (xs.getD (c + 1) 0)) := Lib.hid rfl
      generalize xs.getD (c + 1) 0 = x at *
      generalize loUp xs c = y at *
      clear c0
      go_wp2_with fail
      all_goals
        go_round
        case rel => exact ⟨c + 1, by omega, by go_num, by rw [EN.out]; congr 1; omega⟩
        case measure => simp [intOf]; omega
    · obtain rfl : c = 5 := by omega
      go_wp2_with fail
      go_ret
      exact ⟨rfl, rfl⟩
set_option maxHeartbeats 800000 in
theorem max6_any (xs : List Int) (b : Nat) (w : World) (H : Has w b xs 6) :
    Calls Try.prog 93 #[.slice (some ⟨b, 0, none⟩) 6 6] w fun e w' => e = .returned (.int .i64 (hiUp xs 5)) ∧ w' = w := by
  have c0 := H.cell 0 (by omega)
  have E0 : Hid (hiUp xs 0 = xs.getD 0 0) := Lib.hid rfl
  have HH := Lib.hid H
  clear H
  rw [← E0.out] at c0
  go_enter Try.func93, Try.ntmps93
  go_wp2_with fail
  go_loop [3, 4] (fun m i => ∃ c : Nat, c ≤ 5 ∧ i = .int .i64 ((c + 1 : Nat) : Int) ∧ m = .int .i64 (hiUp xs c)) (fun _ z => 6 - (intOf z).toNat)
  case atStart => exact ⟨0, by omega, rfl, rfl⟩
  case round =>
    obtain ⟨c, hc, rfl, rfl⟩ := hrel
    by_cases hc4 : c < 5
    · have hci : ((c + 1 : Nat) : Int) < 6 := by omega
      have hci2 : (c : Int) + 1 < 6 := by omega
      have hc0 := HH.out.cell (c + 1) (by omega)
      have EN : Hid (hiUp xs (c + 1) = max (hiUp xs c) (xs.getD (c + 1) 0)) := Lib.hid rfl
      generalize xs.getD (c + 1) 0 = x at *
      generalize hiUp xs c = y at *
      clear c0
      go_wp2_with fail
      all_goals
        go_round
        case rel => exact ⟨c + 1, by omega, by go_num, by rw [EN.out]; congr 1; omega⟩
        case measure => simp [intOf]; omega
    · obtain rfl : c = 5 := by omega
      go_wp2_with fail
      go_ret
      exact ⟨rfl, rfl⟩

set_option maxHeartbeats 400000 in
theorem implDepths (ds : List Int) (w : World) (h6 : ds.length = 6) :
    Calls Try.prog 81 #[row ds] w fun e w' => e = .returned (.bool (vD ds)) ∧ Kept w w' := by
  have HB := Lib.hid ((kept_refl w).alloc (.cells (ints ds).toArray 26))
  have H := Has.box w 26 h6 (by omega)
  have V := Lib.hid (vD_lohi ds)
  have K1 := Lib.hid (min6_any ds _ _ H)
  have K2 := Lib.hid (max6_any ds _ _ H)
  clear H
  rw [row_ints]
  go_enter Try.func81, Try.ntmps81
  go_wp2_with fail
  refine K1.out.mono ?_
  rintro e w1 ⟨rfl, rfl⟩
  by_cases h : 1 ≤ loUp ds 5
  · have V2 := Lib.hid (show vD ds = decide (hiUp ds 5 ≤ 4) by rw [V.out, decide_eq_true h, Bool.true_and])
    go_wp2_with fail
    refine K2.out.mono ?_
    rintro e w1 ⟨rfl, rfl⟩
    go_wp2_with fail
    go_ret
    exact ⟨ret_bool (by rw [V2.out]), HB.out⟩
  · have V2 := Lib.hid (show vD ds = false by rw [V.out, decide_eq_false h, Bool.false_and])
    have q1 : decide (1 ≤ loUp ds 5) = false := decide_eq_false h
    go_wp2_with fail
    go_ret
    exact ⟨ret_bool (by rw [V2.out]), HB.out⟩

def vDUp (ds : List Int) (k : Nat) : Bool := (List.range k).all fun i => decide (1 ≤ ds.getD i 0 ∧ ds.getD i 0 ≤ 4)
theorem vDUp_succ (ds : List Int) (k : Nat) : vDUp ds (k + 1) = (vDUp ds k && decide (1 ≤ ds.getD k 0 ∧ ds.getD k 0 ≤ 4)) := by
  unfold vDUp; rw [List.range_succ, List.all_append]; simp
theorem vD_stop {ds : List Int} (k : Nat) (hk : k < 6) (h : ¬ (1 ≤ ds.getD k 0 ∧ ds.getD k 0 ≤ 4)) : vD ds = false := by
  cases hb : vD ds with
  | false => rfl
  | true => exact absurd (vD_at hb k hk) h
set_option maxHeartbeats 400000 in
theorem l8Depths_any (ds : List Int) (w : World) (h6 : ds.length = 6) :
    Calls Try.prog 52 #[row ds] w fun e w' => e = .returned (.bool (vD ds)) ∧ Kept w w' := by
  have HB := Lib.hid ((kept_refl w).alloc (.cells (ints ds).toArray 26))
  have H := Has.box w 26 h6 (by omega)
  rw [row_ints]
  go_enter Try.func52, Try.ntmps52
  go_wp2_with fail
  go_loop [3] (fun i => ∃ k : Nat, k ≤ 6 ∧ i = .int .i64 k ∧ Hid (vDUp ds k = true)) (fun i => 6 - (intOf i).toNat)
  case atStart => exact ⟨0, by omega, rfl, Lib.hid rfl⟩
  case round =>
    obtain ⟨k, hk, rfl, HV⟩ := hrel
    by_cases h : k < 6
    · have c0 := H.cell k h
      have hki : (k : Int) < 6 := by omega
      by_cases hx : 1 ≤ ds.getD k 0 ∧ ds.getD k 0 ≤ 4
      · have V2 := Lib.hid (show vDUp ds (k + 1) = true by rw [vDUp_succ, HV.out, decide_eq_true hx]; rfl)
        have D := Lib.hid (decide_eq_true hx)
        clear hx
        generalize ds.getD k 0 = x at *
        go_wp2_with fail
        refine (l1In_any x 1 4 _).mono ?_
        rintro e w1 ⟨rfl, rfl⟩
        rw [D.out]
        go_wp2_with fail
        go_round
        case rel => exact ⟨k + 1, by omega, by go_num, V2⟩
        case measure => simp [intOf]; omega
      · have V2 := Lib.hid (vD_stop k h hx)
        have D := Lib.hid (decide_eq_false hx)
        clear hx
        generalize ds.getD k 0 = x at *
        go_wp2_with fail
        refine (l1In_any x 1 4 _).mono ?_
        rintro e w1 ⟨rfl, rfl⟩
        rw [D.out]
        go_wp2_with fail
        go_ret
        exact ⟨ret_bool (by rw [V2.out]), HB.out⟩
    · obtain rfl : k = 6 := by omega
      have V2 := Lib.hid (show vD ds = true from HV.out)
      go_wp2_with fail
      go_ret
      exact ⟨ret_bool (by rw [V2.out]), HB.out⟩
def manyUp (t : List Int) (k : Nat) : Nat := ((t.take k).filter fun x => decide (0 < x)).length
theorem manyUp_succ (t : List Int) (k : Nat) (hk : k < t.length) : manyUp t (k + 1) = manyUp t k + if 0 < t.getD k 0 then 1 else 0 := by
  unfold manyUp
  have e : t.getD k 0 = t[k] := by rw [List.getD_eq_getElem?_getD, List.getElem?_eq_getElem hk]; rfl
  rw [← List.take_append_getElem hk, List.filter_append, List.length_append, e]
  congr 1
  by_cases h : 0 < t[k]
  · rw [if_pos h, List.filter_cons, if_pos (by simpa using h)]; rfl
  · rw [if_neg h, List.filter_cons, if_neg (by simpa using h)]; rfl
theorem manyUp_all {t : List Int} (h : t.length = 4) : manyUp t 4 = many t := by
  unfold manyUp many; rw [List.take_of_length_le (by omega)]
set_option maxHeartbeats 400000 in
theorem l2ManyM_any (t : List Int) (w : World) (h4 : t.length = 4) :
    Calls Try.prog 50 #[row t] w fun e w' => e = .returned (.int .i64 (many t : Nat)) ∧ Kept w w' := by
  have HB := Lib.hid ((kept_refl w).alloc (.cells (ints t).toArray 22))
  have H := Has.box w 22 h4 (by omega)
  have E := Lib.hid (manyUp_all h4)
  have HS := Lib.hid (fun k hk => manyUp_succ t k hk)
  have HL := Lib.hid h4
  rw [row_ints]
  go_enter Try.func50, Try.ntmps50
  go_wp2_with fail
  go_loop [3, 4] (fun m i => ∃ k q : Nat, k ≤ 4 ∧ i = .int .i64 k ∧ m = .int .i64 q ∧ Hid (q = manyUp t k) ∧ q ≤ k) (fun _ i => 4 - (intOf i).toNat)
  case atStart => exact ⟨0, 0, by omega, rfl, rfl, Lib.hid (by unfold manyUp; rfl), by omega⟩
  case round =>
    obtain ⟨k, q, hk, rfl, rfl, HQ, hq4⟩ := hrel
    by_cases h : k < 4
    · have c0 := H.cell k h
      have f0 := HS.out k (by have := HL.out; omega)
      generalize t.getD k 0 = x at *
      by_cases hl : 0 < x
      · have R := Lib.hid (show q + 1 = manyUp t (k + 1) by rw [f0, if_pos hl, HQ.out])
        clear f0
        go_wp2_with fail
        go_round
        case rel => exact ⟨k + 1, q + 1, by omega, by go_num, by go_num, R, by omega⟩
        case measure => simp [intOf]; omega
      · have p0 : decide (0 < x) = false := decide_eq_false hl
        have R := Lib.hid (show q = manyUp t (k + 1) by rw [f0, if_neg hl, HQ.out]; rfl)
        clear f0
        go_wp2_with fail
        go_round
        case rel => exact ⟨k + 1, q, by omega, by go_num, rfl, R, by omega⟩
        case measure => simp [intOf]; omega
    · obtain rfl : k = 4 := by omega
      have E2 := Lib.hid (show q = many t by rw [HQ.out, E.out])
      go_wp2_with fail
      go_ret
      exact ⟨ret_int (by rw [E2.out]), HB.out⟩
end Go.Proofs.Ytcedpjjfcfeokab.base
