/-
  Whether a pour's moved number is not the same for all candidates, on the program's side, walked.
-/
/-
  Whether a pour's moved number is not the same for all candidates, on the program's side: the method.
-/
import Derived.Test.YtcedpjjfcfeokabMovWZ

section
namespace Go.Proofs.Ytcedpjjfcfeokab.base
open Go.ChangeShapes Go.WideShapes Go.ChangeAt Go.RowKit
set_option linter.unusedVariables false
set_option linter.unusedSimpArgs false

def uncP (t1 x : Int) : Bool := x != 0 && x != t1
set_option maxHeartbeats 400000 in
theorem isUnc1_any (x t1 : Int) (s g n cap : Nat) (w : World) (hn : 0 < n) (hs : w.cell? ⟨s, 0, none⟩ = some (.slice (some ⟨g, 0, none⟩) n cap)) (hg : w.cell? ⟨g, 0, none⟩ = some (.int .i64 t1)) :
    Calls Try.prog 73 #[.int .i64 x, .pointer (some ⟨s, 0, none⟩)] w fun e w' => e = .returned (.bool (uncP t1 x)) ∧ w' = w := by
  have n0 : (0 : Int) < (n : Int) := by omega
  go_enter Try.func73, Try.ntmps73
  by_cases h0 : x = 0
  · have E := Lib.hid (show uncP t1 0 = false from rfl)
    subst h0
    go_wp2_with fail
    go_ret
    exact ⟨by rw [E.out]; rfl, rfl⟩
  · have d0 : (x == 0) = false := by simpa using h0
    have d1 : decide (x = 0) = false := decide_eq_false h0
    go_wp2_with fail
    go_ret
    exact ⟨rfl, rfl⟩
set_option maxHeartbeats 800000 in
theorem indexUnc_any (fs : List Int) (t1 : Int) (s g n cap : Nat) (w : World) (hn : 0 < n) (hn4 : n ≤ 4) (hs : w.cell? ⟨s, 0, none⟩ = some (.slice (some ⟨g, 0, none⟩) n cap)) (hg : ∀ k, k < n → w.cell? ⟨g, k, none⟩ = some (.int .i64 (fs.getD k 0))) (ht : fs.getD 0 0 = t1) :
    Calls Try.prog 91 #[.slice (some ⟨g, 0, none⟩) n cap, .func (Fn.func 73) #[] #[.pointer (some ⟨s, 0, none⟩)]] w fun e w' => (∃ z : Int, e = .returned (.int .i64 z) ∧ ((z = -1 ∧ ∀ j, j < n → uncP t1 (fs.getD j 0) = false) ∨ (0 ≤ z ∧ z ≤ 100 ∧ ∃ j, j < n ∧ uncP t1 (fs.getD j 0) = true))) ∧ w' = w := by
  have K := Lib.hid (fun x => isUnc1_any x t1 s g n cap w hn hs (by rw [hg 0 hn, ht]))
  have HG := Lib.hid hg
  clear hs hg ht
  go_enter Try.func91, Try.ntmps91
  go_wp2_with fail
  go_loopg [8] n (fun gk i wr => ∃ j : Nat, gk = n - j ∧ j ≤ n ∧ i = .int .i64 j ∧ wr = w ∧ Hid (∀ t, t < j → uncP t1 (fs.getD t 0) = false))
  case atStart => exact ⟨0, rfl, by omega, rfl, rfl, Lib.hid (fun t ht => by omega)⟩
  case round =>
    obtain ⟨j, rfl, hj, rfl, rfl, GA⟩ := hrel
    by_cases hjn : j < n
    · have hji : (j : Int) < (n : Int) := by omega
      have c0 := HG.out j hjn
      have FB := Lib.hid (fun (h1 : uncP t1 (fs.getD j 0) = true) => (show 0 ≤ (j : Int) ∧ (j : Int) ≤ 100 ∧ ∃ j, j < n ∧ uncP t1 (fs.getD j 0) = true from ⟨by omega, by omega, j, hjn, h1⟩))
      have GA2 := Lib.hid (fun (h1 : uncP t1 (fs.getD j 0) = false) => (show ∀ t, t < j + 1 → uncP t1 (fs.getD t 0) = false from fun t ht => by
        by_cases e : t = j
        · subst e; exact h1
        · exact GA.out t (by omega)))
      have DK := Lib.hid (show n - (j + 1) < n - j by omega)
      generalize fs.getD j 0 = x at *
      clear hjn
      go_wp2_with fail
      refine (K.out x).mono ?_
      rintro e w1 ⟨rfl, rfl⟩
      cases hu : uncP t1 x with
      | true =>
        have F2 := Lib.hid (FB.out hu)
        clear hu
        go_wp2_with fail
        go_ret
        exact ⟨⟨_, rfl, .inr F2.out⟩, rfl⟩
      | false =>
        have A2 := Lib.hid (GA2.out hu)
        clear hu
        go_wp2_with fail
        go_roundg (n - (j + 1))
        case rel => exact ⟨j + 1, rfl, by omega, by go_num, rfl, A2⟩
        case measure => exact DK.out
    · obtain rfl : j = n := by omega
      go_wp2_with fail
      go_ret
      exact ⟨⟨-1, rfl, .inl ⟨rfl, GA.out⟩⟩, rfl⟩

set_option maxHeartbeats 800000 in
theorem containsUnc_any (fs : List Int) (t1 : Int) (s g n cap : Nat) (w : World) (hn : 0 < n) (hn4 : n ≤ 4) (hs : w.cell? ⟨s, 0, none⟩ = some (.slice (some ⟨g, 0, none⟩) n cap)) (hg : ∀ k, k < n → w.cell? ⟨g, k, none⟩ = some (.int .i64 (fs.getD k 0))) (ht : fs.getD 0 0 = t1) :
    Calls Try.prog 72 #[.slice (some ⟨g, 0, none⟩) n cap, .func (Fn.func 73) #[] #[.pointer (some ⟨s, 0, none⟩)]] w fun e w' => e = .returned (.bool ((List.range n).any fun j => uncP t1 (fs.getD j 0))) ∧ w' = w := by
  have K := Lib.hid (indexUnc_any fs t1 s g n cap w hn hn4 hs hg ht)
  clear hs hg ht
  go_enter Try.func72, Try.ntmps72
  go_wp2_with fail
  refine K.out.mono ?_
  rintro e w1 ⟨⟨z, rfl, hz⟩, rfl⟩
  rcases hz with ⟨rfl, hz⟩ | ⟨z0, z1, j, hj, hz⟩
  · have E := Lib.hid (show ((List.range n).any fun j => uncP t1 (fs.getD j 0)) = false from List.any_eq_false.2 fun j hj => by rw [hz j (List.mem_range.1 hj)]; decide)
    clear hz
    go_wp2_with fail
    go_ret
    exact ⟨by rw [E.out]; rfl, rfl⟩
  · have E := Lib.hid (show ((List.range n).any fun j => uncP t1 (fs.getD j 0)) = true from List.any_eq_true.2 ⟨j, List.mem_range.2 hj, hz⟩)
    have dz : decide (0 ≤ z) = true := decide_eq_true z0
    clear hz
    go_wp2_with fail
    go_ret
    exact ⟨by rw [E.out]; rfl, rfl⟩
end Go.Proofs.Ytcedpjjfcfeokab.base
end

section
namespace Go.Proofs.Ytcedpjjfcfeokab.base
open Go.ChangeShapes Go.WideShapes Go.ChangeAt Go.RowKit
set_option linter.unusedVariables false
set_option linter.unusedSimpArgs false

set_option maxHeartbeats 800000 in
set_option maxRecDepth 100000 in
theorem isUncertain_any (vs : List Int) (p q m c mj n : Nat) (w : World) (h : vs.length = 18) (hv : vV vs = true) (hp : p < 6) (hq : q < 6) (T : TopFacts vs p m c) (hm : vMany vs q = (mj : Int)) (hn : n + mj = 4) (n1 : 1 ≤ n) :
    Calls Try.prog 49 #[row vs, .agg (ints [(p : Int), (q : Int)]).toArray] w fun e w' => e = .returned (.bool (uncT (longN vs p) n)) ∧ Kept w w' := by
  have HB := Lib.hid (((kept_refl w).alloc (.cells (ints vs).toArray 44)).alloc (.cells (ints [(p : Int), (q : Int)]).toArray 50))
  have H := (Has.box w 44 h (by omega)).alloc (.cells (ints [(p : Int), (q : Int)]).toArray 50)
  have B := (Has.box (ns := [(p : Int), (q : Int)]) (n := 2) (w.alloc (.cells (ints vs).toArray 44)) 50 rfl (by omega)).at (size1 _ _)
  have cc0 := B.cellX (k := 0) (x := (p : Int)) (by omega) rfl
  have cc1 := B.cellX (k := 1) (x := (q : Int)) (by omega) rfl
  have KM := Lib.hid (fun W => movers_any vs p q m c mj n W h hv hp hq T hm hn)
  have n4 : n ≤ 4 := by omega
  have EU := Lib.hid (show ((List.range n).any fun j => uncP ((longN vs p 1 : Nat) : Int) ((movL vs p n).getD j 0)) = uncT (longN vs p) n by
    unfold uncT
    rw [Bool.eq_iff_iff, List.any_eq_true, List.any_eq_true]
    constructor
    · rintro ⟨j, hj, hx⟩
      rw [movL_getD vs p n j (List.mem_range.1 hj)] at hx
      refine ⟨j, hj, ?_⟩
      unfold uncP at hx
      simp at hx ⊢
      omega
    · rintro ⟨j, hj, hx⟩
      refine ⟨j, hj, ?_⟩
      rw [movL_getD vs p n j (List.mem_range.1 hj)]
      unfold uncP
      simp at hx ⊢
      omega)
  have E1 := Lib.hid (movL_getD vs p n 0 (by omega))
  rw [row_ints]
  clear hv T hm
  go_enter Try.func49, Try.ntmps49
  go_wp2_with (refine load_has rfl 44 _ rfl _ rfl ?_ 18 ?_ _ Try.underlying44 rfl ?_ ?_; rotate_left; (· (repeat (first | (with_reducible assumption) | ((with_reducible refine Has.box _ _ ?_ ?_) <;> (first | assumption | decide)) | (with_reducible refine Has.alloc ?_ _) | ((with_reducible refine Has.putOther ?_ _ _ ?_); rotate_left; omega; skip) | ((with_reducible refine Has.below ?_ ?_); rotate_left; assumption)))); (· kernel_rfl))
  refine (KM.out _).mono ?_
  rintro e w2 ⟨g, cap, rfl, GN, b2⟩
  have HB2 := Lib.hid (HB.out.call b2)
  have N3 := GN.alloc (.cells #[.slice (some ⟨g, 0, none⟩) n cap] 103)
  have hs : (w2.alloc (.cells #[.slice (some ⟨g, 0, none⟩) n cap] 103)).cell? ⟨w2.heap.size, 0, none⟩ = some (.slice (some ⟨g, 0, none⟩) n cap) := by simp
  have KC := Lib.hid (containsUnc_any (movL vs p n) ((longN vs p 1 : Nat) : Int) w2.heap.size g n cap _ (by omega) n4 hs (fun k hk => N3.cell k hk) E1.out)
  have HB3 := Lib.hid (HB2.out.alloc (.cells #[.slice (some ⟨g, 0, none⟩) n cap] 103))
  clear H B cc0 cc1 HB b2 KM GN N3 HB2
  go_upto_region 2 with fail
  generalize w2.alloc (.cells #[.slice (some ⟨g, 0, none⟩) n cap] 103) = W3 at *
  generalize w2.heap.size = s at *
  go_wp2_with fail
  refine KC.out.mono ?_
  rintro e w3 ⟨rfl, rfl⟩
  rw [EU.out]
  clear KC hs
  go_wp2_with fail
  go_ret
  exact ⟨rfl, HB3.out⟩
end Go.Proofs.Ytcedpjjfcfeokab.base
end
