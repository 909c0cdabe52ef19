/-
  Which pours are possible, on both sides, walked.
-/
/-
  Whether one can pour, on the program's side, walked.
-/
import Derived.Test.YtglhinihhlmgeacDoors
import Derived.Deep.RegionHeld3

section
namespace Go.Proofs.Ytglhinihhlmgeac.base
open Go.ChangeShapes Go.WideShapes Go.ChangeAt Go.RowKit
set_option linter.unusedVariables false
set_option linter.unusedSimpArgs false

theorem canN_pos {s t : List Int} (hs : s.length = 4) (ht : t.length = 4) (vs : vT s = true) (vt : vT t = true) :
    0 < canN s t ↔ 0 < topN s ∧ lay t < 4 ∧ (topC t = 0 ∨ topC t = topC s) := by
  have FT := tubeFacts ht vt
  have h1 := FT.none
  have h2 := FT.noneC
  have h4 := FT.lay4
  unfold canN
  by_cases h0 : lay t = 0
  · rw [if_neg (by omega)]
    have : topC t = 0 := h2.2 (h1.1 h0)
    simp only [this, true_or, and_true]; omega
  · by_cases hc : topC t = topC s
    · rw [if_neg (by omega)]
      simp only [hc, or_true, and_true]; omega
    · rw [if_pos ⟨h0, hc⟩]
      have : topC t ≠ 0 := fun h => h0 (h1.2 (h2.1 h))
      simp [hc, this]

set_option maxHeartbeats 800000 in
theorem l2Can_any (ns : List Int) (p q : Nat) (w : World) (h24 : ns.length = 24) (hv : vR ns = true) (hp : p < 6) (hq : q < 6) :
    Calls Try.prog 70 #[row ns, .int .i64 (p : Nat), .int .i64 (q : Nat)] w fun e w' => e = .returned (.bool (decide (p ≠ q ∧ 0 < canN (tub ns p) (tub ns q)))) ∧ Kept w w' := by
  have HB := Lib.hid ((kept_refl w).alloc (.cells (ints ns).toArray 27))
  have H := Has.box w 27 h24 (by omega)
  have sp := tub_len ns p h24 hp
  have sq := tub_len ns q h24 hq
  have vp := vR_tub hv p hp
  have vq := vR_tub hv q hq
  have HC := Lib.hid (canN_pos sp sq vp vq)
  have hpi : (p : Int) < 6 := by omega
  have hqi : (q : Int) < 6 := by omega
  rw [row_ints]
  go_enter Try.func70, Try.ntmps70
  go_wp2_with (refine load_tub rfl 24 _ rfl _ (p) _ rfl ?_ ?_ ?_ ?_ _ Try.underlying24 rfl ?_ ?_; (· (first | rfl | omega)); rotate_left; (· (repeat (first | (with_reducible assumption) | ((with_reducible refine Has.box _ _ ?_ ?_) <;> (first | assumption | decide)) | (with_reducible refine Has.alloc ?_ _) | ((with_reducible refine Has.putOther ?_ _ _ ?_); rotate_left; omega; skip) | ((with_reducible refine Has.below ?_ ?_); rotate_left; assumption)))); (· omega); (· kernel_rfl))
  refine (l2Top_any (tub ns p) _ sp vp).mono ?_
  rintro e w1 ⟨rfl, b1⟩
  have H1 := H.below b1
  have HB1 := Lib.hid (HB.out.call b1)
  clear H HB b1
  go_wp2_with (refine load_tub rfl 24 _ rfl _ (q) _ rfl ?_ ?_ ?_ ?_ _ Try.underlying24 rfl ?_ ?_; (· (first | rfl | omega)); rotate_left; (· (repeat (first | (with_reducible assumption) | ((with_reducible refine Has.box _ _ ?_ ?_) <;> (first | assumption | decide)) | (with_reducible refine Has.alloc ?_ _) | ((with_reducible refine Has.putOther ?_ _ _ ?_); rotate_left; omega; skip) | ((with_reducible refine Has.below ?_ ?_); rotate_left; assumption)))); (· omega); (· kernel_rfl))
  refine (l2Top_any (tub ns q) _ sq vq).mono ?_
  rintro e w2 ⟨rfl, b2⟩
  have H2 := H1.below b2
  have HB2 := Lib.hid (HB1.out.call b2)
  clear H1 HB1 b2
  by_cases hpq : p = q
  · have R := Lib.hid (show decide (p ≠ q ∧ 0 < canN (tub ns p) (tub ns q)) = false by simp [hpq])
    have e1 : ((p : Int) == (q : Int)) = true := by simp [hpq]
    have e2 : ((p : Int) != (q : Int)) = false := by simp [hpq]
    clear hpq
    go_wp2_with fail
    go_ret
    exact ⟨ret_bool R.out.symm, HB2.out⟩
  · have e1 : ((p : Int) == (q : Int)) = false := by simp; omega
    have e2 : ((p : Int) != (q : Int)) = true := by simp; omega
    have HP := Lib.hid hpq
    clear hpq
    by_cases hn : 0 < topN (tub ns p)
    · have hni : (0 : Int) < (topN (tub ns p) : Int) := by omega
      go_wp2_with (refine load_tub rfl 24 _ rfl _ (q) _ rfl ?_ ?_ ?_ ?_ _ Try.underlying24 rfl ?_ ?_; (· (first | rfl | omega)); rotate_left; (· (repeat (first | (with_reducible assumption) | ((with_reducible refine Has.box _ _ ?_ ?_) <;> (first | assumption | decide)) | (with_reducible refine Has.alloc ?_ _) | ((with_reducible refine Has.putOther ?_ _ _ ?_); rotate_left; omega; skip) | ((with_reducible refine Has.below ?_ ?_); rotate_left; assumption)))); (· omega); (· kernel_rfl))
      refine (l2Many_any (tub ns q) _ sq vq).mono ?_
      rintro e w3 ⟨rfl, b3⟩
      have HB3 := Lib.hid (HB2.out.call b3)
      clear H2 HB2 b3
      by_cases hl : lay (tub ns q) < 4
      · have hli : (lay (tub ns q) : Int) < 4 := by omega
        by_cases h0 : topC (tub ns q) = 0
        · have R := Lib.hid (show decide (p ≠ q ∧ 0 < canN (tub ns p) (tub ns q)) = true from decide_eq_true ⟨HP.out, HC.out.2 ⟨hn, hl, .inl h0⟩⟩)
          have q0 : (topC (tub ns q) == 0) = true := by simp [h0]
          clear h0
          go_wp2_with fail
          go_ret
          exact ⟨ret_bool R.out.symm, HB3.out⟩
        · have q0 : (topC (tub ns q) == 0) = false := by simp [h0]
          by_cases h1 : topC (tub ns q) = topC (tub ns p)
          · have R := Lib.hid (show decide (p ≠ q ∧ 0 < canN (tub ns p) (tub ns q)) = true from decide_eq_true ⟨HP.out, HC.out.2 ⟨hn, hl, .inr h1⟩⟩)
            have q1 : (topC (tub ns q) == topC (tub ns p)) = true := by simp [h1]
            clear h0 h1
            go_wp2_with fail
            go_ret
            exact ⟨ret_bool R.out.symm, HB3.out⟩
          · have R := Lib.hid (show decide (p ≠ q ∧ 0 < canN (tub ns p) (tub ns q)) = false from decide_eq_false fun h => by
              rcases (HC.out.1 h.2).2.2 with h | h; exact h0 h; exact h1 h)
            have q1 : (topC (tub ns q) == topC (tub ns p)) = false := by simp [h1]
            clear h0 h1
            go_wp2_with fail
            go_ret
            exact ⟨ret_bool R.out.symm, HB3.out⟩
      · have R := Lib.hid (show decide (p ≠ q ∧ 0 < canN (tub ns p) (tub ns q)) = false from decide_eq_false fun h => hl (HC.out.1 h.2).2.1)
        have q1 : decide ((lay (tub ns q) : Int) < 4) = false := by simp; omega
        have q2 : decide (lay (tub ns q) < 4) = false := by simp; omega
        clear hl
        go_wp2_with fail
        go_ret
        exact ⟨ret_bool R.out.symm, HB3.out⟩
    · have R := Lib.hid (show decide (p ≠ q ∧ 0 < canN (tub ns p) (tub ns q)) = false from decide_eq_false fun h => hn (HC.out.1 h.2).1)
      have q1 : decide ((0 : Int) < (topN (tub ns p) : Int)) = false := by simp; omega
      have q2 : decide (0 < topN (tub ns p)) = false := by simp; omega
      clear hn
      go_wp2_with fail
      go_ret
      exact ⟨ret_bool R.out.symm, HB2.out⟩

theorem twoOk_yes {ns : List Int} {p q : Nat} (hv : vR ns = true) (hp : p < 6) (hq : q < 6) (hne : p ≠ q) : twoOk ns (p : Int) (q : Int) = true := by
  unfold twoOk; rw [hv]; simp; omega
theorem twoOk_not {ns : List Int} {i j : Int} (h : ¬ (vR ns = true ∧ (0 ≤ i ∧ i < 6) ∧ (0 ≤ j ∧ j < 6) ∧ i ≠ j)) : twoOk ns i j = false := by
  cases hb : twoOk ns i j with
  | false => rfl
  | true => unfold twoOk at hb; simp at hb; exact absurd ⟨hb.1.1.1, hb.1.1.2, hb.1.2, hb.2⟩ h
theorem twoOk_of {ns : List Int} {i j : Int} (h : twoOk ns i j = true) : vR ns = true ∧ ∃ p q : Nat, i = (p : Int) ∧ j = (q : Int) ∧ p < 6 ∧ q < 6 ∧ p ≠ q := by
  unfold twoOk at h
  simp at h
  exact ⟨h.1.1.1, i.toNat, j.toNat, by omega, by omega, by omega, by omega, by omega⟩
theorem canA_not {ns : List Int} {i j : Int} (h : twoOk ns i j = false) : canA ns i j = false := by unfold canA; rw [h]; rfl

theorem Has.zero2 (w : World) (o : Obj) (T : TypeId) : Has ((w.alloc o).alloc (.cells #[.int .i64 0, .int .i64 0, .int .i64 0, .int .i64 0] T)) (w.heap.size + 1) [0, 0, 0, 0] 4 := (Has.zero (w.alloc o) T).at (size1 _ _)
theorem Has.zero3 (w : World) (o o' : Obj) (T : TypeId) : Has (((w.alloc o).alloc o').alloc (.cells #[.int .i64 0, .int .i64 0, .int .i64 0, .int .i64 0] T)) (w.heap.size + 1 + 1) [0, 0, 0, 0] 4 := (Has.zero ((w.alloc o).alloc o') T).at (by simp)

def toA (ns : List Int) (i j k : Int) : List Int := if twoOk ns i j = true then tub ns k.toNat else [0, 0, 0, 0]

end Go.Proofs.Ytglhinihhlmgeac.base
end

section
namespace Go.Proofs.Ytglhinihhlmgeac.base
open Go.ChangeShapes Go.WideShapes Go.ChangeAt Go.RowKit
set_option linter.unusedVariables false
set_option linter.unusedSimpArgs false

def zer : Array Value := #[.int .i64 0, .int .i64 0, .int .i64 0, .int .i64 0]
/-- Two tubes are stored into two new blocks. -/
theorem twoNew (w0 w : World) (hk : Kept w0 w) (T : TypeId) (A B : List Int) (hA : A.length = 4) (hB : B.length = 4) :
    Has ((w.alloc (.cells #[.int .i64 0, .int .i64 0, .int .i64 0, .int .i64 0] T)).alloc (.cells #[.int .i64 0, .int .i64 0, .int .i64 0, .int .i64 0] T)) w.heap.size [0, 0, 0, 0] 4 ∧
    Has ((w.alloc (.cells #[.int .i64 0, .int .i64 0, .int .i64 0, .int .i64 0] T)).alloc (.cells #[.int .i64 0, .int .i64 0, .int .i64 0, .int .i64 0] T)) (w.heap.size + 1) [0, 0, 0, 0] 4 ∧
    Has ((((w.alloc (.cells #[.int .i64 0, .int .i64 0, .int .i64 0, .int .i64 0] T)).alloc (.cells #[.int .i64 0, .int .i64 0, .int .i64 0, .int .i64 0] T)).setCells w.heap.size 0 (ints A)).setCells (w.heap.size + 1) 0 (ints B)) w.heap.size A 4 ∧
    Has ((((w.alloc (.cells #[.int .i64 0, .int .i64 0, .int .i64 0, .int .i64 0] T)).alloc (.cells #[.int .i64 0, .int .i64 0, .int .i64 0, .int .i64 0] T)).setCells w.heap.size 0 (ints A)).setCells (w.heap.size + 1) 0 (ints B)) (w.heap.size + 1) B 4 ∧
    Kept w0 ((((w.alloc (.cells #[.int .i64 0, .int .i64 0, .int .i64 0, .int .i64 0] T)).alloc (.cells #[.int .i64 0, .int .i64 0, .int .i64 0, .int .i64 0] T)).setCells w.heap.size 0 (ints A)).setCells (w.heap.size + 1) 0 (ints B)) := by
  have z1 := (Has.zero w T).alloc (.cells #[.int .i64 0, .int .i64 0, .int .i64 0, .int .i64 0] T)
  have z2 := Has.zero2 w (.cells #[.int .i64 0, .int .i64 0, .int .i64 0, .int .i64 0] T) T
  have hs := hk.size
  exact ⟨z1, z2, (z1.putAll A hA).putOther _ _ (by omega), (z2.putOther (b' := w.heap.size) 0 (ints A) (by omega)).putAll B hB,
    (((hk.alloc _).alloc _).puts (b := w.heap.size) hs 0 (ints A)).puts (b := w.heap.size + 1) (by omega) 0 (ints B)⟩
theorem toA_len {ns : List Int} (h : ns.length = 24) (i j k : Int) (hk : k = i ∨ k = j) : (toA ns i j k).length = 4 := by
  unfold toA
  by_cases hb : twoOk ns i j = true
  · rw [if_pos hb]
    obtain ⟨_, p, q, rfl, rfl, hp, hq, _⟩ := twoOk_of hb
    rcases hk with rfl | rfl
    · exact tub_len ns _ h (by simpa using hp)
    · exact tub_len ns _ h (by simpa using hq)
  · rw [if_neg hb]; rfl
theorem toA_valid {ns : List Int} (h : ns.length = 24) (i j k : Int) (hk : k = i ∨ k = j) (hb : twoOk ns i j = true) : vT (toA ns i j k) = true := by
  unfold toA
  rw [if_pos hb]
  obtain ⟨hv, p, q, rfl, rfl, hp, hq, _⟩ := twoOk_of hb
  rcases hk with rfl | rfl
  · exact vR_tub hv _ (by simpa using hp)
  · exact vR_tub hv _ (by simpa using hq)

end Go.Proofs.Ytglhinihhlmgeac.base
end
