/-
  Drops, pours back and counts of pours by the rules, on both sides, walked.
-/
import Derived.Test.YtcedpjjfcfeokaaPbyI
import Derived.Test.YtcedpjjfcfeokaaByI
namespace Go.Proofs.Ytcedpjjfcfeokaa.base
open Go.ChangeShapes Go.WideShapes Go.ChangeAt Go.RowKit
set_option linter.unusedVariables false
set_option linter.unusedSimpArgs false

def tbOk (ns ds : List Int) (i j : Int) : Bool := pbOk ns ds 4 i j && pbOk (pbR ns ds 4 i j) ds 4 j i
def tbR (ns ds : List Int) (i j : Int) : List Int := if pbOk ns ds 4 i j = true then pbR (pbR ns ds 4 i j) ds 4 j i else z24
theorem tbR_len {ns ds : List Int} (h24 : ns.length = 24) (i j : Int) : (tbR ns ds i j).length = 24 := by
  unfold tbR
  split
  · exact pbR_len (pbR_len h24 4 i j) 4 j i
  · rfl
/-- How many pours each rule below k has. -/
def crL (ns ds : List Int) (k : Nat) : List Int := (List.range 5).map fun j => if 1 ≤ j ∧ j < k then ((byNA ns ds (j : Int) : Nat) : Int) else 0
def crA (ns ds : List Int) : List Int := if fitA ns ds = true then crL ns ds 5 else [0, 0, 0, 0, 0]
theorem crL_len (ns ds : List Int) (k : Nat) : (crL ns ds k).length = 5 := by unfold crL; simp
theorem crA_len (ns ds : List Int) : (crA ns ds).length = 5 := by
  unfold crA; split
  · exact crL_len ns ds 5
  · rfl
theorem crL_1 (ns ds : List Int) : crL ns ds 1 = [0, 0, 0, 0, 0] := by
  unfold crL
  have : ∀ j, ¬ (1 ≤ j ∧ j < 1) := fun j h => by omega
  simp only [this, if_false]; rfl
theorem crL_set (ns ds : List Int) (k : Nat) (h1 : 1 ≤ k) (h : k < 5) : (crL ns ds k).set k ((byNA ns ds (k : Int) : Nat) : Int) = crL ns ds (k + 1) := by
  apply List.ext_getElem?
  intro j
  unfold crL
  rw [List.getElem?_set]
  simp only [List.length_map, List.length_range]
  by_cases e : k = j
  · subst e
    rw [if_pos rfl, if_pos h, List.getElem?_map, List.getElem?_range h]
    simp only [Option.map_some, Option.some.injEq]
    rw [if_pos (by omega)]
  · rw [if_neg e, List.getElem?_map, List.getElem?_map]
    by_cases hj : j < 5
    · rw [List.getElem?_range hj]
      simp only [Option.map_some, Option.some.injEq]
      by_cases h2 : 1 ≤ j ∧ j < k
      · rw [if_pos h2, if_pos (by omega)]
      · rw [if_neg h2, if_neg (by omega)]
    · rw [List.getElem?_eq_none (by simp; omega)]; rfl
theorem ruleV_in {k : Nat} (h1 : 1 ≤ k) (h : k < 5) : ruleV (k : Int) = true := decide_eq_true (by omega)
theorem byOk_in {ns ds : List Int} {k : Nat} (h1 : 1 ≤ k) (h : k < 5) : byOk ns ds (k : Int) = fitA ns ds := by unfold byOk; rw [ruleV_in h1 h, Bool.and_true]
theorem Has.zero5 (w : World) (T : TypeId) : Has (w.alloc (.cells #[.int .i64 0, .int .i64 0, .int .i64 0, .int .i64 0, .int .i64 0] T)) w.heap.size [0, 0, 0, 0, 0] 5 := Has.box (ns := [0, 0, 0, 0, 0]) w T rfl (by decide)
theorem buildFive (w : World) : (Instr.build 49 #[]).run Try.prog w = .ok (.agg (ints [0, 0, 0, 0, 0]).toArray) w := by kernel_rfl

set_option maxHeartbeats 400000 in
theorem eqIntA5_same (t : List Int) (w : World) (h4 : t.length = 5) :
    Calls Try.prog 30 #[row t, row t] w fun e w' => e = .returned (.bool true) ∧ Kept w w' := by
  have HB := Lib.hid (((kept_refl w).alloc (.cells (ints t).toArray 49)).alloc (.cells (ints t).toArray 49))
  have H1 := (Has.box w 49 h4 (by omega)).alloc (.cells (ints t).toArray 49)
  have H2 := (Has.box (w.alloc (.cells (ints t).toArray 49)) 49 h4 (by omega)).at (size1 _ _)
  rw [row_ints]
  go_enter Try.func30, Try.ntmps30
  go_wp2_with fail
  have HL := Lib.hid h4
  clear h4
  generalize ((w.alloc (.cells (ints t).toArray 49)).alloc (.cells (ints t).toArray 49)) = W at *
  go_loopw [5] (fun z wr => ∃ k : Nat, k ≤ 5 ∧ z = .int .i64 k ∧ Has wr w.heap.size t 5 ∧ Has wr (w.heap.size + 1) t 5 ∧ Hid (Kept w wr)) (fun z _ => 5 - (intOf z).toNat)
  case atStart => exact ⟨0, by omega, rfl, H1, H2, HB⟩
  case round =>
    obtain ⟨k, hk, rfl, G1, G2, GB⟩ := hrel
    by_cases h : k < 5
    · have c1 := G1.cell k h
      have c2 := G2.cell k h
      have hki : (k : Int) < 5 := by omega
      have hk0 : (0 : Int) ≤ (k : Int) := by omega
      generalize t.getD k 0 = x at *
      go_wp2_with fail
      go_quiet (fail)
      have G3 := G1.drewN nq
      have G4 := G2.drewN nq
      have GB2 := Lib.hid (GB.out.drewN nq)
      go_wp2_with fail
      go_roundw
      case rel => exact ⟨k + 1, by omega, by go_num, G3, G4, GB2⟩
      case measure => simp [intOf]; omega
    · go_wp2_with fail
      go_ret
      exact ⟨rfl, GB.out⟩

set_option maxHeartbeats 800000 in
theorem specDrops (ns ds : List Int) (i j : Int) (w : World) (h24 : ns.length = 24) (h6 : ds.length = 6) :
    Calls Try.prog 24 #[row ns, row ds, .int .i64 i, .int .i64 j] w fun e w' => e = .returned (.tuple #[.int .i64 (pbN ns ds 1 i j), .bool (pbOk ns ds 1 i j)]) ∧ Kept w w' := by
  have HB := Lib.hid (((kept_refl w).alloc (.cells (ints ns).toArray 31)).alloc (.cells (ints ds).toArray 22))
  have H := (Has.box w 31 h24 (by omega)).alloc (.cells (ints ds).toArray 22)
  have D := (Has.box (w.alloc (.cells (ints ns).toArray 31)) 22 h6 (by omega)).at (size1 _ _)
  have hl := pbR_len (ds := ds) h24 1 i j
  rw [row_ints, row_ints]
  go_enter Try.func24, Try.ntmps24
  go_wp2_with (first | (refine load_has rfl 31 _ rfl _ rfl ?_ 24 ?_ _ Try.underlying31 rfl ?_ ?_; rotate_left; (· (repeat (first | (with_reducible assumption) | ((with_reducible refine Has.box _ _ ?_ ?_) <;> (first | assumption | decide)) | (with_reducible refine Has.alloc ?_ _) | ((with_reducible refine Has.putOther ?_ _ _ ?_); rotate_left; omega; skip) | ((with_reducible refine Has.below ?_ ?_); rotate_left; assumption)))); (· kernel_rfl)) | (refine load_has rfl 22 _ rfl _ rfl ?_ 6 ?_ _ Try.underlying22 rfl ?_ ?_; rotate_left; (· (repeat (first | (with_reducible assumption) | ((with_reducible refine Has.box _ _ ?_ ?_) <;> (first | assumption | decide)) | (with_reducible refine Has.alloc ?_ _) | ((with_reducible refine Has.putOther ?_ _ _ ?_); rotate_left; omega; skip) | ((with_reducible refine Has.below ?_ ?_); rotate_left; assumption)))); (· kernel_rfl)) | (refine store_new rfl 31 _ _ rfl _ _ _ rfl _ rfl _ rfl rfl ?_ ?_ ?_; (· (first | assumption | rfl)); (· kernel_rfl)))
  refine (specPourBy ns ds 1 i j _ h24 h6).mono ?_
  rintro e w1 ⟨rfl, b1⟩
  have HB1 := Lib.hid ((HB.out.call b1).alloc (.cells (ints (pbR ns ds 1 i j)).toArray 31))
  have HB2 := Lib.hid (HB.out.call b1)
  clear H D HB b1
  go_wp2_with (first | (refine load_has rfl 31 _ rfl _ rfl ?_ 24 ?_ _ Try.underlying31 rfl ?_ ?_; rotate_left; (· (repeat (first | (with_reducible assumption) | ((with_reducible refine Has.box _ _ ?_ ?_) <;> (first | assumption | decide)) | (with_reducible refine Has.alloc ?_ _) | ((with_reducible refine Has.putOther ?_ _ _ ?_); rotate_left; omega; skip) | ((with_reducible refine Has.below ?_ ?_); rotate_left; assumption)))); (· kernel_rfl)) | (refine load_has rfl 22 _ rfl _ rfl ?_ 6 ?_ _ Try.underlying22 rfl ?_ ?_; rotate_left; (· (repeat (first | (with_reducible assumption) | ((with_reducible refine Has.box _ _ ?_ ?_) <;> (first | assumption | decide)) | (with_reducible refine Has.alloc ?_ _) | ((with_reducible refine Has.putOther ?_ _ _ ?_); rotate_left; omega; skip) | ((with_reducible refine Has.below ?_ ?_); rotate_left; assumption)))); (· kernel_rfl)) | (refine store_new rfl 31 _ _ rfl _ _ _ rfl _ rfl _ rfl rfl ?_ ?_ ?_; (· (first | assumption | rfl)); (· kernel_rfl)))
  go_ret2
  exact ⟨rfl, HB1.out⟩

set_option maxHeartbeats 1600000 in
set_option maxRecDepth 100000 in
theorem specTurn (ns ds : List Int) (i j : Int) (w : World) (h24 : ns.length = 24) (h6 : ds.length = 6) :
    Calls Try.prog 26 #[row ns, row ds, .int .i64 i, .int .i64 j] w fun e w' => e = .returned (.tuple #[.agg (ints (tbR ns ds i j)).toArray, .bool (tbOk ns ds i j)]) ∧ Kept w w' := by
  have HB := Lib.hid ((((kept_refl w).alloc (.cells (ints ns).toArray 31)).alloc (.cells (ints ds).toArray 22)).alloc (.cells #[.int .i64 0, .int .i64 0, .int .i64 0, .int .i64 0, .int .i64 0, .int .i64 0, .int .i64 0, .int .i64 0, .int .i64 0, .int .i64 0, .int .i64 0, .int .i64 0, .int .i64 0, .int .i64 0, .int .i64 0, .int .i64 0, .int .i64 0, .int .i64 0, .int .i64 0, .int .i64 0, .int .i64 0, .int .i64 0, .int .i64 0, .int .i64 0] 31))
  have H := ((Has.box w 31 h24 (by omega)).alloc (.cells (ints ds).toArray 22)).alloc (.cells #[.int .i64 0, .int .i64 0, .int .i64 0, .int .i64 0, .int .i64 0, .int .i64 0, .int .i64 0, .int .i64 0, .int .i64 0, .int .i64 0, .int .i64 0, .int .i64 0, .int .i64 0, .int .i64 0, .int .i64 0, .int .i64 0, .int .i64 0, .int .i64 0, .int .i64 0, .int .i64 0, .int .i64 0, .int .i64 0, .int .i64 0, .int .i64 0] 31)
  have D := ((Has.box (w.alloc (.cells (ints ns).toArray 31)) 22 h6 (by omega)).at (size1 _ _)).alloc (.cells #[.int .i64 0, .int .i64 0, .int .i64 0, .int .i64 0, .int .i64 0, .int .i64 0, .int .i64 0, .int .i64 0, .int .i64 0, .int .i64 0, .int .i64 0, .int .i64 0, .int .i64 0, .int .i64 0, .int .i64 0, .int .i64 0, .int .i64 0, .int .i64 0, .int .i64 0, .int .i64 0, .int .i64 0, .int .i64 0, .int .i64 0, .int .i64 0] 31)
  have Z := (Has.zero24 ((w.alloc (.cells (ints ns).toArray 31)).alloc (.cells (ints ds).toArray 22)) 31).at (c := w.heap.size + 1 + 1) (by simp)
  have hz : z24.length = 24 := rfl
  have hl := pbR_len (ds := ds) h24 4 i j
  rw [row_ints, row_ints]
  go_enter Try.func26, Try.ntmps26
  go_wp2_with (first | (refine load_has rfl 31 _ rfl _ rfl ?_ 24 ?_ _ Try.underlying31 rfl ?_ ?_; rotate_left; (· (repeat (first | (with_reducible assumption) | ((with_reducible refine Has.box _ _ ?_ ?_) <;> (first | assumption | decide)) | (with_reducible refine Has.alloc ?_ _) | ((with_reducible refine Has.putOther ?_ _ _ ?_); rotate_left; omega; skip) | ((with_reducible refine Has.below ?_ ?_); rotate_left; assumption)))); (· kernel_rfl)) | (refine load_has rfl 22 _ rfl _ rfl ?_ 6 ?_ _ Try.underlying22 rfl ?_ ?_; rotate_left; (· (repeat (first | (with_reducible assumption) | ((with_reducible refine Has.box _ _ ?_ ?_) <;> (first | assumption | decide)) | (with_reducible refine Has.alloc ?_ _) | ((with_reducible refine Has.putOther ?_ _ _ ?_); rotate_left; omega; skip) | ((with_reducible refine Has.below ?_ ?_); rotate_left; assumption)))); (· kernel_rfl)))
  refine (specPourBy ns ds 4 i j _ h24 h6).mono ?_
  rintro e w1 ⟨rfl, b1⟩
  have hs1 : w.heap.size + 1 + 1 < w1.heap.size := (Z.below b1).lt
  have D1 := (D.below b1).alloc (.cells (ints (pbR ns ds 4 i j)).toArray 31)
  have Z1 := (Z.below b1).alloc (.cells (ints (pbR ns ds 4 i j)).toArray 31)
  have R1 := Has.box w1 31 hl (by omega)
  have HB1 := Lib.hid ((HB.out.call b1).alloc (.cells (ints (pbR ns ds 4 i j)).toArray 31))
  clear H D Z HB b1
  have E1 := Lib.hid (show tbOk ns ds i j = (pbOk ns ds 4 i j && pbOk (pbR ns ds 4 i j) ds 4 j i) from rfl)
  have E2 := Lib.hid (show tbR ns ds i j = if pbOk ns ds 4 i j = true then pbR (pbR ns ds 4 i j) ds 4 j i else z24 from rfl)
  have hl2 := pbR_len (ds := ds) hl 4 j i
  generalize pbN ns ds 4 i j = N at *
  by_cases hk : pbOk ns ds 4 i j = true
  · rw [hk] at E1 E2 ⊢
    have F1 := Lib.hid (show tbOk ns ds i j = pbOk (pbR ns ds 4 i j) ds 4 j i by rw [E1.out, Bool.true_and])
    have F2 := Lib.hid (show tbR ns ds i j = pbR (pbR ns ds 4 i j) ds 4 j i by rw [E2.out, if_pos rfl])
    clear E1 E2 hk
    generalize pbR ns ds 4 i j = R at *
    go_wp2_with (first | (refine store_new rfl 31 _ _ rfl _ _ _ rfl _ rfl _ rfl rfl ?_ ?_ ?_; (· (first | assumption | rfl)); (· kernel_rfl)) | (refine load_has rfl 31 _ rfl _ rfl ?_ 24 ?_ _ Try.underlying31 rfl ?_ ?_; rotate_left; (· (repeat (first | (with_reducible assumption) | ((with_reducible refine Has.box _ _ ?_ ?_) <;> (first | assumption | decide)) | (with_reducible refine Has.alloc ?_ _) | ((with_reducible refine Has.putOther ?_ _ _ ?_); rotate_left; omega; skip) | ((with_reducible refine Has.below ?_ ?_); rotate_left; assumption)))); (· kernel_rfl)) | (refine load_has rfl 22 _ rfl _ rfl ?_ 6 ?_ _ Try.underlying22 rfl ?_ ?_; rotate_left; (· (repeat (first | (with_reducible assumption) | ((with_reducible refine Has.box _ _ ?_ ?_) <;> (first | assumption | decide)) | (with_reducible refine Has.alloc ?_ _) | ((with_reducible refine Has.putOther ?_ _ _ ?_); rotate_left; omega; skip) | ((with_reducible refine Has.below ?_ ?_); rotate_left; assumption)))); (· kernel_rfl)))
    refine (specPourBy R ds 4 j i _ hl h6).mono ?_
    rintro e w2 ⟨rfl, b2⟩
    have hs2 : w.heap.size + 1 + 1 < w2.heap.size := (Z1.below b2).lt
    have Z2 := (Z1.below b2).alloc (.cells (ints (pbR R ds 4 j i)).toArray 31)
    have R2 := Has.box w2 31 hl2 (by omega)
    have HB2 := Lib.hid ((HB1.out.call b2).alloc (.cells (ints (pbR R ds 4 j i)).toArray 31))
    clear D1 Z1 R1 HB1 b2
    generalize pbR R ds 4 j i = R' at *
    generalize pbOk R ds 4 j i = K0 at *
    generalize pbN R ds 4 j i = N0 at *
    have S1 := Lib.hid (Z2.putAll R' hl2)
    have S2 := Lib.hid (HB2.out.puts (b := w.heap.size + 1 + 1) (by omega) 0 (ints R'))
    clear hl
    go_wp2_with (first | (refine store_new rfl 31 _ _ rfl _ _ _ rfl _ rfl _ rfl rfl ?_ ?_ ?_; (· (first | assumption | rfl)); (· kernel_rfl)) | (refine load_has rfl 31 _ rfl _ rfl ?_ 24 ?_ _ Try.underlying31 rfl ?_ ?_; rotate_left; (· (repeat (first | (with_reducible assumption) | ((with_reducible refine Has.box _ _ ?_ ?_) <;> (first | assumption | decide)) | (with_reducible refine Has.alloc ?_ _) | ((with_reducible refine Has.putOther ?_ _ _ ?_); rotate_left; omega; skip) | ((with_reducible refine Has.below ?_ ?_); rotate_left; assumption)))); (· kernel_rfl)) | (refine store_at rfl 31 _ _ rfl _ _ rfl rfl ?_ 24 ?_ ?_ ?_ ?_; rotate_left; (· (repeat (first | (with_reducible assumption) | ((with_reducible refine Has.box _ _ ?_ ?_) <;> (first | assumption | decide)) | (with_reducible refine Has.alloc ?_ _) | ((with_reducible refine Has.putOther ?_ _ _ ?_); rotate_left; omega; skip) | ((with_reducible refine Has.below ?_ ?_); rotate_left; assumption)))); (· (first | assumption | rfl)); (· kernel_rfl)))
    exact bodyPost_ret (res_has1 rfl _ _ (w.heap.size + 1 + 1) R' 24 _ (.bool K0) rfl rfl S1.out Try.underlying31 rfl (by kernel_rfl)) rfl ⟨by rw [F1.out, F2.out], S2.out⟩
  · have hf : pbOk ns ds 4 i j = false := by simpa using hk
    rw [hf] at E1 E2 ⊢
    have F1 := Lib.hid (show tbOk ns ds i j = false by rw [E1.out, Bool.false_and])
    have F2 := Lib.hid (show tbR ns ds i j = z24 by rw [E2.out]; rfl)
    clear E1 E2 hk hf hl2
    generalize pbR ns ds 4 i j = R at *
    have S1 := Lib.hid (Z1.putAll z24 rfl)
    have S2 := Lib.hid (HB1.out.puts (b := w.heap.size + 1 + 1) (by omega) 0 (ints z24))
    go_wp2_with (first | (refine store_new rfl 31 _ _ rfl _ _ _ rfl _ rfl _ rfl rfl ?_ ?_ ?_; (· (first | assumption | rfl)); (· kernel_rfl)) | (refine build_law rfl 31 rfl _ buildRack ?_) | (refine store_at rfl 31 _ _ rfl _ _ rfl rfl ?_ 24 ?_ ?_ ?_ ?_; rotate_left; (· (repeat (first | (with_reducible assumption) | ((with_reducible refine Has.box _ _ ?_ ?_) <;> (first | assumption | decide)) | (with_reducible refine Has.alloc ?_ _) | ((with_reducible refine Has.putOther ?_ _ _ ?_); rotate_left; omega; skip) | ((with_reducible refine Has.below ?_ ?_); rotate_left; assumption)))); (· (first | assumption | rfl)); (· kernel_rfl)))
    exact bodyPost_ret (res_has1 rfl _ _ (w.heap.size + 1 + 1) z24 24 _ (.bool false) rfl rfl S1.out Try.underlying31 rfl (by kernel_rfl)) rfl ⟨by rw [F1.out, F2.out], S2.out⟩

set_option maxHeartbeats 800000 in
theorem implDrops (ns ds : List Int) (i j : Int) (w : World) (h24 : ns.length = 24) (h6 : ds.length = 6) :
    Calls Try.prog 25 #[row ns, row ds, .int .i64 i, .int .i64 j] w fun e w' => e = .returned (.tuple #[.int .i64 (pbN ns ds 1 i j), .bool (pbOk ns ds 1 i j)]) ∧ Kept w w' := by
  have HB := Lib.hid (((kept_refl w).alloc (.cells (ints ns).toArray 31)).alloc (.cells (ints ds).toArray 22))
  have H := (Has.box w 31 h24 (by omega)).alloc (.cells (ints ds).toArray 22)
  have D := (Has.box (w.alloc (.cells (ints ns).toArray 31)) 22 h6 (by omega)).at (size1 _ _)
  have hl := pbR_len (ds := ds) h24 1 i j
  rw [row_ints, row_ints]
  go_enter Try.func25, Try.ntmps25
  go_wp2_with (first | (refine load_has rfl 31 _ rfl _ rfl ?_ 24 ?_ _ Try.underlying31 rfl ?_ ?_; rotate_left; (· (repeat (first | (with_reducible assumption) | ((with_reducible refine Has.box _ _ ?_ ?_) <;> (first | assumption | decide)) | (with_reducible refine Has.alloc ?_ _) | ((with_reducible refine Has.putOther ?_ _ _ ?_); rotate_left; omega; skip) | ((with_reducible refine Has.below ?_ ?_); rotate_left; assumption)))); (· kernel_rfl)) | (refine load_has rfl 22 _ rfl _ rfl ?_ 6 ?_ _ Try.underlying22 rfl ?_ ?_; rotate_left; (· (repeat (first | (with_reducible assumption) | ((with_reducible refine Has.box _ _ ?_ ?_) <;> (first | assumption | decide)) | (with_reducible refine Has.alloc ?_ _) | ((with_reducible refine Has.putOther ?_ _ _ ?_); rotate_left; omega; skip) | ((with_reducible refine Has.below ?_ ?_); rotate_left; assumption)))); (· kernel_rfl)) | (refine store_new rfl 31 _ _ rfl _ _ _ rfl _ rfl _ rfl rfl ?_ ?_ ?_; (· (first | assumption | rfl)); (· kernel_rfl)))
  refine (implPourBy ns ds 1 i j _ h24 h6).mono ?_
  rintro e w1 ⟨rfl, b1⟩
  have HB1 := Lib.hid ((HB.out.call b1).alloc (.cells (ints (pbR ns ds 1 i j)).toArray 31))
  have HB2 := Lib.hid (HB.out.call b1)
  clear H D HB b1
  go_wp2_with (first | (refine load_has rfl 31 _ rfl _ rfl ?_ 24 ?_ _ Try.underlying31 rfl ?_ ?_; rotate_left; (· (repeat (first | (with_reducible assumption) | ((with_reducible refine Has.box _ _ ?_ ?_) <;> (first | assumption | decide)) | (with_reducible refine Has.alloc ?_ _) | ((with_reducible refine Has.putOther ?_ _ _ ?_); rotate_left; omega; skip) | ((with_reducible refine Has.below ?_ ?_); rotate_left; assumption)))); (· kernel_rfl)) | (refine load_has rfl 22 _ rfl _ rfl ?_ 6 ?_ _ Try.underlying22 rfl ?_ ?_; rotate_left; (· (repeat (first | (with_reducible assumption) | ((with_reducible refine Has.box _ _ ?_ ?_) <;> (first | assumption | decide)) | (with_reducible refine Has.alloc ?_ _) | ((with_reducible refine Has.putOther ?_ _ _ ?_); rotate_left; omega; skip) | ((with_reducible refine Has.below ?_ ?_); rotate_left; assumption)))); (· kernel_rfl)) | (refine store_new rfl 31 _ _ rfl _ _ _ rfl _ rfl _ rfl rfl ?_ ?_ ?_; (· (first | assumption | rfl)); (· kernel_rfl)))
  go_ret2
  exact ⟨rfl, HB1.out⟩

set_option maxHeartbeats 1600000 in
set_option maxRecDepth 100000 in
theorem implTurn (ns ds : List Int) (i j : Int) (w : World) (h24 : ns.length = 24) (h6 : ds.length = 6) :
    Calls Try.prog 27 #[row ns, row ds, .int .i64 i, .int .i64 j] w fun e w' => e = .returned (.tuple #[.agg (ints (tbR ns ds i j)).toArray, .bool (tbOk ns ds i j)]) ∧ Kept w w' := by
  have HB := Lib.hid ((((kept_refl w).alloc (.cells (ints ns).toArray 31)).alloc (.cells (ints ds).toArray 22)).alloc (.cells #[.int .i64 0, .int .i64 0, .int .i64 0, .int .i64 0, .int .i64 0, .int .i64 0, .int .i64 0, .int .i64 0, .int .i64 0, .int .i64 0, .int .i64 0, .int .i64 0, .int .i64 0, .int .i64 0, .int .i64 0, .int .i64 0, .int .i64 0, .int .i64 0, .int .i64 0, .int .i64 0, .int .i64 0, .int .i64 0, .int .i64 0, .int .i64 0] 31))
  have H := ((Has.box w 31 h24 (by omega)).alloc (.cells (ints ds).toArray 22)).alloc (.cells #[.int .i64 0, .int .i64 0, .int .i64 0, .int .i64 0, .int .i64 0, .int .i64 0, .int .i64 0, .int .i64 0, .int .i64 0, .int .i64 0, .int .i64 0, .int .i64 0, .int .i64 0, .int .i64 0, .int .i64 0, .int .i64 0, .int .i64 0, .int .i64 0, .int .i64 0, .int .i64 0, .int .i64 0, .int .i64 0, .int .i64 0, .int .i64 0] 31)
  have D := ((Has.box (w.alloc (.cells (ints ns).toArray 31)) 22 h6 (by omega)).at (size1 _ _)).alloc (.cells #[.int .i64 0, .int .i64 0, .int .i64 0, .int .i64 0, .int .i64 0, .int .i64 0, .int .i64 0, .int .i64 0, .int .i64 0, .int .i64 0, .int .i64 0, .int .i64 0, .int .i64 0, .int .i64 0, .int .i64 0, .int .i64 0, .int .i64 0, .int .i64 0, .int .i64 0, .int .i64 0, .int .i64 0, .int .i64 0, .int .i64 0, .int .i64 0] 31)
  have Z := (Has.zero24 ((w.alloc (.cells (ints ns).toArray 31)).alloc (.cells (ints ds).toArray 22)) 31).at (c := w.heap.size + 1 + 1) (by simp)
  have hz : z24.length = 24 := rfl
  have hl := pbR_len (ds := ds) h24 4 i j
  rw [row_ints, row_ints]
  go_enter Try.func27, Try.ntmps27
  go_wp2_with (first | (refine load_has rfl 31 _ rfl _ rfl ?_ 24 ?_ _ Try.underlying31 rfl ?_ ?_; rotate_left; (· (repeat (first | (with_reducible assumption) | ((with_reducible refine Has.box _ _ ?_ ?_) <;> (first | assumption | decide)) | (with_reducible refine Has.alloc ?_ _) | ((with_reducible refine Has.putOther ?_ _ _ ?_); rotate_left; omega; skip) | ((with_reducible refine Has.below ?_ ?_); rotate_left; assumption)))); (· kernel_rfl)) | (refine load_has rfl 22 _ rfl _ rfl ?_ 6 ?_ _ Try.underlying22 rfl ?_ ?_; rotate_left; (· (repeat (first | (with_reducible assumption) | ((with_reducible refine Has.box _ _ ?_ ?_) <;> (first | assumption | decide)) | (with_reducible refine Has.alloc ?_ _) | ((with_reducible refine Has.putOther ?_ _ _ ?_); rotate_left; omega; skip) | ((with_reducible refine Has.below ?_ ?_); rotate_left; assumption)))); (· kernel_rfl)))
  refine (implPourBy ns ds 4 i j _ h24 h6).mono ?_
  rintro e w1 ⟨rfl, b1⟩
  have hs1 : w.heap.size + 1 + 1 < w1.heap.size := (Z.below b1).lt
  have D1 := (D.below b1).alloc (.cells (ints (pbR ns ds 4 i j)).toArray 31)
  have Z1 := (Z.below b1).alloc (.cells (ints (pbR ns ds 4 i j)).toArray 31)
  have R1 := Has.box w1 31 hl (by omega)
  have HB1 := Lib.hid ((HB.out.call b1).alloc (.cells (ints (pbR ns ds 4 i j)).toArray 31))
  clear H D Z HB b1
  have E1 := Lib.hid (show tbOk ns ds i j = (pbOk ns ds 4 i j && pbOk (pbR ns ds 4 i j) ds 4 j i) from rfl)
  have E2 := Lib.hid (show tbR ns ds i j = if pbOk ns ds 4 i j = true then pbR (pbR ns ds 4 i j) ds 4 j i else z24 from rfl)
  have hl2 := pbR_len (ds := ds) hl 4 j i
  generalize pbN ns ds 4 i j = N at *
  by_cases hk : pbOk ns ds 4 i j = true
  · rw [hk] at E1 E2 ⊢
    have F1 := Lib.hid (show tbOk ns ds i j = pbOk (pbR ns ds 4 i j) ds 4 j i by rw [E1.out, Bool.true_and])
    have F2 := Lib.hid (show tbR ns ds i j = pbR (pbR ns ds 4 i j) ds 4 j i by rw [E2.out, if_pos rfl])
    clear E1 E2 hk
    generalize pbR ns ds 4 i j = R at *
    go_wp2_with (first | (refine store_new rfl 31 _ _ rfl _ _ _ rfl _ rfl _ rfl rfl ?_ ?_ ?_; (· (first | assumption | rfl)); (· kernel_rfl)) | (refine load_has rfl 31 _ rfl _ rfl ?_ 24 ?_ _ Try.underlying31 rfl ?_ ?_; rotate_left; (· (repeat (first | (with_reducible assumption) | ((with_reducible refine Has.box _ _ ?_ ?_) <;> (first | assumption | decide)) | (with_reducible refine Has.alloc ?_ _) | ((with_reducible refine Has.putOther ?_ _ _ ?_); rotate_left; omega; skip) | ((with_reducible refine Has.below ?_ ?_); rotate_left; assumption)))); (· kernel_rfl)) | (refine load_has rfl 22 _ rfl _ rfl ?_ 6 ?_ _ Try.underlying22 rfl ?_ ?_; rotate_left; (· (repeat (first | (with_reducible assumption) | ((with_reducible refine Has.box _ _ ?_ ?_) <;> (first | assumption | decide)) | (with_reducible refine Has.alloc ?_ _) | ((with_reducible refine Has.putOther ?_ _ _ ?_); rotate_left; omega; skip) | ((with_reducible refine Has.below ?_ ?_); rotate_left; assumption)))); (· kernel_rfl)))
    refine (implPourBy R ds 4 j i _ hl h6).mono ?_
    rintro e w2 ⟨rfl, b2⟩
    have hs2 : w.heap.size + 1 + 1 < w2.heap.size := (Z1.below b2).lt
    have Z2 := (Z1.below b2).alloc (.cells (ints (pbR R ds 4 j i)).toArray 31)
    have R2 := Has.box w2 31 hl2 (by omega)
    have HB2 := Lib.hid ((HB1.out.call b2).alloc (.cells (ints (pbR R ds 4 j i)).toArray 31))
    clear D1 Z1 R1 HB1 b2
    generalize pbR R ds 4 j i = R' at *
    generalize pbOk R ds 4 j i = K0 at *
    generalize pbN R ds 4 j i = N0 at *
    have S1 := Lib.hid (Z2.putAll R' hl2)
    have S2 := Lib.hid (HB2.out.puts (b := w.heap.size + 1 + 1) (by omega) 0 (ints R'))
    clear hl
    go_wp2_with (first | (refine store_new rfl 31 _ _ rfl _ _ _ rfl _ rfl _ rfl rfl ?_ ?_ ?_; (· (first | assumption | rfl)); (· kernel_rfl)) | (refine load_has rfl 31 _ rfl _ rfl ?_ 24 ?_ _ Try.underlying31 rfl ?_ ?_; rotate_left; (· (repeat (first | (with_reducible assumption) | ((with_reducible refine Has.box _ _ ?_ ?_) <;> (first | assumption | decide)) | (with_reducible refine Has.alloc ?_ _) | ((with_reducible refine Has.putOther ?_ _ _ ?_); rotate_left; omega; skip) | ((with_reducible refine Has.below ?_ ?_); rotate_left; assumption)))); (· kernel_rfl)) | (refine store_at rfl 31 _ _ rfl _ _ rfl rfl ?_ 24 ?_ ?_ ?_ ?_; rotate_left; (· (repeat (first | (with_reducible assumption) | ((with_reducible refine Has.box _ _ ?_ ?_) <;> (first | assumption | decide)) | (with_reducible refine Has.alloc ?_ _) | ((with_reducible refine Has.putOther ?_ _ _ ?_); rotate_left; omega; skip) | ((with_reducible refine Has.below ?_ ?_); rotate_left; assumption)))); (· (first | assumption | rfl)); (· kernel_rfl)))
    exact bodyPost_ret (res_has1 rfl _ _ (w.heap.size + 1 + 1) R' 24 _ (.bool K0) rfl rfl S1.out Try.underlying31 rfl (by kernel_rfl)) rfl ⟨by rw [F1.out, F2.out], S2.out⟩
  · have hf : pbOk ns ds 4 i j = false := by simpa using hk
    rw [hf] at E1 E2 ⊢
    have F1 := Lib.hid (show tbOk ns ds i j = false by rw [E1.out, Bool.false_and])
    have F2 := Lib.hid (show tbR ns ds i j = z24 by rw [E2.out]; rfl)
    clear E1 E2 hk hf hl2
    generalize pbR ns ds 4 i j = R at *
    have S1 := Lib.hid (Z1.putAll z24 rfl)
    have S2 := Lib.hid (HB1.out.puts (b := w.heap.size + 1 + 1) (by omega) 0 (ints z24))
    go_wp2_with (first | (refine store_new rfl 31 _ _ rfl _ _ _ rfl _ rfl _ rfl rfl ?_ ?_ ?_; (· (first | assumption | rfl)); (· kernel_rfl)) | (refine build_law rfl 31 rfl _ buildRack ?_) | (refine store_at rfl 31 _ _ rfl _ _ rfl rfl ?_ 24 ?_ ?_ ?_ ?_; rotate_left; (· (repeat (first | (with_reducible assumption) | ((with_reducible refine Has.box _ _ ?_ ?_) <;> (first | assumption | decide)) | (with_reducible refine Has.alloc ?_ _) | ((with_reducible refine Has.putOther ?_ _ _ ?_); rotate_left; omega; skip) | ((with_reducible refine Has.below ?_ ?_); rotate_left; assumption)))); (· (first | assumption | rfl)); (· kernel_rfl)))
    exact bodyPost_ret (res_has1 rfl _ _ (w.heap.size + 1 + 1) z24 24 _ (.bool false) rfl rfl S1.out Try.underlying31 rfl (by kernel_rfl)) rfl ⟨by rw [F1.out, F2.out], S2.out⟩
end Go.Proofs.Ytcedpjjfcfeokaa.base
