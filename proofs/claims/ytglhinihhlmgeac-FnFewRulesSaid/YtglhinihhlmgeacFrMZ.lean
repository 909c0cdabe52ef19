/-
  What the law of few pours by a rule says, in plain mathematics.
-/
/-
  The fewest pours by a rule that sort a rack, on the model's side, walked.
-/
import Derived.Test.YtglhinihhlmgeacFewI
import Derived.Test.YtglhinihhlmgeacSrtS

section
namespace Go.Proofs.Ytglhinihhlmgeac.base
set_option linter.unusedVariables false
set_option linter.unusedSimpArgs false

theorem few_get {P : List Int → Bool} {ds : List Int} {x : Int} {r : List Int} {i : Nat} : ∀ (g k : Nat), fewFrom P ds x r k g = some i → k ≤ i ∧ i < k + g ∧ srt P ds x i r = true ∧ ∀ m, k ≤ m → m < i → srt P ds x m r = false
  | 0, k, h => by rw [fewFrom] at h; exact absurd h (by simp)
  | g + 1, k, h => by
    rw [fewFrom] at h
    by_cases e : srt P ds x k r = true
    · rw [if_pos e] at h
      injection h with h
      subst h
      exact ⟨Nat.le_refl _, by omega, e, fun m h1 h2 => by omega⟩
    · rw [if_neg e] at h
      obtain ⟨h1, h2, h3, h4⟩ := few_get g (k + 1) h
      refine ⟨by omega, by omega, h3, fun m hm1 hm2 => ?_⟩
      by_cases e2 : m = k
      · subst e2; simpa using e
      · exact h4 m (by omega) hm2
theorem few_non {P : List Int → Bool} {ds : List Int} {x : Int} {r : List Int} : ∀ (g k : Nat), fewFrom P ds x r k g = none → ∀ m, k ≤ m → m < k + g → srt P ds x m r = false
  | 0, k, _, m, h1, h2 => by omega
  | g + 1, k, h, m, h1, h2 => by
    rw [fewFrom] at h
    by_cases e : srt P ds x k r = true
    · rw [if_pos e] at h; exact absurd h (by simp)
    · rw [if_neg e] at h
      by_cases e2 : m = k
      · subst e2; simpa using e
      · exact few_non g (k + 1) h m (by omega) (by omega)
theorem srt_up {P : List Int → Bool} {ds : List Int} {x : Int} {r : List Int} {j m : Nat} (hj : j < nbN ds x r) (h : srt P ds x m (nbAt r ds x j) = true) : srt P ds x (m + 1) r = true := by
  rw [srt, Bool.or_eq_true, List.any_eq_true]
  exact .inr ⟨j, List.mem_range.2 hj, h⟩
/-- That f is the least number of pours that is enough. -/
structure Least (ds : List Int) (x : Int) (r : List Int) (f : Nat) : Prop where
  yes : srt sortedA ds x f r = true
  no : ∀ m, m < f → srt sortedA ds x m r = false
  le : f ≤ 3
theorem fe_least {ns ds : List Int} {x : Int} (h : feOk ns ds x = true) : ∃ f : Nat, feA ns ds x = (f : Int) ∧ byOk ns ds x = true ∧ Least ds x ns f := by
  unfold feOk at h
  unfold feA
  obtain ⟨f, e⟩ := Option.isSome_iff_exists.1 h
  rw [e]
  unfold feW at e
  by_cases hb : byOk ns ds x = true
  · rw [if_pos hb] at e
    obtain ⟨h1, h2, h3, h4⟩ := few_get 4 0 e
    exact ⟨f, rfl, hb, h3, fun m hm => h4 m (Nat.zero_le _) hm, by omega⟩
  · rw [if_neg hb] at e; exact absurd e (by simp)
theorem least_zero {ds : List Int} {x : Int} {r : List Int} {f : Nat} (h : Least ds x r f) : sortedA r = decide (f = 0) := by
  by_cases e : f = 0
  · subst e; rw [decide_eq_true rfl]; exact h.yes
  · rw [decide_eq_false e]; exact h.no 0 (by omega)
/-- The best that the racks behind the first k pours have. -/
def bst (ds : List Int) (x : Int) (r : List Int) (f k : Nat) : Int := if anyTo sortedA ds x (f - 1) r k = true then (f : Int) - 1 else (f : Int)
theorem bst_zero (ds : List Int) (x : Int) (r : List Int) (f : Nat) : bst ds x r f 0 = (f : Int) := by
  unfold bst; rw [show anyTo sortedA ds x (f - 1) r 0 = false from rfl]; rfl
theorem bst_in (ds : List Int) (x : Int) (r : List Int) (f k : Nat) : (f : Int) - 1 ≤ bst ds x r f k ∧ bst ds x r f k ≤ (f : Int) := by
  unfold bst; split <;> omega
theorem bst_step {ds : List Int} {x : Int} {r : List Int} {f k : Nat} (h : Least ds x r f) (h0 : 0 < f) (hk : k < nbN ds x r) (hg : byOk (nbAt r ds x k) ds x = true) :
    bst ds x r f (k + 1) = if feOk (nbAt r ds x k) ds x = true ∧ feA (nbAt r ds x k) ds x < bst ds x r f k then feA (nbAt r ds x k) ds x else bst ds x r f k := by
  have up := fun m (hm : srt sortedA ds x m (nbAt r ds x k) = true) => srt_up hk hm
  have asx := anyTo_succ sortedA ds x (f - 1) r k
  have hl := h.le
  unfold feOk feA feW
  rw [if_pos hg]
  cases e : fewFrom sortedA ds x (nbAt r ds x k) 0 4 with
  | none =>
    have := few_non 4 0 e (f - 1) (Nat.zero_le _) (by omega)
    rw [this, Bool.or_false] at asx
    rw [if_neg (by simp)]
    unfold bst; rw [asx]
  | some g =>
    obtain ⟨_, h2, h3, h4⟩ := few_get 4 0 e
    have hgf : f - 1 ≤ g := by
      refine Nat.le_of_not_lt fun hlt => ?_
      have := up g h3
      rw [h.no (g + 1) (by omega)] at this
      exact absurd this (by simp)
    dsimp only
    by_cases e2 : g = f - 1
    · subst e2
      rw [h3, Bool.or_true] at asx
      have e3 : bst ds x r f (k + 1) = (f : Int) - 1 := by unfold bst; rw [if_pos asx]
      have e4 : ((f - 1 : Nat) : Int) = (f : Int) - 1 := by omega
      have := bst_in ds x r f k
      rw [e3]
      simp only [e4]
      by_cases e5 : (f : Int) - 1 < bst ds x r f k
      · rw [if_pos ⟨rfl, e5⟩]
      · rw [if_neg (fun h => e5 h.2)]; omega
    · have := h4 (f - 1) (Nat.zero_le _) (by omega)
      rw [this, Bool.or_false] at asx
      have hb := bst_in ds x r f k
      rw [if_neg (fun hh => by have := hh.2; omega)]
      unfold bst; rw [asx]
theorem bst_end {ds : List Int} {x : Int} {r : List Int} {f : Nat} (h : Least ds x r f) (h0 : 0 < f) : bst ds x r f (nbN ds x r) = (f : Int) - 1 := by
  have y := h.yes
  have n := h.no 0 h0
  obtain ⟨g, rfl⟩ : ∃ g, f = g + 1 := ⟨f - 1, by omega⟩
  rw [srt, show sortedA r = false from n, Bool.false_or] at y
  have : anyTo sortedA ds x (g + 1 - 1) r (nbN ds x r) = true := y
  unfold bst; rw [if_pos this]
/-- Racks are seen once more with each pour more. -/
theorem re_grow {ns ds : List Int} {x n : Int} (h : reOk ns ds x n = true) (hn : 0 < n) : reOk ns ds x (n - 1) = true ∧ reA ns ds x (n - 1) ≤ reA ns ds x n ∧ 1 ≤ reA ns ds x (n - 1) := by
  have hb : byOk ns ds x = true := by unfold reOk at h; exact (Bool.and_eq_true_iff.1 h).1
  have h2 : 0 ≤ n ∧ n ≤ 2 := by unfold reOk at h; exact of_decide_eq_true (Bool.and_eq_true_iff.1 h).2
  have hm : reOk ns ds x (n - 1) = true := by unfold reOk; rw [hb, decide_eq_true (show 0 ≤ n - 1 ∧ n - 1 ≤ 2 by omega)]; rfl
  have st : ∀ i, (rkP ds x ns i).1.length ≤ (rkP ds x ns (i + 1)).1.length := fun i =>
    (growL_len (ds := ds) (x := x) (S := (rkP ds x ns i).1) (L := (rkP ds x ns i).2) (rkP ds x ns i).2.length).1
  have pos : ∀ i, 1 ≤ (rkP ds x ns i).1.length := fun i => by
    induction i with
    | zero => exact Nat.le_refl _
    | succ i ih => exact Nat.le_trans ih (st i)
  refine ⟨hm, ?_, ?_⟩
  · unfold reA; rw [if_pos h, if_pos hm]
    have : n.toNat = (n - 1).toNat + 1 := by omega
    rw [this]; have := st (n - 1).toNat; omega
  · unfold reA; rw [if_pos hm]; have := pos (n - 1).toNat; omega
end Go.Proofs.Ytglhinihhlmgeac.base
end

section
namespace Go.Proofs.Ytglhinihhlmgeac.base
open Go.ChangeShapes Go.WideShapes Go.ChangeAt Go.RowKit
set_option linter.unusedVariables false
set_option linter.unusedSimpArgs false

set_option maxHeartbeats 3200000 in
set_option maxRecDepth 100000 in
theorem specFewest (ns ds : List Int) (x : Int) (w : World) (h24 : ns.length = 24) (h6 : ds.length = 6) :
    Calls Try.prog 7 #[row ns, row ds, .int .i64 x] w fun e w' => e = .returned (.tuple #[.int .i64 (feA ns ds x), .bool (feOk ns ds x)]) ∧ Kept w w' := by
  have HB := Lib.hid (((kept_refl w).alloc (.cells (ints ns).toArray 27)).alloc (.cells (ints ds).toArray 28))
  have H := (Has.box w 27 h24 (by omega)).alloc (.cells (ints ds).toArray 28)
  have D := (Has.box (w.alloc (.cells (ints ns).toArray 27)) 28 h6 (by omega)).at (size1 _ _)
  rw [row_ints, row_ints]
  go_enter Try.func7, Try.ntmps7
  go_wp2_with (first | (refine load_has rfl 27 _ rfl _ rfl ?_ 24 ?_ _ Try.underlying27 rfl ?_ ?_; rotate_left; (· (repeat (first | (with_reducible assumption) | ((with_reducible refine Has.box _ _ ?_ ?_) <;> (first | assumption | decide)) | (with_reducible refine Has.alloc ?_ _) | ((with_reducible refine Has.putOther ?_ _ _ ?_); rotate_left; omega; skip) | ((with_reducible refine Has.below ?_ ?_); rotate_left; assumption)))); (· kernel_rfl)) | (refine load_has rfl 28 _ rfl _ rfl ?_ 6 ?_ _ Try.underlying28 rfl ?_ ?_; rotate_left; (· (repeat (first | (with_reducible assumption) | ((with_reducible refine Has.box _ _ ?_ ?_) <;> (first | assumption | decide)) | (with_reducible refine Has.alloc ?_ _) | ((with_reducible refine Has.putOther ?_ _ _ ?_); rotate_left; omega; skip) | ((with_reducible refine Has.below ?_ ?_); rotate_left; assumption)))); (· kernel_rfl)))
  refine (l8Fits_any ns ds _ h24 h6).mono ?_
  rintro e w1 ⟨rfl, b1⟩
  replace H := H.below b1
  replace D := D.below b1
  replace HB := Lib.hid (HB.out.call b1)
  clear b1
  by_cases hf : fitA ns ds = true
  · have HF := Lib.hid hf
    rw [hf]
    clear hf
    go_wp2_with fail
    refine (l8Rule_any x _).mono ?_
    rintro e w' ⟨rfl, rfl⟩
    by_cases hr : ruleV x = true
    · rw [hr]
      have OK := Lib.hid (show byOk ns ds x = true by unfold byOk; rw [HF.out, hr]; rfl)
      have KS := Lib.hid (fun d (hd : d ≤ 3) V => l8Sorts_any ds x h6 hr d hd ns ⟨h24, HF.out⟩ V)
      clear hr
      go_wp2_with fail
      go_loopw [8] (fun z wr => ∃ i : Nat, i ≤ 4 ∧ z = .int .i64 i ∧ Hid (∀ m, m < i → srt sortedA ds x m ns = false) ∧ Has wr w.heap.size ns 24 ∧ Has wr (w.heap.size + 1) ds 6 ∧ Hid (Kept w wr)) (fun z _ => 4 - (intOf z).toNat)
      case atStart => exact ⟨0, by omega, rfl, Lib.hid (fun m hm => by omega), H, D, HB⟩
      case round =>
        clear H D HB
        obtain ⟨i, hi, rfl, SF, H, D, HB⟩ := hrel
        by_cases hi4 : i < 4
        · have hii : (i : Int) ≤ 3 := by omega
          have hi3 : i ≤ 3 := by omega
          go_wp2_with (first | (refine load_has rfl 27 _ rfl _ rfl ?_ 24 ?_ _ Try.underlying27 rfl ?_ ?_; rotate_left; (· (repeat (first | (with_reducible assumption) | ((with_reducible refine Has.box _ _ ?_ ?_) <;> (first | assumption | decide)) | (with_reducible refine Has.alloc ?_ _) | ((with_reducible refine Has.putOther ?_ _ _ ?_); rotate_left; omega; skip) | ((with_reducible refine Has.below ?_ ?_); rotate_left; assumption)))); (· kernel_rfl)) | (refine load_has rfl 28 _ rfl _ rfl ?_ 6 ?_ _ Try.underlying28 rfl ?_ ?_; rotate_left; (· (repeat (first | (with_reducible assumption) | ((with_reducible refine Has.box _ _ ?_ ?_) <;> (first | assumption | decide)) | (with_reducible refine Has.alloc ?_ _) | ((with_reducible refine Has.putOther ?_ _ _ ?_); rotate_left; omega; skip) | ((with_reducible refine Has.below ?_ ?_); rotate_left; assumption)))); (· kernel_rfl)))
          refine (KS.out i hi3 _).mono ?_
          rintro e w5 ⟨rfl, b5⟩
          replace H := H.below b5
          replace D := D.below b5
          replace HB := Lib.hid (HB.out.call b5)
          clear b5
          cases hs : srt sortedA ds x i ns with
          | true =>
            have FE := Lib.hid (fe_some OK.out hi3 SF.out hs)
            clear hs
            go_wp2_with fail
            go_ret2
            exact ⟨by rw [FE.out.1, FE.out.2]; rfl, HB.out⟩
          | false =>
            have SF2 := Lib.hid (below_step SF.out hs)
            clear hs SF
            go_wp2_with fail
            go_roundw
            case rel => exact ⟨i + 1, by omega, by go_num, SF2, H, D, HB⟩
            case measure => simp [intOf]; omega
        · obtain rfl : i = 4 := by omega
          have FE := Lib.hid (fe_none (ns := ns) (ds := ds) (x := x) SF.out)
          go_wp2_with fail
          go_ret2
          exact ⟨by rw [FE.out.1, FE.out.2]; rfl, HB.out⟩
    · have hrf : ruleV x = false := by simpa using hr
      have FE := Lib.hid (fe_bad (show byOk ns ds x = false by unfold byOk; rw [hrf, Bool.and_false]))
      rw [hrf]
      clear hr hrf
      go_wp2_with fail
      go_ret2
      exact ⟨by rw [FE.out.1, FE.out.2]; rfl, HB.out⟩
  · have hff : fitA ns ds = false := by simpa using hf
    have FE := Lib.hid (fe_bad (show byOk ns ds x = false by unfold byOk; rw [hff]; rfl))
    rw [hff]
    clear hff hf
    go_wp2_with fail
    go_ret2
    exact ⟨by rw [FE.out.1, FE.out.2]; rfl, HB.out⟩
end Go.Proofs.Ytglhinihhlmgeac.base
end
