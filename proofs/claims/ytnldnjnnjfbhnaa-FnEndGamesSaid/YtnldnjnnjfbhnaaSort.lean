/-
  Whether a rack is sorted: plain mathematics, and the model's side, walked.
-/
import Derived.Test.YtnldnjnnjfbhnaaRuns
import Derived.Test.YtnldnjnnjfbhnaaDoors
import Derived.Test.YtnldnjnnjfbhnaaRackTo
import Derived.Maps.AppendAt
namespace Go.Proofs.Ytnldnjnnjfbhnaa.base
open Go.ChangeShapes Go.WideShapes Go.ChangeAt Go.RowKit
set_option linter.unusedVariables false
set_option linter.unusedSimpArgs false

def badT (cs : List Int) (t : List Int) : Bool := decide (1 < runsN t (lay t)) || (decide (runsN t (lay t) = 1) && decide (topC t ∈ cs))
/-- The colors of the first p tubes that are not empty. -/
def cols (ns : List Int) : Nat → List Int
  | 0 => []
  | p + 1 => if lay (tub ns p) = 0 then cols ns p else cols ns p ++ [topC (tub ns p)]
theorem cols_len (ns : List Int) : ∀ p, (cols ns p).length ≤ p
  | 0 => Nat.le_refl _
  | p + 1 => by
    have := cols_len ns p
    rw [cols]
    by_cases h : lay (tub ns p) = 0
    · rw [if_pos h]; omega
    · rw [if_neg h, List.length_append]; simp; exact this
def sortedA (ns : List Int) : Bool := vR ns && (List.range 6).all fun p => !badT (cols ns p) (tub ns p)
theorem sorted_no {ns : List Int} (p : Nat) (hp : p < 6) (h : badT (cols ns p) (tub ns p) = true) : sortedA ns = false := by
  unfold sortedA
  rw [Bool.and_eq_false_iff]
  right
  rw [List.all_eq_false]
  exact ⟨p, by simpa using hp, by rw [h]; simp⟩
theorem sorted_yes {ns : List Int} (hv : vR ns = true) (h : ∀ p, p < 6 → badT (cols ns p) (tub ns p) = false) : sortedA ns = true := by
  unfold sortedA
  rw [hv, Bool.true_and, List.all_eq_true]
  intro p hp
  rw [h p (by simpa using hp)]; rfl
theorem sorted_not {ns : List Int} (hv : vR ns = false) : sortedA ns = false := by unfold sortedA; rw [hv]; rfl
def sortOK (t : List Int) : Bool :=
  (decide (runsN t (lay t) = 0) == decide (lay t = 0)) && (decide (runsN t (lay t) = 1) == (decide (lay t ≠ 0) && decide (topN t = lay t))) && (!decide (runsN t (lay t) = 1) || (runsF t (lay t)).getD 0 0 == topC t)
theorem sortOK_all : allT.all sortOK = true := by decide +kernel
structure SortFacts (t : List Int) : Prop where
  zero : runsN t (lay t) = 0 ↔ lay t = 0
  one : runsN t (lay t) = 1 ↔ (lay t ≠ 0 ∧ topN t = lay t)
  col : runsN t (lay t) = 1 → (runsF t (lay t)).getD 0 0 = topC t
theorem sortFacts {t : List Int} (h4 : t.length = 4) (hv : vT t = true) : SortFacts t := by
  have h := forT sortOK sortOK_all h4 hv
  unfold sortOK at h
  simp only [Bool.and_eq_true] at h
  obtain ⟨⟨h1, h2⟩, h3⟩ := h
  refine ⟨decide_eq_decide.1 (eq_of_beq h1), ?_, fun e => ?_⟩
  · have := eq_of_beq h2
    rw [Bool.eq_iff_iff] at this
    simpa using this
  · simp only [e, decide_true, Bool.not_true, Bool.false_or] at h3
    exact eq_of_beq h3
theorem bad_zero {cs t : List Int} (F : SortFacts t) (h : lay t = 0) : badT cs t = false := by
  have := F.zero.2 h
  unfold badT; rw [this]; simp
theorem bad_many {cs t : List Int} (h : 1 < runsN t (lay t)) : badT cs t = true := by unfold badT; rw [decide_eq_true h]; rfl
theorem bad_one {cs t : List Int} (h : runsN t (lay t) = 1) : badT cs t = decide (topC t ∈ cs) := by unfold badT; rw [h]; simp
theorem cols_zero {ns : List Int} {p : Nat} (h : lay (tub ns p) = 0) : cols ns (p + 1) = cols ns p := by rw [cols, if_pos h]
theorem cols_new {ns : List Int} {p : Nat} (h : lay (tub ns p) ≠ 0) : cols ns (p + 1) = cols ns p ++ [topC (tub ns p)] := by rw [cols, if_neg h]

/-! rows of numbers that are the call's own -/
theorem infoInt : (Try.prog.info? 3).map (fun i => (i.zero, i.size, i.bytes)) = some (some (.int .i64 0), 1, 8) := by kernel_rfl
def Ow (w : World) (b : Nat) (v : Value) (n : Nat) (xs : List Int) : Prop := w.ownsRow b 3 1 v n (ints xs)
theorem Ow.below {w w' : World} {b : Nat} {v : Value} {n : Nat} {fs : List Int} (h : Ow w b v n fs) (m : Below w.heap.size w w') : Ow w' b v n fs :=
  World.ownsRow.kept (row := none) h ⟨m.os, m.tape, m.output, m.size, fun k hk _ => m.block k hk⟩ (by cases v.ownBlock <;> simp)
theorem Ow.none (w : World) (b : Nat) (hb : b ≤ w.heap.size) : Ow (w.alloc (.cells #[] 3)) b (.slice (some ⟨w.heap.size, 0, Option.none⟩) 0 0) 0 [] := by
  have := World.ownsRow_made (base := b) (e := 3) (size := 1) w #[] 0 hb (by unfold maxLen; omega) (by simp)
  simpa [Ow, ints] using this
theorem Ow.form {w : World} {b : Nat} {v : Value} {n : Nat} {fs : List Int} (h : Ow w b v n fs) (hn : 0 < n) : ∃ g cap, v = .slice (some ⟨g, 0, Option.none⟩) n cap ∧ b ≤ g ∧ g < w.heap.size := by
  rcases h.2 with ⟨_, h0⟩ | ⟨g, cap, cur, hv, hb, hg, _⟩
  · omega
  · exact ⟨g, cap, hv, hb, lt_of_block hg⟩
theorem own_zero {w : World} {b : Nat} {e : TypeId} {s : Nat} {v : Value} {xs : List Value} (h : w.ownsRow b e s v 0 xs) : ∃ a cap, v = .slice a 0 cap := by
  rcases h.2 with ⟨h0, _⟩ | ⟨g, cap, cur, hv, _⟩
  · exact ⟨_, _, h0⟩
  · exact ⟨_, _, hv⟩

end Go.Proofs.Ytnldnjnnjfbhnaa.base
