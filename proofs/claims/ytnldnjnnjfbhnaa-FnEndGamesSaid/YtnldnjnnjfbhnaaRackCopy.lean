/-
  A rack is copied field by field, walked.
-/
import Derived.Test.YtnldnjnnjfbhnaaProg
import Derived.WalkKit
import Derived.ProofKit
import Derived.WalkLawsBesides
import Derived.WalkSpells
import Derived.LoopTactic
import Derived.Lib.Hide
import Derived.IntWalk
import Derived.Below
import Derived.Deep.OwnRows
import Derived.Deep.MidRow
namespace Go.Proofs.Ytnldnjnnjfbhnaa.base
open Go.ChangeShapes Go.WideShapes Go.ChangeAt Go.RowKit
set_option linter.unusedVariables false
set_option linter.unusedSimpArgs false

def row (ns : List Int) : Value := .agg (ns.map (Value.int .i64)).toArray

theorem results_cell_mid {P : Program} {fn : Func} {p : Tmp} {ty : TypeId} (h : fn.results = #[.cell p ty]) (tmps : Array Value) (w : World) (b : Nat) (cs : List Value) (d : TypeDesc)
    (hp : tmps.getD p undef = .pointer (some ⟨b, 0, none⟩)) (hc : w.rangeAt b 0 cs) (hu : P.underlying ty = some d) (hd : d.isRow = true) (hi : (P.info? ty).map (·.size) = some cs.length) :
    (results fn tmps).run P w = .ok (.agg cs.toArray) w := by
  have hp' : tmps[p]?.getD undef = .pointer (some ⟨b, 0, none⟩) := by simpa using hp
  simp [results, h, hp', asAddr, run_loadVar_mid w b 0 ty cs d hc hu hd hi]

theorem below_setCells {B : Nat} (b : Nat) (hB : B ≤ b) : ∀ (vs : List Value) (o : Nat) (a w : World), Below B a w → Below B a (w.setCells b o vs) := by
  intro vs
  induction vs with
  | nil => intro o a w h; exact h
  | cons v r ih => intro o a w h; exact ih (o + 1) a _ (h.setCell hB v)

def at4 (ns : List Int) (k j : Nat) : Value := .int .i64 (if j < k then ns.getD j 0 else 0)

theorem at4_step (ns : List Int) (k j : Nat) : (if j = k then at4 ns 4 k else at4 ns k j) = at4 ns (k + 1) j ∨ 4 ≤ k := by
  by_cases hk : k < 4
  · left
    unfold at4
    by_cases e : j = k
    · subst e; rw [if_pos rfl, if_pos hk, if_pos (by omega)]
    · rw [if_neg e]
      by_cases h : j < k
      · rw [if_pos h, if_pos (by omega)]
      · rw [if_neg h, if_neg (by omega)]
  · right; omega

theorem range_sub {w : World} {b : Nat} {cs : List Value} (h : w.rangeAt b 0 cs) (o n : Nat) : w.rangeAt b o ((cs.drop o).take n) := fun j v hj => by
  have := h (o + j) v (by
    rw [List.getElem?_take] at hj
    split at hj
    · rw [List.getElem?_drop] at hj; exact hj
    · cases hj)
  simpa using this
theorem range_put {w : World} {b : Nat} {cs : List Value} (h : w.rangeAt b 0 cs) (o : Nat) (vs : List Value) (ht : w.there b o vs.length) (hl : o + vs.length ≤ cs.length) :
    (w.setCells b o vs).rangeAt b 0 (cs.take o ++ vs ++ cs.drop (o + vs.length)) := fun j v hj => by
  rw [Nat.zero_add]
  have hto : (cs.take o).length = o := by rw [List.length_take]; omega
  by_cases h1 : j < o
  · rw [List.getElem?_append_left (by rw [List.length_append]; omega), List.getElem?_append_left (by omega), List.getElem?_take, if_pos h1] at hj
    rw [World.cell?_setCells_out b vs o w ⟨b, j, none⟩ (fun _ _ => .inl h1)]
    have := h j v hj; simpa using this
  · by_cases h2 : j < o + vs.length
    · rw [List.getElem?_append_left (by rw [List.length_append]; omega), List.getElem?_append_right (by omega), hto] at hj
      have := World.cell?_setCells_in b vs o w (fun q hq => (ht q hq).1) (j - o) (by omega)
      rw [show o + (j - o) = j by omega] at this
      rw [this, ← List.getElem?_eq_getElem, hj]
    · rw [List.getElem?_append_right (by rw [List.length_append]; omega), List.length_append, hto, List.getElem?_drop] at hj
      rw [show o + vs.length + (j - (o + vs.length)) = j by omega] at hj
      rw [World.cell?_setCells_out b vs o w ⟨b, j, none⟩ (fun _ _ => .inr (by show o + vs.length ≤ j; omega))]
      have := h j v hj; simpa using this

def zeros : List Value := List.replicate 24 (.int .i64 0)
def upRows (cs : List Value) (k : Nat) : List Value := cs.take (k * 4) ++ zeros.drop (k * 4)

theorem range_new (w : World) (c : Array Value) (t : TypeId) : (w.alloc (.cells c t)).rangeAt w.heap.size 0 c.toList := fun j v hj => by
  have hl : j < c.size := by have := (List.getElem?_eq_some_iff.1 hj).1; simpa using this
  unfold World.cell? World.alloc
  simp at hj ⊢
  exact hj
theorem there_new (w : World) (c : Array Value) (t : TypeId) : (w.alloc (.cells c t)).there w.heap.size 0 c.size := fun j hj => by
  unfold World.cell? World.frozen? World.alloc
  simp [hj]
theorem range_below {B : Nat} {w w' : World} {b o : Nat} {cs : List Value} (h : w.rangeAt b o cs) (m : Below B w w') (hb : b < B) : w'.rangeAt b o cs := fun j v hj => (m.cell (p := ⟨b, o + j, none⟩) hb).trans (h j v hj)
theorem there_below {B : Nat} {w w' : World} {b o n : Nat} (h : w.there b o n) (m : Below B w w') (hb : b < B) : w'.there b o n := fun j hj => by
  rw [m.cell (p := ⟨b, o + j, none⟩) hb, m.frozen (p := ⟨b, o + j, none⟩) hb]; exact h j hj
theorem there_sub {w : World} {b o n : Nat} (h : w.there b 0 n) (m : Nat) (hm : o + m ≤ n) : w.there b o m := fun j hj => by
  have := h (o + j) (by omega); simpa using this

theorem range_other {w : World} {b o : Nat} {cs : List Value} (h : w.rangeAt b o cs) (b' o' : Nat) (vs : List Value) (hb : b ≠ b') : (w.setCells b' o' vs).rangeAt b o cs := World.rangeAt_setCells_apart h b' o' vs (.inl hb)
theorem there_put {w : World} {b n : Nat} (h : w.there b 0 n) (o' : Nat) (vs : List Value) {b' : Nat} : (w.setCells b' o' vs).there b 0 n := World.there_setCells h b' o' vs
theorem size_setCells (b : Nat) : ∀ (vs : List Value) (o : Nat) (w : World), (w.setCells b o vs).heap.size = w.heap.size := by
  intro vs
  induction vs with
  | nil => intro o w; rfl
  | cons v r ih => intro o w; show ((w.setCell ⟨b, o, none⟩ v).setCells b (o + 1) r).heap.size = _; rw [ih]; simp [World.setCell]
theorem upRows_put (cs : List Value) (k : Nat) (h : cs.length = 24) (hk : k < 6) : (upRows cs k).take (k * 4) ++ (cs.drop (k * 4)).take 4 ++ (upRows cs k).drop (k * 4 + 4) = upRows cs (k + 1) := by
  have h1 : (cs.take (k * 4)).length = k * 4 := by rw [List.length_take]; omega
  have e1 : (upRows cs k).take (k * 4) = cs.take (k * 4) := by
    unfold upRows; rw [List.take_append_of_le_length (by omega)]; exact List.take_of_length_le (by omega)
  have e2 : (upRows cs k).drop (k * 4 + 4) = zeros.drop ((k + 1) * 4) := by
    unfold upRows; rw [List.drop_append, List.drop_of_length_le (by omega), List.nil_append, List.drop_drop, h1]; congr 1; omega
  rw [e1, e2]
  show _ = cs.take ((k + 1) * 4) ++ zeros.drop ((k + 1) * 4)
  rw [show (k + 1) * 4 = k * 4 + 4 by omega, List.take_add]

end Go.Proofs.Ytnldnjnnjfbhnaa.base
