/-
  A rack is copied field by field, walked.
-/
/-
  A block that holds a known list of cells: what reading, storing and new blocks do to it.
-/
import Derived.Test.YtalngdccjoafhabProg
import Derived.WalkKit
import Derived.ProofKit
import Derived.WalkLawsBesides
import Derived.WalkSpells
import Derived.LoopTactic
import Derived.Lib.Hide
import Derived.IntWalk
import Derived.Below
import Derived.Deep.OwnRows
import Derived.Deep.MidRow

section
namespace Go.Proofs.Ytalngdccjoafhab.base
open Go.ChangeShapes Go.WideShapes Go.ChangeAt Go.RowKit
set_option linter.unusedVariables false
set_option linter.unusedSimpArgs false

def row (ns : List Int) : Value := .agg (ns.map (Value.int .i64)).toArray

theorem results_cell_mid {P : Program} {fn : Func} {p : Tmp} {ty : TypeId} (h : fn.results = #[.cell p ty]) (tmps : Array Value) (w : World) (b : Nat) (cs : List Value) (d : TypeDesc)
    (hp : tmps.getD p undef = .pointer (some ⟨b, 0, none⟩)) (hc : w.rangeAt b 0 cs) (hu : P.underlying ty = some d) (hd : d.isRow = true) (hi : (P.info? ty).map (·.size) = some cs.length) :
    (results fn tmps).run P w = .ok (.agg cs.toArray) w := by
  have hp' : tmps[p]?.getD undef = .pointer (some ⟨b, 0, none⟩) := by simpa using hp
  simp [results, h, hp', asAddr, run_loadVar_mid w b 0 ty cs d hc hu hd hi]

theorem below_setCells {B : Nat} (b : Nat) (hB : B ≤ b) : ∀ (vs : List Value) (o : Nat) (a w : World), Below B a w → Below B a (w.setCells b o vs) := by
  intro vs
  induction vs with
  | nil => intro o a w h; exact h
  | cons v r ih => intro o a w h; exact ih (o + 1) a _ (h.setCell hB v)

def at4 (ns : List Int) (k j : Nat) : Value := .int .i64 (if j < k then ns.getD j 0 else 0)

theorem at4_step (ns : List Int) (k j : Nat) : (if j = k then at4 ns 4 k else at4 ns k j) = at4 ns (k + 1) j ∨ 4 ≤ k := by
  by_cases hk : k < 4
  · left
    unfold at4
    by_cases e : j = k
    · subst e; rw [if_pos rfl, if_pos hk, if_pos (by omega)]
    · rw [if_neg e]
      by_cases h : j < k
      · rw [if_pos h, if_pos (by omega)]
      · rw [if_neg h, if_neg (by omega)]
  · right; omega

set_option maxHeartbeats 800000 in
theorem copy4 (ns : List Int) (w : World) (h : ns.length = 4) :
    Calls Try.prog 90 #[row ns] w fun e w' => e = .returned (row ns) ∧ Below w.heap.size w w' := by
  obtain ⟨a, b, c, d, rfl⟩ : ∃ a b c d, ns = [a, b, c, d] := by
    match ns, h with
    | [a, b, c, d], _ => exact ⟨a, b, c, d, rfl⟩
  unfold row
  simp only [List.map_cons, List.map_nil]
  go_enter Try.func90, Try.ntmps90
  go_wp2_with fail
  go_loopw [4] (fun i wr => ∃ k : Nat, k ≤ 4 ∧ i = .int .i64 k ∧ wr.rowIs w.heap.size 22 4 (at4 [a, b, c, d] 4) ∧ wr.rowIs (w.heap.size + 1 + 1) 22 4 (at4 [a, b, c, d] k) ∧ wr.rowIs (w.heap.size + 1) 22 4 (at4 [a, b, c, d] 0) ∧ Below w.heap.size w wr)
    (fun i _ => 4 - (intOf i).toNat)
  case atStart =>
    refine ⟨0, by omega, rfl, ?_, ?_, ?_, (((Below.refl _ _).alloc (Nat.le_refl _) _).alloc (by simp) _).alloc (by simp; omega) _⟩
    · refine World.rowIs.alloc (World.rowIs.alloc ?_ _) _
      exact World.rowIs_alloc w #[.int .i64 a, .int .i64 b, .int .i64 c, .int .i64 d] _ _ (fun i hi => by
        match i, hi with
        | 0, _ => rfl
        | 1, _ => rfl
        | 2, _ => rfl
        | 3, _ => rfl)
    · have := World.rowIs_alloc ((w.alloc (.cells #[.int .i64 a, .int .i64 b, .int .i64 c, .int .i64 d] 22)).alloc (.cells #[.int .i64 0, .int .i64 0, .int .i64 0, .int .i64 0] 22)) #[.int .i64 0, .int .i64 0, .int .i64 0, .int .i64 0] 22 (at4 [a, b, c, d] 0) (fun i hi => by
        match i, hi with
        | 0, _ => rfl
        | 1, _ => rfl
        | 2, _ => rfl
        | 3, _ => rfl)
      simpa using this
    · refine World.rowIs.alloc ?_ _
      have := World.rowIs_alloc (w.alloc (.cells #[.int .i64 a, .int .i64 b, .int .i64 c, .int .i64 d] 22)) #[.int .i64 0, .int .i64 0, .int .i64 0, .int .i64 0] 22 (at4 [a, b, c, d] 0) (fun i hi => by
        match i, hi with
        | 0, _ => rfl
        | 1, _ => rfl
        | 2, _ => rfl
        | 3, _ => rfl)
      simpa using this
  case round =>
    obtain ⟨k, hk, rfl, h0, h1, h2, hb⟩ := hrel
    by_cases hlt : k < 4
    · have c0 := h0.cell hlt
      have c1 := h1.cell hlt
      have f1 := h1.frozen k
      have e0 : w.heap.size ≠ w.heap.size + 1 + 1 := by omega
      have H0 := Lib.hid (h0.setOther (a := ⟨w.heap.size + 1 + 1, k, none⟩) e0 (at4 [a, b, c, d] 4 k))
      have H1 := Lib.hid ((h1.set k (at4 [a, b, c, d] 4 k)).congr (fun j _ => (at4_step [a, b, c, d] k j).resolve_right (by omega)))
      have H2 := Lib.hid (h2.setOther (a := ⟨w.heap.size + 1 + 1, k, none⟩) (show w.heap.size + 1 ≠ w.heap.size + 1 + 1 by omega) (at4 [a, b, c, d] 4 k))
      have HB := Lib.hid (hb.setCell (p := ⟨w.heap.size + 1 + 1, k, none⟩) (show w.heap.size ≤ w.heap.size + 1 + 1 by omega) (at4 [a, b, c, d] 4 k))
      clear h0 h1 h2 hb e0
      obtain ⟨x, hx⟩ : ∃ x, at4 [a, b, c, d] 4 k = .int .i64 x := ⟨_, rfl⟩
      rw [hx] at c0 H0 H1 H2 HB
      clear hx
      go_wp2_with fail
      go_roundw
      case rel => exact ⟨k + 1, by omega, by go_num, H0.out, H1.out, H2.out, HB.out⟩
      case measure => simp [intOf]; omega
    · obtain rfl : k = 4 := by omega
      have hr : wr.rangeAt (w.heap.size + 1 + 1) 0 [.int .i64 a, .int .i64 b, .int .i64 c, .int .i64 d] := fun j v hj => by
        have hj4 : j < 4 := (List.getElem?_eq_some_iff.1 hj).1
        rw [Nat.zero_add, h1.cell hj4, ← hj]
        match j, hj4 with
        | 0, _ => rfl
        | 1, _ => rfl
        | 2, _ => rfl
        | 3, _ => rfl
      have ht : wr.there (w.heap.size + 1) 0 4 := fun j hj => by
        rw [Nat.zero_add]; exact ⟨by rw [h2.cell hj]; rfl, h2.frozen j⟩
      go_wp2_with (first
        | (refine wpList_load_mid rfl 22 _ rfl (w.heap.size + 1 + 1) 0 rfl [.int .i64 a, .int .i64 b, .int .i64 c, .int .i64 d] _ hr Try.underlying22 rfl (by kernel_rfl) ?_)
        | (refine wpList_store_mid rfl 22 _ _ rfl (w.heap.size + 1) 0 #[.int .i64 a, .int .i64 b, .int .i64 c, .int .i64 d] rfl rfl ht (by kernel_rfl) (by kernel_rfl) ?_))
      exact bodyPost_ret (v := .agg #[.int .i64 a, .int .i64 b, .int .i64 c, .int .i64 d]) (results_cell_mid (P := Try.prog) rfl _ _ (w.heap.size + 1) [.int .i64 a, .int .i64 b, .int .i64 c, .int .i64 d] _ rfl
        (World.rangeAt_setCells_same wr (w.heap.size + 1) 0 _ ht) Try.underlying22 rfl (by kernel_rfl)) rfl ⟨rfl, below_setCells _ (Nat.le_succ _) _ _ _ _ hb⟩

theorem range_sub {w : World} {b : Nat} {cs : List Value} (h : w.rangeAt b 0 cs) (o n : Nat) : w.rangeAt b o ((cs.drop o).take n) := fun j v hj => by
  have := h (o + j) v (by
    rw [List.getElem?_take] at hj
    split at hj
    · rw [List.getElem?_drop] at hj; exact hj
    · cases hj)
  simpa using this
theorem range_put {w : World} {b : Nat} {cs : List Value} (h : w.rangeAt b 0 cs) (o : Nat) (vs : List Value) (ht : w.there b o vs.length) (hl : o + vs.length ≤ cs.length) :
    (w.setCells b o vs).rangeAt b 0 (cs.take o ++ vs ++ cs.drop (o + vs.length)) := fun j v hj => by
  rw [Nat.zero_add]
  have hto : (cs.take o).length = o := by rw [List.length_take]; omega
  by_cases h1 : j < o
  · rw [List.getElem?_append_left (by rw [List.length_append]; omega), List.getElem?_append_left (by omega), List.getElem?_take, if_pos h1] at hj
    rw [World.cell?_setCells_out b vs o w ⟨b, j, none⟩ (fun _ _ => .inl h1)]
    have := h j v hj; simpa using this
  · by_cases h2 : j < o + vs.length
    · rw [List.getElem?_append_left (by rw [List.length_append]; omega), List.getElem?_append_right (by omega), hto] at hj
      have := World.cell?_setCells_in b vs o w (fun q hq => (ht q hq).1) (j - o) (by omega)
      rw [show o + (j - o) = j by omega] at this
      rw [this, ← List.getElem?_eq_getElem, hj]
    · rw [List.getElem?_append_right (by rw [List.length_append]; omega), List.length_append, hto, List.getElem?_drop] at hj
      rw [show o + vs.length + (j - (o + vs.length)) = j by omega] at hj
      rw [World.cell?_setCells_out b vs o w ⟨b, j, none⟩ (fun _ _ => .inr (by show o + vs.length ≤ j; omega))]
      have := h j v hj; simpa using this

def zeros : List Value := List.replicate 24 (.int .i64 0)
def upRows (cs : List Value) (k : Nat) : List Value := cs.take (k * 4) ++ zeros.drop (k * 4)

theorem range_new (w : World) (c : Array Value) (t : TypeId) : (w.alloc (.cells c t)).rangeAt w.heap.size 0 c.toList := fun j v hj => by
  have hl : j < c.size := by have := (List.getElem?_eq_some_iff.1 hj).1; simpa using this
  unfold World.cell? World.alloc
  simp at hj ⊢
  exact hj
theorem there_new (w : World) (c : Array Value) (t : TypeId) : (w.alloc (.cells c t)).there w.heap.size 0 c.size := fun j hj => by
  unfold World.cell? World.frozen? World.alloc
  simp [hj]
theorem range_below {B : Nat} {w w' : World} {b o : Nat} {cs : List Value} (h : w.rangeAt b o cs) (m : Below B w w') (hb : b < B) : w'.rangeAt b o cs := fun j v hj => (m.cell (p := ⟨b, o + j, none⟩) hb).trans (h j v hj)
theorem there_below {B : Nat} {w w' : World} {b o n : Nat} (h : w.there b o n) (m : Below B w w') (hb : b < B) : w'.there b o n := fun j hj => by
  rw [m.cell (p := ⟨b, o + j, none⟩) hb, m.frozen (p := ⟨b, o + j, none⟩) hb]; exact h j hj
theorem there_sub {w : World} {b o n : Nat} (h : w.there b 0 n) (m : Nat) (hm : o + m ≤ n) : w.there b o m := fun j hj => by
  have := h (o + j) (by omega); simpa using this

theorem range_other {w : World} {b o : Nat} {cs : List Value} (h : w.rangeAt b o cs) (b' o' : Nat) (vs : List Value) (hb : b ≠ b') : (w.setCells b' o' vs).rangeAt b o cs := World.rangeAt_setCells_apart h b' o' vs (.inl hb)
theorem there_put {w : World} {b n : Nat} (h : w.there b 0 n) (o' : Nat) (vs : List Value) {b' : Nat} : (w.setCells b' o' vs).there b 0 n := World.there_setCells h b' o' vs
theorem size_setCells (b : Nat) : ∀ (vs : List Value) (o : Nat) (w : World), (w.setCells b o vs).heap.size = w.heap.size := by
  intro vs
  induction vs with
  | nil => intro o w; rfl
  | cons v r ih => intro o w; show ((w.setCell ⟨b, o, none⟩ v).setCells b (o + 1) r).heap.size = _; rw [ih]; simp [World.setCell]
theorem upRows_put (cs : List Value) (k : Nat) (h : cs.length = 24) (hk : k < 6) : (upRows cs k).take (k * 4) ++ (cs.drop (k * 4)).take 4 ++ (upRows cs k).drop (k * 4 + 4) = upRows cs (k + 1) := by
  have h1 : (cs.take (k * 4)).length = k * 4 := by rw [List.length_take]; omega
  have e1 : (upRows cs k).take (k * 4) = cs.take (k * 4) := by
    unfold upRows; rw [List.take_append_of_le_length (by omega)]; exact List.take_of_length_le (by omega)
  have e2 : (upRows cs k).drop (k * 4 + 4) = zeros.drop ((k + 1) * 4) := by
    unfold upRows; rw [List.drop_append, List.drop_of_length_le (by omega), List.nil_append, List.drop_drop, h1]; congr 1; omega
  rw [e1, e2]
  show _ = cs.take ((k + 1) * 4) ++ zeros.drop ((k + 1) * 4)
  rw [show (k + 1) * 4 = k * 4 + 4 by omega, List.take_add]

set_option maxHeartbeats 1600000 in
theorem copy24 (ns : List Int) (w : World) (h : ns.length = 24) :
    Calls Try.prog 64 #[row ns] w fun e w' => e = .returned (row ns) ∧ Below w.heap.size w w' := by
  unfold row
  have hcl : (ns.map (Value.int .i64)).length = 24 := by simp [h]
  generalize hcs : ns.map (Value.int .i64) = cs at *
  have hrow : ∀ k, k < 6 → ∃ ms : List Int, ms.length = 4 ∧ (cs.drop (k * 4)).take 4 = ms.map (Value.int .i64) := fun k hk =>
    ⟨(ns.drop (k * 4)).take 4, by rw [List.length_take, List.length_drop]; omega, by rw [← hcs, List.map_take, List.map_drop]⟩
  have HR := Lib.hid hrow
  have HO : Hid (∀ v ∈ cs, v.oneCell' = true) := Lib.hid (fun v hv => by rw [← hcs] at hv; obtain ⟨z, _, rfl⟩ := List.mem_map.1 hv; rfl)
  clear hrow hcs
  have hz : (w.alloc (.cells cs.toArray 23)).heap.size = w.heap.size + 1 := by simp
  go_enter Try.func64, Try.ntmps64
  go_wp2_with fail
  go_loopw [4] (fun i wr => ∃ k : Nat, k ≤ 6 ∧ i = .int .i64 k ∧ Hid (wr.rangeAt w.heap.size 0 cs) ∧ Hid (wr.rangeAt (w.heap.size + 1 + 1) 0 (upRows cs k)) ∧ Hid (wr.there (w.heap.size + 1 + 1) 0 24) ∧ Hid (wr.there (w.heap.size + 1) 0 24) ∧ Below w.heap.size w wr ∧ w.heap.size + 1 + 1 < wr.heap.size)
    (fun i _ => 6 - (intOf i).toNat)
  case atStart =>
    have hz2 : ((w.alloc (.cells cs.toArray 23)).alloc (.cells zeros.toArray 23)).heap.size = w.heap.size + 1 + 1 := by simp
    have b1 : Below (w.heap.size + 1) (w.alloc (.cells cs.toArray 23)) (((w.alloc (.cells cs.toArray 23)).alloc (.cells zeros.toArray 23)).alloc (.cells zeros.toArray 23)) := ((Below.refl _ _).alloc (by simp) _).alloc (by simp) _
    have b2 : Below (w.heap.size + 1 + 1) ((w.alloc (.cells cs.toArray 23)).alloc (.cells zeros.toArray 23)) (((w.alloc (.cells cs.toArray 23)).alloc (.cells zeros.toArray 23)).alloc (.cells zeros.toArray 23)) := (Below.refl _ _).alloc (by simp) _
    refine ⟨0, by omega, rfl, Lib.hid (range_below (range_new w cs.toArray _) b1 (by omega)), Lib.hid ?_, Lib.hid ?_, Lib.hid ?_, (((Below.refl _ _).alloc (Nat.le_refl _) _).alloc (by simp) _).alloc (by simp; omega) _, by simp⟩
    · have := range_new ((w.alloc (.cells cs.toArray 23)).alloc (.cells zeros.toArray 23)) zeros.toArray 23
      rw [hz2] at this
      have e : upRows cs 0 = zeros.toArray.toList := by simp [upRows]
      rw [e]; exact this
    · have := there_new ((w.alloc (.cells cs.toArray 23)).alloc (.cells zeros.toArray 23)) zeros.toArray 23
      rw [hz2] at this
      exact this
    · have := there_new (w.alloc (.cells cs.toArray 23)) zeros.toArray 23
      have := there_below this b2 (by simp)
      rw [hz] at this
      exact this
  case round =>
    obtain ⟨k, hk, rfl, h0, h1, h2, h3, hb, hs⟩ := hrel
    by_cases hlt : k < 6
    · obtain ⟨ms, hm, em⟩ := HR.out k hlt
      have hr := range_sub h0.out (k * 4) 4
      rw [em] at hr
      have hlen : (some 4 : Option Nat) = some (ms.map (Value.int .i64)).length := by rw [List.length_map, hm]
      go_wp2_with (first
        | (refine wpList_load_mid rfl 22 _ rfl w.heap.size (k * 4) rfl (ms.map (Value.int .i64)) _ hr Try.underlying22 rfl (hlen ▸ (by kernel_rfl)) ?_))
      refine (copy4 ms wr hm).mono ?_
      rintro e w1 ⟨rfl, b1⟩
      rw [show row ms = .agg (ms.map (Value.int .i64)).toArray from rfl]
      have hc1 := b1.mono (B' := w.heap.size + 1 + 1 + 1) (by omega)
      have t1 := there_below h2.out hc1 (by omega)
      have G0 := Lib.hid (range_below h0.out hc1 (by omega))
      have G3 := Lib.hid (there_below h3.out hc1 (by omega))
      have hms : (ms.map (Value.int .i64)).length = 4 := by rw [List.length_map, hm]
      have ts := there_sub t1 4 (o := k * 4) (by omega)
      have hu := upRows_put cs k hcl hlt
      rw [em] at hu
      have G1 := Lib.hid (range_put (range_below h1.out hc1 (by omega)) (k * 4) (ms.map (Value.int .i64)) (by rw [hms]; exact ts) (by rw [hms]; unfold upRows zeros; simp; omega))
      rw [hms, hu] at G1
      have GB := Lib.hid (below_setCells (w.heap.size + 1 + 1) (show w.heap.size ≤ w.heap.size + 1 + 1 by omega) (ms.map (Value.int .i64)) (k * 4) w w1 (hb.trans (b1.mono hb.size)))
      have hs1 : w.heap.size + 1 + 1 < w1.heap.size := Nat.lt_of_lt_of_le hs b1.size
      go_wp2_with (first
        | (refine wpList_store_mid rfl 22 _ _ rfl (w.heap.size + 1 + 1) (k * 4) (ms.map (Value.int .i64)).toArray rfl rfl (by simpa [hm] using ts) (by rw [show (ms.map (Value.int .i64)).toArray.size = 4 by simp [hm]]; kernel_rfl) (all_oneCell_toArray (fun v hv => by obtain ⟨z, _, rfl⟩ := List.mem_map.1 hv; rfl)) ?_))
      go_roundw
      case rel => exact ⟨k + 1, by omega, by go_num, Lib.hid (range_other G0.out _ _ _ (by omega)), G1, Lib.hid (there_put t1 _ _), Lib.hid (there_put G3.out _ _), GB.out, by rw [size_setCells]; exact hs1⟩
      case measure => simp [intOf]; omega
    · obtain rfl : k = 6 := by omega
      have hf : upRows cs 6 = cs := by unfold upRows; rw [List.take_of_length_le (by omega)]; simp [zeros]
      have hr := h1.out
      rw [hf] at hr
      have ht := h3.out
      have hone : ∀ v ∈ cs, v.oneCell' = true := HO.out
      go_wp2_with (first
        | (refine wpList_load_mid rfl 23 _ rfl (w.heap.size + 1 + 1) 0 rfl cs _ hr Try.underlying23 rfl (by rw [hcl]; kernel_rfl) ?_)
        | (refine wpList_store_mid rfl 23 _ _ rfl (w.heap.size + 1) 0 cs.toArray rfl rfl (by simpa [hcl] using ht) (by rw [show cs.toArray.size = 24 by simp [hcl]]; kernel_rfl) (all_oneCell_toArray hone) ?_))
      exact bodyPost_ret (v := .agg cs.toArray) (results_cell_mid (P := Try.prog) rfl _ _ (w.heap.size + 1) cs _ rfl
        (World.rangeAt_setCells_same wr (w.heap.size + 1) 0 _ (by rw [hcl]; exact ht)) Try.underlying23 rfl (by rw [hcl]; kernel_rfl)) rfl ⟨rfl, below_setCells _ (Nat.le_succ _) _ _ _ _ hb⟩
end Go.Proofs.Ytalngdccjoafhab.base
end

section
/-
  Tubes and racks as lists of numbers: plain mathematics, nothing of the program.
-/
namespace Go.Proofs.Ytalngdccjoafhab.base

def known (t : List Int) : Bool := t.all fun x => decide (0 ≤ x ∧ x ≤ 5)
def gapAt (t : List Int) (k : Nat) : Bool := decide (t.getD k 0 ≠ 0 ∧ t.getD (k - 1) 0 = 0)
def noGap (t : List Int) : Bool := !(gapAt t 1 || gapAt t 2 || gapAt t 3)
/-- A tube is valid. -/
def vT (t : List Int) : Bool := known t && noGap t
def tub (ns : List Int) (i : Nat) : List Int := (ns.drop (i * 4)).take 4
/-- A rack is valid. -/
def vR (ns : List Int) : Bool := vT (tub ns 0) && vT (tub ns 1) && vT (tub ns 2) && vT (tub ns 3) && vT (tub ns 4) && vT (tub ns 5)

theorem tub_len (ns : List Int) (i : Nat) (h : ns.length = 24) (hi : i < 6) : (tub ns i).length = 4 := by
  unfold tub; rw [List.length_take, List.length_drop]; omega
theorem tub_getD (ns : List Int) (i k : Nat) (hk : k < 4) : (tub ns i).getD k 0 = ns.getD (i * 4 + k) 0 := by
  unfold tub
  rw [List.getD_eq_getElem?_getD, List.getD_eq_getElem?_getD, List.getElem?_take, if_pos hk, List.getElem?_drop]
theorem vR_tub {ns : List Int} (h : vR ns = true) (i : Nat) (hi : i < 6) : vT (tub ns i) = true := by
  simp only [vR, Bool.and_eq_true] at h
  obtain ⟨⟨⟨⟨⟨h0, h1⟩, h2⟩, h3⟩, h4⟩, h5⟩ := h
  match i, hi with
  | 0, _ => exact h0
  | 1, _ => exact h1
  | 2, _ => exact h2
  | 3, _ => exact h3
  | 4, _ => exact h4
  | 5, _ => exact h5
theorem vR_of {ns : List Int} (h : ∀ i, i < 6 → vT (tub ns i) = true) : vR ns = true := by
  simp only [vR, Bool.and_eq_true]
  exact ⟨⟨⟨⟨⟨h 0 (by omega), h 1 (by omega)⟩, h 2 (by omega)⟩, h 3 (by omega)⟩, h 4 (by omega)⟩, h 5 (by omega)⟩
theorem vR_not {ns : List Int} (i : Nat) (hi : i < 6) (h : vT (tub ns i) = false) : vR ns = false := by
  cases hv : vR ns with
  | false => rfl
  | true => rw [vR_tub hv i hi] at h; cases h

def lay (t : List Int) : Nat := (t.takeWhile fun x => decide (x ≠ 0)).length
def many (t : List Int) : Nat := (t.filter fun x => decide (0 < x)).length
def topN (t : List Int) : Nat := match (t.takeWhile fun x => decide (x ≠ 0)).reverse with
  | [] => 0
  | c :: r => 1 + (r.takeWhile fun x => decide (x = c)).length
def topC (t : List Int) : Int := match (t.takeWhile fun x => decide (x ≠ 0)).reverse with
  | [] => 0
  | c :: _ => c

/-! all tubes of numbers in 0..5 -/
def six : List Int := [0, 1, 2, 3, 4, 5]
def all4 : List (List Int) := six.flatMap fun a => six.flatMap fun b => six.flatMap fun c => six.map fun d => [a, b, c, d]
def allT : List (List Int) := all4.filter vT
theorem mem_six (x : Int) (h : 0 ≤ x ∧ x ≤ 5) : x ∈ six := by
  have : x = 0 ∨ x = 1 ∨ x = 2 ∨ x = 3 ∨ x = 4 ∨ x = 5 := by omega
  rcases this with rfl | rfl | rfl | rfl | rfl | rfl <;> decide
theorem len4 {t : List Int} (h : t.length = 4) : ∃ a b c d, t = [a, b, c, d] := by
  match t, h with
  | [a, b, c, d], _ => exact ⟨a, b, c, d, rfl⟩
theorem mem_allT {t : List Int} (h : t.length = 4) (hv : vT t = true) : t ∈ allT := by
  obtain ⟨a, b, c, d, rfl⟩ := len4 h
  refine List.mem_filter.2 ⟨?_, hv⟩
  have hk : known [a, b, c, d] = true := by unfold vT at hv; exact (Bool.and_eq_true_iff.1 hv).1
  simp [known] at hk
  obtain ⟨h1, h2, h3, h4⟩ := hk
  simp only [all4, List.mem_flatMap, List.mem_map]
  exact ⟨a, mem_six a h1, b, mem_six b h2, c, mem_six c h3, d, mem_six d h4, rfl⟩
/-- What a computation finds for all valid tubes holds. -/
theorem forT (P : List Int → Bool) (h : allT.all P = true) {t : List Int} (h4 : t.length = 4) (hv : vT t = true) : P t = true :=
  List.all_eq_true.1 h t (mem_allT h4 hv)

def tubeOK (t : List Int) : Bool :=
  many t == lay t && decide (lay t ≤ 4) && decide (topN t ≤ lay t) && decide (0 ≤ topC t) && decide (topC t ≤ 5)
  && (decide (lay t = 0) == decide (topN t = 0)) && (decide (topC t = 0) == decide (topN t = 0))
  && (List.range 4).all (fun j => (decide (t.getD j 0 ≠ 0) == decide (j < lay t)))
  && (List.range 4).all (fun j => !decide (j < topN t) || t.getD (lay t - 1 - j) 0 == topC t)
  && (!decide (topN t < lay t) || t.getD (lay t - 1 - topN t) 0 != topC t)
  && (decide (t = [0, 0, 0, 0]) == decide (lay t = 0))
  && (List.range 4).all (fun j => decide (0 < t.getD j 0) == decide (j < lay t))
theorem tubeOK_all : allT.all tubeOK = true := by decide +kernel
structure TubeFacts (t : List Int) : Prop where
  many : many t = lay t
  lay4 : lay t ≤ 4
  topN : topN t ≤ lay t
  c0 : 0 ≤ topC t
  c5 : topC t ≤ 5
  none : lay t = 0 ↔ Go.Proofs.Ytalngdccjoafhab.base.topN t = 0
  noneC : topC t = 0 ↔ Go.Proofs.Ytalngdccjoafhab.base.topN t = 0
  full : ∀ j, j < 4 → (t.getD j 0 ≠ 0 ↔ j < lay t)
  run : ∀ j, j < Go.Proofs.Ytalngdccjoafhab.base.topN t → t.getD (lay t - 1 - j) 0 = topC t
  stop : Go.Proofs.Ytalngdccjoafhab.base.topN t < lay t → t.getD (lay t - 1 - Go.Proofs.Ytalngdccjoafhab.base.topN t) 0 ≠ topC t
  empty : t = [0, 0, 0, 0] ↔ lay t = 0
  pos : ∀ j, j < 4 → (0 < t.getD j 0 ↔ j < lay t)
theorem tubeFacts {t : List Int} (h4 : t.length = 4) (hv : vT t = true) : TubeFacts t := by
  have h := forT tubeOK tubeOK_all h4 hv
  simp only [tubeOK, Bool.and_eq_true] at h
  obtain ⟨⟨⟨⟨⟨⟨⟨⟨⟨⟨⟨a1, a2⟩, a3⟩, a4⟩, a5⟩, a6⟩, a7⟩, a8⟩, a9⟩, a10⟩, a11⟩, a12⟩ := h
  have hN : topN t ≤ 4 := by simp at a2 a3; omega
  refine ⟨by simpa using a1, by simpa using a2, by simpa using a3, by simpa using a4, by simpa using a5, by simpa using a6, by simpa using a7, ?_, ?_, ?_, by simpa using a11, fun j hj => decide_eq_decide.1 (eq_of_beq (List.all_eq_true.1 a12 j (by simp; omega)))⟩
  · intro j hj
    have := List.all_eq_true.1 a8 j (by simp; omega)
    exact decide_eq_decide.1 (eq_of_beq this)
  · intro j hj
    have := List.all_eq_true.1 a9 j (by simp; omega)
    simp only [hj, decide_true, Bool.not_true, Bool.false_or] at this
    simpa using this
  · intro hlt
    simp only [hlt, decide_true, Bool.not_true, Bool.false_or] at a10
    simpa using a10

def putT (t : List Int) (c : Int) : List Int := t.set (lay t) c
def takeT (t : List Int) : List Int := t.set (lay t - 1) 0
/-- How many layers a pour moves. -/
def canN (s t : List Int) : Nat := if lay t ≠ 0 ∧ topC t ≠ topC s then 0 else min (topN s) (4 - lay t)
/-- A rack and a place of it are valid. -/
def inR (ns : List Int) (i : Int) : Bool := vR ns && decide (0 ≤ i ∧ i < 6)
def layersA (ns : List Int) (i : Int) : Int := if inR ns i = true then (lay (tub ns i.toNat) : Nat) else 0
def topOk (ns : List Int) (i : Int) : Bool := inR ns i && decide (lay (tub ns i.toNat) ≠ 0)
def topCA (ns : List Int) (i : Int) : Int := if inR ns i = true then topC (tub ns i.toNat) else 0
def topNA (ns : List Int) (i : Int) : Int := if inR ns i = true then (topN (tub ns i.toNat) : Nat) else 0
/-- A pour is asked of a valid rack at two places. -/
def twoOk (ns : List Int) (i j : Int) : Bool := vR ns && decide (0 ≤ i ∧ i < 6) && decide (0 ≤ j ∧ j < 6) && decide (i ≠ j)
def canA (ns : List Int) (i j : Int) : Bool := twoOk ns i j && decide (0 < canN (tub ns i.toNat) (tub ns j.toNat))
def tubA (ns : List Int) (i : Int) : List Int := if inR ns i = true then tub ns i.toNat else [0, 0, 0, 0]
theorem inR_yes {ns : List Int} {p : Nat} (hv : vR ns = true) (hp : p < 6) : inR ns (p : Int) = true := by
  unfold inR; rw [hv, Bool.true_and]; simp; omega
theorem inR_not {ns : List Int} {i : Int} (h : ¬ (vR ns = true ∧ 0 ≤ i ∧ i < 6)) : inR ns i = false := by
  cases hb : inR ns i with
  | false => rfl
  | true => unfold inR at hb; simp at hb; exact absurd ⟨hb.1, hb.2.1, hb.2.2⟩ h
theorem inR_of {ns : List Int} {i : Int} (h : inR ns i = true) : vR ns = true ∧ ∃ p : Nat, i = (p : Int) ∧ p < 6 := by
  unfold inR at h
  simp at h
  exact ⟨h.1, i.toNat, by omega, by omega⟩
theorem tubA_len {ns : List Int} (h : ns.length = 24) (i : Int) : (tubA ns i).length = 4 := by
  unfold tubA
  by_cases hb : inR ns i = true
  · rw [if_pos hb]
    obtain ⟨_, p, rfl, hp⟩ := inR_of hb
    exact tub_len ns _ h (by simpa using hp)
  · rw [if_neg hb]; rfl
theorem tubA_yes {ns : List Int} {p : Nat} (h : inR ns (p : Int) = true) : tubA ns (p : Int) = tub ns p := by
  unfold tubA; rw [if_pos h]; simp
end Go.Proofs.Ytalngdccjoafhab.base
end

section
namespace Go.Proofs.Ytalngdccjoafhab.base
open Go.ChangeShapes Go.WideShapes Go.ChangeAt Go.RowKit
set_option linter.unusedVariables false
set_option linter.unusedSimpArgs false

/-- Block b holds the cells cs, from its head on, and they may be written. -/
structure Holds (w : World) (b : Nat) (cs : List Value) : Prop where
  range : w.rangeAt b 0 cs
  there : w.there b 0 cs.length

def ints (ns : List Int) : List Value := ns.map (Value.int .i64)
theorem ints_len (ns : List Int) : (ints ns).length = ns.length := List.length_map _
theorem ints_get (ns : List Int) (j : Nat) (h : j < ns.length) : (ints ns)[j]? = some (.int .i64 (ns.getD j 0)) := by
  unfold ints
  rw [List.getElem?_map, List.getElem?_eq_getElem h, List.getD_eq_getElem?_getD, List.getElem?_eq_getElem h]; rfl
theorem ints_one (ns : List Int) : ∀ v ∈ ints ns, v.oneCell' = true := fun v hv => by
  obtain ⟨z, _, rfl⟩ := List.mem_map.1 hv; rfl
theorem row_ints (ns : List Int) : row ns = .agg (ints ns).toArray := rfl
theorem ints_take (ns : List Int) (o n : Nat) : ((ints ns).drop o).take n = ints ((ns.drop o).take n) := by
  unfold ints; rw [List.map_take, List.map_drop]
theorem ints_set (ns : List Int) (k : Nat) (z : Int) : (ints ns).set k (.int .i64 z) = ints (ns.set k z) := by
  unfold ints; rw [List.map_set]
theorem ints_app (a b : List Int) : ints (a ++ b) = ints a ++ ints b := List.map_append

theorem Holds.new (w : World) (c : Array Value) (t : TypeId) : Holds (w.alloc (.cells c t)) w.heap.size c.toList :=
  ⟨range_new w c t, by have := there_new w c t; rw [← Array.length_toList] at this; exact this⟩
theorem Holds.lt {w : World} {b : Nat} {cs : List Value} (h : Holds w b cs) (hc : 0 < cs.length) : b < w.heap.size := by
  have := h.range 0 _ (List.getElem?_eq_getElem hc)
  exact World.block_lt_of_cell? _ _ this
theorem Holds.below {B : Nat} {w w' : World} {b : Nat} {cs : List Value} (h : Holds w b cs) (m : Below B w w') (hb : b < B) : Holds w' b cs :=
  ⟨range_below h.range m hb, there_below h.there m hb⟩
theorem Holds.alloc {w : World} {b : Nat} {cs : List Value} (h : Holds w b cs) (o : Obj) (hc : 0 < cs.length) : Holds (w.alloc o) b cs :=
  h.below ((Below.refl _ _).alloc (Nat.le_refl _) o) (h.lt hc)
theorem Holds.drew {w : World} {b : Nat} {cs : List Value} (h : Holds w b cs) : Holds w.drew b cs :=
  ⟨(World.rangeAt_drew _ _ _ _).2 h.range, (World.there_drew _ _ _ _).2 h.there⟩
theorem Holds.drewN {w : World} {b : Nat} {cs : List Value} (h : Holds w b cs) (n : Nat) : Holds (w.drewN n) b cs :=
  ⟨fun j v hv => (h.range j v hv), fun j hj => (h.there j hj)⟩
theorem Holds.cellAt {w : World} {b : Nat} {cs : List Value} (h : Holds w b cs) {k : Nat} {v : Value} (hk : cs[k]? = some v) : w.cell? ⟨b, k, none⟩ = some v := by
  have := h.range k v hk; rwa [Nat.zero_add] at this
theorem Holds.int {w : World} {b : Nat} {ns : List Int} (h : Holds w b (ints ns)) (k : Nat) (hk : k < ns.length) : w.cell? ⟨b, k, none⟩ = some (.int .i64 (ns.getD k 0)) :=
  h.cellAt (ints_get ns k hk)
theorem Holds.free {w : World} {b : Nat} {cs : List Value} (h : Holds w b cs) (k : Nat) (hk : k < cs.length) : w.frozen? ⟨b, k, none⟩ = false := by
  have := (h.there k hk).2; rwa [Nat.zero_add] at this
theorem setCells_one (w : World) (b k : Nat) (v : Value) : w.setCells b k [v] = w.setCell ⟨b, k, none⟩ v := rfl
/-- Part of the block is stored anew. -/
theorem Holds.put {w : World} {b : Nat} {cs : List Value} (h : Holds w b cs) (o : Nat) (vs : List Value) (hl : o + vs.length ≤ cs.length) : Holds (w.setCells b o vs) b (cs.take o ++ vs ++ cs.drop (o + vs.length)) := by
  refine ⟨range_put h.range o vs (there_sub h.there _ hl) hl, ?_⟩
  have e : (cs.take o ++ vs ++ cs.drop (o + vs.length)).length = cs.length := by simp; omega
  rw [e]; exact there_put h.there _ _
theorem Holds.set {w : World} {b : Nat} {cs : List Value} (h : Holds w b cs) (k : Nat) (v : Value) (hk : k < cs.length) : Holds (w.setCell ⟨b, k, none⟩ v) b (cs.set k v) := by
  have := h.put k [v] (by simp; omega)
  rw [setCells_one] at this
  have e : cs.take k ++ [v] ++ cs.drop (k + [v].length) = cs.set k v := by
    rw [List.set_eq_take_append_cons_drop, if_pos hk]; simp
  rw [e] at this; exact this
theorem Holds.putInts {w : World} {b : Nat} {ns : List Int} (h : Holds w b (ints ns)) (o : Nat) (ms : List Int) (hl : o + ms.length ≤ ns.length) : Holds (w.setCells b o (ints ms)) b (ints (ns.take o ++ ms ++ ns.drop (o + ms.length))) := by
  have := h.put o (ints ms) (by rw [ints_len, ints_len]; exact hl)
  rw [ints_app, ints_app]
  rw [ints_len] at this
  unfold ints at this ⊢
  rw [List.map_take, List.map_drop]; exact this
theorem Holds.setInt {w : World} {b : Nat} {ns : List Int} (h : Holds w b (ints ns)) (k : Nat) (z : Int) (hk : k < ns.length) : Holds (w.setCell ⟨b, k, none⟩ (.int .i64 z)) b (ints (ns.set k z)) := by
  rw [← ints_set]; exact h.set k _ (by rw [ints_len]; exact hk)
theorem Holds.putOther {w : World} {b : Nat} {cs : List Value} (h : Holds w b cs) {b' : Nat} (o : Nat) (vs : List Value) (hb : b ≠ b') : Holds (w.setCells b' o vs) b cs :=
  ⟨range_other h.range _ _ _ hb, there_put h.there _ _⟩
theorem Holds.setOther {w : World} {b : Nat} {cs : List Value} (h : Holds w b cs) {b' : Nat} (k : Nat) (v : Value) (hb : b ≠ b') : Holds (w.setCell ⟨b', k, none⟩ v) b cs := by
  rw [← setCells_one]; exact h.putOther _ _ hb
theorem Holds.sub {w : World} {b : Nat} {ns : List Int} (h : Holds w b (ints ns)) (o n : Nat) : w.rangeAt b o (ints ((ns.drop o).take n)) := by
  have := range_sub h.range o n
  rwa [ints_take] at this
theorem Holds.thereSub {w : World} {b : Nat} {cs : List Value} (h : Holds w b cs) (o n : Nat) (hn : o + n ≤ cs.length) : w.there b o n := there_sub h.there n hn
theorem below_set {B : Nat} {a w : World} (h : Below B a w) {b : Nat} (hB : B ≤ b) (o : Nat) (vs : List Value) : Below B a (w.setCells b o vs) := below_setCells b hB vs o a w h

/-! a tube of a rack is put -/
def setTub (ns : List Int) (i : Nat) (t : List Int) : List Int := ns.take (i * 4) ++ t ++ ns.drop (i * 4 + 4)
theorem setTub_len (ns : List Int) (i : Nat) (t : List Int) (h : ns.length = 24) (hi : i < 6) (ht : t.length = 4) : (setTub ns i t).length = 24 := by
  unfold setTub; simp; omega
theorem tub_setTub (ns : List Int) (i : Nat) (t : List Int) (h : ns.length = 24) (hi : i < 6) (ht : t.length = 4) : tub (setTub ns i t) i = t := by
  unfold tub setTub
  rw [List.append_assoc, List.drop_append_of_le_length (by simp; omega), List.drop_of_length_le (by simp; omega), List.nil_append, List.take_append_of_le_length (by omega), List.take_of_length_le (by omega)]
theorem tub_setTub_other (ns : List Int) (i j : Nat) (t : List Int) (h : ns.length = 24) (hi : i < 6) (hj : j < 6) (ht : t.length = 4) (hij : i ≠ j) : tub (setTub ns i t) j = tub ns j := by
  apply List.ext_getElem?
  intro k
  unfold tub setTub
  rw [List.getElem?_take, List.getElem?_take]
  by_cases hk : k < 4
  · rw [if_pos hk, if_pos hk, List.getElem?_drop, List.getElem?_drop]
    by_cases hlt : j < i
    · rw [List.append_assoc, List.getElem?_append_left (by simp; omega), List.getElem?_take, if_pos (by omega)]
    · rw [List.getElem?_append_right (by simp; omega), List.getElem?_drop]
      congr 1
      simp; omega
  · rw [if_neg hk, if_neg hk]
theorem rack_ext {a b : List Int} (ha : a.length = 24) (hb : b.length = 24) (h : ∀ i, i < 6 → tub a i = tub b i) : a = b := by
  apply List.ext_getElem?
  intro k
  by_cases hk : k < 24
  · have := congrArg (fun l => l[k % 4]?) (h (k / 4) (by omega))
    unfold tub at this
    simp only [List.getElem?_take, List.getElem?_drop, if_pos (Nat.mod_lt k (by decide : 0 < 4))] at this
    rwa [Nat.div_add_mod' k 4] at this
  · rw [List.getElem?_eq_none (by omega), List.getElem?_eq_none (by omega)]
theorem set_tub (ns : List Int) (i k : Nat) (z : Int) (h : ns.length = 24) (hi : i < 6) (hk : k < 4) : ns.set (i * 4 + k) z = setTub ns i ((tub ns i).set k z) := by
  have hl : (setTub ns i ((tub ns i).set k z)).length = 24 := setTub_len ns i _ h hi (by rw [List.length_set, tub_len ns i h hi])
  refine rack_ext (by simpa using h) hl (fun j hj => ?_)
  by_cases e : i = j
  · subst e
    rw [tub_setTub ns i _ h hi (by rw [List.length_set, tub_len ns i h hi])]
    apply List.ext_getElem?
    intro q
    unfold tub
    rw [List.getElem?_take, List.getElem?_set, List.getElem?_drop, List.getElem?_set]
    have hlt : ((ns.drop (i * 4)).take 4).length = 4 := tub_len ns i h hi
    rw [hlt, List.getElem?_take, List.getElem?_drop]
    by_cases hq : q < 4
    · rw [if_pos hq, if_pos hq]
      by_cases e2 : k = q
      · subst e2; simp [hk]; omega
      · rw [if_neg (by omega), if_neg e2]
    · rw [if_neg hq, if_neg hq]
      rw [if_neg (by omega)]
  · rw [tub_setTub_other ns i j _ h hi hj (by rw [List.length_set, tub_len ns i h hi]) e]
    apply List.ext_getElem?
    intro q
    unfold tub
    rw [List.getElem?_take, List.getElem?_drop, List.getElem?_set, List.getElem?_take, List.getElem?_drop]
    by_cases hq : q < 4
    · rw [if_pos hq, if_pos hq, if_neg (by omega)]
    · rw [if_neg hq, if_neg hq]
end Go.Proofs.Ytalngdccjoafhab.base
end
