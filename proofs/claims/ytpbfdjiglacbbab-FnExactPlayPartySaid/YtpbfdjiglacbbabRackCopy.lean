/-
  A rack is copied field by field, walked.
-/
import Derived.Test.YtpbfdjiglacbbabProg
import Derived.WalkKit
import Derived.ProofKit
import Derived.WalkLawsBesides
import Derived.WalkSpells
import Derived.LoopTactic
import Derived.Lib.Hide
import Derived.IntWalk
import Derived.Below
import Derived.Deep.OwnRows
import Derived.Deep.MidRow
namespace Go.Proofs.Ytpbfdjiglacbbab.base
open Go.ChangeShapes Go.WideShapes Go.ChangeAt Go.RowKit
set_option linter.unusedVariables false
set_option linter.unusedSimpArgs false

def row (ns : List Int) : Value := .agg (ns.map (Value.int .i64)).toArray

theorem results_cell_mid {P : Program} {fn : Func} {p : Tmp} {ty : TypeId} (h : fn.results = #[.cell p ty]) (tmps : Array Value) (w : World) (b : Nat) (cs : List Value) (d : TypeDesc)
    (hp : tmps.getD p undef = .pointer (some ⟨b, 0, none⟩)) (hc : w.rangeAt b 0 cs) (hu : P.underlying ty = some d) (hd : d.isRow = true) (hi : (P.info? ty).map (·.size) = some cs.length) :
    (results fn tmps).run P w = .ok (.agg cs.toArray) w := by
  have hp' : tmps[p]?.getD undef = .pointer (some ⟨b, 0, none⟩) := by simpa using hp
  simp [results, h, hp', asAddr, run_loadVar_mid w b 0 ty cs d hc hu hd hi]

theorem below_setCells {B : Nat} (b : Nat) (hB : B ≤ b) : ∀ (vs : List Value) (o : Nat) (a w : World), Below B a w → Below B a (w.setCells b o vs) := by
  intro vs
  induction vs with
  | nil => intro o a w h; exact h
  | cons v r ih => intro o a w h; exact ih (o + 1) a _ (h.setCell hB v)

def at4 (ns : List Int) (k j : Nat) : Value := .int .i64 (if j < k then ns.getD j 0 else 0)

theorem at4_step (ns : List Int) (k j : Nat) : (if j = k then at4 ns 4 k else at4 ns k j) = at4 ns (k + 1) j ∨ 4 ≤ k := by
  by_cases hk : k < 4
  · left
    unfold at4
    by_cases e : j = k
    · subst e; rw [if_pos rfl, if_pos hk, if_pos (by omega)]
    · rw [if_neg e]
      by_cases h : j < k
      · rw [if_pos h, if_pos (by omega)]
      · rw [if_neg h, if_neg (by omega)]
  · right; omega

set_option maxHeartbeats 800000 in
theorem copy4 (ns : List Int) (w : World) (h : ns.length = 4) :
    Calls Try.prog 50 #[row ns] w fun e w' => e = .returned (row ns) ∧ Below w.heap.size w w' := by
  obtain ⟨a, b, c, d, rfl⟩ : ∃ a b c d, ns = [a, b, c, d] := by
    match ns, h with
    | [a, b, c, d], _ => exact ⟨a, b, c, d, rfl⟩
  unfold row
  simp only [List.map_cons, List.map_nil]
  go_enter Try.func50, Try.ntmps50
  go_wp2_with fail
  go_loopw [4] (fun i wr => ∃ k : Nat, k ≤ 4 ∧ i = .int .i64 k ∧ wr.rowIs w.heap.size 22 4 (at4 [a, b, c, d] 4) ∧ wr.rowIs (w.heap.size + 1 + 1) 22 4 (at4 [a, b, c, d] k) ∧ wr.rowIs (w.heap.size + 1) 22 4 (at4 [a, b, c, d] 0) ∧ Below w.heap.size w wr)
    (fun i _ => 4 - (intOf i).toNat)
  case atStart =>
    refine ⟨0, by omega, rfl, ?_, ?_, ?_, (((Below.refl _ _).alloc (Nat.le_refl _) _).alloc (by simp) _).alloc (by simp; omega) _⟩
    · refine World.rowIs.alloc (World.rowIs.alloc ?_ _) _
      exact World.rowIs_alloc w #[.int .i64 a, .int .i64 b, .int .i64 c, .int .i64 d] _ _ (fun i hi => by
        match i, hi with
        | 0, _ => rfl
        | 1, _ => rfl
        | 2, _ => rfl
        | 3, _ => rfl)
    · have := World.rowIs_alloc ((w.alloc (.cells #[.int .i64 a, .int .i64 b, .int .i64 c, .int .i64 d] 22)).alloc (.cells #[.int .i64 0, .int .i64 0, .int .i64 0, .int .i64 0] 22)) #[.int .i64 0, .int .i64 0, .int .i64 0, .int .i64 0] 22 (at4 [a, b, c, d] 0) (fun i hi => by
        match i, hi with
        | 0, _ => rfl
        | 1, _ => rfl
        | 2, _ => rfl
        | 3, _ => rfl)
      simpa using this
    · refine World.rowIs.alloc ?_ _
      have := World.rowIs_alloc (w.alloc (.cells #[.int .i64 a, .int .i64 b, .int .i64 c, .int .i64 d] 22)) #[.int .i64 0, .int .i64 0, .int .i64 0, .int .i64 0] 22 (at4 [a, b, c, d] 0) (fun i hi => by
        match i, hi with
        | 0, _ => rfl
        | 1, _ => rfl
        | 2, _ => rfl
        | 3, _ => rfl)
      simpa using this
  case round =>
    obtain ⟨k, hk, rfl, h0, h1, h2, hb⟩ := hrel
    by_cases hlt : k < 4
    · have c0 := h0.cell hlt
      have c1 := h1.cell hlt
      have f1 := h1.frozen k
      have e0 : w.heap.size ≠ w.heap.size + 1 + 1 := by omega
      have H0 := Lib.hid (h0.setOther (a := ⟨w.heap.size + 1 + 1, k, none⟩) e0 (at4 [a, b, c, d] 4 k))
      have H1 := Lib.hid ((h1.set k (at4 [a, b, c, d] 4 k)).congr (fun j _ => (at4_step [a, b, c, d] k j).resolve_right (by omega)))
      have H2 := Lib.hid (h2.setOther (a := ⟨w.heap.size + 1 + 1, k, none⟩) (show w.heap.size + 1 ≠ w.heap.size + 1 + 1 by omega) (at4 [a, b, c, d] 4 k))
      have HB := Lib.hid (hb.setCell (p := ⟨w.heap.size + 1 + 1, k, none⟩) (show w.heap.size ≤ w.heap.size + 1 + 1 by omega) (at4 [a, b, c, d] 4 k))
      clear h0 h1 h2 hb e0
      obtain ⟨x, hx⟩ : ∃ x, at4 [a, b, c, d] 4 k = .int .i64 x := ⟨_, rfl⟩
      rw [hx] at c0 H0 H1 H2 HB
      clear hx
      go_wp2_with fail
      go_roundw
      case rel => exact ⟨k + 1, by omega, by go_num, H0.out, H1.out, H2.out, HB.out⟩
      case measure => simp [intOf]; omega
    · obtain rfl : k = 4 := by omega
      have hr : wr.rangeAt (w.heap.size + 1 + 1) 0 [.int .i64 a, .int .i64 b, .int .i64 c, .int .i64 d] := fun j v hj => by
        have hj4 : j < 4 := (List.getElem?_eq_some_iff.1 hj).1
        rw [Nat.zero_add, h1.cell hj4, ← hj]
        match j, hj4 with
        | 0, _ => rfl
        | 1, _ => rfl
        | 2, _ => rfl
        | 3, _ => rfl
      have ht : wr.there (w.heap.size + 1) 0 4 := fun j hj => by
        rw [Nat.zero_add]; exact ⟨by rw [h2.cell hj]; rfl, h2.frozen j⟩
      go_wp2_with (first
        | (refine wpList_load_mid rfl 22 _ rfl (w.heap.size + 1 + 1) 0 rfl [.int .i64 a, .int .i64 b, .int .i64 c, .int .i64 d] _ hr Try.underlying22 rfl (by kernel_rfl) ?_)
        | (refine wpList_store_mid rfl 22 _ _ rfl (w.heap.size + 1) 0 #[.int .i64 a, .int .i64 b, .int .i64 c, .int .i64 d] rfl rfl ht (by kernel_rfl) (by kernel_rfl) ?_))
      exact bodyPost_ret (v := .agg #[.int .i64 a, .int .i64 b, .int .i64 c, .int .i64 d]) (results_cell_mid (P := Try.prog) rfl _ _ (w.heap.size + 1) [.int .i64 a, .int .i64 b, .int .i64 c, .int .i64 d] _ rfl
        (World.rangeAt_setCells_same wr (w.heap.size + 1) 0 _ ht) Try.underlying22 rfl (by kernel_rfl)) rfl ⟨rfl, below_setCells _ (Nat.le_succ _) _ _ _ _ hb⟩

theorem range_sub {w : World} {b : Nat} {cs : List Value} (h : w.rangeAt b 0 cs) (o n : Nat) : w.rangeAt b o ((cs.drop o).take n) := fun j v hj => by
  have := h (o + j) v (by
    rw [List.getElem?_take] at hj
    split at hj
    · rw [List.getElem?_drop] at hj; exact hj
    · cases hj)
  simpa using this
theorem range_put {w : World} {b : Nat} {cs : List Value} (h : w.rangeAt b 0 cs) (o : Nat) (vs : List Value) (ht : w.there b o vs.length) (hl : o + vs.length ≤ cs.length) :
    (w.setCells b o vs).rangeAt b 0 (cs.take o ++ vs ++ cs.drop (o + vs.length)) := fun j v hj => by
  rw [Nat.zero_add]
  have hto : (cs.take o).length = o := by rw [List.length_take]; omega
  by_cases h1 : j < o
  · rw [List.getElem?_append_left (by rw [List.length_append]; omega), List.getElem?_append_left (by omega), List.getElem?_take, if_pos h1] at hj
    rw [World.cell?_setCells_out b vs o w ⟨b, j, none⟩ (fun _ _ => .inl h1)]
    have := h j v hj; simpa using this
  · by_cases h2 : j < o + vs.length
    · rw [List.getElem?_append_left (by rw [List.length_append]; omega), List.getElem?_append_right (by omega), hto] at hj
      have := World.cell?_setCells_in b vs o w (fun q hq => (ht q hq).1) (j - o) (by omega)
      rw [show o + (j - o) = j by omega] at this
      rw [this, ← List.getElem?_eq_getElem, hj]
    · rw [List.getElem?_append_right (by rw [List.length_append]; omega), List.length_append, hto, List.getElem?_drop] at hj
      rw [show o + vs.length + (j - (o + vs.length)) = j by omega] at hj
      rw [World.cell?_setCells_out b vs o w ⟨b, j, none⟩ (fun _ _ => .inr (by show o + vs.length ≤ j; omega))]
      have := h j v hj; simpa using this

def zeros : List Value := List.replicate 24 (.int .i64 0)
def upRows (cs : List Value) (k : Nat) : List Value := cs.take (k * 4) ++ zeros.drop (k * 4)

theorem range_new (w : World) (c : Array Value) (t : TypeId) : (w.alloc (.cells c t)).rangeAt w.heap.size 0 c.toList := fun j v hj => by
  have hl : j < c.size := by have := (List.getElem?_eq_some_iff.1 hj).1; simpa using this
  unfold World.cell? World.alloc
  simp at hj ⊢
  exact hj
theorem there_new (w : World) (c : Array Value) (t : TypeId) : (w.alloc (.cells c t)).there w.heap.size 0 c.size := fun j hj => by
  unfold World.cell? World.frozen? World.alloc
  simp [hj]
theorem range_below {B : Nat} {w w' : World} {b o : Nat} {cs : List Value} (h : w.rangeAt b o cs) (m : Below B w w') (hb : b < B) : w'.rangeAt b o cs := fun j v hj => (m.cell (p := ⟨b, o + j, none⟩) hb).trans (h j v hj)
theorem there_below {B : Nat} {w w' : World} {b o n : Nat} (h : w.there b o n) (m : Below B w w') (hb : b < B) : w'.there b o n := fun j hj => by
  rw [m.cell (p := ⟨b, o + j, none⟩) hb, m.frozen (p := ⟨b, o + j, none⟩) hb]; exact h j hj
theorem there_sub {w : World} {b o n : Nat} (h : w.there b 0 n) (m : Nat) (hm : o + m ≤ n) : w.there b o m := fun j hj => by
  have := h (o + j) (by omega); simpa using this

theorem range_other {w : World} {b o : Nat} {cs : List Value} (h : w.rangeAt b o cs) (b' o' : Nat) (vs : List Value) (hb : b ≠ b') : (w.setCells b' o' vs).rangeAt b o cs := World.rangeAt_setCells_apart h b' o' vs (.inl hb)
theorem there_put {w : World} {b n : Nat} (h : w.there b 0 n) (o' : Nat) (vs : List Value) {b' : Nat} : (w.setCells b' o' vs).there b 0 n := World.there_setCells h b' o' vs
theorem size_setCells (b : Nat) : ∀ (vs : List Value) (o : Nat) (w : World), (w.setCells b o vs).heap.size = w.heap.size := by
  intro vs
  induction vs with
  | nil => intro o w; rfl
  | cons v r ih => intro o w; show ((w.setCell ⟨b, o, none⟩ v).setCells b (o + 1) r).heap.size = _; rw [ih]; simp [World.setCell]
theorem upRows_put (cs : List Value) (k : Nat) (h : cs.length = 24) (hk : k < 6) : (upRows cs k).take (k * 4) ++ (cs.drop (k * 4)).take 4 ++ (upRows cs k).drop (k * 4 + 4) = upRows cs (k + 1) := by
  have h1 : (cs.take (k * 4)).length = k * 4 := by rw [List.length_take]; omega
  have e1 : (upRows cs k).take (k * 4) = cs.take (k * 4) := by
    unfold upRows; rw [List.take_append_of_le_length (by omega)]; exact List.take_of_length_le (by omega)
  have e2 : (upRows cs k).drop (k * 4 + 4) = zeros.drop ((k + 1) * 4) := by
    unfold upRows; rw [List.drop_append, List.drop_of_length_le (by omega), List.nil_append, List.drop_drop, h1]; congr 1; omega
  rw [e1, e2]
  show _ = cs.take ((k + 1) * 4) ++ zeros.drop ((k + 1) * 4)
  rw [show (k + 1) * 4 = k * 4 + 4 by omega, List.take_add]

set_option maxHeartbeats 1600000 in
theorem copy24 (ns : List Int) (w : World) (h : ns.length = 24) :
    Calls Try.prog 31 #[row ns] w fun e w' => e = .returned (row ns) ∧ Below w.heap.size w w' := by
  unfold row
  have hcl : (ns.map (Value.int .i64)).length = 24 := by simp [h]
  generalize hcs : ns.map (Value.int .i64) = cs at *
  have hrow : ∀ k, k < 6 → ∃ ms : List Int, ms.length = 4 ∧ (cs.drop (k * 4)).take 4 = ms.map (Value.int .i64) := fun k hk =>
    ⟨(ns.drop (k * 4)).take 4, by rw [List.length_take, List.length_drop]; omega, by rw [← hcs, List.map_take, List.map_drop]⟩
  have HR := Lib.hid hrow
  have HO : Hid (∀ v ∈ cs, v.oneCell' = true) := Lib.hid (fun v hv => by rw [← hcs] at hv; obtain ⟨z, _, rfl⟩ := List.mem_map.1 hv; rfl)
  clear hrow hcs
  have hz : (w.alloc (.cells cs.toArray 23)).heap.size = w.heap.size + 1 := by simp
  go_enter Try.func31, Try.ntmps31
  go_wp2_with fail
  go_loopw [4] (fun i wr => ∃ k : Nat, k ≤ 6 ∧ i = .int .i64 k ∧ Hid (wr.rangeAt w.heap.size 0 cs) ∧ Hid (wr.rangeAt (w.heap.size + 1 + 1) 0 (upRows cs k)) ∧ Hid (wr.there (w.heap.size + 1 + 1) 0 24) ∧ Hid (wr.there (w.heap.size + 1) 0 24) ∧ Below w.heap.size w wr ∧ w.heap.size + 1 + 1 < wr.heap.size)
    (fun i _ => 6 - (intOf i).toNat)
  case atStart =>
    have hz2 : ((w.alloc (.cells cs.toArray 23)).alloc (.cells zeros.toArray 23)).heap.size = w.heap.size + 1 + 1 := by simp
    have b1 : Below (w.heap.size + 1) (w.alloc (.cells cs.toArray 23)) (((w.alloc (.cells cs.toArray 23)).alloc (.cells zeros.toArray 23)).alloc (.cells zeros.toArray 23)) := ((Below.refl _ _).alloc (by simp) _).alloc (by simp) _
    have b2 : Below (w.heap.size + 1 + 1) ((w.alloc (.cells cs.toArray 23)).alloc (.cells zeros.toArray 23)) (((w.alloc (.cells cs.toArray 23)).alloc (.cells zeros.toArray 23)).alloc (.cells zeros.toArray 23)) := (Below.refl _ _).alloc (by simp) _
    refine ⟨0, by omega, rfl, Lib.hid (range_below (range_new w cs.toArray _) b1 (by omega)), Lib.hid ?_, Lib.hid ?_, Lib.hid ?_, (((Below.refl _ _).alloc (Nat.le_refl _) _).alloc (by simp) _).alloc (by simp; omega) _, by simp⟩
    · have := range_new ((w.alloc (.cells cs.toArray 23)).alloc (.cells zeros.toArray 23)) zeros.toArray 23
      rw [hz2] at this
      have e : upRows cs 0 = zeros.toArray.toList := by simp [upRows]
      rw [e]; exact this
    · have := there_new ((w.alloc (.cells cs.toArray 23)).alloc (.cells zeros.toArray 23)) zeros.toArray 23
      rw [hz2] at this
      exact this
    · have := there_new (w.alloc (.cells cs.toArray 23)) zeros.toArray 23
      have := there_below this b2 (by simp)
      rw [hz] at this
      exact this
  case round =>
    obtain ⟨k, hk, rfl, h0, h1, h2, h3, hb, hs⟩ := hrel
    by_cases hlt : k < 6
    · obtain ⟨ms, hm, em⟩ := HR.out k hlt
      have hr := range_sub h0.out (k * 4) 4
      rw [em] at hr
      have hlen : (some 4 : Option Nat) = some (ms.map (Value.int .i64)).length := by rw [List.length_map, hm]
      go_wp2_with (first
        | (refine wpList_load_mid rfl 22 _ rfl w.heap.size (k * 4) rfl (ms.map (Value.int .i64)) _ hr Try.underlying22 rfl (hlen ▸ (by kernel_rfl)) ?_))
      refine (copy4 ms wr hm).mono ?_
      rintro e w1 ⟨rfl, b1⟩
      rw [show row ms = .agg (ms.map (Value.int .i64)).toArray from rfl]
      have hc1 := b1.mono (B' := w.heap.size + 1 + 1 + 1) (by omega)
      have t1 := there_below h2.out hc1 (by omega)
      have G0 := Lib.hid (range_below h0.out hc1 (by omega))
      have G3 := Lib.hid (there_below h3.out hc1 (by omega))
      have hms : (ms.map (Value.int .i64)).length = 4 := by rw [List.length_map, hm]
      have ts := there_sub t1 4 (o := k * 4) (by omega)
      have hu := upRows_put cs k hcl hlt
      rw [em] at hu
      have G1 := Lib.hid (range_put (range_below h1.out hc1 (by omega)) (k * 4) (ms.map (Value.int .i64)) (by rw [hms]; exact ts) (by rw [hms]; unfold upRows zeros; simp; omega))
      rw [hms, hu] at G1
      have GB := Lib.hid (below_setCells (w.heap.size + 1 + 1) (show w.heap.size ≤ w.heap.size + 1 + 1 by omega) (ms.map (Value.int .i64)) (k * 4) w w1 (hb.trans (b1.mono hb.size)))
      have hs1 : w.heap.size + 1 + 1 < w1.heap.size := Nat.lt_of_lt_of_le hs b1.size
      go_wp2_with (first
        | (refine wpList_store_mid rfl 22 _ _ rfl (w.heap.size + 1 + 1) (k * 4) (ms.map (Value.int .i64)).toArray rfl rfl (by simpa [hm] using ts) (by rw [show (ms.map (Value.int .i64)).toArray.size = 4 by simp [hm]]; kernel_rfl) (all_oneCell_toArray (fun v hv => by obtain ⟨z, _, rfl⟩ := List.mem_map.1 hv; rfl)) ?_))
      go_roundw
      case rel => exact ⟨k + 1, by omega, by go_num, Lib.hid (range_other G0.out _ _ _ (by omega)), G1, Lib.hid (there_put t1 _ _), Lib.hid (there_put G3.out _ _), GB.out, by rw [size_setCells]; exact hs1⟩
      case measure => simp [intOf]; omega
    · obtain rfl : k = 6 := by omega
      have hf : upRows cs 6 = cs := by unfold upRows; rw [List.take_of_length_le (by omega)]; simp [zeros]
      have hr := h1.out
      rw [hf] at hr
      have ht := h3.out
      have hone : ∀ v ∈ cs, v.oneCell' = true := HO.out
      go_wp2_with (first
        | (refine wpList_load_mid rfl 23 _ rfl (w.heap.size + 1 + 1) 0 rfl cs _ hr Try.underlying23 rfl (by rw [hcl]; kernel_rfl) ?_)
        | (refine wpList_store_mid rfl 23 _ _ rfl (w.heap.size + 1) 0 cs.toArray rfl rfl (by simpa [hcl] using ht) (by rw [show cs.toArray.size = 24 by simp [hcl]]; kernel_rfl) (all_oneCell_toArray hone) ?_))
      exact bodyPost_ret (v := .agg cs.toArray) (results_cell_mid (P := Try.prog) rfl _ _ (w.heap.size + 1) cs _ rfl
        (World.rangeAt_setCells_same wr (w.heap.size + 1) 0 _ (by rw [hcl]; exact ht)) Try.underlying23 rfl (by rw [hcl]; kernel_rfl)) rfl ⟨rfl, below_setCells _ (Nat.le_succ _) _ _ _ _ hb⟩
end Go.Proofs.Ytpbfdjiglacbbab.base
