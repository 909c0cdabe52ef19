/-
  The cursor that the draws read, walked: some number of the asked range comes back, nothing but the cursor's own block changes.
-/
/-
  The draws of chapter 1, walked: each returns some argument of the asked kind, and leaves what was there as it was.
-/
/-
  One of some numbers is drawn, walked (the cursor's among).
-/
import Derived.Test.YtnldnjnnjfbhnabProg
import Derived.WalkKit
import Derived.ProofKit
import Derived.WalkLawsBesides
import Derived.WalkSpells
import Derived.Lib.Hide
import Derived.IntWalk
import Derived.Below
import Derived.Deep.QuietTactic
import Derived.BigQuiet
import Derived.Outline
import Derived.Laws.BitsLemmas
import Derived.RowKit
import Derived.OwnWalk
import Derived.Laws.IdiomStrings

section
namespace Go.Proofs.Ytnldnjnnjfbhnab.cur
open Go.ChangeShapes Go.WideShapes Go.ChangeAt Go.RowKit
set_option linter.unusedVariables false
set_option linter.unusedSimpArgs false

def cells (a : Option Addr) (len cap : Nat) (i seed : Int) : Obj := .cells #[.slice a len cap, .int .i64 i, .int .u64 seed] 64
/-- The bytes that a code's slice shows can be read. -/
def CodeIn (w : World) (c : Nat) (a : Option Addr) (len : Nat) : Prop :=
  len ≤ 65536 ∧ (len = 0 ∨ ∃ b off : Nat, a = some ⟨b, off, none⟩ ∧ b < c ∧ ∀ j : Nat, j < len → ∃ z : Int, w.cell? ⟨b, off + j, none⟩ = some (.int .u8 z) ∧ 0 ≤ z ∧ z < 256)
/-- The cursor in block c has moved at most k times. -/
def Cur (w : World) (c k : Nat) : Prop :=
  ∃ (a : Option Addr) (len cap : Nat) (i seed : Int), w.heap[c]? = some (cells a len cap i seed) ∧ 0 ≤ i ∧ i ≤ k ∧ 0 ≤ seed ∧ seed < 18446744073709551616 ∧ CodeIn w c a len

/-- All but the cursor's block is as it was. -/
structure Moved (c : Nat) (w w' : World) : Prop where
  os : w'.os = w.os
  tape : w'.tape = w.tape
  output : w'.output = w.output
  size : w.heap.size ≤ w'.heap.size
  block : ∀ k, k < w.heap.size → k ≠ c → w'.heap[k]? = w.heap[k]?

theorem Moved.refl (c : Nat) (w : World) : Moved c w w := ⟨rfl, rfl, rfl, Nat.le_refl _, fun _ _ _ => rfl⟩
theorem Moved.trans {c : Nat} {a b d : World} (h : Moved c a b) (k : Moved c b d) : Moved c a d :=
  ⟨k.os.trans h.os, k.tape.trans h.tape, k.output.trans h.output, Nat.le_trans h.size k.size, fun i hi hn => (k.block i (Nat.lt_of_lt_of_le hi h.size) hn).trans (h.block i hi hn)⟩
theorem Moved.below {c B : Nat} {a b d : World} (h : Below B a b) (k : Moved c b d) (hc : B ≤ c) (hB : B ≤ b.heap.size) : Below B a d :=
  ⟨k.os.trans h.os, k.tape.trans h.tape, k.output.trans h.output, Nat.le_trans h.size k.size, fun i hi => (k.block i (by omega) (by omega)).trans (h.block i hi)⟩
theorem moved_of_below {c : Nat} {a b : World} (h : Below a.heap.size a b) : Moved c a b := ⟨h.os, h.tape, h.output, h.size, fun i hi _ => h.block i hi⟩
theorem Cur.lt {w : World} {c k : Nat} (h : Cur w c k) : c < w.heap.size := by
  obtain ⟨a, len, cap, i, s, h, _⟩ := h
  exact (Array.getElem?_eq_some_iff.1 h).1
theorem CodeIn.moved {w w' : World} {c : Nat} {a : Option Addr} {len : Nat} (h : CodeIn w c a len) (m : Moved c w w') (hc : c < w.heap.size) : CodeIn w' c a len := by
  rcases h with ⟨h1, h2 | ⟨b, off, e, hb, hj⟩⟩
  · exact ⟨h1, .inl h2⟩
  · exact ⟨h1, .inr ⟨b, off, e, hb, fun j hl => by
      obtain ⟨z, hz, r⟩ := hj j hl
      exact ⟨z, (World.cell?_of_block (w := w) (m.block b (by omega) (by omega))).trans hz, r⟩⟩⟩
/-- What is new above leaves the cursor as it is. -/
theorem Cur.below {w w' : World} {c k : Nat} (h : Cur w c k) (m : Below w.heap.size w w') : Cur w' c k := by
  have hc := h.lt
  obtain ⟨a, len, cap, i, s, h, h1, h2, h3, h4, h5⟩ := h
  exact ⟨a, len, cap, i, s, (m.block c hc).trans h, h1, h2, h3, h4, h5.moved (moved_of_below m) hc⟩
theorem Cur.mono {w : World} {c k m : Nat} (h : Cur w c k) (hk : k ≤ m) : Cur w c m := by
  obtain ⟨a, len, cap, i, s, h, h1, h2, h3⟩ := h
  exact ⟨a, len, cap, i, s, h, h1, by omega, h3⟩
theorem cells_set (w : World) (c : Nat) (a : Option Addr) (len cap : Nat) (i s i' s' : Int) (h : w.heap[c]? = some (cells a len cap i s)) :
    ((w.setCell ⟨c, 1, none⟩ (.int .i64 i')).setCell ⟨c, 2, none⟩ (.int .u64 s')).heap[c]? = some (cells a len cap i' s') := by
  unfold World.setCell cells at *
  simp [Array.getElem?_modify, h]
theorem cells_moved (w : World) (c : Nat) (u v : Value) : Moved c w ((w.setCell ⟨c, 1, none⟩ u).setCell ⟨c, 2, none⟩ v) :=
  ⟨rfl, rfl, rfl, by simp [World.setCell], fun k _ hk => (Below.heap_setCell _ _ _ _ hk).trans (Below.heap_setCell _ _ _ _ hk)⟩

theorem cell_at {w : World} {c : Nat} {a : Option Addr} {len cap : Nat} {i s : Int} (h : w.heap[c]? = some (cells a len cap i s)) :
    w.cell? ⟨c, 0, none⟩ = some (.slice a len cap) ∧ w.cell? ⟨c, 1, none⟩ = some (.int .i64 i) ∧ w.cell? ⟨c, 2, none⟩ = some (.int .u64 s) ∧ (∀ o, w.frozen? ⟨c, o, none⟩ = false) := by
  unfold World.cell? World.frozen? cells at *
  simp [h]

theorem wrap_lo (n : Int) : 0 ≤ IntKind.u64.wrap n := by rw [IntKind.wrap_u64]; omega
theorem wrap_hi (n : Int) : IntKind.u64.wrap n < 18446744073709551616 := by rw [IntKind.wrap_u64]; omega
theorem low8 (s : Int) (h0 : 0 ≤ s) (h1 : s < 18446744073709551616) : 0 ≤ wrap64 (bits .and .u64 (s / 1099511627776) 255) ∧ wrap64 (bits .and .u64 (s / 1099511627776) 255) < 256 := by
  have h := bits_mask .u64 63 (by decide) (fun n h₀ h₁ => by rw [IntKind.wrap_u64]; omega) 8 (by decide) (s / 1099511627776) (by omega) (by omega)
  have e : ((2 : Int) ^ 8 - 1) = 255 := by decide
  have e2 : ((2 : Int) ^ 8) = 256 := by decide
  rw [e, e2] at h
  rw [h]
  unfold wrap64
  omega
theorem cur_done (w : World) (c k n m : Nat) (a : Option Addr) (len cap : Nat) (i s i' s' : Int) (hb : w.heap[c]? = some (cells a len cap i s)) (h1 : 0 ≤ i') (h2 : i' ≤ ((k + 1 : Nat) : Int)) (h3 : 0 ≤ s') (h4 : s' < 18446744073709551616) (h5 : CodeIn w c a len) (hlt : c < w.heap.size) :
    Cur ((((w.drewN n).setCell ⟨c, 1, none⟩ (.int .i64 i')).setCell ⟨c, 2, none⟩ (.int .u64 s')).drewN m) c (k + 1) :=
  ⟨a, len, cap, i', s', cells_set (w.drewN n) c a len cap i s i' s' hb, h1, h2, h3, h4, h5.moved ⟨rfl, rfl, rfl, (cells_moved w c (.int .i64 i') (.int .u64 s')).size, (cells_moved w c (.int .i64 i') (.int .u64 s')).block⟩ hlt⟩
theorem moved_done (w : World) (c n m : Nat) (u v : Value) : Moved c w ((((w.drewN n).setCell ⟨c, 1, none⟩ u).setCell ⟨c, 2, none⟩ v).drewN m) :=
  ⟨rfl, rfl, rfl, (cells_moved w c u v).size, (cells_moved w c u v).block⟩

set_option maxHeartbeats 800000 in
theorem next_any (c k : Nat) (w : World) (h : Cur w c k) (hk : k < 1099511627776) :
    Calls Try.prog 86 #[.pointer (some ⟨c, 0, none⟩)] w fun e w' => ∃ z : Int, e = .returned (.int .i64 z) ∧ 0 ≤ z ∧ z < 256 ∧ Cur w' c (k + 1) ∧ Moved c w w' := by
  have hlt := h.lt
  obtain ⟨a, len, cap, i, s, hb, h1, h2, h3, h4, h5⟩ := h
  obtain ⟨c0, c1, c2, cf⟩ := cell_at hb
  have f1 := cf 1
  have f2 := cf 2
  by_cases hil : i < (len : Int)
  · rcases h5 with ⟨hl, h5 | ⟨b, off, rfl, hbc, hj⟩⟩
    · omega
    · obtain ⟨z, hz, z0, z1⟩ := hj i.toNat (by omega)
      have hz' : w.cell? ⟨b, off + i.toNat, none⟩ = some (.int .u8 z) := hz
      clear hz
      go_enter Try.func86, Try.ntmps86
      go_wp2_with fail
      go_quiet (fail)
      go_wp2_with fail
      go_quiet (fail)
      go_wp2_with fail
      go_quiet (fail)
      go_wp2_with fail
      go_ret
      exact ⟨_, rfl, z0, z1, cur_done w c k _ _ _ _ _ _ _ _ _ hb (by omega) (by omega) (wrap_lo _) (wrap_hi _) ⟨hl, .inr ⟨b, off, rfl, hbc, hj⟩⟩ hlt, moved_done _ _ _ _ _ _⟩
  · go_enter Try.func86, Try.ntmps86
    go_wp2_with fail
    go_quiet (fail)
    go_wp2_with fail
    go_quiet (fail)
    go_wp2_with fail
    go_ret
    exact ⟨_, rfl, (low8 _ (wrap_lo _) (wrap_hi _)).1, (low8 _ (wrap_lo _) (wrap_hi _)).2, cur_done w c k _ _ _ _ _ _ _ _ _ hb (by omega) (by omega) (wrap_lo _) (wrap_hi _) h5 hlt, moved_done _ _ _ _ _ _⟩

set_option maxHeartbeats 800000 in
theorem pick_any (c k : Nat) (n : Int) (w : World) (h : Cur w c k) (hk : k < 1099511627776 - 2) (h0 : 0 < n) (h1 : n ≤ 1099511627776) :
    Calls Try.prog 67 #[.pointer (some ⟨c, 0, none⟩), .int .i64 n] w fun e w' => ∃ z : Int, e = .returned (.int .i64 z) ∧ 0 ≤ z ∧ z < n ∧ Cur w' c (k + 2) ∧ Moved c w w' := by
  have HC := Lib.hid h
  clear h
  by_cases hn : n ≤ 1
  · go_enter Try.func67, Try.ntmps67
    go_wp2_with fail
    go_ret
    exact ⟨_, rfl, by omega, by omega, HC.out.mono (by omega), Moved.refl _ _⟩
  · go_enter Try.func67, Try.ntmps67
    go_wp2_with fail
    refine (next_any c k w HC.out (by omega)).mono ?_
    rintro e w1 ⟨z, rfl, z0, z1, hc1, m1⟩
    have HC1 := Lib.hid hc1; have M1 := Lib.hid m1; clear hc1 m1
    by_cases hb : 200 < n
    · go_wp2_with fail
      refine (next_any c (k + 1) w1 HC1.out (by omega)).mono ?_
      rintro e w2 ⟨y, rfl, y0, y1, hc2, m2⟩
      have HC2 := Lib.hid hc2; have M2 := Lib.hid (M1.out.trans m2); clear hc2 m2
      go_wp2_with fail
      go_ret
      refine ⟨_, rfl, ?_, ?_, HC2.out, M2.out⟩
      all_goals (first | exact Int.emod_nonneg _ (by omega) | exact Int.emod_lt_of_pos _ (by omega) | trace_state)
    · go_wp2_with fail
      go_ret
      refine ⟨_, rfl, ?_, ?_, HC1.out.mono (by omega), M1.out⟩
      all_goals (first | exact Int.emod_nonneg _ (by omega) | exact Int.emod_lt_of_pos _ (by omega) | trace_state)

set_option maxHeartbeats 800000 in
theorem one_any (c k : Nat) (n : Int) (w : World) (h : Cur w c k) (hk : k < 1099511627776 - 2) (h0 : 0 < n) (h1 : n ≤ 1099511627776) :
    Calls Try.prog 65 #[.pointer (some ⟨c, 0, none⟩), .int .i64 n] w fun e w' => ∃ z : Bool, e = .returned (.bool z) ∧ Cur w' c (k + 2) ∧ Moved c w w' := by
  have HC := Lib.hid h
  clear h
  go_enter Try.func65, Try.ntmps65
  go_wp2_with fail
  refine (pick_any c k n w HC.out (by omega) h0 h1).mono ?_
  rintro e w1 ⟨z, rfl, z0, z1, hc1, m1⟩
  have HC1 := Lib.hid hc1; have M1 := Lib.hid m1; clear hc1 m1
  go_wp2_with fail
  go_ret
  exact ⟨_, rfl, HC1.out, M1.out⟩

/-- A row of strings, each as P asks. -/
def Row (P : ByteArray → Prop) (w : World) (g len : Nat) : Prop := ∀ j : Nat, j < len → ∃ s : ByteArray, w.cell? ⟨g, j, none⟩ = some (.string s) ∧ P s

def strs (p : ByteArray → Bool) (cs : List Value) : Bool := cs.all fun | .string s => p s | _ => false
theorem row_new (p : ByteArray → Bool) (w : World) (cs : Array Value) (t : TypeId) (n : Nat) (hn : n = cs.size) (h : strs p cs.toList = true) : Row (fun s => p s = true) (w.alloc (.cells cs t)) w.heap.size n := by
  intro j hj
  subst hn
  have hm : cs[j] ∈ cs.toList := by simp
  have h1 := List.all_eq_true.1 h _ hm
  have hc : (w.alloc (.cells cs t)).cell? ⟨w.heap.size, j, none⟩ = some cs[j] := by
    unfold World.cell? World.alloc
    simp [hj]
  cases hv : cs[j] with
  | string s => rw [hv] at h1 hc; exact ⟨s, hc, h1⟩
  | _ => rw [hv] at h1; cases h1

end Go.Proofs.Ytnldnjnnjfbhnab.cur
end

section
namespace Go.Proofs.Ytnldnjnnjfbhnab.base
open Go.ChangeShapes Go.WideShapes Go.ChangeAt Go.RowKit
open Go.Proofs.Ytnldnjnnjfbhnab.cur
set_option linter.unusedVariables false
set_option linter.unusedSimpArgs false

/-- What the walk is told of a slice of integers that came in. -/
def IsRow (k : IntKind) (w : World) (a : Option Addr) (len cap : Nat) (zs : List Int) : Prop :=
  (a = none ∧ len = 0 ∧ cap = 0 ∧ zs = []) ∨ ∃ x : Addr, a = some x ∧ len ≤ cap ∧ cap ≤ maxLen ∧ zs.length = cap ∧ (∀ i, i < zs.length → w.cell? (x.add i) = some (.int k (zs.getD i 0))) ∧ ∀ n ∈ zs, (Lit.int k n).wf = true

/-- What a law's code shows. -/
def Code (w : World) (a : Option Addr) (len : Nat) : Prop :=
  len ≤ 65536 ∧ (len = 0 ∨ ∃ b off : Nat, a = some ⟨b, off, none⟩ ∧ b < w.heap.size ∧ ∀ j : Nat, j < len → ∃ z : Int, w.cell? ⟨b, off + j, none⟩ = some (.int .u8 z) ∧ 0 ≤ z ∧ z < 256)
theorem Code.below {w w' : World} {a : Option Addr} {len : Nat} (h : Code w a len) (m : Below w.heap.size w w') : Code w' a len := by
  rcases h with ⟨h1, h2 | ⟨b, off, e, hb, hj⟩⟩
  · exact ⟨h1, .inl h2⟩
  · exact ⟨h1, .inr ⟨b, off, e, Nat.lt_of_lt_of_le hb m.size, fun j hl => by
      obtain ⟨z, hz, r⟩ := hj j hl
      exact ⟨z, (m.cell (p := ⟨b, off + j, none⟩) hb).trans hz, r⟩⟩⟩

theorem code_of {w : World} {a : Option Addr} {len cap : Nat} {zs : List Int} (h : IsRow .u8 w a len cap zs) (hl : len ≤ 65536) : Code w a len := by
  refine ⟨hl, ?_⟩
  rcases h with ⟨_, h, _⟩ | ⟨⟨b, off, spot⟩, rfl, hlc, hm, hz, hcell, hwf⟩
  · exact .inl h
  · by_cases h0 : len = 0
    · exact .inl h0
    · have hc := hcell 0 (by omega)
      have hspot : spot = none := by simpa [Addr.add] using World.cell?_spot hc
      subst hspot
      have hc0 : w.cell? ⟨b, off, none⟩ = some (.int .u8 (zs.getD 0 0)) := by simpa [Addr.add] using hc
      refine .inr ⟨b, off, rfl, World.block_lt_of_cell? _ _ hc0, fun j hj => ?_⟩
      have hjl : j < zs.length := by omega
      have := hcell j hjl
      have hadd : (⟨b, off, none⟩ : Addr).add j = ⟨b, off + j, none⟩ := by unfold Addr.add; split <;> simp_all
      rw [hadd] at this
      refine ⟨_, this, ?_⟩
      have hw := hwf (zs.getD j 0) (by rw [List.getD_eq_getElem?_getD, List.getElem?_eq_getElem hjl]; exact List.getElem_mem hjl)
      revert hw
      generalize zs.getD j 0 = n
      intro hw
      simp [Lit.wf, IntKind.min, IntKind.max, IntKind.signed, IntKind.bits] at hw
      omega

/-- A new cursor. -/
theorem cur_new {w : World} {a : Option Addr} {len cap : Nat} (h : Code w a len) : Cur (w.alloc (.cells #[.slice a len cap, .int .i64 0, .int .u64 0] 64)) w.heap.size 0 := by
  refine ⟨a, len, cap, 0, 0, ?_, by omega, by omega, by omega, by omega, ?_⟩
  · unfold World.alloc cells; simp
  · rcases h with ⟨h1, h2 | ⟨b, off, e, hb, hj⟩⟩
    · exact ⟨h1, .inl h2⟩
    · exact ⟨h1, .inr ⟨b, off, e, hb, fun j hl => by
        obtain ⟨z, hz, r⟩ := hj j hl
        exact ⟨z, (World.cell?_of_block (w := w) (Below.heap_alloc w _ b hb)).trans hz, r⟩⟩⟩
theorem below_cur {w w2 : World} (o : Obj) (m : Moved w.heap.size (w.alloc o) w2) : Below w.heap.size w w2 :=
  have hb : Below w.heap.size w (w.alloc o) := (Below.refl _ _).alloc (Nat.le_refl _) o
  m.below hb (Nat.le_refl _) hb.size

theorem moved_row {c B : Nat} {e : TypeId} {k : Nat} {v : Value} {n : Nat} {xs : List Value} {w w' : World} (h : w.ownsRow B e k v n xs) (m : Moved c w w') (hc : c < B) : w'.ownsRow B e k v n xs := by
  refine ⟨h.1, ?_⟩
  rcases h.2 with h2 | ⟨g, cap, cur, rfl, hb, hh, h3⟩
  · exact .inl h2
  · exact .inr ⟨g, cap, cur, rfl, hb, (m.block g (Array.getElem?_eq_some_iff.1 hh).1 (by omega)).trans hh, h3⟩
theorem row_lower {B B' : Nat} {e : TypeId} {k : Nat} {v : Value} {n : Nat} {xs : List Value} {w : World} (h : w.ownsRow B e k v n xs) (hb : B' ≤ B) : w.ownsRow B' e k v n xs := by
  refine ⟨h.1, ?_⟩
  rcases h.2 with h2 | ⟨g, cap, cur, rfl, hB, h3⟩
  · exact .inl h2
  · exact .inr ⟨g, cap, cur, rfl, by omega, h3⟩
theorem below_row {B : Nat} {e : TypeId} {k : Nat} {v : Value} {n : Nat} {xs : List Value} {w w' : World} (h : w.ownsRow B e k v n xs) (m : Below w.heap.size w w') : w'.ownsRow B e k v n xs := by
  refine ⟨h.1, ?_⟩
  rcases h.2 with h2 | ⟨g, cap, cur, rfl, hb, hh, h3⟩
  · exact .inl h2
  · exact .inr ⟨g, cap, cur, rfl, hb, (m.block g (Array.getElem?_eq_some_iff.1 hh).1).trans hh, h3⟩

theorem _root_.Go.Proofs.Ytnldnjnnjfbhnab.cur.Cur.grown {w w' : World} {c k : Nat} {row : Option Nat} (h : Cur w c k) (hg : w.grownBy w' row) (hr : ∀ g, row = some g → c < g) : Cur w' c k := by
  have hc := h.lt
  have hb : ∀ i, i ≤ c → w'.heap[i]? = w.heap[i]? := fun i hi => hg.block i (by omega) (fun e => by have := hr i e.symm; omega)
  obtain ⟨a, len, cap, i, s, h, h1, h2, h3, h4, h5⟩ := h
  refine ⟨a, len, cap, i, s, (hb c (Nat.le_refl _)).trans h, h1, h2, h3, h4, ?_⟩
  rcases h5 with ⟨h1, h2 | ⟨b, off, e, hbc, hj⟩⟩
  · exact ⟨h1, .inl h2⟩
  · exact ⟨h1, .inr ⟨b, off, e, hbc, fun j hl => by
      obtain ⟨z, hz, r⟩ := hj j hl
      exact ⟨z, (World.cell?_of_block (w := w) (hb b (by omega))).trans hz, r⟩⟩⟩

theorem infoU8 : (Try.prog.info? 5).map (fun i => (i.zero, i.size, i.bytes)) = some (some (.int .u8 0), 1, 1) := by kernel_rfl
/-- Bytes just made are the text of as many zero bytes. -/
theorem zeros_text {w : World} {B g N : Nat} (h : w.ownsRow B 5 1 (.slice (some ⟨g, 0, none⟩) N N) N (madeCells (Value.int .u8 0).cells (N * 1)).toList) :
    (convert 22 9 (.slice (some ⟨g, 0, none⟩) N N)).run Try.prog w = .ok (.string ⟨(List.replicate N (0 : UInt8)).toArray⟩) w := by
  have h1 := run_convert_bytes_back (P := Try.prog) w 22 9 5 ⟨g, 0, none⟩ N (List.replicate N (0 : UInt8)) Try.underlying22 Try.underlying5 Try.underlying9 (fun j hj => by
    rw [List.length_replicate] at hj
    have hc := h.cellAt j (by omega)
    have e : (Value.int .u8 0).cells = #[Value.int .u8 0] := rfl
    rw [e, toList_madeCells_one, List.getElem?_replicate, if_pos (by omega)] at hc
    have hadd : (⟨g, 0, none⟩ : Addr).add j = ⟨g, j, none⟩ := by unfold Addr.add; split <;> simp_all
    rw [hadd, hc, List.getElem_replicate]; rfl)
  rw [List.length_replicate] at h1
  exact h1
theorem zeros_size (N : Nat) : (⟨(List.replicate N (0 : UInt8)).toArray⟩ : ByteArray).size = N := by show (List.replicate N (0 : UInt8)).toArray.size = N; simp

end Go.Proofs.Ytnldnjnnjfbhnab.base
end

section
namespace Go.Proofs.Ytnldnjnnjfbhnab.base
open Go.ChangeShapes Go.WideShapes Go.ChangeAt Go.RowKit
open Go.Proofs.Ytnldnjnnjfbhnab.cur
set_option linter.unusedVariables false
set_option linter.unusedSimpArgs false

/-- A row of numbers, each as P asks. -/
def RowI (P : Int → Prop) (w : World) (g len : Nat) : Prop := ∀ j : Nat, j < len → ∃ n : Int, w.cell? ⟨g, j, none⟩ = some (.int .i64 n) ∧ P n

set_option maxHeartbeats 800000 in
theorem among_any (P : Int → Prop) (c k g len cap : Nat) (w : World) (h : Cur w c k) (hk : k < 1099511627776 - 2) (h0 : 0 < len) (h1 : len ≤ 1000) (hr : RowI P w g len) (hgc : g ≠ c) :
    Calls Try.prog 57 #[.pointer (some ⟨c, 0, none⟩), .slice (some ⟨g, 0, none⟩) len cap] w fun e w' => ∃ s : Int, e = .returned (.int .i64 s) ∧ P s ∧ Cur w' c (k + 2) ∧ Moved c w w' := by
  have hg : g < w.heap.size := by
    obtain ⟨s, hs, _⟩ := hr 0 h0
    exact World.block_lt_of_cell? _ _ hs
  have HC := Lib.hid h
  have HR := Lib.hid hr
  clear h hr
  go_enter Try.func57, Try.ntmps57
  go_wp2_with fail
  refine (pick_any c k len w HC.out (by omega) (by omega) (by omega)).mono ?_
  rintro e w1 ⟨z, rfl, z0, z1, hc1, m1⟩
  have HC1 := Lib.hid hc1; have M1 := Lib.hid m1
  obtain ⟨s, hs, hp⟩ := HR.out z.toNat (by omega)
  have hs1 : w1.cell? ⟨g, z.toNat, none⟩ = some (.int .i64 s) := (World.cell?_of_block (w := w) (m1.block g hg hgc)).trans hs
  have HP := Lib.hid hp
  clear hc1 m1 hs hp
  go_wp2_with fail
  go_ret
  exact ⟨_, rfl, HP.out, HC1.out, M1.out⟩

def intsP (P : Int → Prop) (cs : List Value) : Prop := ∀ v ∈ cs, ∃ n : Int, v = .int .i64 n ∧ P n
theorem among_new (P : Int → Prop) (c k n : Nat) (w : World) (cs : Array Value) (t : TypeId) (h : Cur w c k) (hk : k < 1099511627776 - 2) (hn : n = cs.size) (h0 : 0 < n) (h1 : n ≤ 1000) (hp : intsP P cs.toList) :
    Calls Try.prog 57 #[.pointer (some ⟨c, 0, none⟩), .slice (some ⟨w.heap.size, 0, none⟩) n n] (w.alloc (.cells cs t)) fun e w' => ∃ s : Int, e = .returned (.int .i64 s) ∧ P s ∧ Cur w' c (k + 2) ∧ Moved c w w' := by
  have hb : Below w.heap.size w (w.alloc (.cells cs t)) := (Below.refl _ _).alloc (Nat.le_refl _) _
  refine (among_any P c k w.heap.size n n _ (h.below hb) hk h0 h1 (fun j hj => ?_) (by have := h.lt; omega)).mono ?_
  · subst hn
    obtain ⟨m, e, hm⟩ := hp cs[j] (by simp)
    have hc : (w.alloc (.cells cs t)).cell? ⟨w.heap.size, j, none⟩ = some cs[j] := by
      unfold World.cell? World.alloc
      simp [hj]
    exact ⟨m, by rw [hc, e], hm⟩
  · rintro e w' ⟨s, rfl, hs, hc, m⟩
    exact ⟨s, rfl, hs, hc, (moved_of_below hb).trans m⟩


/-- As among_new; where the row lies is told beside. -/
theorem among_at (P : Int → Prop) (c k n g : Nat) (w : World) (cs : Array Value) (t : TypeId) (hg : g = w.heap.size) (h : Cur w c k) (hk : k < 1099511627776 - 2) (hn : n = cs.size) (h0 : 0 < n) (h1 : n ≤ 1000) (hp : intsP P cs.toList) :
    Calls Try.prog 57 #[.pointer (some ⟨c, 0, none⟩), .slice (some ⟨g, 0, none⟩) n n] (w.alloc (.cells cs t)) fun e w' => ∃ s : Int, e = .returned (.int .i64 s) ∧ P s ∧ Cur w' c (k + 2) ∧ Moved c w w' := by
  subst hg; exact among_new P c k n w cs t h hk hn h0 h1 hp
end Go.Proofs.Ytnldnjnnjfbhnab.base
end
