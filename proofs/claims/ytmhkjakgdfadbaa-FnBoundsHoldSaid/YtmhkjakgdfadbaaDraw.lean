/-
  The draws of chapter 1, walked: each returns some argument of the asked kind, and leaves what was there as it was.
-/
import Derived.Test.YtmhkjakgdfadbaaCur
import Derived.RowKit
import Derived.OwnWalk
import Derived.Laws.IdiomStrings
namespace Go.Proofs.Ytmhkjakgdfadbaa.base
open Go.ChangeShapes Go.WideShapes Go.ChangeAt Go.RowKit
open Go.Proofs.Ytmhkjakgdfadbaa.cur
set_option linter.unusedVariables false
set_option linter.unusedSimpArgs false

/-- What the walk is told of a slice of integers that came in. -/
def IsRow (k : IntKind) (w : World) (a : Option Addr) (len cap : Nat) (zs : List Int) : Prop :=
  (a = none ∧ len = 0 ∧ cap = 0 ∧ zs = []) ∨ ∃ x : Addr, a = some x ∧ len ≤ cap ∧ cap ≤ maxLen ∧ zs.length = cap ∧ (∀ i, i < zs.length → w.cell? (x.add i) = some (.int k (zs.getD i 0))) ∧ ∀ n ∈ zs, (Lit.int k n).wf = true

/-- What a law's code shows. -/
def Code (w : World) (a : Option Addr) (len : Nat) : Prop :=
  len ≤ 65536 ∧ (len = 0 ∨ ∃ b off : Nat, a = some ⟨b, off, none⟩ ∧ b < w.heap.size ∧ ∀ j : Nat, j < len → ∃ z : Int, w.cell? ⟨b, off + j, none⟩ = some (.int .u8 z) ∧ 0 ≤ z ∧ z < 256)
theorem Code.below {w w' : World} {a : Option Addr} {len : Nat} (h : Code w a len) (m : Below w.heap.size w w') : Code w' a len := by
  rcases h with ⟨h1, h2 | ⟨b, off, e, hb, hj⟩⟩
  · exact ⟨h1, .inl h2⟩
  · exact ⟨h1, .inr ⟨b, off, e, Nat.lt_of_lt_of_le hb m.size, fun j hl => by
      obtain ⟨z, hz, r⟩ := hj j hl
      exact ⟨z, (m.cell (p := ⟨b, off + j, none⟩) hb).trans hz, r⟩⟩⟩

theorem code_of {w : World} {a : Option Addr} {len cap : Nat} {zs : List Int} (h : IsRow .u8 w a len cap zs) (hl : len ≤ 65536) : Code w a len := by
  refine ⟨hl, ?_⟩
  rcases h with ⟨_, h, _⟩ | ⟨⟨b, off, spot⟩, rfl, hlc, hm, hz, hcell, hwf⟩
  · exact .inl h
  · by_cases h0 : len = 0
    · exact .inl h0
    · have hc := hcell 0 (by omega)
      have hspot : spot = none := by simpa [Addr.add] using World.cell?_spot hc
      subst hspot
      have hc0 : w.cell? ⟨b, off, none⟩ = some (.int .u8 (zs.getD 0 0)) := by simpa [Addr.add] using hc
      refine .inr ⟨b, off, rfl, World.block_lt_of_cell? _ _ hc0, fun j hj => ?_⟩
      have hjl : j < zs.length := by omega
      have := hcell j hjl
      have hadd : (⟨b, off, none⟩ : Addr).add j = ⟨b, off + j, none⟩ := by unfold Addr.add; split <;> simp_all
      rw [hadd] at this
      refine ⟨_, this, ?_⟩
      have hw := hwf (zs.getD j 0) (by rw [List.getD_eq_getElem?_getD, List.getElem?_eq_getElem hjl]; exact List.getElem_mem hjl)
      revert hw
      generalize zs.getD j 0 = n
      intro hw
      simp [Lit.wf, IntKind.min, IntKind.max, IntKind.signed, IntKind.bits] at hw
      omega

/-- A new cursor. -/
theorem cur_new {w : World} {a : Option Addr} {len cap : Nat} (h : Code w a len) : Cur (w.alloc (.cells #[.slice a len cap, .int .i64 0, .int .u64 0] 72)) w.heap.size 0 := by
  refine ⟨a, len, cap, 0, 0, ?_, by omega, by omega, by omega, by omega, ?_⟩
  · unfold World.alloc cells; simp
  · rcases h with ⟨h1, h2 | ⟨b, off, e, hb, hj⟩⟩
    · exact ⟨h1, .inl h2⟩
    · exact ⟨h1, .inr ⟨b, off, e, hb, fun j hl => by
        obtain ⟨z, hz, r⟩ := hj j hl
        exact ⟨z, (World.cell?_of_block (w := w) (Below.heap_alloc w _ b hb)).trans hz, r⟩⟩⟩
theorem below_cur {w w2 : World} (o : Obj) (m : Moved w.heap.size (w.alloc o) w2) : Below w.heap.size w w2 :=
  have hb : Below w.heap.size w (w.alloc o) := (Below.refl _ _).alloc (Nat.le_refl _) o
  m.below hb (Nat.le_refl _) hb.size

theorem moved_row {c B : Nat} {e : TypeId} {k : Nat} {v : Value} {n : Nat} {xs : List Value} {w w' : World} (h : w.ownsRow B e k v n xs) (m : Moved c w w') (hc : c < B) : w'.ownsRow B e k v n xs := by
  refine ⟨h.1, ?_⟩
  rcases h.2 with h2 | ⟨g, cap, cur, rfl, hb, hh, h3⟩
  · exact .inl h2
  · exact .inr ⟨g, cap, cur, rfl, hb, (m.block g (Array.getElem?_eq_some_iff.1 hh).1 (by omega)).trans hh, h3⟩
theorem row_lower {B B' : Nat} {e : TypeId} {k : Nat} {v : Value} {n : Nat} {xs : List Value} {w : World} (h : w.ownsRow B e k v n xs) (hb : B' ≤ B) : w.ownsRow B' e k v n xs := by
  refine ⟨h.1, ?_⟩
  rcases h.2 with h2 | ⟨g, cap, cur, rfl, hB, h3⟩
  · exact .inl h2
  · exact .inr ⟨g, cap, cur, rfl, by omega, h3⟩
theorem below_row {B : Nat} {e : TypeId} {k : Nat} {v : Value} {n : Nat} {xs : List Value} {w w' : World} (h : w.ownsRow B e k v n xs) (m : Below w.heap.size w w') : w'.ownsRow B e k v n xs := by
  refine ⟨h.1, ?_⟩
  rcases h.2 with h2 | ⟨g, cap, cur, rfl, hb, hh, h3⟩
  · exact .inl h2
  · exact .inr ⟨g, cap, cur, rfl, hb, (m.block g (Array.getElem?_eq_some_iff.1 hh).1).trans hh, h3⟩

theorem _root_.Go.Proofs.Ytmhkjakgdfadbaa.cur.Cur.grown {w w' : World} {c k : Nat} {row : Option Nat} (h : Cur w c k) (hg : w.grownBy w' row) (hr : ∀ g, row = some g → c < g) : Cur w' c k := by
  have hc := h.lt
  have hb : ∀ i, i ≤ c → w'.heap[i]? = w.heap[i]? := fun i hi => hg.block i (by omega) (fun e => by have := hr i e.symm; omega)
  obtain ⟨a, len, cap, i, s, h, h1, h2, h3, h4, h5⟩ := h
  refine ⟨a, len, cap, i, s, (hb c (Nat.le_refl _)).trans h, h1, h2, h3, h4, ?_⟩
  rcases h5 with ⟨h1, h2 | ⟨b, off, e, hbc, hj⟩⟩
  · exact ⟨h1, .inl h2⟩
  · exact ⟨h1, .inr ⟨b, off, e, hbc, fun j hl => by
      obtain ⟨z, hz, r⟩ := hj j hl
      exact ⟨z, (World.cell?_of_block (w := w) (hb b (by omega))).trans hz, r⟩⟩⟩

theorem infoU8 : (Try.prog.info? 5).map (fun i => (i.zero, i.size, i.bytes)) = some (some (.int .u8 0), 1, 1) := by kernel_rfl
/-- Bytes just made are the text of as many zero bytes. -/
theorem zeros_text {w : World} {B g N : Nat} (h : w.ownsRow B 5 1 (.slice (some ⟨g, 0, none⟩) N N) N (madeCells (Value.int .u8 0).cells (N * 1)).toList) :
    (convert 22 9 (.slice (some ⟨g, 0, none⟩) N N)).run Try.prog w = .ok (.string ⟨(List.replicate N (0 : UInt8)).toArray⟩) w := by
  have h1 := run_convert_bytes_back (P := Try.prog) w 22 9 5 ⟨g, 0, none⟩ N (List.replicate N (0 : UInt8)) Try.underlying22 Try.underlying5 Try.underlying9 (fun j hj => by
    rw [List.length_replicate] at hj
    have hc := h.cellAt j (by omega)
    have e : (Value.int .u8 0).cells = #[Value.int .u8 0] := rfl
    rw [e, toList_madeCells_one, List.getElem?_replicate, if_pos (by omega)] at hc
    have hadd : (⟨g, 0, none⟩ : Addr).add j = ⟨g, j, none⟩ := by unfold Addr.add; split <;> simp_all
    rw [hadd, hc, List.getElem_replicate]; rfl)
  rw [List.length_replicate] at h1
  exact h1
theorem zeros_size (N : Nat) : (⟨(List.replicate N (0 : UInt8)).toArray⟩ : ByteArray).size = N := by show (List.replicate N (0 : UInt8)).toArray.size = N; simp

end Go.Proofs.Ytmhkjakgdfadbaa.base
