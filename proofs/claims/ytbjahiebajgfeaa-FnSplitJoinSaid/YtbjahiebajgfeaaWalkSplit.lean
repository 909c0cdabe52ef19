/-
  The law on SplitString answers true: both functions give the same parts in new memory; what is written into one result is seen by no other.
  No condition beyond the length of a string that can be read.
-/
import Derived.Test.YtbjahiebajgfeaaSplitImpl
import Derived.Test.YtbjahiebajgfeaaMark
import Derived.Test.YtbjahiebajgfeaaRows
namespace Go.Proofs.Ytbjahiebajgfeaa.base
open Go.ChangeShapes Go.WideShapes Go.ChangeAt Go.RowKit
set_option linter.unusedVariables false

def splitB (s sep : ByteArray) : Bool := decide (s.size ≤ 4000 ∧ sep.size = 1)
def splitP (s sep : ByteArray) : List (List UInt8) := if s.size ≤ 4000 ∧ sep.size = 1 then splitL (sep.data.toList.headD 0) s.data.toList else []

theorem splitP_len (s sep : ByteArray) : (splitP s sep).length ≤ 4001 := by
  unfold splitP
  split
  · rename_i h
    have := split_count (sep.data.toList.headD 0) s.data.toList
    have := bytesize s
    omega
  · simp

theorem nilParts (w : World) : IsParts w (w.alloc (.cells #[] 9)) (.slice (some ⟨w.heap.size, 0, none⟩) 0 0) [] :=
  ⟨World.ownsRow_made w #[] 0 (Nat.le_refl _) (Nat.zero_le _) (by simp), (Below.refl _ _).alloc (Nat.le_refl _) _⟩

theorem head_eq (sep : ByteArray) (h : 0 < sep.size) : sep.data.toList.headD 0 = sep[0] := by
  have := byteat sep 0 h
  cases hl : sep.data.toList with
  | nil => rw [hl] at this; cases this
  | cons a r => rw [hl] at this; simpa using this

set_option maxHeartbeats 800000 in
theorem implSplit_any (s sep : ByteArray) (w : World) (hs : s.size ≤ maxLen) (hp : sep.size ≤ maxLen) :
    Calls Try.prog 10 #[.string s, .string sep] w fun e w' => ∃ v : Value, e = .returned (.tuple #[v, .bool (splitB s sep)]) ∧ IsParts w w' v (splitP s sep) := by
  by_cases h1 : s.size ≤ 4000
  · by_cases h2 : sep.size = 1
    · rw [show splitB s sep = true from decide_eq_true ⟨h1, h2⟩, show splitP s sep = splitL (sep.data.toList.headD 0) s.data.toList from if_pos ⟨h1, h2⟩]
      exact implSplit_in s sep w (by omega) h2
    · rw [show splitB s sep = false from decide_eq_false (fun h => h2 h.2), show splitP s sep = [] from if_neg (fun h => h2 h.2)]
      have q1 : decide ((4000 : Int) < (s.size : Int)) = false := by simp; omega
      have q2 : ((sep.size : Int) != 1) = true := by rw [bne_iff_ne]; omega
      go_enter Try.func10, Try.ntmps10
      go_wp2_with fail
      go_ret2
      exact ⟨_, rfl, nilParts w⟩
  · rw [show splitB s sep = false from decide_eq_false (fun h => h1 h.1), show splitP s sep = [] from if_neg (fun h => h1 h.1)]
    have q1 : (4000 : Int) < (s.size : Int) := by omega
    go_enter Try.func10, Try.ntmps10
    go_wp2_with fail
    go_ret2
    exact ⟨_, rfl, nilParts w⟩

set_option maxHeartbeats 800000 in
theorem specSplit_any (s sep : ByteArray) (w : World) (hs : s.size ≤ maxLen) (hp : sep.size ≤ maxLen) :
    Calls Try.prog 17 #[.string s, .string sep] w fun e w' => ∃ v : Value, e = .returned (.tuple #[v, .bool (splitB s sep)]) ∧ IsParts w w' v (splitP s sep) := by
  by_cases h2 : sep.size = 1
  · have q2 : ((sep.size : Int) != 1) = false := by rw [h2]; rfl
    by_cases h1 : s.size ≤ 4000
    · rw [show splitB s sep = true from decide_eq_true ⟨h1, h2⟩, show splitP s sep = splitL (sep.data.toList.headD 0) s.data.toList from if_pos ⟨h1, h2⟩]
      have q1 : decide ((4000 : Int) < (s.size : Int)) = false := by simp; omega
      have hb0 : 0 < sep.size := by omega
      have q3 : (0 : Int) < (sep.size : Int) := by omega
      have HS := Lib.hid (fun W => l1Split_any s (sep[0].toNat : Int) sep[0] rfl W (by omega))
      rw [head_eq sep hb0]
      clear h2
      go_enter Try.func17, Try.ntmps17
      go_wp2_with fail
      refine (HS.out _).mono ?_
      rintro e w1 ⟨v, rfl, hv⟩
      have HV := Lib.hid hv
      clear hv
      go_wp2_with fail
      go_ret2
      exact ⟨_, rfl, HV.out⟩
    · rw [show splitB s sep = false from decide_eq_false (fun h => h1 h.1), show splitP s sep = [] from if_neg (fun h => h1 h.1)]
      have q1 : decide ((4000 : Int) < (s.size : Int)) = true := by simp; omega
      go_enter Try.func17, Try.ntmps17
      go_wp2_with fail
      go_ret2
      exact ⟨_, rfl, nilParts w⟩
  · rw [show splitB s sep = false from decide_eq_false (fun h => h2 h.2), show splitP s sep = [] from if_neg (fun h => h2 h.2)]
    have q2 : ((sep.size : Int) != 1) = true := by rw [bne_iff_ne]; omega
    go_enter Try.func17, Try.ntmps17
    go_wp2_with fail
    go_ret2
    exact ⟨_, rfl, nilParts w⟩

/-- A row stays where other blocks turn. -/
theorem row_grown {w wx : World} {base : Nat} {e : TypeId} {size n : Nat} {v : Value} {xs : List Value} {r : Option Nat} (h : w.ownsRow base e size v n xs) (hg : w.grownBy wx r) (hne : v.ownBlock = none ∨ v.ownBlock ≠ r) : wx.ownsRow base e size v n xs := h.kept hg hne

set_option maxHeartbeats 1600000 in
theorem lawSplit (s sep : ByteArray) (w : World) (hs : s.size ≤ maxLen) (hp : sep.size ≤ maxLen) :
    Calls Try.prog 4 #[.string s, .string sep] w fun e w' => e = .returned (.bool true) ∧ Below w.heap.size w w' := by
  by_cases h0 : (1048576 : Int) < (s.size : Int)
  · go_enter Try.func4, Try.ntmps4
    go_wp2_with fail
    go_ret
    exact ⟨rfl, Below.refl _ _⟩
  · by_cases h1 : (1048576 : Int) < (sep.size : Int)
    · go_enter Try.func4, Try.ntmps4
      go_wp2_with fail
      go_ret
      exact ⟨rfl, Below.refl _ _⟩
    · have HS := Lib.hid (fun W => specSplit_any s sep W hs hp)
      have HM := Lib.hid (fun W => implSplit_any s sep W hs hp)
      have HN := Lib.hid (splitP_len s sep)
      generalize splitP s sep = ps at *
      generalize splitB s sep = ok at *
      go_enter Try.func4, Try.ntmps4
      go_wp2_with fail
      refine (HS.out _).mono ?_
      rintro e w1 ⟨v0, rfl, r0, b1⟩
      have R0 := Lib.hid r0; have B1 := Lib.hid b1; clear r0 b1
      go_wp2_with fail
      refine (HM.out _).mono ?_
      rintro e w2 ⟨v1, rfl, r1, b2⟩
      have R1 := Lib.hid r1; have B2 := Lib.hid b2; clear r1 b2
      have R02 := Lib.hid (row_below R0.out B2.out)
      go_wp2_with fail
      refine (eqS_same v1 v0 _ _ ps w2 (by have := HN.out; omega) R1.out R02.out).mono ?_
      rintro e w3 ⟨rfl, d3, rfl⟩
      go_wp2_with fail
      refine (markS _ v1 ps.length 1 (ps.map strV) (w2.drewN d3) (by simp) (by have := HN.out; omega) (by omega) R1.out).mono ?_
      rintro e w4 ⟨rfl, r4, g4, s4⟩
      have R4 := Lib.hid r4; have G4 := Lib.hid g4; clear r4 g4
      go_wp2_with fail
      refine (heldS _ v1 ps.length 1 (ps.map strV) w4 (by simp) (by have := HN.out; omega) (by omega) R4.out).mono ?_
      rintro e w5 ⟨rfl, b5⟩
      have B5 := Lib.hid b5; clear b5
      go_wp2_with fail
      refine (HM.out _).mono ?_
      rintro e w6 ⟨v2, rfl, r6, b6⟩
      have R6 := Lib.hid r6; have B6 := Lib.hid b6; clear r6 b6
      have hne : v0.ownBlock = none ∨ v0.ownBlock ≠ v1.ownBlock := by
        cases hv : v0.ownBlock with
        | none => exact .inl rfl
        | some k =>
          right
          intro e
          have h1 := (R0.out.lt k hv).2
          have h2 := (R1.out.lt k e.symm).1
          omega
      have R04 : Hid (w4.ownsRow w.heap.size 9 1 v0 ps.length (ps.map strV)) := Lib.hid (row_grown (w := w2.drewN d3) R02.out G4.out hne)
      have R06 := Lib.hid (row_below (row_below R04.out B5.out) B6.out)
      have R46 := Lib.hid (row_below (row_below R4.out B5.out) B6.out)
      have HB : Hid (Below w.heap.size w w6) := Lib.hid (by
        have s12 := B2.out.size
        have s1 := B1.out.size
        have a2 : Below w.heap.size w w2 := B1.out.trans (B2.out.mono s1)
        have a3 : Below w.heap.size w (w2.drewN d3) := ⟨a2.os, a2.tape, a2.output, a2.size, a2.block⟩
        have a4 : Below w.heap.size w w4 := a3.grown G4.out (by show w.heap.size ≤ w2.heap.size; omega) (fun k e => by have := (R1.out.lt k e).1; omega)
        have a5 := a4.trans (B5.out.mono a4.size)
        exact a5.trans (B6.out.mono a5.size))
      clear hne s4
      go_wp2_with fail
      refine (eqS_same v2 v0 _ _ ps w6 (by have := HN.out; omega) R6.out R06.out).mono ?_
      rintro e w7 ⟨rfl, d7, rfl⟩
      go_wp2_with fail
      refine (heldS _ v1 ps.length 1 (ps.map strV) (w6.drewN d7) (by simp) (by have := HN.out; omega) (by omega) R46.out).mono ?_
      rintro e w8 ⟨rfl, b8⟩
      have B8 := Lib.hid b8; clear b8
      go_wp2_with fail
      go_ret
      exact ⟨rfl, HB.out.trans ⟨B8.out.os, B8.out.tape, B8.out.output, B8.out.size, fun k hk => B8.out.block k (Nat.lt_of_lt_of_le hk HB.out.size)⟩⟩
end Go.Proofs.Ytbjahiebajgfeaa.base
