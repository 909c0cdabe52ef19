/-
  AppendChecksum of the program and of the model, walked: both return the text, the mark and the checksum's numeral, and true, or the empty string and false.
  Condition: the library's table of powers of ten holds what its initialiser lays (the card ties it).
-/
import Derived.Test.YtbjahiebajgfeaaDoorFormat
import Derived.Test.YtbjahiebajgfeaaDoorStands
import Derived.Test.YtbjahiebajgfeaaDoorSum
namespace Go.Proofs.YtbjahiebajgfeaaDoor.num
open Go.ChangeShapes Go.WideShapes Go.ChangeAt Go.RowKit
open Go.Proofs.YtbjahiebajgfeaaDoor.base (stands stands_iff stands_not bytesize byteat)
open Go.Proofs.YtbjahiebajgfeaaDoor.sums (sumOf sumOf_range)
set_option linter.unusedVariables false

def markOf (s : ByteArray) : ByteArray := s ++ ⟨#[35]⟩
def sealList (l : List UInt8) : List UInt8 := l ++ 35 :: Lib.itoa (sumOf l)
def sealOf (s : ByteArray) : ByteArray := ⟨(sealList s.data.toList).toArray⟩

theorem list_of_mk (l : List UInt8) : (⟨l.toArray⟩ : ByteArray).data.toList = l := by simp
theorem size_of_mk (l : List UInt8) : (⟨l.toArray⟩ : ByteArray).size = l.length := by show l.toArray.size = _; simp
theorem mk_of_list (s : ByteArray) : (⟨s.data.toList.toArray⟩ : ByteArray) = s := by cases s; simp

theorem itoa_len (n : Int) (h0 : 0 ≤ n) (h1 : n < 999979) : 1 ≤ (Lib.itoa n).length ∧ (Lib.itoa n).length ≤ 21 := by
  refine ⟨?_, Lib.itoa_length_le n (by omega) (by omega)⟩
  unfold Lib.itoa; rw [if_neg (by omega), Lib.decDigits_length]; exact Lib.nDigits_pos _

theorem add_mark (s : ByteArray) (hs : s.size ≤ 1099511627776) (W : World) : (Op.stringOp .add s ⟨#[35]⟩).run Tryd.prog W = .ok (.string (markOf s)) W := by
  rw [run_string_add_sum]; · rfl
  · show s.size + 1 ≤ _; omega

theorem add_sum (s : ByteArray) (hs : s.size ≤ 1099511627776) (W : World) : (Op.stringOp .add (markOf s) ⟨(Lib.itoa (sumOf s.data.toList)).toArray⟩).run Tryd.prog W = .ok (.string (sealOf s)) W := by
  have hr := sumOf_range s.data.toList
  have hl := itoa_len _ hr.1 hr.2
  rw [run_string_add_sum]
  · congr 2
    unfold markOf sealOf sealList
    conv => lhs; rw [← mk_of_list s]
    rw [show (⟨#[35]⟩ : ByteArray) = ⟨[35].toArray⟩ from rfl, ByteArray.mk_append_mk, ByteArray.mk_append_mk]
    simp
  · have e2 := size_of_mk (Lib.itoa (sumOf s.data.toList))
    have : (markOf s).size = s.size + 1 := by unfold markOf; rw [ByteArray.size_append]; rfl
    omega

theorem seal_size (s : ByteArray) : (sealOf s).size = s.size + 1 + (Lib.itoa (sumOf s.data.toList)).length := by
  unfold sealOf; rw [size_of_mk]; unfold sealList; rw [List.length_append, List.length_cons, bytesize]; omega

set_option maxHeartbeats 400000 in
theorem l1Seal_any (s : ByteArray) (w : World) (hs : s.size ≤ 1099511627776) :
    Calls Tryd.prog 34 #[.string s] w fun e w' => e = .returned (.string (sealOf s)) ∧ ∃ d, w' = w.drewN d := by
  have hr := sumOf_range s.data.toList
  have HS := Lib.hid (fun W => sums.l1Sum_any s W (by unfold maxLen; omega))
  have HN := Lib.hid (fun W => l1Num_any (sumOf s.data.toList) W (by omega) (by omega))
  have h1 := add_mark s hs
  have h2 := add_sum s hs
  clear hr
  go_enter Tryd.func34, Tryd.ntmps34
  go_wp2_with fail
  refine (HS.out _).mono ?_
  rintro e w1 ⟨rfl, rfl⟩
  go_wp2_with fail
  refine (HN.out _).mono ?_
  rintro e w2 ⟨rfl, d, rfl⟩
  go_wp2_with fail
  go_ret
  exact ⟨rfl, d, rfl⟩

/-- What AppendChecksum answers: whether it does, and what. -/
def canSeal (s : ByteArray) : Prop := s.size ≤ 4000 ∧ stands s.data.toList 35 = false ∧ (sealOf s).size ≤ 4000

theorem below_drewN (w : World) (d : Nat) : Below w.heap.size w (w.drewN d) := ⟨rfl, rfl, rfl, Nat.le_refl _, fun _ _ => rfl⟩

set_option maxHeartbeats 800000 in
theorem specAppend_yes (s : ByteArray) (w : World) (h : canSeal s) :
    Calls Tryd.prog 17 #[.string s] w fun e w' => e = .returned (.tuple #[.string (sealOf s), .bool true]) ∧ Below w.heap.size w w' := by
  obtain ⟨h1, h2, h3⟩ := h
  have HT := Lib.hid (fun W => base.l1Stands_any s 35 35 (by decide) W (by unfold maxLen; omega)); rw [h2] at HT
  have HL := Lib.hid (fun W => l1Seal_any s W (by omega))
  generalize sealOf s = q at *
  have a1 : decide ((4000 : Int) < (s.size : Int)) = false := by simp; omega
  have a2 : decide ((4000 : Int) < (q.size : Int)) = false := by simp; omega
  clear h1 h2 h3
  go_enter Tryd.func17, Tryd.ntmps17
  go_wp2_with fail
  refine (HT.out _).mono ?_
  rintro e w1 ⟨rfl, rfl⟩
  go_wp2_with fail
  refine (HL.out _).mono ?_
  rintro e w2 ⟨rfl, d, rfl⟩
  go_wp2_with fail
  refine (HL.out _).mono ?_
  rintro e w3 ⟨rfl, d3, rfl⟩
  go_wp2_with fail
  go_ret2
  exact ⟨rfl, ⟨rfl, rfl, rfl, Nat.le_refl _, fun _ _ => rfl⟩⟩

set_option maxHeartbeats 800000 in
theorem specAppend_no (s : ByteArray) (w : World) (h : ¬ canSeal s) :
    Calls Tryd.prog 17 #[.string s] w fun e w' => e = .returned (.tuple #[.string ⟨#[]⟩, .bool false]) ∧ Below w.heap.size w w' := by
  by_cases h1 : s.size ≤ 4000
  · have HT := Lib.hid (fun W => base.l1Stands_any s 35 35 (by decide) W (by unfold maxLen; omega))
    have a1 : decide ((4000 : Int) < (s.size : Int)) = false := by simp; omega
    cases h2 : stands s.data.toList 35 with
    | true =>
      rw [h2] at HT
      clear h h1 h2
      go_enter Tryd.func17, Tryd.ntmps17
      go_wp2_with fail
      refine (HT.out _).mono ?_
      rintro e w1 ⟨rfl, rfl⟩
      go_wp2_with fail
      go_ret2
      exact ⟨rfl, Below.refl _ _⟩
    | false =>
      rw [h2] at HT
      have h3 : ¬ (sealOf s).size ≤ 4000 := fun h3 => h ⟨h1, h2, h3⟩
      have HL := Lib.hid (fun W => l1Seal_any s W (by omega))
      generalize sealOf s = q at *
      have a2 : decide ((4000 : Int) < (q.size : Int)) = true := by simp; omega
      clear h h1 h2 h3
      go_enter Tryd.func17, Tryd.ntmps17
      go_wp2_with fail
      refine (HT.out _).mono ?_
      rintro e w1 ⟨rfl, rfl⟩
      go_wp2_with fail
      refine (HL.out _).mono ?_
      rintro e w2 ⟨rfl, d, rfl⟩
      go_wp2_with fail
      go_ret2
      exact ⟨rfl, ⟨rfl, rfl, rfl, Nat.le_refl _, fun _ _ => rfl⟩⟩
  · have a1 : (4000 : Int) < (s.size : Int) := by omega
    clear h
    go_enter Tryd.func17, Tryd.ntmps17
    go_wp2_with fail
    go_ret2
    exact ⟨rfl, Below.refl _ _⟩

theorem contains_mark (s : ByteArray) (w : World) : Calls Tryd.prog 32 #[.string s, .string ⟨#[35]⟩] w fun e w' => e = .returned (.bool (stands s.data.toList 35)) ∧ w' = w := Tryd.strings_Contains_one s 35 w

set_option maxHeartbeats 800000 in
theorem implAppend_yes (s : ByteArray) (w : World) (h : canSeal s) (hp : base.Pow w) :
    Calls Tryd.prog 16 #[.string s] w fun e w' => e = .returned (.tuple #[.string (sealOf s), .bool true]) ∧ Below w.heap.size w w' := by
  obtain ⟨h1, h2, h3⟩ := h
  have hr := sumOf_range s.data.toList
  have HC := Lib.hid (fun W => sums.implChecksum_small s W (by unfold maxLen; omega) (by omega))
  have HT := Lib.hid (fun W => contains_mark s W); rw [h2] at HT
  have HF := Lib.hid (implFormat_in (sumOf s.data.toList) w (by omega) (by omega) hp)
  have g1 := add_mark s (by omega)
  have g2 := add_sum s (by omega)
  generalize sealOf s = q at *
  have a2 : decide ((4000 : Int) < (q.size : Int)) = false := by simp; omega
  clear h1 h2 h3 hr hp
  go_enter Tryd.func16, Tryd.ntmps16
  go_wp2_with fail
  refine (HC.out _).mono ?_
  rintro e w1 ⟨rfl, rfl⟩
  go_wp2_with fail
  refine (HT.out _).mono ?_
  rintro e w2 ⟨rfl, rfl⟩
  go_wp2_with fail
  refine HF.out.mono ?_
  rintro e w3 ⟨rfl, hb⟩
  go_wp2_with fail
  go_ret2
  exact ⟨rfl, hb⟩

set_option maxHeartbeats 800000 in
theorem implAppend_no (s : ByteArray) (w : World) (h : ¬ canSeal s) (hp : base.Pow w) :
    Calls Tryd.prog 16 #[.string s] w fun e w' => e = .returned (.tuple #[.string ⟨#[]⟩, .bool false]) ∧ Below w.heap.size w w' := by
  by_cases h1 : s.size ≤ 4000
  · have hr := sumOf_range s.data.toList
    have HC := Lib.hid (fun W => sums.implChecksum_small s W (by unfold maxLen; omega) (by omega))
    have HT := Lib.hid (fun W => contains_mark s W)
    have HF := Lib.hid (implFormat_in (sumOf s.data.toList) w (by omega) (by omega) hp)
    have g1 := add_mark s (by omega)
    have g2 := add_sum s (by omega)
    cases h2 : stands s.data.toList 35 with
    | true =>
      rw [h2] at HT
      clear h h1 h2 g1 g2 HF hp hr
      go_enter Tryd.func16, Tryd.ntmps16
      go_wp2_with fail
      refine (HC.out _).mono ?_
      rintro e w1 ⟨rfl, rfl⟩
      go_wp2_with fail
      refine (HT.out _).mono ?_
      rintro e w2 ⟨rfl, rfl⟩
      go_wp2_with fail
      go_ret2
      exact ⟨rfl, Below.refl _ _⟩
    | false =>
      rw [h2] at HT
      have h3 : ¬ (sealOf s).size ≤ 4000 := fun h3 => h ⟨h1, h2, h3⟩
      generalize sealOf s = q at *
      have a2 : decide ((4000 : Int) < (q.size : Int)) = true := by simp; omega
      clear h h1 h2 h3 hp hr
      go_enter Tryd.func16, Tryd.ntmps16
      go_wp2_with fail
      refine (HC.out _).mono ?_
      rintro e w1 ⟨rfl, rfl⟩
      go_wp2_with fail
      refine (HT.out _).mono ?_
      rintro e w2 ⟨rfl, rfl⟩
      go_wp2_with fail
      refine HF.out.mono ?_
      rintro e w3 ⟨rfl, hb⟩
      go_wp2_with fail
      go_ret2
      exact ⟨rfl, hb⟩
  · have a1 : (4000 : Int) < (s.size : Int) := by omega
    have HC := Lib.hid (fun W => sums.implChecksum_big s W a1)
    clear h hp
    go_enter Tryd.func16, Tryd.ntmps16
    go_wp2_with fail
    refine (HC.out _).mono ?_
    rintro e w1 ⟨rfl, rfl⟩
    go_wp2_with fail
    go_ret2
    exact ⟨rfl, Below.refl _ _⟩

/-- What AppendChecksum answers, in one word. -/
def appS (s : ByteArray) : ByteArray := if s.size ≤ 4000 ∧ stands s.data.toList 35 = false ∧ (sealOf s).size ≤ 4000 then sealOf s else ⟨#[]⟩
def appB (s : ByteArray) : Bool := decide (s.size ≤ 4000 ∧ stands s.data.toList 35 = false ∧ (sealOf s).size ≤ 4000)

theorem specAppend_any (s : ByteArray) (w : World) :
    Calls Tryd.prog 17 #[.string s] w fun e w' => e = .returned (.tuple #[.string (appS s), .bool (appB s)]) ∧ Below w.heap.size w w' := by
  by_cases h : canSeal s
  · rw [show appS s = sealOf s from if_pos h, show appB s = true from decide_eq_true h]; exact specAppend_yes s w h
  · rw [show appS s = ⟨#[]⟩ from if_neg h, show appB s = false from decide_eq_false h]; exact specAppend_no s w h
theorem implAppend_any (s : ByteArray) (w : World) (hp : base.Pow w) :
    Calls Tryd.prog 16 #[.string s] w fun e w' => e = .returned (.tuple #[.string (appS s), .bool (appB s)]) ∧ Below w.heap.size w w' := by
  by_cases h : canSeal s
  · rw [show appS s = sealOf s from if_pos h, show appB s = true from decide_eq_true h]; exact implAppend_yes s w h hp
  · rw [show appS s = ⟨#[]⟩ from if_neg h, show appB s = false from decide_eq_false h]; exact implAppend_no s w h hp
end Go.Proofs.YtbjahiebajgfeaaDoor.num
