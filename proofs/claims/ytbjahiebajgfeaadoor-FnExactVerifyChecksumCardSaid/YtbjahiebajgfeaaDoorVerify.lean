/-
  VerifyChecksum of the program and of the model, walked: both return the text before the first mark, and true, if that text with its checksum is the whole; else the empty string and false.
  Condition: the library's table of powers of ten holds what its initialiser lays (the card ties it).
-/
import Derived.Test.YtbjahiebajgfeaaDoorRows
import Derived.Test.YtbjahiebajgfeaaDoorSeal
import Derived.Test.YtbjahiebajgfeaaDoorSplit
namespace Go.Proofs.YtbjahiebajgfeaaDoor.num
open Go.ChangeShapes Go.WideShapes Go.ChangeAt Go.RowKit
open Go.Proofs.YtbjahiebajgfeaaDoor.base (stands stands_iff stands_not bytesize byteat splitL IsParts strV indexByte_low indexByte_iff)
set_option linter.unusedVariables false

def headOf (l : List UInt8) : List UInt8 := (splitL 35 l).headD []

theorem split_cons (b : UInt8) (l : List UInt8) : ∃ p ps, splitL b l = p :: ps := by
  cases h : splitL b l with
  | nil => exact absurd h (base.splitL_ne b l)
  | cons p ps => exact ⟨p, ps, rfl⟩

theorem head_not (b : UInt8) (l : List UInt8) : b ∉ (splitL b l).headD [] := by
  induction l with
  | nil => simp [splitL]
  | cons c r ih =>
    unfold splitL
    by_cases h : c = b
    · rw [if_pos h]; simp
    · rw [if_neg h]
      obtain ⟨p, ps, hp⟩ := split_cons b r
      rw [hp] at ih ⊢
      simp only [List.headD_cons] at ih ⊢
      rw [List.mem_cons]
      rintro (e | e)
      · exact h e.symm
      · exact ih e

theorem head_take (b : UInt8) (l : List UInt8) : (0 ≤ Lib.indexByte l b → l.take (Lib.indexByte l b).toNat = (splitL b l).headD [] ∧ (Lib.indexByte l b).toNat < l.length) ∧ (¬ 0 ≤ Lib.indexByte l b → l = (splitL b l).headD []) := by
  induction l with
  | nil => simp [splitL, Lib.indexByte]
  | cons c r ih =>
    unfold splitL Lib.indexByte
    by_cases h : c = b
    · subst h; simp
    · have h' : (c == b) = false := by simpa using h
      rw [if_neg h]
      obtain ⟨p, ps, hp⟩ := split_cons b r
      rw [hp] at ih ⊢
      simp only [List.headD_cons] at ih ⊢
      rw [h']
      have hlow := indexByte_low r b
      by_cases h2 : Lib.indexByte r b = -1
      · rw [h2] at ih ⊢
        refine ⟨fun h3 => by simp at h3, fun _ => ?_⟩
        rw [← ih.2 (by omega)]
      · have h3 : (Lib.indexByte r b == -1) = false := by simpa using h2
        obtain ⟨k, hk⟩ := Int.eq_ofNat_of_zero_le (show 0 ≤ Lib.indexByte r b by omega)
        have i1 := ih.1 (by omega)
        rw [h3, hk] at *
        simp only [Bool.false_eq_true, if_false] at *
        refine ⟨fun _ => ?_, fun h4 => by omega⟩
        rw [show ((k : Int) + 1).toNat = k + 1 by omega]
        have e : (Int.ofNat k).toNat = k := rfl
        rw [← i1.1]
        simp at i1 ⊢
        exact i1.2

/-- The text before the first mark. -/
def preOf (s : ByteArray) : ByteArray := ⟨(headOf s.data.toList).toArray⟩

theorem pre_list (s : ByteArray) : (preOf s).data.toList = headOf s.data.toList := by unfold preOf; simp

theorem strV_eq (s : ByteArray) : Value.string s = strV s.data.toList := by unfold strV; cases s; simp

theorem sCut_any (s : ByteArray) (w : World) (hs : s.size ≤ maxLen) :
    Calls Tryd.prog 43 #[.string s, .string ⟨#[35]⟩] w fun e w' => ∃ (after : ByteArray) (found : Bool), e = .returned (.tuple #[.string (preOf s), .string after, .bool found]) ∧ ∃ d, w' = w.drewN d := by
  have HI := Lib.hid (fun W => Tryd.stringslite_Index_one s 35 W)
  have hh := head_take 35 s.data.toList
  unfold maxLen at hs
  by_cases h : 0 ≤ Lib.indexByte s.data.toList 35
  · obtain ⟨e1, e2⟩ := hh.1 h
    obtain ⟨k, hk⟩ := Int.eq_ofNat_of_zero_le h
    rw [hk] at e1 e2 HI
    have hkl : k < s.size := by rw [bytesize]; exact e2
    have HP : Hid (Value.string (s.extract 0 k) = Value.string (preOf s)) := Lib.hid (by
      rw [base.extract_mk]; unfold preOf strV headOf; rw [← e1]; simp)
    clear h e1 e2 hh hk
    have g0 : (0 : Int) ≤ (k : Int) := by omega
    have g1 : (k : Int) ≤ (s.size : Int) := by omega
    have g2 : (k : Int) + 1 ≤ (s.size : Int) := by omega
    have g3 : IntKind.i64.wrap ((k : Int) + 1) = (k : Int) + 1 := IntWalk.i64_in _ (by omega)
    have g4 : ((k : Int) + 1).toNat = k + 1 := by omega
    have g5 : (0 : Int) ≤ (k : Int) + 1 := by omega
    go_enter Tryd.func43, Tryd.ntmps43
    go_wp2_with fail
    refine (HI.out _).mono ?_
    rintro e w1 ⟨rfl, rfl⟩
    go_wp2_with fail
    go_quiet (fail)
    go_wp2_with fail
    refine bodyPost_ret (v := .tuple #[.string (s.extract 0 k), .string (s.extract (k + 1) s.size), .bool true]) (by simp [results, Tryd.results43, go_sem]) rfl ⟨s.extract (k + 1) s.size, true, by rw [HP.out], ⟨_, rfl⟩⟩
  · have HP : Hid (Value.string s = Value.string (preOf s)) := Lib.hid (by
      conv => lhs; rw [strV_eq]
      unfold preOf strV headOf; rw [← hh.2 h])
    have h' : ¬ Lib.indexByte s.data.toList 35 ≥ 0 := h
    have h2 : Lib.indexByte s.data.toList 35 < 0 := by omega
    generalize Lib.indexByte s.data.toList 35 = m at *
    clear hh h h'
    go_enter Tryd.func43, Tryd.ntmps43
    go_wp2_with fail
    refine (HI.out _).mono ?_
    rintro e w1 ⟨rfl, rfl⟩
    go_wp2_with fail
    refine bodyPost_ret (v := .tuple #[.string s, .string ⟨#[]⟩, .bool false]) (by simp [results, Tryd.results43, go_sem]) rfl ⟨⟨#[]⟩, false, by rw [HP.out], ⟨0, rfl⟩⟩

theorem cut_any (s : ByteArray) (w : World) (hs : s.size ≤ maxLen) :
    Calls Tryd.prog 35 #[.string s, .string ⟨#[35]⟩] w fun e w' => ∃ (after : ByteArray) (found : Bool), e = .returned (.tuple #[.string (preOf s), .string after, .bool found]) ∧ Below w.heap.size w w' := by
  have HC := Lib.hid (fun W => sCut_any s W hs)
  go_enter Tryd.func35, Tryd.ntmps35
  go_wp2_with fail
  refine (HC.out _).mono ?_
  rintro e w1 ⟨a, f, rfl, d, rfl⟩
  go_wp2_with fail
  go_ret3
  exact ⟨a, f, rfl, below_drewN _ _⟩

/-- What VerifyChecksum answers. -/
def verB (s : ByteArray) : Bool := decide (s.size ≤ 4000 ∧ (sealOf (preOf s)).data.toList = s.data.toList)
def verS (s : ByteArray) : ByteArray := if s.size ≤ 4000 ∧ (sealOf (preOf s)).data.toList = s.data.toList then preOf s else ⟨#[]⟩

theorem bytes_ext {a b : ByteArray} (h : a.data.toList = b.data.toList) : a = b := by cases a; cases b; simp at h; subst h; rfl

theorem pre_size (s : ByteArray) : (preOf s).size ≤ s.size := by
  rw [bytesize, bytesize, pre_list]
  have hh := head_take 35 s.data.toList
  unfold headOf
  by_cases h : 0 ≤ Lib.indexByte s.data.toList 35
  · rw [← (hh.1 h).1, List.length_take]; omega
  · rw [← hh.2 h]; exact Nat.le_refl _

theorem pre_stands (s : ByteArray) : stands (preOf s).data.toList 35 = false := by
  rw [stands_not, pre_list]; exact head_not 35 s.data.toList

theorem can_of_seal (s : ByteArray) (h1 : s.size ≤ 4000) (h2 : (sealOf (preOf s)).data.toList = s.data.toList) : canSeal (preOf s) := by
  have e : sealOf (preOf s) = s := bytes_ext h2
  exact ⟨by have := pre_size s; omega, pre_stands s, by rw [e]; exact h1⟩

set_option maxHeartbeats 800000 in
theorem specVerify_any (s : ByteArray) (w : World) (hs : s.size ≤ 1099511627776) :
    Calls Tryd.prog 20 #[.string s] w fun e w' => e = .returned (.tuple #[.string (verS s), .bool (verB s)]) ∧ Below w.heap.size w w' := by
  by_cases h1 : s.size ≤ 4000
  · have HS := Lib.hid (fun W => base.l1Split_any s 35 35 (by decide) W hs)
    have HL := Lib.hid (fun W => l1Seal_any (preOf s) W (by have := pre_size s; omega))
    have a1 : decide ((4000 : Int) < (s.size : Int)) = false := by simp; omega
    obtain ⟨p, ps, hps⟩ := split_cons 35 s.data.toList
    have HP : Hid (strV p = .string (preOf s)) := Lib.hid (by unfold preOf strV headOf; rw [hps]; rfl)
    rw [hps] at HS
    by_cases h2 : (sealOf (preOf s)).data.toList = s.data.toList
    · have HR : Hid (verS s = preOf s ∧ verB s = true) := Lib.hid ⟨if_pos ⟨h1, h2⟩, decide_eq_true ⟨h1, h2⟩⟩
      generalize preOf s = t at *
      generalize sealOf t = q at *
      have ht : (q.toList == s.toList) = true := by rw [ByteArray.toList_eq, ByteArray.toList_eq]; simpa using h2
      clear h1 h2 hps
      go_enter Tryd.func20, Tryd.ntmps20
      go_wp2_with fail
      refine (HS.out _).mono ?_
      rintro e w1 ⟨v, rfl, hv, hb1⟩
      obtain ⟨g, cap, rfl⟩ := base.row_succ hv
      have hc : w1.cell? ⟨g, 0, none⟩ = some (.string t) := by
        rw [← HP.out]; exact hv.cells rfl 0 _ rfl
      clear hv
      go_wp2_with fail
      refine (HL.out _).mono ?_
      rintro e w2 ⟨rfl, d, rfl⟩
      go_wp2_with fail
      go_ret2
      exact ⟨by rw [HR.out.1, HR.out.2]; rfl, hb1.trans ⟨rfl, rfl, rfl, Nat.le_refl _, fun _ _ => rfl⟩⟩
    · have HR : Hid (verS s = ⟨#[]⟩ ∧ verB s = false) := Lib.hid ⟨if_neg (fun h => h2 h.2), decide_eq_false (fun h => h2 h.2)⟩
      generalize preOf s = t at *
      generalize sealOf t = q at *
      have ht : (q.toList == s.toList) = false := by rw [ByteArray.toList_eq, ByteArray.toList_eq]; simpa using h2
      clear h1 h2 hps
      go_enter Tryd.func20, Tryd.ntmps20
      go_wp2_with fail
      refine (HS.out _).mono ?_
      rintro e w1 ⟨v, rfl, hv, hb1⟩
      obtain ⟨g, cap, rfl⟩ := base.row_succ hv
      have hc : w1.cell? ⟨g, 0, none⟩ = some (.string t) := by
        rw [← HP.out]; exact hv.cells rfl 0 _ rfl
      clear hv
      go_wp2_with fail
      refine (HL.out _).mono ?_
      rintro e w2 ⟨rfl, d, rfl⟩
      go_wp2_with fail
      go_ret2
      exact ⟨by rw [HR.out.1, HR.out.2]; rfl, hb1.trans ⟨rfl, rfl, rfl, Nat.le_refl _, fun _ _ => rfl⟩⟩
  · have HR : Hid (verS s = ⟨#[]⟩ ∧ verB s = false) := Lib.hid ⟨if_neg (fun h => h1 h.1), decide_eq_false (fun h => h1 h.1)⟩
    have a1 : (4000 : Int) < (s.size : Int) := by omega
    go_enter Tryd.func20, Tryd.ntmps20
    go_wp2_with fail
    go_ret2
    exact ⟨by rw [HR.out.1, HR.out.2]; rfl, Below.refl _ _⟩

theorem app_false_eq (t : ByteArray) (h : ¬ canSeal t) : appS t = ⟨#[]⟩ ∧ appB t = false := ⟨if_neg h, decide_eq_false h⟩
theorem app_true_eq (t : ByteArray) (h : canSeal t) : appS t = sealOf t ∧ appB t = true := ⟨if_pos h, decide_eq_true h⟩

set_option maxHeartbeats 800000 in
theorem implVerify_any (s : ByteArray) (w : World) (hs : s.size ≤ 1099511627776) (hp : base.Pow w) :
    Calls Tryd.prog 18 #[.string s] w fun e w' => e = .returned (.tuple #[.string (verS s), .bool (verB s)]) ∧ Below w.heap.size w w' := by
  have HC := Lib.hid (fun W => cut_any s W (by unfold maxLen; omega))
  have HM := Lib.hid (fun W T => implAppend_any (preOf s) W T)
  have HP := Lib.hid hp
  clear hp
  by_cases hc : canSeal (preOf s)
  · rw [(app_true_eq _ hc).1, (app_true_eq _ hc).2] at HM
    by_cases h2 : (sealOf (preOf s)).data.toList = s.data.toList
    · have h1 : s.size ≤ 4000 := by have := hc.2.2; rw [bytes_ext h2] at this; exact this
      have HR : Hid (verS s = preOf s ∧ verB s = true) := Lib.hid ⟨if_pos ⟨h1, h2⟩, decide_eq_true ⟨h1, h2⟩⟩
      clear hc h1
      generalize preOf s = t at *
      generalize sealOf t = q at *
      have ht : (q.toList == s.toList) = true := by rw [ByteArray.toList_eq, ByteArray.toList_eq]; simpa using h2
      clear h2
      go_enter Tryd.func18, Tryd.ntmps18
      go_wp2_with fail
      refine (HC.out _).mono ?_
      rintro e w1 ⟨a, f, rfl, hb1⟩
      go_wp2_with fail
      refine (HM.out _ (HP.out.below hb1)).mono ?_
      rintro e w2 ⟨rfl, hb2⟩
      go_wp2_with fail
      go_ret2
      exact ⟨by rw [HR.out.1, HR.out.2]; rfl, hb1.trans (hb2.mono hb1.size)⟩
    · have HR : Hid (verS s = ⟨#[]⟩ ∧ verB s = false) := Lib.hid ⟨if_neg (fun h => h2 h.2), decide_eq_false (fun h => h2 h.2)⟩
      clear hc
      generalize preOf s = t at *
      generalize sealOf t = q at *
      have ht : (q.toList == s.toList) = false := by rw [ByteArray.toList_eq, ByteArray.toList_eq]; simpa using h2
      clear h2
      go_enter Tryd.func18, Tryd.ntmps18
      go_wp2_with fail
      refine (HC.out _).mono ?_
      rintro e w1 ⟨a, f, rfl, hb1⟩
      go_wp2_with fail
      refine (HM.out _ (HP.out.below hb1)).mono ?_
      rintro e w2 ⟨rfl, hb2⟩
      go_wp2_with fail
      go_ret2
      exact ⟨by rw [HR.out.1, HR.out.2]; rfl, hb1.trans (hb2.mono hb1.size)⟩
  · rw [(app_false_eq _ hc).1, (app_false_eq _ hc).2] at HM
    have h2 : ¬ (s.size ≤ 4000 ∧ (sealOf (preOf s)).data.toList = s.data.toList) := fun h => hc (can_of_seal s h.1 h.2)
    have HR : Hid (verS s = ⟨#[]⟩ ∧ verB s = false) := Lib.hid ⟨if_neg h2, decide_eq_false h2⟩
    clear hc h2
    generalize preOf s = t at *
    go_enter Tryd.func18, Tryd.ntmps18
    go_wp2_with fail
    refine (HC.out _).mono ?_
    rintro e w1 ⟨a, f, rfl, hb1⟩
    go_wp2_with fail
    refine (HM.out _ (HP.out.below hb1)).mono ?_
    rintro e w2 ⟨rfl, hb2⟩
    go_wp2_with fail
    go_ret2
    exact ⟨by rw [HR.out.1, HR.out.2]; rfl, hb1.trans (hb2.mono hb1.size)⟩

theorem lawVerify (s : ByteArray) (w : World) (hs : s.size ≤ maxLen) (hp : base.Pow w) :
    Calls Tryd.prog 7 #[.string s] w fun e w' => e = .returned (.bool true) ∧ Below w.heap.size w w' := by
  by_cases h0 : (1048576 : Int) < (s.size : Int)
  · clear hp
    go_enter Tryd.func7, Tryd.ntmps7
    go_wp2_with fail
    go_ret
    exact ⟨rfl, Below.refl _ _⟩
  · have HS := Lib.hid (fun W => specVerify_any s W (by omega))
    have HM := Lib.hid (fun W T => implVerify_any s W (by omega) T)
    have HP := Lib.hid hp
    clear hp
    generalize verS s = q at *
    generalize verB s = b at *
    go_enter Tryd.func7, Tryd.ntmps7
    go_wp2_with fail
    refine (HS.out _).mono ?_
    rintro e w1 ⟨rfl, hb1⟩
    go_wp2_with fail
    refine (HM.out _ (HP.out.below hb1)).mono ?_
    rintro e w2 ⟨rfl, hb2⟩
    go_wp2_with fail
    go_ret
    exact ⟨rfl, hb1.trans (hb2.mono hb1.size)⟩

theorem verifyLaw (a0 : ByteArray) (W : World) (w0 : a0.size ≤ maxLen) (hL : laidMetH Tryd.prog Rows.fnExactVerifyChecksumRow.laid W) :
    Calls Tryd.prog 7 #[.string a0] W fun e w' => e = .returned (.bool true) ∧ Below W.heap.size W w' :=
  lawVerify a0 W w0 (base.pow_of_laid (laid := Rows.fnExactVerifyChecksumRow.laid) (by simp [Rows.fnExactVerifyChecksumRow]; rfl) hL)
end Go.Proofs.YtbjahiebajgfeaaDoor.num
