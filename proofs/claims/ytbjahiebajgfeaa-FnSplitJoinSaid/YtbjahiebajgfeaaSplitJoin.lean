/-
  The law on splitting and joining answers true at every code: joining the parts gives the text back, and the order is strict.
-/
import Derived.Test.YtbjahiebajgfeaaDrawS
import Derived.Test.YtbjahiebajgfeaaWalkSplit
import Derived.Test.YtbjahiebajgfeaaJoin
import Derived.Test.YtbjahiebajgfeaaRows
namespace Go.Proofs.Ytbjahiebajgfeaa.base
open Go.ChangeShapes Go.WideShapes Go.ChangeAt Go.RowKit
open Go.Proofs.Ytbjahiebajgfeaa.cur
set_option linter.unusedVariables false

theorem joinTail_cons (sep p : List UInt8) (r : List (List UInt8)) : Lib.joinTail sep (p :: r) = sep ++ Lib.join (p :: r) sep := by
  rw [Lib.join_cons]; unfold Lib.joinTail; simp

theorem join_split (b : UInt8) (l : List UInt8) : Lib.join (splitL b l) [b] = l := by
  induction l with
  | nil => exact Lib.join_one [] [b]
  | cons c r ih =>
    unfold splitL
    split
    · rename_i e
      cases h : splitL b r with
      | nil => exact absurd h (splitL_ne b r)
      | cons p ps =>
        rw [h] at ih
        rw [Lib.join_cons, joinTail_cons, ih, e]; rfl
    · cases h : splitL b r with
      | nil => exact absurd h (splitL_ne b r)
      | cons p ps =>
        rw [h] at ih
        rw [Lib.join_cons] at ih
        show Lib.join ((c :: p) :: ps) [b] = c :: r
        rw [Lib.join_cons, List.cons_append, ih]

theorem parts_no (b : UInt8) (l : List UInt8) : ∀ p ∈ splitL b l, b ∉ p := by
  induction l with
  | nil => intro p hp; simp [splitL] at hp; subst hp; simp
  | cons c r ih =>
    unfold splitL
    split
    · intro p hp
      rcases List.mem_cons.1 hp with rfl | h
      · simp
      · exact ih p h
    · rename_i hne
      cases h : splitL b r with
      | nil => exact absurd h (splitL_ne b r)
      | cons q qs =>
        rw [h] at ih
        intro p hp
        rcases List.mem_cons.1 hp with rfl | h
        · intro hb
          rcases List.mem_cons.1 hb with e | e
          · exact hne e.symm
          · exact ih q (by simp) e
        · exact ih p (by simp [h])

def texts (ps : List (List UInt8)) : List ByteArray := ps.map mk
theorem texts_val (ps : List (List UInt8)) : (texts ps).map Value.string = ps.map strV := by
  unfold texts; rw [List.map_map]; rfl
theorem texts_len (ps : List (List UInt8)) : (texts ps).length = ps.length := by unfold texts; simp
theorem texts_bytes (ps : List (List UInt8)) : bytesOf (texts ps) = ps := by
  unfold bytesOf texts mk; rw [List.map_map]
  conv => rhs; rw [← List.map_id ps]
  exact List.map_congr_left fun p _ => by simp

/-- The parts of a text join to it again. -/
theorem join_back (s sep : ByteArray) (h1 : s.size ≤ 4000) (h2 : sep.size = 1) : joinB (texts (splitL (sep.data.toList.headD 0) s.data.toList)) sep = true ∧ joinS (texts (splitL (sep.data.toList.headD 0) s.data.toList)) sep = s := by
  obtain ⟨b, hb⟩ : ∃ b, sep.data.toList = [b] := List.length_eq_one_iff.1 (by rw [← bytesize]; exact h2)
  have hne := splitL_ne b s.data.toList
  have hlen : 0 < (splitL b s.data.toList).length := List.length_pos_iff.2 hne
  have hj := join_split b s.data.toList
  have hok : JoinOK (texts (splitL (sep.data.toList.headD 0) s.data.toList)) sep := by
    rw [hb]
    show JoinOK (texts (splitL b s.data.toList)) sep
    refine ⟨by rw [texts_len]; exact hlen, h2, ?_, ?_⟩
    · intro x hx
      rw [hb]
      obtain ⟨p, hp, rfl⟩ := List.mem_map.1 hx
      rw [stands_not]
      show b ∉ (mk p).data.toList
      have : (mk p).data.toList = p := by unfold mk; simp
      rw [this]; exact parts_no b _ p hp
    · have := outOf_len (texts (splitL b s.data.toList)) [b] rfl (texts (splitL b s.data.toList)).length (Nat.le_refl _)
      unfold outOf at this
      rw [List.take_of_length_le (Nat.le_refl _), texts_bytes, hj, ← bytesize] at this
      omega
  obtain ⟨e1, e2⟩ := join_yes hok
  refine ⟨e1, ?_⟩
  rw [e2, texts_bytes, hb]
  show (⟨(Lib.join (splitL b s.data.toList) [b]).toArray⟩ : ByteArray) = s
  rw [hj]

theorem texts_size (s : List UInt8) (b : UInt8) : ∀ x ∈ texts (splitL b s), x.size ≤ s.length := by
  intro x hx
  have h := outOf_len (texts (splitL b s)) [b] rfl (texts (splitL b s)).length (Nat.le_refl _)
  unfold outOf at h
  rw [List.take_of_length_le (Nat.le_refl _), texts_bytes, join_split] at h
  have : x.size ≤ sizes (texts (splitL b s)) := by
    clear h
    generalize texts (splitL b s) = xs at *
    induction xs with
    | nil => cases hx
    | cons y r ih =>
      unfold sizes; rw [List.map_cons, List.sum_cons]
      rcases List.mem_cons.1 hx with rfl | h
      · omega
      · have := ih h; unfold sizes at this; omega
  omega

theorem less_asym : ∀ (x y : List UInt8), Op.bytesLess x y = true → Op.bytesLess y x = false := by
  intro x
  induction x with
  | nil => intro y h; cases y <;> simp [Op.bytesLess] at h ⊢
  | cons a r ih =>
    intro y h
    cases y with
    | nil => simp [Op.bytesLess] at h
    | cons c q =>
      unfold Op.bytesLess at h ⊢
      simp only [Bool.or_eq_true, decide_eq_true_eq, Bool.and_eq_true, beq_iff_eq] at h
      rcases h with h | ⟨rfl, h⟩
      · have h1 : ¬ c < a := UInt8.lt_asymm h
        have h2 : ¬ c = a := fun e => by subst e; exact UInt8.lt_irrefl _ h
        simp [h1, h2]
      · simp [UInt8.lt_irrefl, ih q h]

theorem implLess (a b : ByteArray) (w : World) :
    Calls Try.prog 15 #[.string a, .string b] w fun e w' => e = .returned (.bool (Op.bytesLess a.toList b.toList)) ∧ w = w' := by
  go_enter Try.func15, Try.ntmps15
  go_wp2_with fail
  go_ret
  exact ⟨rfl, rfl⟩
theorem specLess (a b : ByteArray) (w : World) :
    Calls Try.prog 16 #[.string a, .string b] w fun e w' => e = .returned (.bool (Op.bytesLess a.toList b.toList)) ∧ w = w' := by
  go_enter Try.func16, Try.ntmps16
  go_wp2_with fail
  go_ret
  exact ⟨rfl, rfl⟩

set_option maxHeartbeats 1600000 in
theorem splitJoin (a : Option Addr) (len cap : Nat) (zs : List Int) (w : World) (h : IsRow .u8 w a len cap zs) :
    Calls Try.prog 3 #[.slice a len cap] w fun e w' => e = .returned (.bool true) ∧ Below w.heap.size w w' := by
  have hlen : len ≤ maxLen := by
    rcases h with ⟨_, h, _⟩ | ⟨_, _, h1, h2, _⟩ <;> omega
  by_cases hbig : (65536 : Int) < (len : Int)
  · clear h
    go_enter Try.func3, Try.ntmps3
    go_wp2_with fail
    refine (vBig_any a len cap w hlen).mono ?_
    rintro e w1 ⟨rfl, rfl⟩
    rw [decide_eq_true hbig]
    go_wp2_with fail
    go_ret
    exact ⟨rfl, Below.refl _ _⟩
  · have HC := Lib.hid (code_of h (by omega))
    clear h
    go_enter Try.func3, Try.ntmps3
    go_wp2_with fail
    refine (vBig_any a len cap w hlen).mono ?_
    rintro e w1 ⟨rfl, rfl⟩
    rw [decide_eq_false (show ¬ (65536 : Int) < (len : Int) by omega)]
    go_wp2_with fail
    refine (drawSplit a len cap w HC.out).mono ?_
    rintro e w2 ⟨s, sep, rfl, hs, hsep, b2⟩
    have B2 := Lib.hid b2; clear b2
    go_wp2_with fail
    refine (implSplit_any s sep w2 (by unfold maxLen; omega) (by unfold maxLen; omega)).mono ?_
    rintro e w3 ⟨l, rfl, r3, b3⟩
    have R3 := Lib.hid r3; have B3 := Lib.hid (B2.out.trans (b3.mono B2.out.size)); clear r3 b3
    go_wp2_with fail
    refine (drawJoin a len cap w3 (HC.out.below B3.out)).mono ?_
    rintro e w4 ⟨k, xs, mark, rfl, r4, hxl, hx, hm, b4⟩
    have R4 := Lib.hid r4; have R34 := Lib.hid (below_row R3.out b4); have B4 := Lib.hid (B3.out.trans (b4.mono B3.out.size)); have HX := Lib.hid (fun x h => Nat.le_trans (hx x h) (show 5000 ≤ 1048576 by omega)); clear r4 b4 hx
    go_wp2_with fail
    refine (implJoin_own _ k xs mark w4 R4.out (by omega) HX.out (by unfold maxLen; omega)).mono ?_
    rintro e w5 ⟨rfl, b5⟩
    have R5 := Lib.hid (below_row R4.out b5); have R35 := Lib.hid (below_row R34.out b5); have B5 := Lib.hid (B4.out.trans (b5.mono B4.out.size)); clear b5
    go_wp2_with fail
    refine (specJoin_own _ k xs mark w5 R5.out (by omega) HX.out (by unfold maxLen; omega)).mono ?_
    rintro e w6 ⟨rfl, b6⟩
    have R36 := Lib.hid (below_row R35.out b6); have B6 := Lib.hid (B5.out.trans (b6.mono B5.out.size)); clear b6
    generalize joinS xs mark = js
    generalize joinB xs mark = jb
    go_wp2_with fail
    refine (drawLess a len cap w6 (HC.out.below B6.out)).mono ?_
    rintro e w7 ⟨x, y, rfl, hx7, hy7, b7⟩
    have R37 := Lib.hid (below_row R36.out b7); have B7 := Lib.hid (B6.out.trans (b7.mono B6.out.size)); clear b7
    have hasym := less_asym x.toList y.toList
    have HL1 := Lib.hid (implLess x y)
    have HL2 := Lib.hid (specLess x y)
    have HL3 := Lib.hid (implLess y x)
    generalize Op.bytesLess x.toList y.toList = p at *
    generalize Op.bytesLess y.toList x.toList = q at *
    by_cases h1 : sep.size = 1
    · have q2 : ((sep.size : Int) != 1) = false := by rw [h1]; rfl
      have eB : splitB s sep = true := decide_eq_true ⟨by omega, h1⟩
      have eP : splitP s sep = splitL (sep.data.toList.headD 0) s.data.toList := if_pos ⟨by omega, h1⟩
      obtain ⟨j1, j2⟩ := join_back s sep (by omega) h1
      have HJ := Lib.hid (implJoin_own w2.heap.size l (texts (splitL (sep.data.toList.headD 0) s.data.toList)) sep w7 (by rw [texts_len, texts_val, ← eP]; exact R37.out)
        (by rw [texts_len]; have := split_count (sep.data.toList.headD 0) s.data.toList; have := bytesize s; omega)
        (fun x hx => by have := texts_size _ _ x hx; have := bytesize s; omega) (by unfold maxLen; omega))
      unfold JPost at HJ
      rw [j1, j2] at HJ
      rw [eB]
      clear eB eP j1 j2 h1 R3 R34 R35 R36 R37
      go_wp2_with fail
      refine (HL1.out w7).mono ?_
      rintro e w8 ⟨rfl, rfl⟩
      go_wp2_with fail
      refine (HL2.out w7).mono ?_
      rintro e w8 ⟨rfl, rfl⟩
      go_wp2_with fail
      refine (HL1.out w7).mono ?_
      rintro e w8 ⟨rfl, rfl⟩
      cases p
      · go_wp2_with fail
        refine HJ.out.mono ?_
        rintro e w8 ⟨rfl, b8⟩
        have B8 := Lib.hid (B7.out.trans (b8.mono B7.out.size)); clear b8
        go_wp2_with fail
        go_ret
        exact ⟨rfl, B8.out⟩
      · have hq := hasym rfl
        subst hq
        go_wp2_with fail
        refine (HL3.out w7).mono ?_
        rintro e w8 ⟨rfl, rfl⟩
        go_wp2_with fail
        refine HJ.out.mono ?_
        rintro e w8 ⟨rfl, b8⟩
        have B8 := Lib.hid (B7.out.trans (b8.mono B7.out.size)); clear b8
        go_wp2_with fail
        go_ret
        exact ⟨rfl, B8.out⟩
    · have q2 : ((sep.size : Int) != 1) = true := by rw [bne_iff_ne]; omega
      have eB : splitB s sep = false := decide_eq_false (fun h => h1 h.2)
      have eP : splitP s sep = [] := if_neg (fun h => h1 h.2)
      have hr := R37.out
      rw [eP] at hr
      obtain ⟨al, cl, rfl⟩ := row_none hr
      rw [eB]
      clear eB eP h1 R3 R34 R35 R36 R37 hr
      go_wp2_with fail
      refine (HL1.out w7).mono ?_
      rintro e w8 ⟨rfl, rfl⟩
      go_wp2_with fail
      refine (HL2.out w7).mono ?_
      rintro e w8 ⟨rfl, rfl⟩
      go_wp2_with fail
      refine (HL1.out w7).mono ?_
      rintro e w8 ⟨rfl, rfl⟩
      cases p
      · go_wp2_with fail
        go_ret
        exact ⟨rfl, B7.out⟩
      · have hq := hasym rfl
        subst hq
        go_wp2_with fail
        refine (HL3.out w7).mono ?_
        rintro e w8 ⟨rfl, rfl⟩
        go_wp2_with fail
        go_ret
        exact ⟨rfl, B7.out⟩
end Go.Proofs.Ytbjahiebajgfeaa.base
