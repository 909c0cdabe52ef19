/-
  The model's reader of a number, walked: it answers the number that FormatInt writes so, and true, or 0 and false.
-/
import Derived.Test.YtbjahiebajgfeaaDoorFormat
import Derived.Test.YtbjahiebajgfeaaDoorNumMath
import Derived.LoopTactic
namespace Go.Proofs.YtbjahiebajgfeaaDoor.num
open Go.ChangeShapes Go.WideShapes Go.ChangeAt Go.RowKit
set_option linter.unusedVariables false

def readN (l : List UInt8) : Int := (readOf l).getD 0
def readB (l : List UInt8) : Bool := (readOf l).isSome

theorem read_short (l : List UInt8) (h : ¬ (1 ≤ (magOf l).length ∧ (magOf l).length ≤ 6)) : readN l = 0 ∧ readB l = false := by
  unfold readN readB readOf; rw [if_neg h]; exact ⟨rfl, rfl⟩
theorem read_bad (l : List UInt8) (k : Nat) (b : UInt8) (hb : (magOf l)[k]? = some b) (h : ¬ (48 ≤ b.toNat ∧ b.toNat ≤ 57)) : readN l = 0 ∧ readB l = false := by
  have hn : Lib.decFrom 0 (magOf l) = none := by
    cases hd : Lib.decFrom 0 (magOf l) with
    | none => rfl
    | some v =>
      obtain ⟨d, hd'⟩ := Lib.digit_of_decFrom _ _ _ hd k b hb
      have := Lib.digitVal_eq hd'
      exact absurd ⟨this.1, this.2.1⟩ h
  unfold readN readB readOf
  split
  · rw [hn]; exact ⟨rfl, rfl⟩
  · exact ⟨rfl, rfl⟩
theorem read_yes (l : List UInt8) (v : Nat) (hl : 1 ≤ (magOf l).length ∧ (magOf l).length ≤ 6) (hv : Lib.decFrom 0 (magOf l) = some v) (h : Lib.itoa (sg l v) = l) : readN l = sg l v ∧ readB l = true := by
  unfold readN readB readOf; rw [if_pos hl, hv]; dsimp only; rw [if_pos h]; exact ⟨rfl, rfl⟩
theorem read_no (l : List UInt8) (v : Nat) (hl : 1 ≤ (magOf l).length ∧ (magOf l).length ≤ 6) (hv : Lib.decFrom 0 (magOf l) = some v) (h : Lib.itoa (sg l v) ≠ l) : readN l = 0 ∧ readB l = false := by
  unfold readN readB readOf; rw [if_pos hl, hv]; dsimp only; rw [if_neg h]; exact ⟨rfl, rfl⟩

theorem dec_step (l : List UInt8) (k v : Nat) (b : UInt8) (h : Lib.decFrom 0 (l.take k) = some v) (hb : l[k]? = some b) (h1 : 48 ≤ b.toNat) (h2 : b.toNat ≤ 57) :
    Lib.decFrom 0 (l.take (k + 1)) = some (v * 10 + (b.toNat - 48)) := by
  refine Lib.decFrom_take l k 0 v b (b.toNat - 48) h hb ?_
  unfold Lib.digitVal; rw [if_pos ⟨h1, h2⟩]

theorem size_list (s : ByteArray) : s.size = s.data.toList.length := by show s.data.size = _; simp
theorem eq_of_list {a b : ByteArray} (h : a.data.toList = b.data.toList) : a = b := by
  cases a; cases b; simp at h; subst h; rfl

/-- The head of the text: what decides whether the sign is cut off. -/
def Plain (s : ByteArray) : Prop := s.size ≤ 1 ∨ ∃ h : 0 < s.size, ((s[0].toNat : Int) == 45) = false

theorem plain_mag (s : ByteArray) (h : Plain s) : magOf s.data.toList = s.data.toList := by
  rcases h with h | ⟨h0, h⟩
  · rw [size_list] at h
    unfold magOf
    split
    · rename_i hl; rw [hl] at h; simp at h
    · rfl
  · unfold magOf
    split
    · rename_i b r hl
      have : s[0] = 45 := by
        have e : s.data.toList[0]? = some s[0] := by
          rw [List.getElem?_eq_getElem (by rw [← size_list]; exact h0)]; rfl
        rw [hl] at e; simpa using e.symm
      rw [this] at h; simp at h
    · rfl

theorem byte_at (s : ByteArray) (k : Nat) (h : k < s.size) : s.data.toList[k]? = some s[k] := by
  rw [List.getElem?_eq_getElem (by rw [← size_list]; exact h)]; rfl

set_option maxHeartbeats 800000 in
theorem l1Read_short (s : ByteArray) (w : World) (hs : s.size ≤ maxLen) (hp : Plain s) (hl : ¬ (1 ≤ s.size ∧ s.size ≤ 6)) :
    Calls Tryd.prog 29 #[.string s] w fun e w' => e = .returned (.tuple #[.int .i64 0, .bool false]) ∧ ∃ d, w' = w.drewN d := by
  have hd : decide ((1 : Int) ≤ (s.size : Int) ∧ (s.size : Int) ≤ 6) = false := by simp; omega
  have HI := Lib.hid (fun W => l1In_any (s.size : Int) 1 6 W); rw [hd] at HI; clear hd
  unfold maxLen at hs
  rcases hp with hp | ⟨h0, hp⟩
  · have g : decide ((1 : Int) < (s.size : Int)) = false := by simp; omega
    go_enter Tryd.func29, Tryd.ntmps29
    go_wp2_with fail
    refine (HI.out _).mono ?_
    rintro e w' ⟨rfl, rfl⟩
    go_wp2_with fail
    go_ret2
    exact ⟨rfl, 0, rfl⟩
  · have g : (1 : Int) < (s.size : Int) := by omega
    go_enter Tryd.func29, Tryd.ntmps29
    go_wp2_with fail
    refine (HI.out _).mono ?_
    rintro e w' ⟨rfl, rfl⟩
    go_wp2_with fail
    go_ret2
    exact ⟨rfl, 0, rfl⟩

theorem sg_plain (l : List UInt8) (v : Nat) (h : magOf l = l) : sg l v = v := by unfold sg; rw [h, if_neg (by omega)]
theorem sg_minus (r : List UInt8) (l : List UInt8) (v : Nat) (h : magOf l = r) (hl : r.length < l.length) : sg l v = -(v : Int) := by unfold sg; rw [h, if_pos hl]

theorem small_dec (l : List UInt8) (k v : Nat) (h : Lib.decFrom 0 (l.take k) = some v) (hk : k ≤ 6) : v < 1000000 := by
  have h1 := Lib.decFrom_lt _ _ _ h
  have h2 : (l.take k).length ≤ 6 := by rw [List.length_take]; omega
  have h3 : 10 ^ (l.take k).length ≤ 10 ^ 6 := Nat.pow_le_pow_right (by decide) h2
  have h4 : v < 10 ^ (l.take k).length := by simpa using h1
  omega

set_option maxHeartbeats 1600000 in
theorem l1Read_plain (s : ByteArray) (w : World) (hs : s.size ≤ maxLen) (hp : Plain s) (hl1 : 1 ≤ s.size) (hl6 : s.size ≤ 6) :
    Calls Tryd.prog 29 #[.string s] w fun e w' => e = .returned (.tuple #[.int .i64 (readN s.data.toList), .bool (readB s.data.toList)]) ∧ ∃ d, w' = w.drewN d := by
  have hd : decide ((1 : Int) ≤ (s.size : Int) ∧ (s.size : Int) ≤ 6) = true := by simp; omega
  have HI := Lib.hid (fun W => l1In_any (s.size : Int) 1 6 W); rw [hd] at HI; clear hd
  have HM := Lib.hid (plain_mag s hp)
  have HL := Lib.hid (show 1 ≤ (magOf s.data.toList).length ∧ (magOf s.data.toList).length ≤ 6 by rw [HM.out, ← size_list]; exact ⟨hl1, hl6⟩)
  unfold maxLen at hs
  have hg : (s.size ≤ 1 ∧ decide ((1 : Int) < (s.size : Int)) = false) ∨ ((1 : Int) < (s.size : Int) ∧ ∃ h : 0 < s.size, ((s[0].toNat : Int) == 45) = false) := by
    rcases hp with h | h
    · exact .inl ⟨h, by simp; omega⟩
    · by_cases h1 : s.size ≤ 1
      · exact .inl ⟨h1, by simp; omega⟩
      · exact .inr ⟨by omega, h⟩
  clear hp
  rcases hg with ⟨_, g⟩ | ⟨g, h0, hp⟩
  all_goals
    go_enter Tryd.func29, Tryd.ntmps29
    go_wp2_with fail
    refine (HI.out _).mono ?_
    rintro e w' ⟨rfl, rfl⟩
    go_wp2_with fail
    go_loop [5, 6] (fun n i => ∃ k v : Nat, k ≤ s.size ∧ i = .int .i64 k ∧ n = .int .i64 v ∧ Lib.decFrom 0 (s.data.toList.take k) = some v) (fun _ i => s.size - (intOf i).toNat)
    case atStart => exact ⟨0, 0, Nat.zero_le _, rfl, rfl, rfl⟩
    case round =>
      obtain ⟨k, v, hk, rfl, rfl, hv⟩ := hrel
      have hvs := small_dec _ _ _ hv (by omega)
      have HV := Lib.hid hv; clear hv
      by_cases hlt : k < s.size
      · have HB := Lib.hid (byte_at s k hlt)
        have hb256 := s[k].toNat_lt
        by_cases d1 : (s[k].toNat : Int) < 48
        · have hr := read_bad s.data.toList k s[k] (by rw [HM.out]; exact HB.out) (by omega)
          have HR := Lib.hid hr; clear hr
          go_wp2_with fail
          go_ret2
          exact ⟨by rw [HR.out.1, HR.out.2]; rfl, 0, rfl⟩
        · have e1 : decide ((s[k].toNat : Int) < 48) = false := by simpa using d1
          by_cases d2 : 57 < (s[k].toNat : Int)
          · have hr := read_bad s.data.toList k s[k] (by rw [HM.out]; exact HB.out) (by omega)
            have HR := Lib.hid hr; clear hr
            go_wp2_with fail
            go_ret2
            exact ⟨by rw [HR.out.1, HR.out.2]; rfl, 0, rfl⟩
          · have e2 : decide (57 < (s[k].toNat : Int)) = false := by simpa using d2
            have HS := Lib.hid (dec_step _ k v _ HV.out HB.out (by omega) (by omega))
            go_wp2_with fail
            go_round
            case rel => exact ⟨k + 1, v * 10 + (s[k].toNat - 48), by omega, by go_num, by congr 1; omega, HS.out⟩
            case measure => simp [intOf]; omega
      · have hv' : Lib.decFrom 0 (magOf s.data.toList) = some v := by
          have h1 := HV.out; rw [List.take_of_length_le (by rw [← size_list]; omega)] at h1
          rw [HM.out]; exact h1
        have HV' := Lib.hid hv'; clear hv'
        have HC := Lib.hid (fun W => l1Num_any (v : Int) W (by omega) (by omega))
        by_cases hq : Lib.itoa (v : Int) = s.data.toList
        · have hb : (Lib.itoa (v : Int) == s.toList) = true := by rw [ByteArray.toList_eq]; simpa using hq
          have HR := Lib.hid (read_yes _ v HL.out HV'.out (by rw [sg_plain _ _ HM.out]; exact hq))
          clear hq
          go_wp2_with fail
          refine (HC.out _).mono ?_
          rintro e w' ⟨rfl, d, rfl⟩
          go_wp2_with fail
          go_ret2
          exact ⟨by rw [HR.out.1, HR.out.2, sg_plain _ _ HM.out]; rfl, d, rfl⟩
        · have hb : (Lib.itoa (v : Int) == s.toList) = false := by rw [ByteArray.toList_eq]; simpa using hq
          have HR := Lib.hid (read_no _ v HL.out HV'.out (by rw [sg_plain _ _ HM.out]; exact hq))
          clear hq
          go_wp2_with fail
          refine (HC.out _).mono ?_
          rintro e w' ⟨rfl, d, rfl⟩
          go_wp2_with fail
          go_ret2
          exact ⟨by rw [HR.out.1, HR.out.2]; rfl, d, rfl⟩

def Minus (s : ByteArray) : Prop := 2 ≤ s.size ∧ ∃ h : 0 < s.size, s[0] = 45

theorem minus_mag (s : ByteArray) (h : Minus s) : magOf s.data.toList = (s.extract 1 s.size).data.toList := by
  obtain ⟨h2, h0, h⟩ := h
  have e : (s.extract 1 s.size).data.toList = s.data.toList.drop 1 := by
    rw [Lib.extract_data]; rw [List.take_of_length_le (by rw [List.length_drop, ← size_list]; omega)]
  rw [e]
  have hl := size_list s
  have hz := byte_at s 0 h0
  rw [h] at hz
  match hd : s.data.toList with
  | [] => rw [hd] at hl; have hl0 : s.size = 0 := hl; omega
  | [a] => rw [hd] at hl; have hl1 : s.size = 1 := hl; omega
  | a :: b :: r => rw [hd] at hz; simp at hz; subst hz; rfl

theorem minus_size (s : ByteArray) (h : Minus s) : (s.extract 1 s.size).size = s.size - 1 := by simp

theorem minus_lt (s : ByteArray) (h : 2 ≤ s.size) : (s.extract 1 s.size).size < s.size := by simp; omega
theorem minus_pos (s : ByteArray) (h : 2 ≤ s.size) : 1 ≤ (s.extract 1 s.size).size := by simp; omega

theorem plain_or_minus (s : ByteArray) : Plain s ∨ Minus s := by
  by_cases h : s.size ≤ 1
  · exact .inl (.inl h)
  · have h0 : 0 < s.size := by omega
    by_cases h2 : s[0] = 45
    · exact .inr ⟨by omega, h0, h2⟩
    · refine .inl (.inr ⟨h0, ?_⟩)
      rw [beq_eq_false_iff_ne]
      intro e
      apply h2
      apply UInt8.toNat_inj.1
      have : (45 : UInt8).toNat = 45 := by decide
      omega

set_option maxHeartbeats 1600000 in
theorem l1Read_minus (s : ByteArray) (w : World) (hs : s.size ≤ maxLen) (hp : Minus s) (hl6 : s.size - 1 ≤ 6) :
    Calls Tryd.prog 29 #[.string s] w fun e w' => e = .returned (.tuple #[.int .i64 (readN s.data.toList), .bool (readB s.data.toList)]) ∧ ∃ d, w' = w.drewN d := by
  have HM := Lib.hid (minus_mag s hp)
  have hz := minus_size s hp
  obtain ⟨h2, h0, hp⟩ := hp
  have g : (1 : Int) < (s.size : Int) := by omega
  have g45 : ((s[0].toNat : Int) == 45) = true := by rw [hp]; decide
  have hx : (1 : Int) ≤ (s.size : Int) := by omega
  have HZ := Lib.hid hz
  clear hp hz
  unfold maxLen at hs
  go_enter Tryd.func29, Tryd.ntmps29
  go_wp2_with fail
  rw [← HZ.out]
  rw [← HZ.out] at hl6
  have HS := Lib.hid (minus_lt s h2)
  have HP := Lib.hid (minus_pos s h2)
  clear HZ
  generalize s.extract 1 s.size = t at *
  have hst : t.size < s.size := HS.out
  have ht1 : 1 ≤ t.size := HP.out
  clear HS HP
  have HL := Lib.hid (show 1 ≤ (magOf s.data.toList).length ∧ (magOf s.data.toList).length ≤ 6 by rw [HM.out, ← size_list]; exact ⟨ht1, hl6⟩)
  have hd : decide ((1 : Int) ≤ (t.size : Int) ∧ (t.size : Int) ≤ 6) = true := by simp; omega
  have HI := Lib.hid (fun W => l1In_any (t.size : Int) 1 6 W); rw [hd] at HI; clear hd
  refine (HI.out _).mono ?_
  rintro e w' ⟨rfl, rfl⟩
  go_wp2_with fail
  go_loop [5, 6] (fun n i => ∃ k v : Nat, k ≤ t.size ∧ i = .int .i64 k ∧ n = .int .i64 v ∧ Lib.decFrom 0 (t.data.toList.take k) = some v) (fun _ i => t.size - (intOf i).toNat)
  case atStart => exact ⟨0, 0, Nat.zero_le _, rfl, rfl, rfl⟩
  case round =>
    obtain ⟨k, v, hk, rfl, rfl, hv⟩ := hrel
    have hvs := small_dec _ _ _ hv (by omega)
    have HV := Lib.hid hv; clear hv
    by_cases hlt : k < t.size
    · have HB := Lib.hid (byte_at t k hlt)
      have hb256 := t[k].toNat_lt
      by_cases d1 : (t[k].toNat : Int) < 48
      · have hr := read_bad s.data.toList k t[k] (by rw [HM.out]; exact HB.out) (by omega)
        have HR := Lib.hid hr; clear hr
        go_wp2_with fail
        go_ret2
        exact ⟨by rw [HR.out.1, HR.out.2]; rfl, 0, rfl⟩
      · have e1 : decide ((t[k].toNat : Int) < 48) = false := by simpa using d1
        by_cases d2 : 57 < (t[k].toNat : Int)
        · have hr := read_bad s.data.toList k t[k] (by rw [HM.out]; exact HB.out) (by omega)
          have HR := Lib.hid hr; clear hr
          go_wp2_with fail
          go_ret2
          exact ⟨by rw [HR.out.1, HR.out.2]; rfl, 0, rfl⟩
        · have e2 : decide (57 < (t[k].toNat : Int)) = false := by simpa using d2
          have HS := Lib.hid (dec_step _ k v _ HV.out HB.out (by omega) (by omega))
          go_wp2_with fail
          go_round
          case rel => exact ⟨k + 1, v * 10 + (t[k].toNat - 48), by omega, by go_num, by congr 1; omega, HS.out⟩
          case measure => simp [intOf]; omega
    · have hv' : Lib.decFrom 0 (magOf s.data.toList) = some v := by
        have h1 := HV.out; rw [List.take_of_length_le (by rw [← size_list]; omega)] at h1
        rw [HM.out]; exact h1
      have HV' := Lib.hid hv'; clear hv'
      have HG := Lib.hid (sg_minus t.data.toList s.data.toList v HM.out (by rw [← size_list, ← size_list]; omega))
      have HC := Lib.hid (fun W => l1Num_any (-(v : Int)) W (by omega) (by omega))
      by_cases hq : Lib.itoa (-(v : Int)) = s.data.toList
      · have hb : (Lib.itoa (-(v : Int)) == s.toList) = true := by rw [ByteArray.toList_eq]; simpa using hq
        have HR := Lib.hid (read_yes _ v HL.out HV'.out (by rw [HG.out]; exact hq))
        clear hq
        go_wp2_with fail
        refine (HC.out _).mono ?_
        rintro e w' ⟨rfl, d, rfl⟩
        go_wp2_with fail
        go_ret2
        exact ⟨by rw [HR.out.1, HR.out.2, HG.out]; rfl, d, rfl⟩
      · have hb : (Lib.itoa (-(v : Int)) == s.toList) = false := by rw [ByteArray.toList_eq]; simpa using hq
        have HR := Lib.hid (read_no _ v HL.out HV'.out (by rw [HG.out]; exact hq))
        clear hq
        go_wp2_with fail
        refine (HC.out _).mono ?_
        rintro e w' ⟨rfl, d, rfl⟩
        go_wp2_with fail
        go_ret2
        exact ⟨by rw [HR.out.1, HR.out.2]; rfl, d, rfl⟩

set_option maxHeartbeats 800000 in
theorem l1Read_minus_long (s : ByteArray) (w : World) (hs : s.size ≤ maxLen) (hp : Minus s) (hl6 : ¬ s.size - 1 ≤ 6) :
    Calls Tryd.prog 29 #[.string s] w fun e w' => e = .returned (.tuple #[.int .i64 0, .bool false]) ∧ ∃ d, w' = w.drewN d := by
  obtain ⟨h2, h0, hp⟩ := hp
  have g : (1 : Int) < (s.size : Int) := by omega
  have g45 : ((s[0].toNat : Int) == 45) = true := by rw [hp]; decide
  have hx : (1 : Int) ≤ (s.size : Int) := by omega
  clear hp
  unfold maxLen at hs
  have hd : decide ((1 : Int) ≤ ((s.size - 1 : Nat) : Int) ∧ ((s.size - 1 : Nat) : Int) ≤ 6) = false := by simp; omega
  have HI := Lib.hid (fun W => l1In_any ((s.size - 1 : Nat) : Int) 1 6 W); rw [hd] at HI; clear hd
  go_enter Tryd.func29, Tryd.ntmps29
  go_wp2_with fail
  refine (HI.out _).mono ?_
  rintro e w' ⟨rfl, rfl⟩
  go_wp2_with fail
  go_ret2
  exact ⟨rfl, 0, rfl⟩

/-- The model's reader of a number, whatever the string. -/
theorem l1Read_any (s : ByteArray) (w : World) (hs : s.size ≤ maxLen) :
    Calls Tryd.prog 29 #[.string s] w fun e w' => e = .returned (.tuple #[.int .i64 (readN s.data.toList), .bool (readB s.data.toList)]) ∧ ∃ d, w' = w.drewN d := by
  rcases plain_or_minus s with hp | hp
  · by_cases hl : 1 ≤ s.size ∧ s.size ≤ 6
    · exact l1Read_plain s w hs hp hl.1 hl.2
    · have hr := read_short s.data.toList (by rw [plain_mag s hp, ← size_list]; exact hl)
      rw [hr.1, hr.2]
      exact l1Read_short s w hs hp hl
  · by_cases hl : s.size - 1 ≤ 6
    · exact l1Read_minus s w hs hp hl
    · have hr := read_short s.data.toList (by rw [minus_mag s hp, ← size_list, minus_size s hp]; omega)
      rw [hr.1, hr.2]
      exact l1Read_minus_long s w hs hp hl
end Go.Proofs.YtbjahiebajgfeaaDoor.num
