/-
  ParseInt of the program, walked; and the law: both return the number that FormatInt writes so, and true, or 0 and false.
  Conditions: the library's table of powers of ten and its two error variables hold what their initialisers lay (the card ties them).
-/
import Derived.Test.YtbjahiebajgfeaaDoorRead
import Derived.Test.YtbjahiebajgfeaaDoorShelfA
import Derived.Lib.AtoiErrMem
namespace Go.Proofs.YtbjahiebajgfeaaDoor.num
open Go.ChangeShapes Go.WideShapes Go.ChangeAt Go.RowKit
set_option linter.unusedVariables false

/-- The library's two error variables hold something that can be handed on. -/
def Errs (W : World) : Prop := (∃ ev, W.cell? ⟨0, 0, none⟩ = some ev ∧ (ev = .nilIface ∨ ∃ te pe, ev = .iface te pe)) ∧ (∃ ev, W.cell? ⟨1, 0, none⟩ = some ev ∧ (ev = .nilIface ∨ ∃ te pe, ev = .iface te pe))

theorem Errs.below {W W' : World} (h : Errs W) (hb : Below W.heap.size W W') : Errs W' := by
  obtain ⟨⟨ev, hv, hev⟩, ⟨er, hr, her⟩⟩ := h
  exact ⟨⟨ev, (hb.cell (World.block_lt_of_cell? _ _ hv)).trans hv, hev⟩, ⟨er, (hb.cell (World.block_lt_of_cell? _ _ hr)).trans hr, her⟩⟩

theorem atoi_bad (s : ByteArray) (w : World) (hs : s.size ≤ 281474976710656) (h : ∀ v, Lib.atoiAll s.data.toList ≠ .ok v) (he : Errs w) :
    Calls Tryd.prog 28 #[.string s] w fun e w' => ∃ (n : Int) (N : Nat), e = .returned (.tuple #[.int .i64 n, .iface 65 (.pointer (some ⟨N, 0, none⟩))]) ∧ Below w.heap.size w w' := by
  obtain ⟨⟨ev, hv, hev⟩, ⟨er, hr, her⟩⟩ := he
  rcases hx : Lib.atoiAll s.data.toList with v | _ | _
  · exact absurd hx (h v)
  · exact (Any.strconv_Atoi_syntax Tryd.laysC172 s hs hx ev w hv hev).mono fun e w' ⟨N, h1, _, _, h2⟩ => ⟨_, N, h1, h2⟩
  · exact (Any.strconv_Atoi_range Tryd.laysC172 s hs hx er w hr her).mono fun e w' ⟨N, h1, _, _, h2⟩ => ⟨_, N, h1, h2⟩

theorem atoi_good (s : ByteArray) (w : World) (hs : s.size ≤ 281474976710656) (v : Int) (h : Lib.atoiAll s.data.toList = .ok v) :
    Calls Tryd.prog 28 #[.string s] w fun e w' => e = .returned (.tuple #[.int .i64 v, .nilIface]) ∧ Below w.heap.size w w' :=
  (Any.strconv_Atoi_ok Tryd.laysC172 s (by omega) v h w).mono fun e w' ⟨h1, h2⟩ => ⟨h1, by
    rcases h2 with rfl | ⟨t, rfl⟩
    · exact Below.refl _ _
    · exact Lib.bytesWorld_below _ _ _⟩

theorem atoi_range (l : List UInt8) (v : Int) (h : Lib.atoiAll l = .ok v) : -9223372036854775808 ≤ v ∧ v ≤ 9223372036854775807 := by
  unfold Lib.atoiAll at h
  split at h
  · cases h
  · dsimp only at h
    split at h
    · cases h
    · cases h
    · rename_i u hu
      by_cases h1 : 9223372036854775808 ≤ u
      · by_cases hn : (‹UInt8› : UInt8).toNat = 45
        · rw [if_neg (by omega)] at h
          by_cases h2 : 9223372036854775808 < u
          · rw [if_pos ⟨hn, h2⟩] at h; cases h
          · rw [if_neg (by omega), if_pos hn] at h; injection h with h; omega
        · rw [if_pos ⟨hn, h1⟩] at h; cases h
      · rw [if_neg (by omega), if_neg (by omega)] at h
        injection h with h
        split at h <;> omega

theorem implParse_bad (s : ByteArray) (w : World) (hs : s.size ≤ 281474976710656) (h : ∀ v, Lib.atoiAll s.data.toList ≠ .ok v) (he : Errs w) :
    Calls Tryd.prog 13 #[.string s] w fun e w' => e = .returned (.tuple #[.int .i64 0, .bool false]) ∧ Below w.heap.size w w' := by
  have HA := Lib.hid (atoi_bad s w hs h he)
  clear h he
  go_enter Tryd.func13, Tryd.ntmps13
  go_wp2_with fail
  refine HA.out.mono ?_
  rintro e w1 ⟨n, N, rfl, hb1⟩
  go_wp2_with fail
  go_ret2
  exact ⟨rfl, hb1⟩

theorem implParse_yes (s : ByteArray) (w : World) (hs : s.size ≤ 281474976710656) (n : Int) (hn : In n) (hq : Lib.itoa n = s.data.toList) (hp : base.Pow w) :
    Calls Tryd.prog 13 #[.string s] w fun e w' => e = .returned (.tuple #[.int .i64 n, .bool true]) ∧ Below w.heap.size w w' := by
  have HA := Lib.hid (atoi_good s w hs n (by rw [← hq]; exact atoi_itoa n (by have := hn.1; omega) (by have := hn.2; omega)))
  have HF := Lib.hid (fun W T => implFormat_in n W hn.1 hn.2 T)
  have hb : (Lib.itoa n == s.toList) = true := by rw [ByteArray.toList_eq]; simpa using hq
  have HP := Lib.hid hp
  clear hp hq hn
  go_enter Tryd.func13, Tryd.ntmps13
  go_wp2_with fail
  refine HA.out.mono ?_
  rintro e w1 ⟨rfl, hb1⟩
  go_wp2_with fail
  refine (HF.out _ (HP.out.below hb1)).mono ?_
  rintro e w2 ⟨rfl, hb2⟩
  go_wp2_with fail
  go_ret2
  exact ⟨rfl, hb1.trans (hb2.mono hb1.size)⟩

theorem implParse_other (s : ByteArray) (w : World) (hs : s.size ≤ 281474976710656) (n : Int) (hn : In n) (ha : Lib.atoiAll s.data.toList = .ok n) (hq : Lib.itoa n ≠ s.data.toList) (hp : base.Pow w) :
    Calls Tryd.prog 13 #[.string s] w fun e w' => e = .returned (.tuple #[.int .i64 0, .bool false]) ∧ Below w.heap.size w w' := by
  have HA := Lib.hid (atoi_good s w hs n ha)
  have HF := Lib.hid (fun W T => implFormat_in n W hn.1 hn.2 T)
  have hb : (Lib.itoa n == s.toList) = false := by rw [ByteArray.toList_eq]; simpa using hq
  have HP := Lib.hid hp
  clear hp hq hn ha
  go_enter Tryd.func13, Tryd.ntmps13
  go_wp2_with fail
  refine HA.out.mono ?_
  rintro e w1 ⟨rfl, hb1⟩
  go_wp2_with fail
  refine (HF.out _ (HP.out.below hb1)).mono ?_
  rintro e w2 ⟨rfl, hb2⟩
  go_wp2_with fail
  go_ret2
  exact ⟨rfl, hb1.trans (hb2.mono hb1.size)⟩

theorem implParse_out (s : ByteArray) (w : World) (hs : s.size ≤ 281474976710656) (n : Int) (hn : ¬ In n) (ha : Lib.atoiAll s.data.toList = .ok n) :
    Calls Tryd.prog 13 #[.string s] w fun e w' => e = .returned (.tuple #[.int .i64 0, .bool false]) ∧ Below w.heap.size w w' := by
  have HA := Lib.hid (atoi_good s w hs n ha)
  have HF := Lib.hid (fun W => implFormat_out n W (by unfold In at hn; omega))
  clear hn ha
  go_enter Tryd.func13, Tryd.ntmps13
  go_wp2_with fail
  refine HA.out.mono ?_
  rintro e w1 ⟨rfl, hb1⟩
  go_wp2_with fail
  refine (HF.out _).mono ?_
  rintro e w2 ⟨rfl, hb2⟩
  go_wp2_with fail
  go_ret2
  exact ⟨rfl, hb1.trans (hb2.mono hb1.size)⟩

/-- ParseInt of the program, whatever the string: what the model's reader answers. -/
theorem implParse_any (s : ByteArray) (w : World) (hs : s.size ≤ 281474976710656) (hp : base.Pow w) (he : Errs w) :
    Calls Tryd.prog 13 #[.string s] w fun e w' => e = .returned (.tuple #[.int .i64 (readN s.data.toList), .bool (readB s.data.toList)]) ∧ Below w.heap.size w w' := by
  cases hr : readOf s.data.toList with
  | some n =>
    obtain ⟨h1, h2⟩ := readOf_some _ _ hr
    have e1 : readN s.data.toList = n := by unfold readN; rw [hr]; rfl
    have e2 : readB s.data.toList = true := by unfold readB; rw [hr]; rfl
    rw [e1, e2]
    exact implParse_yes s w hs n h1 h2 hp
  | none =>
    have e1 : readN s.data.toList = 0 := by unfold readN; rw [hr]; rfl
    have e2 : readB s.data.toList = false := by unfold readB; rw [hr]; rfl
    rw [e1, e2]
    by_cases h : ∃ v, Lib.atoiAll s.data.toList = .ok v
    · obtain ⟨v, hv⟩ := h
      by_cases hin : In v
      · exact implParse_other s w hs v hin hv (readOf_none _ hr v hin) hp
      · exact implParse_out s w hs v hin hv
    · exact implParse_bad s w hs (fun v hv => h ⟨v, hv⟩) he

theorem specParse_any (s : ByteArray) (w : World) (hs : s.size ≤ maxLen) :
    Calls Tryd.prog 14 #[.string s] w fun e w' => e = .returned (.tuple #[.int .i64 (readN s.data.toList), .bool (readB s.data.toList)]) ∧ Below w.heap.size w w' := by
  have HC := Lib.hid (fun W => l1Read_any s W hs)
  generalize readN s.data.toList = n at *
  generalize readB s.data.toList = b at *
  go_enter Tryd.func14, Tryd.ntmps14
  go_wp2_with fail
  refine (HC.out _).mono ?_
  rintro e w' ⟨rfl, d, rfl⟩
  go_wp2_with fail
  go_ret2
  exact ⟨rfl, ⟨rfl, rfl, rfl, Nat.le_refl _, fun _ _ => rfl⟩⟩

theorem lawParse (s : ByteArray) (w : World) (hs : s.size ≤ maxLen) (hp : base.Pow w) (he : Errs w) :
    Calls Tryd.prog 5 #[.string s] w fun e w' => e = .returned (.bool true) ∧ Below w.heap.size w w' := by
  by_cases h0 : (1048576 : Int) < (s.size : Int)
  · clear hp he
    go_enter Tryd.func5, Tryd.ntmps5
    go_wp2_with fail
    go_ret
    exact ⟨rfl, Below.refl _ _⟩
  · have HS := Lib.hid (fun W => specParse_any s W hs)
    have HM := Lib.hid (fun W T E => implParse_any s W (by omega) T E)
    have HP := Lib.hid hp
    have HE := Lib.hid he
    clear hp he
    generalize readN s.data.toList = n at *
    generalize readB s.data.toList = b at *
    go_enter Tryd.func5, Tryd.ntmps5
    go_wp2_with fail
    refine (HS.out _).mono ?_
    rintro e w1 ⟨rfl, hb1⟩
    go_wp2_with fail
    refine (HM.out _ (HP.out.below hb1) (HE.out.below hb1)).mono ?_
    rintro e w2 ⟨rfl, hb2⟩
    go_wp2_with fail
    go_ret
    exact ⟨rfl, hb1.trans (hb2.mono hb1.size)⟩

theorem parseLaw (a0 : ByteArray) (W : World) (w0 : a0.size ≤ maxLen) (hL : laidMetH Tryd.prog Rows.fnExactParseIntRow.laid W) :
    Calls Tryd.prog 5 #[.string a0] W fun e w' => e = .returned (.bool true) ∧ Below W.heap.size W w' :=
  lawParse a0 W w0 (base.pow_of_laid (laid := Rows.fnExactParseIntRow.laid) (by simp [Rows.fnExactParseIntRow]; rfl) hL)
    ⟨base.sentinel_cell base.gSyn base.gSynType (text := [105, 110, 118, 97, 108, 105, 100, 32, 115, 121, 110, 116, 97, 120]) Rows.fnExactParseIntRow.laid hL (by simp [Rows.fnExactParseIntRow]; rfl),
      base.sentinel_cell base.gRan base.gRanType (text := [118, 97, 108, 117, 101, 32, 111, 117, 116, 32, 111, 102, 32, 114, 97, 110, 103, 101]) Rows.fnExactParseIntRow.laid hL (by simp [Rows.fnExactParseIntRow]; rfl)⟩
end Go.Proofs.YtbjahiebajgfeaaDoor.num
