/-
  The draws of the law on splitting and joining, walked.
-/
import Derived.Test.YtbjahiebajgfeaaDraw
import Derived.Test.YtbjahiebajgfeaaMark
namespace Go.Proofs.Ytbjahiebajgfeaa.base
open Go.ChangeShapes Go.WideShapes Go.ChangeAt Go.RowKit
open Go.Proofs.Ytbjahiebajgfeaa.cur
set_option linter.unusedVariables false

set_option maxHeartbeats 800000 in
theorem drawSplit (a : Option Addr) (len cap : Nat) (w : World) (h : Code w a len) :
    Calls Try.prog 9 #[.slice a len cap] w fun e w' => ∃ s t : ByteArray, e = .returned (.tuple #[.string s, .string t]) ∧ s.size ≤ 10 ∧ t.size ≤ 10 ∧ Below w.heap.size w w' := by
  have HC := Lib.hid (cur_new (cap := cap) h)
  clear h
  go_enter Try.func9, Try.ntmps9
  go_wp2_with fail
  refine (any1_any _ 0 _ HC.out (by omega)).mono ?_
  rintro e w1 ⟨s, rfl, hs, hc1, m1⟩
  have HC1 := Lib.hid hc1; have M1 := Lib.hid m1; clear hc1 m1
  go_wp2_with fail
  refine (of_new (fun s => decide (s.size ≤ 10)) _ 2 5 w1 _ _ HC1.out (by omega) rfl (by omega) (by omega) (by kernel_rfl)).mono ?_
  rintro e w2 ⟨t, rfl, ht, hc2, m2⟩
  have M2 := Lib.hid (M1.out.trans m2); have HT := Lib.hid (of_decide_eq_true ht); clear hc2 m2 ht
  go_wp2_with fail
  go_ret2
  exact ⟨s, t, rfl, hs, HT.out, below_cur _ M2.out⟩

set_option maxHeartbeats 800000 in
theorem drawLess (a : Option Addr) (len cap : Nat) (w : World) (h : Code w a len) :
    Calls Try.prog 14 #[.slice a len cap] w fun e w' => ∃ s t : ByteArray, e = .returned (.tuple #[.string s, .string t]) ∧ s.size ≤ 10 ∧ t.size ≤ 10 ∧ Below w.heap.size w w' := by
  have HC := Lib.hid (cur_new (cap := cap) h)
  clear h
  go_enter Try.func14, Try.ntmps14
  go_wp2_with fail
  refine (any1_any _ 0 _ HC.out (by omega)).mono ?_
  rintro e w1 ⟨s, rfl, hs, hc1, m1⟩
  have HC1 := Lib.hid hc1; have M1 := Lib.hid m1; clear hc1 m1
  go_wp2_with fail
  refine (any1_any _ 2 _ HC1.out (by omega)).mono ?_
  rintro e w2 ⟨t, rfl, ht, hc2, m2⟩
  have M2 := Lib.hid (M1.out.trans m2); clear hc2 m2
  go_wp2_with fail
  go_ret2
  exact ⟨s, t, rfl, hs, ht, below_cur _ M2.out⟩

set_option maxHeartbeats 1600000 in
theorem drawJoin (a : Option Addr) (len cap : Nat) (w : World) (h : Code w a len) :
    Calls Try.prog 11 #[.slice a len cap] w fun e w' => ∃ (v : Value) (xs : List ByteArray) (t : ByteArray), e = .returned (.tuple #[v, .string t]) ∧ w'.ownsRow w.heap.size 9 1 v xs.length (xs.map .string) ∧ xs.length ≤ 5 ∧ (∀ x ∈ xs, x.size ≤ 5000) ∧ t.size ≤ 10 ∧ Below w.heap.size w w' := by
  obtain ⟨i0, hi, hz0, hz1, hz2⟩ := info_parts infoStr
  have HC := Lib.hid (cur_new (cap := cap) h)
  clear h
  go_enter Try.func11, Try.ntmps11
  go_wp2_with fail
  have hsz : (w.alloc (.cells #[.slice a len cap, .int .i64 0, .int .u64 0] 44)).heap.size = w.heap.size + 1 := by simp
  refine (pick_any w.heap.size 0 4 _ (HC.out.below ((Below.refl _ _).alloc (Nat.le_refl _) _)) (by omega) (by omega) (by omega)).mono ?_
  rintro e w1 ⟨n, rfl, n0, n1, hc1, m1⟩
  have M1 := Lib.hid ((moved_of_below ((Below.refl _ _).alloc (Nat.le_refl _) _)).trans m1)
  have HC1 := Lib.hid hc1
  have HR1 := Lib.hid (moved_row (e := 9) (k := 1) (n := 0) (xs := []) (World.ownsRow_made (w.alloc (.cells #[.slice a len cap, .int .i64 0, .int .u64 0] 44)) #[] 0 (Nat.le_refl _) (by unfold maxLen; omega) (by simp)) m1 (by omega))
  rw [hsz] at HR1
  clear hc1 m1
  generalize hA : w.alloc (.cells #[.slice a len cap, .int .i64 0, .int .u64 0] 44) = A at *
  have HBA : Hid (Below w.heap.size w A) := Lib.hid (by rw [← hA]; exact (Below.refl _ _).alloc (Nat.le_refl _) _)
  have HB1 := Lib.hid (M1.out.below HBA.out (Nat.le_refl _) HBA.out.size)
  clear hA
  go_wp2_with fail
  go_loopw [5, 7] (fun l i wr => ∃ (k : Nat) (xs : List ByteArray), (k : Int) ≤ n ∧ i = .int .i64 k ∧ xs.length = k ∧ Hid (∀ x ∈ xs, x.size ≤ 5000) ∧ wr.ownsRow (w.heap.size + 1) 9 1 l xs.length (xs.map .string) ∧ Hid (Cur wr w.heap.size (2 + 2 * k)) ∧ Hid (Below w.heap.size w wr) ∧ w.heap.size + 1 ≤ wr.heap.size)
    (fun _ i _ => (n - intOf i).toNat)
  case atStart => exact ⟨0, [], by omega, rfl, rfl, Lib.hid (fun _ h => by cases h), HR1.out, HC1, HB1, by have := M1.out.size; omega⟩
  case round =>
    obtain ⟨k, xs, hk, rfl, hxl, HX, hown, HC2, HM2, hs2⟩ := hrel
    by_cases hlt : (k : Int) < n
    · go_wp2_with fail
      refine (any1_any _ (2 + 2 * k) _ HC2.out (by omega)).mono ?_
      rintro e w2 ⟨s, rfl, hs, hc3, m3⟩
      have hs3 : w.heap.size + 1 ≤ w2.heap.size := by have := m3.size; omega
      have HM3 := Lib.hid (m3.below HM2.out (Nat.le_refl _) HM2.out.size)
      have HC3 := Lib.hid hc3
      have hown3 := moved_row hown m3 (by omega)
      clear hc3 m3 hown
      go_wp2_with (first | (at_builtin; refine wpList_append_own _ rfl _ _ 26 rfl (w.heap.size + 1) 9 i0 (.string ByteArray.empty) 1 16 Try.underlying26 hi hz0 hz1 hz2 rfl (by decide) _ _ _ rfl (hown3.alloc _) ⟨w2.heap.size, 0, none⟩ 1 1 [.string s] rfl rfl (cell_one_new _ _ _) (fun x hx => by simp at hx; subst hx; rfl) (by unfold maxLen; omega) (by omega) (by simp; omega) ?_; intro v' w3 hown' hgrow3 hnil3))
      have hgb : ∀ g, u5.ownBlock = some g → w.heap.size + 1 ≤ g := fun g hg => (hown3.lt g hg).1
      have HC4 := Lib.hid ((HC3.out.below ((Below.refl _ _).alloc (Nat.le_refl _) (.cells #[.string s] 9))).grown hgrow3 (fun g hg => Nat.lt_of_succ_le (hgb g hg)))
      have HM4 := Lib.hid ((HM3.out.alloc HM3.out.size (.cells #[.string s] 9)).grown hgrow3 (by simp; omega) (fun g hg => by have := hgb g hg; omega))
      have hs4 : w.heap.size + 1 ≤ w3.heap.size := by have := hgrow3.size; simp at this; omega
      have HO4 : Hid (w3.ownsRow (w.heap.size + 1) 9 1 v' (xs ++ [s]).length ((xs ++ [s]).map .string)) := Lib.hid (by rw [List.length_append, List.map_append]; exact hown')
      have HX4 : Hid (∀ x ∈ xs ++ [s], x.size ≤ 5000) := Lib.hid (fun x hx => by rcases List.mem_append.1 hx with h | h; exact HX.out x h; simp at h; subst h; omega)
      clear hown' hgrow3
      go_wp2_with fail
      go_roundw
      case rel => exact ⟨k + 1, xs ++ [s], by omega, by go_num, by rw [List.length_append, hxl]; rfl, HX4, HO4.out, HC4, HM4, hs4⟩
      case measure => simp [intOf]; omega
    · go_wp2_with fail
      refine (one_any _ _ 20 _ HC2.out (by omega) (by omega) (by omega)).mono ?_
      rintro e w2 ⟨z, rfl, hc3, m3⟩
      have hs3 : w.heap.size + 1 ≤ w2.heap.size := by have := m3.size; omega
      have HM3 := Lib.hid (m3.below HM2.out (Nat.le_refl _) HM2.out.size)
      have HC3 := Lib.hid hc3
      have hown3 := moved_row hown m3 (by omega)
      clear hc3 m3 hown
      cases z
      · go_wp2_with fail
        refine (of_new (fun s => decide (s.size ≤ 10)) _ _ 5 w2 _ _ HC3.out (by omega) rfl (by omega) (by omega) (by kernel_rfl)).mono ?_
        rintro e w4 ⟨t, rfl, ht, hc4, m4⟩
        have HB := Lib.hid (m4.below HM3.out (Nat.le_refl _) HM3.out.size)
        have HR := Lib.hid (row_lower (moved_row hown3 m4 (by omega)) (Nat.le_succ _))
        clear hown3 m4 hc4
        go_wp2_with fail
        go_ret2
        exact ⟨_, xs, t, rfl, HR.out, by omega, HX.out, of_decide_eq_true ht, HB.out⟩
      · go_wp2_with fail
        refine (pick_any _ _ 20 _ HC3.out (by omega) (by omega) (by omega)).mono ?_
        rintro e w4 ⟨z, rfl, z0, z1, hc4, m4⟩
        have hs4 : w.heap.size + 1 ≤ w4.heap.size := by have := m4.size; omega
        have HM4 := Lib.hid (m4.below HM3.out (Nat.le_refl _) HM3.out.size)
        have HC4 := Lib.hid hc4
        have hown4 := moved_row hown3 m4 (by omega)
        have hz : ∃ m : Nat, z = (m : Int) ∧ m < 20 := ⟨z.toNat, by omega, by omega⟩
        obtain ⟨m, rfl, hm⟩ := hz
        have e1 : IntKind.i64.wrap (3990 + (m : Int)) = ((3990 + m : Nat) : Int) := by rw [IntKind.wrap_i64]; omega
        clear hc4 m4 hown3
        obtain ⟨i1, hj, hy0, hy1, hy2⟩ := info_parts infoU8
        go_wp2_with (at_make; refine wpList_make_full w4 rfl _ _ 22 rfl w4.heap.size 5 i1 (.int .u8 0) 1 Try.underlying22 hj hy0 hy1 .i64 .i64 _ _ (3990 + m) rfl rfl (by omega) (by omega) (by rw [hy2]; omega) (by unfold maxLen; omega) (Nat.le_refl _) ?_; intro w5 ho5 hgrow5)
        have hcv := zeros_text ho5
        have hgr : Hid (w.heap.size < w4.heap.size) := Lib.hid hs4
        have hown5 := below_row hown4 ((Below.refl _ _).grown hgrow5 (Nat.le_refl _) (fun _ h => by cases h))
        have HM5 := Lib.hid (HM4.out.grown hgrow5 HM4.out.size (fun _ h => by cases h))
        have HC5 := Lib.hid (HC4.out.grown hgrow5 (fun _ h => by cases h))
        have hs5 : w.heap.size + 1 ≤ w5.heap.size := by have := hgrow5.size; omega
        have HZ := Lib.hid (zeros_size (3990 + m))
        generalize (⟨(List.replicate (3990 + m) (0 : UInt8)).toArray⟩ : ByteArray) = zs at *
        clear ho5 hgrow5 hown4
        go_wp2_with fail
        rw [hcv]
        go_wp2_with (first | (at_builtin; refine wpList_append_own _ rfl _ _ 26 rfl (w.heap.size + 1) 9 i0 (.string ByteArray.empty) 1 16 Try.underlying26 hi hz0 hz1 hz2 rfl (by decide) _ _ _ rfl (hown5.alloc _) ⟨w5.heap.size, 0, none⟩ 1 1 [.string zs] rfl rfl (cell_one_new _ _ _) (fun x hx => by simp at hx; subst hx; rfl) (by unfold maxLen; omega) (by omega) (by simp; omega) ?_; intro v' w6 hown' hgrow6 hnil6))
        have hgb : ∀ g, u5.ownBlock = some g → w.heap.size + 1 ≤ g := fun g hg => (hown5.lt g hg).1
        have HC6 := Lib.hid ((HC5.out.below ((Below.refl _ _).alloc (Nat.le_refl _) (.cells #[.string zs] 9))).grown hgrow6 (fun g hg => Nat.lt_of_succ_le (hgb g hg)))
        have HM6 := Lib.hid ((HM5.out.alloc HM5.out.size (.cells #[.string zs] 9)).grown hgrow6 (by simp; omega) (fun g hg => by have := hgb g hg; omega))
        have HO6 : Hid (w6.ownsRow (w.heap.size + 1) 9 1 v' (xs ++ [zs]).length ((xs ++ [zs]).map .string)) := Lib.hid (by rw [List.length_append, List.map_append]; exact hown')
        have HX6 : Hid (∀ x ∈ xs ++ [zs], x.size ≤ 5000) := Lib.hid (fun x hx => by rcases List.mem_append.1 hx with h | h; exact HX.out x h; simp at h; subst h; have := HZ.out; omega)
        clear hown' hgrow6 hown5
        go_wp2_with fail
        refine (of_new (fun s => decide (s.size ≤ 10)) _ _ 5 w6 _ _ HC6.out (by omega) rfl (by omega) (by omega) (by kernel_rfl)).mono ?_
        rintro e w7 ⟨t, rfl, ht, hc7, m7⟩
        have HB := Lib.hid (m7.below HM6.out (Nat.le_refl _) HM6.out.size)
        have HR := Lib.hid (row_lower (moved_row HO6.out m7 (by omega)) (Nat.le_succ _))
        clear m7 hc7
        go_wp2_with fail
        go_ret2
        exact ⟨_, xs ++ [zs], t, rfl, HR.out, by rw [List.length_append]; show xs.length + 1 ≤ 5; omega, HX6.out, of_decide_eq_true ht, HB.out⟩
end Go.Proofs.Ytbjahiebajgfeaa.base
