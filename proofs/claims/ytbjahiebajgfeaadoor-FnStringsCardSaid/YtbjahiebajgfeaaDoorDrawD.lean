/-
  The draws of the law on numbers and checksums, walked.
-/
import Derived.Test.YtbjahiebajgfeaaDoorDraw
import Derived.Test.YtbjahiebajgfeaaDoorNum
namespace Go.Proofs.YtbjahiebajgfeaaDoor.base
open Go.ChangeShapes Go.WideShapes Go.ChangeAt Go.RowKit
open Go.Proofs.YtbjahiebajgfeaaDoor.cur
set_option linter.unusedVariables false

/-- A row of numbers, each as P asks. -/
def RowI (P : Int → Prop) (w : World) (g len : Nat) : Prop := ∀ j : Nat, j < len → ∃ n : Int, w.cell? ⟨g, j, none⟩ = some (.int .i64 n) ∧ P n

set_option maxHeartbeats 800000 in
theorem among_any (P : Int → Prop) (c k g len cap : Nat) (w : World) (h : Cur w c k) (hk : k < 1099511627776 - 2) (h0 : 0 < len) (h1 : len ≤ 1000) (hr : RowI P w g len) (hgc : g ≠ c) :
    Calls Tryd.prog 21 #[.pointer (some ⟨c, 0, none⟩), .slice (some ⟨g, 0, none⟩) len cap] w fun e w' => ∃ s : Int, e = .returned (.int .i64 s) ∧ P s ∧ Cur w' c (k + 2) ∧ Moved c w w' := by
  have hg : g < w.heap.size := by
    obtain ⟨s, hs, _⟩ := hr 0 h0
    exact World.block_lt_of_cell? _ _ hs
  have HC := Lib.hid h
  have HR := Lib.hid hr
  clear h hr
  go_enter Tryd.func21, Tryd.ntmps21
  go_wp2_with fail
  refine (pick_any c k len w HC.out (by omega) (by omega) (by omega)).mono ?_
  rintro e w1 ⟨z, rfl, z0, z1, hc1, m1⟩
  have HC1 := Lib.hid hc1; have M1 := Lib.hid m1
  obtain ⟨s, hs, hp⟩ := HR.out z.toNat (by omega)
  have hs1 : w1.cell? ⟨g, z.toNat, none⟩ = some (.int .i64 s) := (World.cell?_of_block (w := w) (m1.block g hg hgc)).trans hs
  have HP := Lib.hid hp
  clear hc1 m1 hs hp
  go_wp2_with fail
  go_ret
  exact ⟨_, rfl, HP.out, HC1.out, M1.out⟩

def ints (P : Int → Prop) (cs : List Value) : Prop := ∀ v ∈ cs, ∃ n : Int, v = .int .i64 n ∧ P n
theorem among_new (P : Int → Prop) (c k n : Nat) (w : World) (cs : Array Value) (t : TypeId) (h : Cur w c k) (hk : k < 1099511627776 - 2) (hn : n = cs.size) (h0 : 0 < n) (h1 : n ≤ 1000) (hp : ints P cs.toList) :
    Calls Tryd.prog 21 #[.pointer (some ⟨c, 0, none⟩), .slice (some ⟨w.heap.size, 0, none⟩) n n] (w.alloc (.cells cs t)) fun e w' => ∃ s : Int, e = .returned (.int .i64 s) ∧ P s ∧ Cur w' c (k + 2) ∧ Moved c w w' := by
  have hb : Below w.heap.size w (w.alloc (.cells cs t)) := (Below.refl _ _).alloc (Nat.le_refl _) _
  refine (among_any P c k w.heap.size n n _ (h.below hb) hk h0 h1 (fun j hj => ?_) (by have := h.lt; omega)).mono ?_
  · subst hn
    obtain ⟨m, e, hm⟩ := hp cs[j] (by simp)
    have hc : (w.alloc (.cells cs t)).cell? ⟨w.heap.size, j, none⟩ = some cs[j] := by
      unfold World.cell? World.alloc
      simp [hj]
    exact ⟨m, by rw [hc, e], hm⟩
  · rintro e w' ⟨s, rfl, hs, hc, m⟩
    exact ⟨s, rfl, hs, hc, (moved_of_below hb).trans m⟩

set_option maxHeartbeats 800000 in
theorem drawFormat (a : Option Addr) (len cap : Nat) (w : World) (h : Code w a len) :
    Calls Tryd.prog 9 #[.slice a len cap] w fun e w' => ∃ n : Int, e = .returned (.int .i64 n) ∧ (-1000000 ≤ n ∧ n ≤ 1000000) ∧ Below w.heap.size w w' := by
  have HC := Lib.hid (cur_new (cap := cap) h)
  clear h
  go_enter Tryd.func9, Tryd.ntmps9
  go_wp2_with fail
  refine (pick_any _ 0 1000 _ HC.out (by omega) (by omega) (by omega)).mono ?_
  rintro e w1 ⟨z, rfl, z0, z1, hc1, m1⟩
  have HC1 := Lib.hid hc1; have M1 := Lib.hid m1; clear hc1 m1
  go_wp2_with fail
  refine (among_new (fun n => -1000000 ≤ n ∧ n ≤ 1000000) _ _ 9 w1 _ _ HC1.out (by omega) rfl (by omega) (by omega) ?_).mono ?_
  · intro v hv
    simp at hv
    rcases hv with rfl | rfl | rfl | rfl | rfl | rfl | rfl | rfl | rfl
    all_goals exact ⟨_, rfl, by omega, by omega⟩
  rintro e w2 ⟨n, rfl, hn, hc2, m2⟩
  have M2 := Lib.hid (M1.out.trans m2); clear hc2 m2
  go_wp2_with fail
  go_ret
  exact ⟨_, rfl, hn, below_cur _ M2.out⟩

theorem itoa_short (n : Int) (h0 : -1000000 ≤ n) (h1 : n ≤ 1000000) : (Lib.itoa n).length ≤ 30 := by
  unfold Lib.itoa
  have a := Lib.nDigits_le20 n.natAbs (by omega)
  have b := Lib.nDigits_le20 n.toNat (by omega)
  have a2 := Lib.decDigits_length n.natAbs
  have b2 := Lib.decDigits_length n.toNat
  split
  · rw [List.length_cons]; omega
  · omega

set_option maxHeartbeats 800000 in
theorem drawParse (a : Option Addr) (len cap : Nat) (w : World) (h : Code w a len) :
    Calls Tryd.prog 12 #[.slice a len cap] w fun e w' => ∃ s : ByteArray, e = .returned (.string s) ∧ s.size ≤ 30 ∧ Below w.heap.size w w' := by
  have HC := Lib.hid (cur_new (cap := cap) h)
  clear h
  go_enter Tryd.func12, Tryd.ntmps12
  go_wp2_with fail
  refine (one_any _ 0 2 _ HC.out (by omega) (by omega) (by omega)).mono ?_
  rintro e w1 ⟨z, rfl, hc1, m1⟩
  have HC1 := Lib.hid hc1; have M1 := Lib.hid m1; clear hc1 m1
  cases z
  · go_wp2_with fail
    refine (pick_any _ _ 2000 _ HC1.out (by omega) (by omega) (by omega)).mono ?_
    rintro e w2 ⟨z, rfl, z0, z1, hc2, m2⟩
    have M2 := Lib.hid (M1.out.trans m2); clear hc2 m2
    go_wp2_with fail
    refine (num.l1Num_any (z - 1000) w2 (by omega) (by omega)).mono ?_
    rintro e w3 ⟨rfl, d, rfl⟩
    go_wp2_with fail
    go_ret
    refine ⟨_, rfl, ?_, ?_⟩
    · have := itoa_short (z - 1000) (by omega) (by omega)
      show (Lib.itoa (z - 1000)).toArray.size ≤ 30
      simpa using this
    · have := below_cur _ M2.out
      exact ⟨this.os, this.tape, this.output, this.size, this.block⟩
  · go_wp2_with fail
    refine (of_new (fun s => decide (s.size ≤ 30)) _ _ 11 w1 _ _ HC1.out (by omega) rfl (by omega) (by omega) (by kernel_rfl)).mono ?_
    rintro e w2 ⟨t, rfl, ht, hc2, m2⟩
    have M2 := Lib.hid (M1.out.trans m2); have HT := Lib.hid (of_decide_eq_true ht); clear hc2 m2 ht
    go_wp2_with fail
    go_ret
    exact ⟨_, rfl, HT.out, below_cur _ M2.out⟩

set_option maxHeartbeats 800000 in
theorem drawAppend (a : Option Addr) (len cap : Nat) (w : World) (h : Code w a len) :
    Calls Tryd.prog 15 #[.slice a len cap] w fun e w' => ∃ s : ByteArray, e = .returned (.string s) ∧ s.size ≤ 5000 ∧ Below w.heap.size w w' := by
  have HC := Lib.hid (cur_new (cap := cap) h)
  clear h
  go_enter Tryd.func15, Tryd.ntmps15
  go_wp2_with fail
  refine (one_any _ 0 20 _ HC.out (by omega) (by omega) (by omega)).mono ?_
  rintro e w1 ⟨z, rfl, hc1, m1⟩
  have HC1 := Lib.hid hc1; have M1 := Lib.hid m1; clear hc1 m1
  cases z
  · go_wp2_with fail
    refine (any1_any _ _ _ HC1.out (by omega)).mono ?_
    rintro e w2 ⟨s, rfl, hs, hc2, m2⟩
    have M2 := Lib.hid (M1.out.trans m2); clear hc2 m2
    go_wp2_with fail
    go_ret
    exact ⟨_, rfl, by omega, below_cur _ M2.out⟩
  · go_wp2_with fail
    refine (pick_any _ _ 10 _ HC1.out (by omega) (by omega) (by omega)).mono ?_
    rintro e w2 ⟨z, rfl, z0, z1, hc2, m2⟩
    have B2 := Lib.hid (below_cur _ (M1.out.trans m2)); clear hc2 m2
    obtain ⟨m, rfl, hm⟩ : ∃ m : Nat, z = (m : Int) ∧ m < 10 := ⟨z.toNat, by omega, by omega⟩
    obtain ⟨i1, hj, hy0, hy1, hy2⟩ := info_parts infoU8
    go_wp2_with (at_make; refine wpList_make_full w2 rfl _ _ 22 rfl w2.heap.size 5 i1 (.int .u8 0) 1 Tryd.underlying22 hj hy0 hy1 .i64 .i64 _ _ (3990 + m) rfl rfl (by omega) (by omega) (by rw [hy2]; omega) (by unfold maxLen; omega) (Nat.le_refl _) ?_; intro w5 ho5 hgrow5)
    have hcv := zeros_text ho5
    have B5 := Lib.hid (B2.out.grown hgrow5 B2.out.size (fun _ h => by cases h))
    have HZ := Lib.hid (zeros_size (3990 + m))
    generalize (⟨(List.replicate (3990 + m) (0 : UInt8)).toArray⟩ : ByteArray) = zs at *
    clear ho5 hgrow5
    go_wp2_with fail
    try rw [hcv]
    go_wp2_with fail
    go_ret
    exact ⟨_, rfl, by have := HZ.out; omega, B5.out⟩
end Go.Proofs.YtbjahiebajgfeaaDoor.base
