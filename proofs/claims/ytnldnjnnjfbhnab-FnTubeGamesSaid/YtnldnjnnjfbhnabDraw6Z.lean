/-
  The draws of chapter 6's laws, walked: racks, paths.
-/
/-
  The draw of a rack whose tubes are nearly complete, walked, and the draws over it.
-/
/-
  A drawn rack whose tubes are nearly complete, with a drawn path, walked.
-/
/-
  The draws of the law of bounds, walked: a pour, a rack that is often sorted.
-/
import Derived.Test.YtnldnjnnjfbhnabDrawP
import Derived.Test.YtnldnjnnjfbhnabPathSZ
import Derived.Deep.Cut
import Derived.Test.YtnldnjnnjfbhnabSwapZ
import Derived.Deep.CutRange
import Derived.Test.YtnldnjnnjfbhnabTubeWZ

section
namespace Go.Proofs.Ytnldnjnnjfbhnab.base
open Go.ChangeShapes Go.WideShapes Go.ChangeAt Go.RowKit
open Go.Proofs.Ytnldnjnnjfbhnab.cur
set_option linter.unusedVariables false
set_option linter.unusedSimpArgs false

theorem Moved.grownP {c : Nat} {w w' w2 : World} {r : Option Nat} (h : Moved c w w') (hg : w'.grownBy w2 r) (hr : ∀ g, r = some g → w.heap.size ≤ g) : Moved c w w2 :=
  ⟨hg.os.trans h.os, hg.tape.trans h.tape, hg.output.trans h.output, Nat.le_trans h.size hg.size, fun i hi hne => (hg.block i (Nat.lt_of_lt_of_le hi h.size) (fun e => by have := hr i e.symm; omega)).trans (h.block i hi hne)⟩
def DrawnRack (w : World) (e : Ending) (w' : World) : Prop := ∃ ns : List Int, e = .returned (.agg (ints ns).toArray) ∧ ns.length = 24 ∧ Below w.heap.size w w'

set_option maxHeartbeats 6400000 in
set_option maxRecDepth 100000 in
theorem path_any (c k : Nat) (ns : List Int) (w : World) (h24 : ns.length = 24) (hv : vR ns = true) (h : Cur w c k) (hk : k < 800000) :
    Calls Try.prog 38 #[.pointer (some ⟨c, 0, none⟩), row ns] w fun e w' => ∃ (v : Value) (n : Nat) (fs : List Int), e = .returned v ∧ n ≤ 61 ∧ Prs w' (w.heap.size + 1) v n fs ∧ Cur w' c (k + 10000) ∧ Moved c w w' := by
  obtain ⟨i0, hi, hz0, hz1, hz2⟩ := info_parts infoPair
  have hcw := h.lt
  have H0 := (Has.box w 27 h24 (by omega)).alloc (.cells #[] 36)
  have C0 := Cur.alloc (Cur.alloc h (.cells (ints ns).toArray 27)) (.cells #[] 36)
  have M0 := Lib.hid (Moved.alloc (Moved.alloc (Moved.refl c w) (.cells (ints ns).toArray 27)) (.cells #[] 36))
  have P0 := Prs.none (w.alloc (.cells (ints ns).toArray 27)) (w.heap.size + 1) (by simp)
  rw [size1] at P0
  have P1 := Lib.hid P0
  have HC := Lib.hid C0
  clear h P0 C0
  rw [row_ints]
  go_enter Try.func38, Try.ntmps38
  go_wp2_with fail
  refine (among_at (fun x => 0 ≤ x ∧ x ≤ 61) c k 7 (w.heap.size + 1 + 1) ((w.alloc (.cells (ints ns).toArray 27)).alloc (.cells #[] 36)) #[.int .i64 3, .int .i64 5, .int .i64 2, .int .i64 1, .int .i64 0, .int .i64 8, .int .i64 61] 3 (by rw [size1, size1]) HC.out (by omega) rfl (by omega) (by omega) (fun v hv => by simp at hv; rcases hv with rfl | rfl | rfl | rfl | rfl | rfl | rfl <;> exact ⟨_, rfl, by omega⟩)).mono ?_
  rintro e w1 ⟨z, rfl, hz, c1, m1⟩
  obtain ⟨N, rfl⟩ : ∃ N : Nat, z = (N : Int) := ⟨z.toNat, by omega⟩
  have hN : N ≤ 61 := by omega
  have hs1 : w.heap.size + 2 ≤ w1.heap.size := by have := m1.size; simp at this; omega
  have H1 := H0.moved m1 (by omega)
  have P2 := Lib.hid (Prs.moved P1.out m1 (by omega))
  have M1 := Lib.hid (M0.out.trans m1)
  have C1 := Lib.hid c1
  have HV := Lib.hid hv
  have H24 := Lib.hid h24
  clear H0 HC M0 P1 c1 m1 hz hv h24 hs1
  go_wp2_with fail
  go_loopg [5, 6] (N + 1) (fun gk u i wr => ∃ (j : Nat) (C fs : List Int), gk = N + 1 - j ∧ j ≤ N ∧ i = .int .i64 ((N - j : Nat) : Int) ∧ Hid (C.length = 24 ∧ vR C = true) ∧ Has wr w.heap.size C 24 ∧ Hid (Prs wr (w.heap.size + 1) u j fs) ∧ Hid (Cur wr c (k + 2 + j * 110)) ∧ Hid (Moved c w wr))
  case atStart => exact ⟨0, ns, [], rfl, by omega, rfl, Lib.hid ⟨H24.out, HV.out⟩, H1, P2, Lib.hid (C1.out.mono (by omega)), M1⟩
  case round =>
    clear H1 P2 C1 M1
    obtain ⟨j, C, fs, rfl, hj, rfl, HCC, G1, GP, GC, GM⟩ := hrel
    have hC24 := HCC.out.1
    by_cases hlt : j < N
    · have hji : (0 : Int) < ((N - j : Nat) : Int) := by omega
      have hw1 : IntKind.i64.wrap (((N - j : Nat) : Int) - 1) = ((N - (j + 1) : Nat) : Int) := by rw [IntWalk.i64_in _ (by omega)]; omega
      have hms := GM.out.size
      go_wp2_with (refine load_has rfl 27 _ rfl _ rfl ?_ 24 ?_ _ Try.underlying27 rfl ?_ ?_; rotate_left; (· (repeat (first | (with_reducible assumption) | ((with_reducible refine Has.box _ _ ?_ ?_) <;> (first | assumption | decide)) | (with_reducible refine Has.alloc ?_ _) | ((with_reducible refine Has.putOther ?_ _ _ ?_); rotate_left; omega; skip) | ((with_reducible refine Has.below ?_ ?_); rotate_left; assumption)))); (· kernel_rfl))
      refine (pour_any c _ C _ hC24 GC.out (by omega)).mono ?_
      rintro e w2 ⟨x, y, rfl, c2, m2⟩
      have hl2 : ([x, y] : List Int).length = 2 := rfl
      have B2 := Has.box w2 36 hl2 (by omega)
      have hs2 := m2.size
      have lG := G1.lt
      replace G1 := (G1.moved m2 (by omega)).alloc (.cells (ints [x, y]).toArray 36)
      have GPB := Lib.hid (Prs.moved GP.out m2 (by omega))
      replace GP := Lib.hid (GPB.out.alloc (.cells (ints [x, y]).toArray 36))
      replace GC := Lib.hid (Cur.alloc c2 (.cells (ints [x, y]).toArray 36))
      replace GM := Lib.hid (Moved.alloc (GM.out.trans m2) (.cells (ints [x, y]).toArray 36))
      have hb2 : w.heap.size < w2.heap.size := by omega
      have own := Lib.hid (fun i hi => (World.ownsRow.lt GPB.out i hi).2)
      clear c2 m2 hs2
      go_wp2_with (first | (refine store_new rfl 36 _ _ rfl _ _ _ rfl _ rfl _ rfl rfl ?_ ?_ ?_; (· (first | assumption | rfl)); (· kernel_rfl)) | (refine load_has rfl 27 _ rfl _ rfl ?_ 24 ?_ _ Try.underlying27 rfl ?_ ?_; rotate_left; (· (repeat (first | (with_reducible assumption) | ((with_reducible refine Has.box _ _ ?_ ?_) <;> (first | assumption | decide)) | (with_reducible refine Has.alloc ?_ _) | ((with_reducible refine Has.putOther ?_ _ _ ?_); rotate_left; omega; skip) | ((with_reducible refine Has.below ?_ ?_); rotate_left; assumption)))); (· kernel_rfl)))
      refine (l6Good_any C _ hC24 HCC.out.2).mono ?_
      rintro e w3 ⟨vg, rfl, q3, b3⟩
      have hg36 := goodN_le C
      have hs3 := b3.size
      rw [size1] at hs3
      replace B2 := B2.below b3
      replace G1 := G1.below b3
      replace GP := Lib.hid (GP.out.below b3)
      replace GC := Lib.hid (GC.out.below b3)
      replace GM := Lib.hid (Moved.call GM.out b3)
      have GQ := Lib.hid (q3.rw.mono (b' := w2.heap.size + 1) (by rw [size1]; omega))
      clear b3 q3
      obtain ⟨ag, capg, rfl⟩ := GQ.out.shape
      by_cases hm : 0 < goodN C
      case' pos =>
        have hmi : (0 : Int) < ((goodN C : Nat) : Int) := by omega
        go_wp2_with fail
        refine (one_any c _ 4 _ GC.out (by omega) (by omega) (by omega)).mono ?_
        rintro e w4 ⟨t, rfl, c4, m4⟩
        have hs4 := m4.size
        have lB := B2.lt
        replace B2 := B2.moved m4 (by omega)
        replace G1 := G1.moved m4 (by omega)
        replace GP := Lib.hid (Prs.moved GP.out m4 (by omega))
        replace GQ := Lib.hid (GQ.out.grownP (r := some c) ⟨m4.os, m4.tape, m4.output, m4.size, fun i hi hne => m4.block i hi (fun e => hne (by rw [e]))⟩ (fun hn i hi => .inr (fun e => by injection hi with hi; have := (GQ.out.ownlt hn i e).1; omega)))
        replace GC := Lib.hid (c4.mono (m := k + 2 + j * 110 + 104) (by omega))
        replace GM := Lib.hid (GM.out.trans m4)
        clear c4 m4
        cases t
        case' false =>
          obtain ⟨g, cap2, hv', hg1, hg2⟩ := GQ.out.form hm
          injection hv' with ha _ hcap
          subst ha
          subst hcap
          have c0 := GQ.out.cell 0 (by omega)
          have c1 := GQ.out.cell 1 (by omega)
          generalize (goodF C).getD 0 0 = x2 at *
          generalize (goodF C).getD 1 0 = y2 at *
          have RG := Lib.hid (range_two c0 c1)
          have ht := Lib.hid B2.there
          replace G1 := G1.putOther (b' := w2.heap.size) 0 (ints [x2, y2]) (by omega)
          replace GP := Lib.hid (Prs.aside GP.out w2.heap.size 0 (ints [x2, y2]) (fun i hi e => by have := own.out i hi; omega))
          replace GC := Lib.hid (Cur.puts GC.out (b := w2.heap.size) 0 (ints [x2, y2]) (by omega))
          replace GM := Lib.hid (Moved.puts GM.out (b := w2.heap.size) (by omega) 0 (ints [x2, y2]))
          replace B2 := B2.putAll [x2, y2] rfl
          have hs5 : w2.heap.size < (w4.setCells w2.heap.size 0 (ints [x2, y2])).heap.size := by rw [size_setCells]; exact Nat.lt_of_lt_of_le lB hs4
          clear c0 c1 GQ
          go_upto_region 9 with (first | (refine wpList_load_mid rfl 36 _ rfl g 0 rfl (ints [x2, y2]) _ RG.out Try.underlying36 rfl (by kernel_rfl) ?_) | (refine store_has rfl 36 _ _ rfl w2.heap.size 0 [x2, y2] rfl rfl 2 rfl ht.out ?_ ?_; (· kernel_rfl)))
          clear RG ht
          generalize w4.setCells w2.heap.size 0 (ints [x2, y2]) = W0 at *
          clear hs4 lB
        case' true =>
          have hs5 : w2.heap.size < w4.heap.size := Nat.lt_of_lt_of_le lB hs4
          go_upto_region 9 with fail
          clear hs4 lB GQ
          generalize w4 = W0 at *
      case' neg =>
        have hm0 : goodN C = 0 := by omega
        have hd0 : decide ((0 : Int) < ((goodN C : Nat) : Int)) = false := by rw [hm0]; rfl
        have hs5 : w2.heap.size < w3.heap.size := by omega
        replace GC := Lib.hid (GC.out.mono (m := k + 2 + j * 110 + 104) (by omega))
        go_upto_region 9 with fail
        clear GQ
        generalize w3 = W0 at *
      all_goals
        obtain ⟨X, Y, B3⟩ : ∃ X Y : Int, Has W0 w2.heap.size [X, Y] 2 := ⟨_, _, B2⟩
        clear B2
        have RG := Lib.hid (show W0.rangeAt w2.heap.size 0 [.int .i64 X, .int .i64 Y] from B3.holds.range)
        have hbs := GM.out.size
        go_upto_region 10 with (first | (refine wpList_load_mid rfl 36 _ rfl w2.heap.size 0 rfl [.int .i64 X, .int .i64 Y] _ RG.out Try.underlying36 rfl (by kernel_rfl) ?_) | (at_builtin; refine wpList_append_own _ rfl _ _ 32 rfl (w.heap.size + 1) 36 i0 (.agg #[.int .i64 0, .int .i64 0]) 2 16 Try.underlying32 hi hz0 hz1 hz2 rfl (by decide) _ j (ints fs) rfl (World.ownsRow.alloc GP.out _) ⟨W0.heap.size, 0, none⟩ 1 1 [.int .i64 X, .int .i64 Y] rfl rfl (cell_two_new _ _ _ _) (fun x hx => by simp at hx; rcases hx with rfl | rfl <;> rfl) (by unfold maxLen; omega) (by omega) (by simp; omega) ?_; intro v' w6 hown' hgrow3 hnil3))
        have lo := Lib.hid (fun i hi => (World.ownsRow.lt GP.out i hi).1)
        have F1 := (G1.alloc (.cells #[.int .i64 X, .int .i64 Y] 36)).grown hgrow3 (fun i hi => lo.out i hi)
        have FB := (B3.alloc (.cells #[.int .i64 X, .int .i64 Y] 36)).grownNe hgrow3 (fun e => by have := own.out _ e.symm; omega)
        have FC := Lib.hid (Cur.grown (Cur.alloc GC.out (.cells #[.int .i64 X, .int .i64 Y] 36)) hgrow3 (fun i hi => by have := lo.out i hi; omega))
        have FM := Lib.hid (Moved.grownP (Moved.alloc GM.out (.cells #[.int .i64 X, .int .i64 Y] 36)) hgrow3 (fun i hi => by have := lo.out i hi; omega))
        have FP : Hid (Prs w6 (w.heap.size + 1) v' (j + 1) (fs ++ [X, Y])) := Lib.hid (by unfold Prs; rw [ints_app]; exact hown')
        clear hown' hgrow3 hnil3 G1 B3 GC GM GP RG hbs lo own
        go_wp2_with (refine load_has rfl 27 _ rfl _ rfl ?_ 24 ?_ _ Try.underlying27 rfl ?_ ?_; rotate_left; (· (repeat (first | (with_reducible assumption) | ((with_reducible refine Has.box _ _ ?_ ?_) <;> (first | assumption | decide)) | (with_reducible refine Has.alloc ?_ _) | ((with_reducible refine Has.putOther ?_ _ _ ?_); rotate_left; omega; skip) | ((with_reducible refine Has.below ?_ ?_); rotate_left; assumption)))); (· kernel_rfl))
        refine (l2Rack_any C _ hC24).mono ?_
        rintro e w7 ⟨rfl, b7⟩
        rw [HCC.out.2]
        replace F1 := F1.below b7
        replace FB := FB.below b7
        replace FC := Lib.hid (FC.out.below b7)
        replace FM := Lib.hid (Moved.call FM.out b7)
        replace FP := Lib.hid (FP.out.below b7)
        clear b7
        have hXY : ([X, Y] : List Int).length = 2 := rfl
        go_wp2_with (first | (refine load_has rfl 27 _ rfl _ rfl ?_ 24 ?_ _ Try.underlying27 rfl ?_ ?_; rotate_left; (· (repeat (first | (with_reducible assumption) | ((with_reducible refine Has.box _ _ ?_ ?_) <;> (first | assumption | decide)) | (with_reducible refine Has.alloc ?_ _) | ((with_reducible refine Has.putOther ?_ _ _ ?_); rotate_left; omega; skip) | ((with_reducible refine Has.below ?_ ?_); rotate_left; assumption)))); (· kernel_rfl)) | (refine load_has rfl 36 _ rfl _ rfl ?_ 2 ?_ _ Try.underlying36 rfl ?_ ?_; rotate_left; (· (repeat (first | (with_reducible assumption) | ((with_reducible refine Has.box _ _ ?_ ?_) <;> (first | assumption | decide)) | (with_reducible refine Has.alloc ?_ _) | ((with_reducible refine Has.putOther ?_ _ _ ?_); rotate_left; omega; skip) | ((with_reducible refine Has.below ?_ ?_); rotate_left; assumption)))); (· kernel_rfl)))
        refine (l6Can_any C X Y _ hC24 HCC.out.2).mono ?_
        rintro e w8 ⟨rfl, b8⟩
        replace F1 := F1.below b8
        replace FB := FB.below b8
        replace FC := Lib.hid (FC.out.below b8)
        replace FM := Lib.hid (Moved.call FM.out b8)
        replace FP := Lib.hid (FP.out.below b8)
        clear b8
        by_cases hp : pourOk C X Y = true
        · have PV := (pour_facts hC24 hp).valid
          obtain ⟨p, q, rfl, rfl, p6, q6, hne, hc⟩ := pourOk_parts hp
          rw [hp]
          rw [pourR_T hp] at PV
          have R24 := pourR_len hC24 (p : Int) (q : Int)
          rw [pourR_T hp] at R24
          have cc0 := FB.cell 0 (by omega)
          have cc1 := FB.cell 1 (by omega)
          rw [List.getD_cons_zero] at cc0
          rw [List.getD_cons_succ, List.getD_cons_zero] at cc1
          have RV := Lib.hid PV
          clear hp PV
          go_wp2_with (refine load_has rfl 27 _ rfl _ rfl ?_ 24 ?_ _ Try.underlying27 rfl ?_ ?_; rotate_left; (· (repeat (first | (with_reducible assumption) | ((with_reducible refine Has.box _ _ ?_ ?_) <;> (first | assumption | decide)) | (with_reducible refine Has.alloc ?_ _) | ((with_reducible refine Has.putOther ?_ _ _ ?_); rotate_left; omega; skip) | ((with_reducible refine Has.below ?_ ?_); rotate_left; assumption)))); (· kernel_rfl))
          refine (l2Pour_any C p q _ hC24 HCC.out.2 p6 q6 hne hc).mono ?_
          rintro e w9 ⟨rfl, b9⟩
          replace F1 := F1.below b9
          have lF := F1.lt
          replace FC := Lib.hid (FC.out.below b9)
          replace FM := Lib.hid (Moved.call FM.out b9)
          replace FP := Lib.hid (FP.out.below b9)
          clear b9 cc0 cc1 FB
          generalize pourT C p q = R at *
          have N9 := Has.box w9 27 R24 (by omega)
          replace F1 := F1.alloc (.cells (ints R).toArray 27)
          replace FC := Lib.hid (Cur.alloc FC.out (.cells (ints R).toArray 27))
          replace FM := Lib.hid (Moved.alloc FM.out (.cells (ints R).toArray 27))
          replace FP := Lib.hid (FP.out.alloc (.cells (ints R).toArray 27))
          have M1 := Lib.hid (F1.putAll R R24)
          have M2 := Lib.hid (Prs.aside FP.out w.heap.size 0 (ints R) (fun i hi => by have := (World.ownsRow.lt FP.out i hi).1; omega))
          have M3 := Lib.hid (Cur.puts FC.out (b := w.heap.size) 0 (ints R) hcw)
          have M4 := Lib.hid (Moved.puts FM.out (b := w.heap.size) (Nat.le_refl _) 0 (ints R))
          clear FC FM FP
          go_wp2_with (first | (refine store_new rfl 27 _ _ rfl _ _ _ rfl _ rfl _ rfl rfl ?_ ?_ ?_; (· (first | assumption | rfl)); (· kernel_rfl)) | (refine load_has rfl 27 _ rfl _ rfl ?_ 24 ?_ _ Try.underlying27 rfl ?_ ?_; rotate_left; (· (repeat (first | (with_reducible assumption) | ((with_reducible refine Has.box _ _ ?_ ?_) <;> (first | assumption | decide)) | (with_reducible refine Has.alloc ?_ _) | ((with_reducible refine Has.putOther ?_ _ _ ?_); rotate_left; omega; skip) | ((with_reducible refine Has.below ?_ ?_); rotate_left; assumption)))); (· kernel_rfl)) | (refine store_at rfl 27 _ _ rfl _ _ rfl rfl ?_ 24 ?_ ?_ ?_ ?_; rotate_left; (· (repeat (first | (with_reducible assumption) | ((with_reducible refine Has.box _ _ ?_ ?_) <;> (first | assumption | decide)) | (with_reducible refine Has.alloc ?_ _) | ((with_reducible refine Has.putOther ?_ _ _ ?_); rotate_left; omega; skip) | ((with_reducible refine Has.below ?_ ?_); rotate_left; assumption)))); (· (first | assumption | rfl)); (· kernel_rfl)))
          go_roundg (N + 1 - (j + 1))
          case rel => exact ⟨j + 1, R, _, rfl, by omega, by first | rfl | (rw [← hw1]) | go_num, Lib.hid ⟨R24, RV.out⟩, M1.out, M2, Lib.hid (M3.out.mono (by omega)), M4⟩
          case measure => omega
        · have hf : pourOk C X Y = false := by simpa using hp
          rw [hf]
          clear hf hp
          go_wp2_with fail
          go_roundg (N + 1 - (j + 1))
          case rel => exact ⟨j + 1, C, _, rfl, by omega, by first | rfl | (rw [← hw1]) | go_num, HCC, F1, FP, Lib.hid (FC.out.mono (by omega)), FM⟩
          case measure => omega
    · obtain rfl : j = N := by omega
      have hnn : decide ((0 : Int) < ((j - j : Nat) : Int)) = false := by simp
      go_wp2_with fail
      go_ret
      exact ⟨_, j, fs, rfl, hN, GP.out, GC.out.mono (by omega), GM.out⟩
end Go.Proofs.Ytnldnjnnjfbhnab.base
end

section
namespace Go.Proofs.Ytnldnjnnjfbhnab.base
open Go.ChangeShapes Go.WideShapes Go.ChangeAt Go.RowKit
open Go.Proofs.Ytnldnjnnjfbhnab.cur
set_option linter.unusedVariables false
set_option linter.unusedSimpArgs false

set_option maxHeartbeats 3200000 in
set_option maxRecDepth 100000 in
theorem near_any (c k : Nat) (w : World) (h : Cur w c k) (hk : k < 900000) :
    Calls Try.prog 37 #[.pointer (some ⟨c, 0, none⟩)] w fun e w' => ∃ ns : List Int, e = .returned (.agg (ints ns).toArray) ∧ ns.length = 24 ∧ Cur w' c (k + 20000) ∧ Moved c w w' := by
  have hcw := h.lt
  have H0 := Has.zero24 w 27
  have C0 := Lib.hid (Cur.alloc h (.cells #[.int .i64 0, .int .i64 0, .int .i64 0, .int .i64 0, .int .i64 0, .int .i64 0, .int .i64 0, .int .i64 0, .int .i64 0, .int .i64 0, .int .i64 0, .int .i64 0, .int .i64 0, .int .i64 0, .int .i64 0, .int .i64 0, .int .i64 0, .int .i64 0, .int .i64 0, .int .i64 0, .int .i64 0, .int .i64 0, .int .i64 0, .int .i64 0] 27))
  have M0 := Lib.hid (Moved.alloc (Moved.refl c w) (.cells #[.int .i64 0, .int .i64 0, .int .i64 0, .int .i64 0, .int .i64 0, .int .i64 0, .int .i64 0, .int .i64 0, .int .i64 0, .int .i64 0, .int .i64 0, .int .i64 0, .int .i64 0, .int .i64 0, .int .i64 0, .int .i64 0, .int .i64 0, .int .i64 0, .int .i64 0, .int .i64 0, .int .i64 0, .int .i64 0, .int .i64 0, .int .i64 0] 27))
  have hz : z24.length = 24 := rfl
  clear h
  go_enter Try.func37, Try.ntmps37
  go_wp2_with fail
  refine (one_any c k 3 _ C0.out (by omega) (by omega) (by omega)).mono ?_
  rintro e w1 ⟨t, rfl, c1, m1⟩
  have H1 := H0.moved m1 (by omega)
  have C1 := Lib.hid c1
  have M1 := Lib.hid (M0.out.trans m1)
  clear H0 C0 M0 c1 m1
  cases t with
  | true =>
    go_wp2_with fail
    refine (rack_any c _ _ C1.out (by omega)).mono ?_
    rintro e w2 ⟨ns, rfl, hl, c2, m2⟩
    have H2 := H1.moved m2 (by omega)
    have S1 := Lib.hid (H2.putAll ns hl)
    have S2 := Lib.hid (Cur.puts (c2.mono (m := k + 20000) (by omega)) 0 (ints ns) hcw)
    have S3 := Lib.hid (Moved.puts (M1.out.trans m2) (Nat.le_refl _) 0 (ints ns))
    clear c2 m2 C1 M1
    go_wp2_with (refine store_at rfl 27 _ _ rfl _ _ rfl rfl ?_ 24 ?_ ?_ ?_ ?_; rotate_left; (· (repeat (first | (with_reducible assumption) | ((with_reducible refine Has.box _ _ ?_ ?_) <;> (first | assumption | decide)) | (with_reducible refine Has.alloc ?_ _) | ((with_reducible refine Has.putOther ?_ _ _ ?_); rotate_left; omega; skip) | ((with_reducible refine Has.below ?_ ?_); rotate_left; assumption)))); (· (first | assumption | rfl)); (· kernel_rfl))
    exact bodyPost_ret (res_has rfl _ _ w.heap.size ns 24 _ rfl S1.out Try.underlying27 rfl (by kernel_rfl)) rfl ⟨ns, rfl, hl, S2.out, S3.out⟩
  | false =>
    have hs2 := H1.lt
    have D0 : Dr w c w1.heap.size (k + 100) (w1.alloc (.cells (ints z24).toArray 27)) :=
      ⟨⟨z24, Has.box w1 27 rfl (by decide)⟩, H1.alloc _, Cur.alloc (C1.out.mono (by omega)) _, Moved.alloc M1.out _⟩
    obtain ⟨b, hb⟩ : ∃ b, b = w1.heap.size := ⟨_, rfl⟩
    have DD := Lib.hid D0
    rw [← hb] at DD
    have hbw : w.heap.size < b := by rw [hb]; exact hs2
    clear H1 C1 M1 D0 hs2
    go_wp2_with (first | (refine store_new rfl 27 _ _ rfl _ _ _ rfl _ rfl _ rfl rfl ?_ ?_ ?_; (· (first | assumption | rfl)); (· kernel_rfl)) | (refine build_law rfl 27 rfl _ buildRack ?_))
    rw [← hb]
    generalize w1.alloc (.cells (ints z24).toArray 27) = W1 at *
    clear hb
    go_loopg [4] 6 (fun gk i wr => ∃ p : Nat, gk = 6 - p ∧ p ≤ 6 ∧ i = .int .i64 p ∧ Hid (Dr w c b (k + 100 + p * 200) wr))
    case atStart => exact ⟨0, rfl, by omega, rfl, DD⟩
    case round =>
      clear DD
      obtain ⟨p, rfl, hp, rfl, GD⟩ := hrel
      have KC := Lib.hid GD.out.cur
      go_wp2_with fail
      refine (among_at (fun n => 3 ≤ n ∧ n ≤ 6) _ _ 4 _ _ _ _ rfl KC.out (by omega) rfl (by omega) (by omega) ?_).mono ?_
      · intro v hv
        simp at hv
        rcases hv with rfl | rfl | rfl | rfl
        all_goals exact ⟨_, rfl, by omega, by omega⟩
      rintro e w3 ⟨z, rfl, hz4, c3, m3⟩
      have D3 := Lib.hid (GD.out.call c3 m3 hcw hbw)
      clear GD KC c3 m3
      by_cases hpz : (p : Int) < z
      · have hp6 : p < 6 := by omega
        have hpi6 : (p : Int) < 6 := by omega
        have hp0 : (0 : Int) ≤ (p : Int) := by omega
        have C3 := Lib.hid D3.out.cur
        go_wp2_with fail
        refine (pick_any c _ 3 _ C3.out (by omega) (by omega) (by omega)).mono ?_
        rintro e w4 ⟨u, rfl, hu0, hu1, c4, m4⟩
        have D4 := Lib.hid (D3.out.call c4 m4 hcw hbw)
        have C4 := Lib.hid c4
        clear D3 C3 c4 m4
        have wu : IntKind.i64.wrap (1 + u) = 1 + u := IntWalk.i64_in _ (by omega)
        go_wp2_with fail
        refine (among_at (fun n => 1 ≤ n ∧ n ≤ 4) _ _ 5 _ _ _ _ rfl C4.out (by omega) rfl (by omega) (by omega) ?_).mono ?_
        · intro v hv
          simp at hv
          rcases hv with rfl | rfl | rfl | rfl | rfl
          all_goals exact ⟨_, rfl, by omega, by omega⟩
        rintro e w5 ⟨y, rfl, hy, c5, m5⟩
        have D5 := Lib.hid ((D4.out.call c5 m5 hcw hbw).mono (L := k + 100 + p * 200 + 50) (by omega))
        clear D4 C4 c5 m5 wu
        obtain ⟨Y, rfl⟩ : ∃ Y : Nat, y = (Y : Int) := ⟨y.toNat, by omega⟩
        have hY : Y ≤ 4 := by omega
        clear hy
        go_wp2_with fail
        go_loopg [7] 4 (fun gk j wr => ∃ q : Nat, gk = 4 - q ∧ q ≤ Y ∧ j = .int .i64 q ∧ Hid (Dr w c b (k + 100 + p * 200 + 50 + q * 20) wr))
        case atStart => exact ⟨0, rfl, by omega, rfl, D5⟩
        case round =>
          clear D5
          obtain ⟨q, rfl, hq, rfl, KD⟩ := hrel
          by_cases hqY : q < Y
          · have hqi : (q : Int) < (Y : Int) := by omega
            have hq4 : (q : Int) < 4 := by omega
            have hq0 : (0 : Int) ≤ (q : Int) := by omega
            obtain ⟨z0, cc, ff⟩ := KD.out.cell (p * 4 + q) (by omega)
            have D6 := Lib.hid (KD.out.set (p * 4 + q) (1 + u) (by omega) hcw hbw)
            clear KD
            rcases q with _ | q
            · rw [Nat.add_zero] at cc ff D6
              go_upto_region 12 with fail
              clear cc ff
              generalize World.setCell _ _ _ = W6 at *
              have C6 := Lib.hid D6.out.cur
              go_wp2_with fail
              refine (one_any c _ 3 _ C6.out (by omega) (by omega) (by omega)).mono ?_
              rintro e w7 ⟨t, rfl, c7, m7⟩
              have D7 := Lib.hid (D6.out.call c7 m7 hcw hbw)
              clear D6 C6 c7 m7
              cases t with
              | false =>
                go_wp2_with fail
                go_roundg (4 - (0 + 1))
                case rel => exact ⟨0 + 1, rfl, by omega, by go_num, Lib.hid (D7.out.mono (by omega))⟩
                case measure => omega
              | true =>
                have C7 := Lib.hid D7.out.cur
                go_wp2_with fail
                refine wp_region_held_drew (S := fun w' => True) (by kernel_rfl) trivial (fun hHeld => ?_)
                (refine wpAnyH_take (i := 0) (v := ?_) rfl (by kernel_rfl) (by kernel_rfl) (by kernel_rfl) (fun _ _ _ h => h) (Or.inl ⟨by rfl, ?_⟩) hHeld ?_; rotate_left; (· (intro w' hSw; go_simp; try with_reducible rfl)); (try simp only [List.getElem_toArray, List.getElem_cons_zero, List.getElem_cons_succ, Act.put, List.setIfInBounds_toArray, List.set_cons_zero, List.set_cons_succ])); (refine wpAnyH_take (i := 1) (v := ?_) rfl (by kernel_rfl) (by kernel_rfl) (by kernel_rfl) (fun _ _ _ h => h) (Or.inl ⟨by rfl, ?_⟩) hHeld ?_; rotate_left; (· (intro w' hSw; go_simp; try with_reducible rfl)); (try simp only [List.getElem_toArray, List.getElem_cons_zero, List.getElem_cons_succ, Act.put, List.setIfInBounds_toArray, List.set_cons_zero, List.set_cons_succ])); (refine wpAnyH_take (i := 2) (v := ?_) rfl (by kernel_rfl) (by kernel_rfl) (by kernel_rfl) (fun _ _ _ h => h) (Or.inl ⟨by rfl, ?_⟩) hHeld ?_; rotate_left; (· (intro w' hSw; go_simp; try with_reducible rfl)); (try simp only [List.getElem_toArray, List.getElem_cons_zero, List.getElem_cons_succ, Act.put, List.setIfInBounds_toArray, List.set_cons_zero, List.set_cons_succ])); (refine wpAnyH_take (i := 5) (v := ?_) rfl (by kernel_rfl) (by kernel_rfl) (by kernel_rfl) (fun _ _ _ h => h) (Or.inl ⟨by rfl, ?_⟩) hHeld ?_; rotate_left; (· (intro w' hSw; go_simp; try with_reducible rfl)); (try simp only [List.getElem_toArray, List.getElem_cons_zero, List.getElem_cons_succ, Act.put, List.setIfInBounds_toArray, List.set_cons_zero, List.set_cons_succ])); (refine wpAnyH_take (i := 6) (v := ?_) rfl (by kernel_rfl) (by kernel_rfl) (by kernel_rfl) (fun _ _ _ h => h) (Or.inl ⟨by rfl, ?_⟩) hHeld ?_; rotate_left; (· (intro w' hSw; go_simp; try with_reducible rfl)); (try simp only [List.getElem_toArray, List.getElem_cons_zero, List.getElem_cons_succ, Act.put, List.setIfInBounds_toArray, List.set_cons_zero, List.set_cons_succ]))
                (refine wpAnyH_ready (rs := [3]) (by kernel_rfl) (by simp) ?_; refine AllReadyH.cons (o := _) rfl (fun K hK => ?_) AllReadyH.nil; (simp only [List.getElem_toArray, List.getElem_cons_zero, List.getElem_cons_succ, Region.wanted, if_true]))
                go_simp
                refine (pick_any c _ 4 _ (Cur.drewN C7.out 1) (by omega) (by omega) (by omega)).mono ?_
                rintro e w8 ⟨u2, rfl, hu0, hu1, c8, m8⟩
                have D8 := Lib.hid ((D7.out.drewN 1).call c8 m8 hcw hbw)
                clear c8 m8 C7 D7
                dsimp only
                (try simp only [List.getElem_toArray, List.getElem_cons_zero, List.getElem_cons_succ, Act.put, List.setIfInBounds_toArray, List.set_cons_zero, List.set_cons_succ])
                refine hK.out _ _ trivial (fun hHeld => ?_)
                clear hK K
                have wu2 : IntKind.i64.wrap (1 + u2) = 1 + u2 := IntWalk.i64_in _ (by omega)
                (refine wpAnyH_take (i := 4) (v := ?_) rfl (by kernel_rfl) (by kernel_rfl) (by kernel_rfl) (fun _ _ _ h => h) (Or.inl ⟨by rfl, ?_⟩) hHeld ?_; rotate_left; (· (intro w' hSw; go_simp; try with_reducible rfl)); (try simp only [List.getElem_toArray, List.getElem_cons_zero, List.getElem_cons_succ, Act.put, List.setIfInBounds_toArray, List.set_cons_zero, List.set_cons_succ])); (refine wpAnyH_take (i := 7) (v := ?_) rfl (by kernel_rfl) (by kernel_rfl) (by kernel_rfl) (fun _ _ _ h => h) (Or.inl ⟨by rfl, ?_⟩) hHeld ?_; rotate_left; (· (intro w' hSw; go_simp; try with_reducible rfl)); (try simp only [List.getElem_toArray, List.getElem_cons_zero, List.getElem_cons_succ, Act.put, List.setIfInBounds_toArray, List.set_cons_zero, List.set_cons_succ]))
                obtain ⟨z1, cc, ff⟩ := D8.out.cell (p * 4 + 0) (by omega)
                rw [Nat.add_zero] at cc ff
                (refine wpAnyH_ready (rs := [8]) (by kernel_rfl) (by simp) ?_; refine AllReadyH.cons (o := _) rfl (fun K hK => ?_) AllReadyH.nil; (simp only [List.getElem_toArray, List.getElem_cons_zero, List.getElem_cons_succ, Region.wanted, if_true]))
                go_simp
                refine hK.out _ _ trivial (fun hHeld => ?_)
                clear hK K cc ff
                refine wpAnyH_done (by kernel_rfl) ?_ _
                have D9 := Lib.hid (D8.out.set (p * 4) (1 + u2) (by omega) hcw hbw)
                clear D8 hHeld
                go_wp2_with fail
                go_roundg (4 - (0 + 1))
                case rel => exact ⟨0 + 1, rfl, by omega, by go_num, Lib.hid (D9.out.mono (by omega))⟩
                case measure => omega
            · have hq1 : (((q + 1 : Nat) : Int) == 0) = false := by simp; omega
              go_upto_region 12 with fail
              clear cc ff
              generalize World.setCell _ _ _ = W6 at *
              go_wp2_with fail
              go_roundg (4 - (q + 1 + 1))
              case rel => exact ⟨q + 1 + 1, rfl, by omega, by go_num, Lib.hid (D6.out.mono (by omega))⟩
              case measure => omega
          · obtain rfl : q = Y := by omega
            have D6 := Lib.hid (KD.out.mono (L := k + 100 + (p + 1) * 200) (by omega))
            clear KD
            go_wp2_with fail
            go_roundg (6 - (p + 1))
            case rel => exact ⟨p + 1, rfl, by omega, by go_num, D6⟩
            case measure => omega
      · obtain ⟨R, hR⟩ := D3.out.rack
        obtain ⟨s1, s2, s3⟩ := (D3.out.mono (L := k + 20000) (by omega)).done hR.len hcw
        have S1 := Lib.hid s1
        have S2 := Lib.hid s2
        have S3 := Lib.hid s3
        have rl := hR.len
        have hres := D3.out.res
        have hpn : decide ((p : Int) < z) = false := decide_eq_false hpz
        clear s1 s2 s3 D3
        go_wp2_with (first | (refine load_has rfl 27 _ rfl _ rfl ?_ 24 ?_ _ Try.underlying27 rfl ?_ ?_; rotate_left; (· (repeat (first | (with_reducible assumption) | ((with_reducible refine Has.box _ _ ?_ ?_) <;> (first | assumption | decide)) | (with_reducible refine Has.alloc ?_ _) | ((with_reducible refine Has.putOther ?_ _ _ ?_); rotate_left; omega; skip) | ((with_reducible refine Has.below ?_ ?_); rotate_left; assumption)))); (· kernel_rfl)) | (refine store_at rfl 27 _ _ rfl _ R rfl rfl z24 24 hres rl ?_ ?_; (· kernel_rfl)))
        exact bodyPost_ret (res_has rfl _ _ w.heap.size R 24 _ rfl S1.out Try.underlying27 rfl (by kernel_rfl)) rfl ⟨R, rfl, rl, S2.out, S3.out⟩

/-- A drawn rack and a drawn number. -/
def DrawnN (w : World) (e : Ending) (w' : World) : Prop := ∃ (ns : List Int) (n : Int), e = .returned (.tuple #[.agg (ints ns).toArray, .int .i64 n]) ∧ ns.length = 24 ∧ -1 ≤ n ∧ n ≤ 4 ∧ Below w.heap.size w w'
theorem res_hasn {P : Program} {fn : Func} {p q : Tmp} {T : TypeId} (h : fn.results = #[.cell p T, .tmp q]) (tmps : Array Value) (w : World) (b : Nat) (ns : List Int) (n : Nat) (d : TypeDesc) (v : Value)
    (hp : tmps.getD p undef = .pointer (some ⟨b, 0, none⟩)) (hq : tmps.getD q undef = v) (H : Has w b ns n) (hu : P.underlying T = some d) (hd : d.isRow = true) (hi : (P.info? T).map (·.size) = some n) :
    (results fn tmps).run P w = .ok (.tuple #[.agg (ints ns).toArray, v]) w := res_has1 h tmps w b ns n d v hp hq H hu hd hi

set_option maxHeartbeats 800000 in
theorem drawEnd (a : Option Addr) (len cap : Nat) (w : World) (h : Code w a len) :
    Calls Try.prog 27 #[.slice a len cap] w (DrawnN w) := by
  have B0 : Below w.heap.size w (w.alloc (.cells #[.int .i64 0, .int .i64 0, .int .i64 0, .int .i64 0, .int .i64 0, .int .i64 0, .int .i64 0, .int .i64 0, .int .i64 0, .int .i64 0, .int .i64 0, .int .i64 0, .int .i64 0, .int .i64 0, .int .i64 0, .int .i64 0, .int .i64 0, .int .i64 0, .int .i64 0, .int .i64 0, .int .i64 0, .int .i64 0, .int .i64 0, .int .i64 0] 27)) := (Below.refl _ _).alloc (Nat.le_refl _) _
  have R0 := (Has.zero24 w 27).alloc (.cells #[.slice a len cap, .int .i64 0, .int .u64 0] 64)
  have C0 := cur_new (cap := cap) (h.below B0)
  rw [size1] at C0
  have HC := Lib.hid C0
  have M0 := Lib.hid (((kept_refl w).alloc (.cells #[.int .i64 0, .int .i64 0, .int .i64 0, .int .i64 0, .int .i64 0, .int .i64 0, .int .i64 0, .int .i64 0, .int .i64 0, .int .i64 0, .int .i64 0, .int .i64 0, .int .i64 0, .int .i64 0, .int .i64 0, .int .i64 0, .int .i64 0, .int .i64 0, .int .i64 0, .int .i64 0, .int .i64 0, .int .i64 0, .int .i64 0, .int .i64 0] 27)).alloc (.cells #[.slice a len cap, .int .i64 0, .int .u64 0] 64))
  clear h B0 C0
  go_enter Try.func27, Try.ntmps27
  go_wp2_with fail
  have hsz : ((w.alloc (.cells #[.int .i64 0, .int .i64 0, .int .i64 0, .int .i64 0, .int .i64 0, .int .i64 0, .int .i64 0, .int .i64 0, .int .i64 0, .int .i64 0, .int .i64 0, .int .i64 0, .int .i64 0, .int .i64 0, .int .i64 0, .int .i64 0, .int .i64 0, .int .i64 0, .int .i64 0, .int .i64 0, .int .i64 0, .int .i64 0, .int .i64 0, .int .i64 0] 27)).alloc (.cells #[.slice a len cap, .int .i64 0, .int .u64 0] 64)).heap.size = w.heap.size + 1 + 1 := by rw [size1, size1]
  generalize (w.alloc (.cells #[.int .i64 0, .int .i64 0, .int .i64 0, .int .i64 0, .int .i64 0, .int .i64 0, .int .i64 0, .int .i64 0, .int .i64 0, .int .i64 0, .int .i64 0, .int .i64 0, .int .i64 0, .int .i64 0, .int .i64 0, .int .i64 0, .int .i64 0, .int .i64 0, .int .i64 0, .int .i64 0, .int .i64 0, .int .i64 0, .int .i64 0, .int .i64 0] 27)).alloc (.cells #[.slice a len cap, .int .i64 0, .int .u64 0] 64) = W0 at *
  refine (among_at (fun n => -1 ≤ n ∧ n ≤ 4) _ _ 7 (w.heap.size + 1 + 1) W0 _ _ hsz.symm HC.out (by omega) rfl (by omega) (by omega) ?_).mono ?_
  · intro v hv
    simp at hv
    rcases hv with rfl | rfl | rfl | rfl | rfl | rfl | rfl
    all_goals exact ⟨_, rfl, by omega, by omega⟩
  rintro e w1 ⟨n, rfl, hn, c1, m1⟩
  have R1 := R0.moved m1 (by omega)
  have K1 := Lib.hid (show Kept w w1 from Moved.below M0.out m1 (by omega) M0.out.size)
  have C1 := Lib.hid c1
  clear R0 HC M0 c1 m1
  go_wp2_with fail
  refine (near_any (w.heap.size + 1) _ _ C1.out (by omega)).mono ?_
  rintro e w2 ⟨ns, rfl, hl, _, m2⟩
  have R2 := R1.moved m2 (by omega)
  have K2 : Kept w w2 := Moved.below K1.out m2 (by omega) K1.out.size
  have S1 := Lib.hid (R2.putAll ns hl)
  have S2 := Lib.hid (K2.puts (b := w.heap.size) (Nat.le_refl _) 0 (ints ns))
  clear R1 K1 C1 m2 K2
  go_wp2_with (refine store_at rfl 27 _ _ rfl _ _ rfl rfl ?_ 24 ?_ ?_ ?_ ?_; rotate_left; (· (repeat (first | (with_reducible assumption) | ((with_reducible refine Has.box _ _ ?_ ?_) <;> (first | assumption | decide)) | (with_reducible refine Has.alloc ?_ _) | ((with_reducible refine Has.putOther ?_ _ _ ?_); rotate_left; omega; skip) | ((with_reducible refine Has.below ?_ ?_); rotate_left; assumption)))); (· (first | assumption | rfl)); (· kernel_rfl))
  exact bodyPost_ret (res_hasn rfl _ _ w.heap.size ns 24 _ (.int .i64 n) rfl rfl S1.out Try.underlying27 rfl (by kernel_rfl)) rfl ⟨ns, n, rfl, hl, hn.1, hn.2, S2.out⟩
end Go.Proofs.Ytnldnjnnjfbhnab.base
end

section
namespace Go.Proofs.Ytnldnjnnjfbhnab.base
open Go.ChangeShapes Go.WideShapes Go.ChangeAt Go.RowKit
open Go.Proofs.Ytnldnjnnjfbhnab.cur
set_option linter.unusedVariables false
set_option linter.unusedSimpArgs false

def DrawnPathQ (w : World) (e : Ending) (w' : World) : Prop := ∃ (ns : List Int) (v : Value) (n : Nat) (fs : List Int), e = .returned (.tuple #[.agg (ints ns).toArray, v]) ∧ ns.length = 24 ∧ n ≤ 61 ∧ Rw w' w.heap.size v n fs ∧ Below w.heap.size w w'

set_option maxHeartbeats 1600000 in
set_option maxRecDepth 100000 in
theorem drawParty (a : Option Addr) (len cap : Nat) (w : World) (h : Code w a len) :
    Calls Try.prog 15 #[.slice a len cap] w (DrawnPathQ w) := by
  have B0 : Below w.heap.size w (w.alloc (.cells #[.int .i64 0, .int .i64 0, .int .i64 0, .int .i64 0, .int .i64 0, .int .i64 0, .int .i64 0, .int .i64 0, .int .i64 0, .int .i64 0, .int .i64 0, .int .i64 0, .int .i64 0, .int .i64 0, .int .i64 0, .int .i64 0, .int .i64 0, .int .i64 0, .int .i64 0, .int .i64 0, .int .i64 0, .int .i64 0, .int .i64 0, .int .i64 0] 27)) := (Below.refl _ _).alloc (Nat.le_refl _) _
  have R0 := (Has.zero24 w 27).alloc (.cells #[.slice a len cap, .int .i64 0, .int .u64 0] 64)
  have C0 := cur_new (cap := cap) (h.below B0)
  rw [size1] at C0
  have HC := Lib.hid C0
  have M0 := Lib.hid (((kept_refl w).alloc (.cells #[.int .i64 0, .int .i64 0, .int .i64 0, .int .i64 0, .int .i64 0, .int .i64 0, .int .i64 0, .int .i64 0, .int .i64 0, .int .i64 0, .int .i64 0, .int .i64 0, .int .i64 0, .int .i64 0, .int .i64 0, .int .i64 0, .int .i64 0, .int .i64 0, .int .i64 0, .int .i64 0, .int .i64 0, .int .i64 0, .int .i64 0, .int .i64 0] 27)).alloc (.cells #[.slice a len cap, .int .i64 0, .int .u64 0] 64))
  clear h B0 C0
  go_enter Try.func15, Try.ntmps15
  go_wp2_with fail
  refine (near_any (w.heap.size + 1) _ _ HC.out (by omega)).mono ?_
  rintro e w1 ⟨ns, rfl, hl, c1, m1⟩
  have hs1 : w.heap.size + 1 + 1 ≤ w1.heap.size := by have := m1.size; simp at this; omega
  have R1 := (R0.moved m1 (by omega)).alloc (.cells (ints ns).toArray 27)
  have G1 := Has.box w1 27 hl (by omega)
  have C1 := Lib.hid (Cur.alloc c1 (.cells (ints ns).toArray 27))
  have M1 : Hid (Kept w (w1.alloc (.cells (ints ns).toArray 27))) := Lib.hid ((Moved.below M0.out m1 (by omega) M0.out.size).alloc (by omega) _)
  clear R0 HC M0 c1 m1
  go_wp2_with (first | (refine store_new rfl 27 _ _ rfl _ _ _ rfl _ rfl _ rfl rfl ?_ ?_ ?_; (· (first | assumption | rfl)); (· kernel_rfl)) | (refine load_has rfl 27 _ rfl _ rfl ?_ 24 ?_ _ Try.underlying27 rfl ?_ ?_; rotate_left; (· (repeat (first | (with_reducible assumption) | ((with_reducible refine Has.box _ _ ?_ ?_) <;> (first | assumption | decide)) | (with_reducible refine Has.alloc ?_ _) | ((with_reducible refine Has.putOther ?_ _ _ ?_); rotate_left; omega; skip) | ((with_reducible refine Has.below ?_ ?_); rotate_left; assumption)))); (· kernel_rfl)))
  refine (l2Rack_any ns _ hl).mono ?_
  rintro e w2 ⟨rfl, b2⟩
  replace R1 := R1.below b2
  replace G1 := G1.below b2
  replace C1 := Lib.hid (C1.out.below b2)
  replace M1 := Lib.hid (M1.out.call b2)
  have hs2 := b2.size
  rw [size1] at hs2
  clear b2
  have l1 : (ints ns).length = 24 := by rw [ints_len]; exact hl
  have hi0 : (Try.prog.info? 27).map (·.size) = some 24 := by kernel_rfl
  have hi1 : (Try.prog.info? 27).map (·.size) = some (ints ns).length := by rw [l1]; exact hi0
  by_cases hv : vR ns = true
  rotate_left
  · have hf : vR ns = false := by simpa using hv
    have P0 : Prs (w2.alloc (.cells #[.int .i64 0, .int .i64 1] 36)) w2.heap.size (.slice (some ⟨w2.heap.size, 0, none⟩) 1 1) 1 [0, 1] := World.ownsRow_lit w2 #[.int .i64 0, .int .i64 1] 1 (Nat.le_refl _) (by unfold maxLen; omega) rfl
    replace R1 := R1.alloc (.cells #[.int .i64 0, .int .i64 1] 36)
    have G2 := G1.alloc (.cells #[.int .i64 0, .int .i64 1] 36)
    have S1 := Lib.hid (R1.putAll ns hl)
    have S2 := Lib.hid ((M1.out.alloc (.cells #[.int .i64 0, .int .i64 1] 36)).puts (b := w.heap.size) (Nat.le_refl _) 0 (ints ns))
    have S3 := Lib.hid ((P0.rw.mono (b' := w.heap.size) (by omega)).puts w.heap.size 0 (ints ns) (fun _ e => by simp only [Value.ownBlock, Option.some.injEq] at e; omega))
    rw [hf]
    clear hf hv P0
    go_wp2_with (first | (refine load_has rfl 27 _ rfl _ rfl ?_ 24 ?_ _ Try.underlying27 rfl ?_ ?_; rotate_left; (· (repeat (first | (with_reducible assumption) | ((with_reducible refine Has.box _ _ ?_ ?_) <;> (first | assumption | decide)) | (with_reducible refine Has.alloc ?_ _) | ((with_reducible refine Has.putOther ?_ _ _ ?_); rotate_left; omega; skip) | ((with_reducible refine Has.below ?_ ?_); rotate_left; assumption)))); (· kernel_rfl)) | (refine store_at rfl 27 _ _ rfl _ _ rfl rfl ?_ 24 ?_ ?_ ?_ ?_; rotate_left; (· (repeat (first | (with_reducible assumption) | ((with_reducible refine Has.box _ _ ?_ ?_) <;> (first | assumption | decide)) | (with_reducible refine Has.alloc ?_ _) | ((with_reducible refine Has.putOther ?_ _ _ ?_); rotate_left; omega; skip) | ((with_reducible refine Has.below ?_ ?_); rotate_left; assumption)))); (· (first | assumption | rfl)); (· kernel_rfl)))
    exact bodyPost_ret (res_has1 rfl _ _ w.heap.size ns 24 _ _ rfl rfl S1.out Try.underlying27 rfl (by kernel_rfl)) rfl ⟨ns, .slice (some ⟨w2.heap.size, 0, none⟩) 1 1, 1, [0, 1], rfl, hl, by omega, S3.out, S2.out⟩
  rw [hv]
  go_wp2_with fail
  refine wp_region_held_drew (S := fun w' => Has w' w1.heap.size ns 24) (by kernel_rfl) G1.drew (fun hHeld => ?_)
  have R2 := R1.drew
  have C2 := Lib.hid (show Cur w2.drew (w.heap.size + 1) _ from C1.out)
  have M2 := Lib.hid (M1.out.drewN 1)
  clear R1 C1 M1 G1
  (refine wpAnyH_take (i := 1) (v := ?_) rfl (by kernel_rfl) (by kernel_rfl) (by kernel_rfl) (fun _ _ _ h => h) (Or.inl ⟨by rfl, ?_⟩) hHeld ?_; rotate_left; (· (intro w' hSw; go_simp; try with_reducible rfl)); (try simp only [List.getElem_toArray, List.getElem_cons_zero, List.getElem_cons_succ, Act.put, List.setIfInBounds_toArray, List.set_cons_zero, List.set_cons_succ]))
  (refine wpAnyH_take (i := 0) (v := _) rfl (by kernel_rfl) (by kernel_rfl) (by kernel_rfl) (fun _ _ _ h => h) (yieldsIf_load_mid (by rfl) 27 _ rfl _ _ rfl (ints ns) _ (fun w' hSw => hSw.holds.range) Try.underlying27 rfl (hi1)) hHeld ?_; (try simp only [List.getElem_toArray, List.getElem_cons_zero, List.getElem_cons_succ, Act.put, List.setIfInBounds_toArray, List.set_cons_zero, List.set_cons_succ]))
  (refine wpAnyH_take (i := 2) (v := _) rfl (by kernel_rfl) (by kernel_rfl) (by kernel_rfl) (fun _ _ _ h => h) (yieldsIf_load_mid (by rfl) 27 _ rfl _ _ rfl (ints ns) _ (fun w' hSw => hSw.holds.range) Try.underlying27 rfl (hi1)) hHeld ?_; (try simp only [List.getElem_toArray, List.getElem_cons_zero, List.getElem_cons_succ, Act.put, List.setIfInBounds_toArray, List.set_cons_zero, List.set_cons_succ]))
  (refine wpAnyH_ready (rs := [3]) (by kernel_rfl) (by simp) ?_; refine AllReadyH.cons (o := _) rfl (fun K hK => ?_) AllReadyH.nil; (simp only [List.getElem_toArray, List.getElem_cons_zero, List.getElem_cons_succ, Region.wanted, if_true]))
  go_simp
  refine (path_any (w.heap.size + 1) _ ns _ hl hv C2.out (by omega)).mono ?_
  rintro e w3 ⟨v, n, fs, rfl, hn, q3, c3, m3⟩
  dsimp only
  (try simp only [List.getElem_toArray, List.getElem_cons_zero, List.getElem_cons_succ, Act.put, List.setIfInBounds_toArray, List.set_cons_zero, List.set_cons_succ])
  have hs3 := m3.size
  have R3 := R2.moved m3 (by omega)
  have S0 : Kept w w3 := Moved.below M2.out m3 (by omega) M2.out.size
  have hs4 : w2.heap.size ≤ w3.heap.size := hs3
  have Q3 := Lib.hid (q3.rw.mono (b' := w.heap.size) (by show w.heap.size ≤ w2.heap.size + 1; omega))
  have own := Lib.hid (fun i hi => (World.ownsRow.lt q3 i hi).1)
  have S0 := Lib.hid S0
  refine hK.out _ _ (hHeld.moved m3 (by omega)) (fun hHeld => ?_)
  clear hK K c3 m3 q3 M2 C2 R2
  (refine wpAnyH_ready (rs := [4]) (by kernel_rfl) (by simp) ?_; refine AllReadyH.cons (o := _) rfl (fun K hK => ?_) AllReadyH.nil; (simp only [List.getElem_toArray, List.getElem_cons_zero, List.getElem_cons_succ, Region.wanted, if_true]))
  refine wp_store_mid _ _ _ rfl _ _ (ints ns).toArray rfl rfl (by simpa [l1] using R3.there) (by simpa [l1] using hi0) (all_oneCell_toArray (ints_one _)) ?_
  (try simp only [List.getElem_toArray, List.getElem_cons_zero, List.getElem_cons_succ, Act.put, List.setIfInBounds_toArray, List.set_cons_zero, List.set_cons_succ, List.toList_toArray])
  have S1 := Lib.hid (R3.putAll ns hl)
  have S2 := Lib.hid (S0.out.puts (b := w.heap.size) (Nat.le_refl _) 0 (ints ns))
  have S3 := Lib.hid (Q3.out.puts w.heap.size 0 (ints ns) (fun _ e => by have h1 : w2.heap.size + 1 ≤ w.heap.size := own.out _ e; omega))
  refine hK.out _ _ (hHeld.putOther (b' := w.heap.size) 0 (ints ns) (by omega)) (fun hHeld => ?_)
  clear hK K
  (refine wpAnyH_take (i := 5) (v := ?_) rfl (by kernel_rfl) (by kernel_rfl) (by kernel_rfl) (fun _ _ _ h => h) (Or.inl ⟨by rfl, ?_⟩) hHeld ?_; rotate_left; (· (intro w' hSw; go_simp; try with_reducible rfl)); (try simp only [List.getElem_toArray, List.getElem_cons_zero, List.getElem_cons_succ, Act.put, List.setIfInBounds_toArray, List.set_cons_zero, List.set_cons_succ]))
  refine wpAnyH_done (by kernel_rfl) ?_ _
  clear hHeld
  go_wp2_with fail
  exact bodyPost_ret (res_has1 rfl _ _ w.heap.size ns 24 _ _ rfl rfl S1.out Try.underlying27 rfl (by kernel_rfl)) rfl ⟨ns, v, n, fs, rfl, hl, hn, S3.out, S2.out⟩
end Go.Proofs.Ytnldnjnnjfbhnab.base
end

section
namespace Go.Proofs.Ytnldnjnnjfbhnab.base
open Go.ChangeShapes Go.WideShapes Go.ChangeAt Go.RowKit
open Go.Proofs.Ytnldnjnnjfbhnab.cur
set_option linter.unusedVariables false
set_option linter.unusedSimpArgs false

def DrawnOne (w : World) (e : Ending) (w' : World) : Prop := ∃ ns : List Int, e = .returned (.agg (ints ns).toArray) ∧ ns.length = 24 ∧ Below w.heap.size w w'
end Go.Proofs.Ytnldnjnnjfbhnab.base
end
