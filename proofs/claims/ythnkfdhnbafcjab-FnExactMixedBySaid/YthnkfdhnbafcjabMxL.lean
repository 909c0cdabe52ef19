/-
  The exact law of MixedBy, walked.
-/
import Derived.Test.YthnkfdhnbafcjabMxI
import Derived.Test.YthnkfdhnbafcjabRackTo
import Derived.Test.YthnkfdhnbafcjabPrsE
import Derived.Test.YthnkfdhnbafcjabPrsL
namespace Go.Proofs.Ythnkfdhnbafcjab.base
open Go.ChangeShapes Go.WideShapes Go.ChangeAt Go.RowKit
set_option linter.unusedVariables false
set_option linter.unusedSimpArgs false

/-- What the walk is told of a slice of integers that came in. -/
def IsRow (k : IntKind) (w : World) (a : Option Addr) (len cap : Nat) (zs : List Int) : Prop :=
  (a = none ∧ len = 0 ∧ cap = 0 ∧ zs = []) ∨ ∃ x : Addr, a = some x ∧ len ≤ cap ∧ cap ≤ maxLen ∧ zs.length = cap ∧ (∀ i, i < zs.length → w.cell? (x.add i) = some (.int k (zs.getD i 0))) ∧ ∀ n ∈ zs, (Lit.int k n).wf = true
def mxN (ns zs : List Int) (n : Nat) : Nat := (mxLA ns zs n).length
def mxF (ns zs : List Int) (n : Nat) : List Int := (mxLA ns zs n).flatten
theorem Prs.off {w w' : World} {b : Nat} {v : Value} {n : Nat} {fs : List Int} (h : Prs w b v n fs) {r : Option Nat} (hg : w.grownBy w' r) (hr : ∀ k, r = some k → v.ownBlock ≠ some k) : Prs w' b v n fs := by
  refine World.ownsRow.kept (row := r) h hg ?_
  cases hv : v.ownBlock with
  | none => exact .inl rfl
  | some k => exact .inr (fun e => hr k e.symm hv)
theorem specMixP (ns zs : List Int) (v : Value) (n b : Nat) (w : World) (h24 : ns.length = 24) (hn : n ≤ 1048576) (h : Nu w b v n zs) :
    Calls Try.prog 14 #[row ns, v] w fun e w' => ∃ v : Value, e = .returned (.tuple #[.agg (ints (mxRA ns zs n)).toArray, v, .bool (mxOk ns zs n)]) ∧ Prs w' w.heap.size v (mxN ns zs n) (mxF ns zs n) ∧ Kept w w' :=
  (specMixed ns zs v n b w h24 hn h).mono fun e w' ⟨v, h1, h2, h3⟩ => ⟨v, h1, h2.row, h3⟩
theorem implMixP (ns zs : List Int) (v : Value) (n b : Nat) (w : World) (h24 : ns.length = 24) (hn : n ≤ 1048576) (h : Nu w b v n zs) :
    Calls Try.prog 16 #[row ns, v] w fun e w' => ∃ v : Value, e = .returned (.tuple #[.agg (ints (mxRA ns zs n)).toArray, v, .bool (mxOk ns zs n)]) ∧ Prs w' w.heap.size v (mxN ns zs n) (mxF ns zs n) ∧ Kept w w' :=
  (implMixed ns zs v n b w h24 hn h).mono fun e w' ⟨v, h1, h2, h3⟩ => ⟨v, h1, h2.row, h3⟩

set_option maxHeartbeats 3200000 in
set_option maxRecDepth 100000 in
theorem mixedLaw (ns : List Int) (a : Option Addr) (len cap : Nat) (zs : List Int) (w : World) (h24 : ns.length = 24) (hp : IsNums w a len zs) :
    Calls Try.prog 4 #[row ns, .slice a len cap] w fun e w' => e = .returned (.bool true) ∧ Kept w w' := by
  have hml := hp.1
  unfold maxLen at hml
  have hl : (mxRA ns zs len).length = 24 := mxRA_len h24 zs len
  have hN : mxN ns zs len ≤ 20 := mxLA_le ns zs len
  have HB := Lib.hid ((kept_refl w).alloc (.cells (ints ns).toArray 25))
  have H := Has.box w 25 h24 (by omega)
  have HP := Lib.hid hp
  clear hp
  rw [row_ints]
  go_enter Try.func4, Try.ntmps4
  by_cases hbig : 1048576 < len
  · have hbi : (1048576 : Int) < (len : Int) := by omega
    go_wp2_with fail
    go_ret
    exact ⟨rfl, HB.out⟩
  · have hlen : len ≤ 1048576 := by omega
    have hbi : ¬ (1048576 : Int) < (len : Int) := by omega
    clear hbig
    go_wp2_with (refine load_has rfl 25 _ rfl _ rfl ?_ 24 ?_ _ Try.underlying25 rfl ?_ ?_; rotate_left; (· (repeat (first | (with_reducible assumption) | ((with_reducible refine Has.box _ _ ?_ ?_) <;> (first | assumption | decide)) | (with_reducible refine Has.alloc ?_ _) | ((with_reducible refine Has.putOther ?_ _ _ ?_); rotate_left; omega; skip) | ((with_reducible refine Has.below ?_ ?_); rotate_left; assumption)))); (· kernel_rfl))
    refine (toRack_any ns _ h24).mono ?_
    rintro e w1 ⟨rfl, b1⟩
    replace H := H.below b1
    replace HB := Lib.hid (HB.out.call b1)
    clear b1
    go_wp2_with fail
    refine (toIntS_any a len cap zs _ (HP.out.below HB.out) hlen).mono ?_
    rintro e w2 ⟨c0, rfl, n0, b2⟩
    replace H := H.below b2
    replace HB := Lib.hid (HB.out.call b2)
    have C0 := Lib.hid n0
    clear n0 b2
    go_wp2_with fail
    refine (specMixP ns zs c0 len _ _ h24 hlen C0.out).mono ?_
    rintro e w3 ⟨v1, rfl, q1, b3⟩
    replace H := H.below b3
    replace HB := Lib.hid (HB.out.call b3)
    have Q1 := Lib.hid q1
    clear q1 b3 C0
    have R1 := Has.box w3 29 hl (by omega)
    replace H := H.alloc (.cells (ints (mxRA ns zs len)).toArray 29)
    replace Q1 := Lib.hid (Q1.out.alloc (.cells (ints (mxRA ns zs len)).toArray 29))
    replace HB := Lib.hid (HB.out.alloc (.cells (ints (mxRA ns zs len)).toArray 29))
    obtain ⟨s1, hs1⟩ : ∃ s, s = (w3.alloc (.cells (ints (mxRA ns zs len)).toArray 29)).heap.size := ⟨_, rfl⟩
    have hH1 : w.heap.size < s1 := by have := H.lt; omega
    have hR1 : w3.heap.size < s1 := by have := R1.lt; omega
    have L1 := Lib.hid (show ∀ k, v1.ownBlock = some k → k < s1 from fun k hk => by have := (World.ownsRow.lt Q1.out k hk).2; omega)
    go_wp2_with (first | (refine store_new rfl 29 _ _ rfl _ _ _ rfl _ rfl _ rfl rfl ?_ ?_ ?_; (· (first | assumption | rfl)); (· kernel_rfl)) | (refine load_has rfl 29 _ rfl _ rfl ?_ 24 ?_ _ Try.underlying29 rfl ?_ ?_; rotate_left; (· (repeat (first | (with_reducible assumption) | ((with_reducible refine Has.box _ _ ?_ ?_) <;> (first | assumption | decide)) | (with_reducible refine Has.alloc ?_ _) | ((with_reducible refine Has.putOther ?_ _ _ ?_); rotate_left; omega; skip) | ((with_reducible refine Has.below ?_ ?_); rotate_left; assumption)))); (· kernel_rfl)) | (refine load_has rfl 25 _ rfl _ rfl ?_ 24 ?_ _ Try.underlying25 rfl ?_ ?_; rotate_left; (· (repeat (first | (with_reducible assumption) | ((with_reducible refine Has.box _ _ ?_ ?_) <;> (first | assumption | decide)) | (with_reducible refine Has.alloc ?_ _) | ((with_reducible refine Has.putOther ?_ _ _ ?_); rotate_left; omega; skip) | ((with_reducible refine Has.below ?_ ?_); rotate_left; assumption)))); (· kernel_rfl)))
    refine (toIntS_any a len cap zs _ (HP.out.below HB.out) hlen).mono ?_
    rintro e w4 ⟨c1, rfl, n1, b4⟩
    replace H := H.below b4
    replace R1 := R1.below b4
    replace Q1 := Lib.hid (Q1.out.below b4)
    replace HB := Lib.hid (HB.out.call b4)
    obtain ⟨s2, hs2⟩ : ∃ s, s = w4.heap.size := ⟨_, rfl⟩
    have M1 := Lib.hid (show ∀ k, c1.ownBlock = some k → s1 ≤ k ∧ k < s2 from fun k hk => by have := Nu.own n1 k hk; omega)
    have C1 := Lib.hid n1
    have hs12 : s1 ≤ s2 := by have := b4.size; omega
    clear n1 b4 hs1
    go_wp2_with (refine load_has rfl 25 _ rfl _ rfl ?_ 24 ?_ _ Try.underlying25 rfl ?_ ?_; rotate_left; (· (repeat (first | (with_reducible assumption) | ((with_reducible refine Has.box _ _ ?_ ?_) <;> (first | assumption | decide)) | (with_reducible refine Has.alloc ?_ _) | ((with_reducible refine Has.putOther ?_ _ _ ?_); rotate_left; omega; skip) | ((with_reducible refine Has.below ?_ ?_); rotate_left; assumption)))); (· kernel_rfl))
    refine (toRack_any ns _ h24).mono ?_
    rintro e w5 ⟨rfl, b5⟩
    replace H := H.below b5
    replace R1 := R1.below b5
    replace Q1 := Lib.hid (Q1.out.below b5)
    replace C1 := Lib.hid (C1.out.below b5)
    replace HB := Lib.hid (HB.out.call b5)
    have hs5 : s2 ≤ w5.heap.size := by have := b5.size; omega
    clear b5 hs2
    go_wp2_with fail
    refine (implMixP ns zs c1 len _ _ h24 hlen C1.out).mono ?_
    rintro e w6 ⟨v2, rfl, q2, b6⟩
    replace H := H.below b6
    replace R1 := R1.below b6
    replace Q1 := Lib.hid (Q1.out.below b6)
    replace C1 := Lib.hid (C1.out.below b6)
    replace HB := Lib.hid (HB.out.call b6)
    have M2 := Lib.hid (show ∀ k, v2.ownBlock = some k → s2 ≤ k ∧ k < w6.heap.size from fun k hk => by have := World.ownsRow.lt q2 k hk; omega)
    have hs6 : s2 ≤ w6.heap.size := by have := b6.size; omega
    have Q2 := Lib.hid q2
    clear q2 b6 hs5
    have R2 := Has.box w6 29 hl (by omega)
    replace H := H.alloc (.cells (ints (mxRA ns zs len)).toArray 29)
    replace R1 := R1.alloc (.cells (ints (mxRA ns zs len)).toArray 29)
    replace Q1 := Lib.hid (Q1.out.alloc (.cells (ints (mxRA ns zs len)).toArray 29))
    replace C1 := Lib.hid (C1.out.alloc (.cells (ints (mxRA ns zs len)).toArray 29))
    replace Q2 := Lib.hid (Q2.out.alloc (.cells (ints (mxRA ns zs len)).toArray 29))
    replace HB := Lib.hid (HB.out.alloc (.cells (ints (mxRA ns zs len)).toArray 29))
    go_wp2_with (first | (refine store_new rfl 29 _ _ rfl _ _ _ rfl _ rfl _ rfl rfl ?_ ?_ ?_; (· (first | assumption | rfl)); (· kernel_rfl)) | (refine load_has rfl 29 _ rfl _ rfl ?_ 24 ?_ _ Try.underlying29 rfl ?_ ?_; rotate_left; (· (repeat (first | (with_reducible assumption) | ((with_reducible refine Has.box _ _ ?_ ?_) <;> (first | assumption | decide)) | (with_reducible refine Has.alloc ?_ _) | ((with_reducible refine Has.putOther ?_ _ _ ?_); rotate_left; omega; skip) | ((with_reducible refine Has.below ?_ ?_); rotate_left; assumption)))); (· kernel_rfl)) | (refine load_has rfl 25 _ rfl _ rfl ?_ 24 ?_ _ Try.underlying25 rfl ?_ ?_; rotate_left; (· (repeat (first | (with_reducible assumption) | ((with_reducible refine Has.box _ _ ?_ ?_) <;> (first | assumption | decide)) | (with_reducible refine Has.alloc ?_ _) | ((with_reducible refine Has.putOther ?_ _ _ ?_); rotate_left; omega; skip) | ((with_reducible refine Has.below ?_ ?_); rotate_left; assumption)))); (· kernel_rfl)))
    refine (eqRack_same (mxRA ns zs len) _ hl).mono ?_
    rintro e w7 ⟨rfl, b7⟩
    replace H := H.below b7
    replace R1 := R1.below b7
    replace R2 := R2.below b7
    replace Q1 := Lib.hid (Q1.out.below b7)
    replace C1 := Lib.hid (C1.out.below b7)
    replace Q2 := Lib.hid (Q2.out.below b7)
    replace HB := Lib.hid (HB.out.call b7)
    clear b7
    go_wp2_with fail
    refine (eqIntA2S_same v2 v1 _ _ _ _ _ (by omega) Q2.out Q1.out).mono ?_
    rintro e w8 ⟨rfl, b8⟩
    replace H := H.below b8
    replace R1 := R1.below b8
    replace R2 := R2.below b8
    replace Q1 := Lib.hid (Q1.out.below b8)
    replace C1 := Lib.hid (C1.out.below b8)
    replace Q2 := Lib.hid (Q2.out.below b8)
    replace HB := Lib.hid (HB.out.call b8)
    clear b8
    go_wp2_with fail
    refine (toIntS_any a len cap zs _ (HP.out.below HB.out) hlen).mono ?_
    rintro e w9 ⟨c2, rfl, n2, b9⟩
    replace H := H.below b9
    replace R1 := R1.below b9
    replace R2 := R2.below b9
    replace Q1 := Lib.hid (Q1.out.below b9)
    replace C1 := Lib.hid (C1.out.below b9)
    replace Q2 := Lib.hid (Q2.out.below b9)
    replace HB := Lib.hid (HB.out.call b9)
    have C2 := Lib.hid n2
    clear n2 b9
    go_wp2_with fail
    refine (eqIntS_same c1 c2 _ _ len zs _ hlen C1.out C2.out).mono ?_
    rintro e w10 ⟨rfl, b10⟩
    replace H := H.below b10
    replace R1 := R1.below b10
    replace R2 := R2.below b10
    replace Q1 := Lib.hid (Q1.out.below b10)
    replace C1 := Lib.hid (C1.out.below b10)
    replace Q2 := Lib.hid (Q2.out.below b10)
    replace HB := Lib.hid (HB.out.call b10)
    clear b10 C2
    obtain ⟨z, hz, hz0⟩ : ∃ z : Int, z = ((1 + len : Nat) : Int) ∧ 0 ≤ z := ⟨_, rfl, by omega⟩
    have HZ := Lib.hid hz
    clear hz
    have zl : decide (z < 0) = false := by simp; omega
    go_wp2_with fail
    refine (markIntS_any _ c1 len 1 zs _ hlen (by omega) C1.out).mono ?_
    rintro e w11 ⟨rfl, m1, m2⟩
    rw [← HZ.out]
    replace H := H.grownNo m2 (fun e => by have h1 := M1.out _ e.symm; omega)
    replace R1 := R1.grownNo m2 (fun e => by have h1 := M1.out _ e.symm; omega)
    replace R2 := R2.grownNo m2 (fun e => by have h1 := M1.out _ e.symm; omega)
    replace Q1 := Lib.hid (Prs.off Q1.out m2 (fun k hk e => by have h1 := M1.out k hk; have := L1.out k e; omega))
    replace Q2 := Lib.hid (Prs.off Q2.out m2 (fun k hk e => by have h1 := M1.out k hk; have := M2.out k e; omega))
    replace HB : Hid (Kept w w11) := Lib.hid (HB.out.grown m2 HB.out.size (fun k hk => by have h1 := M1.out k hk; omega))
    clear m1 m2 C1
    go_wp2_with (first | (refine store_new rfl 29 _ _ rfl _ _ _ rfl _ rfl _ rfl rfl ?_ ?_ ?_; (· (first | assumption | rfl)); (· kernel_rfl)) | (refine load_has rfl 29 _ rfl _ rfl ?_ 24 ?_ _ Try.underlying29 rfl ?_ ?_; rotate_left; (· (repeat (first | (with_reducible assumption) | ((with_reducible refine Has.box _ _ ?_ ?_) <;> (first | assumption | decide)) | (with_reducible refine Has.alloc ?_ _) | ((with_reducible refine Has.putOther ?_ _ _ ?_); rotate_left; omega; skip) | ((with_reducible refine Has.below ?_ ?_); rotate_left; assumption)))); (· kernel_rfl)) | (refine load_has rfl 25 _ rfl _ rfl ?_ 24 ?_ _ Try.underlying25 rfl ?_ ?_; rotate_left; (· (repeat (first | (with_reducible assumption) | ((with_reducible refine Has.box _ _ ?_ ?_) <;> (first | assumption | decide)) | (with_reducible refine Has.alloc ?_ _) | ((with_reducible refine Has.putOther ?_ _ _ ?_); rotate_left; omega; skip) | ((with_reducible refine Has.below ?_ ?_); rotate_left; assumption)))); (· kernel_rfl)))
    refine (eqRack_same (mxRA ns zs len) _ hl).mono ?_
    rintro e w12 ⟨rfl, b12⟩
    replace H := H.below b12
    replace R1 := R1.below b12
    replace R2 := R2.below b12
    replace Q1 := Lib.hid (Q1.out.below b12)
    replace Q2 := Lib.hid (Q2.out.below b12)
    replace HB := Lib.hid (HB.out.call b12)
    clear b12
    go_wp2_with fail
    refine (eqIntA2S_same v2 v1 _ _ _ _ _ (by omega) Q2.out Q1.out).mono ?_
    rintro e w13 ⟨rfl, b13⟩
    replace H := H.below b13
    replace R1 := R1.below b13
    replace R2 := R2.below b13
    replace Q1 := Lib.hid (Q1.out.below b13)
    replace Q2 := Lib.hid (Q2.out.below b13)
    replace HB := Lib.hid (HB.out.call b13)
    clear b13
    obtain ⟨y, hy, hy0, hy1⟩ : ∃ y : Int, y = ((1 + mxN ns zs len * 2 : Nat) : Int) ∧ 0 ≤ y ∧ y ≤ 99 := ⟨_, rfl, by omega, by omega⟩
    have HY := Lib.hid hy
    clear hy
    have yl : decide (y < 0) = false := by simp; omega
    go_wp2_with fail
    refine (markA2S _ v2 (mxN ns zs len) 1 _ _ (by omega) (by omega) Q2.out).mono ?_
    rintro e w14 ⟨rfl, m1, m2⟩
    rw [← HY.out]
    replace H := H.grownNo m2 (fun e => by have h1 := M2.out _ e.symm; omega)
    replace R1 := R1.grownNo m2 (fun e => by have h1 := M2.out _ e.symm; omega)
    replace R2 := R2.grownNo m2 (fun e => by have h1 := M2.out _ e.symm; omega)
    replace Q1 := Lib.hid (Prs.off Q1.out m2 (fun k hk e => by have h1 := M2.out k hk; have := L1.out k e; omega))
    replace HB : Hid (Kept w w14) := Lib.hid (HB.out.grown m2 HB.out.size (fun k hk => by have h1 := M2.out k hk; omega))
    have P2 := Lib.hid m1
    clear m1 m2 Q2
    go_wp2_with fail
    refine (heldA2S _ v2 (mxN ns zs len) 1 _ _ (by omega) (by omega) P2.out).mono ?_
    rintro e w' ⟨rfl, hw⟩
    subst hw
    rw [← HY.out]
    go_wp2_with (refine load_has rfl 25 _ rfl _ rfl ?_ 24 ?_ _ Try.underlying25 rfl ?_ ?_; rotate_left; (· (repeat (first | (with_reducible assumption) | ((with_reducible refine Has.box _ _ ?_ ?_) <;> (first | assumption | decide)) | (with_reducible refine Has.alloc ?_ _) | ((with_reducible refine Has.putOther ?_ _ _ ?_); rotate_left; omega; skip) | ((with_reducible refine Has.below ?_ ?_); rotate_left; assumption)))); (· kernel_rfl))
    refine (toRack_any ns _ h24).mono ?_
    rintro e w15 ⟨rfl, b15⟩
    replace H := H.below b15
    replace R1 := R1.below b15
    replace R2 := R2.below b15
    replace Q1 := Lib.hid (Q1.out.below b15)
    replace P2 := Lib.hid (P2.out.below b15)
    replace HB := Lib.hid (HB.out.call b15)
    clear b15
    go_wp2_with fail
    refine (toIntS_any a len cap zs _ (HP.out.below HB.out) hlen).mono ?_
    rintro e w16 ⟨c3, rfl, n3, b16⟩
    replace H := H.below b16
    replace R1 := R1.below b16
    replace R2 := R2.below b16
    replace Q1 := Lib.hid (Q1.out.below b16)
    replace P2 := Lib.hid (P2.out.below b16)
    replace HB := Lib.hid (HB.out.call b16)
    have C3 := Lib.hid n3
    clear n3 b16
    go_wp2_with fail
    refine (implMixP ns zs c3 len _ _ h24 hlen C3.out).mono ?_
    rintro e w17 ⟨v3, rfl, q3, b17⟩
    replace H := H.below b17
    replace R1 := R1.below b17
    replace R2 := R2.below b17
    replace Q1 := Lib.hid (Q1.out.below b17)
    replace P2 := Lib.hid (P2.out.below b17)
    replace HB := Lib.hid (HB.out.call b17)
    have Q3 := Lib.hid q3
    clear q3 b17 C3
    have R3 := Has.box w17 29 hl (by omega)
    replace H := H.alloc (.cells (ints (mxRA ns zs len)).toArray 29)
    replace R1 := R1.alloc (.cells (ints (mxRA ns zs len)).toArray 29)
    replace R2 := R2.alloc (.cells (ints (mxRA ns zs len)).toArray 29)
    replace Q1 := Lib.hid (Q1.out.alloc (.cells (ints (mxRA ns zs len)).toArray 29))
    replace P2 := Lib.hid (P2.out.alloc (.cells (ints (mxRA ns zs len)).toArray 29))
    replace Q3 := Lib.hid (Q3.out.alloc (.cells (ints (mxRA ns zs len)).toArray 29))
    replace HB := Lib.hid (HB.out.alloc (.cells (ints (mxRA ns zs len)).toArray 29))
    go_wp2_with (first | (refine store_new rfl 29 _ _ rfl _ _ _ rfl _ rfl _ rfl rfl ?_ ?_ ?_; (· (first | assumption | rfl)); (· kernel_rfl)) | (refine load_has rfl 29 _ rfl _ rfl ?_ 24 ?_ _ Try.underlying29 rfl ?_ ?_; rotate_left; (· (repeat (first | (with_reducible assumption) | ((with_reducible refine Has.box _ _ ?_ ?_) <;> (first | assumption | decide)) | (with_reducible refine Has.alloc ?_ _) | ((with_reducible refine Has.putOther ?_ _ _ ?_); rotate_left; omega; skip) | ((with_reducible refine Has.below ?_ ?_); rotate_left; assumption)))); (· kernel_rfl)) | (refine load_has rfl 25 _ rfl _ rfl ?_ 24 ?_ _ Try.underlying25 rfl ?_ ?_; rotate_left; (· (repeat (first | (with_reducible assumption) | ((with_reducible refine Has.box _ _ ?_ ?_) <;> (first | assumption | decide)) | (with_reducible refine Has.alloc ?_ _) | ((with_reducible refine Has.putOther ?_ _ _ ?_); rotate_left; omega; skip) | ((with_reducible refine Has.below ?_ ?_); rotate_left; assumption)))); (· kernel_rfl)))
    refine (eqRack_same (mxRA ns zs len) _ hl).mono ?_
    rintro e w18 ⟨rfl, b18⟩
    replace H := H.below b18
    replace R1 := R1.below b18
    replace R2 := R2.below b18
    replace R3 := R3.below b18
    replace Q1 := Lib.hid (Q1.out.below b18)
    replace P2 := Lib.hid (P2.out.below b18)
    replace Q3 := Lib.hid (Q3.out.below b18)
    replace HB := Lib.hid (HB.out.call b18)
    clear b18
    go_wp2_with fail
    refine (eqIntA2S_same v3 v1 _ _ _ _ _ (by omega) Q3.out Q1.out).mono ?_
    rintro e w19 ⟨rfl, b19⟩
    replace H := H.below b19
    replace R1 := R1.below b19
    replace R2 := R2.below b19
    replace R3 := R3.below b19
    replace Q1 := Lib.hid (Q1.out.below b19)
    replace P2 := Lib.hid (P2.out.below b19)
    replace Q3 := Lib.hid (Q3.out.below b19)
    replace HB := Lib.hid (HB.out.call b19)
    clear b19
    go_wp2_with fail
    refine (heldA2S _ v2 (mxN ns zs len) 1 _ _ (by omega) (by omega) P2.out).mono ?_
    rintro e w' ⟨rfl, hw⟩
    subst hw
    rw [← HY.out]
    go_wp2_with fail
    go_ret
    exact ⟨rfl, HB.out⟩
theorem lawMixedBy (ns : List Int) (a : Option Addr) (len cap : Nat) (zs : List Int) (w : World) (h0 : ns.length = 24 ∧ ∀ n ∈ ns, (Lit.int .i64 n).wf = true) (hp : IsRow .i64 w a len cap zs) :
    Calls Try.prog 4 #[row ns, .slice a len cap] w fun e w' => e = .returned (.bool true) ∧ Kept w w' :=
  mixedLaw ns a len cap (zs.take len) w h0.1 (nums_of hp)
end Go.Proofs.Ythnkfdhnbafcjab.base
