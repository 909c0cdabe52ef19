/-
  Whether a pour is undone, on both sides, walked.
-/
import Derived.Test.YthnkfdhnbafcjaaBackP
namespace Go.Proofs.Ythnkfdhnbafcjaa.base
open Go.ChangeShapes Go.WideShapes Go.ChangeAt Go.RowKit
set_option linter.unusedVariables false
set_option linter.unusedSimpArgs false

/-- A pour, and the pour against it. -/
def undB (ns : List Int) (i j : Int) : Bool := pourOk ns i j && (pourOk (pourR ns i j) j i && decide (pourR (pourR ns i j) j i = ns))
theorem pourOk_can (ns : List Int) (i j : Int) : pourOk ns i j = canA ns i j := rfl
theorem pourOk_two {ns : List Int} {p q : Nat} (hv : vR ns = true) (hp : p < 6) (hq : q < 6) : pourOk ns (p : Int) (q : Int) = decide (p ≠ q ∧ 0 < canN (tub ns p) (tub ns q)) := by
  by_cases hne : p = q
  · unfold pourOk
    rw [twoOk_not (fun h => h.2.2.2 (by omega))]
    simp [hne]
  · unfold pourOk
    rw [twoOk_yes hv hp hq hne]
    simp [hne]
theorem pourR_two {ns : List Int} {p q : Nat} (h : pourOk ns (p : Int) (q : Int) = true) : pourR ns (p : Int) (q : Int) = pourT ns p q := by
  unfold pourR; rw [if_pos h]; simp

set_option maxHeartbeats 1600000 in
set_option maxRecDepth 100000 in
theorem l5Undone_any (ns : List Int) (p q : Nat) (w : World) (h24 : ns.length = 24) (hv : vR ns = true) (hp : p < 6) (hq : q < 6) (hok : pourOk ns (p : Int) (q : Int) = true) :
    Calls Try.prog 46 #[row ns, .int .i64 (p : Nat), .int .i64 (q : Nat)] w fun e w' => e = .returned (.bool (undB ns p q)) ∧ Kept w w' := by
  have hpq : p ≠ q ∧ 0 < canN (tub ns p) (tub ns q) := by rw [pourOk_two hv hp hq] at hok; exact of_decide_eq_true hok
  have MO := pour_moveOk h24 hv hp hq hpq.1 hpq.2
  have hl : (pourT ns p q).length = 24 := MO.len24
  have hV : vR (pourT ns p q) = true := MO.valid
  have E0 := Lib.hid (show undB ns p q = (pourOk (pourT ns p q) (q : Int) (p : Int) && decide (pourR (pourT ns p q) (q : Int) (p : Int) = ns)) by unfold undB; rw [hok, pourR_two hok]; rfl)
  have HB := Lib.hid ((kept_refl w).alloc (.cells (ints ns).toArray 28))
  have H := Has.box w 28 h24 (by omega)
  have HC := Lib.hid (pourOk_two hV hq hp)
  have HPQ := Lib.hid hpq
  clear MO hpq hok
  rw [row_ints]
  go_enter Try.func46, Try.ntmps46
  go_wp2_with (refine load_has rfl 28 _ rfl _ rfl ?_ 24 ?_ _ Try.underlying28 rfl ?_ ?_; rotate_left; (· (repeat (first | (with_reducible assumption) | ((with_reducible refine Has.box _ _ ?_ ?_) <;> (first | assumption | decide)) | (with_reducible refine Has.alloc ?_ _) | ((with_reducible refine Has.putOther ?_ _ _ ?_); rotate_left; omega; skip) | ((with_reducible refine Has.below ?_ ?_); rotate_left; assumption)))); (· kernel_rfl))
  refine (l2Pour_any ns p q _ h24 hv hp hq HPQ.out.1 HPQ.out.2).mono ?_
  rintro e w1 ⟨rfl, b1⟩
  have R1 := Has.box w1 28 hl (by omega)
  have H1 := (H.below b1).alloc (.cells (ints (pourT ns p q)).toArray 28)
  have HB1 := Lib.hid ((HB.out.call b1).alloc (.cells (ints (pourT ns p q)).toArray 28))
  clear H HB b1
  go_wp2_with (first | (refine store_new rfl 28 _ _ rfl _ _ _ rfl _ rfl _ rfl rfl ?_ ?_ ?_; (· (first | assumption | rfl)); (· kernel_rfl)) | (refine load_has rfl 28 _ rfl _ rfl ?_ 24 ?_ _ Try.underlying28 rfl ?_ ?_; rotate_left; (· (repeat (first | (with_reducible assumption) | ((with_reducible refine Has.box _ _ ?_ ?_) <;> (first | assumption | decide)) | (with_reducible refine Has.alloc ?_ _) | ((with_reducible refine Has.putOther ?_ _ _ ?_); rotate_left; omega; skip) | ((with_reducible refine Has.below ?_ ?_); rotate_left; assumption)))); (· kernel_rfl)))
  refine (l2Can_any (pourT ns p q) q p _ hl hV hq hp).mono ?_
  rintro e w2 ⟨rfl, b2⟩
  have R2 := R1.below b2
  have H2 := H1.below b2
  have HB2 := Lib.hid (HB1.out.call b2)
  rw [← HC.out]
  clear R1 H1 HB1 b2
  by_cases hc : pourOk (pourT ns p q) (q : Int) (p : Int) = true
  · rw [hc]
    have hqp : q ≠ p ∧ 0 < canN (tub (pourT ns p q) q) (tub (pourT ns p q) p) := by rw [HC.out] at hc; exact of_decide_eq_true hc
    have HQP := Lib.hid hqp
    have hl2 : (pourT (pourT ns p q) q p).length = 24 := (pour_moveOk hl hV hq hp hqp.1 hqp.2).len24
    have E1 := Lib.hid (show undB ns p q = decide (pourT (pourT ns p q) q p = ns) by rw [E0.out, hc, pourR_two hc]; rfl)
    clear hc hqp
    go_wp2_with (refine load_has rfl 28 _ rfl _ rfl ?_ 24 ?_ _ Try.underlying28 rfl ?_ ?_; rotate_left; (· (repeat (first | (with_reducible assumption) | ((with_reducible refine Has.box _ _ ?_ ?_) <;> (first | assumption | decide)) | (with_reducible refine Has.alloc ?_ _) | ((with_reducible refine Has.putOther ?_ _ _ ?_); rotate_left; omega; skip) | ((with_reducible refine Has.below ?_ ?_); rotate_left; assumption)))); (· kernel_rfl))
    refine (l2Pour_any (pourT ns p q) q p _ hl hV hq hp HQP.out.1 HQP.out.2).mono ?_
    rintro e w3 ⟨rfl, b3⟩
    have R3 := Has.box w3 28 hl2 (by omega)
    have H3 := (H2.below b3).alloc (.cells (ints (pourT (pourT ns p q) q p)).toArray 28)
    have HB3 := Lib.hid ((HB2.out.call b3).alloc (.cells (ints (pourT (pourT ns p q) q p)).toArray 28))
    have EQ := Lib.hid (eqRackT (pourT (pourT ns p q) q p) ns hl2 h24)
    have EM : Hid (Try.prog.eqGuardType Try.prog.depth 28 = false) := Lib.hid (by kernel_rfl)
    clear R2 H2 HB2 b3
    generalize hT : pourT (pourT ns p q) q p = T at *
    have HT := Lib.hid hT
    clear hT
    go_wp2_with (first | (refine store_new rfl 28 _ _ rfl _ _ _ rfl _ rfl _ rfl rfl ?_ ?_ ?_; (· (first | assumption | rfl)); (· kernel_rfl)) | (refine load_has rfl 28 _ rfl _ rfl ?_ 24 ?_ _ Try.underlying28 rfl ?_ ?_; rotate_left; (· (repeat (first | (with_reducible assumption) | ((with_reducible refine Has.box _ _ ?_ ?_) <;> (first | assumption | decide)) | (with_reducible refine Has.alloc ?_ _) | ((with_reducible refine Has.putOther ?_ _ _ ?_); rotate_left; omega; skip) | ((with_reducible refine Has.below ?_ ?_); rotate_left; assumption)))); (· kernel_rfl)) | (refine eql_has rfl 28 28 _ _ rfl T ns rfl rfl EM.out EQ.out ?_))
    go_ret
    exact ⟨by rw [E1.out]; rfl, HB3.out⟩
  · have hf : pourOk (pourT ns p q) (q : Int) (p : Int) = false := by simpa using hc
    have E1 := Lib.hid (show undB ns p q = false by rw [E0.out, hf]; rfl)
    rw [hf]
    clear hf hc
    go_wp2_with fail
    go_ret
    exact ⟨by rw [E1.out]; rfl, HB2.out⟩

set_option maxHeartbeats 1600000 in
theorem specIsUndone (ns : List Int) (i j : Int) (w : World) (h24 : ns.length = 24) :
    Calls Try.prog 31 #[row ns, .int .i64 i, .int .i64 j] w fun e w' => e = .returned (.tuple #[.bool (undB ns i j), .bool (pourOk ns i j)]) ∧ Kept w w' := by
  have HB := Lib.hid ((kept_refl w).alloc (.cells (ints ns).toArray 28))
  have H := Has.box w 28 h24 (by omega)
  have NO := Lib.hid (show pourOk ns i j = false → undB ns i j = false from fun h => by unfold undB; rw [h]; rfl)
  rw [row_ints]
  go_enter Try.func31, Try.ntmps31
  go_wp2_with (refine load_has rfl 28 _ rfl _ rfl ?_ 24 ?_ _ Try.underlying28 rfl ?_ ?_; rotate_left; (· (repeat (first | (with_reducible assumption) | ((with_reducible refine Has.box _ _ ?_ ?_) <;> (first | assumption | decide)) | (with_reducible refine Has.alloc ?_ _) | ((with_reducible refine Has.putOther ?_ _ _ ?_); rotate_left; omega; skip) | ((with_reducible refine Has.below ?_ ?_); rotate_left; assumption)))); (· kernel_rfl))
  refine (l2Rack_any ns _ h24).mono ?_
  rintro e w1 ⟨rfl, b1⟩
  have H1 := H.below b1
  have HB1 := Lib.hid (HB.out.call b1)
  clear H HB b1
  by_cases hv : vR ns = true
  · rw [hv]
    have HV := Lib.hid hv
    clear hv
    go_wp2_with fail
    refine (l2Place_any i _).mono ?_
    rintro e w' ⟨rfl, rfl⟩
    by_cases hp : 0 ≤ i ∧ i < 6
    · rw [decide_eq_true hp]
      obtain ⟨p, rfl⟩ : ∃ p : Nat, i = (p : Int) := ⟨i.toNat, by omega⟩
      have hp6 : p < 6 := by omega
      clear hp
      go_wp2_with fail
      refine (l2Place_any j _).mono ?_
      rintro e w' ⟨rfl, rfl⟩
      by_cases hq : 0 ≤ j ∧ j < 6
      · rw [decide_eq_true hq]
        obtain ⟨q, rfl⟩ : ∃ q : Nat, j = (q : Int) := ⟨j.toNat, by omega⟩
        have hq6 : q < 6 := by omega
        clear hq
        go_wp2_with (refine load_has rfl 28 _ rfl _ rfl ?_ 24 ?_ _ Try.underlying28 rfl ?_ ?_; rotate_left; (· (repeat (first | (with_reducible assumption) | ((with_reducible refine Has.box _ _ ?_ ?_) <;> (first | assumption | decide)) | (with_reducible refine Has.alloc ?_ _) | ((with_reducible refine Has.putOther ?_ _ _ ?_); rotate_left; omega; skip) | ((with_reducible refine Has.below ?_ ?_); rotate_left; assumption)))); (· kernel_rfl))
        refine (l2Can_any ns p q _ h24 HV.out hp6 hq6).mono ?_
        rintro e w2 ⟨rfl, b2⟩
        have H2 := H1.below b2
        have HB2 := Lib.hid (HB1.out.call b2)
        rw [← pourOk_two HV.out hp6 hq6]
        clear H1 HB1 b2
        by_cases hc : pourOk ns (p : Int) (q : Int) = true
        · have O := Lib.hid hc
          rw [hc]
          clear hc
          go_wp2_with (refine load_has rfl 28 _ rfl _ rfl ?_ 24 ?_ _ Try.underlying28 rfl ?_ ?_; rotate_left; (· (repeat (first | (with_reducible assumption) | ((with_reducible refine Has.box _ _ ?_ ?_) <;> (first | assumption | decide)) | (with_reducible refine Has.alloc ?_ _) | ((with_reducible refine Has.putOther ?_ _ _ ?_); rotate_left; omega; skip) | ((with_reducible refine Has.below ?_ ?_); rotate_left; assumption)))); (· kernel_rfl))
          refine (l5Undone_any ns p q _ h24 HV.out hp6 hq6 O.out).mono ?_
          rintro e w3 ⟨rfl, b3⟩
          have HB3 := Lib.hid (HB2.out.call b3)
          clear HB2 b3 H2
          go_wp2_with fail
          go_ret2
          exact ⟨by rw [O.out]; rfl, HB3.out⟩
        · have hf : pourOk ns (p : Int) (q : Int) = false := by simpa using hc
          have O := Lib.hid hf
          rw [hf]
          clear hf hc
          go_wp2_with fail
          go_ret2
          exact ⟨by rw [O.out, NO.out O.out]; rfl, HB2.out⟩
      · rw [decide_eq_false hq]
        have O := Lib.hid (pourOk_not (twoOk_not (ns := ns) (i := (p : Int)) (j := j) fun h => hq h.2.2.1))
        clear hq
        go_wp2_with fail
        go_ret2
        exact ⟨by rw [O.out, NO.out O.out]; rfl, HB1.out⟩
    · rw [decide_eq_false hp]
      have O := Lib.hid (pourOk_not (twoOk_not (ns := ns) (i := i) (j := j) fun h => hp h.2.1))
      clear hp
      go_wp2_with fail
      go_ret2
      exact ⟨by rw [O.out, NO.out O.out]; rfl, HB1.out⟩
  · have hf : vR ns = false := by simpa using hv
    have O := Lib.hid (pourOk_not (twoOk_not (ns := ns) (i := i) (j := j) fun h => hv h.1))
    rw [hf]
    clear hv hf
    go_wp2_with fail
    go_ret2
    exact ⟨by rw [O.out, NO.out O.out]; rfl, HB1.out⟩

set_option maxHeartbeats 800000 in
theorem implIsUndone (ns : List Int) (i j : Int) (w : World) (h24 : ns.length = 24) :
    Calls Try.prog 32 #[row ns, .int .i64 i, .int .i64 j] w fun e w' => e = .returned (.tuple #[.bool (undB ns i j), .bool (pourOk ns i j)]) ∧ Kept w w' := by
  have HB := Lib.hid ((kept_refl w).alloc (.cells (ints ns).toArray 28))
  have H := Has.box w 28 h24 (by omega)
  have NO := Lib.hid (show pourOk ns i j = false → undB ns i j = false from fun h => by unfold undB; rw [h]; rfl)
  rw [row_ints]
  go_enter Try.func32, Try.ntmps32
  go_wp2_with (refine load_has rfl 28 _ rfl _ rfl ?_ 24 ?_ _ Try.underlying28 rfl ?_ ?_; rotate_left; (· (repeat (first | (with_reducible assumption) | ((with_reducible refine Has.box _ _ ?_ ?_) <;> (first | assumption | decide)) | (with_reducible refine Has.alloc ?_ _) | ((with_reducible refine Has.putOther ?_ _ _ ?_); rotate_left; omega; skip) | ((with_reducible refine Has.below ?_ ?_); rotate_left; assumption)))); (· kernel_rfl))
  refine (implCanPour ns i j _ h24).mono ?_
  rintro e w1 ⟨rfl, b1⟩
  rw [← pourOk_can]
  have H1 := H.below b1
  have HB1 := Lib.hid (HB.out.call b1)
  clear H HB b1
  by_cases hc : pourOk ns i j = true
  · have O := Lib.hid hc
    rw [hc]
    clear hc
    go_wp2_with (refine load_has rfl 28 _ rfl _ rfl ?_ 24 ?_ _ Try.underlying28 rfl ?_ ?_; rotate_left; (· (repeat (first | (with_reducible assumption) | ((with_reducible refine Has.box _ _ ?_ ?_) <;> (first | assumption | decide)) | (with_reducible refine Has.alloc ?_ _) | ((with_reducible refine Has.putOther ?_ _ _ ?_); rotate_left; omega; skip) | ((with_reducible refine Has.below ?_ ?_); rotate_left; assumption)))); (· kernel_rfl))
    refine (pourTrip_any ns i j 0 _ h24).mono ?_
    rintro e w2 ⟨rfl, b2⟩
    have e0 : (pourOk ns i j && (pourOk (pourR ns i j) j i && decide (pourR (pourR ns i j) j i = ns))) = undB ns i j := rfl
    rw [e0]
    have HB2 := Lib.hid ((HB1.out.call b2).alloc (.cells (ints (pourR ns i j)).toArray 28))
    have hl := pourR_len h24 i j
    clear HB1 b2 H1 e0
    generalize hU : undB ns i j = U at *
    have HU := Lib.hid hU
    clear hU
    go_wp2_with (refine store_new rfl 28 _ _ rfl _ _ _ rfl _ rfl _ rfl rfl ?_ ?_ ?_; (· (first | assumption | rfl)); (· kernel_rfl))
    go_ret2
    exact ⟨by rw [O.out, HU.out]; rfl, HB2.out⟩
  · have hf : pourOk ns i j = false := by simpa using hc
    have O := Lib.hid hf
    rw [hf]
    clear hf hc
    go_wp2_with fail
    go_ret2
    exact ⟨by rw [O.out, NO.out O.out]; rfl, HB1.out⟩

theorem lawIsUndone (ns : List Int) (i : Int) (j : Int) (w : World) (h0 : ns.length = 24 ∧ ∀ n ∈ ns, (Lit.int .i64 n).wf = true) (fi : (Lit.int .i64 i).wf = true) (fj : (Lit.int .i64 j).wf = true) :
    Calls Try.prog 9 #[row ns, .int .i64 i, .int .i64 j] w fun e w' => e = .returned (.bool true) ∧ Kept w w' := by
  have h24 := h0.1
  clear h0 fi fj
  have HB := Lib.hid ((kept_refl w).alloc (.cells (ints ns).toArray 25))
  have H := Has.box w 25 h24 (by omega)
  rw [row_ints]
  go_enter Try.func9, Try.ntmps9
  go_wp2_with (refine load_has rfl 25 _ rfl _ rfl ?_ 24 ?_ _ Try.underlying25 rfl ?_ ?_; rotate_left; (· (repeat (first | (with_reducible assumption) | ((with_reducible refine Has.box _ _ ?_ ?_) <;> (first | assumption | decide)) | (with_reducible refine Has.alloc ?_ _) | ((with_reducible refine Has.putOther ?_ _ _ ?_); rotate_left; omega; skip) | ((with_reducible refine Has.below ?_ ?_); rotate_left; assumption)))); (· kernel_rfl))
  refine (toRack_any ns _ h24).mono ?_
  rintro e w1 ⟨rfl, b1⟩
  have H1 := H.below b1
  have HB1 := Lib.hid (HB.out.call b1)
  clear H HB b1
  go_wp2_with fail
  refine (specIsUndone ns i j _ h24).mono ?_
  rintro e w2 ⟨rfl, b2⟩
  have H2 := H1.below b2
  have HB2 := Lib.hid (HB1.out.call b2)
  clear H1 HB1 b2
  go_wp2_with (refine load_has rfl 25 _ rfl _ rfl ?_ 24 ?_ _ Try.underlying25 rfl ?_ ?_; rotate_left; (· (repeat (first | (with_reducible assumption) | ((with_reducible refine Has.box _ _ ?_ ?_) <;> (first | assumption | decide)) | (with_reducible refine Has.alloc ?_ _) | ((with_reducible refine Has.putOther ?_ _ _ ?_); rotate_left; omega; skip) | ((with_reducible refine Has.below ?_ ?_); rotate_left; assumption)))); (· kernel_rfl))
  refine (toRack_any ns _ h24).mono ?_
  rintro e w3 ⟨rfl, b3⟩
  have HB3 := Lib.hid (HB2.out.call b3)
  clear H2 HB2 b3
  go_wp2_with fail
  refine (implIsUndone ns i j _ h24).mono ?_
  rintro e w4 ⟨rfl, b4⟩
  have HB4 := Lib.hid (HB3.out.call b4)
  clear HB3 b4
  go_wp2_with fail
  go_ret
  exact ⟨rfl, HB4.out⟩
end Go.Proofs.Ythnkfdhnbafcjaa.base
