/-
  The exact law of PourBacks, walked.
-/
import Derived.Test.YthnkfdhnbafcjaaPBkI
import Derived.Test.YthnkfdhnbafcjaaSrcArg
namespace Go.Proofs.Ythnkfdhnbafcjaa.base
open Go.ChangeShapes Go.WideShapes Go.ChangeAt Go.RowKit
set_option linter.unusedVariables false
set_option linter.unusedSimpArgs false

theorem szSrcS (a : Option Addr) (len cap : Nat) (w : World) (h : len ≤ maxLen) :
    Calls Try.prog 22 #[.slice a len cap, .int .i64 1048576] w fun e w' => (∃ r : Int, e = .returned (.int .i64 r) ∧ (r < 0 ∨ (0 ≤ r ∧ len ≤ 1048576))) ∧ w' = w := by
  unfold maxLen at h
  by_cases hb : (1048576 : Int) - (len : Int) < 0
  · go_enter Try.func22, Try.ntmps22
    go_wp2_with fail
    go_ret
    exact ⟨⟨-1, rfl, .inl (by omega)⟩, rfl⟩
  · go_enter Try.func22, Try.ntmps22
    go_wp2_with fail
    go_ret
    exact ⟨⟨_, rfl, .inr ⟨by omega, by omega⟩⟩, rfl⟩
theorem infoSrc : (Try.prog.info? 32).map (fun i => (i.zero, i.size, i.bytes)) = some (some (.agg #[.int .i64 0, .int .i64 0, .int .i64 0]), 3, 24) := by kernel_rfl
def upT (xs ys : List Int) (k : Nat) : List Int := xs.take k ++ ys.drop k
theorem upT_set (xs ys : List Int) (k : Nat) (hx : k < xs.length) (hy : k < ys.length) : (upT xs ys k).set k (xs.getD k 0) = upT xs ys (k + 1) := by
  unfold upT
  have hl : (xs.take k).length = k := by rw [List.length_take]; omega
  rw [List.set_append_right _ _ (by omega), hl, Nat.sub_self, List.take_succ_eq_append_getElem hx, List.append_assoc]
  congr 1
  rw [List.drop_eq_getElem_cons hy, List.getD_eq_getElem?_getD, List.getElem?_eq_getElem hx]; rfl
theorem upT_three (xs ys : List Int) (n k : Nat) (hx : xs.length = n * 3) (hy : ys.length = n * 3) (hk : k < n) : (((upT xs ys (k * 3)).set (k * 3) (xs.getD (k * 3) 0)).set (k * 3 + 1) (xs.getD (k * 3 + 1) 0)).set (k * 3 + 2) (xs.getD (k * 3 + 2) 0) = upT xs ys ((k + 1) * 3) := by
  rw [upT_set xs ys (k * 3) (by omega) (by omega), upT_set xs ys (k * 3 + 1) (by omega) (by omega), upT_set xs ys (k * 3 + 1 + 1) (by omega) (by omega), show (k + 1) * 3 = k * 3 + 1 + 1 + 1 by omega]
theorem made_zero3 (n : Nat) : (madeCells (Value.agg #[.int .i64 0, .int .i64 0, .int .i64 0]).cells n).toList = ints (List.replicate n 0) := by
  have h : ∀ j : Nat, (#[Value.int .i64 0, Value.int .i64 0, Value.int .i64 0] : Array Value)[j % 3]! = .int .i64 0 := fun j => by
    have : j % 3 = 0 ∨ j % 3 = 1 ∨ j % 3 = 2 := by omega
    rcases this with h | h | h <;> rw [h] <;> rfl
  have e : (Value.agg #[.int .i64 0, .int .i64 0, .int .i64 0]).cells = #[Value.int .i64 0, Value.int .i64 0, Value.int .i64 0] := rfl
  rw [e]
  apply List.ext_getElem?
  intro j
  unfold madeCells ints
  by_cases hj : j < n
  · simp [hj, h]
  · simp [hj]
theorem range_three {w : World} {g o : Nat} {A B C : Value} (h0 : w.cell? ⟨g, o, none⟩ = some A) (h1 : w.cell? ⟨g, o + 1, none⟩ = some B) (h2 : w.cell? ⟨g, o + 2, none⟩ = some C) : w.rangeAt g o [A, B, C] := by
  intro j v hv
  match j, hv with
  | 0, hv => simp at hv; subst hv; exact h0
  | 1, hv => simp at hv; subst hv; exact h1
  | 2, hv => simp at hv; subst hv; exact h2
  | j + 3, hv => simp at hv
theorem Tri.put {w : World} {b g cap n : Nat} {fs : List Int} (h : Tri w b (.slice (some ⟨g, 0, Option.none⟩) n cap) n fs) (k : Nat) (x y z : Int) :
    Tri (w.setCells g (k * 3) (ints [x, y, z])) b (.slice (some ⟨g, 0, Option.none⟩) n cap) n (((fs.set (k * 3) x).set (k * 3 + 1) y).set (k * 3 + 2) z) := by
  obtain ⟨a1, _⟩ := Tri.stored h (k * 3) x
  obtain ⟨b1, _⟩ := Tri.stored a1 (k * 3 + 1) y
  exact (Tri.stored b1 (k * 3 + 2) z).1
theorem Tri.there {w : World} {b g cap n : Nat} {fs : List Int} (h : Tri w b (.slice (some ⟨g, 0, Option.none⟩) n cap) n fs) (k : Nat) (hk : k < n) : w.there g (k * 3) 3 := fun j hj => by
  rw [h.cell (k * 3 + j) (by omega)]
  exact ⟨rfl, World.ownsRow.frozenAt h _⟩

set_option maxHeartbeats 1600000 in
theorem toSrcS (a : Option Addr) (len cap : Nat) (zs : List Int) (w : World) (h : IsTris w a len zs) (hl : len ≤ 1048576) :
    Calls Try.prog 24 #[.slice a len cap] w fun e w' => ∃ v : Value, e = .returned v ∧ Tri w' w.heap.size v len zs ∧ Kept w w' := by
  obtain ⟨i0, hi, hz0, hz1, hz2⟩ := info_parts infoSrc
  have HH := Lib.hid h
  clear h
  go_enter Try.func24, Try.ntmps24
  go_wp2_with (at_make; refine wpList_make_full w rfl _ _ 36 rfl w.heap.size 32 i0 (.agg #[.int .i64 0, .int .i64 0, .int .i64 0]) 3 Try.underlying36 hi hz0 hz1 .i64 .i64 _ _ len rfl rfl rfl rfl (by rw [hz2]; omega) (by unfold maxLen; omega) (Nat.le_refl _) ?_; intro w1 hown hgrow)
  rw [made_zero3] at hown
  have HB := Lib.hid ((Below.refl w.heap.size w).grown hgrow (Nat.le_refl _) (fun k e => by cases e))
  have HW : Hid (Tri w1 w.heap.size (.slice (some ⟨w.heap.size, 0, none⟩) len len) len (upT zs (List.replicate (len * 3) 0) (0 * 3))) := Lib.hid (by
    have e : upT zs (List.replicate (len * 3) 0) (0 * 3) = List.replicate (len * 3) 0 := by simp [upT]
    rw [e]; exact hown)
  clear hown hgrow
  go_loopw [4] (fun i wr => ∃ k : Nat, k ≤ len ∧ i = .int .i64 k ∧ Hid (Tri wr w.heap.size (.slice (some ⟨w.heap.size, 0, none⟩) len len) len (upT zs (List.replicate (len * 3) 0) (k * 3))) ∧ Hid (Kept w wr)) (fun i _ => len - (intOf i).toNat)
  case atStart => exact ⟨0, Nat.zero_le _, rfl, HW, HB⟩
  case round =>
    obtain ⟨k, hk, rfl, HR, HK⟩ := hrel
    by_cases hlt : k < len
    · obtain ⟨_, hzl, _, h0 | ⟨b, off, rfl, hbl, hc⟩⟩ := HH.out
      · omega
      · have hb := HK.out
        have r0 : wr.cell? ⟨b, off + k * 3, none⟩ = some (.int .i64 (zs.getD (k * 3) 0)) := (hb.cell (p := ⟨b, off + k * 3, none⟩) hbl).trans (hc (k * 3) (by omega))
        have r1 : wr.cell? ⟨b, off + k * 3 + 1, none⟩ = some (.int .i64 (zs.getD (k * 3 + 1) 0)) := by
          have := (hb.cell (p := ⟨b, off + (k * 3 + 1), none⟩) hbl).trans (hc (k * 3 + 1) (by omega))
          rwa [show off + (k * 3 + 1) = off + k * 3 + 1 by omega] at this
        have r2 : wr.cell? ⟨b, off + k * 3 + 2, none⟩ = some (.int .i64 (zs.getD (k * 3 + 2) 0)) := by
          have := (hb.cell (p := ⟨b, off + (k * 3 + 2), none⟩) hbl).trans (hc (k * 3 + 2) (by omega))
          rwa [show off + (k * 3 + 2) = off + k * 3 + 2 by omega] at this
        have RG := Lib.hid (range_three r0 r1 r2)
        have E2 := Lib.hid (upT_three zs (List.replicate (len * 3) 0) len k hzl (by simp) hlt)
        have i0' : (0 : Int) ≤ (k : Int) := by omega
        have i1' : (k : Int) < (len : Int) := by omega
        generalize zs.getD (k * 3) 0 = x at *
        generalize zs.getD (k * 3 + 1) 0 = y at *
        generalize zs.getD (k * 3 + 2) 0 = z at *
        clear hc hb r0 r1 r2 hz0 hz1 hz2 hi
        go_wp2_with (refine wpList_load_mid rfl 27 _ rfl b (off + k * 3) rfl (ints [x, y, z]) _ RG.out Try.underlying27 rfl (by kernel_rfl) ?_)
        refine (toSource_any [x, y, z] _ rfl).mono ?_
        rintro e w2 ⟨rfl, b2⟩
        have HR2 := HR.out.below b2
        have HT := Lib.hid (HR2.there k hlt)
        have p1 := HR2.put k x y z
        rw [E2.out] at p1
        have P1 := Lib.hid p1
        have HK2 := Lib.hid ((HK.out.call b2).puts (b := w.heap.size) (Nat.le_refl _) (k * 3) (ints [x, y, z]))
        clear p1 HR2 b2 HR HK RG
        go_wp2_with (refine store_has rfl 32 _ _ rfl w.heap.size (k * 3) [x, y, z] rfl rfl 3 rfl HT.out (by kernel_rfl) ?_)
        go_roundw
        case rel => exact ⟨k + 1, by omega, by go_num, P1, HK2⟩
        case measure => simp [intOf]; omega
    · obtain rfl : k = len := by omega
      have HF : Hid (Tri wr w.heap.size (.slice (some ⟨w.heap.size, 0, none⟩) k k) k zs) := Lib.hid (by
        have e : upT zs (List.replicate (k * 3) 0) (k * 3) = zs := by
          unfold upT; rw [List.take_of_length_le (by have := HH.out.2.1; omega), List.drop_of_length_le (by simp), List.append_nil]
        have := HR.out
        rwa [e] at this)
      clear HR
      go_wp2_with fail
      go_ret
      exact ⟨_, rfl, HF.out, HK.out⟩

set_option maxHeartbeats 1600000 in
set_option maxRecDepth 100000 in
theorem lawPourBacks (ns : List Int) (a : Option Addr) (len cap : Nat) (zs : List Int) (w : World) (h0 : ns.length = 24 ∧ ∀ n ∈ ns, (Lit.int .i64 n).wf = true) (hp : IsTris w a len zs) :
    Calls Try.prog 6 #[row ns, .slice a len cap] w fun e w' => e = .returned (.bool true) ∧ Kept w w' := by
  have h24 := h0.1
  clear h0
  have hml := hp.1
  have hl : (pbRA ns zs len).length = 24 := pbRA_len h24 zs len
  have HB := Lib.hid ((kept_refl w).alloc (.cells (ints ns).toArray 25))
  have H := Has.box w 25 h24 (by omega)
  have HP := Lib.hid hp
  clear hp
  rw [row_ints]
  go_enter Try.func6, Try.ntmps6
  go_wp2_with fail
  refine (szSrcS a len cap _ hml).mono ?_
  rintro e w0 ⟨⟨r, rfl, hr⟩, rfl⟩
  by_cases hneg : r < 0
  · clear hr
    go_wp2_with fail
    go_ret
    exact ⟨rfl, HB.out⟩
  · have hlen : len ≤ 1048576 := by omega
    have hneg2 : decide (r < 0) = false := by simpa using hneg
    clear hr
    go_wp2_with (refine load_has rfl 25 _ rfl _ rfl ?_ 24 ?_ _ Try.underlying25 rfl ?_ ?_; rotate_left; (· (repeat (first | (with_reducible assumption) | ((with_reducible refine Has.box _ _ ?_ ?_) <;> (first | assumption | decide)) | (with_reducible refine Has.alloc ?_ _) | ((with_reducible refine Has.putOther ?_ _ _ ?_); rotate_left; omega; skip) | ((with_reducible refine Has.below ?_ ?_); rotate_left; assumption)))); (· kernel_rfl))
    refine (toRack_any ns _ h24).mono ?_
    rintro e w1 ⟨rfl, b1⟩
    have H1 := H.below b1
    have HB1 := Lib.hid (HB.out.call b1)
    clear H HB b1
    go_wp2_with fail
    refine (toSrcS a len cap zs _ (HP.out.below HB1.out) hlen).mono ?_
    rintro e w2 ⟨v2, rfl, q2, b2⟩
    have H2 := H1.below b2
    have HB2 := Lib.hid (HB1.out.call b2)
    have Q2 := Lib.hid q2
    clear H1 HB1 b2 q2
    go_wp2_with fail
    refine (specPBk ns zs v2 len _ _ h24 hlen Q2.out).mono ?_
    rintro e w3 ⟨rfl, b3⟩
    have H3 := (H2.below b3).alloc (.cells (ints (pbRA ns zs len)).toArray 28)
    have R3 := Has.box w3 28 hl (by omega)
    have HB3 := Lib.hid ((HB2.out.call b3).alloc (.cells (ints (pbRA ns zs len)).toArray 28))
    clear H2 HB2 b3 Q2
    go_wp2_with (refine store_new rfl 28 _ _ rfl _ _ _ rfl _ rfl _ rfl rfl ?_ ?_ ?_; (· (first | assumption | rfl)); (· kernel_rfl))
    refine (toSrcS a len cap zs _ (HP.out.below HB3.out) hlen).mono ?_
    rintro e w4 ⟨v4, rfl, q4, b4⟩
    have H4 := H3.below b4
    have R4 := R3.below b4
    have HB4 := Lib.hid (HB3.out.call b4)
    have Q4 := Lib.hid q4
    clear H3 R3 HB3 b4 q4
    go_wp2_with (refine load_has rfl 25 _ rfl _ rfl ?_ 24 ?_ _ Try.underlying25 rfl ?_ ?_; rotate_left; (· (repeat (first | (with_reducible assumption) | ((with_reducible refine Has.box _ _ ?_ ?_) <;> (first | assumption | decide)) | (with_reducible refine Has.alloc ?_ _) | ((with_reducible refine Has.putOther ?_ _ _ ?_); rotate_left; omega; skip) | ((with_reducible refine Has.below ?_ ?_); rotate_left; assumption)))); (· kernel_rfl))
    refine (toRack_any ns _ h24).mono ?_
    rintro e w5 ⟨rfl, b5⟩
    have R5 := R4.below b5
    have HB5 := Lib.hid (HB4.out.call b5)
    have Q5 := Lib.hid (Q4.out.below b5)
    clear H4 R4 HB4 b5 Q4
    go_wp2_with fail
    refine (implPBk ns zs v4 len _ _ h24 hlen Q5.out).mono ?_
    rintro e w6 ⟨rfl, b6⟩
    have R6 := (R5.below b6).alloc (.cells (ints (pbRA ns zs len)).toArray 28)
    have S6 := Has.box w6 28 hl (by omega)
    have HB6 := Lib.hid ((HB5.out.call b6).alloc (.cells (ints (pbRA ns zs len)).toArray 28))
    have Q6 := Lib.hid ((Q5.out.below b6).alloc (.cells (ints (pbRA ns zs len)).toArray 28))
    clear R5 HB5 b6 Q5
    go_wp2_with (first | (refine store_new rfl 28 _ _ rfl _ _ _ rfl _ rfl _ rfl rfl ?_ ?_ ?_; (· (first | assumption | rfl)); (· kernel_rfl)) | (refine load_has rfl 28 _ rfl _ rfl ?_ 24 ?_ _ Try.underlying28 rfl ?_ ?_; rotate_left; (· (repeat (first | (with_reducible assumption) | ((with_reducible refine Has.box _ _ ?_ ?_) <;> (first | assumption | decide)) | (with_reducible refine Has.alloc ?_ _) | ((with_reducible refine Has.putOther ?_ _ _ ?_); rotate_left; omega; skip) | ((with_reducible refine Has.below ?_ ?_); rotate_left; assumption)))); (· kernel_rfl)))
    refine (eqRack_same (pbRA ns zs len) _ hl).mono ?_
    rintro e w7 ⟨rfl, b7⟩
    have HB7 := Lib.hid (HB6.out.call b7)
    have Q7 := Lib.hid (Q6.out.below b7)
    clear R6 S6 HB6 b7 Q6
    go_wp2_with fail
    refine (toSrcS a len cap zs _ (HP.out.below HB7.out) hlen).mono ?_
    rintro e w8 ⟨v8, rfl, q8, b8⟩
    have HB8 := Lib.hid (HB7.out.call b8)
    have Q8 := Lib.hid (Q7.out.below b8)
    have P8 := Lib.hid q8
    clear HB7 b8 Q7 q8
    go_wp2_with fail
    refine (eqSourceS_same v4 v8 _ _ len zs _ hlen Q8.out P8.out).mono ?_
    rintro e w9 ⟨rfl, b9⟩
    have HB9 := Lib.hid (HB8.out.call b9)
    clear HB8 b9
    go_wp2_with fail
    go_ret
    exact ⟨rfl, HB9.out⟩
end Go.Proofs.Ythnkfdhnbafcjaa.base
