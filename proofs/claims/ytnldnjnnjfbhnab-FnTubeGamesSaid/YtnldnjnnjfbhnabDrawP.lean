/-
  A pour is drawn, walked; and what the law asks of a code's length.
-/
import Derived.Test.YtnldnjnnjfbhnabSwapZ
import Derived.Test.YtnldnjnnjfbhnabPoursZ
import Derived.Test.YtnldnjnnjfbhnabSortZ
namespace Go.Proofs.Ytnldnjnnjfbhnab.base
open Go.ChangeShapes Go.WideShapes Go.ChangeAt Go.RowKit
open Go.Proofs.Ytnldnjnnjfbhnab.cur
set_option linter.unusedVariables false
set_option linter.unusedSimpArgs false

set_option maxHeartbeats 800000 in
theorem place_any (c k : Nat) (w : World) (h : Cur w c k) (hk : k < 1000000) :
    Calls Try.prog 87 #[.pointer (some ⟨c, 0, none⟩)] w fun e w' => ∃ z : Int, e = .returned (.int .i64 z) ∧ Cur w' c (k + 10) ∧ Moved c w w' := by
  have HC := Lib.hid h
  clear h
  go_enter Try.func87, Try.ntmps87
  go_wp2_with fail
  refine (one_any c _ 40 _ HC.out (by omega) (by omega) (by omega)).mono ?_
  rintro e w1 ⟨t, rfl, c1, m1⟩
  have C1 := Lib.hid c1
  have M1 := Lib.hid m1
  clear c1 m1
  cases t with
  | true =>
    go_wp2_with fail
    refine (among_at (fun _ => True) _ _ 3 _ _ _ _ rfl C1.out (by omega) rfl (by omega) (by omega) (anyInts _ rfl)).mono ?_
    rintro e w2 ⟨z, rfl, _, c2, m2⟩
    have C2 := Lib.hid (c2.mono (m := k + 10) (by omega))
    have M2 := Lib.hid (M1.out.trans m2)
    clear c2 m2
    go_wp2_with fail
    go_ret
    exact ⟨_, rfl, C2.out, M2.out⟩
  | false =>
    go_wp2_with fail
    refine (pick_any c _ 6 _ C1.out (by omega) (by omega) (by omega)).mono ?_
    rintro e w2 ⟨z, rfl, _, _, c2, m2⟩
    have C2 := Lib.hid (c2.mono (m := k + 10) (by omega))
    have M2 := Lib.hid (M1.out.trans m2)
    clear c2 m2
    go_wp2_with fail
    go_ret
    exact ⟨_, rfl, C2.out, M2.out⟩

theorem buildPair (x y : Int) (w : World) : (Instr.build 36 #[(0, .int .i64 x), (1, .int .i64 y)]).run Try.prog w = .ok (.agg (ints [x, y]).toArray) w := run_build w _ _ _ (by kernel_rfl)
theorem Prs.moved {c : Nat} {w w' : World} {b : Nat} {v : Value} {n : Nat} {fs : List Int} (h : Prs w b v n fs) (m : Moved c w w') (hc : c < b) : Prs w' b v n fs := moved_row h m hc
theorem Cur.call {c k : Nat} {w w' : World} (h : Cur w c k) (m : Below w.heap.size w w') : Cur w' c k := h.below m
theorem Moved.call {c : Nat} {w w' w2 : World} (h : Moved c w w') (m : Below w'.heap.size w' w2) : Moved c w w2 := h.trans (moved_of_below m)

set_option maxHeartbeats 1600000 in
set_option maxRecDepth 100000 in
theorem pour_any (c k : Nat) (ns : List Int) (w : World) (h24 : ns.length = 24) (h : Cur w c k) (hk : k < 900000) :
    Calls Try.prog 68 #[.pointer (some ⟨c, 0, none⟩), row ns] w fun e w' => ∃ x y : Int, e = .returned (.agg (ints [x, y]).toArray) ∧ Cur w' c (k + 100) ∧ Moved c w w' := by
  have hcw := h.lt
  have H0 := (Has.box w 27 h24 (by omega)).alloc (.cells #[.int .i64 0, .int .i64 0] 36)
  have R0 := (Has.box (ns := [0, 0]) (n := 2) (w.alloc (.cells (ints ns).toArray 27)) 36 rfl (by omega)).at (size1 _ _)
  have C0 := Lib.hid (Cur.alloc (Cur.alloc h (.cells (ints ns).toArray 27)) (.cells #[.int .i64 0, .int .i64 0] 36))
  have M0 := Lib.hid (Moved.alloc (Moved.alloc (Moved.refl c w) (.cells (ints ns).toArray 27)) (.cells #[.int .i64 0, .int .i64 0] 36))
  clear h
  rw [row_ints]
  go_enter Try.func68, Try.ntmps68
  go_wp2_with (refine load_has rfl 27 _ rfl _ rfl ?_ 24 ?_ _ Try.underlying27 rfl ?_ ?_; rotate_left; (· (repeat (first | (with_reducible assumption) | ((with_reducible refine Has.box _ _ ?_ ?_) <;> (first | assumption | decide)) | (with_reducible refine Has.alloc ?_ _) | ((with_reducible refine Has.putOther ?_ _ _ ?_); rotate_left; omega; skip) | ((with_reducible refine Has.below ?_ ?_); rotate_left; assumption)))); (· kernel_rfl))
  refine (l2Rack_any ns _ h24).mono ?_
  rintro e w1 ⟨rfl, b1⟩
  have H1 := H0.below b1
  have R1 := R0.below b1
  have C1 := Lib.hid (C0.out.below b1)
  have M1 := Lib.hid (Moved.call M0.out b1)
  clear H0 R0 C0 M0 b1
  have FIN : ∀ (W : World), Has W (w.heap.size + 1) [0, 0] 2 → Cur W c (k + 10) → Moved c w W → ∀ K : Ending → World → Prop, True := fun _ _ _ _ _ => trivial
  clear FIN
  by_cases hv : vR ns = true
  case' pos =>
    rw [hv]
    have HV := Lib.hid hv
    clear hv
    go_wp2_with fail
    refine (one_any c _ 3 _ C1.out (by omega) (by omega) (by omega)).mono ?_
    rintro e w2 ⟨t, rfl, c2, m2⟩
    have H2 := H1.moved m2 (by omega)
    have R2 := R1.moved m2 (by omega)
    have C2 := Lib.hid (c2.mono (m := k + 10) (by omega))
    have M2 := Lib.hid (M1.out.trans m2)
    clear H1 R1 C1 M1 c2 m2
    cases t
    case' false =>
      go_wp2_with (refine load_has rfl 27 _ rfl _ rfl ?_ 24 ?_ _ Try.underlying27 rfl ?_ ?_; rotate_left; (· (repeat (first | (with_reducible assumption) | ((with_reducible refine Has.box _ _ ?_ ?_) <;> (first | assumption | decide)) | (with_reducible refine Has.alloc ?_ _) | ((with_reducible refine Has.putOther ?_ _ _ ?_); rotate_left; omega; skip) | ((with_reducible refine Has.below ?_ ?_); rotate_left; assumption)))); (· kernel_rfl))
      refine (l2Pours_any ns _ h24 HV.out).mono ?_
      rintro e w3 ⟨v, rfl, p3, b3⟩
      have R3 := R2.below b3
      have C3 := Lib.hid (C2.out.below b3)
      have M3 := Lib.hid (Moved.call M2.out b3)
      have P3 := Lib.hid p3
      have hs2 := C2.out.lt
      have hN := poursN_le ns 36
      clear H2 R2 C2 M2 b3
      generalize poursN ns 36 = n at *
      generalize poursF ns 36 = fs at *
      rcases n with _ | n
      rotate_left
      case' succ =>
        obtain ⟨g, cap, rfl, hg, _⟩ := p3.form (by omega)
        clear p3
        have n0 : (0 : Int) < (n : Int) + 1 := by omega
        have n0' : (0 : Int) < ((n + 1 : Nat) : Int) := by omega
        go_wp2_with fail
        refine (pick_any c _ ((n : Int) + 1) _ C3.out (by omega) (by omega) (by omega)).mono ?_
        rintro e w4 ⟨z, rfl, z0, z1, c4, m4⟩
        obtain ⟨q, rfl⟩ : ∃ q : Nat, z = (q : Int) := ⟨z.toNat, by omega⟩
        have hq : q < n + 1 := by omega
        have P4 := P3.out.moved m4 (by omega)
        have R4 := R3.moved m4 (by omega)
        have RG : Hid (w4.rangeAt g (q * 2) (ints [fs.getD (q * 2) 0, fs.getD (q * 2 + 1) 0])) := Lib.hid (range_two (P4.cell (q * 2) (by omega)) (P4.cell (q * 2 + 1) (by omega)))
        generalize fs.getD (q * 2) 0 = x at *
        generalize fs.getD (q * 2 + 1) 0 = y at *
        have S1 := Lib.hid (R4.putAll [x, y] rfl)
        have S2 := Lib.hid (Cur.puts (c4.mono (m := k + 100) (by omega)) (b := w.heap.size + 1) 0 (ints [x, y]) (by omega))
        have S3 := Lib.hid (Moved.puts (M3.out.trans m4) (b := w.heap.size + 1) (by omega) 0 (ints [x, y]))
        clear P3 P4 R3 C3 M3 c4 m4
        have hl2 : ([x, y] : List Int).length = 2 := rfl
        go_wp2_with (first | (refine wpList_load_mid rfl 36 _ rfl g (q * 2) rfl (ints [x, y]) _ RG.out Try.underlying36 rfl (by kernel_rfl) ?_) | (refine store_at rfl 36 _ _ rfl _ _ rfl rfl ?_ 2 ?_ ?_ ?_ ?_; rotate_left; (· (repeat (first | (with_reducible assumption) | ((with_reducible refine Has.box _ _ ?_ ?_) <;> (first | assumption | decide)) | (with_reducible refine Has.alloc ?_ _) | ((with_reducible refine Has.putOther ?_ _ _ ?_); rotate_left; omega; skip) | ((with_reducible refine Has.below ?_ ?_); rotate_left; assumption)))); (· (first | assumption | rfl)); (· kernel_rfl)))
        exact bodyPost_ret (res_has (P := Try.prog) rfl _ _ (w.heap.size + 1) [x, y] 2 _ rfl S1.out Try.underlying36 rfl (by kernel_rfl)) rfl ⟨x, y, rfl, S2.out, S3.out⟩
      case' zero =>
        obtain ⟨a, cap, rfl⟩ := prs_zero p3
        clear p3 P3
        have RZ := R3
        have CZ := C3
        have MZ := M3
        go_wp2_with fail
    case' true =>
      have RZ := R2
      have CZ := C2
      have MZ := M2
      go_wp2_with fail
  case' neg =>
    have hf : vR ns = false := by simpa using hv
    rw [hf]
    clear hv hf
    have RZ := R1
    have CZ := Lib.hid (C1.out.mono (m := k + 10) (by omega))
    have MZ := M1
    go_wp2_with fail
  all_goals
    refine (place_any c _ _ CZ.out (by omega)).mono ?_
    rintro e w5 ⟨x, rfl, c5, m5⟩
    have R5 := RZ.moved m5 (by omega)
    have C5 := Lib.hid c5
    have M5 := Lib.hid (MZ.out.trans m5)
    clear RZ CZ MZ c5 m5
    go_wp2_with fail
    refine (place_any c _ _ C5.out (by omega)).mono ?_
    rintro e w6 ⟨y, rfl, c6, m6⟩
    have R6 := R5.moved m6 (by omega)
    have S1 := Lib.hid (R6.putAll [x, y] rfl)
    have S2 := Lib.hid (Cur.puts (c6.mono (m := k + 100) (by omega)) (b := w.heap.size + 1) 0 (ints [x, y]) (by omega))
    have S3 := Lib.hid (Moved.puts (M5.out.trans m6) (b := w.heap.size + 1) (by omega) 0 (ints [x, y]))
    have hl2 : ([x, y] : List Int).length = 2 := rfl
    have RT := R6.there
    clear R5 C5 M5 c6 m6
    go_wp2_with (refine guard_op (isStore 36) ?_ ?_; (· rfl); refine store_has rfl 36 _ _ rfl (w.heap.size + 1) 0 [x, y] ?_ ?_ 2 rfl RT ?_ ?_; (· kernel_rfl); (· kernel_rfl); (· kernel_rfl))
    exact bodyPost_ret (res_has (P := Try.prog) rfl _ _ (w.heap.size + 1) [x, y] 2 _ rfl S1.out Try.underlying36 rfl (by kernel_rfl)) rfl ⟨x, y, rfl, S2.out, S3.out⟩

/-- A pour of a rack is drawn of a code. -/
def DrawnPost (w : World) (e : Ending) (w' : World) : Prop := ∃ (ns : List Int) (x y : Int), e = .returned (.tuple #[.agg (ints ns).toArray, .int .i64 x, .int .i64 y]) ∧ ns.length = 24 ∧ Below w.heap.size w w'

set_option maxHeartbeats 400000 in
theorem rBig_any (a : Option Addr) (len cap : Nat) (w : World) (h : len ≤ maxLen) :
    Calls Try.prog 4 #[.slice a len cap] w fun e w' => e = .returned (.bool (decide ((65536 : Int) < (len : Int)))) ∧ w = w' := by
  go_enter Try.func4, Try.ntmps4
  go_wp2_with fail
  go_ret
  exact ⟨rfl, rfl⟩
end Go.Proofs.Ytnldnjnnjfbhnab.base
