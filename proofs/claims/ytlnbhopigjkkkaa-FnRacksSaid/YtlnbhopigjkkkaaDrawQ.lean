/-
  Racks with places, colors, other racks and texts are drawn, walked.
-/
import Derived.Test.YtlnbhopigjkkkaaDrawR
import Derived.Test.YtlnbhopigjkkkaaPours
import Derived.Test.YtlnbhopigjkkkaaPourS
import Derived.Test.YtlnbhopigjkkkaaText
import Derived.Laws.Concat
namespace Go.Proofs.Ytlnbhopigjkkkaa.base
open Go.ChangeShapes Go.WideShapes Go.ChangeAt Go.RowKit
open Go.Proofs.Ytlnbhopigjkkkaa.cur
set_option linter.unusedVariables false
set_option linter.unusedSimpArgs false

set_option maxHeartbeats 800000 in
theorem place_any (c k : Nat) (w : World) (h : Cur w c k) (hk : k < 1000000) :
    Calls Try.prog 42 #[.pointer (some ⟨c, 0, none⟩)] w fun e w' => ∃ z : Int, e = .returned (.int .i64 z) ∧ Cur w' c (k + 10) ∧ Moved c w w' := by
  have HC := Lib.hid h
  clear h
  go_enter Try.func42, Try.ntmps42
  go_wp2_with fail
  refine (one_any c _ 40 _ HC.out (by omega) (by omega) (by omega)).mono ?_
  rintro e w1 ⟨t, rfl, c1, m1⟩
  have C1 := Lib.hid c1
  have M1 := Lib.hid m1
  clear c1 m1
  cases t with
  | true =>
    go_wp2_with fail
    refine (among_at (fun _ => True) _ _ 3 _ _ _ _ rfl C1.out (by omega) rfl (by omega) (by omega) (anyInts _ rfl)).mono ?_
    rintro e w2 ⟨z, rfl, _, c2, m2⟩
    have C2 := Lib.hid (c2.mono (m := k + 10) (by omega))
    have M2 := Lib.hid (M1.out.trans m2)
    clear c2 m2
    go_wp2_with fail
    go_ret
    exact ⟨_, rfl, C2.out, M2.out⟩
  | false =>
    go_wp2_with fail
    refine (pick_any c _ 6 _ C1.out (by omega) (by omega) (by omega)).mono ?_
    rintro e w2 ⟨z, rfl, _, _, c2, m2⟩
    have C2 := Lib.hid (c2.mono (m := k + 10) (by omega))
    have M2 := Lib.hid (M1.out.trans m2)
    clear c2 m2
    go_wp2_with fail
    go_ret
    exact ⟨_, rfl, C2.out, M2.out⟩

set_option maxHeartbeats 800000 in
theorem color_any (c k : Nat) (w : World) (h : Cur w c k) (hk : k < 1000000) :
    Calls Try.prog 43 #[.pointer (some ⟨c, 0, none⟩)] w fun e w' => ∃ z : Int, e = .returned (.int .i64 z) ∧ Cur w' c (k + 10) ∧ Moved c w w' := by
  have HC := Lib.hid h
  clear h
  go_enter Try.func43, Try.ntmps43
  go_wp2_with fail
  refine (one_any c _ 40 _ HC.out (by omega) (by omega) (by omega)).mono ?_
  rintro e w1 ⟨t, rfl, c1, m1⟩
  have C1 := Lib.hid c1
  have M1 := Lib.hid m1
  clear c1 m1
  cases t with
  | true =>
    go_wp2_with fail
    refine (among_at (fun _ => True) _ _ 4 _ _ _ _ rfl C1.out (by omega) rfl (by omega) (by omega) (anyInts _ rfl)).mono ?_
    rintro e w2 ⟨z, rfl, _, c2, m2⟩
    have C2 := Lib.hid (c2.mono (m := k + 10) (by omega))
    have M2 := Lib.hid (M1.out.trans m2)
    clear c2 m2
    go_wp2_with fail
    go_ret
    exact ⟨_, rfl, C2.out, M2.out⟩
  | false =>
    go_wp2_with fail
    refine (among_at (fun n => 1 ≤ n ∧ n ≤ 5) _ _ 4 _ _ _ _ rfl C1.out (by omega) rfl (by omega) (by omega) ?_).mono ?_
    · intro v hv
      simp at hv
      rcases hv with rfl | rfl | rfl | rfl
      all_goals exact ⟨_, rfl, by omega, by omega⟩
    rintro e w2 ⟨x, rfl, hx, c2, m2⟩
    have C2 := Lib.hid c2
    have M2 := Lib.hid (M1.out.trans m2)
    clear c2 m2 M1 C1
    go_wp2_with fail
    refine (pick_any c _ x _ C2.out (by omega) (by omega) (by omega)).mono ?_
    rintro e w3 ⟨z, rfl, z0, z1, c3, m3⟩
    have C3 := Lib.hid (c3.mono (m := k + 10) (by omega))
    have M3 := Lib.hid (M2.out.trans m3)
    clear c3 m3
    go_wp2_with fail
    go_ret
    exact ⟨_, rfl, C3.out, M3.out⟩

/-- What a drawn rack with a place says. -/
def DrawnAt (w : World) (e : Ending) (w' : World) : Prop := ∃ (ns : List Int) (x : Int), e = .returned (.tuple #[.agg (ints ns).toArray, .int .i64 x]) ∧ ns.length = 24 ∧ Below w.heap.size w w'
def DrawnAt2 (w : World) (e : Ending) (w' : World) : Prop := ∃ (ns : List Int) (x y : Int), e = .returned (.tuple #[.agg (ints ns).toArray, .int .i64 x, .int .i64 y]) ∧ ns.length = 24 ∧ Below w.heap.size w w'

set_option maxHeartbeats 1600000 in
set_option maxRecDepth 100000 in
theorem drawLayers (a : Option Addr) (len cap : Nat) (w : World) (h : Code w a len) :
    Calls Try.prog 31 #[.slice a len cap] w (DrawnAt w) := by
  have B0 : Below w.heap.size w (w.alloc (.cells #[.int .i64 0, .int .i64 0, .int .i64 0, .int .i64 0, .int .i64 0, .int .i64 0, .int .i64 0, .int .i64 0, .int .i64 0, .int .i64 0, .int .i64 0, .int .i64 0, .int .i64 0, .int .i64 0, .int .i64 0, .int .i64 0, .int .i64 0, .int .i64 0, .int .i64 0, .int .i64 0, .int .i64 0, .int .i64 0, .int .i64 0, .int .i64 0] 27)) := (Below.refl _ _).alloc (Nat.le_refl _) _
  have R0 := (Has.zero24 w 27).alloc (.cells #[.slice a len cap, .int .i64 0, .int .u64 0] 69)
  have C0 := cur_new (cap := cap) (h.below B0)
  rw [size1] at C0
  have HC := Lib.hid C0
  have M0 := Lib.hid (((kept_refl w).alloc (.cells #[.int .i64 0, .int .i64 0, .int .i64 0, .int .i64 0, .int .i64 0, .int .i64 0, .int .i64 0, .int .i64 0, .int .i64 0, .int .i64 0, .int .i64 0, .int .i64 0, .int .i64 0, .int .i64 0, .int .i64 0, .int .i64 0, .int .i64 0, .int .i64 0, .int .i64 0, .int .i64 0, .int .i64 0, .int .i64 0, .int .i64 0, .int .i64 0] 27)).alloc (.cells #[.slice a len cap, .int .i64 0, .int .u64 0] 69))
  clear h B0 C0
  go_enter Try.func31, Try.ntmps31
  go_wp2_with fail
  refine (place_any (w.heap.size + 1) _ _ HC.out (by omega)).mono ?_
  rintro e w1 ⟨x, rfl, cc, mm⟩
  replace R0 := R0.moved mm (by omega)
  replace HC := Lib.hid cc
  replace M0 : Hid (Kept w w1) := Lib.hid (Moved.below M0.out mm (by omega) M0.out.size)
  clear cc mm
  go_wp2_with fail
  refine (rack_any (w.heap.size + 1) _ _ HC.out (by omega)).mono ?_
  rintro e w2 ⟨ns, rfl, hl, cc, mm⟩
  replace R0 := R0.moved mm (by omega)
  replace HC := Lib.hid cc
  replace M0 : Hid (Kept w w2) := Lib.hid (Moved.below M0.out mm (by omega) M0.out.size)
  clear cc mm
  have S1 := Lib.hid (R0.putAll ns hl)
  have S2 := Lib.hid (M0.out.puts (b := w.heap.size) (Nat.le_refl _) 0 (ints ns))
  clear HC M0
  go_wp2_with (refine guard_op (isStore 27) ?_ ?_; (· rfl); (refine store_at rfl 27 _ _ rfl _ _ rfl rfl ?_ 24 ?_ ?_ ?_ ?_; rotate_left; (· (repeat (first | (with_reducible assumption) | ((with_reducible refine Has.box _ _ ?_ ?_) <;> (first | assumption | decide)) | (with_reducible refine Has.alloc ?_ _) | ((with_reducible refine Has.putOther ?_ _ _ ?_); rotate_left; omega; skip) | ((with_reducible refine Has.below ?_ ?_); rotate_left; assumption)))); (· (first | assumption | rfl)); (· kernel_rfl)))
  exact bodyPost_ret (res_has1 rfl _ _ w.heap.size ns 24 _ (.int .i64 x) rfl rfl S1.out Try.underlying27 rfl (by kernel_rfl)) rfl ⟨ns, x, rfl, hl, S2.out⟩

set_option maxHeartbeats 1600000 in
set_option maxRecDepth 100000 in
theorem drawPut (a : Option Addr) (len cap : Nat) (w : World) (h : Code w a len) :
    Calls Try.prog 13 #[.slice a len cap] w (DrawnAt2 w) := by
  have B0 : Below w.heap.size w (w.alloc (.cells #[.int .i64 0, .int .i64 0, .int .i64 0, .int .i64 0, .int .i64 0, .int .i64 0, .int .i64 0, .int .i64 0, .int .i64 0, .int .i64 0, .int .i64 0, .int .i64 0, .int .i64 0, .int .i64 0, .int .i64 0, .int .i64 0, .int .i64 0, .int .i64 0, .int .i64 0, .int .i64 0, .int .i64 0, .int .i64 0, .int .i64 0, .int .i64 0] 27)) := (Below.refl _ _).alloc (Nat.le_refl _) _
  have R0 := (Has.zero24 w 27).alloc (.cells #[.slice a len cap, .int .i64 0, .int .u64 0] 69)
  have C0 := cur_new (cap := cap) (h.below B0)
  rw [size1] at C0
  have HC := Lib.hid C0
  have M0 := Lib.hid (((kept_refl w).alloc (.cells #[.int .i64 0, .int .i64 0, .int .i64 0, .int .i64 0, .int .i64 0, .int .i64 0, .int .i64 0, .int .i64 0, .int .i64 0, .int .i64 0, .int .i64 0, .int .i64 0, .int .i64 0, .int .i64 0, .int .i64 0, .int .i64 0, .int .i64 0, .int .i64 0, .int .i64 0, .int .i64 0, .int .i64 0, .int .i64 0, .int .i64 0, .int .i64 0] 27)).alloc (.cells #[.slice a len cap, .int .i64 0, .int .u64 0] 69))
  clear h B0 C0
  go_enter Try.func13, Try.ntmps13
  go_wp2_with fail
  refine (place_any (w.heap.size + 1) _ _ HC.out (by omega)).mono ?_
  rintro e w1 ⟨x, rfl, cc, mm⟩
  replace R0 := R0.moved mm (by omega)
  replace HC := Lib.hid cc
  replace M0 : Hid (Kept w w1) := Lib.hid (Moved.below M0.out mm (by omega) M0.out.size)
  clear cc mm
  go_wp2_with fail
  refine (color_any (w.heap.size + 1) _ _ HC.out (by omega)).mono ?_
  rintro e w2 ⟨y, rfl, cc, mm⟩
  replace R0 := R0.moved mm (by omega)
  replace HC := Lib.hid cc
  replace M0 : Hid (Kept w w2) := Lib.hid (Moved.below M0.out mm (by omega) M0.out.size)
  clear cc mm
  go_wp2_with fail
  refine (rack_any (w.heap.size + 1) _ _ HC.out (by omega)).mono ?_
  rintro e w3 ⟨ns, rfl, hl, cc, mm⟩
  replace R0 := R0.moved mm (by omega)
  replace HC := Lib.hid cc
  replace M0 : Hid (Kept w w3) := Lib.hid (Moved.below M0.out mm (by omega) M0.out.size)
  clear cc mm
  have S1 := Lib.hid (R0.putAll ns hl)
  have S2 := Lib.hid (M0.out.puts (b := w.heap.size) (Nat.le_refl _) 0 (ints ns))
  clear HC M0
  go_wp2_with (refine guard_op (isStore 27) ?_ ?_; (· rfl); (refine store_at rfl 27 _ _ rfl _ _ rfl rfl ?_ 24 ?_ ?_ ?_ ?_; rotate_left; (· (repeat (first | (with_reducible assumption) | ((with_reducible refine Has.box _ _ ?_ ?_) <;> (first | assumption | decide)) | (with_reducible refine Has.alloc ?_ _) | ((with_reducible refine Has.putOther ?_ _ _ ?_); rotate_left; omega; skip) | ((with_reducible refine Has.below ?_ ?_); rotate_left; assumption)))); (· (first | assumption | rfl)); (· kernel_rfl)))
  exact bodyPost_ret (res_has2 rfl _ _ w.heap.size ns 24 _ (.int .i64 x) (.int .i64 y) rfl rfl rfl S1.out Try.underlying27 rfl (by kernel_rfl)) rfl ⟨ns, x, y, rfl, hl, S2.out⟩

set_option maxHeartbeats 1600000 in
set_option maxRecDepth 100000 in
theorem drawSwap (a : Option Addr) (len cap : Nat) (w : World) (h : Code w a len) :
    Calls Try.prog 19 #[.slice a len cap] w (DrawnAt2 w) := by
  have B0 : Below w.heap.size w (w.alloc (.cells #[.int .i64 0, .int .i64 0, .int .i64 0, .int .i64 0, .int .i64 0, .int .i64 0, .int .i64 0, .int .i64 0, .int .i64 0, .int .i64 0, .int .i64 0, .int .i64 0, .int .i64 0, .int .i64 0, .int .i64 0, .int .i64 0, .int .i64 0, .int .i64 0, .int .i64 0, .int .i64 0, .int .i64 0, .int .i64 0, .int .i64 0, .int .i64 0] 27)) := (Below.refl _ _).alloc (Nat.le_refl _) _
  have R0 := (Has.zero24 w 27).alloc (.cells #[.slice a len cap, .int .i64 0, .int .u64 0] 69)
  have C0 := cur_new (cap := cap) (h.below B0)
  rw [size1] at C0
  have HC := Lib.hid C0
  have M0 := Lib.hid (((kept_refl w).alloc (.cells #[.int .i64 0, .int .i64 0, .int .i64 0, .int .i64 0, .int .i64 0, .int .i64 0, .int .i64 0, .int .i64 0, .int .i64 0, .int .i64 0, .int .i64 0, .int .i64 0, .int .i64 0, .int .i64 0, .int .i64 0, .int .i64 0, .int .i64 0, .int .i64 0, .int .i64 0, .int .i64 0, .int .i64 0, .int .i64 0, .int .i64 0, .int .i64 0] 27)).alloc (.cells #[.slice a len cap, .int .i64 0, .int .u64 0] 69))
  clear h B0 C0
  go_enter Try.func19, Try.ntmps19
  go_wp2_with fail
  refine (place_any (w.heap.size + 1) _ _ HC.out (by omega)).mono ?_
  rintro e w1 ⟨x, rfl, cc, mm⟩
  replace R0 := R0.moved mm (by omega)
  replace HC := Lib.hid cc
  replace M0 : Hid (Kept w w1) := Lib.hid (Moved.below M0.out mm (by omega) M0.out.size)
  clear cc mm
  go_wp2_with fail
  refine (place_any (w.heap.size + 1) _ _ HC.out (by omega)).mono ?_
  rintro e w2 ⟨y, rfl, cc, mm⟩
  replace R0 := R0.moved mm (by omega)
  replace HC := Lib.hid cc
  replace M0 : Hid (Kept w w2) := Lib.hid (Moved.below M0.out mm (by omega) M0.out.size)
  clear cc mm
  go_wp2_with fail
  refine (rack_any (w.heap.size + 1) _ _ HC.out (by omega)).mono ?_
  rintro e w3 ⟨ns, rfl, hl, cc, mm⟩
  replace R0 := R0.moved mm (by omega)
  replace HC := Lib.hid cc
  replace M0 : Hid (Kept w w3) := Lib.hid (Moved.below M0.out mm (by omega) M0.out.size)
  clear cc mm
  have S1 := Lib.hid (R0.putAll ns hl)
  have S2 := Lib.hid (M0.out.puts (b := w.heap.size) (Nat.le_refl _) 0 (ints ns))
  clear HC M0
  go_wp2_with (refine guard_op (isStore 27) ?_ ?_; (· rfl); (refine store_at rfl 27 _ _ rfl _ _ rfl rfl ?_ 24 ?_ ?_ ?_ ?_; rotate_left; (· (repeat (first | (with_reducible assumption) | ((with_reducible refine Has.box _ _ ?_ ?_) <;> (first | assumption | decide)) | (with_reducible refine Has.alloc ?_ _) | ((with_reducible refine Has.putOther ?_ _ _ ?_); rotate_left; omega; skip) | ((with_reducible refine Has.below ?_ ?_); rotate_left; assumption)))); (· (first | assumption | rfl)); (· kernel_rfl)))
  exact bodyPost_ret (res_has2 rfl _ _ w.heap.size ns 24 _ (.int .i64 x) (.int .i64 y) rfl rfl rfl S1.out Try.underlying27 rfl (by kernel_rfl)) rfl ⟨ns, x, y, rfl, hl, S2.out⟩

set_option maxHeartbeats 1600000 in
set_option maxRecDepth 100000 in
theorem drawRuns (a : Option Addr) (len cap : Nat) (w : World) (h : Code w a len) :
    Calls Try.prog 5 #[.slice a len cap] w (DrawnAt w) := by
  have R0 := Has.zero24 w 27
  have M0 := Lib.hid ((kept_refl w).alloc (.cells #[.int .i64 0, .int .i64 0, .int .i64 0, .int .i64 0, .int .i64 0, .int .i64 0, .int .i64 0, .int .i64 0, .int .i64 0, .int .i64 0, .int .i64 0, .int .i64 0, .int .i64 0, .int .i64 0, .int .i64 0, .int .i64 0, .int .i64 0, .int .i64 0, .int .i64 0, .int .i64 0, .int .i64 0, .int .i64 0, .int .i64 0, .int .i64 0] 27))
  have HC := Lib.hid (fun W (h : Code W a len) => drawLayers a len cap W h)
  have B0 : Below w.heap.size w (w.alloc (.cells #[.int .i64 0, .int .i64 0, .int .i64 0, .int .i64 0, .int .i64 0, .int .i64 0, .int .i64 0, .int .i64 0, .int .i64 0, .int .i64 0, .int .i64 0, .int .i64 0, .int .i64 0, .int .i64 0, .int .i64 0, .int .i64 0, .int .i64 0, .int .i64 0, .int .i64 0, .int .i64 0, .int .i64 0, .int .i64 0, .int .i64 0, .int .i64 0] 27)) := (Below.refl _ _).alloc (Nat.le_refl _) _
  have H1 := Lib.hid (h.below B0)
  clear h B0
  go_enter Try.func5, Try.ntmps5
  go_wp2_with fail
  refine (HC.out _ H1.out).mono ?_
  rintro e w1 ⟨ns, x, rfl, hl, b1⟩
  have R1 := R0.below b1
  have S1 := Lib.hid (R1.putAll ns hl)
  have S2 := Lib.hid ((M0.out.call b1).puts (b := w.heap.size) (Nat.le_refl _) 0 (ints ns))
  clear R0 M0 b1
  go_wp2_with (refine store_at rfl 27 _ _ rfl _ _ rfl rfl ?_ 24 ?_ ?_ ?_ ?_; rotate_left; (· (repeat (first | (with_reducible assumption) | ((with_reducible refine Has.box _ _ ?_ ?_) <;> (first | assumption | decide)) | (with_reducible refine Has.alloc ?_ _) | ((with_reducible refine Has.putOther ?_ _ _ ?_); rotate_left; omega; skip) | ((with_reducible refine Has.below ?_ ?_); rotate_left; assumption)))); (· (first | assumption | rfl)); (· kernel_rfl))
  exact bodyPost_ret (res_has1 rfl _ _ w.heap.size ns 24 _ (.int .i64 x) rfl rfl S1.out Try.underlying27 rfl (by kernel_rfl)) rfl ⟨ns, x, rfl, hl, S2.out⟩

set_option maxHeartbeats 1600000 in
set_option maxRecDepth 100000 in
theorem drawTake (a : Option Addr) (len cap : Nat) (w : World) (h : Code w a len) :
    Calls Try.prog 16 #[.slice a len cap] w (DrawnAt w) := by
  have R0 := Has.zero24 w 27
  have M0 := Lib.hid ((kept_refl w).alloc (.cells #[.int .i64 0, .int .i64 0, .int .i64 0, .int .i64 0, .int .i64 0, .int .i64 0, .int .i64 0, .int .i64 0, .int .i64 0, .int .i64 0, .int .i64 0, .int .i64 0, .int .i64 0, .int .i64 0, .int .i64 0, .int .i64 0, .int .i64 0, .int .i64 0, .int .i64 0, .int .i64 0, .int .i64 0, .int .i64 0, .int .i64 0, .int .i64 0] 27))
  have HC := Lib.hid (fun W (h : Code W a len) => drawLayers a len cap W h)
  have B0 : Below w.heap.size w (w.alloc (.cells #[.int .i64 0, .int .i64 0, .int .i64 0, .int .i64 0, .int .i64 0, .int .i64 0, .int .i64 0, .int .i64 0, .int .i64 0, .int .i64 0, .int .i64 0, .int .i64 0, .int .i64 0, .int .i64 0, .int .i64 0, .int .i64 0, .int .i64 0, .int .i64 0, .int .i64 0, .int .i64 0, .int .i64 0, .int .i64 0, .int .i64 0, .int .i64 0] 27)) := (Below.refl _ _).alloc (Nat.le_refl _) _
  have H1 := Lib.hid (h.below B0)
  clear h B0
  go_enter Try.func16, Try.ntmps16
  go_wp2_with fail
  refine (HC.out _ H1.out).mono ?_
  rintro e w1 ⟨ns, x, rfl, hl, b1⟩
  have R1 := R0.below b1
  have S1 := Lib.hid (R1.putAll ns hl)
  have S2 := Lib.hid ((M0.out.call b1).puts (b := w.heap.size) (Nat.le_refl _) 0 (ints ns))
  clear R0 M0 b1
  go_wp2_with (refine store_at rfl 27 _ _ rfl _ _ rfl rfl ?_ 24 ?_ ?_ ?_ ?_; rotate_left; (· (repeat (first | (with_reducible assumption) | ((with_reducible refine Has.box _ _ ?_ ?_) <;> (first | assumption | decide)) | (with_reducible refine Has.alloc ?_ _) | ((with_reducible refine Has.putOther ?_ _ _ ?_); rotate_left; omega; skip) | ((with_reducible refine Has.below ?_ ?_); rotate_left; assumption)))); (· (first | assumption | rfl)); (· kernel_rfl))
  exact bodyPost_ret (res_has1 rfl _ _ w.heap.size ns 24 _ (.int .i64 x) rfl rfl S1.out Try.underlying27 rfl (by kernel_rfl)) rfl ⟨ns, x, rfl, hl, S2.out⟩

set_option maxHeartbeats 400000 in
theorem rBig_any (a : Option Addr) (len cap : Nat) (w : World) (h : len ≤ maxLen) :
    Calls Try.prog 4 #[.slice a len cap] w fun e w' => e = .returned (.bool (decide ((65536 : Int) < (len : Int)))) ∧ w = w' := by
  go_enter Try.func4, Try.ntmps4
  go_wp2_with fail
  go_ret
  exact ⟨rfl, rfl⟩
end Go.Proofs.Ytlnbhopigjkkkaa.base
