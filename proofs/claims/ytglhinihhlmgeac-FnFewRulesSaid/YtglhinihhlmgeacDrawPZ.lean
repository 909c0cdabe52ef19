/-
  A pour is drawn, walked; and what the law asks of a code's length.
-/
/-
  The draws of the law of bounds, walked: a pour, a rack that is often sorted.
-/
import Derived.Test.YtglhinihhlmgeacSwapZ
import Derived.Test.YtglhinihhlmgeacPours
import Derived.Test.YtglhinihhlmgeacUseZ
import Derived.Test.YtglhinihhlmgeacTubeWZ

section
namespace Go.Proofs.Ytglhinihhlmgeac.base
open Go.ChangeShapes Go.WideShapes Go.ChangeAt Go.RowKit
open Go.Proofs.Ytglhinihhlmgeac.cur
set_option linter.unusedVariables false
set_option linter.unusedSimpArgs false

set_option maxHeartbeats 800000 in
theorem place_any (c k : Nat) (w : World) (h : Cur w c k) (hk : k < 1000000) :
    Calls Try.prog 65 #[.pointer (some ⟨c, 0, none⟩)] w fun e w' => ∃ z : Int, e = .returned (.int .i64 z) ∧ Cur w' c (k + 10) ∧ Moved c w w' := by
  have HC := Lib.hid h
  clear h
  go_enter Try.func65, Try.ntmps65
  go_wp2_with fail
  refine (one_any c _ 40 _ HC.out (by omega) (by omega) (by omega)).mono ?_
  rintro e w1 ⟨t, rfl, c1, m1⟩
  have C1 := Lib.hid c1
  have M1 := Lib.hid m1
  clear c1 m1
  cases t with
  | true =>
    go_wp2_with fail
    refine (among_at (fun _ => True) _ _ 3 _ _ _ _ rfl C1.out (by omega) rfl (by omega) (by omega) (anyInts _ rfl)).mono ?_
    rintro e w2 ⟨z, rfl, _, c2, m2⟩
    have C2 := Lib.hid (c2.mono (m := k + 10) (by omega))
    have M2 := Lib.hid (M1.out.trans m2)
    clear c2 m2
    go_wp2_with fail
    go_ret
    exact ⟨_, rfl, C2.out, M2.out⟩
  | false =>
    go_wp2_with fail
    refine (pick_any c _ 6 _ C1.out (by omega) (by omega) (by omega)).mono ?_
    rintro e w2 ⟨z, rfl, _, _, c2, m2⟩
    have C2 := Lib.hid (c2.mono (m := k + 10) (by omega))
    have M2 := Lib.hid (M1.out.trans m2)
    clear c2 m2
    go_wp2_with fail
    go_ret
    exact ⟨_, rfl, C2.out, M2.out⟩

theorem buildPair (x y : Int) (w : World) : (Instr.build 44 #[(0, .int .i64 x), (1, .int .i64 y)]).run Try.prog w = .ok (.agg (ints [x, y]).toArray) w := run_build w _ _ _ (by kernel_rfl)
theorem Prs.moved {c : Nat} {w w' : World} {b : Nat} {v : Value} {n : Nat} {fs : List Int} (h : Prs w b v n fs) (m : Moved c w w') (hc : c < b) : Prs w' b v n fs := moved_row h m hc
theorem Cur.call {c k : Nat} {w w' : World} (h : Cur w c k) (m : Below w.heap.size w w') : Cur w' c k := h.below m
theorem Moved.call {c : Nat} {w w' w2 : World} (h : Moved c w w') (m : Below w'.heap.size w' w2) : Moved c w w2 := h.trans (moved_of_below m)

set_option maxHeartbeats 1600000 in
set_option maxRecDepth 100000 in
theorem pour_any (c k : Nat) (ns : List Int) (w : World) (h24 : ns.length = 24) (h : Cur w c k) (hk : k < 900000) :
    Calls Try.prog 54 #[.pointer (some ⟨c, 0, none⟩), row ns] w fun e w' => ∃ x y : Int, e = .returned (.agg (ints [x, y]).toArray) ∧ Cur w' c (k + 100) ∧ Moved c w w' := by
  have hcw := h.lt
  have H0 := (Has.box w 27 h24 (by omega)).alloc (.cells #[.int .i64 0, .int .i64 0] 44)
  have R0 := (Has.box (ns := [0, 0]) (n := 2) (w.alloc (.cells (ints ns).toArray 27)) 44 rfl (by omega)).at (size1 _ _)
  have C0 := Lib.hid (Cur.alloc (Cur.alloc h (.cells (ints ns).toArray 27)) (.cells #[.int .i64 0, .int .i64 0] 44))
  have M0 := Lib.hid (Moved.alloc (Moved.alloc (Moved.refl c w) (.cells (ints ns).toArray 27)) (.cells #[.int .i64 0, .int .i64 0] 44))
  clear h
  rw [row_ints]
  go_enter Try.func54, Try.ntmps54
  go_wp2_with (refine load_has rfl 27 _ rfl _ rfl ?_ 24 ?_ _ Try.underlying27 rfl ?_ ?_; rotate_left; (· (repeat (first | (with_reducible assumption) | ((with_reducible refine Has.box _ _ ?_ ?_) <;> (first | assumption | decide)) | (with_reducible refine Has.alloc ?_ _) | ((with_reducible refine Has.putOther ?_ _ _ ?_); rotate_left; omega; skip) | ((with_reducible refine Has.below ?_ ?_); rotate_left; assumption)))); (· kernel_rfl))
  refine (l2Rack_any ns _ h24).mono ?_
  rintro e w1 ⟨rfl, b1⟩
  have H1 := H0.below b1
  have R1 := R0.below b1
  have C1 := Lib.hid (C0.out.below b1)
  have M1 := Lib.hid (Moved.call M0.out b1)
  clear H0 R0 C0 M0 b1
  have FIN : ∀ (W : World), Has W (w.heap.size + 1) [0, 0] 2 → Cur W c (k + 10) → Moved c w W → ∀ K : Ending → World → Prop, True := fun _ _ _ _ _ => trivial
  clear FIN
  by_cases hv : vR ns = true
  case' pos =>
    rw [hv]
    have HV := Lib.hid hv
    clear hv
    go_wp2_with fail
    refine (one_any c _ 3 _ C1.out (by omega) (by omega) (by omega)).mono ?_
    rintro e w2 ⟨t, rfl, c2, m2⟩
    have H2 := H1.moved m2 (by omega)
    have R2 := R1.moved m2 (by omega)
    have C2 := Lib.hid (c2.mono (m := k + 10) (by omega))
    have M2 := Lib.hid (M1.out.trans m2)
    clear H1 R1 C1 M1 c2 m2
    cases t
    case' false =>
      go_wp2_with (refine load_has rfl 27 _ rfl _ rfl ?_ 24 ?_ _ Try.underlying27 rfl ?_ ?_; rotate_left; (· (repeat (first | (with_reducible assumption) | ((with_reducible refine Has.box _ _ ?_ ?_) <;> (first | assumption | decide)) | (with_reducible refine Has.alloc ?_ _) | ((with_reducible refine Has.putOther ?_ _ _ ?_); rotate_left; omega; skip) | ((with_reducible refine Has.below ?_ ?_); rotate_left; assumption)))); (· kernel_rfl))
      refine (l2Pours_any ns _ h24 HV.out).mono ?_
      rintro e w3 ⟨v, rfl, p3, b3⟩
      have R3 := R2.below b3
      have C3 := Lib.hid (C2.out.below b3)
      have M3 := Lib.hid (Moved.call M2.out b3)
      have P3 := Lib.hid p3
      have hs2 := C2.out.lt
      have hN := poursN_le ns 36
      clear H2 R2 C2 M2 b3
      generalize poursN ns 36 = n at *
      generalize poursF ns 36 = fs at *
      rcases n with _ | n
      rotate_left
      case' succ =>
        obtain ⟨g, cap, rfl, hg, _⟩ := p3.form (by omega)
        clear p3
        have n0 : (0 : Int) < (n : Int) + 1 := by omega
        have n0' : (0 : Int) < ((n + 1 : Nat) : Int) := by omega
        go_wp2_with fail
        refine (pick_any c _ ((n : Int) + 1) _ C3.out (by omega) (by omega) (by omega)).mono ?_
        rintro e w4 ⟨z, rfl, z0, z1, c4, m4⟩
        obtain ⟨q, rfl⟩ : ∃ q : Nat, z = (q : Int) := ⟨z.toNat, by omega⟩
        have hq : q < n + 1 := by omega
        have P4 := P3.out.moved m4 (by omega)
        have R4 := R3.moved m4 (by omega)
        have RG : Hid (w4.rangeAt g (q * 2) (ints [fs.getD (q * 2) 0, fs.getD (q * 2 + 1) 0])) := Lib.hid (range_two (P4.cell (q * 2) (by omega)) (P4.cell (q * 2 + 1) (by omega)))
        generalize fs.getD (q * 2) 0 = x at *
        generalize fs.getD (q * 2 + 1) 0 = y at *
        have S1 := Lib.hid (R4.putAll [x, y] rfl)
        have S2 := Lib.hid (Cur.puts (c4.mono (m := k + 100) (by omega)) (b := w.heap.size + 1) 0 (ints [x, y]) (by omega))
        have S3 := Lib.hid (Moved.puts (M3.out.trans m4) (b := w.heap.size + 1) (by omega) 0 (ints [x, y]))
        clear P3 P4 R3 C3 M3 c4 m4
        have hl2 : ([x, y] : List Int).length = 2 := rfl
        go_wp2_with (first | (refine wpList_load_mid rfl 44 _ rfl g (q * 2) rfl (ints [x, y]) _ RG.out Try.underlying44 rfl (by kernel_rfl) ?_) | (refine store_at rfl 44 _ _ rfl _ _ rfl rfl ?_ 2 ?_ ?_ ?_ ?_; rotate_left; (· (repeat (first | (with_reducible assumption) | ((with_reducible refine Has.box _ _ ?_ ?_) <;> (first | assumption | decide)) | (with_reducible refine Has.alloc ?_ _) | ((with_reducible refine Has.putOther ?_ _ _ ?_); rotate_left; omega; skip) | ((with_reducible refine Has.below ?_ ?_); rotate_left; assumption)))); (· (first | assumption | rfl)); (· kernel_rfl)))
        exact bodyPost_ret (res_has (P := Try.prog) rfl _ _ (w.heap.size + 1) [x, y] 2 _ rfl S1.out Try.underlying44 rfl (by kernel_rfl)) rfl ⟨x, y, rfl, S2.out, S3.out⟩
      case' zero =>
        obtain ⟨a, cap, rfl⟩ := prs_zero p3
        clear p3 P3
        have RZ := R3
        have CZ := C3
        have MZ := M3
        go_wp2_with fail
    case' true =>
      have RZ := R2
      have CZ := C2
      have MZ := M2
      go_wp2_with fail
  case' neg =>
    have hf : vR ns = false := by simpa using hv
    rw [hf]
    clear hv hf
    have RZ := R1
    have CZ := Lib.hid (C1.out.mono (m := k + 10) (by omega))
    have MZ := M1
    go_wp2_with fail
  all_goals
    refine (place_any c _ _ CZ.out (by omega)).mono ?_
    rintro e w5 ⟨x, rfl, c5, m5⟩
    have R5 := RZ.moved m5 (by omega)
    have C5 := Lib.hid c5
    have M5 := Lib.hid (MZ.out.trans m5)
    clear RZ CZ MZ c5 m5
    go_wp2_with fail
    refine (place_any c _ _ C5.out (by omega)).mono ?_
    rintro e w6 ⟨y, rfl, c6, m6⟩
    have R6 := R5.moved m6 (by omega)
    have S1 := Lib.hid (R6.putAll [x, y] rfl)
    have S2 := Lib.hid (Cur.puts (c6.mono (m := k + 100) (by omega)) (b := w.heap.size + 1) 0 (ints [x, y]) (by omega))
    have S3 := Lib.hid (Moved.puts (M5.out.trans m6) (b := w.heap.size + 1) (by omega) 0 (ints [x, y]))
    have hl2 : ([x, y] : List Int).length = 2 := rfl
    have RT := R6.there
    clear R5 C5 M5 c6 m6
    go_wp2_with (refine guard_op (isStore 44) ?_ ?_; (· rfl); refine store_has rfl 44 _ _ rfl (w.heap.size + 1) 0 [x, y] ?_ ?_ 2 rfl RT ?_ ?_; (· kernel_rfl); (· kernel_rfl); (· kernel_rfl))
    exact bodyPost_ret (res_has (P := Try.prog) rfl _ _ (w.heap.size + 1) [x, y] 2 _ rfl S1.out Try.underlying44 rfl (by kernel_rfl)) rfl ⟨x, y, rfl, S2.out, S3.out⟩

/-- A pour of a rack is drawn of a code. -/
def DrawnPost (w : World) (e : Ending) (w' : World) : Prop := ∃ (ns : List Int) (x y : Int), e = .returned (.tuple #[.agg (ints ns).toArray, .int .i64 x, .int .i64 y]) ∧ ns.length = 24 ∧ Below w.heap.size w w'

set_option maxHeartbeats 400000 in
theorem rBig_any (a : Option Addr) (len cap : Nat) (w : World) (h : len ≤ maxLen) :
    Calls Try.prog 4 #[.slice a len cap] w fun e w' => e = .returned (.bool (decide ((65536 : Int) < (len : Int)))) ∧ w = w' := by
  go_enter Try.func4, Try.ntmps4
  go_wp2_with fail
  go_ret
  exact ⟨rfl, rfl⟩
end Go.Proofs.Ytglhinihhlmgeac.base
end

section
namespace Go.Proofs.Ytglhinihhlmgeac.base
open Go.ChangeShapes Go.WideShapes Go.ChangeAt Go.RowKit
open Go.Proofs.Ytglhinihhlmgeac.cur
set_option linter.unusedVariables false
set_option linter.unusedSimpArgs false

def DrawnOne (w : World) (e : Ending) (w' : World) : Prop := ∃ ns : List Int, e = .returned (.agg (ints ns).toArray) ∧ ns.length = 24 ∧ Below w.heap.size w w'
set_option maxHeartbeats 1600000 in
set_option maxRecDepth 100000 in
theorem drawIsSorted (a : Option Addr) (len cap : Nat) (w : World) (h : Code w a len) :
    Calls Try.prog 18 #[.slice a len cap] w (DrawnOne w) := by
  have B0 : Below w.heap.size w (w.alloc (.cells #[.int .i64 0, .int .i64 0, .int .i64 0, .int .i64 0, .int .i64 0, .int .i64 0, .int .i64 0, .int .i64 0, .int .i64 0, .int .i64 0, .int .i64 0, .int .i64 0, .int .i64 0, .int .i64 0, .int .i64 0, .int .i64 0, .int .i64 0, .int .i64 0, .int .i64 0, .int .i64 0, .int .i64 0, .int .i64 0, .int .i64 0, .int .i64 0] 27)) := (Below.refl _ _).alloc (Nat.le_refl _) _
  have R0 := (Has.zero24 w 27).alloc (.cells #[.slice a len cap, .int .i64 0, .int .u64 0] 48)
  have C0 := cur_new (cap := cap) (h.below B0)
  rw [size1] at C0
  have HC := Lib.hid C0
  have M0 := Lib.hid (((kept_refl w).alloc (.cells #[.int .i64 0, .int .i64 0, .int .i64 0, .int .i64 0, .int .i64 0, .int .i64 0, .int .i64 0, .int .i64 0, .int .i64 0, .int .i64 0, .int .i64 0, .int .i64 0, .int .i64 0, .int .i64 0, .int .i64 0, .int .i64 0, .int .i64 0, .int .i64 0, .int .i64 0, .int .i64 0, .int .i64 0, .int .i64 0, .int .i64 0, .int .i64 0] 27)).alloc (.cells #[.slice a len cap, .int .i64 0, .int .u64 0] 48))
  clear h B0 C0
  go_enter Try.func18, Try.ntmps18
  go_wp2_with fail
  refine (rack_any (w.heap.size + 1) _ _ HC.out (by omega)).mono ?_
  rintro e w1 ⟨ns, rfl, hl, c1, m1⟩
  have R1 := R0.moved m1 (by omega)
  have K1 := Lib.hid (show Kept w w1 from Moved.below M0.out m1 (by omega) M0.out.size)
  have C1 := Lib.hid (Cur.alloc c1 (.cells (ints ns).toArray 27))
  have hs1 := c1.lt
  clear R0 HC M0 c1 m1
  have G1 := Has.box w1 27 hl (by omega)
  replace R1 := R1.alloc (.cells (ints ns).toArray 27)
  replace K1 := Lib.hid (K1.out.alloc (.cells (ints ns).toArray 27))
  obtain ⟨g, hg⟩ : ∃ g, g = w1.heap.size := ⟨_, rfl⟩
  have hgs : w.heap.size + 1 < g := by rw [hg]; exact hs1
  rw [← hg] at G1
  go_wp2_with (refine store_new rfl 27 _ _ rfl _ _ _ rfl _ rfl _ rfl rfl ?_ ?_ ?_; (· (first | assumption | rfl)); (· kernel_rfl))
  rw [← hg]
  clear hg
  refine (one_any (w.heap.size + 1) _ 2 _ C1.out (by omega) (by omega) (by omega)).mono ?_
  rintro e w2 ⟨t, rfl, _, m2⟩
  have R := R1.moved m2 (by omega)
  have G := G1.moved m2 (by omega)
  have KB := Lib.hid (show Kept w w2 from Moved.below K1.out m2 (by omega) K1.out.size)
  clear R1 G1 K1 C1 m2 hs1
  cases t with
  | false =>
    have S1 := Lib.hid (R.putAll ns G.len)
    have S2 := Lib.hid (KB.out.puts (b := w.heap.size) (Nat.le_refl _) 0 (ints ns))
    have hzl := Lib.hid G.len
    go_wp2_with (first | (refine load_has rfl 27 _ rfl _ rfl ?_ 24 ?_ _ Try.underlying27 rfl ?_ ?_; rotate_left; (· (repeat (first | (with_reducible assumption) | ((with_reducible refine Has.box _ _ ?_ ?_) <;> (first | assumption | decide)) | (with_reducible refine Has.alloc ?_ _) | ((with_reducible refine Has.putOther ?_ _ _ ?_); rotate_left; omega; skip) | ((with_reducible refine Has.below ?_ ?_); rotate_left; assumption)))); (· kernel_rfl)) | (refine store_at rfl 27 _ _ rfl _ _ rfl rfl ?_ 24 ?_ ?_ ?_ ?_; rotate_left; (· (repeat (first | (with_reducible assumption) | ((with_reducible refine Has.box _ _ ?_ ?_) <;> (first | assumption | decide)) | (with_reducible refine Has.alloc ?_ _) | ((with_reducible refine Has.putOther ?_ _ _ ?_); rotate_left; omega; skip) | ((with_reducible refine Has.below ?_ ?_); rotate_left; assumption)))); (· (first | assumption | rfl)); (· kernel_rfl)))
    exact bodyPost_ret (res_has rfl _ _ w.heap.size ns 24 _ rfl S1.out Try.underlying27 rfl (by kernel_rfl)) rfl ⟨ns, rfl, hzl.out, S2.out⟩
  | true =>
    go_wp2_with (refine load_has rfl 27 _ rfl _ rfl ?_ 24 ?_ _ Try.underlying27 rfl ?_ ?_; rotate_left; (· (repeat (first | (with_reducible assumption) | ((with_reducible refine Has.box _ _ ?_ ?_) <;> (first | assumption | decide)) | (with_reducible refine Has.alloc ?_ _) | ((with_reducible refine Has.putOther ?_ _ _ ?_); rotate_left; omega; skip) | ((with_reducible refine Has.below ?_ ?_); rotate_left; assumption)))); (· kernel_rfl))
    refine (l2Rack_any ns _ hl).mono ?_
    rintro e w3 ⟨rfl, b3⟩
    replace R := R.below b3
    replace G := G.below b3
    replace KB := Lib.hid (KB.out.call b3)
    clear b3 hl
    cases vR ns with
    | false =>
      have S1 := Lib.hid (R.putAll ns G.len)
      have S2 := Lib.hid (KB.out.puts (b := w.heap.size) (Nat.le_refl _) 0 (ints ns))
      have hzl := Lib.hid G.len
      go_wp2_with (first | (refine load_has rfl 27 _ rfl _ rfl ?_ 24 ?_ _ Try.underlying27 rfl ?_ ?_; rotate_left; (· (repeat (first | (with_reducible assumption) | ((with_reducible refine Has.box _ _ ?_ ?_) <;> (first | assumption | decide)) | (with_reducible refine Has.alloc ?_ _) | ((with_reducible refine Has.putOther ?_ _ _ ?_); rotate_left; omega; skip) | ((with_reducible refine Has.below ?_ ?_); rotate_left; assumption)))); (· kernel_rfl)) | (refine store_at rfl 27 _ _ rfl _ _ rfl rfl ?_ 24 ?_ ?_ ?_ ?_; rotate_left; (· (repeat (first | (with_reducible assumption) | ((with_reducible refine Has.box _ _ ?_ ?_) <;> (first | assumption | decide)) | (with_reducible refine Has.alloc ?_ _) | ((with_reducible refine Has.putOther ?_ _ _ ?_); rotate_left; omega; skip) | ((with_reducible refine Has.below ?_ ?_); rotate_left; assumption)))); (· (first | assumption | rfl)); (· kernel_rfl)))
      exact bodyPost_ret (res_has rfl _ _ w.heap.size ns 24 _ rfl S1.out Try.underlying27 rfl (by kernel_rfl)) rfl ⟨ns, rfl, hzl.out, S2.out⟩
    | true =>
      go_wp2_with fail
      go_loopg [5] 6 (fun gk i wr => ∃ (p : Nat) (zs : List Int), gk = 6 - p ∧ p ≤ 6 ∧ i = .int .i64 p ∧ Has wr g zs 24 ∧ Has wr w.heap.size z24 24 ∧ Hid (Kept w wr))
      case atStart => exact ⟨0, ns, rfl, by omega, rfl, G, R, KB⟩
      case round =>
        clear G R KB
        obtain ⟨p, zs, rfl, hp, rfl, G, R, KB⟩ := hrel
        rcases Nat.lt_or_ge p 6 with hp6 | hge
        · have hpi : (p : Int) < 6 := by omega
          have hp0 : (0 : Int) ≤ (p : Int) := by omega
          go_wp2_with fail
          go_loopg [6] 3 (fun gk j wr => ∃ (q : Nat) (zs : List Int), gk = 4 - q ∧ 1 ≤ q ∧ q ≤ 4 ∧ j = .int .i64 q ∧ Has wr g zs 24 ∧ Has wr w.heap.size z24 24 ∧ Hid (Kept w wr))
          case atStart => exact ⟨1, zs, rfl, by omega, by omega, rfl, G, R, KB⟩
          case round =>
            clear G R KB
            obtain ⟨q, zs, rfl, hq1, hq, rfl, G, R, KB⟩ := hrel
            rcases Nat.lt_or_ge q 4 with hq4 | hge
            · have hqi : (q : Int) < 4 := by omega
              have hq0 : (0 : Int) ≤ (q : Int) := by omega
              have c0 := G.cell (p * 4 + q) (by omega)
              have T1 := Lib.hid ((G.set (p * 4 + q) (zs.getD (p * 4) 0) (by omega)).drewN 1)
              have T2 := Lib.hid ((R.setOther (b' := g) (p * 4 + q) (.int .i64 (zs.getD (p * 4) 0)) (by omega)).drewN 1)
              have T3 := Lib.hid (show Kept w ((wr.setCell ⟨g, p * 4 + q, none⟩ (.int .i64 (zs.getD (p * 4) 0))).drewN 1) from (show Kept w (wr.setCell ⟨g, p * 4 + q, none⟩ (.int .i64 (zs.getD (p * 4) 0))) from KB.out.puts (b := g) (by omega) (p * 4 + q) [.int .i64 (zs.getD (p * 4) 0)]).drewN 1)
              have C4 : Hid ((zs.set (p * 4 + q) (zs.getD (p * 4) 0)).getD (p * 4) 0 = zs.getD (p * 4) 0) := Lib.hid (by
                rw [List.getD_eq_getElem?_getD, List.getElem?_set_ne (by omega), ← List.getD_eq_getElem?_getD])
              have cy := (G.drewN 1).cell (p * 4) (by omega)
              have ff := G.free (p * 4 + q) (by omega)
              have cc := G.cell (p * 4 + q) (by omega)
              generalize zs.getD (p * 4 + q) 0 = x at *
              by_cases hx : 0 < x
              · generalize hyy : zs.getD (p * 4) 0 = y at *
                clear hyy
                have CY := Lib.hid cy
                go_wp2_with fail
                refine wp_region_held_drew (S := fun w' => w'.cell? ⟨g, p * 4, none⟩ = some (.int .i64 y)) (by kernel_rfl) CY.out (fun hHeld => ?_)
                (refine wpAnyH_take (i := 0) (v := ?_) rfl (by kernel_rfl) (by kernel_rfl) (by kernel_rfl) (fun _ _ _ h => h) (Or.inl ⟨by rfl, ?_⟩) hHeld ?_; rotate_left; (· (intro w' hSw; go_simp; try with_reducible rfl)); (try simp only [List.getElem_toArray, List.getElem_cons_zero, List.getElem_cons_succ, Act.put, List.setIfInBounds_toArray, List.set_cons_zero, List.set_cons_succ])); (refine wpAnyH_take (i := 1) (v := ?_) rfl (by kernel_rfl) (by kernel_rfl) (by kernel_rfl) (fun _ _ _ h => h) (Or.inl ⟨by rfl, ?_⟩) hHeld ?_; rotate_left; (· (intro w' hSw; go_simp; try with_reducible rfl)); (try simp only [List.getElem_toArray, List.getElem_cons_zero, List.getElem_cons_succ, Act.put, List.setIfInBounds_toArray, List.set_cons_zero, List.set_cons_succ])); (refine wpAnyH_take (i := 2) (v := ?_) rfl (by kernel_rfl) (by kernel_rfl) (by kernel_rfl) (fun _ _ _ h => h) (Or.inl ⟨by rfl, ?_⟩) hHeld ?_; rotate_left; (· (intro w' hSw; go_simp; try with_reducible rfl)); (try simp only [List.getElem_toArray, List.getElem_cons_zero, List.getElem_cons_succ, Act.put, List.setIfInBounds_toArray, List.set_cons_zero, List.set_cons_succ])); (refine wpAnyH_take (i := 3) (v := ?_) rfl (by kernel_rfl) (by kernel_rfl) (by kernel_rfl) (fun _ _ _ h => h) (Or.inl ⟨by rfl, ?_⟩) hHeld ?_; rotate_left; (· (intro w' hSw; go_simp; try with_reducible rfl)); (try simp only [List.getElem_toArray, List.getElem_cons_zero, List.getElem_cons_succ, Act.put, List.setIfInBounds_toArray, List.set_cons_zero, List.set_cons_succ])); (refine wpAnyH_take (i := 4) (v := ?_) rfl (by kernel_rfl) (by kernel_rfl) (by kernel_rfl) (fun _ _ _ h => h) (Or.inl ⟨by rfl, ?_⟩) hHeld ?_; rotate_left; (· (intro w' hSw; go_simp; try with_reducible rfl)); (try simp only [List.getElem_toArray, List.getElem_cons_zero, List.getElem_cons_succ, Act.put, List.setIfInBounds_toArray, List.set_cons_zero, List.set_cons_succ])); (refine wpAnyH_take (i := 5) (v := ?_) rfl (by kernel_rfl) (by kernel_rfl) (by kernel_rfl) (fun _ _ _ h => h) (Or.inl ⟨by rfl, ?_⟩) hHeld ?_; rotate_left; (· (intro w' hSw; go_simp; try with_reducible rfl)); (try simp only [List.getElem_toArray, List.getElem_cons_zero, List.getElem_cons_succ, Act.put, List.setIfInBounds_toArray, List.set_cons_zero, List.set_cons_succ]))
                (refine wpAnyH_take (i := 6) (v := .int .i64 y) rfl (by kernel_rfl) (by kernel_rfl) (by kernel_rfl) (fun _ _ _ h => h) (Or.inl ⟨by rfl, ?_⟩) hHeld ?_; (· (intro w' hSw; have q := hSw; clear hSw; go_simp; try with_reducible rfl)); (try simp only [List.getElem_toArray, List.getElem_cons_zero, List.getElem_cons_succ, Act.put, List.setIfInBounds_toArray, List.set_cons_zero, List.set_cons_succ]))
                (refine wpAnyH_take (i := 7) (v := ?_) rfl (by kernel_rfl) (by kernel_rfl) (by kernel_rfl) (fun _ _ _ h => h) (Or.inl ⟨by rfl, ?_⟩) hHeld ?_; rotate_left; (· (intro w' hSw; go_simp; try with_reducible rfl)); (try simp only [List.getElem_toArray, List.getElem_cons_zero, List.getElem_cons_succ, Act.put, List.setIfInBounds_toArray, List.set_cons_zero, List.set_cons_succ])); (refine wpAnyH_take (i := 8) (v := ?_) rfl (by kernel_rfl) (by kernel_rfl) (by kernel_rfl) (fun _ _ _ h => h) (Or.inl ⟨by rfl, ?_⟩) hHeld ?_; rotate_left; (· (intro w' hSw; go_simp; try with_reducible rfl)); (try simp only [List.getElem_toArray, List.getElem_cons_zero, List.getElem_cons_succ, Act.put, List.setIfInBounds_toArray, List.set_cons_zero, List.set_cons_succ])); (refine wpAnyH_take (i := 9) (v := ?_) rfl (by kernel_rfl) (by kernel_rfl) (by kernel_rfl) (fun _ _ _ h => h) (Or.inl ⟨by rfl, ?_⟩) hHeld ?_; rotate_left; (· (intro w' hSw; go_simp; try with_reducible rfl)); (try simp only [List.getElem_toArray, List.getElem_cons_zero, List.getElem_cons_succ, Act.put, List.setIfInBounds_toArray, List.set_cons_zero, List.set_cons_succ]))
                (refine wpAnyH_ready (rs := [10]) (by kernel_rfl) (by simp) ?_; refine AllReadyH.cons (o := _) rfl (fun K hK => ?_) AllReadyH.nil; (simp only [List.getElem_toArray, List.getElem_cons_zero, List.getElem_cons_succ, Region.wanted, if_true]))
                go_simp
                refine hK.out _ _ (by have := T1.out.cell (p * 4) (by omega); rw [C4.out] at this; exact this) (fun hHeld => ?_)
                clear hK K cc ff cy
                refine wpAnyH_done (by kernel_rfl) ?_ _
                clear hHeld
                go_wp2_with fail
                go_roundg (4 - (q + 1))
                case rel => exact ⟨q + 1, _, rfl, by omega, by omega, by go_num, T1.out, T2.out, T3⟩
                case measure => omega
              · have hx' : decide (0 < x) = false := by simpa using hx
                clear T1 T2 T3 cy ff cc
                go_wp2_with fail
                go_roundg (4 - (q + 1))
                case rel => exact ⟨q + 1, zs, rfl, by omega, by omega, by go_num, G, R, KB⟩
                case measure => omega
            · obtain rfl : q = 4 := by omega
              go_wp2_with fail
              go_roundg (6 - (p + 1))
              case rel => exact ⟨p + 1, zs, rfl, by omega, by go_num, G, R, KB⟩
              case measure => omega
        · obtain rfl : p = 6 := by omega
          have S1 := Lib.hid (R.putAll zs G.len)
          have S2 := Lib.hid (KB.out.puts (b := w.heap.size) (Nat.le_refl _) 0 (ints zs))
          have hzl := Lib.hid G.len
          go_wp2_with (first | (refine load_has rfl 27 _ rfl _ rfl ?_ 24 ?_ _ Try.underlying27 rfl ?_ ?_; rotate_left; (· (repeat (first | (with_reducible assumption) | ((with_reducible refine Has.box _ _ ?_ ?_) <;> (first | assumption | decide)) | (with_reducible refine Has.alloc ?_ _) | ((with_reducible refine Has.putOther ?_ _ _ ?_); rotate_left; omega; skip) | ((with_reducible refine Has.below ?_ ?_); rotate_left; assumption)))); (· kernel_rfl)) | (refine store_at rfl 27 _ _ rfl _ _ rfl rfl ?_ 24 ?_ ?_ ?_ ?_; rotate_left; (· (repeat (first | (with_reducible assumption) | ((with_reducible refine Has.box _ _ ?_ ?_) <;> (first | assumption | decide)) | (with_reducible refine Has.alloc ?_ _) | ((with_reducible refine Has.putOther ?_ _ _ ?_); rotate_left; omega; skip) | ((with_reducible refine Has.below ?_ ?_); rotate_left; assumption)))); (· (first | assumption | rfl)); (· kernel_rfl)))
          exact bodyPost_ret (res_has rfl _ _ w.heap.size zs 24 _ rfl S1.out Try.underlying27 rfl (by kernel_rfl)) rfl ⟨zs, rfl, hzl.out, S2.out⟩
end Go.Proofs.Ytglhinihhlmgeac.base
end
