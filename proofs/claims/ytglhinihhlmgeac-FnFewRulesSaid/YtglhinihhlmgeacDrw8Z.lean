/-
  The draws of chapter 8's laws, walked: depths, rules, a rack with a pour by a rule.
-/
/-
  A rack with depths, a rule and a pour is drawn, walked.
-/
/-
  A rack that few pours sort is drawn with depths and a rule, walked.
-/
import Derived.Test.YtglhinihhlmgeacDrawPZ
import Derived.Test.YtglhinihhlmgeacByS
import Derived.Test.YtglhinihhlmgeacMovSZ
import Derived.Test.YtglhinihhlmgeacRchMZ

section
namespace Go.Proofs.Ytglhinihhlmgeac.base
open Go.ChangeShapes Go.WideShapes Go.ChangeAt Go.RowKit
open Go.Proofs.Ytglhinihhlmgeac.cur
set_option linter.unusedVariables false
set_option linter.unusedSimpArgs false

theorem Has.zero6d (w : World) (T : TypeId) : Has (w.alloc (.cells #[.int .i64 0, .int .i64 0, .int .i64 0, .int .i64 0, .int .i64 0, .int .i64 0] T)) w.heap.size z6 6 := Has.box (ns := z6) w T rfl (by decide)

set_option maxHeartbeats 800000 in
theorem l2Many_z (t : List Int) (w : World) (h4 : t.length = 4) :
    Calls Try.prog 46 #[row t] w fun e w' => ∃ z : Int, e = .returned (.int .i64 z) ∧ Kept w w' := by
  have HB := Lib.hid ((kept_refl w).alloc (.cells (ints t).toArray 24))
  have H := Has.box w 24 h4 (by omega)
  rw [row_ints]
  go_enter Try.func46, Try.ntmps46
  go_wp2_with fail
  go_loopw [3, 4] (fun m i wr => ∃ (z : Int) (j : Nat), j ≤ 4 ∧ m = .int .i64 z ∧ i = .int .i64 j ∧ Has wr w.heap.size t 4 ∧ Hid (Kept w wr)) (fun _ i _ => 4 - (intOf i).toNat)
  case atStart => exact ⟨0, 0, by omega, rfl, rfl, H, HB⟩
  case round =>
    clear H HB
    obtain ⟨z, j, hj, rfl, rfl, H, HB⟩ := hrel
    by_cases hlt : j < 4
    · have hji : (j : Int) < 4 := by omega
      have hj0 : (0 : Int) ≤ (j : Int) := by omega
      have c0 := H.cell j hlt
      generalize t.getD j 0 = x at *
      by_cases hx : 0 < x
      · go_wp2_with fail
        go_roundw
        case rel => exact ⟨_, j + 1, by omega, rfl, by go_num, H, HB⟩
        case measure => simp [intOf]; omega
      · have hx' : decide (0 < x) = false := by simpa using hx
        go_wp2_with fail
        go_roundw
        case rel => exact ⟨z, j + 1, by omega, rfl, by go_num, H, HB⟩
        case measure => simp [intOf]; omega
    · obtain rfl : j = 4 := by omega
      go_wp2_with fail
      go_ret
      exact ⟨_, rfl, HB.out⟩
theorem l1Most8 (a b : Int) (w : World) :
    Calls Try.prog 45 #[.int .i64 a, .int .i64 b] w fun e w' => ∃ z : Int, e = .returned (.int .i64 z) ∧ w = w' := by
  by_cases h : b < a
  · go_enter Try.func45, Try.ntmps45
    go_wp2_with fail
    go_ret
    exact ⟨_, rfl, rfl⟩
  · have q : decide (b < a) = false := by simpa using h
    clear h
    go_enter Try.func45, Try.ntmps45
    go_wp2_with fail
    go_ret
    exact ⟨_, rfl, rfl⟩

set_option maxHeartbeats 400000 in
theorem ruleOf_any (c k : Nat) (w : World) (h : Cur w c k) (hk : k < 1000000) :
    Calls Try.prog 17 #[.pointer (some ⟨c, 0, none⟩)] w fun e w' => ∃ z : Int, e = .returned (.int .i64 z) ∧ Cur w' c (k + 10) ∧ Moved c w w' := by
  have HC := Lib.hid h
  clear h
  go_enter Try.func17, Try.ntmps17
  go_wp2_with fail
  refine (among_at (fun _ => True) _ _ 12 _ _ _ _ rfl HC.out (by omega) rfl (by omega) (by omega) (anyInts _ rfl)).mono ?_
  rintro e w2 ⟨z, rfl, _, c2, m2⟩
  have C2 := Lib.hid (c2.mono (m := k + 10) (by omega))
  have M2 := Lib.hid m2
  clear c2 m2
  go_wp2_with fail
  go_ret
  exact ⟨_, rfl, C2.out, M2.out⟩

set_option maxHeartbeats 3200000 in
set_option maxRecDepth 100000 in
theorem depths_any (c k : Nat) (ns : List Int) (w : World) (h24 : ns.length = 24) (h : Cur w c k) (hk : k < 900000) :
    Calls Try.prog 19 #[.pointer (some ⟨c, 0, none⟩), row ns] w fun e w' => ∃ ds : List Int, e = .returned (.agg (ints ds).toArray) ∧ ds.length = 6 ∧ Cur w' c (k + 100) ∧ Moved c w w' := by
  have hcw := h.lt
  have H0 := (Has.box w 27 h24 (by omega)).alloc (.cells #[.int .i64 0, .int .i64 0, .int .i64 0, .int .i64 0, .int .i64 0, .int .i64 0] 28)
  have R0 := (Has.zero6d (w.alloc (.cells (ints ns).toArray 27)) 28).at (size1 _ _)
  have C0 := Lib.hid (Cur.alloc (Cur.alloc h (.cells (ints ns).toArray 27)) (.cells #[.int .i64 0, .int .i64 0, .int .i64 0, .int .i64 0, .int .i64 0, .int .i64 0] 28))
  have M0 := Lib.hid (Moved.alloc (Moved.alloc (Moved.refl c w) (.cells (ints ns).toArray 27)) (.cells #[.int .i64 0, .int .i64 0, .int .i64 0, .int .i64 0, .int .i64 0, .int .i64 0] 28))
  clear h
  rw [row_ints]
  go_enter Try.func19, Try.ntmps19
  go_wp2_with fail
  refine (one_any c _ 3 _ C0.out (by omega) (by omega) (by omega)).mono ?_
  rintro e w1 ⟨t, rfl, c1, m1⟩
  have hs1 : w.heap.size + 1 + 1 ≤ w1.heap.size := by have := m1.size; simp at this; omega
  have G1 := Has.box (ns := [4, 4, 4, 4, 4, 4]) (n := 6) w1 28 rfl (by omega)
  have H1 := (H0.moved m1 (by omega)).alloc (.cells (ints [4, 4, 4, 4, 4, 4]).toArray 28)
  have R1 := (R0.moved m1 (by omega)).alloc (.cells (ints [4, 4, 4, 4, 4, 4]).toArray 28)
  have C1 := Lib.hid (Cur.alloc c1 (.cells (ints [4, 4, 4, 4, 4, 4]).toArray 28))
  have M1 := Lib.hid (Moved.alloc (M0.out.trans m1) (.cells (ints [4, 4, 4, 4, 4, 4]).toArray 28))
  clear H0 R0 C0 M0 c1 m1
  go_wp2_with (first | (refine store_new rfl 28 _ _ rfl _ _ _ rfl _ (by simp) [4, 4, 4, 4, 4, 4] rfl rfl ?_ ?_ ?_; (· (first | assumption | rfl)); (· kernel_rfl)))
  obtain ⟨g, hg⟩ : ∃ g, w1.heap.size = g := ⟨_, rfl⟩
  rw [hg] at hs1 G1 ⊢
  generalize w1.alloc (.cells (ints [4, 4, 4, 4, 4, 4]).toArray 28) = W1 at *
  clear hg
  go_loopw [7] (fun i wr => ∃ (j : Nat) (zs : List Int), j ≤ 6 ∧ i = .int .i64 j ∧ Has wr w.heap.size ns 24 ∧ Has wr (w.heap.size + 1) z6 6 ∧ Has wr g zs 6 ∧ Hid (Cur wr c (k + 2 + j * 2)) ∧ Hid (Moved c w wr)) (fun i _ => 6 - (intOf i).toNat)
  case atStart => exact ⟨0, _, by omega, rfl, H1, R1, G1, C1, M1⟩
  case round =>
    clear H1 R1 G1 C1 M1
    obtain ⟨j, zs, hj, rfl, H, R, G, C, M⟩ := hrel
    rcases Nat.lt_or_ge j 6 with hlt | hge
    case' inl =>
      have hji : (j : Int) < 6 := by omega
      have hj0 : (0 : Int) ≤ (j : Int) := by omega
      cases t
      case' false =>
        go_wp2_with (refine load_tub rfl 24 _ rfl _ (j) _ rfl ?_ ?_ ?_ ?_ _ Try.underlying24 rfl ?_ ?_; (· (first | rfl | omega)); rotate_left; (· (repeat (first | (with_reducible assumption) | ((with_reducible refine Has.box _ _ ?_ ?_) <;> (first | assumption | decide)) | (with_reducible refine Has.alloc ?_ _) | ((with_reducible refine Has.putOther ?_ _ _ ?_); rotate_left; omega; skip) | ((with_reducible refine Has.below ?_ ?_); rotate_left; assumption)))); (· omega); (· kernel_rfl))
        refine (l2Many_z (tub ns j) _ (tub_len ns j h24 hlt)).mono ?_
        rintro e w3 ⟨z3, rfl, b3⟩
        replace H := H.below b3
        replace R := R.below b3
        replace G := G.below b3
        replace C := Lib.hid (C.out.below b3)
        replace M := Lib.hid (Moved.call M.out b3)
        clear b3
        go_wp2_with fail
        refine (pick_any c _ 3 _ C.out (by omega) (by omega) (by omega)).mono ?_
        rintro e w4 ⟨z4, rfl, _, _, c4, m4⟩
        replace H := H.moved m4 (by omega)
        replace R := R.moved m4 (by omega)
        replace G := G.moved m4 (by omega)
        replace C := Lib.hid c4
        replace M := Lib.hid (M.out.trans m4)
        clear c4 m4
        go_wp2_with fail
        refine (l1Most8 _ _ _).mono ?_
        rintro e w5 ⟨z5, rfl, rfl⟩
        go_wp2_with fail
        refine (l1Least_any _ _ _).mono ?_
        rintro e w6 ⟨rfl, rfl⟩
        generalize min 4 z5 = z6v at *
        have cc := G.cell j hlt
        have ff := G.free j hlt
        have H2 := H.setOther (b' := g) j (.int .i64 z6v) (by omega)
        have R2 := R.setOther (b' := g) j (.int .i64 z6v) (by omega)
        have G2 := G.set j z6v hlt
        have C2 := Lib.hid (Cur.set C.out (b := g) j (.int .i64 z6v) (by omega))
        have M2 := Lib.hid (Moved.set M.out (b := g) (by omega) j (.int .i64 z6v))
        clear H R G C M
        go_wp2_with fail
        go_roundw
        case rel => exact ⟨j + 1, _, by omega, by go_num, H2, R2, G2, Lib.hid (C2.out.mono (by omega)), M2⟩
        case measure => simp [intOf]; omega
      case' true =>
        go_wp2_with fail
    case' inr =>
      have hji : decide ((j : Int) < 6) = false := by simp; omega
      go_wp2_with fail
    all_goals
      refine (one_any c _ 24 _ C.out (by omega) (by omega) (by omega)).mono ?_
      rintro e w7 ⟨u, rfl, c7, m7⟩
      replace H := H.moved m7 (by omega)
      replace R := R.moved m7 (by omega)
      replace G := G.moved m7 (by omega)
      replace C := Lib.hid (c7.mono (m := k + 20) (by omega))
      replace M := Lib.hid (M.out.trans m7)
      clear c7 m7
      cases u with
      | false =>
        have S1 := Lib.hid (R.putAll zs G.len)
        have S2 := Lib.hid (Cur.puts (C.out.mono (m := k + 100) (by omega)) (b := w.heap.size + 1) 0 (ints zs) (by omega))
        have S3 := Lib.hid (Moved.puts M.out (b := w.heap.size + 1) (by omega) 0 (ints zs))
        have hz6 := G.len
        go_wp2_with (first | (refine load_has rfl 28 _ rfl _ rfl ?_ 6 ?_ _ Try.underlying28 rfl ?_ ?_; rotate_left; (· (repeat (first | (with_reducible assumption) | ((with_reducible refine Has.box _ _ ?_ ?_) <;> (first | assumption | decide)) | (with_reducible refine Has.alloc ?_ _) | ((with_reducible refine Has.putOther ?_ _ _ ?_); rotate_left; omega; skip) | ((with_reducible refine Has.below ?_ ?_); rotate_left; assumption)))); (· kernel_rfl)) | (refine store_at rfl 28 _ _ rfl _ _ rfl rfl ?_ 6 ?_ ?_ ?_ ?_; rotate_left; (· (repeat (first | (with_reducible assumption) | ((with_reducible refine Has.box _ _ ?_ ?_) <;> (first | assumption | decide)) | (with_reducible refine Has.alloc ?_ _) | ((with_reducible refine Has.putOther ?_ _ _ ?_); rotate_left; omega; skip) | ((with_reducible refine Has.below ?_ ?_); rotate_left; assumption)))); (· (first | assumption | rfl)); (· kernel_rfl)))
        exact bodyPost_ret (res_has (P := Try.prog) rfl _ _ (w.heap.size + 1) zs 6 _ rfl S1.out Try.underlying28 rfl (by kernel_rfl)) rfl ⟨zs, rfl, hz6, S2.out, S3.out⟩
      | true =>
        go_wp2_with fail
        refine (pick_any c _ 6 _ C.out (by omega) (by omega) (by omega)).mono ?_
        rintro e w8 ⟨z8, rfl, hz0, hz1, c8, m8⟩
        replace H := H.moved m8 (by omega)
        replace R := R.moved m8 (by omega)
        replace G := G.moved m8 (by omega)
        replace C := Lib.hid c8
        replace M := Lib.hid (M.out.trans m8)
        clear c8 m8
        obtain ⟨q, rfl⟩ : ∃ q : Nat, z8 = (q : Int) := ⟨z8.toNat, by omega⟩
        have hq : q < 6 := by omega
        go_wp2_with fail
        refine (among_at (fun _ => True) _ _ 4 _ _ _ _ rfl C.out (by omega) rfl (by omega) (by omega) (anyInts _ rfl)).mono ?_
        rintro e w9 ⟨y, rfl, _, c9, m9⟩
        replace H := H.moved m9 (by omega)
        replace R := R.moved m9 (by omega)
        replace G := G.moved m9 (by omega)
        replace C := Lib.hid (c9.mono (m := k + 100) (by omega))
        replace M := Lib.hid (M.out.trans m9)
        clear c9 m9
        have cc := G.cell q hq
        have ff := G.free q hq
        have R2 := R.setOther (b' := g) q (.int .i64 y) (by omega)
        have G2 := G.set q y hq
        have C2 := Lib.hid (Cur.set C.out (b := g) q (.int .i64 y) (by omega))
        have M2 := Lib.hid (Moved.set M.out (b := g) (by omega) q (.int .i64 y))
        have hz6 := G2.len
        have S1 := Lib.hid (R2.putAll (zs.set q y) hz6)
        have S2 := Lib.hid (Cur.puts C2.out (b := w.heap.size + 1) 0 (ints (zs.set q y)) (by omega))
        have S3 := Lib.hid (Moved.puts M2.out (b := w.heap.size + 1) (by omega) 0 (ints (zs.set q y)))
        clear C2 M2 C M H R G
        go_wp2_with (first | (refine load_has rfl 28 _ rfl _ rfl ?_ 6 ?_ _ Try.underlying28 rfl ?_ ?_; rotate_left; (· (repeat (first | (with_reducible assumption) | ((with_reducible refine Has.box _ _ ?_ ?_) <;> (first | assumption | decide)) | (with_reducible refine Has.alloc ?_ _) | ((with_reducible refine Has.putOther ?_ _ _ ?_); rotate_left; omega; skip) | ((with_reducible refine Has.below ?_ ?_); rotate_left; assumption)))); (· kernel_rfl)) | (refine store_at rfl 28 _ _ rfl _ _ rfl rfl ?_ 6 ?_ ?_ ?_ ?_; rotate_left; (· (repeat (first | (with_reducible assumption) | ((with_reducible refine Has.box _ _ ?_ ?_) <;> (first | assumption | decide)) | (with_reducible refine Has.alloc ?_ _) | ((with_reducible refine Has.putOther ?_ _ _ ?_); rotate_left; omega; skip) | ((with_reducible refine Has.below ?_ ?_); rotate_left; assumption)))); (· (first | assumption | rfl)); (· kernel_rfl)))
        exact bodyPost_ret (res_has (P := Try.prog) rfl _ _ (w.heap.size + 1) (zs.set q y) 6 _ rfl S1.out Try.underlying28 rfl (by kernel_rfl)) rfl ⟨_, rfl, hz6, S2.out, S3.out⟩
end Go.Proofs.Ytglhinihhlmgeac.base
end

section
namespace Go.Proofs.Ytglhinihhlmgeac.base
open Go.ChangeShapes Go.WideShapes Go.ChangeAt Go.RowKit
open Go.Proofs.Ytglhinihhlmgeac.cur
set_option linter.unusedVariables false
set_option linter.unusedSimpArgs false

def DrawnBy (w : World) (e : Ending) (w' : World) : Prop := ∃ (ns ds : List Int) (x i j : Int), e = .returned (.tuple #[.agg (ints ns).toArray, .agg (ints ds).toArray, .int .i64 x, .int .i64 i, .int .i64 j]) ∧ ns.length = 24 ∧ ds.length = 6 ∧ Below w.heap.size w w'
def DrawnThree (w : World) (e : Ending) (w' : World) : Prop := ∃ (ns ds : List Int) (x : Int), e = .returned (.tuple #[.agg (ints ns).toArray, .agg (ints ds).toArray, .int .i64 x]) ∧ ns.length = 24 ∧ ds.length = 6 ∧ Below w.heap.size w w'
def DrawnFour (w : World) (e : Ending) (w' : World) : Prop := ∃ (ns ds : List Int) (x i : Int), e = .returned (.tuple #[.agg (ints ns).toArray, .agg (ints ds).toArray, .int .i64 x, .int .i64 i]) ∧ ns.length = 24 ∧ ds.length = 6 ∧ Below w.heap.size w w'
theorem res_two {P : Program} {fn : Func} {p p' q : Tmp} {T T' : TypeId} (h : fn.results = #[.cell p T, .cell p' T', .tmp q]) (tmps : Array Value) (w : World) (b b' : Nat) (ns ms : List Int) (n n' : Nat) (d d' : TypeDesc) (v : Value)
    (hp : tmps.getD p undef = .pointer (some ⟨b, 0, none⟩)) (hpp : tmps.getD p' undef = .pointer (some ⟨b', 0, none⟩)) (hq : tmps.getD q undef = v) (H : Has w b ns n) (H' : Has w b' ms n')
    (hu : P.underlying T = some d) (hd : d.isRow = true) (hi : (P.info? T).map (·.size) = some n) (hu' : P.underlying T' = some d') (hd' : d'.isRow = true) (hi' : (P.info? T').map (·.size) = some n') :
    (results fn tmps).run P w = .ok (.tuple #[.agg (ints ns).toArray, .agg (ints ms).toArray, v]) w := res_hasc h tmps w b b' ns ms n n' d d' v hp hpp hq H H' hu hd hi hu' hd' hi'
theorem res_two2 {P : Program} {fn : Func} {p p' q q2 : Tmp} {T T' : TypeId} (h : fn.results = #[.cell p T, .cell p' T', .tmp q, .tmp q2]) (tmps : Array Value) (w : World) (b b' : Nat) (ns ms : List Int) (n n' : Nat) (d d' : TypeDesc) (v v2 : Value)
    (hp : tmps.getD p undef = .pointer (some ⟨b, 0, none⟩)) (hpp : tmps.getD p' undef = .pointer (some ⟨b', 0, none⟩)) (hq : tmps.getD q undef = v) (hq2 : tmps.getD q2 undef = v2) (H : Has w b ns n) (H' : Has w b' ms n')
    (hu : P.underlying T = some d) (hd : d.isRow = true) (hi : (P.info? T).map (·.size) = some n) (hu' : P.underlying T' = some d') (hd' : d'.isRow = true) (hi' : (P.info? T').map (·.size) = some n') :
    (results fn tmps).run P w = .ok (.tuple #[.agg (ints ns).toArray, .agg (ints ms).toArray, v, v2]) w := by
  have hp' : tmps[p]?.getD undef = .pointer (some ⟨b, 0, none⟩) := by simpa using hp
  have hpp' : tmps[p']?.getD undef = .pointer (some ⟨b', 0, none⟩) := by simpa using hpp
  have hq' : tmps[q]?.getD undef = v := by simpa using hq
  have hq2' : tmps[q2]?.getD undef = v2 := by simpa using hq2
  have hl := run_loadVar_mid (P := P) w b 0 T (ints ns) d H.holds.range hu hd (by rw [ints_len, H.len]; exact hi)
  have hl' := run_loadVar_mid (P := P) w b' 0 T' (ints ms) d' H'.holds.range hu' hd' (by rw [ints_len, H'.len]; exact hi')
  simp [results, h, hp', hpp', hq', hq2', asAddr, hl, hl']
theorem res_two3 {P : Program} {fn : Func} {p p' q q2 q3 : Tmp} {T T' : TypeId} (h : fn.results = #[.cell p T, .cell p' T', .tmp q, .tmp q2, .tmp q3]) (tmps : Array Value) (w : World) (b b' : Nat) (ns ms : List Int) (n n' : Nat) (d d' : TypeDesc) (v v2 v3 : Value)
    (hp : tmps.getD p undef = .pointer (some ⟨b, 0, none⟩)) (hpp : tmps.getD p' undef = .pointer (some ⟨b', 0, none⟩)) (hq : tmps.getD q undef = v) (hq2 : tmps.getD q2 undef = v2) (hq3 : tmps.getD q3 undef = v3) (H : Has w b ns n) (H' : Has w b' ms n')
    (hu : P.underlying T = some d) (hd : d.isRow = true) (hi : (P.info? T).map (·.size) = some n) (hu' : P.underlying T' = some d') (hd' : d'.isRow = true) (hi' : (P.info? T').map (·.size) = some n') :
    (results fn tmps).run P w = .ok (.tuple #[.agg (ints ns).toArray, .agg (ints ms).toArray, v, v2, v3]) w := by
  have hp' : tmps[p]?.getD undef = .pointer (some ⟨b, 0, none⟩) := by simpa using hp
  have hpp' : tmps[p']?.getD undef = .pointer (some ⟨b', 0, none⟩) := by simpa using hpp
  have hq' : tmps[q]?.getD undef = v := by simpa using hq
  have hq2' : tmps[q2]?.getD undef = v2 := by simpa using hq2
  have hq3' : tmps[q3]?.getD undef = v3 := by simpa using hq3
  have hl := run_loadVar_mid (P := P) w b 0 T (ints ns) d H.holds.range hu hd (by rw [ints_len, H.len]; exact hi)
  have hl' := run_loadVar_mid (P := P) w b' 0 T' (ints ms) d' H'.holds.range hu' hd' (by rw [ints_len, H'.len]; exact hi')
  simp [results, h, hp', hpp', hq', hq2', hq3', asAddr, hl, hl']

set_option maxHeartbeats 6400000 in
set_option maxRecDepth 100000 in
theorem drawPourBy (a : Option Addr) (len cap : Nat) (w : World) (h : Code w a len) :
    Calls Try.prog 33 #[.slice a len cap] w (DrawnBy w) := by
  have R := (Has.zero24 w 27).alloc (.cells #[.int .i64 0, .int .i64 0, .int .i64 0, .int .i64 0, .int .i64 0, .int .i64 0] 28)
  have Z := (Has.zero6d (w.alloc (.cells #[.int .i64 0, .int .i64 0, .int .i64 0, .int .i64 0, .int .i64 0, .int .i64 0, .int .i64 0, .int .i64 0, .int .i64 0, .int .i64 0, .int .i64 0, .int .i64 0, .int .i64 0, .int .i64 0, .int .i64 0, .int .i64 0, .int .i64 0, .int .i64 0, .int .i64 0, .int .i64 0, .int .i64 0, .int .i64 0, .int .i64 0, .int .i64 0] 27)) 28).at (size1 _ _)
  have KB := Lib.hid (((kept_refl w).alloc (.cells #[.int .i64 0, .int .i64 0, .int .i64 0, .int .i64 0, .int .i64 0, .int .i64 0, .int .i64 0, .int .i64 0, .int .i64 0, .int .i64 0, .int .i64 0, .int .i64 0, .int .i64 0, .int .i64 0, .int .i64 0, .int .i64 0, .int .i64 0, .int .i64 0, .int .i64 0, .int .i64 0, .int .i64 0, .int .i64 0, .int .i64 0, .int .i64 0] 27)).alloc (.cells #[.int .i64 0, .int .i64 0, .int .i64 0, .int .i64 0, .int .i64 0, .int .i64 0] 28))
  have CW := Lib.hid (h.below KB.out)
  have C0 := cur_new (cap := cap) CW.out
  rw [size1, size1] at C0
  have C := Lib.hid C0
  clear C0
  replace R := R.alloc (.cells #[.slice a len cap, .int .i64 0, .int .u64 0] 48)
  replace Z := Z.alloc (.cells #[.slice a len cap, .int .i64 0, .int .u64 0] 48)
  replace KB := Lib.hid (KB.out.alloc (.cells #[.slice a len cap, .int .i64 0, .int .u64 0] 48))
  clear h CW
  go_enter Try.func33, Try.ntmps33
  go_wp2_with fail
  refine (ruleOf_any (w.heap.size + 1 + 1) _ _ C.out (by omega)).mono ?_
  rintro e w2 ⟨x, rfl, c2, m2⟩
  replace R := R.moved m2 (by omega)
  replace Z := Z.moved m2 (by omega)
  replace KB := Lib.hid (show Kept w w2 from Moved.below KB.out m2 (by omega) KB.out.size)
  replace C := Lib.hid (c2.mono (m := 10) (by omega))
  clear c2 m2
  go_wp2_with fail
  refine (rack_any (w.heap.size + 1 + 1) _ _ C.out (by omega)).mono ?_
  rintro e w3 ⟨ns, rfl, hl, c3, m3⟩
  replace R := R.moved m3 (by omega)
  replace Z := Z.moved m3 (by omega)
  replace KB := Lib.hid (show Kept w w3 from Moved.below KB.out m3 (by omega) KB.out.size)
  replace C := Lib.hid (c3.mono (m := 20000) (by omega))
  clear c3 m3
  have A := Has.box w3 27 hl (by omega)
  have ltg1 := KB.out.size
  have lcg1 := C.out.lt
  replace R := R.alloc (.cells (ints ns).toArray 27)
  replace Z := Z.alloc (.cells (ints ns).toArray 27)
  replace KB := Lib.hid (KB.out.alloc (.cells (ints ns).toArray 27))
  replace C := Lib.hid (Cur.alloc C.out (.cells (ints ns).toArray 27))

  go_wp2_with (first | (refine store_new rfl 27 _ _ rfl _ _ _ rfl _ rfl _ rfl rfl ?_ ?_ ?_; (· (first | assumption | rfl)); (· kernel_rfl)) | (refine guard_op (isLoad 27) ?_ ?_; (· rfl); (refine load_has rfl 27 _ rfl _ rfl ?_ 24 ?_ _ Try.underlying27 rfl ?_ ?_; rotate_left; (· (repeat (first | (with_reducible assumption) | ((with_reducible refine Has.box _ _ ?_ ?_) <;> (first | assumption | decide)) | (with_reducible refine Has.alloc ?_ _) | ((with_reducible refine Has.putOther ?_ _ _ ?_); rotate_left; omega; skip) | ((with_reducible refine Has.below ?_ ?_); rotate_left; assumption)))); (· kernel_rfl))))
  obtain ⟨g1, hg1⟩ : ∃ g1, w3.heap.size = g1 := ⟨_, rfl⟩
  rw [hg1] at A ltg1 lcg1  ⊢
  generalize w3.alloc (.cells (ints ns).toArray 27) = Vg1 at *
  clear hg1
  refine (depths_any (w.heap.size + 1 + 1) _ ns _ hl C.out (by omega)).mono ?_
  rintro e w4 ⟨ds, rfl, hd, c4, m4⟩
  replace R := R.moved m4 (by omega)
  replace Z := Z.moved m4 (by omega)
  replace KB := Lib.hid (show Kept w w4 from Moved.below KB.out m4 (by omega) KB.out.size)
  replace C := Lib.hid (c4.mono (m := 20200) (by omega))
  replace A := A.moved m4 (by omega)
  clear c4 m4
  have D := Has.box w4 28 hd (by omega)
  have ltg2 := KB.out.size
  have lcg2 := C.out.lt
  have lAg2 := A.lt
  replace R := R.alloc (.cells (ints ds).toArray 28)
  replace Z := Z.alloc (.cells (ints ds).toArray 28)
  replace KB := Lib.hid (KB.out.alloc (.cells (ints ds).toArray 28))
  replace C := Lib.hid (Cur.alloc C.out (.cells (ints ds).toArray 28))
  replace A := A.alloc (.cells (ints ds).toArray 28)
  go_wp2_with (first | (refine store_new rfl 28 _ _ rfl _ _ _ rfl _ rfl _ rfl rfl ?_ ?_ ?_; (· (first | assumption | rfl)); (· kernel_rfl)) | (refine guard_op (isLoad 27) ?_ ?_; (· rfl); (refine load_has rfl 27 _ rfl _ rfl ?_ 24 ?_ _ Try.underlying27 rfl ?_ ?_; rotate_left; (· (repeat (first | (with_reducible assumption) | ((with_reducible refine Has.box _ _ ?_ ?_) <;> (first | assumption | decide)) | (with_reducible refine Has.alloc ?_ _) | ((with_reducible refine Has.putOther ?_ _ _ ?_); rotate_left; omega; skip) | ((with_reducible refine Has.below ?_ ?_); rotate_left; assumption)))); (· kernel_rfl))))
  obtain ⟨g2, hg2⟩ : ∃ g2, w4.heap.size = g2 := ⟨_, rfl⟩
  rw [hg2] at D ltg2 lcg2 lAg2 ⊢
  generalize w4.alloc (.cells (ints ds).toArray 28) = Vg2 at *
  clear hg2
  refine (pour_any (w.heap.size + 1 + 1) _ ns _ hl C.out (by omega)).mono ?_
  rintro e w5 ⟨u, v, rfl, c5, m5⟩
  replace R := R.moved m5 (by omega)
  replace Z := Z.moved m5 (by omega)
  replace KB := Lib.hid (show Kept w w5 from Moved.below KB.out m5 (by omega) KB.out.size)
  replace C := Lib.hid (c5.mono (m := 20400) (by omega))
  replace A := A.moved m5 (by omega)
  replace D := D.moved m5 (by omega)
  clear c5 m5
  have hl2 : ([u, v] : List Int).length = 2 := rfl
  have P := Has.box w5 44 hl2 (by omega)
  have ltg3 := KB.out.size
  have lcg3 := C.out.lt
  have lAg3 := A.lt
  have lDg3 := D.lt
  replace R := R.alloc (.cells (ints [u, v]).toArray 44)
  replace Z := Z.alloc (.cells (ints [u, v]).toArray 44)
  replace KB := Lib.hid (KB.out.alloc (.cells (ints [u, v]).toArray 44))
  replace C := Lib.hid (Cur.alloc C.out (.cells (ints [u, v]).toArray 44))
  replace A := A.alloc (.cells (ints [u, v]).toArray 44)
  replace D := D.alloc (.cells (ints [u, v]).toArray 44)
  go_wp2_with (first | (refine store_new rfl 44 _ _ rfl _ _ _ rfl _ rfl _ rfl rfl ?_ ?_ ?_; (· (first | assumption | rfl)); (· kernel_rfl)) | (refine guard_op (isLoad 27) ?_ ?_; (· rfl); (refine load_has rfl 27 _ rfl _ rfl ?_ 24 ?_ _ Try.underlying27 rfl ?_ ?_; rotate_left; (· (repeat (first | (with_reducible assumption) | ((with_reducible refine Has.box _ _ ?_ ?_) <;> (first | assumption | decide)) | (with_reducible refine Has.alloc ?_ _) | ((with_reducible refine Has.putOther ?_ _ _ ?_); rotate_left; omega; skip) | ((with_reducible refine Has.below ?_ ?_); rotate_left; assumption)))); (· kernel_rfl))) | (refine guard_op (isLoad 28) ?_ ?_; (· rfl); (refine load_has rfl 28 _ rfl _ rfl ?_ 6 ?_ _ Try.underlying28 rfl ?_ ?_; rotate_left; (· (repeat (first | (with_reducible assumption) | ((with_reducible refine Has.box _ _ ?_ ?_) <;> (first | assumption | decide)) | (with_reducible refine Has.alloc ?_ _) | ((with_reducible refine Has.putOther ?_ _ _ ?_); rotate_left; omega; skip) | ((with_reducible refine Has.below ?_ ?_); rotate_left; assumption)))); (· kernel_rfl))))
  obtain ⟨g3, hg3⟩ : ∃ g3, w5.heap.size = g3 := ⟨_, rfl⟩
  rw [hg3] at P ltg3 lcg3 lAg3 lDg3 ⊢
  generalize w5.alloc (.cells (ints [u, v]).toArray 44) = Vg3 at *
  clear hg3
  refine (l8Fits_any ns ds _ hl hd).mono ?_
  rintro e w6 ⟨rfl, b6⟩
  replace R := R.below b6
  replace Z := Z.below b6
  replace KB := Lib.hid (KB.out.call b6)
  replace C := Lib.hid (C.out.below b6)
  replace A := A.below b6
  replace D := D.below b6
  replace P := P.below b6
  clear b6
  have hlt3 := P.lt
  have LN := Lib.hid (show (ints ns).length = 24 by rw [ints_len]; exact hl)
  have LD := Lib.hid (show (ints ds).length = 6 by rw [ints_len]; exact hd)
  have HI24 := Lib.hid (show (Try.prog.info? 27).map (·.size) = some 24 by kernel_rfl)
  have HI6 := Lib.hid (show (Try.prog.info? 28).map (·.size) = some 6 by kernel_rfl)
  have HIR := Lib.hid (show (Try.prog.info? 27).map (·.size) = some (ints ns).length by rw [LN.out]; exact HI24.out)
  have HID := Lib.hid (show (Try.prog.info? 28).map (·.size) = some (ints ds).length by rw [LD.out]; exact HI6.out)
  by_cases hf : fitA ns ds = true
  case' pos =>
    rw [hf]
    have HF := Lib.hid hf
    clear hf
    go_wp2_with fail
    refine (one_any (w.heap.size + 1 + 1) _ 2 _ C.out (by omega) (by omega) (by omega)).mono ?_
    rintro e w7 ⟨t, rfl, c7, m7⟩
    replace R := R.moved m7 (by omega)
    replace Z := Z.moved m7 (by omega)
    replace KB := Lib.hid (show Kept w w7 from Moved.below KB.out m7 (by omega) KB.out.size)
    replace C := Lib.hid (c7.mono (m := 20402) (by omega))
    replace A := A.moved m7 (by omega)
    replace D := D.moved m7 (by omega)
    replace P := P.moved m7 (by omega)
    clear c7 m7
    cases t
    case' true =>
      go_wp2_with (first | (refine load_has rfl 27 _ rfl _ rfl ?_ 24 ?_ _ Try.underlying27 rfl ?_ ?_; rotate_left; (· (repeat (first | (with_reducible assumption) | ((with_reducible refine Has.box _ _ ?_ ?_) <;> (first | assumption | decide)) | (with_reducible refine Has.alloc ?_ _) | ((with_reducible refine Has.putOther ?_ _ _ ?_); rotate_left; omega; skip) | ((with_reducible refine Has.below ?_ ?_); rotate_left; assumption)))); (· kernel_rfl)) | (refine load_has rfl 28 _ rfl _ rfl ?_ 6 ?_ _ Try.underlying28 rfl ?_ ?_; rotate_left; (· (repeat (first | (with_reducible assumption) | ((with_reducible refine Has.box _ _ ?_ ?_) <;> (first | assumption | decide)) | (with_reducible refine Has.alloc ?_ _) | ((with_reducible refine Has.putOther ?_ _ _ ?_); rotate_left; omega; skip) | ((with_reducible refine Has.below ?_ ?_); rotate_left; assumption)))); (· kernel_rfl)))
      refine (l8Pours_any ns ds 4 _ hl hd HF.out (by rfl)).mono ?_
      rintro e w8 ⟨pv, rfl, q8, b8⟩
      have hs8 := P.lt
      replace R := R.below b8
      replace Z := Z.below b8
      replace KB := Lib.hid (KB.out.call b8)
      replace C := Lib.hid (C.out.below b8)
      replace A := A.below b8
      replace D := D.below b8
      replace P := P.below b8
      clear b8
      have hN := pN_le (byP ns ds 4) 36
      have P8 := Lib.hid q8
      obtain ⟨a8, c8, hv8⟩ := (show ∃ a8 c8, pv = .slice a8 (pN (byP ns ds 4) 36) c8 from q8.rw.shape)
      clear q8
      subst hv8
      generalize pN (byP ns ds 4) 36 = n at *
      generalize pF (byP ns ds 4) 36 = fs at *
      rcases n with _ | n
      rotate_left
      case' succ =>
        obtain ⟨g, cap8, he8, hg8, _⟩ := P8.out.form (by omega)
        injection he8 with ha8 _ hc8
        subst ha8
        subst hc8
        have n0 : (0 : Int) < (n : Int) + 1 := by omega
        have n0' : (0 : Int) < ((n + 1 : Nat) : Int) := by omega
        go_wp2_with fail
        refine (pick_any (w.heap.size + 1 + 1) _ ((n : Int) + 1) _ C.out (by omega) (by omega) (by omega)).mono ?_
        rintro e w9 ⟨z, rfl, z0, z1, c9, m9⟩
        obtain ⟨q, rfl⟩ : ∃ q : Nat, z = (q : Int) := ⟨z.toNat, by omega⟩
        have hq : q < n + 1 := by omega
        have P9 := P8.out.moved m9 (by omega)
        replace R := R.moved m9 (by omega)
        replace Z := Z.moved m9 (by omega)
        replace KB := Lib.hid (show Kept w w9 from Moved.below KB.out m9 (by omega) KB.out.size)
        replace C := Lib.hid (c9.mono (m := 20404) (by omega))
        replace A := A.moved m9 (by omega)
        replace D := D.moved m9 (by omega)
        replace P := P.moved m9 (by omega)
        clear c9 m9
        have RG : Hid (w9.rangeAt g (q * 2) (ints [fs.getD (q * 2) 0, fs.getD (q * 2 + 1) 0])) := Lib.hid (range_two (P9.cell (q * 2) (by omega)) (P9.cell (q * 2 + 1) (by omega)))
        generalize fs.getD (q * 2) 0 = u2 at *
        generalize fs.getD (q * 2 + 1) 0 = v2 at *
        have TH := Lib.hid P.there
        have R2 := R.putOther (b' := g3) 0 (ints [u2, v2]) (by omega)
        have Z2 := Z.putOther (b' := g3) 0 (ints [u2, v2]) (by omega)
        have A2 := A.putOther (b' := g3) 0 (ints [u2, v2]) (by omega)
        have D2 := D.putOther (b' := g3) 0 (ints [u2, v2]) (by omega)
        have PP2 := P.putAll [u2, v2] rfl
        have KB2 := Lib.hid (KB.out.puts (b := g3) (by omega) 0 (ints [u2, v2]))
        clear P8 P9 R Z A D P KB hs8
        go_wp2_with (first | (refine wpList_load_mid rfl 44 _ rfl g (q * 2) rfl (ints [u2, v2]) _ RG.out Try.underlying44 rfl (by kernel_rfl) ?_) | (refine store_has rfl 44 _ _ rfl g3 0 [u2, v2] rfl rfl 2 rfl TH.out ?_ ?_; (· kernel_rfl)))
        clear RG TH
        obtain ⟨i, j, P⟩ : ∃ i j : Int, Has (w9.setCells g3 0 (ints [u2, v2])) g3 [i, j] 2 := ⟨_, _, PP2⟩
        have R := R2
        have Z := Z2
        have A := A2
        have D := D2
        have KB := KB2
        clear PP2 R2 Z2 A2 D2 KB2
        generalize w9.setCells g3 0 (ints [u2, v2]) = WF at *
      case' zero =>
        clear P8 hs8
        go_wp2_with fail
        obtain ⟨i, j, P⟩ : ∃ i j : Int, Has w8 g3 [i, j] 2 := ⟨_, _, P⟩
        generalize w8 = WF at *
    case' false =>
      go_wp2_with fail
      obtain ⟨i, j, P⟩ : ∃ i j : Int, Has w7 g3 [i, j] 2 := ⟨_, _, P⟩
      generalize w7 = WF at *
  case' neg =>
    have hff : fitA ns ds = false := by simpa using hf
    rw [hff]
    clear hf hff
    go_wp2_with fail
    obtain ⟨i, j, P⟩ : ∃ i j : Int, Has w6 g3 [i, j] 2 := ⟨_, _, P⟩
    generalize w6 = WF at *
  all_goals
    clear C
    refine wp_region_held_drew (S := fun w' => Has w' g1 ns 24 ∧ Has w' g2 ds 6 ∧ Has w' g3 [i, j] 2) (by kernel_rfl) ⟨A.drew, D.drew, P.drew⟩ (fun hHeld => ?_)
    replace R := R.drew
    replace Z := Z.drew
    replace KB := Lib.hid (keptDrew8 KB.out)
    generalize hWD : World.drew _ = WD at *
    clear hWD
    (refine wpAnyH_take (i := 0) (v := _) rfl (by kernel_rfl) (by kernel_rfl) (by kernel_rfl) (fun _ _ _ h => h) (yieldsIf_load_mid (by rfl) 27 _ rfl _ _ rfl (ints ns) _ (fun w' hSw => hSw.1.holds.range) Try.underlying27 rfl (HIR.out)) hHeld ?_; (try simp only [List.getElem_toArray, List.getElem_cons_zero, List.getElem_cons_succ, Act.put, List.setIfInBounds_toArray, List.set_cons_zero, List.set_cons_succ]))
    (refine wpAnyH_take (i := 1) (v := _) rfl (by kernel_rfl) (by kernel_rfl) (by kernel_rfl) (fun _ _ _ h => h) (yieldsIf_load_mid (by rfl) 28 _ rfl _ _ rfl (ints ds) _ (fun w' hSw => hSw.2.1.holds.range) Try.underlying28 rfl (HID.out)) hHeld ?_; (try simp only [List.getElem_toArray, List.getElem_cons_zero, List.getElem_cons_succ, Act.put, List.setIfInBounds_toArray, List.set_cons_zero, List.set_cons_succ]))
    (refine wpAnyH_take (i := 2) (v := ?_) rfl (by kernel_rfl) (by kernel_rfl) (by kernel_rfl) (fun _ _ _ h => h) (Or.inl ⟨by rfl, ?_⟩) hHeld ?_; rotate_left; (· (intro w' hSw; go_simp; try with_reducible rfl)); (try simp only [List.getElem_toArray, List.getElem_cons_zero, List.getElem_cons_succ, Act.put, List.setIfInBounds_toArray, List.set_cons_zero, List.set_cons_succ])); (refine wpAnyH_take (i := 3) (v := ?_) rfl (by kernel_rfl) (by kernel_rfl) (by kernel_rfl) (fun _ _ _ h => h) (Or.inl ⟨by rfl, ?_⟩) hHeld ?_; rotate_left; (· (intro w' hSw; go_simp; try with_reducible rfl)); (try simp only [List.getElem_toArray, List.getElem_cons_zero, List.getElem_cons_succ, Act.put, List.setIfInBounds_toArray, List.set_cons_zero, List.set_cons_succ]))
    (refine wpAnyH_take (i := 4) (v := .int .i64 i) rfl (by kernel_rfl) (by kernel_rfl) (by kernel_rfl) (fun _ _ _ h => h) (Or.inl ⟨by rfl, ?_⟩) hHeld ?_; (· (intro w' hSw; have q := hSw.2.2.cell 0 (by omega); clear hSw; go_simp; try with_reducible rfl)); (try simp only [List.getElem_toArray, List.getElem_cons_zero, List.getElem_cons_succ, Act.put, List.setIfInBounds_toArray, List.set_cons_zero, List.set_cons_succ]))
    (refine wpAnyH_take (i := 5) (v := ?_) rfl (by kernel_rfl) (by kernel_rfl) (by kernel_rfl) (fun _ _ _ h => h) (Or.inl ⟨by rfl, ?_⟩) hHeld ?_; rotate_left; (· (intro w' hSw; go_simp; try with_reducible rfl)); (try simp only [List.getElem_toArray, List.getElem_cons_zero, List.getElem_cons_succ, Act.put, List.setIfInBounds_toArray, List.set_cons_zero, List.set_cons_succ]))
    (refine wpAnyH_take (i := 6) (v := .int .i64 j) rfl (by kernel_rfl) (by kernel_rfl) (by kernel_rfl) (fun _ _ _ h => h) (Or.inl ⟨by rfl, ?_⟩) hHeld ?_; (· (intro w' hSw; have q := hSw.2.2.cell 1 (by omega); clear hSw; go_simp; try with_reducible rfl)); (try simp only [List.getElem_toArray, List.getElem_cons_zero, List.getElem_cons_succ, Act.put, List.setIfInBounds_toArray, List.set_cons_zero, List.set_cons_succ]))
    have L1 := Lib.hid (R.putAll ns hl)
    have L2 := Lib.hid (Z.putOther (b' := w.heap.size) 0 (ints ns) (by omega))
    have L3 := Lib.hid (KB.out.puts (b := w.heap.size) (Nat.le_refl _) 0 (ints ns))
    (refine wpAnyH_ready (rs := [7]) (by kernel_rfl) (by simp) ?_; refine AllReadyH.cons (o := _) rfl (fun K hK => ?_) AllReadyH.nil; (simp only [List.getElem_toArray, List.getElem_cons_zero, List.getElem_cons_succ, Region.wanted, if_true]); refine wp_store_mid _ _ _ rfl _ _ (ints ns).toArray rfl rfl (by simpa [LN.out] using R.there) (by simpa [LN.out] using HI24.out) (all_oneCell_toArray (ints_one _)) ?_; (try simp only [List.getElem_toArray, List.getElem_cons_zero, List.getElem_cons_succ, Act.put, List.setIfInBounds_toArray, List.set_cons_zero, List.set_cons_succ, List.toList_toArray]); refine hK.out _ _ (⟨hHeld.1.putOther (b' := w.heap.size) 0 (ints ns) (by omega), hHeld.2.1.putOther (b' := w.heap.size) 0 (ints ns) (by omega), hHeld.2.2.putOther (b' := w.heap.size) 0 (ints ns) (by omega)⟩) (fun hHeld => ?_); clear hK K)
    have L4 := Lib.hid (L2.out.putAll ds hd)
    have L5 := Lib.hid (L1.out.putOther (b' := w.heap.size + 1) 0 (ints ds) (by omega))
    have L6 := Lib.hid (L3.out.puts (b := w.heap.size + 1) (by omega) 0 (ints ds))
    (refine wpAnyH_ready (rs := [8]) (by kernel_rfl) (by simp) ?_; refine AllReadyH.cons (o := _) rfl (fun K hK => ?_) AllReadyH.nil; (simp only [List.getElem_toArray, List.getElem_cons_zero, List.getElem_cons_succ, Region.wanted, if_true]); refine wp_store_mid _ _ _ rfl _ _ (ints ds).toArray rfl rfl (by simpa [LD.out] using L2.out.there) (by simpa [LD.out] using HI6.out) (all_oneCell_toArray (ints_one _)) ?_; (try simp only [List.getElem_toArray, List.getElem_cons_zero, List.getElem_cons_succ, Act.put, List.setIfInBounds_toArray, List.set_cons_zero, List.set_cons_succ, List.toList_toArray]); refine hK.out _ _ (⟨hHeld.1.putOther (b' := w.heap.size + 1) 0 (ints ds) (by omega), hHeld.2.1.putOther (b' := w.heap.size + 1) 0 (ints ds) (by omega), hHeld.2.2.putOther (b' := w.heap.size + 1) 0 (ints ds) (by omega)⟩) (fun hHeld => ?_); clear hK K)
    (refine wpAnyH_take (i := 9) (v := ?_) rfl (by kernel_rfl) (by kernel_rfl) (by kernel_rfl) (fun _ _ _ h => h) (Or.inl ⟨by rfl, ?_⟩) hHeld ?_; rotate_left; (· (intro w' hSw; go_simp; try with_reducible rfl)); (try simp only [List.getElem_toArray, List.getElem_cons_zero, List.getElem_cons_succ, Act.put, List.setIfInBounds_toArray, List.set_cons_zero, List.set_cons_succ])); (refine wpAnyH_take (i := 10) (v := ?_) rfl (by kernel_rfl) (by kernel_rfl) (by kernel_rfl) (fun _ _ _ h => h) (Or.inl ⟨by rfl, ?_⟩) hHeld ?_; rotate_left; (· (intro w' hSw; go_simp; try with_reducible rfl)); (try simp only [List.getElem_toArray, List.getElem_cons_zero, List.getElem_cons_succ, Act.put, List.setIfInBounds_toArray, List.set_cons_zero, List.set_cons_succ])); (refine wpAnyH_take (i := 11) (v := ?_) rfl (by kernel_rfl) (by kernel_rfl) (by kernel_rfl) (fun _ _ _ h => h) (Or.inl ⟨by rfl, ?_⟩) hHeld ?_; rotate_left; (· (intro w' hSw; go_simp; try with_reducible rfl)); (try simp only [List.getElem_toArray, List.getElem_cons_zero, List.getElem_cons_succ, Act.put, List.setIfInBounds_toArray, List.set_cons_zero, List.set_cons_succ]))
    refine wpAnyH_done (by kernel_rfl) ?_ _
    clear hHeld
    go_wp2_with fail
    exact bodyPost_ret (res_two3 rfl _ _ w.heap.size (w.heap.size + 1) ns ds 24 6 _ _ (.int .i64 x) (.int .i64 i) (.int .i64 j) rfl rfl rfl rfl rfl L5.out L4.out Try.underlying27 rfl (by kernel_rfl) Try.underlying28 rfl (by kernel_rfl)) rfl ⟨ns, ds, x, i, j, rfl, hl, hd, L6.out⟩

set_option maxHeartbeats 3200000 in
set_option maxRecDepth 100000 in
theorem drawPoursBy (a : Option Addr) (len cap : Nat) (w : World) (h : Code w a len) :
    Calls Try.prog 11 #[.slice a len cap] w (DrawnThree w) := by
  have R := (Has.zero24 w 27).alloc (.cells #[.int .i64 0, .int .i64 0, .int .i64 0, .int .i64 0, .int .i64 0, .int .i64 0] 28)
  have Z := (Has.zero6d (w.alloc (.cells #[.int .i64 0, .int .i64 0, .int .i64 0, .int .i64 0, .int .i64 0, .int .i64 0, .int .i64 0, .int .i64 0, .int .i64 0, .int .i64 0, .int .i64 0, .int .i64 0, .int .i64 0, .int .i64 0, .int .i64 0, .int .i64 0, .int .i64 0, .int .i64 0, .int .i64 0, .int .i64 0, .int .i64 0, .int .i64 0, .int .i64 0, .int .i64 0] 27)) 28).at (size1 _ _)
  have KB := Lib.hid (((kept_refl w).alloc (.cells #[.int .i64 0, .int .i64 0, .int .i64 0, .int .i64 0, .int .i64 0, .int .i64 0, .int .i64 0, .int .i64 0, .int .i64 0, .int .i64 0, .int .i64 0, .int .i64 0, .int .i64 0, .int .i64 0, .int .i64 0, .int .i64 0, .int .i64 0, .int .i64 0, .int .i64 0, .int .i64 0, .int .i64 0, .int .i64 0, .int .i64 0, .int .i64 0] 27)).alloc (.cells #[.int .i64 0, .int .i64 0, .int .i64 0, .int .i64 0, .int .i64 0, .int .i64 0] 28))
  have CW := Lib.hid (h.below KB.out)
  have H0 := Lib.hid h
  clear h
  go_enter Try.func11, Try.ntmps11
  go_wp2_with fail
  refine (drawPourBy a len cap _ CW.out).mono ?_
  rintro e w3 ⟨ns, ds, x, i, j, rfl, hl, hd, b3⟩
  clear CW H0
  replace R := R.below b3
  replace Z := Z.below b3
  replace KB := Lib.hid (KB.out.call b3)
  clear b3
  have LN := Lib.hid (show (ints ns).length = 24 by rw [ints_len]; exact hl)
  have LD := Lib.hid (show (ints ds).length = 6 by rw [ints_len]; exact hd)
  have HI24 := Lib.hid (show (Try.prog.info? 27).map (·.size) = some 24 by kernel_rfl)
  have HI6 := Lib.hid (show (Try.prog.info? 28).map (·.size) = some 6 by kernel_rfl)
  have HIR := Lib.hid (show (Try.prog.info? 27).map (·.size) = some (ints ns).length by rw [LN.out]; exact HI24.out)
  have HID := Lib.hid (show (Try.prog.info? 28).map (·.size) = some (ints ds).length by rw [LD.out]; exact HI6.out)
  have A0 := (Has.zero24 w3 27).alloc (.cells #[.int .i64 0, .int .i64 0, .int .i64 0, .int .i64 0, .int .i64 0, .int .i64 0] 28)
  have D0 := (Has.zero6d (w3.alloc (.cells #[.int .i64 0, .int .i64 0, .int .i64 0, .int .i64 0, .int .i64 0, .int .i64 0, .int .i64 0, .int .i64 0, .int .i64 0, .int .i64 0, .int .i64 0, .int .i64 0, .int .i64 0, .int .i64 0, .int .i64 0, .int .i64 0, .int .i64 0, .int .i64 0, .int .i64 0, .int .i64 0, .int .i64 0, .int .i64 0, .int .i64 0, .int .i64 0] 27)) 28).at (size1 _ _)
  have lt1 := KB.out.size
  have lt2 := Z.lt
  have A1 := A0.putAll ns hl
  have D1 := D0.putOther (b' := w3.heap.size) 0 (ints ns) (by omega)
  have A := A1.putOther (b' := w3.heap.size + 1) 0 (ints ds) (by omega)
  have D := D1.putAll ds hd
  replace R := R.alloc (.cells #[.int .i64 0, .int .i64 0, .int .i64 0, .int .i64 0, .int .i64 0, .int .i64 0, .int .i64 0, .int .i64 0, .int .i64 0, .int .i64 0, .int .i64 0, .int .i64 0, .int .i64 0, .int .i64 0, .int .i64 0, .int .i64 0, .int .i64 0, .int .i64 0, .int .i64 0, .int .i64 0, .int .i64 0, .int .i64 0, .int .i64 0, .int .i64 0] 27)
  replace Z := Z.alloc (.cells #[.int .i64 0, .int .i64 0, .int .i64 0, .int .i64 0, .int .i64 0, .int .i64 0, .int .i64 0, .int .i64 0, .int .i64 0, .int .i64 0, .int .i64 0, .int .i64 0, .int .i64 0, .int .i64 0, .int .i64 0, .int .i64 0, .int .i64 0, .int .i64 0, .int .i64 0, .int .i64 0, .int .i64 0, .int .i64 0, .int .i64 0, .int .i64 0] 27)
  replace KB := Lib.hid (KB.out.alloc (.cells #[.int .i64 0, .int .i64 0, .int .i64 0, .int .i64 0, .int .i64 0, .int .i64 0, .int .i64 0, .int .i64 0, .int .i64 0, .int .i64 0, .int .i64 0, .int .i64 0, .int .i64 0, .int .i64 0, .int .i64 0, .int .i64 0, .int .i64 0, .int .i64 0, .int .i64 0, .int .i64 0, .int .i64 0, .int .i64 0, .int .i64 0, .int .i64 0] 27))
  replace R := R.alloc (.cells #[.int .i64 0, .int .i64 0, .int .i64 0, .int .i64 0, .int .i64 0, .int .i64 0] 28)
  replace Z := Z.alloc (.cells #[.int .i64 0, .int .i64 0, .int .i64 0, .int .i64 0, .int .i64 0, .int .i64 0] 28)
  replace KB := Lib.hid (KB.out.alloc (.cells #[.int .i64 0, .int .i64 0, .int .i64 0, .int .i64 0, .int .i64 0, .int .i64 0] 28))
  replace R := (R.putOther (b' := w3.heap.size) 0 (ints ns) (by omega)).putOther (b' := w3.heap.size + 1) 0 (ints ds) (by omega)
  replace Z := (Z.putOther (b' := w3.heap.size) 0 (ints ns) (by omega)).putOther (b' := w3.heap.size + 1) 0 (ints ds) (by omega)
  replace KB := Lib.hid ((KB.out.puts (b := w3.heap.size) (by omega) 0 (ints ns)).puts (b := w3.heap.size + 1) (by omega) 0 (ints ds))
  go_wp2_with (first | (refine store_at rfl 27 _ _ rfl _ _ rfl rfl ?_ 24 ?_ ?_ ?_ ?_; rotate_left; (· (repeat (first | (with_reducible assumption) | ((with_reducible refine Has.box _ _ ?_ ?_) <;> (first | assumption | decide)) | (with_reducible refine Has.alloc ?_ _) | ((with_reducible refine Has.putOther ?_ _ _ ?_); rotate_left; omega; skip) | ((with_reducible refine Has.below ?_ ?_); rotate_left; assumption)))); (· (first | assumption | rfl)); (· kernel_rfl)) | (refine store_at rfl 28 _ _ rfl _ _ rfl rfl ?_ 6 ?_ ?_ ?_ ?_; rotate_left; (· (repeat (first | (with_reducible assumption) | ((with_reducible refine Has.box _ _ ?_ ?_) <;> (first | assumption | decide)) | (with_reducible refine Has.alloc ?_ _) | ((with_reducible refine Has.putOther ?_ _ _ ?_); rotate_left; omega; skip) | ((with_reducible refine Has.below ?_ ?_); rotate_left; assumption)))); (· (first | assumption | rfl)); (· kernel_rfl)))
  clear A0 D0 A1 D1
  skip
  refine wp_region_held_drew (S := fun w' => Has w' w3.heap.size ns 24 ∧ Has w' (w3.heap.size + 1) ds 6) (by kernel_rfl) ⟨A.drew, D.drew⟩ (fun hHeld => ?_)
  replace R := R.drew
  replace Z := Z.drew
  replace KB := Lib.hid (keptDrew8 KB.out)
  generalize hWD : World.drew _ = WD at *
  clear hWD
  (refine wpAnyH_take (i := 0) (v := _) rfl (by kernel_rfl) (by kernel_rfl) (by kernel_rfl) (fun _ _ _ h => h) (yieldsIf_load_mid (by rfl) 27 _ rfl _ _ rfl (ints ns) _ (fun w' hSw => hSw.1.holds.range) Try.underlying27 rfl (HIR.out)) hHeld ?_; (try simp only [List.getElem_toArray, List.getElem_cons_zero, List.getElem_cons_succ, Act.put, List.setIfInBounds_toArray, List.set_cons_zero, List.set_cons_succ]))
  (refine wpAnyH_take (i := 1) (v := _) rfl (by kernel_rfl) (by kernel_rfl) (by kernel_rfl) (fun _ _ _ h => h) (yieldsIf_load_mid (by rfl) 28 _ rfl _ _ rfl (ints ds) _ (fun w' hSw => hSw.2.holds.range) Try.underlying28 rfl (HID.out)) hHeld ?_; (try simp only [List.getElem_toArray, List.getElem_cons_zero, List.getElem_cons_succ, Act.put, List.setIfInBounds_toArray, List.set_cons_zero, List.set_cons_succ]))
  (refine wpAnyH_take (i := 2) (v := ?_) rfl (by kernel_rfl) (by kernel_rfl) (by kernel_rfl) (fun _ _ _ h => h) (Or.inl ⟨by rfl, ?_⟩) hHeld ?_; rotate_left; (· (intro w' hSw; go_simp; try with_reducible rfl)); (try simp only [List.getElem_toArray, List.getElem_cons_zero, List.getElem_cons_succ, Act.put, List.setIfInBounds_toArray, List.set_cons_zero, List.set_cons_succ]))
  have L1 := Lib.hid (R.putAll ns hl)
  have L2 := Lib.hid (Z.putOther (b' := w.heap.size) 0 (ints ns) (by omega))
  have L3 := Lib.hid (KB.out.puts (b := w.heap.size) (Nat.le_refl _) 0 (ints ns))
  (refine wpAnyH_ready (rs := [3]) (by kernel_rfl) (by simp) ?_; refine AllReadyH.cons (o := _) rfl (fun K hK => ?_) AllReadyH.nil; (simp only [List.getElem_toArray, List.getElem_cons_zero, List.getElem_cons_succ, Region.wanted, if_true]); refine wp_store_mid _ _ _ rfl _ _ (ints ns).toArray rfl rfl (by simpa [LN.out] using R.there) (by simpa [LN.out] using HI24.out) (all_oneCell_toArray (ints_one _)) ?_; (try simp only [List.getElem_toArray, List.getElem_cons_zero, List.getElem_cons_succ, Act.put, List.setIfInBounds_toArray, List.set_cons_zero, List.set_cons_succ, List.toList_toArray]); refine hK.out _ _ (⟨hHeld.1.putOther (b' := w.heap.size) 0 (ints ns) (by omega), hHeld.2.putOther (b' := w.heap.size) 0 (ints ns) (by omega)⟩) (fun hHeld => ?_); clear hK K)
  have L4 := Lib.hid (L2.out.putAll ds hd)
  have L5 := Lib.hid (L1.out.putOther (b' := w.heap.size + 1) 0 (ints ds) (by omega))
  have L6 := Lib.hid (L3.out.puts (b := w.heap.size + 1) (by omega) 0 (ints ds))
  (refine wpAnyH_ready (rs := [4]) (by kernel_rfl) (by simp) ?_; refine AllReadyH.cons (o := _) rfl (fun K hK => ?_) AllReadyH.nil; (simp only [List.getElem_toArray, List.getElem_cons_zero, List.getElem_cons_succ, Region.wanted, if_true]); refine wp_store_mid _ _ _ rfl _ _ (ints ds).toArray rfl rfl (by simpa [LD.out] using L2.out.there) (by simpa [LD.out] using HI6.out) (all_oneCell_toArray (ints_one _)) ?_; (try simp only [List.getElem_toArray, List.getElem_cons_zero, List.getElem_cons_succ, Act.put, List.setIfInBounds_toArray, List.set_cons_zero, List.set_cons_succ, List.toList_toArray]); refine hK.out _ _ (⟨hHeld.1.putOther (b' := w.heap.size + 1) 0 (ints ds) (by omega), hHeld.2.putOther (b' := w.heap.size + 1) 0 (ints ds) (by omega)⟩) (fun hHeld => ?_); clear hK K)
  (refine wpAnyH_take (i := 5) (v := ?_) rfl (by kernel_rfl) (by kernel_rfl) (by kernel_rfl) (fun _ _ _ h => h) (Or.inl ⟨by rfl, ?_⟩) hHeld ?_; rotate_left; (· (intro w' hSw; go_simp; try with_reducible rfl)); (try simp only [List.getElem_toArray, List.getElem_cons_zero, List.getElem_cons_succ, Act.put, List.setIfInBounds_toArray, List.set_cons_zero, List.set_cons_succ]))
  refine wpAnyH_done (by kernel_rfl) ?_ _
  clear hHeld
  go_wp2_with fail
  exact bodyPost_ret (res_two rfl _ _ w.heap.size (w.heap.size + 1) ns ds 24 6 _ _ (.int .i64 x) rfl rfl rfl L5.out L4.out Try.underlying27 rfl (by kernel_rfl) Try.underlying28 rfl (by kernel_rfl)) rfl ⟨ns, ds, x, rfl, hl, hd, L6.out⟩

set_option maxHeartbeats 3200000 in
set_option maxRecDepth 100000 in
theorem drawReachBy (a : Option Addr) (len cap : Nat) (w : World) (h : Code w a len) :
    Calls Try.prog 8 #[.slice a len cap] w (DrawnFour w) := by
  have R := (Has.zero24 w 27).alloc (.cells #[.int .i64 0, .int .i64 0, .int .i64 0, .int .i64 0, .int .i64 0, .int .i64 0] 28)
  have Z := (Has.zero6d (w.alloc (.cells #[.int .i64 0, .int .i64 0, .int .i64 0, .int .i64 0, .int .i64 0, .int .i64 0, .int .i64 0, .int .i64 0, .int .i64 0, .int .i64 0, .int .i64 0, .int .i64 0, .int .i64 0, .int .i64 0, .int .i64 0, .int .i64 0, .int .i64 0, .int .i64 0, .int .i64 0, .int .i64 0, .int .i64 0, .int .i64 0, .int .i64 0, .int .i64 0] 27)) 28).at (size1 _ _)
  have KB := Lib.hid (((kept_refl w).alloc (.cells #[.int .i64 0, .int .i64 0, .int .i64 0, .int .i64 0, .int .i64 0, .int .i64 0, .int .i64 0, .int .i64 0, .int .i64 0, .int .i64 0, .int .i64 0, .int .i64 0, .int .i64 0, .int .i64 0, .int .i64 0, .int .i64 0, .int .i64 0, .int .i64 0, .int .i64 0, .int .i64 0, .int .i64 0, .int .i64 0, .int .i64 0, .int .i64 0] 27)).alloc (.cells #[.int .i64 0, .int .i64 0, .int .i64 0, .int .i64 0, .int .i64 0, .int .i64 0] 28))
  have CW := Lib.hid (h.below KB.out)
  have C0 := cur_new (cap := cap) CW.out
  rw [size1, size1] at C0
  have C := Lib.hid C0
  clear C0
  replace R := R.alloc (.cells #[.slice a len cap, .int .i64 0, .int .u64 0] 48)
  replace Z := Z.alloc (.cells #[.slice a len cap, .int .i64 0, .int .u64 0] 48)
  replace KB := Lib.hid (KB.out.alloc (.cells #[.slice a len cap, .int .i64 0, .int .u64 0] 48))
  have H0 := Lib.hid h
  clear h
  go_enter Try.func8, Try.ntmps8
  go_wp2_with fail
  refine (among_at (fun _ => True) (w.heap.size + 1 + 1) 0 6 (w.heap.size + 1 + 1 + 1) (((w.alloc (.cells #[.int .i64 0, .int .i64 0, .int .i64 0, .int .i64 0, .int .i64 0, .int .i64 0, .int .i64 0, .int .i64 0, .int .i64 0, .int .i64 0, .int .i64 0, .int .i64 0, .int .i64 0, .int .i64 0, .int .i64 0, .int .i64 0, .int .i64 0, .int .i64 0, .int .i64 0, .int .i64 0, .int .i64 0, .int .i64 0, .int .i64 0, .int .i64 0] 27)).alloc (.cells #[.int .i64 0, .int .i64 0, .int .i64 0, .int .i64 0, .int .i64 0, .int .i64 0] 28)).alloc (.cells #[.slice a len cap, .int .i64 0, .int .u64 0] 48)) #[.int .i64 1, .int .i64 2, .int .i64 0, .int .i64 1, .int .i64 3, .int .i64 (-1)] 3 (by rw [size1, size1, size1]) C.out (by omega) rfl (by omega) (by omega) (anyInts _ rfl)).mono ?_
  rintro e w2 ⟨i, rfl, _, c2, m2⟩
  clear CW
  replace R := R.moved m2 (by omega)
  replace Z := Z.moved m2 (by omega)
  replace KB := Lib.hid (show Kept w w2 from Moved.below KB.out m2 (by omega) KB.out.size)
  replace C := Lib.hid c2
  clear c2 m2
  have CW := Lib.hid (H0.out.below KB.out)
  go_wp2_with fail
  refine (drawPoursBy a len cap _ CW.out).mono ?_
  rintro e w3 ⟨ns, ds, x, rfl, hl, hd, b3⟩
  clear CW H0
  replace R := R.below b3
  replace Z := Z.below b3
  replace KB := Lib.hid (KB.out.call b3)
  replace C := Lib.hid (C.out.below b3)
  clear b3
  have LN := Lib.hid (show (ints ns).length = 24 by rw [ints_len]; exact hl)
  have LD := Lib.hid (show (ints ds).length = 6 by rw [ints_len]; exact hd)
  have HI24 := Lib.hid (show (Try.prog.info? 27).map (·.size) = some 24 by kernel_rfl)
  have HI6 := Lib.hid (show (Try.prog.info? 28).map (·.size) = some 6 by kernel_rfl)
  have HIR := Lib.hid (show (Try.prog.info? 27).map (·.size) = some (ints ns).length by rw [LN.out]; exact HI24.out)
  have HID := Lib.hid (show (Try.prog.info? 28).map (·.size) = some (ints ds).length by rw [LD.out]; exact HI6.out)
  have A0 := (Has.zero24 w3 27).alloc (.cells #[.int .i64 0, .int .i64 0, .int .i64 0, .int .i64 0, .int .i64 0, .int .i64 0] 28)
  have D0 := (Has.zero6d (w3.alloc (.cells #[.int .i64 0, .int .i64 0, .int .i64 0, .int .i64 0, .int .i64 0, .int .i64 0, .int .i64 0, .int .i64 0, .int .i64 0, .int .i64 0, .int .i64 0, .int .i64 0, .int .i64 0, .int .i64 0, .int .i64 0, .int .i64 0, .int .i64 0, .int .i64 0, .int .i64 0, .int .i64 0, .int .i64 0, .int .i64 0, .int .i64 0, .int .i64 0] 27)) 28).at (size1 _ _)
  have lt1 := KB.out.size
  have lt2 := Z.lt
  have A1 := A0.putAll ns hl
  have D1 := D0.putOther (b' := w3.heap.size) 0 (ints ns) (by omega)
  have A := A1.putOther (b' := w3.heap.size + 1) 0 (ints ds) (by omega)
  have D := D1.putAll ds hd
  replace R := R.alloc (.cells #[.int .i64 0, .int .i64 0, .int .i64 0, .int .i64 0, .int .i64 0, .int .i64 0, .int .i64 0, .int .i64 0, .int .i64 0, .int .i64 0, .int .i64 0, .int .i64 0, .int .i64 0, .int .i64 0, .int .i64 0, .int .i64 0, .int .i64 0, .int .i64 0, .int .i64 0, .int .i64 0, .int .i64 0, .int .i64 0, .int .i64 0, .int .i64 0] 27)
  replace Z := Z.alloc (.cells #[.int .i64 0, .int .i64 0, .int .i64 0, .int .i64 0, .int .i64 0, .int .i64 0, .int .i64 0, .int .i64 0, .int .i64 0, .int .i64 0, .int .i64 0, .int .i64 0, .int .i64 0, .int .i64 0, .int .i64 0, .int .i64 0, .int .i64 0, .int .i64 0, .int .i64 0, .int .i64 0, .int .i64 0, .int .i64 0, .int .i64 0, .int .i64 0] 27)
  replace KB := Lib.hid (KB.out.alloc (.cells #[.int .i64 0, .int .i64 0, .int .i64 0, .int .i64 0, .int .i64 0, .int .i64 0, .int .i64 0, .int .i64 0, .int .i64 0, .int .i64 0, .int .i64 0, .int .i64 0, .int .i64 0, .int .i64 0, .int .i64 0, .int .i64 0, .int .i64 0, .int .i64 0, .int .i64 0, .int .i64 0, .int .i64 0, .int .i64 0, .int .i64 0, .int .i64 0] 27))
  replace C := Lib.hid (Cur.alloc C.out (.cells #[.int .i64 0, .int .i64 0, .int .i64 0, .int .i64 0, .int .i64 0, .int .i64 0, .int .i64 0, .int .i64 0, .int .i64 0, .int .i64 0, .int .i64 0, .int .i64 0, .int .i64 0, .int .i64 0, .int .i64 0, .int .i64 0, .int .i64 0, .int .i64 0, .int .i64 0, .int .i64 0, .int .i64 0, .int .i64 0, .int .i64 0, .int .i64 0] 27))
  replace R := R.alloc (.cells #[.int .i64 0, .int .i64 0, .int .i64 0, .int .i64 0, .int .i64 0, .int .i64 0] 28)
  replace Z := Z.alloc (.cells #[.int .i64 0, .int .i64 0, .int .i64 0, .int .i64 0, .int .i64 0, .int .i64 0] 28)
  replace KB := Lib.hid (KB.out.alloc (.cells #[.int .i64 0, .int .i64 0, .int .i64 0, .int .i64 0, .int .i64 0, .int .i64 0] 28))
  replace C := Lib.hid (Cur.alloc C.out (.cells #[.int .i64 0, .int .i64 0, .int .i64 0, .int .i64 0, .int .i64 0, .int .i64 0] 28))
  replace R := (R.putOther (b' := w3.heap.size) 0 (ints ns) (by omega)).putOther (b' := w3.heap.size + 1) 0 (ints ds) (by omega)
  replace Z := (Z.putOther (b' := w3.heap.size) 0 (ints ns) (by omega)).putOther (b' := w3.heap.size + 1) 0 (ints ds) (by omega)
  replace KB := Lib.hid ((KB.out.puts (b := w3.heap.size) (by omega) 0 (ints ns)).puts (b := w3.heap.size + 1) (by omega) 0 (ints ds))
  clear C
  go_wp2_with (first | (refine store_at rfl 27 _ _ rfl _ _ rfl rfl ?_ 24 ?_ ?_ ?_ ?_; rotate_left; (· (repeat (first | (with_reducible assumption) | ((with_reducible refine Has.box _ _ ?_ ?_) <;> (first | assumption | decide)) | (with_reducible refine Has.alloc ?_ _) | ((with_reducible refine Has.putOther ?_ _ _ ?_); rotate_left; omega; skip) | ((with_reducible refine Has.below ?_ ?_); rotate_left; assumption)))); (· (first | assumption | rfl)); (· kernel_rfl)) | (refine store_at rfl 28 _ _ rfl _ _ rfl rfl ?_ 6 ?_ ?_ ?_ ?_; rotate_left; (· (repeat (first | (with_reducible assumption) | ((with_reducible refine Has.box _ _ ?_ ?_) <;> (first | assumption | decide)) | (with_reducible refine Has.alloc ?_ _) | ((with_reducible refine Has.putOther ?_ _ _ ?_); rotate_left; omega; skip) | ((with_reducible refine Has.below ?_ ?_); rotate_left; assumption)))); (· (first | assumption | rfl)); (· kernel_rfl)))
  clear A0 D0 A1 D1
  skip
  refine wp_region_held_drew (S := fun w' => Has w' w3.heap.size ns 24 ∧ Has w' (w3.heap.size + 1) ds 6) (by kernel_rfl) ⟨A.drew, D.drew⟩ (fun hHeld => ?_)
  replace R := R.drew
  replace Z := Z.drew
  replace KB := Lib.hid (keptDrew8 KB.out)
  generalize hWD : World.drew _ = WD at *
  clear hWD
  (refine wpAnyH_take (i := 0) (v := _) rfl (by kernel_rfl) (by kernel_rfl) (by kernel_rfl) (fun _ _ _ h => h) (yieldsIf_load_mid (by rfl) 27 _ rfl _ _ rfl (ints ns) _ (fun w' hSw => hSw.1.holds.range) Try.underlying27 rfl (HIR.out)) hHeld ?_; (try simp only [List.getElem_toArray, List.getElem_cons_zero, List.getElem_cons_succ, Act.put, List.setIfInBounds_toArray, List.set_cons_zero, List.set_cons_succ]))
  (refine wpAnyH_take (i := 1) (v := _) rfl (by kernel_rfl) (by kernel_rfl) (by kernel_rfl) (fun _ _ _ h => h) (yieldsIf_load_mid (by rfl) 28 _ rfl _ _ rfl (ints ds) _ (fun w' hSw => hSw.2.holds.range) Try.underlying28 rfl (HID.out)) hHeld ?_; (try simp only [List.getElem_toArray, List.getElem_cons_zero, List.getElem_cons_succ, Act.put, List.setIfInBounds_toArray, List.set_cons_zero, List.set_cons_succ]))
  (refine wpAnyH_take (i := 2) (v := ?_) rfl (by kernel_rfl) (by kernel_rfl) (by kernel_rfl) (fun _ _ _ h => h) (Or.inl ⟨by rfl, ?_⟩) hHeld ?_; rotate_left; (· (intro w' hSw; go_simp; try with_reducible rfl)); (try simp only [List.getElem_toArray, List.getElem_cons_zero, List.getElem_cons_succ, Act.put, List.setIfInBounds_toArray, List.set_cons_zero, List.set_cons_succ])); (refine wpAnyH_take (i := 3) (v := ?_) rfl (by kernel_rfl) (by kernel_rfl) (by kernel_rfl) (fun _ _ _ h => h) (Or.inl ⟨by rfl, ?_⟩) hHeld ?_; rotate_left; (· (intro w' hSw; go_simp; try with_reducible rfl)); (try simp only [List.getElem_toArray, List.getElem_cons_zero, List.getElem_cons_succ, Act.put, List.setIfInBounds_toArray, List.set_cons_zero, List.set_cons_succ]))
  have L1 := Lib.hid (R.putAll ns hl)
  have L2 := Lib.hid (Z.putOther (b' := w.heap.size) 0 (ints ns) (by omega))
  have L3 := Lib.hid (KB.out.puts (b := w.heap.size) (Nat.le_refl _) 0 (ints ns))
  (refine wpAnyH_ready (rs := [4]) (by kernel_rfl) (by simp) ?_; refine AllReadyH.cons (o := _) rfl (fun K hK => ?_) AllReadyH.nil; (simp only [List.getElem_toArray, List.getElem_cons_zero, List.getElem_cons_succ, Region.wanted, if_true]); refine wp_store_mid _ _ _ rfl _ _ (ints ns).toArray rfl rfl (by simpa [LN.out] using R.there) (by simpa [LN.out] using HI24.out) (all_oneCell_toArray (ints_one _)) ?_; (try simp only [List.getElem_toArray, List.getElem_cons_zero, List.getElem_cons_succ, Act.put, List.setIfInBounds_toArray, List.set_cons_zero, List.set_cons_succ, List.toList_toArray]); refine hK.out _ _ (⟨hHeld.1.putOther (b' := w.heap.size) 0 (ints ns) (by omega), hHeld.2.putOther (b' := w.heap.size) 0 (ints ns) (by omega)⟩) (fun hHeld => ?_); clear hK K)
  have L4 := Lib.hid (L2.out.putAll ds hd)
  have L5 := Lib.hid (L1.out.putOther (b' := w.heap.size + 1) 0 (ints ds) (by omega))
  have L6 := Lib.hid (L3.out.puts (b := w.heap.size + 1) (by omega) 0 (ints ds))
  (refine wpAnyH_ready (rs := [5]) (by kernel_rfl) (by simp) ?_; refine AllReadyH.cons (o := _) rfl (fun K hK => ?_) AllReadyH.nil; (simp only [List.getElem_toArray, List.getElem_cons_zero, List.getElem_cons_succ, Region.wanted, if_true]); refine wp_store_mid _ _ _ rfl _ _ (ints ds).toArray rfl rfl (by simpa [LD.out] using L2.out.there) (by simpa [LD.out] using HI6.out) (all_oneCell_toArray (ints_one _)) ?_; (try simp only [List.getElem_toArray, List.getElem_cons_zero, List.getElem_cons_succ, Act.put, List.setIfInBounds_toArray, List.set_cons_zero, List.set_cons_succ, List.toList_toArray]); refine hK.out _ _ (⟨hHeld.1.putOther (b' := w.heap.size + 1) 0 (ints ds) (by omega), hHeld.2.putOther (b' := w.heap.size + 1) 0 (ints ds) (by omega)⟩) (fun hHeld => ?_); clear hK K)
  (refine wpAnyH_take (i := 6) (v := ?_) rfl (by kernel_rfl) (by kernel_rfl) (by kernel_rfl) (fun _ _ _ h => h) (Or.inl ⟨by rfl, ?_⟩) hHeld ?_; rotate_left; (· (intro w' hSw; go_simp; try with_reducible rfl)); (try simp only [List.getElem_toArray, List.getElem_cons_zero, List.getElem_cons_succ, Act.put, List.setIfInBounds_toArray, List.set_cons_zero, List.set_cons_succ])); (refine wpAnyH_take (i := 7) (v := ?_) rfl (by kernel_rfl) (by kernel_rfl) (by kernel_rfl) (fun _ _ _ h => h) (Or.inl ⟨by rfl, ?_⟩) hHeld ?_; rotate_left; (· (intro w' hSw; go_simp; try with_reducible rfl)); (try simp only [List.getElem_toArray, List.getElem_cons_zero, List.getElem_cons_succ, Act.put, List.setIfInBounds_toArray, List.set_cons_zero, List.set_cons_succ]))
  refine wpAnyH_done (by kernel_rfl) ?_ _
  clear hHeld
  go_wp2_with fail
  exact bodyPost_ret (res_two2 rfl _ _ w.heap.size (w.heap.size + 1) ns ds 24 6 _ _ (.int .i64 x) (.int .i64 i) rfl rfl rfl rfl L5.out L4.out Try.underlying27 rfl (by kernel_rfl) Try.underlying28 rfl (by kernel_rfl)) rfl ⟨ns, ds, x, i, rfl, hl, hd, L6.out⟩
end Go.Proofs.Ytglhinihhlmgeac.base
end

section
namespace Go.Proofs.Ytglhinihhlmgeac.base
open Go.ChangeShapes Go.WideShapes Go.ChangeAt Go.RowKit
open Go.Proofs.Ytglhinihhlmgeac.cur
set_option linter.unusedVariables false
set_option linter.unusedSimpArgs false

theorem mvN_loose (r ds : List Int) (p q : Nat) : mvN r ds 4 p q ≤ 1 := by
  unfold mvN
  split
  · omega
  · unfold mvT; split <;> simp <;> omega

set_option maxHeartbeats 6400000 in
set_option maxRecDepth 100000 in
theorem drawFewestBy (a : Option Addr) (len cap : Nat) (w : World) (h : Code w a len) :
    Calls Try.prog 5 #[.slice a len cap] w (DrawnThree w) := by
  have R := (Has.zero24 w 27).alloc (.cells #[.int .i64 0, .int .i64 0, .int .i64 0, .int .i64 0, .int .i64 0, .int .i64 0] 28)
  have Z := (Has.zero6d (w.alloc (.cells #[.int .i64 0, .int .i64 0, .int .i64 0, .int .i64 0, .int .i64 0, .int .i64 0, .int .i64 0, .int .i64 0, .int .i64 0, .int .i64 0, .int .i64 0, .int .i64 0, .int .i64 0, .int .i64 0, .int .i64 0, .int .i64 0, .int .i64 0, .int .i64 0, .int .i64 0, .int .i64 0, .int .i64 0, .int .i64 0, .int .i64 0, .int .i64 0] 27)) 28).at (size1 _ _)
  have KB := Lib.hid (((kept_refl w).alloc (.cells #[.int .i64 0, .int .i64 0, .int .i64 0, .int .i64 0, .int .i64 0, .int .i64 0, .int .i64 0, .int .i64 0, .int .i64 0, .int .i64 0, .int .i64 0, .int .i64 0, .int .i64 0, .int .i64 0, .int .i64 0, .int .i64 0, .int .i64 0, .int .i64 0, .int .i64 0, .int .i64 0, .int .i64 0, .int .i64 0, .int .i64 0, .int .i64 0] 27)).alloc (.cells #[.int .i64 0, .int .i64 0, .int .i64 0, .int .i64 0, .int .i64 0, .int .i64 0] 28))
  have CW := Lib.hid (h.below KB.out)
  have C0 := cur_new (cap := cap) CW.out
  rw [size1, size1] at C0
  have C := Lib.hid C0
  clear C0
  replace R := R.alloc (.cells #[.slice a len cap, .int .i64 0, .int .u64 0] 48)
  replace Z := Z.alloc (.cells #[.slice a len cap, .int .i64 0, .int .u64 0] 48)
  replace KB := Lib.hid (KB.out.alloc (.cells #[.slice a len cap, .int .i64 0, .int .u64 0] 48))
  have H0 := Lib.hid h
  clear h CW
  go_enter Try.func5, Try.ntmps5
  go_wp2_with fail
  refine (ruleOf_any (w.heap.size + 1 + 1) _ _ C.out (by omega)).mono ?_
  rintro e w2 ⟨x, rfl, c2, m2⟩
  replace R := R.moved m2 (by omega)
  replace Z := Z.moved m2 (by omega)
  replace KB := Lib.hid (show Kept w w2 from Moved.below KB.out m2 (by omega) KB.out.size)
  replace C := Lib.hid (c2.mono (m := 10) (by omega))
  clear c2 m2
  have CW := Lib.hid (H0.out.below KB.out)
  go_wp2_with fail
  refine (drawIsSorted a len cap _ CW.out).mono ?_
  rintro e w3 ⟨ns, rfl, hl, b3⟩
  clear CW H0
  replace R := R.below b3
  replace Z := Z.below b3
  replace KB := Lib.hid (KB.out.call b3)
  replace C := Lib.hid (C.out.below b3)
  clear b3
  have A := Has.box w3 27 hl (by omega)
  have ltg1 := KB.out.size
  have lcg1 := C.out.lt
  replace R := R.alloc (.cells (ints ns).toArray 27)
  replace Z := Z.alloc (.cells (ints ns).toArray 27)
  replace KB := Lib.hid (KB.out.alloc (.cells (ints ns).toArray 27))
  replace C := Lib.hid (Cur.alloc C.out (.cells (ints ns).toArray 27))
  go_wp2_with (first | (refine store_new rfl 27 _ _ rfl _ _ _ rfl _ rfl _ rfl rfl ?_ ?_ ?_; (· (first | assumption | rfl)); (· kernel_rfl)) | (refine guard_op (isLoad 27) ?_ ?_; (· rfl); (refine load_has rfl 27 _ rfl _ rfl ?_ 24 ?_ _ Try.underlying27 rfl ?_ ?_; rotate_left; (· (repeat (first | (with_reducible assumption) | ((with_reducible refine Has.box _ _ ?_ ?_) <;> (first | assumption | decide)) | (with_reducible refine Has.alloc ?_ _) | ((with_reducible refine Has.putOther ?_ _ _ ?_); rotate_left; omega; skip) | ((with_reducible refine Has.below ?_ ?_); rotate_left; assumption)))); (· kernel_rfl))))
  obtain ⟨g1, hg1⟩ : ∃ g1, w3.heap.size = g1 := ⟨_, rfl⟩
  rw [hg1] at A ltg1 lcg1  ⊢
  generalize w3.alloc (.cells (ints ns).toArray 27) = Vg1 at *
  clear hg1
  refine (depths_any (w.heap.size + 1 + 1) _ ns _ hl C.out (by omega)).mono ?_
  rintro e w4 ⟨ds, rfl, hd, c4, m4⟩
  replace R := R.moved m4 (by omega)
  replace Z := Z.moved m4 (by omega)
  replace KB := Lib.hid (show Kept w w4 from Moved.below KB.out m4 (by omega) KB.out.size)
  replace C := Lib.hid (c4.mono (m := 20200) (by omega))
  replace A := A.moved m4 (by omega)
  clear c4 m4
  have D := Has.box w4 28 hd (by omega)
  have ltg2 := KB.out.size
  have lcg2 := C.out.lt
  have lAg2 := A.lt
  replace R := R.alloc (.cells (ints ds).toArray 28)
  replace Z := Z.alloc (.cells (ints ds).toArray 28)
  replace KB := Lib.hid (KB.out.alloc (.cells (ints ds).toArray 28))
  replace C := Lib.hid (Cur.alloc C.out (.cells (ints ds).toArray 28))
  replace A := A.alloc (.cells (ints ds).toArray 28)
  go_wp2_with (first | (refine store_new rfl 28 _ _ rfl _ _ _ rfl _ rfl _ rfl rfl ?_ ?_ ?_; (· (first | assumption | rfl)); (· kernel_rfl)) | (refine guard_op (isLoad 27) ?_ ?_; (· rfl); (refine load_has rfl 27 _ rfl _ rfl ?_ 24 ?_ _ Try.underlying27 rfl ?_ ?_; rotate_left; (· (repeat (first | (with_reducible assumption) | ((with_reducible refine Has.box _ _ ?_ ?_) <;> (first | assumption | decide)) | (with_reducible refine Has.alloc ?_ _) | ((with_reducible refine Has.putOther ?_ _ _ ?_); rotate_left; omega; skip) | ((with_reducible refine Has.below ?_ ?_); rotate_left; assumption)))); (· kernel_rfl))))
  obtain ⟨g2, hg2⟩ : ∃ g2, w4.heap.size = g2 := ⟨_, rfl⟩
  rw [hg2] at D ltg2 lcg2 lAg2 ⊢
  generalize w4.alloc (.cells (ints ds).toArray 28) = Vg2 at *
  clear hg2
  refine (pick_any (w.heap.size + 1 + 1) _ 4 _ C.out (by omega) (by omega) (by omega)).mono ?_
  rintro e w5 ⟨z, rfl, z0, z1, c5, m5⟩
  replace R := R.moved m5 (by omega)
  replace Z := Z.moved m5 (by omega)
  replace KB := Lib.hid (show Kept w w5 from Moved.below KB.out m5 (by omega) KB.out.size)
  replace C := Lib.hid (c5.mono (m := 20202) (by omega))
  replace A := A.moved m5 (by omega)
  replace D := D.moved m5 (by omega)
  clear c5 m5
  obtain ⟨N, rfl⟩ : ∃ N : Nat, z = (N : Int) := ⟨z.toNat, by omega⟩
  have hN3 : N ≤ 3 := by omega
  clear z0 z1
  go_wp2_with fail
  go_loopw [9] (fun i wr => ∃ (m : Nat) (ns : List Int), m ≤ 3 ∧ i = .int .i64 m ∧ ns.length = 24 ∧ Has wr w.heap.size z24 24 ∧ Has wr (w.heap.size + 1) z6 6 ∧ Has wr g1 ns 24 ∧ Has wr g2 ds 6 ∧ Hid (Cur wr (w.heap.size + 1 + 1) (30000 - m * 100)) ∧ Hid (Kept w wr)) (fun i _ => (intOf i).toNat)
  case atStart => exact ⟨N, ns, hN3, rfl, hl, R, Z, A, D, Lib.hid (C.out.mono (by omega)), KB⟩
  case round =>
    clear R Z A D C KB hl
    obtain ⟨m, ns, hm, rfl, hl, R, Z, A, D, C, KB⟩ := hrel
    by_cases hm0 : 0 < m
    case' pos =>
      have hmi : (0 : Int) < (m : Int) := by omega
      have wsb : IntKind.i64.wrap ((m : Int) - 1) = ((m - 1 : Nat) : Int) := by rw [IntWalk.i64_in _ (by omega)]; omega
      go_wp2_with (first | (refine load_has rfl 27 _ rfl _ rfl ?_ 24 ?_ _ Try.underlying27 rfl ?_ ?_; rotate_left; (· (repeat (first | (with_reducible assumption) | ((with_reducible refine Has.box _ _ ?_ ?_) <;> (first | assumption | decide)) | (with_reducible refine Has.alloc ?_ _) | ((with_reducible refine Has.putOther ?_ _ _ ?_); rotate_left; omega; skip) | ((with_reducible refine Has.below ?_ ?_); rotate_left; assumption)))); (· kernel_rfl)) | (refine load_has rfl 28 _ rfl _ rfl ?_ 6 ?_ _ Try.underlying28 rfl ?_ ?_; rotate_left; (· (repeat (first | (with_reducible assumption) | ((with_reducible refine Has.box _ _ ?_ ?_) <;> (first | assumption | decide)) | (with_reducible refine Has.alloc ?_ _) | ((with_reducible refine Has.putOther ?_ _ _ ?_); rotate_left; omega; skip) | ((with_reducible refine Has.below ?_ ?_); rotate_left; assumption)))); (· kernel_rfl)))
      refine (l8Fits_any ns ds _ hl hd).mono ?_
      rintro e w6 ⟨rfl, b6⟩
      replace R := R.below b6
      replace Z := Z.below b6
      replace A := A.below b6
      replace D := D.below b6
      replace C := Lib.hid (C.out.below b6)
      replace KB := Lib.hid (KB.out.call b6)
      clear b6
      by_cases hf : fitA ns ds = true
      case' pos =>
        rw [hf]
        have gR : GoodR ds ns := ⟨hl, hf⟩
        have hcl6 := C.out.lt
        clear hf
        go_wp2_with (first | (refine load_has rfl 27 _ rfl _ rfl ?_ 24 ?_ _ Try.underlying27 rfl ?_ ?_; rotate_left; (· (repeat (first | (with_reducible assumption) | ((with_reducible refine Has.box _ _ ?_ ?_) <;> (first | assumption | decide)) | (with_reducible refine Has.alloc ?_ _) | ((with_reducible refine Has.putOther ?_ _ _ ?_); rotate_left; omega; skip) | ((with_reducible refine Has.below ?_ ?_); rotate_left; assumption)))); (· kernel_rfl)) | (refine load_has rfl 28 _ rfl _ rfl ?_ 6 ?_ _ Try.underlying28 rfl ?_ ?_; rotate_left; (· (repeat (first | (with_reducible assumption) | ((with_reducible refine Has.box _ _ ?_ ?_) <;> (first | assumption | decide)) | (with_reducible refine Has.alloc ?_ _) | ((with_reducible refine Has.putOther ?_ _ _ ?_); rotate_left; omega; skip) | ((with_reducible refine Has.below ?_ ?_); rotate_left; assumption)))); (· kernel_rfl)))
        refine (l8Pours_any ns ds 4 _ hl hd gR.fit (by rfl)).mono ?_
        rintro e w8 ⟨pv, rfl, q8, b8⟩
        replace R := R.below b8
        replace Z := Z.below b8
        replace A := A.below b8
        replace D := D.below b8
        replace C := Lib.hid (C.out.below b8)
        replace KB := Lib.hid (KB.out.call b8)
        clear b8
        have hN := pN_le (byP ns ds 4) 36
        have NB := Lib.hid (fun j hj => nb_at (x := 4) (j := j) gR hj)
        have P8 := Lib.hid q8
        obtain ⟨a8, c8, hv8⟩ := (show ∃ a8 c8, pv = .slice a8 (pN (byP ns ds 4) 36) c8 from q8.rw.shape)
        clear q8
        subst hv8
        have EN : pN (byP ns ds 4) 36 = nbN ds 4 ns := rfl
        rw [EN] at P8 hN ⊢
        clear EN
        generalize nbN ds 4 ns = n at *
        generalize pF (byP ns ds 4) 36 = fs at *
        rcases n with _ | n
        rotate_left
        case' succ =>
          obtain ⟨g, cap8, he8, hg8, hg9⟩ := P8.out.form (by omega)
          injection he8 with ha8 _ hc8
          subst ha8
          subst hc8
          have n0 : (0 : Int) < (n : Int) + 1 := by omega
          have n0' : (0 : Int) < ((n + 1 : Nat) : Int) := by omega
          go_wp2_with fail
          refine (pick_any (w.heap.size + 1 + 1) _ ((n : Int) + 1) _ C.out (by omega) (by omega) (by omega)).mono ?_
          rintro e w9 ⟨z, rfl, z0, z1, c9, m9⟩
          obtain ⟨q, rfl⟩ : ∃ q : Nat, z = (q : Int) := ⟨z.toNat, by omega⟩
          have hq : q < n + 1 := by omega
          have P9 := P8.out.moved m9 (by omega)
          replace R := R.moved m9 (by omega)
          replace Z := Z.moved m9 (by omega)
          replace A := A.moved m9 (by omega)
          replace D := D.moved m9 (by omega)
          replace C := Lib.hid c9
          replace KB := Lib.hid (show Kept w w9 from Moved.below KB.out m9 (by omega) KB.out.size)
          clear c9 m9
          have RG : Hid (w9.rangeAt g (q * 2) (ints [fs.getD (q * 2) 0, fs.getD (q * 2 + 1) 0])) := Lib.hid (range_two (P9.cell (q * 2) (by omega)) (P9.cell (q * 2 + 1) (by omega)))
          obtain ⟨k1, k2, k3, k4, k5⟩ := NB.out q hq
          rw [k4, k5] at RG
          have MO := mv_moveOk hl gR.fit k1 k2 k3
          have hm1 : mvN ns ds 4 (pAt ns ds 4 q) (qAt ns ds 4 q) = 1 := by have := mvN_loose ns ds (pAt ns ds 4 q) (qAt ns ds 4 q); omega
          have ML := mvN_le ns ds 4 (pAt ns ds 4 q) (qAt ns ds 4 q)
          rw [hm1] at MO ML
          clear hm1 k3 k4 k5 NB gR
          generalize pAt ns ds 4 q = i at *
          generalize qAt ns ds 4 q = j at *
          have hl2 : ([(i : Int), (j : Int)] : List Int).length = 2 := rfl
          have TL : (moveT ns i j 1).length = 24 := MO.len24
          have P := Has.box w9 44 hl2 (by omega)
          have cc0 := P.cell 0 (by omega)
          have cc1 := P.cell 1 (by omega)
          rw [List.getD_cons_zero] at cc0
          rw [List.getD_cons_succ, List.getD_cons_zero] at cc1
          have KM := Lib.hid (fun V => l8Move_any ns i j 1 V MO ML)
          have lg1 := A.lt
          have hi6 : (i : Int) < 6 := by omega
          have hj6 : (j : Int) < 6 := by omega
          have hi0 : (0 : Int) ≤ (i : Int) := by omega
          have hj0 : (0 : Int) ≤ (j : Int) := by omega
          clear P8 P9 MO ML
          replace R := R.alloc (.cells (ints [(i : Int), (j : Int)]).toArray 44)
          replace Z := Z.alloc (.cells (ints [(i : Int), (j : Int)]).toArray 44)
          replace A := A.alloc (.cells (ints [(i : Int), (j : Int)]).toArray 44)
          replace D := D.alloc (.cells (ints [(i : Int), (j : Int)]).toArray 44)
          replace C := Lib.hid (Cur.alloc C.out (.cells (ints [(i : Int), (j : Int)]).toArray 44))
          replace KB := Lib.hid (KB.out.alloc (.cells (ints [(i : Int), (j : Int)]).toArray 44))
          go_wp2_with (first | (refine wpList_load_mid rfl 44 _ rfl g (q * 2) rfl (ints [(i : Int), (j : Int)]) _ RG.out Try.underlying44 rfl (by kernel_rfl) ?_) | (refine store_new rfl 44 _ _ rfl _ _ _ rfl _ rfl _ rfl rfl ?_ ?_ ?_; (· (first | assumption | rfl)); (· kernel_rfl)) | (refine load_has rfl 27 _ rfl _ rfl ?_ 24 ?_ _ Try.underlying27 rfl ?_ ?_; rotate_left; (· (repeat (first | (with_reducible assumption) | ((with_reducible refine Has.box _ _ ?_ ?_) <;> (first | assumption | decide)) | (with_reducible refine Has.alloc ?_ _) | ((with_reducible refine Has.putOther ?_ _ _ ?_); rotate_left; omega; skip) | ((with_reducible refine Has.below ?_ ?_); rotate_left; assumption)))); (· kernel_rfl)))
          refine (KM.out _).mono ?_
          rintro e w10 ⟨rfl, b10⟩
          clear cc0 cc1 P RG KM
          replace R := R.below b10
          replace Z := Z.below b10
          replace A := A.below b10
          replace D := D.below b10
          replace C := Lib.hid (C.out.below b10)
          replace KB := Lib.hid (KB.out.call b10)
          clear b10
          generalize moveT ns i j 1 = T at *
          have R2 := R.putOther (b' := g1) 0 (ints T) (by omega)
          have Z2 := Z.putOther (b' := g1) 0 (ints T) (by omega)
          have A2 := A.putAll T TL
          have D2 := D.putOther (b' := g1) 0 (ints T) (by omega)
          have C2 := Lib.hid (Cur.puts C.out (b := g1) 0 (ints T) (by omega))
          have KB2 := Lib.hid (KB.out.puts (b := g1) (by omega) 0 (ints T))
          clear R Z D C KB hi6 hj6 hi0 hj0
          go_wp2_with (refine store_at rfl 27 _ _ rfl _ _ rfl rfl ?_ 24 ?_ ?_ ?_ ?_; rotate_left; (· (repeat (first | (with_reducible assumption) | ((with_reducible refine Has.box _ _ ?_ ?_) <;> (first | assumption | decide)) | (with_reducible refine Has.alloc ?_ _) | ((with_reducible refine Has.putOther ?_ _ _ ?_); rotate_left; omega; skip) | ((with_reducible refine Has.below ?_ ?_); rotate_left; assumption)))); (· (first | assumption | rfl)); (· kernel_rfl))
          go_roundw
          case rel => exact ⟨m - 1, T, by omega, by go_num, TL, R2, Z2, A2, D2, Lib.hid (C2.out.mono (by omega)), KB2⟩
          case measure => simp [intOf]; omega
        case' zero =>
          clear P8 NB
          go_wp2_with fail
          go_roundw
          case rel => exact ⟨m - 1, ns, by omega, by go_num, hl, R, Z, A, D, Lib.hid (C.out.mono (by omega)), KB⟩
          case measure => simp [intOf]; omega
      case' neg =>
        have hff : fitA ns ds = false := by simpa using hf
        rw [hff]
        clear hf hff
        go_wp2_with fail
    case' neg =>
      obtain rfl : m = 0 := by omega
      go_wp2_with fail
    all_goals
      have LN := Lib.hid (show (ints ns).length = 24 by rw [ints_len]; exact hl)
      have LD := Lib.hid (show (ints ds).length = 6 by rw [ints_len]; exact hd)
      have HI24 := Lib.hid (show (Try.prog.info? 27).map (·.size) = some 24 by kernel_rfl)
      have HI6 := Lib.hid (show (Try.prog.info? 28).map (·.size) = some 6 by kernel_rfl)
      have HIR := Lib.hid (show (Try.prog.info? 27).map (·.size) = some (ints ns).length by rw [LN.out]; exact HI24.out)
      have HID := Lib.hid (show (Try.prog.info? 28).map (·.size) = some (ints ds).length by rw [LD.out]; exact HI6.out)
      clear C
      refine wp_region_held_drew (S := fun w' => Has w' g1 ns 24 ∧ Has w' g2 ds 6) (by kernel_rfl) ⟨A.drew, D.drew⟩ (fun hHeld => ?_)
      replace R := R.drew
      replace Z := Z.drew
      replace KB := Lib.hid (keptDrew8 KB.out)
      generalize hWD : World.drew _ = WD at *
      clear hWD
      (refine wpAnyH_take (i := 2) (v := ?_) rfl (by kernel_rfl) (by kernel_rfl) (by kernel_rfl) (fun _ _ _ h => h) (Or.inl ⟨by rfl, ?_⟩) hHeld ?_; rotate_left; (· (intro w' hSw; go_simp; try with_reducible rfl)); (try simp only [List.getElem_toArray, List.getElem_cons_zero, List.getElem_cons_succ, Act.put, List.setIfInBounds_toArray, List.set_cons_zero, List.set_cons_succ]))
      (refine wpAnyH_take (i := 0) (v := _) rfl (by kernel_rfl) (by kernel_rfl) (by kernel_rfl) (fun _ _ _ h => h) (yieldsIf_load_mid (by rfl) 27 _ rfl _ _ rfl (ints ns) _ (fun w' hSw => hSw.1.holds.range) Try.underlying27 rfl (HIR.out)) hHeld ?_; (try simp only [List.getElem_toArray, List.getElem_cons_zero, List.getElem_cons_succ, Act.put, List.setIfInBounds_toArray, List.set_cons_zero, List.set_cons_succ]))
      (refine wpAnyH_take (i := 1) (v := _) rfl (by kernel_rfl) (by kernel_rfl) (by kernel_rfl) (fun _ _ _ h => h) (yieldsIf_load_mid (by rfl) 28 _ rfl _ _ rfl (ints ds) _ (fun w' hSw => hSw.2.holds.range) Try.underlying28 rfl (HID.out)) hHeld ?_; (try simp only [List.getElem_toArray, List.getElem_cons_zero, List.getElem_cons_succ, Act.put, List.setIfInBounds_toArray, List.set_cons_zero, List.set_cons_succ]))
      have L1 := Lib.hid (R.putAll ns hl)
      have L2 := Lib.hid (Z.putOther (b' := w.heap.size) 0 (ints ns) (by omega))
      have L3 := Lib.hid (KB.out.puts (b := w.heap.size) (Nat.le_refl _) 0 (ints ns))
      (refine wpAnyH_ready (rs := [3]) (by kernel_rfl) (by simp) ?_; refine AllReadyH.cons (o := _) rfl (fun K hK => ?_) AllReadyH.nil; (simp only [List.getElem_toArray, List.getElem_cons_zero, List.getElem_cons_succ, Region.wanted, if_true]); refine wp_store_mid _ _ _ rfl _ _ (ints ns).toArray rfl rfl (by simpa [LN.out] using R.there) (by simpa [LN.out] using HI24.out) (all_oneCell_toArray (ints_one _)) ?_; (try simp only [List.getElem_toArray, List.getElem_cons_zero, List.getElem_cons_succ, Act.put, List.setIfInBounds_toArray, List.set_cons_zero, List.set_cons_succ, List.toList_toArray]); refine hK.out _ _ (⟨hHeld.1.putOther (b' := w.heap.size) 0 (ints ns) (by omega), hHeld.2.putOther (b' := w.heap.size) 0 (ints ns) (by omega)⟩) (fun hHeld => ?_); clear hK K)
      have L4 := Lib.hid (L2.out.putAll ds hd)
      have L5 := Lib.hid (L1.out.putOther (b' := w.heap.size + 1) 0 (ints ds) (by omega))
      have L6 := Lib.hid (L3.out.puts (b := w.heap.size + 1) (by omega) 0 (ints ds))
      (refine wpAnyH_ready (rs := [4]) (by kernel_rfl) (by simp) ?_; refine AllReadyH.cons (o := _) rfl (fun K hK => ?_) AllReadyH.nil; (simp only [List.getElem_toArray, List.getElem_cons_zero, List.getElem_cons_succ, Region.wanted, if_true]); refine wp_store_mid _ _ _ rfl _ _ (ints ds).toArray rfl rfl (by simpa [LD.out] using L2.out.there) (by simpa [LD.out] using HI6.out) (all_oneCell_toArray (ints_one _)) ?_; (try simp only [List.getElem_toArray, List.getElem_cons_zero, List.getElem_cons_succ, Act.put, List.setIfInBounds_toArray, List.set_cons_zero, List.set_cons_succ, List.toList_toArray]); refine hK.out _ _ (⟨hHeld.1.putOther (b' := w.heap.size + 1) 0 (ints ds) (by omega), hHeld.2.putOther (b' := w.heap.size + 1) 0 (ints ds) (by omega)⟩) (fun hHeld => ?_); clear hK K)
      (refine wpAnyH_take (i := 5) (v := ?_) rfl (by kernel_rfl) (by kernel_rfl) (by kernel_rfl) (fun _ _ _ h => h) (Or.inl ⟨by rfl, ?_⟩) hHeld ?_; rotate_left; (· (intro w' hSw; go_simp; try with_reducible rfl)); (try simp only [List.getElem_toArray, List.getElem_cons_zero, List.getElem_cons_succ, Act.put, List.setIfInBounds_toArray, List.set_cons_zero, List.set_cons_succ]))
      refine wpAnyH_done (by kernel_rfl) ?_ _
      clear hHeld
      go_wp2_with fail
      exact bodyPost_ret (res_two rfl _ _ w.heap.size (w.heap.size + 1) ns ds 24 6 _ _ (.int .i64 x) rfl rfl rfl L5.out L4.out Try.underlying27 rfl (by kernel_rfl) Try.underlying28 rfl (by kernel_rfl)) rfl ⟨ns, ds, x, rfl, hl, hd, L6.out⟩
end Go.Proofs.Ytglhinihhlmgeac.base
end
