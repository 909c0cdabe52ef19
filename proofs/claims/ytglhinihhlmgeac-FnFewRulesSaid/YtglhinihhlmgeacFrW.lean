/-
  The law of few pours by a rule: three drawn racks, what both sides answer, and what the law asks of the answers.
-/
import Derived.Test.YtglhinihhlmgeacDrw8Z
import Derived.Test.YtglhinihhlmgeacFrMZ
import Derived.Test.YtglhinihhlmgeacNxtSZ
import Derived.Test.YtglhinihhlmgeacByI
import Derived.Test.YtglhinihhlmgeacByS
import Derived.Test.YtglhinihhlmgeacMvdIZ
import Derived.Test.YtglhinihhlmgeacRwP
import Derived.Test.YtglhinihhlmgeacSortSZ
namespace Go.Proofs.Ytglhinihhlmgeac.base
open Go.ChangeShapes Go.WideShapes Go.ChangeAt Go.RowKit
open Go.Proofs.Ytglhinihhlmgeac.cur
set_option linter.unusedVariables false
set_option linter.unusedSimpArgs false

theorem pb_nb {ns ds : List Int} {x : Int} {j : Nat} (G : GoodR ds ns) (hr : ruleV x = true) (hj : j < nbN ds x ns) :
    pbOk ns ds x (pAt ns ds x j : Nat) (qAt ns ds x j : Nat) = true ∧ pbR ns ds x (pAt ns ds x j : Nat) (qAt ns ds x j : Nat) = nbAt ns ds x j := by
  obtain ⟨hp, hq, hpos, _, _⟩ := nb_at (x := x) (j := j) G hj
  have h : pbOk ns ds x (pAt ns ds x j : Nat) (qAt ns ds x j : Nat) = true := by
    unfold pbOk
    rw [G.fit, hr]
    rw [Int.toNat_natCast, Int.toNat_natCast, decide_eq_true (show (0 : Int) ≤ (pAt ns ds x j : Nat) ∧ ((pAt ns ds x j : Nat) : Int) < 6 by omega), decide_eq_true (show (0 : Int) ≤ (qAt ns ds x j : Nat) ∧ ((qAt ns ds x j : Nat) : Int) < 6 by omega), decide_eq_true hpos]
    rfl
  refine ⟨h, ?_⟩
  unfold pbR
  rw [if_pos h]
  simp only [Int.toNat_natCast]
  rfl

set_option maxHeartbeats 16000000 in
set_option maxRecDepth 200000 in
theorem fewLaw (a : Option Addr) (len cap : Nat) (zs : List Int) (w : World) (w0 : IsRow .u8 w a len cap zs) :
    Calls Try.prog 3 #[.slice a len cap] w fun e w' => e = .returned (.bool true) ∧ Below w.heap.size w w' := by
  have hml : len ≤ maxLen := by
    rcases w0 with ⟨_, h, _⟩ | ⟨_, _, hlc, hm, _⟩
    · rw [h]; exact Nat.zero_le _
    · exact Nat.le_trans hlc hm
  by_cases hbig : (65536 : Int) < (len : Int)
  · go_enter Try.func3, Try.ntmps3
    go_wp2_with fail
    refine (rBig_any a len cap w hml).mono ?_
    rintro e w' ⟨rfl, rfl⟩
    rw [decide_eq_true hbig]
    go_wp2_with fail
    go_ret
    exact ⟨rfl, Below.refl _ _⟩
  have CO := Lib.hid (code_of w0 (by omega))
  have HBG := Lib.hid (rBig_any a len cap w hml)
  rw [decide_eq_false hbig] at HBG
  have HB := Lib.hid (kept_refl w)
  clear hbig w0 hml
  go_enter Try.func3, Try.ntmps3
  go_wp2_with fail
  refine HBG.out.mono ?_
  rintro e w' ⟨rfl, rfl⟩
  clear HBG
  go_wp2_with fail
  refine (drawFewestBy a len cap _ CO.out).mono ?_
  rintro e w1 ⟨ns, ds, x, rfl, hl, hd, bb⟩
  replace HB := Lib.hid (HB.out.call bb)
  clear bb
  have lb1 := HB.out.size
  have TA0 := (Has.zero24 w1 27).alloc (.cells #[.int .i64 0, .int .i64 0, .int .i64 0, .int .i64 0, .int .i64 0, .int .i64 0] 28)
  have TD0 := (Has.zero6d (w1.alloc (.cells #[.int .i64 0, .int .i64 0, .int .i64 0, .int .i64 0, .int .i64 0, .int .i64 0, .int .i64 0, .int .i64 0, .int .i64 0, .int .i64 0, .int .i64 0, .int .i64 0, .int .i64 0, .int .i64 0, .int .i64 0, .int .i64 0, .int .i64 0, .int .i64 0, .int .i64 0, .int .i64 0, .int .i64 0, .int .i64 0, .int .i64 0, .int .i64 0] 27)) 28).at (size1 _ _)
  have TA1 := TA0.putAll ns hl
  have TD1 := TD0.putOther (b' := w1.heap.size) 0 (ints ns) (by omega)
  have H1 := TA1.putOther (b' := w1.heap.size + 1) 0 (ints ds) (by omega)
  have D1 := TD1.putAll ds hd
  replace HB := Lib.hid (HB.out.alloc (.cells #[.int .i64 0, .int .i64 0, .int .i64 0, .int .i64 0, .int .i64 0, .int .i64 0, .int .i64 0, .int .i64 0, .int .i64 0, .int .i64 0, .int .i64 0, .int .i64 0, .int .i64 0, .int .i64 0, .int .i64 0, .int .i64 0, .int .i64 0, .int .i64 0, .int .i64 0, .int .i64 0, .int .i64 0, .int .i64 0, .int .i64 0, .int .i64 0] 27))
  replace HB := Lib.hid (HB.out.alloc (.cells #[.int .i64 0, .int .i64 0, .int .i64 0, .int .i64 0, .int .i64 0, .int .i64 0] 28))
  replace HB := Lib.hid (HB.out.puts (b := w1.heap.size) (by omega) 0 (ints ns))
  replace HB := Lib.hid (HB.out.puts (b := w1.heap.size + 1) (by omega) 0 (ints ds))
  go_wp2_with (first | (refine store_at rfl 27 _ _ rfl _ _ rfl rfl ?_ 24 ?_ ?_ ?_ ?_; rotate_left; (· (repeat (first | (with_reducible assumption) | ((with_reducible refine Has.box _ _ ?_ ?_) <;> (first | assumption | decide)) | (with_reducible refine Has.alloc ?_ _) | ((with_reducible refine Has.putOther ?_ _ _ ?_); rotate_left; omega; skip) | ((with_reducible refine Has.below ?_ ?_); rotate_left; assumption)))); (· (first | assumption | rfl)); (· kernel_rfl)) | (refine store_at rfl 28 _ _ rfl _ _ rfl rfl ?_ 6 ?_ ?_ ?_ ?_; rotate_left; (· (repeat (first | (with_reducible assumption) | ((with_reducible refine Has.box _ _ ?_ ?_) <;> (first | assumption | decide)) | (with_reducible refine Has.alloc ?_ _) | ((with_reducible refine Has.putOther ?_ _ _ ?_); rotate_left; omega; skip) | ((with_reducible refine Has.below ?_ ?_); rotate_left; assumption)))); (· (first | assumption | rfl)); (· kernel_rfl)) | (refine guard_op (isLoad 27) ?_ ?_; (· rfl); (refine load_has rfl 27 _ rfl _ rfl ?_ 24 ?_ _ Try.underlying27 rfl ?_ ?_; rotate_left; (· (repeat (first | (with_reducible assumption) | ((with_reducible refine Has.box _ _ ?_ ?_) <;> (first | assumption | decide)) | (with_reducible refine Has.alloc ?_ _) | ((with_reducible refine Has.putOther ?_ _ _ ?_); rotate_left; omega; skip) | ((with_reducible refine Has.below ?_ ?_); rotate_left; assumption)))); (· kernel_rfl))) | (refine guard_op (isLoad 28) ?_ ?_; (· rfl); (refine load_has rfl 28 _ rfl _ rfl ?_ 6 ?_ _ Try.underlying28 rfl ?_ ?_; rotate_left; (· (repeat (first | (with_reducible assumption) | ((with_reducible refine Has.box _ _ ?_ ?_) <;> (first | assumption | decide)) | (with_reducible refine Has.alloc ?_ _) | ((with_reducible refine Has.putOther ?_ _ _ ?_); rotate_left; omega; skip) | ((with_reducible refine Has.below ?_ ?_); rotate_left; assumption)))); (· kernel_rfl))))
  clear TA0 TD0 TA1 TD1 lb1
  obtain ⟨B1, hB1⟩ : ∃ B, w1.heap.size = B := ⟨_, rfl⟩
  rw [hB1] at HB H1 D1 ⊢
  generalize ((((w1.alloc (.cells #[.int .i64 0, .int .i64 0, .int .i64 0, .int .i64 0, .int .i64 0, .int .i64 0, .int .i64 0, .int .i64 0, .int .i64 0, .int .i64 0, .int .i64 0, .int .i64 0, .int .i64 0, .int .i64 0, .int .i64 0, .int .i64 0, .int .i64 0, .int .i64 0, .int .i64 0, .int .i64 0, .int .i64 0, .int .i64 0, .int .i64 0, .int .i64 0] 27)).alloc (.cells #[.int .i64 0, .int .i64 0, .int .i64 0, .int .i64 0, .int .i64 0, .int .i64 0] 28)).setCells B1 0 (ints ns)).setCells (B1 + 1) 0 (ints ds)) = WB1 at *
  clear hB1
  refine (implFewest ns ds x _ hl hd).mono ?_
  rintro e w2 ⟨rfl, bb⟩
  replace HB := Lib.hid (HB.out.call bb)
  replace H1 := H1.below bb
  replace D1 := D1.below bb
  clear bb
  go_wp2_with (first | (refine guard_op (isLoad 27) ?_ ?_; (· rfl); (refine load_has rfl 27 _ rfl _ rfl ?_ 24 ?_ _ Try.underlying27 rfl ?_ ?_; rotate_left; (· (repeat (first | (with_reducible assumption) | ((with_reducible refine Has.box _ _ ?_ ?_) <;> (first | assumption | decide)) | (with_reducible refine Has.alloc ?_ _) | ((with_reducible refine Has.putOther ?_ _ _ ?_); rotate_left; omega; skip) | ((with_reducible refine Has.below ?_ ?_); rotate_left; assumption)))); (· kernel_rfl))) | (refine guard_op (isLoad 28) ?_ ?_; (· rfl); (refine load_has rfl 28 _ rfl _ rfl ?_ 6 ?_ _ Try.underlying28 rfl ?_ ?_; rotate_left; (· (repeat (first | (with_reducible assumption) | ((with_reducible refine Has.box _ _ ?_ ?_) <;> (first | assumption | decide)) | (with_reducible refine Has.alloc ?_ _) | ((with_reducible refine Has.putOther ?_ _ _ ?_); rotate_left; omega; skip) | ((with_reducible refine Has.below ?_ ?_); rotate_left; assumption)))); (· kernel_rfl))))
  refine (specFewest ns ds x _ hl hd).mono ?_
  rintro e w3 ⟨rfl, bb⟩
  replace HB := Lib.hid (HB.out.call bb)
  replace H1 := H1.below bb
  replace D1 := D1.below bb
  clear bb
  have LE := Lib.hid (fe_least (ns := ns) (ds := ds) (x := x))
  generalize feA ns ds x = F at *
  generalize hOK : feOk ns ds x = OK at *
  have HOK := Lib.hid hOK
  clear hOK
  go_wp2_with fail
  refine (drawReachBy a len cap _ (CO.out.below HB.out)).mono ?_
  rintro e w4 ⟨ms, es, y, n, rfl, hm, he, bb⟩
  replace HB := Lib.hid (HB.out.call bb)
  replace H1 := H1.below bb
  replace D1 := D1.below bb
  clear bb
  have lb2 := HB.out.size
  have lH12 := H1.lt
  have lD12 := D1.lt
  have TA0 := (Has.zero24 w4 27).alloc (.cells #[.int .i64 0, .int .i64 0, .int .i64 0, .int .i64 0, .int .i64 0, .int .i64 0] 28)
  have TD0 := (Has.zero6d (w4.alloc (.cells #[.int .i64 0, .int .i64 0, .int .i64 0, .int .i64 0, .int .i64 0, .int .i64 0, .int .i64 0, .int .i64 0, .int .i64 0, .int .i64 0, .int .i64 0, .int .i64 0, .int .i64 0, .int .i64 0, .int .i64 0, .int .i64 0, .int .i64 0, .int .i64 0, .int .i64 0, .int .i64 0, .int .i64 0, .int .i64 0, .int .i64 0, .int .i64 0] 27)) 28).at (size1 _ _)
  have TA1 := TA0.putAll ms hm
  have TD1 := TD0.putOther (b' := w4.heap.size) 0 (ints ms) (by omega)
  have H2 := TA1.putOther (b' := w4.heap.size + 1) 0 (ints es) (by omega)
  have D2 := TD1.putAll es he
  replace HB := Lib.hid (HB.out.alloc (.cells #[.int .i64 0, .int .i64 0, .int .i64 0, .int .i64 0, .int .i64 0, .int .i64 0, .int .i64 0, .int .i64 0, .int .i64 0, .int .i64 0, .int .i64 0, .int .i64 0, .int .i64 0, .int .i64 0, .int .i64 0, .int .i64 0, .int .i64 0, .int .i64 0, .int .i64 0, .int .i64 0, .int .i64 0, .int .i64 0, .int .i64 0, .int .i64 0] 27))
  replace H1 := H1.alloc (.cells #[.int .i64 0, .int .i64 0, .int .i64 0, .int .i64 0, .int .i64 0, .int .i64 0, .int .i64 0, .int .i64 0, .int .i64 0, .int .i64 0, .int .i64 0, .int .i64 0, .int .i64 0, .int .i64 0, .int .i64 0, .int .i64 0, .int .i64 0, .int .i64 0, .int .i64 0, .int .i64 0, .int .i64 0, .int .i64 0, .int .i64 0, .int .i64 0] 27)
  replace D1 := D1.alloc (.cells #[.int .i64 0, .int .i64 0, .int .i64 0, .int .i64 0, .int .i64 0, .int .i64 0, .int .i64 0, .int .i64 0, .int .i64 0, .int .i64 0, .int .i64 0, .int .i64 0, .int .i64 0, .int .i64 0, .int .i64 0, .int .i64 0, .int .i64 0, .int .i64 0, .int .i64 0, .int .i64 0, .int .i64 0, .int .i64 0, .int .i64 0, .int .i64 0] 27)
  replace HB := Lib.hid (HB.out.alloc (.cells #[.int .i64 0, .int .i64 0, .int .i64 0, .int .i64 0, .int .i64 0, .int .i64 0] 28))
  replace H1 := H1.alloc (.cells #[.int .i64 0, .int .i64 0, .int .i64 0, .int .i64 0, .int .i64 0, .int .i64 0] 28)
  replace D1 := D1.alloc (.cells #[.int .i64 0, .int .i64 0, .int .i64 0, .int .i64 0, .int .i64 0, .int .i64 0] 28)
  replace HB := Lib.hid (HB.out.puts (b := w4.heap.size) (by omega) 0 (ints ms))
  replace H1 := H1.putOther (b' := w4.heap.size) 0 (ints ms) (by omega)
  replace D1 := D1.putOther (b' := w4.heap.size) 0 (ints ms) (by omega)
  replace HB := Lib.hid (HB.out.puts (b := w4.heap.size + 1) (by omega) 0 (ints es))
  replace H1 := H1.putOther (b' := w4.heap.size + 1) 0 (ints es) (by omega)
  replace D1 := D1.putOther (b' := w4.heap.size + 1) 0 (ints es) (by omega)
  go_wp2_with (first | (refine store_at rfl 27 _ _ rfl _ _ rfl rfl ?_ 24 ?_ ?_ ?_ ?_; rotate_left; (· (repeat (first | (with_reducible assumption) | ((with_reducible refine Has.box _ _ ?_ ?_) <;> (first | assumption | decide)) | (with_reducible refine Has.alloc ?_ _) | ((with_reducible refine Has.putOther ?_ _ _ ?_); rotate_left; omega; skip) | ((with_reducible refine Has.below ?_ ?_); rotate_left; assumption)))); (· (first | assumption | rfl)); (· kernel_rfl)) | (refine store_at rfl 28 _ _ rfl _ _ rfl rfl ?_ 6 ?_ ?_ ?_ ?_; rotate_left; (· (repeat (first | (with_reducible assumption) | ((with_reducible refine Has.box _ _ ?_ ?_) <;> (first | assumption | decide)) | (with_reducible refine Has.alloc ?_ _) | ((with_reducible refine Has.putOther ?_ _ _ ?_); rotate_left; omega; skip) | ((with_reducible refine Has.below ?_ ?_); rotate_left; assumption)))); (· (first | assumption | rfl)); (· kernel_rfl)) | (refine guard_op (isLoad 27) ?_ ?_; (· rfl); (refine load_has rfl 27 _ rfl _ rfl ?_ 24 ?_ _ Try.underlying27 rfl ?_ ?_; rotate_left; (· (repeat (first | (with_reducible assumption) | ((with_reducible refine Has.box _ _ ?_ ?_) <;> (first | assumption | decide)) | (with_reducible refine Has.alloc ?_ _) | ((with_reducible refine Has.putOther ?_ _ _ ?_); rotate_left; omega; skip) | ((with_reducible refine Has.below ?_ ?_); rotate_left; assumption)))); (· kernel_rfl))) | (refine guard_op (isLoad 28) ?_ ?_; (· rfl); (refine load_has rfl 28 _ rfl _ rfl ?_ 6 ?_ _ Try.underlying28 rfl ?_ ?_; rotate_left; (· (repeat (first | (with_reducible assumption) | ((with_reducible refine Has.box _ _ ?_ ?_) <;> (first | assumption | decide)) | (with_reducible refine Has.alloc ?_ _) | ((with_reducible refine Has.putOther ?_ _ _ ?_); rotate_left; omega; skip) | ((with_reducible refine Has.below ?_ ?_); rotate_left; assumption)))); (· kernel_rfl))))
  clear TA0 TD0 TA1 TD1 lb2 lH12 lD12
  obtain ⟨B2, hB2⟩ : ∃ B, w4.heap.size = B := ⟨_, rfl⟩
  rw [hB2] at HB H1 D1 H2 D2 ⊢
  generalize ((((w4.alloc (.cells #[.int .i64 0, .int .i64 0, .int .i64 0, .int .i64 0, .int .i64 0, .int .i64 0, .int .i64 0, .int .i64 0, .int .i64 0, .int .i64 0, .int .i64 0, .int .i64 0, .int .i64 0, .int .i64 0, .int .i64 0, .int .i64 0, .int .i64 0, .int .i64 0, .int .i64 0, .int .i64 0, .int .i64 0, .int .i64 0, .int .i64 0, .int .i64 0] 27)).alloc (.cells #[.int .i64 0, .int .i64 0, .int .i64 0, .int .i64 0, .int .i64 0, .int .i64 0] 28)).setCells B2 0 (ints ms)).setCells (B2 + 1) 0 (ints es)) = WB2 at *
  clear hB2
  refine (implReach ms es y n _ hm he).mono ?_
  rintro e w5 ⟨rfl, bb⟩
  replace HB := Lib.hid (HB.out.call bb)
  replace H1 := H1.below bb
  replace D1 := D1.below bb
  replace H2 := H2.below bb
  replace D2 := D2.below bb
  clear bb
  go_wp2_with (first | (refine guard_op (isLoad 27) ?_ ?_; (· rfl); (refine load_has rfl 27 _ rfl _ rfl ?_ 24 ?_ _ Try.underlying27 rfl ?_ ?_; rotate_left; (· (repeat (first | (with_reducible assumption) | ((with_reducible refine Has.box _ _ ?_ ?_) <;> (first | assumption | decide)) | (with_reducible refine Has.alloc ?_ _) | ((with_reducible refine Has.putOther ?_ _ _ ?_); rotate_left; omega; skip) | ((with_reducible refine Has.below ?_ ?_); rotate_left; assumption)))); (· kernel_rfl))) | (refine guard_op (isLoad 28) ?_ ?_; (· rfl); (refine load_has rfl 28 _ rfl _ rfl ?_ 6 ?_ _ Try.underlying28 rfl ?_ ?_; rotate_left; (· (repeat (first | (with_reducible assumption) | ((with_reducible refine Has.box _ _ ?_ ?_) <;> (first | assumption | decide)) | (with_reducible refine Has.alloc ?_ _) | ((with_reducible refine Has.putOther ?_ _ _ ?_); rotate_left; omega; skip) | ((with_reducible refine Has.below ?_ ?_); rotate_left; assumption)))); (· kernel_rfl))))
  refine (specReach ms es y n _ hm he).mono ?_
  rintro e w6 ⟨rfl, bb⟩
  replace HB := Lib.hid (HB.out.call bb)
  replace H1 := H1.below bb
  replace D1 := D1.below bb
  replace H2 := H2.below bb
  replace D2 := D2.below bb
  clear bb
  have RG := Lib.hid (re_grow (ns := ms) (ds := es) (x := y) (n := n))
  have KR := Lib.hid (fun W => implReach ms es y (n - 1) W hm he)
  have R2 := Lib.hid (show reOk ms es y n = true → 0 ≤ n ∧ n ≤ 2 from fun h => by unfold reOk at h; exact of_decide_eq_true (Bool.and_eq_true_iff.1 h).2)
  generalize reA ms es y n = RA at *
  generalize reA ms es y (n - 1) = RB at *
  generalize reOk ms es y n = RO at *
  generalize reOk ms es y (n - 1) = RP at *
  go_wp2_with fail
  refine (drawPoursBy a len cap _ (CO.out.below HB.out)).mono ?_
  rintro e w7 ⟨rs, gs, z, rfl, hr, hg, bb⟩
  replace HB := Lib.hid (HB.out.call bb)
  replace H1 := H1.below bb
  replace D1 := D1.below bb
  replace H2 := H2.below bb
  replace D2 := D2.below bb
  clear bb
  have lb3 := HB.out.size
  have lH13 := H1.lt
  have lD13 := D1.lt
  have lH23 := H2.lt
  have lD23 := D2.lt
  have TA0 := (Has.zero24 w7 27).alloc (.cells #[.int .i64 0, .int .i64 0, .int .i64 0, .int .i64 0, .int .i64 0, .int .i64 0] 28)
  have TD0 := (Has.zero6d (w7.alloc (.cells #[.int .i64 0, .int .i64 0, .int .i64 0, .int .i64 0, .int .i64 0, .int .i64 0, .int .i64 0, .int .i64 0, .int .i64 0, .int .i64 0, .int .i64 0, .int .i64 0, .int .i64 0, .int .i64 0, .int .i64 0, .int .i64 0, .int .i64 0, .int .i64 0, .int .i64 0, .int .i64 0, .int .i64 0, .int .i64 0, .int .i64 0, .int .i64 0] 27)) 28).at (size1 _ _)
  have TA1 := TA0.putAll rs hr
  have TD1 := TD0.putOther (b' := w7.heap.size) 0 (ints rs) (by omega)
  have H3 := TA1.putOther (b' := w7.heap.size + 1) 0 (ints gs) (by omega)
  have D3 := TD1.putAll gs hg
  replace HB := Lib.hid (HB.out.alloc (.cells #[.int .i64 0, .int .i64 0, .int .i64 0, .int .i64 0, .int .i64 0, .int .i64 0, .int .i64 0, .int .i64 0, .int .i64 0, .int .i64 0, .int .i64 0, .int .i64 0, .int .i64 0, .int .i64 0, .int .i64 0, .int .i64 0, .int .i64 0, .int .i64 0, .int .i64 0, .int .i64 0, .int .i64 0, .int .i64 0, .int .i64 0, .int .i64 0] 27))
  replace H1 := H1.alloc (.cells #[.int .i64 0, .int .i64 0, .int .i64 0, .int .i64 0, .int .i64 0, .int .i64 0, .int .i64 0, .int .i64 0, .int .i64 0, .int .i64 0, .int .i64 0, .int .i64 0, .int .i64 0, .int .i64 0, .int .i64 0, .int .i64 0, .int .i64 0, .int .i64 0, .int .i64 0, .int .i64 0, .int .i64 0, .int .i64 0, .int .i64 0, .int .i64 0] 27)
  replace D1 := D1.alloc (.cells #[.int .i64 0, .int .i64 0, .int .i64 0, .int .i64 0, .int .i64 0, .int .i64 0, .int .i64 0, .int .i64 0, .int .i64 0, .int .i64 0, .int .i64 0, .int .i64 0, .int .i64 0, .int .i64 0, .int .i64 0, .int .i64 0, .int .i64 0, .int .i64 0, .int .i64 0, .int .i64 0, .int .i64 0, .int .i64 0, .int .i64 0, .int .i64 0] 27)
  replace H2 := H2.alloc (.cells #[.int .i64 0, .int .i64 0, .int .i64 0, .int .i64 0, .int .i64 0, .int .i64 0, .int .i64 0, .int .i64 0, .int .i64 0, .int .i64 0, .int .i64 0, .int .i64 0, .int .i64 0, .int .i64 0, .int .i64 0, .int .i64 0, .int .i64 0, .int .i64 0, .int .i64 0, .int .i64 0, .int .i64 0, .int .i64 0, .int .i64 0, .int .i64 0] 27)
  replace D2 := D2.alloc (.cells #[.int .i64 0, .int .i64 0, .int .i64 0, .int .i64 0, .int .i64 0, .int .i64 0, .int .i64 0, .int .i64 0, .int .i64 0, .int .i64 0, .int .i64 0, .int .i64 0, .int .i64 0, .int .i64 0, .int .i64 0, .int .i64 0, .int .i64 0, .int .i64 0, .int .i64 0, .int .i64 0, .int .i64 0, .int .i64 0, .int .i64 0, .int .i64 0] 27)
  replace HB := Lib.hid (HB.out.alloc (.cells #[.int .i64 0, .int .i64 0, .int .i64 0, .int .i64 0, .int .i64 0, .int .i64 0] 28))
  replace H1 := H1.alloc (.cells #[.int .i64 0, .int .i64 0, .int .i64 0, .int .i64 0, .int .i64 0, .int .i64 0] 28)
  replace D1 := D1.alloc (.cells #[.int .i64 0, .int .i64 0, .int .i64 0, .int .i64 0, .int .i64 0, .int .i64 0] 28)
  replace H2 := H2.alloc (.cells #[.int .i64 0, .int .i64 0, .int .i64 0, .int .i64 0, .int .i64 0, .int .i64 0] 28)
  replace D2 := D2.alloc (.cells #[.int .i64 0, .int .i64 0, .int .i64 0, .int .i64 0, .int .i64 0, .int .i64 0] 28)
  replace HB := Lib.hid (HB.out.puts (b := w7.heap.size) (by omega) 0 (ints rs))
  replace H1 := H1.putOther (b' := w7.heap.size) 0 (ints rs) (by omega)
  replace D1 := D1.putOther (b' := w7.heap.size) 0 (ints rs) (by omega)
  replace H2 := H2.putOther (b' := w7.heap.size) 0 (ints rs) (by omega)
  replace D2 := D2.putOther (b' := w7.heap.size) 0 (ints rs) (by omega)
  replace HB := Lib.hid (HB.out.puts (b := w7.heap.size + 1) (by omega) 0 (ints gs))
  replace H1 := H1.putOther (b' := w7.heap.size + 1) 0 (ints gs) (by omega)
  replace D1 := D1.putOther (b' := w7.heap.size + 1) 0 (ints gs) (by omega)
  replace H2 := H2.putOther (b' := w7.heap.size + 1) 0 (ints gs) (by omega)
  replace D2 := D2.putOther (b' := w7.heap.size + 1) 0 (ints gs) (by omega)
  go_wp2_with (first | (refine store_at rfl 27 _ _ rfl _ _ rfl rfl ?_ 24 ?_ ?_ ?_ ?_; rotate_left; (· (repeat (first | (with_reducible assumption) | ((with_reducible refine Has.box _ _ ?_ ?_) <;> (first | assumption | decide)) | (with_reducible refine Has.alloc ?_ _) | ((with_reducible refine Has.putOther ?_ _ _ ?_); rotate_left; omega; skip) | ((with_reducible refine Has.below ?_ ?_); rotate_left; assumption)))); (· (first | assumption | rfl)); (· kernel_rfl)) | (refine store_at rfl 28 _ _ rfl _ _ rfl rfl ?_ 6 ?_ ?_ ?_ ?_; rotate_left; (· (repeat (first | (with_reducible assumption) | ((with_reducible refine Has.box _ _ ?_ ?_) <;> (first | assumption | decide)) | (with_reducible refine Has.alloc ?_ _) | ((with_reducible refine Has.putOther ?_ _ _ ?_); rotate_left; omega; skip) | ((with_reducible refine Has.below ?_ ?_); rotate_left; assumption)))); (· (first | assumption | rfl)); (· kernel_rfl)) | (refine guard_op (isLoad 27) ?_ ?_; (· rfl); (refine load_has rfl 27 _ rfl _ rfl ?_ 24 ?_ _ Try.underlying27 rfl ?_ ?_; rotate_left; (· (repeat (first | (with_reducible assumption) | ((with_reducible refine Has.box _ _ ?_ ?_) <;> (first | assumption | decide)) | (with_reducible refine Has.alloc ?_ _) | ((with_reducible refine Has.putOther ?_ _ _ ?_); rotate_left; omega; skip) | ((with_reducible refine Has.below ?_ ?_); rotate_left; assumption)))); (· kernel_rfl))) | (refine guard_op (isLoad 28) ?_ ?_; (· rfl); (refine load_has rfl 28 _ rfl _ rfl ?_ 6 ?_ _ Try.underlying28 rfl ?_ ?_; rotate_left; (· (repeat (first | (with_reducible assumption) | ((with_reducible refine Has.box _ _ ?_ ?_) <;> (first | assumption | decide)) | (with_reducible refine Has.alloc ?_ _) | ((with_reducible refine Has.putOther ?_ _ _ ?_); rotate_left; omega; skip) | ((with_reducible refine Has.below ?_ ?_); rotate_left; assumption)))); (· kernel_rfl))))
  clear TA0 TD0 TA1 TD1 lb3 lH13 lD13 lH23 lD23
  obtain ⟨B3, hB3⟩ : ∃ B, w7.heap.size = B := ⟨_, rfl⟩
  rw [hB3] at HB H1 D1 H2 D2 H3 D3 ⊢
  generalize ((((w7.alloc (.cells #[.int .i64 0, .int .i64 0, .int .i64 0, .int .i64 0, .int .i64 0, .int .i64 0, .int .i64 0, .int .i64 0, .int .i64 0, .int .i64 0, .int .i64 0, .int .i64 0, .int .i64 0, .int .i64 0, .int .i64 0, .int .i64 0, .int .i64 0, .int .i64 0, .int .i64 0, .int .i64 0, .int .i64 0, .int .i64 0, .int .i64 0, .int .i64 0] 27)).alloc (.cells #[.int .i64 0, .int .i64 0, .int .i64 0, .int .i64 0, .int .i64 0, .int .i64 0] 28)).setCells B3 0 (ints rs)).setCells (B3 + 1) 0 (ints gs)) = WB3 at *
  clear hB3
  refine (implPoursBy rs gs z _ hr hg).mono ?_
  rintro e w8 ⟨v7, rfl, q7, bb⟩
  replace HB := Lib.hid (HB.out.call bb)
  replace H1 := H1.below bb
  replace D1 := D1.below bb
  replace H2 := H2.below bb
  replace D2 := D2.below bb
  replace H3 := H3.below bb
  replace D3 := D3.below bb
  clear bb
  have Q7 := Lib.hid q7
  clear q7
  go_wp2_with (first | (refine guard_op (isLoad 27) ?_ ?_; (· rfl); (refine load_has rfl 27 _ rfl _ rfl ?_ 24 ?_ _ Try.underlying27 rfl ?_ ?_; rotate_left; (· (repeat (first | (with_reducible assumption) | ((with_reducible refine Has.box _ _ ?_ ?_) <;> (first | assumption | decide)) | (with_reducible refine Has.alloc ?_ _) | ((with_reducible refine Has.putOther ?_ _ _ ?_); rotate_left; omega; skip) | ((with_reducible refine Has.below ?_ ?_); rotate_left; assumption)))); (· kernel_rfl))) | (refine guard_op (isLoad 28) ?_ ?_; (· rfl); (refine load_has rfl 28 _ rfl _ rfl ?_ 6 ?_ _ Try.underlying28 rfl ?_ ?_; rotate_left; (· (repeat (first | (with_reducible assumption) | ((with_reducible refine Has.box _ _ ?_ ?_) <;> (first | assumption | decide)) | (with_reducible refine Has.alloc ?_ _) | ((with_reducible refine Has.putOther ?_ _ _ ?_); rotate_left; omega; skip) | ((with_reducible refine Has.below ?_ ?_); rotate_left; assumption)))); (· kernel_rfl))))
  refine (specPoursBy rs gs z _ hr hg).mono ?_
  rintro e w9 ⟨v8, rfl, q8, bb⟩
  replace HB := Lib.hid (HB.out.call bb)
  replace H1 := H1.below bb
  replace D1 := D1.below bb
  replace H2 := H2.below bb
  replace D2 := D2.below bb
  replace H3 := H3.below bb
  replace D3 := D3.below bb
  replace Q7 := Lib.hid (Q7.out.below bb)
  clear bb
  have Q8 := Lib.hid q8
  clear q8
  have hn36 := byNA_le rs gs z
  generalize byOk rs gs z = BO at *
  generalize byNA rs gs z = BN at *
  generalize byFA rs gs z = BF at *
  go_wp2_with fail
  refine (rPairs_rw v7 v8 _ _ BN BF _ (by omega) Q7.out Q8.out).mono ?_
  rintro e w10 ⟨rfl, bb⟩
  replace HB := Lib.hid (HB.out.call bb)
  replace H1 := H1.below bb
  replace D1 := D1.below bb
  replace H2 := H2.below bb
  replace D2 := D2.below bb
  replace H3 := H3.below bb
  replace D3 := D3.below bb
  replace Q7 := Lib.hid (Q7.out.below bb)
  replace Q8 := Lib.hid (Q8.out.below bb)
  clear bb
  clear Q7 Q8 H3 D3 hr hg CO
  generalize w10 = WM at *
  by_cases hro : RO = true ∧ 0 < n
  case' pos =>
    obtain ⟨rfl, hn0⟩ := hro
    obtain ⟨r1, r2, r3⟩ := RG.out rfl hn0
    obtain ⟨n1, n2⟩ := R2.out rfl
    subst r1
    have wsn : IntKind.i64.wrap (n - 1) = n - 1 := IntWalk.i64_in _ (by omega)
    have x1 : decide (RA < RB) = false := by simp; omega
    have x2 : decide (RB < 1) = false := by simp; omega
    clear RG R2
    go_wp2_with (first | (refine guard_op (isLoad 27) ?_ ?_; (· rfl); (refine load_has rfl 27 _ rfl _ rfl ?_ 24 ?_ _ Try.underlying27 rfl ?_ ?_; rotate_left; (· (repeat (first | (with_reducible assumption) | ((with_reducible refine Has.box _ _ ?_ ?_) <;> (first | assumption | decide)) | (with_reducible refine Has.alloc ?_ _) | ((with_reducible refine Has.putOther ?_ _ _ ?_); rotate_left; omega; skip) | ((with_reducible refine Has.below ?_ ?_); rotate_left; assumption)))); (· kernel_rfl))) | (refine guard_op (isLoad 28) ?_ ?_; (· rfl); (refine load_has rfl 28 _ rfl _ rfl ?_ 6 ?_ _ Try.underlying28 rfl ?_ ?_; rotate_left; (· (repeat (first | (with_reducible assumption) | ((with_reducible refine Has.box _ _ ?_ ?_) <;> (first | assumption | decide)) | (with_reducible refine Has.alloc ?_ _) | ((with_reducible refine Has.putOther ?_ _ _ ?_); rotate_left; omega; skip) | ((with_reducible refine Has.below ?_ ?_); rotate_left; assumption)))); (· kernel_rfl))))
    refine (KR.out _).mono ?_
    rintro e w11 ⟨rfl, bb⟩
    replace HB := Lib.hid (HB.out.call bb)
    replace H1 := H1.below bb
    replace D1 := D1.below bb
    replace H2 := H2.below bb
    replace D2 := D2.below bb
    clear bb
    cases OK
    case' false =>
      go_wp2_with fail
      go_ret
      exact ⟨rfl, HB.out⟩
    case' true =>
      obtain ⟨f, rfl, hby, hLE⟩ := LE.out rfl
      have HLE := Lib.hid hLE
      have hf3 := hLE.le
      have hz := least_zero hLE
      have hfit : fitA ns ds = true := (Bool.and_eq_true_iff.1 hby).1
      have hvr : vR ns = true := (fit_of hfit).1
      clear hLE
      go_wp2_with (refine guard_op (isLoad 27) ?_ ?_; (· rfl); (refine load_has rfl 27 _ rfl _ rfl ?_ 24 ?_ _ Try.underlying27 rfl ?_ ?_; rotate_left; (· (repeat (first | (with_reducible assumption) | ((with_reducible refine Has.box _ _ ?_ ?_) <;> (first | assumption | decide)) | (with_reducible refine Has.alloc ?_ _) | ((with_reducible refine Has.putOther ?_ _ _ ?_); rotate_left; omega; skip) | ((with_reducible refine Has.below ?_ ?_); rotate_left; assumption)))); (· kernel_rfl)))
      refine (implSorted ns _ hl).mono ?_
      rintro e w12 ⟨rfl, bb⟩
      replace HB := Lib.hid (HB.out.call bb)
      replace H1 := H1.below bb
      replace D1 := D1.below bb
      replace H2 := H2.below bb
      replace D2 := D2.below bb
      clear bb
      rw [hvr, hz]
      clear hz
      by_cases hf0 : f = 0
      case' pos =>
        subst hf0
        go_wp2_with fail
        go_ret
        exact ⟨rfl, HB.out⟩
      case' neg =>
        have e0 : ((f : Int) == 0) = false := by simp; omega
        have e1 : decide (f = 0) = false := by simp; omega
        have e2 : decide ((f : Int) = 0) = false := by simp; omega
        have e3 : (f == 0) = false := by simp; omega
        rw [e1]
        by_cases hf33 : f = 3
        case' pos =>
          subst hf33
          go_wp2_with fail
          go_ret
          exact ⟨rfl, HB.out⟩
        case' neg =>
          have g0 : ((f : Int) == 3) = false := by simp; omega
          have g2 : decide ((f : Int) = 3) = false := by simp; omega
          have g3 : (f == 3) = false := by simp; omega
          go_wp2_with (first | (refine guard_op (isLoad 27) ?_ ?_; (· rfl); (refine load_has rfl 27 _ rfl _ rfl ?_ 24 ?_ _ Try.underlying27 rfl ?_ ?_; rotate_left; (· (repeat (first | (with_reducible assumption) | ((with_reducible refine Has.box _ _ ?_ ?_) <;> (first | assumption | decide)) | (with_reducible refine Has.alloc ?_ _) | ((with_reducible refine Has.putOther ?_ _ _ ?_); rotate_left; omega; skip) | ((with_reducible refine Has.below ?_ ?_); rotate_left; assumption)))); (· kernel_rfl))) | (refine guard_op (isLoad 28) ?_ ?_; (· rfl); (refine load_has rfl 28 _ rfl _ rfl ?_ 6 ?_ _ Try.underlying28 rfl ?_ ?_; rotate_left; (· (repeat (first | (with_reducible assumption) | ((with_reducible refine Has.box _ _ ?_ ?_) <;> (first | assumption | decide)) | (with_reducible refine Has.alloc ?_ _) | ((with_reducible refine Has.putOther ?_ _ _ ?_); rotate_left; omega; skip) | ((with_reducible refine Has.below ?_ ?_); rotate_left; assumption)))); (· kernel_rfl))))
          refine (implPoursBy ns ds x _ hl hd).mono ?_
          rintro e w13 ⟨v9, rfl, q9, bb⟩
          replace HB := Lib.hid (HB.out.call bb)
          replace H1 := H1.below bb
          replace D1 := D1.below bb
          replace H2 := H2.below bb
          replace D2 := D2.below bb
          clear bb
          have Q9 := Lib.hid q9
          clear q9
          rw [hby]
          have hgR : GoodR ds ns := ⟨hl, hfit⟩
          have EN : byNA ns ds x = nbN ds x ns := by unfold byNA; rw [if_pos hby]; rfl
          have EF : byFA ns ds x = pF (byP ns ds x) 36 := by unfold byFA; rw [if_pos hby]
          rw [EN, EF] at Q9
          clear EN EF
          have hrv : ruleV x = true := (Bool.and_eq_true_iff.1 hby).2
          have NB := Lib.hid (fun j hj => nb_at (x := x) (j := j) hgR hj)
          have NG := Lib.hid (fun j (hj : j < nbN ds x ns) => nb_good (x := x) (j := j) hgR hj)
          have PB := Lib.hid (fun j (hj : j < nbN ds x ns) => pb_nb (x := x) (j := j) hgR hrv hj)
          have BS := Lib.hid (fun k (hk : k < nbN ds x ns) => bst_step (k := k) HLE.out (by omega) hk (by unfold byOk; rw [(nb_good (x := x) (j := k) hgR hk).fit, hrv]; rfl))
          have BE := Lib.hid (bst_end HLE.out (by omega))
          have B0 := Lib.hid (bst_zero ds x ns f)
          have hn36 : nbN ds x ns ≤ 36 := pN_le (byP ns ds x) 36
          have KPB := Lib.hid (fun i j W => implPourBy ns ds x i j W hl hd)
          have KFE := Lib.hid (fun t (ht : t.length = 24) W => implFewest t ds x W ht hd)
          have hiR := Lib.hid (show (Try.prog.info? 27).map (·.size) = some (ints ns).length by rw [ints_len, hl]; kernel_rfl)
          have hiD := Lib.hid (show (Try.prog.info? 28).map (·.size) = some (ints ds).length by rw [ints_len, hd]; kernel_rfl)
          have HI24 := Lib.hid (show (Try.prog.info? 27).map (·.size) = some 24 by kernel_rfl)
          generalize pF (byP ns ds x) 36 = FS at *
          obtain ⟨N, hN⟩ : ∃ N, nbN ds x ns = N := ⟨_, rfl⟩
          rw [hN] at Q9 NB NG PB BS BE hn36
          clear hN HLE LE
          obtain ⟨pa, pcap, rfl⟩ := Q9.out.shape
          clear e0 e1 e2 e3 g0 g2 g3
          have wf1 : IntKind.i64.wrap ((f : Int) - 1) = (f : Int) - 1 := IntWalk.i64_in _ (by omega)
          replace Q9 := Lib.hid (Q9.out.mono (b' := 0) (Nat.zero_le _))
          go_wp2_with fail
          go_loopw [31, 32] (fun b i wr => ∃ k : Nat, k ≤ N ∧ i = .int .i64 k ∧ b = .int .i64 (bst ds x ns f k) ∧ Has wr B1 ns 24 ∧ Has wr (B1 + 1) ds 6 ∧ Hid (Rw wr 0 (.slice pa N pcap) N FS) ∧ Hid (Kept w wr)) (fun _ i _ => N - (intOf i).toNat)
          case atStart => exact ⟨0, by omega, rfl, by rw [B0.out], H1, D1, Q9, HB⟩
          case round =>
            clear H1 D1 Q9 HB
            obtain ⟨k, hk, rfl, rfl, H1, D1, Q9, HB⟩ := hrel
            by_cases hkn : k < N
            case' pos =>
              have hki : (k : Int) < (N : Int) := by omega
              have hk0 : (0 : Int) ≤ (k : Int) := by omega
              obtain ⟨pg, pc2, hv', hg1, hg2⟩ := Q9.out.form (by omega)
              injection hv' with ha _ hcap
              subst ha
              subst hcap
              obtain ⟨hp6, hq6, hpos, hx, hy⟩ := NB.out k hkn
              obtain ⟨pb1, pb2⟩ := PB.out k hkn
              have BSK := Lib.hid (BS.out k hkn)
              have TL := (NG.out k hkn).len
              have KP := Lib.hid (fun W => KPB.out (pAt ns ds x k : Nat) (qAt ns ds x k : Nat) W)
              skip
              generalize bst ds x ns f k = bk at *
              rw [pb1, pb2] at KP
              clear pb1 pb2 hpos
              generalize pbN ns ds x (pAt ns ds x k : Nat) (qAt ns ds x k : Nat) = pm at *
              generalize pAt ns ds x k = i at *
              generalize qAt ns ds x k = j at *
              generalize nbAt ns ds x k = T at *
              have KF := Lib.hid (fun W => KFE.out T TL W)
              have HX := Lib.hid hx
              have HY := Lib.hid hy
              have hlT : (ints T).length = 24 := by rw [ints_len]; exact TL
              have HLT := Lib.hid hlT
              clear hx hy hg1 hg2 hlT
              replace H1 := H1.drew
              replace D1 := D1.drew
              replace Q9 := Lib.hid Q9.out.drew
              replace HB := Lib.hid (keptDrew8 HB.out)
              go_wp2_with fail
              refine wp_region_held_drew (S := fun w' => Rw w' 0 (.slice (some ⟨pg, 0, none⟩) N pcap) N FS ∧ Has w' B1 ns 24 ∧ Has w' (B1 + 1) ds 6) (by kernel_rfl) ⟨Q9.out, H1, D1⟩ (fun hHeld => ?_)
              generalize World.drew _ = V1 at *
              (refine wpAnyH_take (i := 2) (v := ?_) rfl (by kernel_rfl) (by kernel_rfl) (by kernel_rfl) (fun _ _ _ h => h) (Or.inl ⟨by rfl, ?_⟩) hHeld ?_; rotate_left; (· (intro w' hSw; go_simp; try with_reducible rfl)); (try simp only [List.getElem_toArray, List.getElem_cons_zero, List.getElem_cons_succ, Act.put, List.setIfInBounds_toArray, List.set_cons_zero, List.set_cons_succ])); (refine wpAnyH_take (i := 3) (v := ?_) rfl (by kernel_rfl) (by kernel_rfl) (by kernel_rfl) (fun _ _ _ h => h) (Or.inl ⟨by rfl, ?_⟩) hHeld ?_; rotate_left; (· (intro w' hSw; go_simp; try with_reducible rfl)); (try simp only [List.getElem_toArray, List.getElem_cons_zero, List.getElem_cons_succ, Act.put, List.setIfInBounds_toArray, List.set_cons_zero, List.set_cons_succ])); (refine wpAnyH_take (i := 4) (v := ?_) rfl (by kernel_rfl) (by kernel_rfl) (by kernel_rfl) (fun _ _ _ h => h) (Or.inl ⟨by rfl, ?_⟩) hHeld ?_; rotate_left; (· (intro w' hSw; go_simp; try with_reducible rfl)); (try simp only [List.getElem_toArray, List.getElem_cons_zero, List.getElem_cons_succ, Act.put, List.setIfInBounds_toArray, List.set_cons_zero, List.set_cons_succ]))
              (refine wpAnyH_take (i := 0) (v := _) rfl (by kernel_rfl) (by kernel_rfl) (by kernel_rfl) (fun _ _ _ h => h) (yieldsIf_load_mid (by rfl) 27 _ rfl _ _ rfl (ints ns) _ (fun w' hSw => hSw.2.1.holds.range) Try.underlying27 rfl (hiR.out)) hHeld ?_; (try simp only [List.getElem_toArray, List.getElem_cons_zero, List.getElem_cons_succ, Act.put, List.setIfInBounds_toArray, List.set_cons_zero, List.set_cons_succ]))
              (refine wpAnyH_take (i := 1) (v := _) rfl (by kernel_rfl) (by kernel_rfl) (by kernel_rfl) (fun _ _ _ h => h) (yieldsIf_load_mid (by rfl) 28 _ rfl _ _ rfl (ints ds) _ (fun w' hSw => hSw.2.2.holds.range) Try.underlying28 rfl (hiD.out)) hHeld ?_; (try simp only [List.getElem_toArray, List.getElem_cons_zero, List.getElem_cons_succ, Act.put, List.setIfInBounds_toArray, List.set_cons_zero, List.set_cons_succ]))
              (refine wpAnyH_take (i := 5) (v := ?_) rfl (by kernel_rfl) (by kernel_rfl) (by kernel_rfl) (fun _ _ _ h => h) (Or.inl ⟨by rfl, ?_⟩) hHeld ?_; rotate_left; (· (intro w' hSw; go_simp; try with_reducible rfl)); (try simp only [List.getElem_toArray, List.getElem_cons_zero, List.getElem_cons_succ, Act.put, List.setIfInBounds_toArray, List.set_cons_zero, List.set_cons_succ])); (refine wpAnyH_take (i := 6) (v := ?_) rfl (by kernel_rfl) (by kernel_rfl) (by kernel_rfl) (fun _ _ _ h => h) (Or.inl ⟨by rfl, ?_⟩) hHeld ?_; rotate_left; (· (intro w' hSw; go_simp; try with_reducible rfl)); (try simp only [List.getElem_toArray, List.getElem_cons_zero, List.getElem_cons_succ, Act.put, List.setIfInBounds_toArray, List.set_cons_zero, List.set_cons_succ]))
              (refine wpAnyH_take (i := 7) (v := .int .i64 (i : Int)) rfl (by kernel_rfl) (by kernel_rfl) (by kernel_rfl) (fun _ _ _ h => h) (Or.inl ⟨by rfl, ?_⟩) hHeld ?_; (· (intro w' hSw; have q := hSw.1.cellX (by omega) HX.out; clear hSw; go_simp; try with_reducible rfl)); (try simp only [List.getElem_toArray, List.getElem_cons_zero, List.getElem_cons_succ, Act.put, List.setIfInBounds_toArray, List.set_cons_zero, List.set_cons_succ]))
              (refine wpAnyH_take (i := 8) (v := ?_) rfl (by kernel_rfl) (by kernel_rfl) (by kernel_rfl) (fun _ _ _ h => h) (Or.inl ⟨by rfl, ?_⟩) hHeld ?_; rotate_left; (· (intro w' hSw; go_simp; try with_reducible rfl)); (try simp only [List.getElem_toArray, List.getElem_cons_zero, List.getElem_cons_succ, Act.put, List.setIfInBounds_toArray, List.set_cons_zero, List.set_cons_succ])); (refine wpAnyH_take (i := 9) (v := ?_) rfl (by kernel_rfl) (by kernel_rfl) (by kernel_rfl) (fun _ _ _ h => h) (Or.inl ⟨by rfl, ?_⟩) hHeld ?_; rotate_left; (· (intro w' hSw; go_simp; try with_reducible rfl)); (try simp only [List.getElem_toArray, List.getElem_cons_zero, List.getElem_cons_succ, Act.put, List.setIfInBounds_toArray, List.set_cons_zero, List.set_cons_succ])); (refine wpAnyH_take (i := 10) (v := ?_) rfl (by kernel_rfl) (by kernel_rfl) (by kernel_rfl) (fun _ _ _ h => h) (Or.inl ⟨by rfl, ?_⟩) hHeld ?_; rotate_left; (· (intro w' hSw; go_simp; try with_reducible rfl)); (try simp only [List.getElem_toArray, List.getElem_cons_zero, List.getElem_cons_succ, Act.put, List.setIfInBounds_toArray, List.set_cons_zero, List.set_cons_succ])); (refine wpAnyH_take (i := 11) (v := ?_) rfl (by kernel_rfl) (by kernel_rfl) (by kernel_rfl) (fun _ _ _ h => h) (Or.inl ⟨by rfl, ?_⟩) hHeld ?_; rotate_left; (· (intro w' hSw; go_simp; try with_reducible rfl)); (try simp only [List.getElem_toArray, List.getElem_cons_zero, List.getElem_cons_succ, Act.put, List.setIfInBounds_toArray, List.set_cons_zero, List.set_cons_succ]))
              (refine wpAnyH_take (i := 12) (v := .int .i64 (j : Int)) rfl (by kernel_rfl) (by kernel_rfl) (by kernel_rfl) (fun _ _ _ h => h) (Or.inl ⟨by rfl, ?_⟩) hHeld ?_; (· (intro w' hSw; have q := hSw.1.cellX (by omega) HY.out; clear hSw; go_simp; try with_reducible rfl)); (try simp only [List.getElem_toArray, List.getElem_cons_zero, List.getElem_cons_succ, Act.put, List.setIfInBounds_toArray, List.set_cons_zero, List.set_cons_succ]))
              refine wpAnyH_ready (rs := [13, 18]) (by kernel_rfl) (by simp) ?_
              refine AllReadyH.cons (o := _) rfl (fun K hK => ?_) (AllReadyH.cons (o := _) rfl (fun K hK => ?_) AllReadyH.nil)
              rotate_left
              · (simp only [List.getElem_toArray, List.getElem_cons_zero, List.getElem_cons_succ, Region.wanted, if_true])
                go_simp
                have lo := Lib.hid (fun hn k hk => (Q9.out.ownlt hn k hk).2)
                have l1 := H1.lt
                have l2 := D1.lt
                have l3 := HB.out.size
                have TZ := Has.zero24 V1 27
                have l4 : V1.heap.size < (V1.alloc (.cells #[.int .i64 0, .int .i64 0, .int .i64 0, .int .i64 0, .int .i64 0, .int .i64 0, .int .i64 0, .int .i64 0, .int .i64 0, .int .i64 0, .int .i64 0, .int .i64 0, .int .i64 0, .int .i64 0, .int .i64 0, .int .i64 0, .int .i64 0, .int .i64 0, .int .i64 0, .int .i64 0, .int .i64 0, .int .i64 0, .int .i64 0, .int .i64 0] 27)).heap.size := by rw [size1]; omega
                refine hK.out _ _ ⟨hHeld.1.alloc _, hHeld.2.1.alloc _, hHeld.2.2.alloc _⟩ (fun hHeld => ?_)
                clear hK K
                replace H1 := H1.alloc (.cells #[.int .i64 0, .int .i64 0, .int .i64 0, .int .i64 0, .int .i64 0, .int .i64 0, .int .i64 0, .int .i64 0, .int .i64 0, .int .i64 0, .int .i64 0, .int .i64 0, .int .i64 0, .int .i64 0, .int .i64 0, .int .i64 0, .int .i64 0, .int .i64 0, .int .i64 0, .int .i64 0, .int .i64 0, .int .i64 0, .int .i64 0, .int .i64 0] 27)
                replace D1 := D1.alloc (.cells #[.int .i64 0, .int .i64 0, .int .i64 0, .int .i64 0, .int .i64 0, .int .i64 0, .int .i64 0, .int .i64 0, .int .i64 0, .int .i64 0, .int .i64 0, .int .i64 0, .int .i64 0, .int .i64 0, .int .i64 0, .int .i64 0, .int .i64 0, .int .i64 0, .int .i64 0, .int .i64 0, .int .i64 0, .int .i64 0, .int .i64 0, .int .i64 0] 27)
                replace Q9 := Lib.hid (Q9.out.alloc (.cells #[.int .i64 0, .int .i64 0, .int .i64 0, .int .i64 0, .int .i64 0, .int .i64 0, .int .i64 0, .int .i64 0, .int .i64 0, .int .i64 0, .int .i64 0, .int .i64 0, .int .i64 0, .int .i64 0, .int .i64 0, .int .i64 0, .int .i64 0, .int .i64 0, .int .i64 0, .int .i64 0, .int .i64 0, .int .i64 0, .int .i64 0, .int .i64 0] 27))
                replace HB := Lib.hid (HB.out.alloc (.cells #[.int .i64 0, .int .i64 0, .int .i64 0, .int .i64 0, .int .i64 0, .int .i64 0, .int .i64 0, .int .i64 0, .int .i64 0, .int .i64 0, .int .i64 0, .int .i64 0, .int .i64 0, .int .i64 0, .int .i64 0, .int .i64 0, .int .i64 0, .int .i64 0, .int .i64 0, .int .i64 0, .int .i64 0, .int .i64 0, .int .i64 0, .int .i64 0] 27))
                (refine wpAnyH_ready (rs := [13]) (by kernel_rfl) (by simp) ?_; refine AllReadyH.cons (o := _) rfl (fun K hK => ?_) AllReadyH.nil; (simp only [List.getElem_toArray, List.getElem_cons_zero, List.getElem_cons_succ, Region.wanted, if_true]))
                go_simp
                refine (KP.out _).mono ?_
                rintro e w10 ⟨rfl, b10⟩
                dsimp only
                (try simp only [List.getElem_toArray, List.getElem_cons_zero, List.getElem_cons_succ, Act.put, List.setIfInBounds_toArray, List.set_cons_zero, List.set_cons_succ])
                refine hK.out _ _ ⟨hHeld.1.below b10, hHeld.2.1.below b10, hHeld.2.2.below b10⟩ (fun hHeld => ?_)
                clear hK K
                replace TZ := TZ.below b10
                replace H1 := H1.below b10
                replace D1 := D1.below b10
                replace Q9 := Lib.hid (Q9.out.below b10)
                replace HB := Lib.hid (HB.out.call b10)
                clear b10 l4
                (refine wpAnyH_take (i := 14) (v := ?_) rfl (by kernel_rfl) (by kernel_rfl) (by kernel_rfl) (fun _ _ _ h => h) (Or.inl ⟨by rfl, ?_⟩) hHeld ?_; rotate_left; (· (intro w' hSw; go_simp; try with_reducible rfl)); (try simp only [List.getElem_toArray, List.getElem_cons_zero, List.getElem_cons_succ, Act.put, List.setIfInBounds_toArray, List.set_cons_zero, List.set_cons_succ])); (refine wpAnyH_take (i := 15) (v := ?_) rfl (by kernel_rfl) (by kernel_rfl) (by kernel_rfl) (fun _ _ _ h => h) (Or.inl ⟨by rfl, ?_⟩) hHeld ?_; rotate_left; (· (intro w' hSw; go_simp; try with_reducible rfl)); (try simp only [List.getElem_toArray, List.getElem_cons_zero, List.getElem_cons_succ, Act.put, List.setIfInBounds_toArray, List.set_cons_zero, List.set_cons_succ])); (refine wpAnyH_take (i := 16) (v := ?_) rfl (by kernel_rfl) (by kernel_rfl) (by kernel_rfl) (fun _ _ _ h => h) (Or.inl ⟨by rfl, ?_⟩) hHeld ?_; rotate_left; (· (intro w' hSw; go_simp; try with_reducible rfl)); (try simp only [List.getElem_toArray, List.getElem_cons_zero, List.getElem_cons_succ, Act.put, List.setIfInBounds_toArray, List.set_cons_zero, List.set_cons_succ])); (refine wpAnyH_take (i := 17) (v := ?_) rfl (by kernel_rfl) (by kernel_rfl) (by kernel_rfl) (fun _ _ _ h => h) (Or.inl ⟨by rfl, ?_⟩) hHeld ?_; rotate_left; (· (intro w' hSw; go_simp; try with_reducible rfl)); (try simp only [List.getElem_toArray, List.getElem_cons_zero, List.getElem_cons_succ, Act.put, List.setIfInBounds_toArray, List.set_cons_zero, List.set_cons_succ]))
                have SF := And.intro (hHeld.1.puts (V1.heap.size) 0 (ints T) (fun hi e => by have := lo.out hi _ e; omega)) (And.intro (hHeld.2.1.putOther (b' := V1.heap.size) 0 (ints T) (by omega)) (hHeld.2.2.putOther (b' := V1.heap.size) 0 (ints T) (by omega)))
                (refine wpAnyH_ready (rs := [19]) (by kernel_rfl) (by simp) ?_; refine AllReadyH.cons (o := _) rfl (fun K hK => ?_) AllReadyH.nil; (simp only [List.getElem_toArray, List.getElem_cons_zero, List.getElem_cons_succ, Region.wanted, if_true]); refine wp_store_mid _ _ _ rfl _ _ (ints T).toArray rfl rfl (by simpa [HLT.out] using TZ.there) (by simpa [HLT.out] using HI24.out) (all_oneCell_toArray (ints_one _)) ?_; (try simp only [List.getElem_toArray, List.getElem_cons_zero, List.getElem_cons_succ, Act.put, List.setIfInBounds_toArray, List.set_cons_zero, List.set_cons_succ, List.toList_toArray]); refine hK.out _ _ (SF) (fun hHeld => ?_); clear hK K)
                replace TZ := TZ.putAll T TL
                replace H1 := H1.putOther (b' := V1.heap.size) 0 (ints T) (by omega)
                replace D1 := D1.putOther (b' := V1.heap.size) 0 (ints T) (by omega)
                replace Q9 := Lib.hid (Q9.out.puts (V1.heap.size) 0 (ints T) (fun hi e => by have := lo.out hi _ e; omega))
                replace HB := Lib.hid (HB.out.puts (b := V1.heap.size) (by omega) 0 (ints T))
                (refine wpAnyH_take (i := 20) (v := ?_) rfl (by kernel_rfl) (by kernel_rfl) (by kernel_rfl) (fun _ _ _ h => h) (Or.inl ⟨by rfl, ?_⟩) hHeld ?_; rotate_left; (· (intro w' hSw; go_simp; try with_reducible rfl)); (try simp only [List.getElem_toArray, List.getElem_cons_zero, List.getElem_cons_succ, Act.put, List.setIfInBounds_toArray, List.set_cons_zero, List.set_cons_succ])); (refine wpAnyH_take (i := 21) (v := ?_) rfl (by kernel_rfl) (by kernel_rfl) (by kernel_rfl) (fun _ _ _ h => h) (Or.inl ⟨by rfl, ?_⟩) hHeld ?_; rotate_left; (· (intro w' hSw; go_simp; try with_reducible rfl)); (try simp only [List.getElem_toArray, List.getElem_cons_zero, List.getElem_cons_succ, Act.put, List.setIfInBounds_toArray, List.set_cons_zero, List.set_cons_succ]))
                refine wpAnyH_done (by kernel_rfl) ?_ _
                clear hHeld lo l1 l2 l3
                obtain ⟨B3, hB3⟩ : ∃ B3, V1.heap.size = B3 := ⟨_, rfl⟩
                rw [hB3] at TZ H1 D1 Q9 HB ⊢
                generalize w10.setCells B3 0 (ints T) = VF at *
                clear hB3
                clear SF
                go_wp2_with (first | (refine guard_op (isLoad 27) ?_ ?_; (· rfl); (refine load_has rfl 27 _ rfl _ rfl ?_ 24 ?_ _ Try.underlying27 rfl ?_ ?_; rotate_left; (· (repeat (first | (with_reducible assumption) | ((with_reducible refine Has.box _ _ ?_ ?_) <;> (first | assumption | decide)) | (with_reducible refine Has.alloc ?_ _) | ((with_reducible refine Has.putOther ?_ _ _ ?_); rotate_left; omega; skip) | ((with_reducible refine Has.below ?_ ?_); rotate_left; assumption)))); (· kernel_rfl))) | (refine guard_op (isLoad 28) ?_ ?_; (· rfl); (refine load_has rfl 28 _ rfl _ rfl ?_ 6 ?_ _ Try.underlying28 rfl ?_ ?_; rotate_left; (· (repeat (first | (with_reducible assumption) | ((with_reducible refine Has.box _ _ ?_ ?_) <;> (first | assumption | decide)) | (with_reducible refine Has.alloc ?_ _) | ((with_reducible refine Has.putOther ?_ _ _ ?_); rotate_left; omega; skip) | ((with_reducible refine Has.below ?_ ?_); rotate_left; assumption)))); (· kernel_rfl))))
                refine (KF.out _).mono ?_
                rintro e w11 ⟨rfl, b11⟩
                replace H1 := H1.below b11
                replace D1 := D1.below b11
                replace Q9 := Lib.hid (Q9.out.below b11)
                replace HB := Lib.hid (HB.out.call b11)
                clear b11 TZ KF KP
                generalize feOk T ds x = fo at *
                generalize feA T ds x = fa at *
                cases fo
                case' false =>
                  have E := Lib.hid (show bst ds x ns f (k + 1) = bk by rw [BSK.out]; simp)
                  go_wp2_with fail
                  go_roundw
                  case rel => exact ⟨k + 1, by omega, by go_num, by rw [E.out], H1, D1, Q9, HB⟩
                  case measure => simp [intOf]; omega
                case' true =>
                  by_cases hlt : fa < bk
                  · have E := Lib.hid (show bst ds x ns f (k + 1) = fa by rw [BSK.out, if_pos ⟨rfl, hlt⟩])
                    go_wp2_with fail
                    go_roundw
                    case rel => exact ⟨k + 1, by omega, by go_num, by rw [E.out], H1, D1, Q9, HB⟩
                    case measure => simp [intOf]; omega
                  · have E := Lib.hid (show bst ds x ns f (k + 1) = bk by rw [BSK.out, if_neg (fun h => hlt h.2)])
                    go_wp2_with fail
                    go_roundw
                    case rel => exact ⟨k + 1, by omega, by go_num, by rw [E.out], H1, D1, Q9, HB⟩
                    case measure => simp [intOf]; omega
              · (simp only [List.getElem_toArray, List.getElem_cons_zero, List.getElem_cons_succ, Region.wanted, if_true])
                go_simp
                refine (KP.out _).mono ?_
                rintro e w10 ⟨rfl, b10⟩
                dsimp only
                (try simp only [List.getElem_toArray, List.getElem_cons_zero, List.getElem_cons_succ, Act.put, List.setIfInBounds_toArray, List.set_cons_zero, List.set_cons_succ])
                refine hK.out _ _ ⟨hHeld.1.below b10, hHeld.2.1.below b10, hHeld.2.2.below b10⟩ (fun hHeld => ?_)
                clear hK K
                replace H1 := H1.below b10
                replace D1 := D1.below b10
                replace Q9 := Lib.hid (Q9.out.below b10)
                replace HB := Lib.hid (HB.out.call b10)
                clear b10
                (refine wpAnyH_take (i := 14) (v := ?_) rfl (by kernel_rfl) (by kernel_rfl) (by kernel_rfl) (fun _ _ _ h => h) (Or.inl ⟨by rfl, ?_⟩) hHeld ?_; rotate_left; (· (intro w' hSw; go_simp; try with_reducible rfl)); (try simp only [List.getElem_toArray, List.getElem_cons_zero, List.getElem_cons_succ, Act.put, List.setIfInBounds_toArray, List.set_cons_zero, List.set_cons_succ])); (refine wpAnyH_take (i := 15) (v := ?_) rfl (by kernel_rfl) (by kernel_rfl) (by kernel_rfl) (fun _ _ _ h => h) (Or.inl ⟨by rfl, ?_⟩) hHeld ?_; rotate_left; (· (intro w' hSw; go_simp; try with_reducible rfl)); (try simp only [List.getElem_toArray, List.getElem_cons_zero, List.getElem_cons_succ, Act.put, List.setIfInBounds_toArray, List.set_cons_zero, List.set_cons_succ])); (refine wpAnyH_take (i := 16) (v := ?_) rfl (by kernel_rfl) (by kernel_rfl) (by kernel_rfl) (fun _ _ _ h => h) (Or.inl ⟨by rfl, ?_⟩) hHeld ?_; rotate_left; (· (intro w' hSw; go_simp; try with_reducible rfl)); (try simp only [List.getElem_toArray, List.getElem_cons_zero, List.getElem_cons_succ, Act.put, List.setIfInBounds_toArray, List.set_cons_zero, List.set_cons_succ])); (refine wpAnyH_take (i := 17) (v := ?_) rfl (by kernel_rfl) (by kernel_rfl) (by kernel_rfl) (fun _ _ _ h => h) (Or.inl ⟨by rfl, ?_⟩) hHeld ?_; rotate_left; (· (intro w' hSw; go_simp; try with_reducible rfl)); (try simp only [List.getElem_toArray, List.getElem_cons_zero, List.getElem_cons_succ, Act.put, List.setIfInBounds_toArray, List.set_cons_zero, List.set_cons_succ]))
                have lo := Lib.hid (fun hn k hk => (Q9.out.ownlt hn k hk).2)
                have l1 := H1.lt
                have l2 := D1.lt
                have l3 := HB.out.size
                have TZ := Has.zero24 w10 27
                (refine wpAnyH_ready (rs := [18]) (by kernel_rfl) (by simp) ?_; refine AllReadyH.cons (o := _) rfl (fun K hK => ?_) AllReadyH.nil; (simp only [List.getElem_toArray, List.getElem_cons_zero, List.getElem_cons_succ, Region.wanted, if_true]))
                go_simp
                refine hK.out _ _ ⟨hHeld.1.alloc _, hHeld.2.1.alloc _, hHeld.2.2.alloc _⟩ (fun hHeld => ?_)
                clear hK K
                replace H1 := H1.alloc (.cells #[.int .i64 0, .int .i64 0, .int .i64 0, .int .i64 0, .int .i64 0, .int .i64 0, .int .i64 0, .int .i64 0, .int .i64 0, .int .i64 0, .int .i64 0, .int .i64 0, .int .i64 0, .int .i64 0, .int .i64 0, .int .i64 0, .int .i64 0, .int .i64 0, .int .i64 0, .int .i64 0, .int .i64 0, .int .i64 0, .int .i64 0, .int .i64 0] 27)
                replace D1 := D1.alloc (.cells #[.int .i64 0, .int .i64 0, .int .i64 0, .int .i64 0, .int .i64 0, .int .i64 0, .int .i64 0, .int .i64 0, .int .i64 0, .int .i64 0, .int .i64 0, .int .i64 0, .int .i64 0, .int .i64 0, .int .i64 0, .int .i64 0, .int .i64 0, .int .i64 0, .int .i64 0, .int .i64 0, .int .i64 0, .int .i64 0, .int .i64 0, .int .i64 0] 27)
                replace Q9 := Lib.hid (Q9.out.alloc (.cells #[.int .i64 0, .int .i64 0, .int .i64 0, .int .i64 0, .int .i64 0, .int .i64 0, .int .i64 0, .int .i64 0, .int .i64 0, .int .i64 0, .int .i64 0, .int .i64 0, .int .i64 0, .int .i64 0, .int .i64 0, .int .i64 0, .int .i64 0, .int .i64 0, .int .i64 0, .int .i64 0, .int .i64 0, .int .i64 0, .int .i64 0, .int .i64 0] 27))
                replace HB := Lib.hid (HB.out.alloc (.cells #[.int .i64 0, .int .i64 0, .int .i64 0, .int .i64 0, .int .i64 0, .int .i64 0, .int .i64 0, .int .i64 0, .int .i64 0, .int .i64 0, .int .i64 0, .int .i64 0, .int .i64 0, .int .i64 0, .int .i64 0, .int .i64 0, .int .i64 0, .int .i64 0, .int .i64 0, .int .i64 0, .int .i64 0, .int .i64 0, .int .i64 0, .int .i64 0] 27))
                have SF := And.intro (hHeld.1.puts (w10.heap.size) 0 (ints T) (fun hi e => by have := lo.out hi _ e; omega)) (And.intro (hHeld.2.1.putOther (b' := w10.heap.size) 0 (ints T) (by omega)) (hHeld.2.2.putOther (b' := w10.heap.size) 0 (ints T) (by omega)))
                (refine wpAnyH_ready (rs := [19]) (by kernel_rfl) (by simp) ?_; refine AllReadyH.cons (o := _) rfl (fun K hK => ?_) AllReadyH.nil; (simp only [List.getElem_toArray, List.getElem_cons_zero, List.getElem_cons_succ, Region.wanted, if_true]); refine wp_store_mid _ _ _ rfl _ _ (ints T).toArray rfl rfl (by simpa [HLT.out] using TZ.there) (by simpa [HLT.out] using HI24.out) (all_oneCell_toArray (ints_one _)) ?_; (try simp only [List.getElem_toArray, List.getElem_cons_zero, List.getElem_cons_succ, Act.put, List.setIfInBounds_toArray, List.set_cons_zero, List.set_cons_succ, List.toList_toArray]); refine hK.out _ _ (SF) (fun hHeld => ?_); clear hK K)
                replace TZ := TZ.putAll T TL
                replace H1 := H1.putOther (b' := w10.heap.size) 0 (ints T) (by omega)
                replace D1 := D1.putOther (b' := w10.heap.size) 0 (ints T) (by omega)
                replace Q9 := Lib.hid (Q9.out.puts (w10.heap.size) 0 (ints T) (fun hi e => by have := lo.out hi _ e; omega))
                replace HB := Lib.hid (HB.out.puts (b := w10.heap.size) (by omega) 0 (ints T))
                (refine wpAnyH_take (i := 20) (v := ?_) rfl (by kernel_rfl) (by kernel_rfl) (by kernel_rfl) (fun _ _ _ h => h) (Or.inl ⟨by rfl, ?_⟩) hHeld ?_; rotate_left; (· (intro w' hSw; go_simp; try with_reducible rfl)); (try simp only [List.getElem_toArray, List.getElem_cons_zero, List.getElem_cons_succ, Act.put, List.setIfInBounds_toArray, List.set_cons_zero, List.set_cons_succ])); (refine wpAnyH_take (i := 21) (v := ?_) rfl (by kernel_rfl) (by kernel_rfl) (by kernel_rfl) (fun _ _ _ h => h) (Or.inl ⟨by rfl, ?_⟩) hHeld ?_; rotate_left; (· (intro w' hSw; go_simp; try with_reducible rfl)); (try simp only [List.getElem_toArray, List.getElem_cons_zero, List.getElem_cons_succ, Act.put, List.setIfInBounds_toArray, List.set_cons_zero, List.set_cons_succ]))
                refine wpAnyH_done (by kernel_rfl) ?_ _
                clear hHeld lo l1 l2 l3
                obtain ⟨B3, hB3⟩ : ∃ B3, w10.heap.size = B3 := ⟨_, rfl⟩
                rw [hB3] at TZ H1 D1 Q9 HB ⊢
                generalize (w10.alloc (.cells #[.int .i64 0, .int .i64 0, .int .i64 0, .int .i64 0, .int .i64 0, .int .i64 0, .int .i64 0, .int .i64 0, .int .i64 0, .int .i64 0, .int .i64 0, .int .i64 0, .int .i64 0, .int .i64 0, .int .i64 0, .int .i64 0, .int .i64 0, .int .i64 0, .int .i64 0, .int .i64 0, .int .i64 0, .int .i64 0, .int .i64 0, .int .i64 0] 27)).setCells B3 0 (ints T) = VF at *
                clear hB3
                clear SF
                go_wp2_with (first | (refine guard_op (isLoad 27) ?_ ?_; (· rfl); (refine load_has rfl 27 _ rfl _ rfl ?_ 24 ?_ _ Try.underlying27 rfl ?_ ?_; rotate_left; (· (repeat (first | (with_reducible assumption) | ((with_reducible refine Has.box _ _ ?_ ?_) <;> (first | assumption | decide)) | (with_reducible refine Has.alloc ?_ _) | ((with_reducible refine Has.putOther ?_ _ _ ?_); rotate_left; omega; skip) | ((with_reducible refine Has.below ?_ ?_); rotate_left; assumption)))); (· kernel_rfl))) | (refine guard_op (isLoad 28) ?_ ?_; (· rfl); (refine load_has rfl 28 _ rfl _ rfl ?_ 6 ?_ _ Try.underlying28 rfl ?_ ?_; rotate_left; (· (repeat (first | (with_reducible assumption) | ((with_reducible refine Has.box _ _ ?_ ?_) <;> (first | assumption | decide)) | (with_reducible refine Has.alloc ?_ _) | ((with_reducible refine Has.putOther ?_ _ _ ?_); rotate_left; omega; skip) | ((with_reducible refine Has.below ?_ ?_); rotate_left; assumption)))); (· kernel_rfl))))
                refine (KF.out _).mono ?_
                rintro e w11 ⟨rfl, b11⟩
                replace H1 := H1.below b11
                replace D1 := D1.below b11
                replace Q9 := Lib.hid (Q9.out.below b11)
                replace HB := Lib.hid (HB.out.call b11)
                clear b11 TZ KF KP
                generalize feOk T ds x = fo at *
                generalize feA T ds x = fa at *
                cases fo
                case' false =>
                  have E := Lib.hid (show bst ds x ns f (k + 1) = bk by rw [BSK.out]; simp)
                  go_wp2_with fail
                  go_roundw
                  case rel => exact ⟨k + 1, by omega, by go_num, by rw [E.out], H1, D1, Q9, HB⟩
                  case measure => simp [intOf]; omega
                case' true =>
                  by_cases hlt : fa < bk
                  · have E := Lib.hid (show bst ds x ns f (k + 1) = fa by rw [BSK.out, if_pos ⟨rfl, hlt⟩])
                    go_wp2_with fail
                    go_roundw
                    case rel => exact ⟨k + 1, by omega, by go_num, by rw [E.out], H1, D1, Q9, HB⟩
                    case measure => simp [intOf]; omega
                  · have E := Lib.hid (show bst ds x ns f (k + 1) = bk by rw [BSK.out, if_neg (fun h => hlt h.2)])
                    go_wp2_with fail
                    go_roundw
                    case rel => exact ⟨k + 1, by omega, by go_num, by rw [E.out], H1, D1, Q9, HB⟩
                    case measure => simp [intOf]; omega
            case' neg =>
              obtain rfl : k = N := by omega
              rw [BE.out]
              go_wp2_with fail
              go_ret
              exact ⟨rfl, HB.out⟩
  case' neg =>
    have hro2 : RO = false ∨ (RO = true ∧ decide (0 < n) = false) := by
      cases RO
      · exact .inl rfl
      · exact .inr ⟨rfl, decide_eq_false (fun h => hro ⟨rfl, h⟩)⟩
    clear hro RG R2 KR
    rcases hro2 with rfl | ⟨rfl, hn0⟩
    all_goals
      cases OK
      case' false =>
        go_wp2_with fail
        go_ret
        exact ⟨rfl, HB.out⟩
      case' true =>
        obtain ⟨f, rfl, hby, hLE⟩ := LE.out rfl
        have HLE := Lib.hid hLE
        have hf3 := hLE.le
        have hz := least_zero hLE
        have hfit : fitA ns ds = true := (Bool.and_eq_true_iff.1 hby).1
        have hvr : vR ns = true := (fit_of hfit).1
        clear hLE
        go_wp2_with (refine guard_op (isLoad 27) ?_ ?_; (· rfl); (refine load_has rfl 27 _ rfl _ rfl ?_ 24 ?_ _ Try.underlying27 rfl ?_ ?_; rotate_left; (· (repeat (first | (with_reducible assumption) | ((with_reducible refine Has.box _ _ ?_ ?_) <;> (first | assumption | decide)) | (with_reducible refine Has.alloc ?_ _) | ((with_reducible refine Has.putOther ?_ _ _ ?_); rotate_left; omega; skip) | ((with_reducible refine Has.below ?_ ?_); rotate_left; assumption)))); (· kernel_rfl)))
        refine (implSorted ns _ hl).mono ?_
        rintro e w14 ⟨rfl, bb⟩
        replace HB := Lib.hid (HB.out.call bb)
        replace H1 := H1.below bb
        replace D1 := D1.below bb
        replace H2 := H2.below bb
        replace D2 := D2.below bb
        clear bb
        rw [hvr, hz]
        clear hz
        by_cases hf0 : f = 0
        case' pos =>
          subst hf0
          go_wp2_with fail
          go_ret
          exact ⟨rfl, HB.out⟩
        case' neg =>
          have e0 : ((f : Int) == 0) = false := by simp; omega
          have e1 : decide (f = 0) = false := by simp; omega
          have e2 : decide ((f : Int) = 0) = false := by simp; omega
          have e3 : (f == 0) = false := by simp; omega
          rw [e1]
          by_cases hf33 : f = 3
          case' pos =>
            subst hf33
            go_wp2_with fail
            go_ret
            exact ⟨rfl, HB.out⟩
          case' neg =>
            have g0 : ((f : Int) == 3) = false := by simp; omega
            have g2 : decide ((f : Int) = 3) = false := by simp; omega
            have g3 : (f == 3) = false := by simp; omega
            go_wp2_with (first | (refine guard_op (isLoad 27) ?_ ?_; (· rfl); (refine load_has rfl 27 _ rfl _ rfl ?_ 24 ?_ _ Try.underlying27 rfl ?_ ?_; rotate_left; (· (repeat (first | (with_reducible assumption) | ((with_reducible refine Has.box _ _ ?_ ?_) <;> (first | assumption | decide)) | (with_reducible refine Has.alloc ?_ _) | ((with_reducible refine Has.putOther ?_ _ _ ?_); rotate_left; omega; skip) | ((with_reducible refine Has.below ?_ ?_); rotate_left; assumption)))); (· kernel_rfl))) | (refine guard_op (isLoad 28) ?_ ?_; (· rfl); (refine load_has rfl 28 _ rfl _ rfl ?_ 6 ?_ _ Try.underlying28 rfl ?_ ?_; rotate_left; (· (repeat (first | (with_reducible assumption) | ((with_reducible refine Has.box _ _ ?_ ?_) <;> (first | assumption | decide)) | (with_reducible refine Has.alloc ?_ _) | ((with_reducible refine Has.putOther ?_ _ _ ?_); rotate_left; omega; skip) | ((with_reducible refine Has.below ?_ ?_); rotate_left; assumption)))); (· kernel_rfl))))
            refine (implPoursBy ns ds x _ hl hd).mono ?_
            rintro e w15 ⟨v9, rfl, q9, bb⟩
            replace HB := Lib.hid (HB.out.call bb)
            replace H1 := H1.below bb
            replace D1 := D1.below bb
            replace H2 := H2.below bb
            replace D2 := D2.below bb
            clear bb
            have Q9 := Lib.hid q9
            clear q9
            rw [hby]
            have hgR : GoodR ds ns := ⟨hl, hfit⟩
            have EN : byNA ns ds x = nbN ds x ns := by unfold byNA; rw [if_pos hby]; rfl
            have EF : byFA ns ds x = pF (byP ns ds x) 36 := by unfold byFA; rw [if_pos hby]
            rw [EN, EF] at Q9
            clear EN EF
            have hrv : ruleV x = true := (Bool.and_eq_true_iff.1 hby).2
            have NB := Lib.hid (fun j hj => nb_at (x := x) (j := j) hgR hj)
            have NG := Lib.hid (fun j (hj : j < nbN ds x ns) => nb_good (x := x) (j := j) hgR hj)
            have PB := Lib.hid (fun j (hj : j < nbN ds x ns) => pb_nb (x := x) (j := j) hgR hrv hj)
            have BS := Lib.hid (fun k (hk : k < nbN ds x ns) => bst_step (k := k) HLE.out (by omega) hk (by unfold byOk; rw [(nb_good (x := x) (j := k) hgR hk).fit, hrv]; rfl))
            have BE := Lib.hid (bst_end HLE.out (by omega))
            have B0 := Lib.hid (bst_zero ds x ns f)
            have hn36 : nbN ds x ns ≤ 36 := pN_le (byP ns ds x) 36
            have KPB := Lib.hid (fun i j W => implPourBy ns ds x i j W hl hd)
            have KFE := Lib.hid (fun t (ht : t.length = 24) W => implFewest t ds x W ht hd)
            have hiR := Lib.hid (show (Try.prog.info? 27).map (·.size) = some (ints ns).length by rw [ints_len, hl]; kernel_rfl)
            have hiD := Lib.hid (show (Try.prog.info? 28).map (·.size) = some (ints ds).length by rw [ints_len, hd]; kernel_rfl)
            have HI24 := Lib.hid (show (Try.prog.info? 27).map (·.size) = some 24 by kernel_rfl)
            generalize pF (byP ns ds x) 36 = FS at *
            obtain ⟨N, hN⟩ : ∃ N, nbN ds x ns = N := ⟨_, rfl⟩
            rw [hN] at Q9 NB NG PB BS BE hn36
            clear hN HLE LE
            obtain ⟨pa, pcap, rfl⟩ := Q9.out.shape
            clear e0 e1 e2 e3 g0 g2 g3
            have wf1 : IntKind.i64.wrap ((f : Int) - 1) = (f : Int) - 1 := IntWalk.i64_in _ (by omega)
            replace Q9 := Lib.hid (Q9.out.mono (b' := 0) (Nat.zero_le _))
            go_wp2_with fail
            go_loopw [31, 32] (fun b i wr => ∃ k : Nat, k ≤ N ∧ i = .int .i64 k ∧ b = .int .i64 (bst ds x ns f k) ∧ Has wr B1 ns 24 ∧ Has wr (B1 + 1) ds 6 ∧ Hid (Rw wr 0 (.slice pa N pcap) N FS) ∧ Hid (Kept w wr)) (fun _ i _ => N - (intOf i).toNat)
            case atStart => exact ⟨0, by omega, rfl, by rw [B0.out], H1, D1, Q9, HB⟩
            case round =>
              clear H1 D1 Q9 HB
              obtain ⟨k, hk, rfl, rfl, H1, D1, Q9, HB⟩ := hrel
              by_cases hkn : k < N
              case' pos =>
                have hki : (k : Int) < (N : Int) := by omega
                have hk0 : (0 : Int) ≤ (k : Int) := by omega
                obtain ⟨pg, pc2, hv', hg1, hg2⟩ := Q9.out.form (by omega)
                injection hv' with ha _ hcap
                subst ha
                subst hcap
                obtain ⟨hp6, hq6, hpos, hx, hy⟩ := NB.out k hkn
                obtain ⟨pb1, pb2⟩ := PB.out k hkn
                have BSK := Lib.hid (BS.out k hkn)
                have TL := (NG.out k hkn).len
                have KP := Lib.hid (fun W => KPB.out (pAt ns ds x k : Nat) (qAt ns ds x k : Nat) W)
                skip
                generalize bst ds x ns f k = bk at *
                rw [pb1, pb2] at KP
                clear pb1 pb2 hpos
                generalize pbN ns ds x (pAt ns ds x k : Nat) (qAt ns ds x k : Nat) = pm at *
                generalize pAt ns ds x k = i at *
                generalize qAt ns ds x k = j at *
                generalize nbAt ns ds x k = T at *
                have KF := Lib.hid (fun W => KFE.out T TL W)
                have HX := Lib.hid hx
                have HY := Lib.hid hy
                have hlT : (ints T).length = 24 := by rw [ints_len]; exact TL
                have HLT := Lib.hid hlT
                clear hx hy hg1 hg2 hlT
                replace H1 := H1.drew
                replace D1 := D1.drew
                replace Q9 := Lib.hid Q9.out.drew
                replace HB := Lib.hid (keptDrew8 HB.out)
                go_wp2_with fail
                refine wp_region_held_drew (S := fun w' => Rw w' 0 (.slice (some ⟨pg, 0, none⟩) N pcap) N FS ∧ Has w' B1 ns 24 ∧ Has w' (B1 + 1) ds 6) (by kernel_rfl) ⟨Q9.out, H1, D1⟩ (fun hHeld => ?_)
                generalize World.drew _ = V1 at *
                (refine wpAnyH_take (i := 2) (v := ?_) rfl (by kernel_rfl) (by kernel_rfl) (by kernel_rfl) (fun _ _ _ h => h) (Or.inl ⟨by rfl, ?_⟩) hHeld ?_; rotate_left; (· (intro w' hSw; go_simp; try with_reducible rfl)); (try simp only [List.getElem_toArray, List.getElem_cons_zero, List.getElem_cons_succ, Act.put, List.setIfInBounds_toArray, List.set_cons_zero, List.set_cons_succ])); (refine wpAnyH_take (i := 3) (v := ?_) rfl (by kernel_rfl) (by kernel_rfl) (by kernel_rfl) (fun _ _ _ h => h) (Or.inl ⟨by rfl, ?_⟩) hHeld ?_; rotate_left; (· (intro w' hSw; go_simp; try with_reducible rfl)); (try simp only [List.getElem_toArray, List.getElem_cons_zero, List.getElem_cons_succ, Act.put, List.setIfInBounds_toArray, List.set_cons_zero, List.set_cons_succ])); (refine wpAnyH_take (i := 4) (v := ?_) rfl (by kernel_rfl) (by kernel_rfl) (by kernel_rfl) (fun _ _ _ h => h) (Or.inl ⟨by rfl, ?_⟩) hHeld ?_; rotate_left; (· (intro w' hSw; go_simp; try with_reducible rfl)); (try simp only [List.getElem_toArray, List.getElem_cons_zero, List.getElem_cons_succ, Act.put, List.setIfInBounds_toArray, List.set_cons_zero, List.set_cons_succ]))
                (refine wpAnyH_take (i := 0) (v := _) rfl (by kernel_rfl) (by kernel_rfl) (by kernel_rfl) (fun _ _ _ h => h) (yieldsIf_load_mid (by rfl) 27 _ rfl _ _ rfl (ints ns) _ (fun w' hSw => hSw.2.1.holds.range) Try.underlying27 rfl (hiR.out)) hHeld ?_; (try simp only [List.getElem_toArray, List.getElem_cons_zero, List.getElem_cons_succ, Act.put, List.setIfInBounds_toArray, List.set_cons_zero, List.set_cons_succ]))
                (refine wpAnyH_take (i := 1) (v := _) rfl (by kernel_rfl) (by kernel_rfl) (by kernel_rfl) (fun _ _ _ h => h) (yieldsIf_load_mid (by rfl) 28 _ rfl _ _ rfl (ints ds) _ (fun w' hSw => hSw.2.2.holds.range) Try.underlying28 rfl (hiD.out)) hHeld ?_; (try simp only [List.getElem_toArray, List.getElem_cons_zero, List.getElem_cons_succ, Act.put, List.setIfInBounds_toArray, List.set_cons_zero, List.set_cons_succ]))
                (refine wpAnyH_take (i := 5) (v := ?_) rfl (by kernel_rfl) (by kernel_rfl) (by kernel_rfl) (fun _ _ _ h => h) (Or.inl ⟨by rfl, ?_⟩) hHeld ?_; rotate_left; (· (intro w' hSw; go_simp; try with_reducible rfl)); (try simp only [List.getElem_toArray, List.getElem_cons_zero, List.getElem_cons_succ, Act.put, List.setIfInBounds_toArray, List.set_cons_zero, List.set_cons_succ])); (refine wpAnyH_take (i := 6) (v := ?_) rfl (by kernel_rfl) (by kernel_rfl) (by kernel_rfl) (fun _ _ _ h => h) (Or.inl ⟨by rfl, ?_⟩) hHeld ?_; rotate_left; (· (intro w' hSw; go_simp; try with_reducible rfl)); (try simp only [List.getElem_toArray, List.getElem_cons_zero, List.getElem_cons_succ, Act.put, List.setIfInBounds_toArray, List.set_cons_zero, List.set_cons_succ]))
                (refine wpAnyH_take (i := 7) (v := .int .i64 (i : Int)) rfl (by kernel_rfl) (by kernel_rfl) (by kernel_rfl) (fun _ _ _ h => h) (Or.inl ⟨by rfl, ?_⟩) hHeld ?_; (· (intro w' hSw; have q := hSw.1.cellX (by omega) HX.out; clear hSw; go_simp; try with_reducible rfl)); (try simp only [List.getElem_toArray, List.getElem_cons_zero, List.getElem_cons_succ, Act.put, List.setIfInBounds_toArray, List.set_cons_zero, List.set_cons_succ]))
                (refine wpAnyH_take (i := 8) (v := ?_) rfl (by kernel_rfl) (by kernel_rfl) (by kernel_rfl) (fun _ _ _ h => h) (Or.inl ⟨by rfl, ?_⟩) hHeld ?_; rotate_left; (· (intro w' hSw; go_simp; try with_reducible rfl)); (try simp only [List.getElem_toArray, List.getElem_cons_zero, List.getElem_cons_succ, Act.put, List.setIfInBounds_toArray, List.set_cons_zero, List.set_cons_succ])); (refine wpAnyH_take (i := 9) (v := ?_) rfl (by kernel_rfl) (by kernel_rfl) (by kernel_rfl) (fun _ _ _ h => h) (Or.inl ⟨by rfl, ?_⟩) hHeld ?_; rotate_left; (· (intro w' hSw; go_simp; try with_reducible rfl)); (try simp only [List.getElem_toArray, List.getElem_cons_zero, List.getElem_cons_succ, Act.put, List.setIfInBounds_toArray, List.set_cons_zero, List.set_cons_succ])); (refine wpAnyH_take (i := 10) (v := ?_) rfl (by kernel_rfl) (by kernel_rfl) (by kernel_rfl) (fun _ _ _ h => h) (Or.inl ⟨by rfl, ?_⟩) hHeld ?_; rotate_left; (· (intro w' hSw; go_simp; try with_reducible rfl)); (try simp only [List.getElem_toArray, List.getElem_cons_zero, List.getElem_cons_succ, Act.put, List.setIfInBounds_toArray, List.set_cons_zero, List.set_cons_succ])); (refine wpAnyH_take (i := 11) (v := ?_) rfl (by kernel_rfl) (by kernel_rfl) (by kernel_rfl) (fun _ _ _ h => h) (Or.inl ⟨by rfl, ?_⟩) hHeld ?_; rotate_left; (· (intro w' hSw; go_simp; try with_reducible rfl)); (try simp only [List.getElem_toArray, List.getElem_cons_zero, List.getElem_cons_succ, Act.put, List.setIfInBounds_toArray, List.set_cons_zero, List.set_cons_succ]))
                (refine wpAnyH_take (i := 12) (v := .int .i64 (j : Int)) rfl (by kernel_rfl) (by kernel_rfl) (by kernel_rfl) (fun _ _ _ h => h) (Or.inl ⟨by rfl, ?_⟩) hHeld ?_; (· (intro w' hSw; have q := hSw.1.cellX (by omega) HY.out; clear hSw; go_simp; try with_reducible rfl)); (try simp only [List.getElem_toArray, List.getElem_cons_zero, List.getElem_cons_succ, Act.put, List.setIfInBounds_toArray, List.set_cons_zero, List.set_cons_succ]))
                refine wpAnyH_ready (rs := [13, 18]) (by kernel_rfl) (by simp) ?_
                refine AllReadyH.cons (o := _) rfl (fun K hK => ?_) (AllReadyH.cons (o := _) rfl (fun K hK => ?_) AllReadyH.nil)
                rotate_left
                · (simp only [List.getElem_toArray, List.getElem_cons_zero, List.getElem_cons_succ, Region.wanted, if_true])
                  go_simp
                  have lo := Lib.hid (fun hn k hk => (Q9.out.ownlt hn k hk).2)
                  have l1 := H1.lt
                  have l2 := D1.lt
                  have l3 := HB.out.size
                  have TZ := Has.zero24 V1 27
                  have l4 : V1.heap.size < (V1.alloc (.cells #[.int .i64 0, .int .i64 0, .int .i64 0, .int .i64 0, .int .i64 0, .int .i64 0, .int .i64 0, .int .i64 0, .int .i64 0, .int .i64 0, .int .i64 0, .int .i64 0, .int .i64 0, .int .i64 0, .int .i64 0, .int .i64 0, .int .i64 0, .int .i64 0, .int .i64 0, .int .i64 0, .int .i64 0, .int .i64 0, .int .i64 0, .int .i64 0] 27)).heap.size := by rw [size1]; omega
                  refine hK.out _ _ ⟨hHeld.1.alloc _, hHeld.2.1.alloc _, hHeld.2.2.alloc _⟩ (fun hHeld => ?_)
                  clear hK K
                  replace H1 := H1.alloc (.cells #[.int .i64 0, .int .i64 0, .int .i64 0, .int .i64 0, .int .i64 0, .int .i64 0, .int .i64 0, .int .i64 0, .int .i64 0, .int .i64 0, .int .i64 0, .int .i64 0, .int .i64 0, .int .i64 0, .int .i64 0, .int .i64 0, .int .i64 0, .int .i64 0, .int .i64 0, .int .i64 0, .int .i64 0, .int .i64 0, .int .i64 0, .int .i64 0] 27)
                  replace D1 := D1.alloc (.cells #[.int .i64 0, .int .i64 0, .int .i64 0, .int .i64 0, .int .i64 0, .int .i64 0, .int .i64 0, .int .i64 0, .int .i64 0, .int .i64 0, .int .i64 0, .int .i64 0, .int .i64 0, .int .i64 0, .int .i64 0, .int .i64 0, .int .i64 0, .int .i64 0, .int .i64 0, .int .i64 0, .int .i64 0, .int .i64 0, .int .i64 0, .int .i64 0] 27)
                  replace Q9 := Lib.hid (Q9.out.alloc (.cells #[.int .i64 0, .int .i64 0, .int .i64 0, .int .i64 0, .int .i64 0, .int .i64 0, .int .i64 0, .int .i64 0, .int .i64 0, .int .i64 0, .int .i64 0, .int .i64 0, .int .i64 0, .int .i64 0, .int .i64 0, .int .i64 0, .int .i64 0, .int .i64 0, .int .i64 0, .int .i64 0, .int .i64 0, .int .i64 0, .int .i64 0, .int .i64 0] 27))
                  replace HB := Lib.hid (HB.out.alloc (.cells #[.int .i64 0, .int .i64 0, .int .i64 0, .int .i64 0, .int .i64 0, .int .i64 0, .int .i64 0, .int .i64 0, .int .i64 0, .int .i64 0, .int .i64 0, .int .i64 0, .int .i64 0, .int .i64 0, .int .i64 0, .int .i64 0, .int .i64 0, .int .i64 0, .int .i64 0, .int .i64 0, .int .i64 0, .int .i64 0, .int .i64 0, .int .i64 0] 27))
                  (refine wpAnyH_ready (rs := [13]) (by kernel_rfl) (by simp) ?_; refine AllReadyH.cons (o := _) rfl (fun K hK => ?_) AllReadyH.nil; (simp only [List.getElem_toArray, List.getElem_cons_zero, List.getElem_cons_succ, Region.wanted, if_true]))
                  go_simp
                  refine (KP.out _).mono ?_
                  rintro e w10 ⟨rfl, b10⟩
                  dsimp only
                  (try simp only [List.getElem_toArray, List.getElem_cons_zero, List.getElem_cons_succ, Act.put, List.setIfInBounds_toArray, List.set_cons_zero, List.set_cons_succ])
                  refine hK.out _ _ ⟨hHeld.1.below b10, hHeld.2.1.below b10, hHeld.2.2.below b10⟩ (fun hHeld => ?_)
                  clear hK K
                  replace TZ := TZ.below b10
                  replace H1 := H1.below b10
                  replace D1 := D1.below b10
                  replace Q9 := Lib.hid (Q9.out.below b10)
                  replace HB := Lib.hid (HB.out.call b10)
                  clear b10 l4
                  (refine wpAnyH_take (i := 14) (v := ?_) rfl (by kernel_rfl) (by kernel_rfl) (by kernel_rfl) (fun _ _ _ h => h) (Or.inl ⟨by rfl, ?_⟩) hHeld ?_; rotate_left; (· (intro w' hSw; go_simp; try with_reducible rfl)); (try simp only [List.getElem_toArray, List.getElem_cons_zero, List.getElem_cons_succ, Act.put, List.setIfInBounds_toArray, List.set_cons_zero, List.set_cons_succ])); (refine wpAnyH_take (i := 15) (v := ?_) rfl (by kernel_rfl) (by kernel_rfl) (by kernel_rfl) (fun _ _ _ h => h) (Or.inl ⟨by rfl, ?_⟩) hHeld ?_; rotate_left; (· (intro w' hSw; go_simp; try with_reducible rfl)); (try simp only [List.getElem_toArray, List.getElem_cons_zero, List.getElem_cons_succ, Act.put, List.setIfInBounds_toArray, List.set_cons_zero, List.set_cons_succ])); (refine wpAnyH_take (i := 16) (v := ?_) rfl (by kernel_rfl) (by kernel_rfl) (by kernel_rfl) (fun _ _ _ h => h) (Or.inl ⟨by rfl, ?_⟩) hHeld ?_; rotate_left; (· (intro w' hSw; go_simp; try with_reducible rfl)); (try simp only [List.getElem_toArray, List.getElem_cons_zero, List.getElem_cons_succ, Act.put, List.setIfInBounds_toArray, List.set_cons_zero, List.set_cons_succ])); (refine wpAnyH_take (i := 17) (v := ?_) rfl (by kernel_rfl) (by kernel_rfl) (by kernel_rfl) (fun _ _ _ h => h) (Or.inl ⟨by rfl, ?_⟩) hHeld ?_; rotate_left; (· (intro w' hSw; go_simp; try with_reducible rfl)); (try simp only [List.getElem_toArray, List.getElem_cons_zero, List.getElem_cons_succ, Act.put, List.setIfInBounds_toArray, List.set_cons_zero, List.set_cons_succ]))
                  have SF := And.intro (hHeld.1.puts (V1.heap.size) 0 (ints T) (fun hi e => by have := lo.out hi _ e; omega)) (And.intro (hHeld.2.1.putOther (b' := V1.heap.size) 0 (ints T) (by omega)) (hHeld.2.2.putOther (b' := V1.heap.size) 0 (ints T) (by omega)))
                  (refine wpAnyH_ready (rs := [19]) (by kernel_rfl) (by simp) ?_; refine AllReadyH.cons (o := _) rfl (fun K hK => ?_) AllReadyH.nil; (simp only [List.getElem_toArray, List.getElem_cons_zero, List.getElem_cons_succ, Region.wanted, if_true]); refine wp_store_mid _ _ _ rfl _ _ (ints T).toArray rfl rfl (by simpa [HLT.out] using TZ.there) (by simpa [HLT.out] using HI24.out) (all_oneCell_toArray (ints_one _)) ?_; (try simp only [List.getElem_toArray, List.getElem_cons_zero, List.getElem_cons_succ, Act.put, List.setIfInBounds_toArray, List.set_cons_zero, List.set_cons_succ, List.toList_toArray]); refine hK.out _ _ (SF) (fun hHeld => ?_); clear hK K)
                  replace TZ := TZ.putAll T TL
                  replace H1 := H1.putOther (b' := V1.heap.size) 0 (ints T) (by omega)
                  replace D1 := D1.putOther (b' := V1.heap.size) 0 (ints T) (by omega)
                  replace Q9 := Lib.hid (Q9.out.puts (V1.heap.size) 0 (ints T) (fun hi e => by have := lo.out hi _ e; omega))
                  replace HB := Lib.hid (HB.out.puts (b := V1.heap.size) (by omega) 0 (ints T))
                  (refine wpAnyH_take (i := 20) (v := ?_) rfl (by kernel_rfl) (by kernel_rfl) (by kernel_rfl) (fun _ _ _ h => h) (Or.inl ⟨by rfl, ?_⟩) hHeld ?_; rotate_left; (· (intro w' hSw; go_simp; try with_reducible rfl)); (try simp only [List.getElem_toArray, List.getElem_cons_zero, List.getElem_cons_succ, Act.put, List.setIfInBounds_toArray, List.set_cons_zero, List.set_cons_succ])); (refine wpAnyH_take (i := 21) (v := ?_) rfl (by kernel_rfl) (by kernel_rfl) (by kernel_rfl) (fun _ _ _ h => h) (Or.inl ⟨by rfl, ?_⟩) hHeld ?_; rotate_left; (· (intro w' hSw; go_simp; try with_reducible rfl)); (try simp only [List.getElem_toArray, List.getElem_cons_zero, List.getElem_cons_succ, Act.put, List.setIfInBounds_toArray, List.set_cons_zero, List.set_cons_succ]))
                  refine wpAnyH_done (by kernel_rfl) ?_ _
                  clear hHeld lo l1 l2 l3
                  obtain ⟨B3, hB3⟩ : ∃ B3, V1.heap.size = B3 := ⟨_, rfl⟩
                  rw [hB3] at TZ H1 D1 Q9 HB ⊢
                  generalize w10.setCells B3 0 (ints T) = VF at *
                  clear hB3
                  clear SF
                  go_wp2_with (first | (refine guard_op (isLoad 27) ?_ ?_; (· rfl); (refine load_has rfl 27 _ rfl _ rfl ?_ 24 ?_ _ Try.underlying27 rfl ?_ ?_; rotate_left; (· (repeat (first | (with_reducible assumption) | ((with_reducible refine Has.box _ _ ?_ ?_) <;> (first | assumption | decide)) | (with_reducible refine Has.alloc ?_ _) | ((with_reducible refine Has.putOther ?_ _ _ ?_); rotate_left; omega; skip) | ((with_reducible refine Has.below ?_ ?_); rotate_left; assumption)))); (· kernel_rfl))) | (refine guard_op (isLoad 28) ?_ ?_; (· rfl); (refine load_has rfl 28 _ rfl _ rfl ?_ 6 ?_ _ Try.underlying28 rfl ?_ ?_; rotate_left; (· (repeat (first | (with_reducible assumption) | ((with_reducible refine Has.box _ _ ?_ ?_) <;> (first | assumption | decide)) | (with_reducible refine Has.alloc ?_ _) | ((with_reducible refine Has.putOther ?_ _ _ ?_); rotate_left; omega; skip) | ((with_reducible refine Has.below ?_ ?_); rotate_left; assumption)))); (· kernel_rfl))))
                  refine (KF.out _).mono ?_
                  rintro e w11 ⟨rfl, b11⟩
                  replace H1 := H1.below b11
                  replace D1 := D1.below b11
                  replace Q9 := Lib.hid (Q9.out.below b11)
                  replace HB := Lib.hid (HB.out.call b11)
                  clear b11 TZ KF KP
                  generalize feOk T ds x = fo at *
                  generalize feA T ds x = fa at *
                  cases fo
                  case' false =>
                    have E := Lib.hid (show bst ds x ns f (k + 1) = bk by rw [BSK.out]; simp)
                    go_wp2_with fail
                    go_roundw
                    case rel => exact ⟨k + 1, by omega, by go_num, by rw [E.out], H1, D1, Q9, HB⟩
                    case measure => simp [intOf]; omega
                  case' true =>
                    by_cases hlt : fa < bk
                    · have E := Lib.hid (show bst ds x ns f (k + 1) = fa by rw [BSK.out, if_pos ⟨rfl, hlt⟩])
                      go_wp2_with fail
                      go_roundw
                      case rel => exact ⟨k + 1, by omega, by go_num, by rw [E.out], H1, D1, Q9, HB⟩
                      case measure => simp [intOf]; omega
                    · have E := Lib.hid (show bst ds x ns f (k + 1) = bk by rw [BSK.out, if_neg (fun h => hlt h.2)])
                      go_wp2_with fail
                      go_roundw
                      case rel => exact ⟨k + 1, by omega, by go_num, by rw [E.out], H1, D1, Q9, HB⟩
                      case measure => simp [intOf]; omega
                · (simp only [List.getElem_toArray, List.getElem_cons_zero, List.getElem_cons_succ, Region.wanted, if_true])
                  go_simp
                  refine (KP.out _).mono ?_
                  rintro e w10 ⟨rfl, b10⟩
                  dsimp only
                  (try simp only [List.getElem_toArray, List.getElem_cons_zero, List.getElem_cons_succ, Act.put, List.setIfInBounds_toArray, List.set_cons_zero, List.set_cons_succ])
                  refine hK.out _ _ ⟨hHeld.1.below b10, hHeld.2.1.below b10, hHeld.2.2.below b10⟩ (fun hHeld => ?_)
                  clear hK K
                  replace H1 := H1.below b10
                  replace D1 := D1.below b10
                  replace Q9 := Lib.hid (Q9.out.below b10)
                  replace HB := Lib.hid (HB.out.call b10)
                  clear b10
                  (refine wpAnyH_take (i := 14) (v := ?_) rfl (by kernel_rfl) (by kernel_rfl) (by kernel_rfl) (fun _ _ _ h => h) (Or.inl ⟨by rfl, ?_⟩) hHeld ?_; rotate_left; (· (intro w' hSw; go_simp; try with_reducible rfl)); (try simp only [List.getElem_toArray, List.getElem_cons_zero, List.getElem_cons_succ, Act.put, List.setIfInBounds_toArray, List.set_cons_zero, List.set_cons_succ])); (refine wpAnyH_take (i := 15) (v := ?_) rfl (by kernel_rfl) (by kernel_rfl) (by kernel_rfl) (fun _ _ _ h => h) (Or.inl ⟨by rfl, ?_⟩) hHeld ?_; rotate_left; (· (intro w' hSw; go_simp; try with_reducible rfl)); (try simp only [List.getElem_toArray, List.getElem_cons_zero, List.getElem_cons_succ, Act.put, List.setIfInBounds_toArray, List.set_cons_zero, List.set_cons_succ])); (refine wpAnyH_take (i := 16) (v := ?_) rfl (by kernel_rfl) (by kernel_rfl) (by kernel_rfl) (fun _ _ _ h => h) (Or.inl ⟨by rfl, ?_⟩) hHeld ?_; rotate_left; (· (intro w' hSw; go_simp; try with_reducible rfl)); (try simp only [List.getElem_toArray, List.getElem_cons_zero, List.getElem_cons_succ, Act.put, List.setIfInBounds_toArray, List.set_cons_zero, List.set_cons_succ])); (refine wpAnyH_take (i := 17) (v := ?_) rfl (by kernel_rfl) (by kernel_rfl) (by kernel_rfl) (fun _ _ _ h => h) (Or.inl ⟨by rfl, ?_⟩) hHeld ?_; rotate_left; (· (intro w' hSw; go_simp; try with_reducible rfl)); (try simp only [List.getElem_toArray, List.getElem_cons_zero, List.getElem_cons_succ, Act.put, List.setIfInBounds_toArray, List.set_cons_zero, List.set_cons_succ]))
                  have lo := Lib.hid (fun hn k hk => (Q9.out.ownlt hn k hk).2)
                  have l1 := H1.lt
                  have l2 := D1.lt
                  have l3 := HB.out.size
                  have TZ := Has.zero24 w10 27
                  (refine wpAnyH_ready (rs := [18]) (by kernel_rfl) (by simp) ?_; refine AllReadyH.cons (o := _) rfl (fun K hK => ?_) AllReadyH.nil; (simp only [List.getElem_toArray, List.getElem_cons_zero, List.getElem_cons_succ, Region.wanted, if_true]))
                  go_simp
                  refine hK.out _ _ ⟨hHeld.1.alloc _, hHeld.2.1.alloc _, hHeld.2.2.alloc _⟩ (fun hHeld => ?_)
                  clear hK K
                  replace H1 := H1.alloc (.cells #[.int .i64 0, .int .i64 0, .int .i64 0, .int .i64 0, .int .i64 0, .int .i64 0, .int .i64 0, .int .i64 0, .int .i64 0, .int .i64 0, .int .i64 0, .int .i64 0, .int .i64 0, .int .i64 0, .int .i64 0, .int .i64 0, .int .i64 0, .int .i64 0, .int .i64 0, .int .i64 0, .int .i64 0, .int .i64 0, .int .i64 0, .int .i64 0] 27)
                  replace D1 := D1.alloc (.cells #[.int .i64 0, .int .i64 0, .int .i64 0, .int .i64 0, .int .i64 0, .int .i64 0, .int .i64 0, .int .i64 0, .int .i64 0, .int .i64 0, .int .i64 0, .int .i64 0, .int .i64 0, .int .i64 0, .int .i64 0, .int .i64 0, .int .i64 0, .int .i64 0, .int .i64 0, .int .i64 0, .int .i64 0, .int .i64 0, .int .i64 0, .int .i64 0] 27)
                  replace Q9 := Lib.hid (Q9.out.alloc (.cells #[.int .i64 0, .int .i64 0, .int .i64 0, .int .i64 0, .int .i64 0, .int .i64 0, .int .i64 0, .int .i64 0, .int .i64 0, .int .i64 0, .int .i64 0, .int .i64 0, .int .i64 0, .int .i64 0, .int .i64 0, .int .i64 0, .int .i64 0, .int .i64 0, .int .i64 0, .int .i64 0, .int .i64 0, .int .i64 0, .int .i64 0, .int .i64 0] 27))
                  replace HB := Lib.hid (HB.out.alloc (.cells #[.int .i64 0, .int .i64 0, .int .i64 0, .int .i64 0, .int .i64 0, .int .i64 0, .int .i64 0, .int .i64 0, .int .i64 0, .int .i64 0, .int .i64 0, .int .i64 0, .int .i64 0, .int .i64 0, .int .i64 0, .int .i64 0, .int .i64 0, .int .i64 0, .int .i64 0, .int .i64 0, .int .i64 0, .int .i64 0, .int .i64 0, .int .i64 0] 27))
                  have SF := And.intro (hHeld.1.puts (w10.heap.size) 0 (ints T) (fun hi e => by have := lo.out hi _ e; omega)) (And.intro (hHeld.2.1.putOther (b' := w10.heap.size) 0 (ints T) (by omega)) (hHeld.2.2.putOther (b' := w10.heap.size) 0 (ints T) (by omega)))
                  (refine wpAnyH_ready (rs := [19]) (by kernel_rfl) (by simp) ?_; refine AllReadyH.cons (o := _) rfl (fun K hK => ?_) AllReadyH.nil; (simp only [List.getElem_toArray, List.getElem_cons_zero, List.getElem_cons_succ, Region.wanted, if_true]); refine wp_store_mid _ _ _ rfl _ _ (ints T).toArray rfl rfl (by simpa [HLT.out] using TZ.there) (by simpa [HLT.out] using HI24.out) (all_oneCell_toArray (ints_one _)) ?_; (try simp only [List.getElem_toArray, List.getElem_cons_zero, List.getElem_cons_succ, Act.put, List.setIfInBounds_toArray, List.set_cons_zero, List.set_cons_succ, List.toList_toArray]); refine hK.out _ _ (SF) (fun hHeld => ?_); clear hK K)
                  replace TZ := TZ.putAll T TL
                  replace H1 := H1.putOther (b' := w10.heap.size) 0 (ints T) (by omega)
                  replace D1 := D1.putOther (b' := w10.heap.size) 0 (ints T) (by omega)
                  replace Q9 := Lib.hid (Q9.out.puts (w10.heap.size) 0 (ints T) (fun hi e => by have := lo.out hi _ e; omega))
                  replace HB := Lib.hid (HB.out.puts (b := w10.heap.size) (by omega) 0 (ints T))
                  (refine wpAnyH_take (i := 20) (v := ?_) rfl (by kernel_rfl) (by kernel_rfl) (by kernel_rfl) (fun _ _ _ h => h) (Or.inl ⟨by rfl, ?_⟩) hHeld ?_; rotate_left; (· (intro w' hSw; go_simp; try with_reducible rfl)); (try simp only [List.getElem_toArray, List.getElem_cons_zero, List.getElem_cons_succ, Act.put, List.setIfInBounds_toArray, List.set_cons_zero, List.set_cons_succ])); (refine wpAnyH_take (i := 21) (v := ?_) rfl (by kernel_rfl) (by kernel_rfl) (by kernel_rfl) (fun _ _ _ h => h) (Or.inl ⟨by rfl, ?_⟩) hHeld ?_; rotate_left; (· (intro w' hSw; go_simp; try with_reducible rfl)); (try simp only [List.getElem_toArray, List.getElem_cons_zero, List.getElem_cons_succ, Act.put, List.setIfInBounds_toArray, List.set_cons_zero, List.set_cons_succ]))
                  refine wpAnyH_done (by kernel_rfl) ?_ _
                  clear hHeld lo l1 l2 l3
                  obtain ⟨B3, hB3⟩ : ∃ B3, w10.heap.size = B3 := ⟨_, rfl⟩
                  rw [hB3] at TZ H1 D1 Q9 HB ⊢
                  generalize (w10.alloc (.cells #[.int .i64 0, .int .i64 0, .int .i64 0, .int .i64 0, .int .i64 0, .int .i64 0, .int .i64 0, .int .i64 0, .int .i64 0, .int .i64 0, .int .i64 0, .int .i64 0, .int .i64 0, .int .i64 0, .int .i64 0, .int .i64 0, .int .i64 0, .int .i64 0, .int .i64 0, .int .i64 0, .int .i64 0, .int .i64 0, .int .i64 0, .int .i64 0] 27)).setCells B3 0 (ints T) = VF at *
                  clear hB3
                  clear SF
                  go_wp2_with (first | (refine guard_op (isLoad 27) ?_ ?_; (· rfl); (refine load_has rfl 27 _ rfl _ rfl ?_ 24 ?_ _ Try.underlying27 rfl ?_ ?_; rotate_left; (· (repeat (first | (with_reducible assumption) | ((with_reducible refine Has.box _ _ ?_ ?_) <;> (first | assumption | decide)) | (with_reducible refine Has.alloc ?_ _) | ((with_reducible refine Has.putOther ?_ _ _ ?_); rotate_left; omega; skip) | ((with_reducible refine Has.below ?_ ?_); rotate_left; assumption)))); (· kernel_rfl))) | (refine guard_op (isLoad 28) ?_ ?_; (· rfl); (refine load_has rfl 28 _ rfl _ rfl ?_ 6 ?_ _ Try.underlying28 rfl ?_ ?_; rotate_left; (· (repeat (first | (with_reducible assumption) | ((with_reducible refine Has.box _ _ ?_ ?_) <;> (first | assumption | decide)) | (with_reducible refine Has.alloc ?_ _) | ((with_reducible refine Has.putOther ?_ _ _ ?_); rotate_left; omega; skip) | ((with_reducible refine Has.below ?_ ?_); rotate_left; assumption)))); (· kernel_rfl))))
                  refine (KF.out _).mono ?_
                  rintro e w11 ⟨rfl, b11⟩
                  replace H1 := H1.below b11
                  replace D1 := D1.below b11
                  replace Q9 := Lib.hid (Q9.out.below b11)
                  replace HB := Lib.hid (HB.out.call b11)
                  clear b11 TZ KF KP
                  generalize feOk T ds x = fo at *
                  generalize feA T ds x = fa at *
                  cases fo
                  case' false =>
                    have E := Lib.hid (show bst ds x ns f (k + 1) = bk by rw [BSK.out]; simp)
                    go_wp2_with fail
                    go_roundw
                    case rel => exact ⟨k + 1, by omega, by go_num, by rw [E.out], H1, D1, Q9, HB⟩
                    case measure => simp [intOf]; omega
                  case' true =>
                    by_cases hlt : fa < bk
                    · have E := Lib.hid (show bst ds x ns f (k + 1) = fa by rw [BSK.out, if_pos ⟨rfl, hlt⟩])
                      go_wp2_with fail
                      go_roundw
                      case rel => exact ⟨k + 1, by omega, by go_num, by rw [E.out], H1, D1, Q9, HB⟩
                      case measure => simp [intOf]; omega
                    · have E := Lib.hid (show bst ds x ns f (k + 1) = bk by rw [BSK.out, if_neg (fun h => hlt h.2)])
                      go_wp2_with fail
                      go_roundw
                      case rel => exact ⟨k + 1, by omega, by go_num, by rw [E.out], H1, D1, Q9, HB⟩
                      case measure => simp [intOf]; omega
              case' neg =>
                obtain rfl : k = N := by omega
                rw [BE.out]
                go_wp2_with fail
                go_ret
                exact ⟨rfl, HB.out⟩
end Go.Proofs.Ytglhinihhlmgeac.base
