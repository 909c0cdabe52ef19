/-
  The best of a list of chances: the place that is kept by looking through it, and its numbers.
-/
/-
  The best of the pours, on the program's side, walked.
-/
/-
  The library's search for the greatest, over a row of pairs and a closure that compares, walked.
-/
/-
  BestChance on the program's side, walked.
-/
/-
  BestChance on the model's side, walked.
-/
/-
  The law of BestChance, walked.
-/
import Derived.Test.YtemiljokdedidacPlyF
import Derived.Test.YtemiljokdedidacUseI
import Derived.Test.YtemiljokdedidacPourI
import Derived.Test.YtemiljokdedidacRwP
import Derived.Deep.RegionHeld3
import Derived.Test.YtemiljokdedidacPlySZ

section
namespace Go.Proofs.Ytemiljokdedidac.base
set_option linter.unusedVariables false
set_option linter.unusedSimpArgs false

/-- The first best place among the first k. -/
def bsJ (up : Nat → Nat → Bool) : Nat → Nat
  | 0 => 0
  | k + 1 => if up (bsJ up k) k = true then k else bsJ up k
theorem bsJ_lt (up : Nat → Nat → Bool) : ∀ k, 0 < k → bsJ up k < k
  | 0, h => by omega
  | k + 1, _ => by
    rw [bsJ]
    split
    · omega
    · rcases Nat.eq_zero_or_pos k with h | h
      · subst h; exact Nat.zero_lt_one
      · have := bsJ_lt up k h; omega
theorem bsJ_one (up : Nat → Nat → Bool) : bsJ up 1 = 0 := by
  have := bsJ_lt up 1 (by omega); omega
theorem bsJ_le (up : Nat → Nat → Bool) (k : Nat) : bsJ up k ≤ k := by
  rcases Nat.eq_zero_or_pos k with h | h
  · subst h; exact Nat.le_refl _
  · have := bsJ_lt up k h; omega
/-- The chance behind a pour. -/
def chX (r : List Int) (n : Int) (k : Nat) : List Int := mnA (nxR r k) n gSort
def chN (r : List Int) (n : Int) (k : Nat) : Nat := cutN (numP n.toNat gSort (nxR r k)) (denP n.toNat (nxR r k))
def chD (r : List Int) (n : Int) (k : Nat) : Nat := cutD (numP n.toNat gSort (nxR r k)) (denP n.toNat (nxR r k))
def upC (r : List Int) (n : Int) (i k : Nat) : Bool := decide (chN r n i * chD r n k < chN r n k * chD r n i)
theorem up_self (r : List Int) (n : Int) (i : Nat) : upC r n i i = false := decide_eq_false (Nat.lt_irrefl _)
theorem ch_is {r : List Int} {n : Int} {k : Nat} (G : GR r) (hn : 0 ≤ n ∧ n ≤ 1) (hk : k < usefNA r) :
    chX r n k = [(chN r n k : Int), (chD r n k : Int)] ∧ chN r n k ≤ 720 ∧ 1 ≤ chD r n k ∧ chD r n k ≤ 30 := by
  have gx := nx_good G k hk
  have ok : BhOk (nxR r k) n = true := by
    unfold BhOk
    rw [gx.2, decide_eq_true (show 0 ≤ n ∧ n ≤ 2 by omega)]; rfl
  have hN : n.toNat = 0 ∨ n.toNat = 1 := by omega
  have w := wy_in (nxR r k)
  have s1 : num1 gSort (nxR r k) ≤ 24 * wy (nxR r k) := by
    have h := fsum_le (g := gSort) (h := fun _ => 24) (L := nxL (nxR r k)) (fun y hy => gSort_le y)
    rw [fsum_const] at h
    exact h
  have b : numP n.toNat gSort (nxR r k) ≤ 720 ∧ 1 ≤ denP n.toNat (nxR r k) ∧ denP n.toNat (nxR r k) ≤ 30 := by
    rcases hN with h | h
    · rw [h]
      have := gSort_le (nxR r k)
      exact ⟨Nat.le_trans this (by omega), Nat.le_refl _, show (1 : Nat) ≤ 30 by omega⟩
    · rw [h]
      exact ⟨Nat.le_trans s1 (by omega), w.1, w.2⟩
  refine ⟨?_, Nat.le_trans (cutN_le _ _) b.1, cutD_pos _ _ b.2.1, Nat.le_trans (cutD_le _ _) b.2.2⟩
  unfold chX mnA
  rw [if_pos ok]
  rfl
def beOk (r : List Int) (n : Int) : Bool := decide (0 < usefNA r) && decide (0 ≤ n ∧ n ≤ 1)
def beJ (r : List Int) (n : Int) : Nat := bsJ (upC r n) (usefNA r)
def beP (r : List Int) (n : Int) : List Int := if beOk r n = true then pr (usefFA r) (beJ r n) else z2
def beC (r : List Int) (n : Int) : List Int := if beOk r n = true then chX r n (beJ r n) else z2
theorem be_good {r : List Int} {n : Int} (h24 : r.length = 24) (h : beOk r n = true) : GR r ∧ 0 < usefNA r ∧ 0 ≤ n ∧ n ≤ 1 := by
  unfold beOk at h
  have h1 := of_decide_eq_true (Bool.and_eq_true_iff.1 h).1
  have h2 := of_decide_eq_true (Bool.and_eq_true_iff.1 h).2
  refine ⟨⟨h24, ?_⟩, h1, h2⟩
  cases hv : vR r with
  | true => rfl
  | false => unfold usefNA at h1; rw [hv] at h1; exact absurd h1 (by simp)
theorem beP_len {r : List Int} {n : Int} (h24 : r.length = 24) : (beP r n).length = 2 := by
  unfold beP
  split
  · rename_i h
    obtain ⟨g, h0, _⟩ := be_good h24 h
    exact pr_len _ _ (usefNA r) usefFA_len (bsJ_lt _ _ h0)
  · rfl
theorem beC_len (r : List Int) (n : Int) : (beC r n).length = 2 := by
  unfold beC
  split
  · exact mnA_len _ _ _
  · rfl
theorem pr_two {fs : List Int} {k n : Nat} (h : fs.length = n * 2) (hk : k < n) : pr fs k = [fs.getD (k * 2) 0, fs.getD (k * 2 + 1) 0] := by
  have hl := pr_len fs k n h hk
  unfold pr at hl ⊢
  match e : (fs.drop (k * 2)).take 2, hl with
  | [a, b], _ =>
    have e0 : ((fs.drop (k * 2)).take 2)[0]? = some a := by rw [e]; rfl
    have e1 : ((fs.drop (k * 2)).take 2)[1]? = some b := by rw [e]; rfl
    rw [List.getElem?_take, if_pos (by omega), List.getElem?_drop] at e0 e1
    rw [List.getD_eq_getElem?_getD, List.getD_eq_getElem?_getD, e1, show fs[k * 2]? = some a from e0]
    rfl
theorem pr_up {r : List Int} {k : Nat} (hk : k < usefNA r) : pr (usefFA r) k = [upX r k, upY r k] := pr_two usefFA_len hk
end Go.Proofs.Ytemiljokdedidac.base
end

section
namespace Go.Proofs.Ytemiljokdedidac.base
open Go.ChangeShapes Go.WideShapes Go.ChangeAt Go.RowKit
set_option linter.unusedVariables false
set_option linter.unusedSimpArgs false

def cmpJ (x y : Int) : Int := if x < y then -1 else if y < x then 1 else 0
theorem cmpJ_pos (x y : Int) : decide (0 < cmpJ x y) = decide (y < x) := by
  unfold cmpJ
  by_cases h : x < y
  · rw [if_pos h, decide_eq_false (show ¬ y < x by omega)]; rfl
  · rw [if_neg h]
    by_cases h2 : y < x
    · rw [if_pos h2, decide_eq_true h2]; rfl
    · rw [if_neg h2, decide_eq_false h2]; rfl
theorem isNaNJ_any (x : Int) (w : World) : Calls Try.prog 119 #[.int .i64 x] w fun e w' => e = .returned (.bool false) ∧ w' = w := by
  go_enter Try.func119, Try.ntmps119
  go_wp2_with fail
  go_ret
  exact ⟨ret_bool (by simp), rfl⟩
theorem cmpJ_any (x y : Int) (w : World) : Calls Try.prog 99 #[.int .i64 x, .int .i64 y] w fun e w' => e = .returned (.int .i64 (cmpJ x y)) ∧ w' = w := by
  go_enter Try.func99, Try.ntmps99
  go_wp2_with fail
  refine (isNaNJ_any x _).mono ?_
  rintro e w' ⟨rfl, rfl⟩
  go_wp2_with fail
  refine (isNaNJ_any y _).mono ?_
  rintro e w' ⟨rfl, rfl⟩
  by_cases h : x < y
  · have R := Lib.hid (show cmpJ x y = -1 by unfold cmpJ; rw [if_pos h])
    go_wp2_with fail
    go_ret
    exact ⟨ret_int R.out.symm, rfl⟩
  · by_cases h2 : y < x
    · have R := Lib.hid (show cmpJ x y = 1 by unfold cmpJ; rw [if_neg h, if_pos h2])
      go_wp2_with fail
      go_ret
      exact ⟨ret_int R.out.symm, rfl⟩
    · have R := Lib.hid (show cmpJ x y = 0 by unfold cmpJ; rw [if_neg h, if_neg h2])
      go_wp2_with fail
      go_ret
      exact ⟨ret_int R.out.symm, rfl⟩

set_option maxHeartbeats 800000 in
set_option maxRecDepth 100000 in
theorem comparing_any (a0 a1 b0 b1 : Nat) (w : World) (ha : a0 ≤ 720 ∧ a1 ≤ 30) (hb : b0 ≤ 720 ∧ b1 ≤ 30) :
    Calls Try.prog 67 #[.agg (ints [(a0 : Int), (a1 : Int)]).toArray, .agg (ints [(b0 : Int), (b1 : Int)]).toArray] w fun e w' => e = .returned (.int .i64 (cmpJ ((a0 * b1 : Nat) : Int) ((b0 * a1 : Nat) : Int))) ∧ Kept w w' := by
  have HB := Lib.hid (((kept_refl w).alloc (.cells (ints [(a0 : Int), (a1 : Int)]).toArray 33)).alloc (.cells (ints [(b0 : Int), (b1 : Int)]).toArray 33))
  have H1 := (Has.box (ns := [(a0 : Int), (a1 : Int)]) (n := 2) w 33 rfl (by omega)).alloc (.cells (ints [(b0 : Int), (b1 : Int)]).toArray 33)
  have H2 := (Has.box (ns := [(b0 : Int), (b1 : Int)]) (n := 2) (w.alloc (.cells (ints [(a0 : Int), (a1 : Int)]).toArray 33)) 33 rfl (by omega)).at (size1 _ _)
  have m1 : a0 * b1 ≤ 720 * 30 := Nat.mul_le_mul ha.1 hb.2
  have m2 : b0 * a1 ≤ 720 * 30 := Nat.mul_le_mul hb.1 ha.2
  have w1 : IntKind.i64.wrap ((a0 : Int) * (b1 : Int)) = ((a0 * b1 : Nat) : Int) := by rw [← Int.natCast_mul]; exact IntWalk.i64_in _ (by omega)
  have w2 : IntKind.i64.wrap ((b0 : Int) * (a1 : Int)) = ((b0 * a1 : Nat) : Int) := by rw [← Int.natCast_mul]; exact IntWalk.i64_in _ (by omega)
  have c00 : ((w.alloc (.cells (ints [(a0 : Int), (a1 : Int)]).toArray 33)).alloc (.cells (ints [(b0 : Int), (b1 : Int)]).toArray 33)).cell? ⟨w.heap.size, 0, none⟩ = some (.int .i64 (a0 : Int)) := H1.cell 0 (by omega)
  have c01 : ((w.alloc (.cells (ints [(a0 : Int), (a1 : Int)]).toArray 33)).alloc (.cells (ints [(b0 : Int), (b1 : Int)]).toArray 33)).cell? ⟨w.heap.size, 1, none⟩ = some (.int .i64 (a1 : Int)) := H1.cell 1 (by omega)
  have c10 : ((w.alloc (.cells (ints [(a0 : Int), (a1 : Int)]).toArray 33)).alloc (.cells (ints [(b0 : Int), (b1 : Int)]).toArray 33)).cell? ⟨w.heap.size + 1, 0, none⟩ = some (.int .i64 (b0 : Int)) := H2.cell 0 (by omega)
  have c11 : ((w.alloc (.cells (ints [(a0 : Int), (a1 : Int)]).toArray 33)).alloc (.cells (ints [(b0 : Int), (b1 : Int)]).toArray 33)).cell? ⟨w.heap.size + 1, 1, none⟩ = some (.int .i64 (b1 : Int)) := H2.cell 1 (by omega)
  clear H1 H2
  go_enter Try.func67, Try.ntmps67
  go_upto_region 1 with fail
  generalize ((w.alloc (.cells (ints [(a0 : Int), (a1 : Int)]).toArray 33)).alloc (.cells (ints [(b0 : Int), (b1 : Int)]).toArray 33)) = W at *
  go_wp2_with fail
  refine (cmpJ_any _ _ _).mono ?_
  rintro e w3 ⟨rfl, rfl⟩
  go_wp2_with fail
  go_ret
  exact ⟨rfl, HB.out⟩

set_option maxHeartbeats 800000 in
set_option maxRecDepth 100000 in
/-- The chance behind a pour, asked of the closure. -/
theorem behind_ask (r : List Int) (n x y : Int) (s t : Nat) (w : World) (h24 : r.length = 24) (hs : Has w s r 24) (ht : Bk w t [.int .i64 n] 3) :
    Calls Try.prog 63 #[.agg (ints [x, y]).toArray, .pointer (some ⟨s, 0, none⟩), .pointer (some ⟨t, 0, none⟩)] w fun e w' => e = .returned (.agg (ints (mnA (pourR r x y) n gSort)).toArray) ∧ Kept w w' := by
  have hR : (pourR r x y).length = 24 := pourR_len h24 x y
  have KP := Lib.hid (fun W => implPour r x y W h24)
  have KC := Lib.hid (fun W => implChanceSort (pourR r x y) n W hR)
  have fl := mnA_len (pourR r x y) n gSort
  have P := (Has.box (ns := [x, y]) (n := 2) w 33 rfl (by omega)).alloc (.cells #[.int .i64 0, .int .i64 0] 33)
  have Z := (Has.zero2v (w.alloc (.cells (ints [x, y]).toArray 33)) 33).at (size1 _ _)
  have H := (hs.alloc (.cells (ints [x, y]).toArray 33)).alloc (.cells #[.int .i64 0, .int .i64 0] 33)
  have B := (ht.alloc (.cells (ints [x, y]).toArray 33)).alloc (.cells #[.int .i64 0, .int .i64 0] 33)
  have HB := Lib.hid (((kept_refl w).alloc (.cells (ints [x, y]).toArray 33)).alloc (.cells #[.int .i64 0, .int .i64 0] 33))
  have c0 : ((w.alloc (.cells (ints [x, y]).toArray 33)).alloc (.cells #[.int .i64 0, .int .i64 0] 33)).cell? ⟨w.heap.size, 0, none⟩ = some (.int .i64 x) := P.cell 0 (by omega)
  have c1 : ((w.alloc (.cells (ints [x, y]).toArray 33)).alloc (.cells #[.int .i64 0, .int .i64 0] 33)).cell? ⟨w.heap.size, 1, none⟩ = some (.int .i64 y) := P.cell 1 (by omega)
  have hs0 := hs.lt
  have ht0 := ht.lt
  clear hs ht
  generalize pourR r x y = R at *
  go_enter Try.func63, Try.ntmps63
  go_upto_region 1 with fail
  generalize ((w.alloc (.cells (ints [x, y]).toArray 33)).alloc (.cells #[.int .i64 0, .int .i64 0] 33)) = W at *
  go_wp2_with (refine load_has rfl 42 _ rfl _ rfl ?_ 24 ?_ _ Try.underlying42 rfl ?_ ?_; rotate_left; (· (repeat (first | (with_reducible assumption) | ((with_reducible refine Has.box _ _ ?_ ?_) <;> (first | assumption | decide)) | (with_reducible refine Has.alloc ?_ _) | ((with_reducible refine Has.putOther ?_ _ _ ?_); rotate_left; omega; skip) | ((with_reducible refine Has.below ?_ ?_); rotate_left; assumption)))); (· kernel_rfl))
  refine (KP.out _).mono ?_
  rintro e w1 ⟨rfl, b1⟩
  have A := Has.box w1 42 hR (by omega)
  have hz1 := b1.size
  have hz0 := Z.lt
  replace Z := (Z.below b1).alloc (.cells (ints R).toArray 42)
  replace B := (B.below b1).alloc (.cells (ints R).toArray 42)
  replace HB := Lib.hid ((HB.out.call b1).alloc (.cells (ints R).toArray 42))
  clear P H b1 c0 c1
  have c0 := B.cell 0 (v := .int .i64 n) rfl
  go_upto_region 2 with (refine store_new rfl 42 _ _ rfl _ _ _ rfl _ rfl _ rfl rfl ?_ ?_ ?_; (· (first | assumption | rfl)); (· kernel_rfl))
  obtain ⟨ab, hab⟩ : ∃ ab, w1.heap.size = ab := ⟨_, rfl⟩
  rw [hab] at A hz1 ⊢
  generalize w1.alloc (.cells (ints R).toArray 42) = W1 at *
  clear hab
  go_wp2_with (refine load_has rfl 42 _ rfl _ rfl ?_ 24 ?_ _ Try.underlying42 rfl ?_ ?_; rotate_left; (· (repeat (first | (with_reducible assumption) | ((with_reducible refine Has.box _ _ ?_ ?_) <;> (first | assumption | decide)) | (with_reducible refine Has.alloc ?_ _) | ((with_reducible refine Has.putOther ?_ _ _ ?_); rotate_left; omega; skip) | ((with_reducible refine Has.below ?_ ?_); rotate_left; assumption)))); (· kernel_rfl))
  refine (KC.out _).mono ?_
  rintro e w2 ⟨rfl, b2⟩
  generalize hC : mnA R n gSort = C at *
  have HC := Lib.hid hC
  have D := Has.box w2 33 fl (by omega)
  have hz2 := b2.size
  have hz3 := Z.lt
  replace Z := (Z.below b2).alloc (.cells (ints C).toArray 33)
  have S1 := Lib.hid (Z.putAll C fl)
  have S2 := Lib.hid (((HB.out.call b2).alloc (.cells (ints C).toArray 33)).puts (b := w.heap.size + 1) (by omega) 0 (ints C))
  clear A B HB b2 c0 hC
  go_upto_region 3 with (refine store_new rfl 33 _ _ rfl _ _ _ rfl _ rfl _ rfl rfl ?_ ?_ ?_; (· (first | assumption | rfl)); (· kernel_rfl))
  go_wp2_with (first | (refine load_has rfl 33 _ rfl _ rfl ?_ 2 ?_ _ Try.underlying33 rfl ?_ ?_; rotate_left; (· (repeat (first | (with_reducible assumption) | ((with_reducible refine Has.box _ _ ?_ ?_) <;> (first | assumption | decide)) | (with_reducible refine Has.alloc ?_ _) | ((with_reducible refine Has.putOther ?_ _ _ ?_); rotate_left; omega; skip) | ((with_reducible refine Has.below ?_ ?_); rotate_left; assumption)))); (· kernel_rfl)) | (refine store_at rfl 33 _ _ rfl _ _ rfl rfl ?_ 2 ?_ ?_ ?_ ?_; rotate_left; (· (repeat (first | (with_reducible assumption) | ((with_reducible refine Has.box _ _ ?_ ?_) <;> (first | assumption | decide)) | (with_reducible refine Has.alloc ?_ _) | ((with_reducible refine Has.putOther ?_ _ _ ?_); rotate_left; omega; skip) | ((with_reducible refine Has.below ?_ ?_); rotate_left; assumption)))); (· (first | assumption | rfl)); (· kernel_rfl)))
  exact bodyPost_ret (res_has rfl _ _ (w.heap.size + 1) C 2 _ rfl S1.out Try.underlying33 rfl (by kernel_rfl)) rfl ⟨by rw [HC.out], S2.out⟩

/-- The closure that asks for the chance, as a value. -/
def askV (s t : Nat) : Value := .func (Fn.func 63) #[] #[.pointer (some ⟨s, 0, none⟩), .pointer (some ⟨t, 0, none⟩)]

set_option maxHeartbeats 800000 in
set_option maxRecDepth 100000 in
theorem compare_ask (r : List Int) (n x y x2 y2 : Int) (a0 a1 b0 b1 s t u : Nat) (w : World) (h24 : r.length = 24) (hs : Has w s r 24) (ht : Bk w t [.int .i64 n] 3) (hu : Bk w u [askV s t] 85)
    (ea : mnA (pourR r x y) n gSort = [(a0 : Int), (a1 : Int)]) (eb : mnA (pourR r x2 y2) n gSort = [(b0 : Int), (b1 : Int)]) (ha : a0 ≤ 720 ∧ a1 ≤ 30) (hb : b0 ≤ 720 ∧ b1 ≤ 30) :
    Calls Try.prog 66 #[.agg (ints [x, y]).toArray, .agg (ints [x2, y2]).toArray, .pointer (some ⟨u, 0, none⟩)] w fun e w' => e = .returned (.int .i64 (cmpJ ((a0 * b1 : Nat) : Int) ((b0 * a1 : Nat) : Int))) ∧ Kept w w' := by
  have P := (Has.box (ns := [x, y]) (n := 2) w 33 rfl (by omega)).alloc (.cells (ints [x2, y2]).toArray 33)
  have Q := (Has.box (ns := [x2, y2]) (n := 2) (w.alloc (.cells (ints [x, y]).toArray 33)) 33 rfl (by omega)).at (size1 _ _)
  have H := (hs.alloc (.cells (ints [x, y]).toArray 33)).alloc (.cells (ints [x2, y2]).toArray 33)
  have B := (ht.alloc (.cells (ints [x, y]).toArray 33)).alloc (.cells (ints [x2, y2]).toArray 33)
  have U := (hu.alloc (.cells (ints [x, y]).toArray 33)).alloc (.cells (ints [x2, y2]).toArray 33)
  have HB := Lib.hid (((kept_refl w).alloc (.cells (ints [x, y]).toArray 33)).alloc (.cells (ints [x2, y2]).toArray 33))
  have KA := Lib.hid (fun W h1 h2 => behind_ask r n x y s t W h24 h1 h2)
  have KB := Lib.hid (fun W h1 h2 => behind_ask r n x2 y2 s t W h24 h1 h2)
  rw [ea] at KA
  rw [eb] at KB
  have KC := Lib.hid (fun W => comparing_any a0 a1 b0 b1 W ha hb)
  have hi1 : (Try.prog.info? 33).map (·.size) = some (ints [x, y]).length := by kernel_rfl
  have hi2 : (Try.prog.info? 33).map (·.size) = some (ints [x2, y2]).length := by kernel_rfl
  clear hs ht hu ea eb
  unfold askV at U
  go_enter Try.func66, Try.ntmps66
  go_upto_region 1 with fail
  generalize ((w.alloc (.cells (ints [x, y]).toArray 33)).alloc (.cells (ints [x2, y2]).toArray 33)) = W at *
  refine wp_region_held_drew (S := fun w' => Has w' w.heap.size [x, y] 2 ∧ Has w' (w.heap.size + 1) [x2, y2] 2 ∧ Has w' s r 24 ∧ Bk w' t [.int .i64 n] 3 ∧ Bk w' u [.func (Fn.func 63) #[] #[.pointer (some ⟨s, 0, none⟩), .pointer (some ⟨t, 0, none⟩)]] 85 ∧ Kept w w') (by kernel_rfl) ⟨P.drew, Q.drew, H.drew, B.drew, U.drew, HB.out.drewN 1⟩ (fun hHeld => ?_)
  clear P Q H B U HB
  generalize W.drew = WD at *
  (refine wpAnyH_take (i := 0) (v := .func (Fn.func 63) #[] #[.pointer (some ⟨s, 0, none⟩), .pointer (some ⟨t, 0, none⟩)]) rfl (by kernel_rfl) (by kernel_rfl) (by kernel_rfl) (fun _ _ _ h => h) (Or.inl ⟨by rfl, ?_⟩) hHeld ?_; (· (intro w' hSw; have q := hSw.2.2.2.2.1.cell 0 rfl; clear hSw; go_simp; try with_reducible rfl)); (try simp only [List.getElem_toArray, List.getElem_cons_zero, List.getElem_cons_succ, Act.put, List.setIfInBounds_toArray, List.set_cons_zero, List.set_cons_succ]))
  (refine wpAnyH_take (i := 1) (v := _) rfl (by kernel_rfl) (by kernel_rfl) (by kernel_rfl) (fun _ _ _ h => h) (yieldsIf_load_mid (by rfl) 33 _ rfl _ _ rfl (ints [x, y]) _ (fun w' hSw => hSw.1.holds.range) Try.underlying33 rfl (hi1)) hHeld ?_; (try simp only [List.getElem_toArray, List.getElem_cons_zero, List.getElem_cons_succ, Act.put, List.setIfInBounds_toArray, List.set_cons_zero, List.set_cons_succ]))
  (refine wpAnyH_take (i := 3) (v := .func (Fn.func 63) #[] #[.pointer (some ⟨s, 0, none⟩), .pointer (some ⟨t, 0, none⟩)]) rfl (by kernel_rfl) (by kernel_rfl) (by kernel_rfl) (fun _ _ _ h => h) (Or.inl ⟨by rfl, ?_⟩) hHeld ?_; (· (intro w' hSw; have q := hSw.2.2.2.2.1.cell 0 rfl; clear hSw; go_simp; try with_reducible rfl)); (try simp only [List.getElem_toArray, List.getElem_cons_zero, List.getElem_cons_succ, Act.put, List.setIfInBounds_toArray, List.set_cons_zero, List.set_cons_succ]))
  (refine wpAnyH_take (i := 4) (v := _) rfl (by kernel_rfl) (by kernel_rfl) (by kernel_rfl) (fun _ _ _ h => h) (yieldsIf_load_mid (by rfl) 33 _ rfl _ _ rfl (ints [x2, y2]) _ (fun w' hSw => hSw.2.1.holds.range) Try.underlying33 rfl (hi2)) hHeld ?_; (try simp only [List.getElem_toArray, List.getElem_cons_zero, List.getElem_cons_succ, Act.put, List.setIfInBounds_toArray, List.set_cons_zero, List.set_cons_succ]))
  (refine wpAnyH_ready (rs := [2]) (by kernel_rfl) (by simp) ?_; refine AllReadyH.cons (o := _) rfl (fun K hK => ?_) AllReadyH.nil; (simp only [List.getElem_toArray, List.getElem_cons_zero, List.getElem_cons_succ, Region.wanted, if_true]))
  go_simp
  refine (KA.out _ hHeld.2.2.1 hHeld.2.2.2.1).mono ?_
  rintro e w3 ⟨rfl, bq⟩
  dsimp only
  (try simp only [List.getElem_toArray, List.getElem_cons_zero, List.getElem_cons_succ, Act.put, List.setIfInBounds_toArray, List.set_cons_zero, List.set_cons_succ])
  refine hK.out _ _ ⟨hHeld.1.below bq, hHeld.2.1.below bq, hHeld.2.2.1.below bq, hHeld.2.2.2.1.below bq, hHeld.2.2.2.2.1.below bq, hHeld.2.2.2.2.2.call bq⟩ (fun hHeld => ?_)
  clear hK K bq
  (refine wpAnyH_ready (rs := [5]) (by kernel_rfl) (by simp) ?_; refine AllReadyH.cons (o := _) rfl (fun K hK => ?_) AllReadyH.nil; (simp only [List.getElem_toArray, List.getElem_cons_zero, List.getElem_cons_succ, Region.wanted, if_true]))
  go_simp
  refine (KB.out _ hHeld.2.2.1 hHeld.2.2.2.1).mono ?_
  rintro e w4 ⟨rfl, bq⟩
  dsimp only
  (try simp only [List.getElem_toArray, List.getElem_cons_zero, List.getElem_cons_succ, Act.put, List.setIfInBounds_toArray, List.set_cons_zero, List.set_cons_succ])
  refine hK.out _ _ ⟨hHeld.1.below bq, hHeld.2.1.below bq, hHeld.2.2.1.below bq, hHeld.2.2.2.1.below bq, hHeld.2.2.2.2.1.below bq, hHeld.2.2.2.2.2.call bq⟩ (fun hHeld => ?_)
  clear hK K bq
  (refine wpAnyH_ready (rs := [6]) (by kernel_rfl) (by simp) ?_; refine AllReadyH.cons (o := _) rfl (fun K hK => ?_) AllReadyH.nil; (simp only [List.getElem_toArray, List.getElem_cons_zero, List.getElem_cons_succ, Region.wanted, if_true]))
  go_simp
  refine (KC.out _).mono ?_
  rintro e w5 ⟨rfl, bq⟩
  dsimp only
  (try simp only [List.getElem_toArray, List.getElem_cons_zero, List.getElem_cons_succ, Act.put, List.setIfInBounds_toArray, List.set_cons_zero, List.set_cons_succ])
  refine hK.out _ _ ⟨hHeld.1.below bq, hHeld.2.1.below bq, hHeld.2.2.1.below bq, hHeld.2.2.2.1.below bq, hHeld.2.2.2.2.1.below bq, hHeld.2.2.2.2.2.call bq⟩ (fun hHeld => ?_)
  clear hK K bq
  (refine wpAnyH_take (i := 7) (v := ?_) rfl (by kernel_rfl) (by kernel_rfl) (by kernel_rfl) (fun _ _ _ h => h) (Or.inl ⟨by rfl, ?_⟩) hHeld ?_; rotate_left; (· (intro w' hSw; go_simp; try with_reducible rfl)); (try simp only [List.getElem_toArray, List.getElem_cons_zero, List.getElem_cons_succ, Act.put, List.setIfInBounds_toArray, List.set_cons_zero, List.set_cons_succ]))
  refine wpAnyH_done (by kernel_rfl) ?_ _
  have KE := hHeld.2.2.2.2.2
  clear hHeld
  go_wp2_with fail
  go_ret
  exact ⟨rfl, KE⟩
end Go.Proofs.Ytemiljokdedidac.base
end

section
namespace Go.Proofs.Ytemiljokdedidac.base
open Go.ChangeShapes Go.WideShapes Go.ChangeAt Go.RowKit
set_option linter.unusedVariables false
set_option linter.unusedSimpArgs false

set_option maxHeartbeats 1600000 in
set_option maxRecDepth 100000 in
theorem maxFunc_any (u : Nat) (fs : List Int) (up : Nat → Nat → Bool) (b n : Nat) (v : Value) (w : World) (hn0 : 0 < n) (hn : n ≤ 36)
    (KF : ∀ i j, i < n → j < n → ∀ W, Kept w W → Calls Try.prog 66 #[.agg (ints (pr fs i)).toArray, .agg (ints (pr fs j)).toArray, .pointer (some ⟨u, 0, none⟩)] W fun e w' => (∃ z : Int, e = .returned (.int .i64 z) ∧ decide (0 < z) = up j i) ∧ Kept W w')
    (h : Rw w b v n fs) :
    Calls Try.prog 65 #[v, .func (Fn.func 66) #[] #[.pointer (some ⟨u, 0, none⟩)]] w fun e w' => e = .returned (.agg (ints (pr fs (bsJ up n))).toArray) ∧ Kept w w' := by
  obtain ⟨a, cap, rfl⟩ := h.shape
  obtain ⟨g, cap2, hv', _, hgl⟩ := h.form hn0
  injection hv' with ha _ hcap
  subst ha
  subst hcap
  have hfl := h.flat
  have l0 := pr_len fs 0 n hfl hn0
  have Z := (Has.zero2v w 33).alloc (.cells (ints (pr fs 0)).toArray 33)
  have BB := (Has.box (ns := pr fs 0) (n := 2) (w.alloc (.cells #[.int .i64 0, .int .i64 0] 33)) 33 l0 (by omega)).at (size1 _ _)
  have HB := Lib.hid (((kept_refl w).alloc (.cells #[.int .i64 0, .int .i64 0] 33)).alloc (.cells (ints (pr fs 0)).toArray 33))
  have RG0 : (w.alloc (.cells #[.int .i64 0, .int .i64 0] 33)).rangeAt g 0 (ints (pr fs 0)) := (h.alloc (.cells #[.int .i64 0, .int .i64 0] 33)).range 0 hn0
  have R0 := Lib.hid ((h.alloc (.cells #[.int .i64 0, .int .i64 0] 33)).alloc (.cells (ints (pr fs 0)).toArray 33))
  have OWN := Lib.hid (fun hn k hk => (h.ownlt hn k hk).2)
  have KFH := Lib.hid KF
  have HFL := Lib.hid hfl
  have hi0 : (Try.prog.info? 33).map (·.size) = some (ints (pr fs 0)).length := by rw [ints_len, l0]; kernel_rfl
  have P1 := Lib.hid (show pr fs 0 = pr fs (bsJ up 1) by rw [bsJ_one])
  have n1 : ¬ ((n : Int) < 1) := by omega
  clear h KF hfl
  go_enter Try.func65, Try.ntmps65
  obtain ⟨A0, hA0⟩ : ∃ A, pr fs 0 = A := ⟨_, rfl⟩
  rw [hA0] at Z BB HB RG0 R0 hi0 l0 P1
  clear hA0
  go_upto_region 3 with fail
  go_wp2_with (first | (refine wpList_load_mid rfl 33 _ rfl g 0 rfl (ints A0) _ RG0 Try.underlying33 rfl hi0 ?_) | (refine store_new rfl 33 _ _ rfl _ _ _ rfl _ (by simp) A0 rfl rfl ?_ ?_ ?_; (· (first | assumption | rfl)); (· kernel_rfl)))
  generalize ((w.alloc (.cells #[.int .i64 0, .int .i64 0] 33)).alloc (.cells (ints A0).toArray 33)) = W0 at *
  rw [P1.out] at BB
  clear RG0 hi0 P1 l0
  go_loopw [6] (fun z wr => ∃ k : Nat, 1 ≤ k ∧ k ≤ n ∧ z = .int .i64 k ∧ Has wr w.heap.size z2 2 ∧ Has wr (w.heap.size + 1) (pr fs (bsJ up k)) 2 ∧ Hid (Rw wr b (.slice (some ⟨g, 0, none⟩) n cap) n fs) ∧ Hid (Kept w wr)) (fun z _ => n - (intOf z).toNat)
  case atStart => exact ⟨1, by omega, by omega, rfl, Z, BB, R0, HB⟩
  case round =>
    clear Z BB R0 HB
    obtain ⟨k, hk1, hk, rfl, GZ, GS, GR, GB⟩ := hrel
    have hbk := bsJ_lt up k (by omega)
    by_cases hkn : k < n
    · have hki : (k : Int) < (n : Int) := by omega
      have hk0 : (0 : Int) ≤ (k : Int) := by omega
      have KJ := Lib.hid (fun W h => KFH.out k (bsJ up k) hkn (by omega) W h)
      have ST := Lib.hid (show bsJ up (k + 1) = if up (bsJ up k) k = true then k else bsJ up k from rfl)
      have lk := pr_len fs k n HFL.out hkn
      have lb := pr_len fs (bsJ up k) n HFL.out (by omega)
      have RGA := Lib.hid (fun w' (hw : Kept wr w') => (GR.out.below hw).range k hkn)
      obtain ⟨J, hJ⟩ : ∃ J, bsJ up k = J := ⟨_, rfl⟩
      rw [hJ] at KJ ST lb GS
      obtain ⟨A, hA⟩ : ∃ A, pr fs k = A := ⟨_, rfl⟩
      obtain ⟨B, hB⟩ : ∃ B, pr fs J = B := ⟨_, rfl⟩
      rw [hA] at KJ lk RGA
      rw [hB] at KJ lb GS
      have HA := Lib.hid hA
      have HBB := Lib.hid hB
      have hiA : (Try.prog.info? 33).map (·.size) = some (ints A).length := by rw [ints_len, lk]; kernel_rfl
      have hiB : (Try.prog.info? 33).map (·.size) = some (ints B).length := by rw [ints_len, lb]; kernel_rfl
      clear hA hB hJ hbk
      go_wp2_with fail
      refine wp_region_held_drew (S := fun w' => Kept wr w') (by kernel_rfl) ?_ (fun hHeld => ?_)
      · exact (kept_refl wr).drewN 1
      (refine wpAnyH_take (i := 0) (v := ?_) rfl (by kernel_rfl) (by kernel_rfl) (by kernel_rfl) (fun _ _ _ h => h) (Or.inl ⟨by rfl, ?_⟩) hHeld ?_; rotate_left; (· (intro w' hSw; go_simp; try with_reducible rfl)); (try simp only [List.getElem_toArray, List.getElem_cons_zero, List.getElem_cons_succ, Act.put, List.setIfInBounds_toArray, List.set_cons_zero, List.set_cons_succ])); (refine wpAnyH_take (i := 1) (v := ?_) rfl (by kernel_rfl) (by kernel_rfl) (by kernel_rfl) (fun _ _ _ h => h) (Or.inl ⟨by rfl, ?_⟩) hHeld ?_; rotate_left; (· (intro w' hSw; go_simp; try with_reducible rfl)); (try simp only [List.getElem_toArray, List.getElem_cons_zero, List.getElem_cons_succ, Act.put, List.setIfInBounds_toArray, List.set_cons_zero, List.set_cons_succ])); (refine wpAnyH_take (i := 2) (v := ?_) rfl (by kernel_rfl) (by kernel_rfl) (by kernel_rfl) (fun _ _ _ h => h) (Or.inl ⟨by rfl, ?_⟩) hHeld ?_; rotate_left; (· (intro w' hSw; go_simp; try with_reducible rfl)); (try simp only [List.getElem_toArray, List.getElem_cons_zero, List.getElem_cons_succ, Act.put, List.setIfInBounds_toArray, List.set_cons_zero, List.set_cons_succ])); (refine wpAnyH_take (i := 3) (v := ?_) rfl (by kernel_rfl) (by kernel_rfl) (by kernel_rfl) (fun _ _ _ h => h) (Or.inl ⟨by rfl, ?_⟩) hHeld ?_; rotate_left; (· (intro w' hSw; go_simp; try with_reducible rfl)); (try simp only [List.getElem_toArray, List.getElem_cons_zero, List.getElem_cons_succ, Act.put, List.setIfInBounds_toArray, List.set_cons_zero, List.set_cons_succ]))
      (refine wpAnyH_take (i := 4) (v := _) rfl (by kernel_rfl) (by kernel_rfl) (by kernel_rfl) (fun _ _ _ h => h) (yieldsIf_load_mid (by rfl) 33 _ rfl _ _ rfl (ints A) _ (fun w' hSw => RGA.out _ hSw) Try.underlying33 rfl (hiA)) hHeld ?_; (try simp only [List.getElem_toArray, List.getElem_cons_zero, List.getElem_cons_succ, Act.put, List.setIfInBounds_toArray, List.set_cons_zero, List.set_cons_succ]))
      (refine wpAnyH_take (i := 5) (v := _) rfl (by kernel_rfl) (by kernel_rfl) (by kernel_rfl) (fun _ _ _ h => h) (yieldsIf_load_mid (by rfl) 33 _ rfl _ _ rfl (ints B) _ (fun w' hSw => (GS.below hSw).holds.range) Try.underlying33 rfl (hiB)) hHeld ?_; (try simp only [List.getElem_toArray, List.getElem_cons_zero, List.getElem_cons_succ, Act.put, List.setIfInBounds_toArray, List.set_cons_zero, List.set_cons_succ]))
      (refine wpAnyH_ready (rs := [6]) (by kernel_rfl) (by simp) ?_; refine AllReadyH.cons (o := _) rfl (fun K hK => ?_) AllReadyH.nil; (simp only [List.getElem_toArray, List.getElem_cons_zero, List.getElem_cons_succ, Region.wanted, if_true]))
      go_simp
      refine (KJ.out _ (GB.out.call hHeld)).mono ?_
      rintro e w9 ⟨⟨z, rfl, hz⟩, b9⟩
      dsimp only
      (try simp only [List.getElem_toArray, List.getElem_cons_zero, List.getElem_cons_succ, Act.put, List.setIfInBounds_toArray, List.set_cons_zero, List.set_cons_succ])
      have KW := Kept.call hHeld b9
      refine hK.out _ _ KW (fun hHeld => ?_)
      clear hK K b9
      (refine wpAnyH_take (i := 7) (v := ?_) rfl (by kernel_rfl) (by kernel_rfl) (by kernel_rfl) (fun _ _ _ h => h) (Or.inl ⟨by rfl, ?_⟩) hHeld ?_; rotate_left; (· (intro w' hSw; go_simp; try with_reducible rfl)); (try simp only [List.getElem_toArray, List.getElem_cons_zero, List.getElem_cons_succ, Act.put, List.setIfInBounds_toArray, List.set_cons_zero, List.set_cons_succ]))
      refine wpAnyH_done (by kernel_rfl) ?_ _
      clear hHeld
      have RGB := Lib.hid (RGA.out _ KW)
      replace GZ := GZ.below KW
      replace GS := GS.below KW
      replace GR := Lib.hid (GR.out.below KW)
      replace GB := Lib.hid (GB.out.call KW)
      clear KW RGA KJ
      clear hz
      cases hU : up J k with
      | true =>
        have E := Lib.hid (show bsJ up (k + 1) = k by rw [ST.out, hU]; rfl)
        have S1 := GS.putAll A lk
        have S2 := GZ.putOther (b' := w.heap.size + 1) 0 (ints A) (by omega)
        have S3 := Lib.hid (GR.out.puts (w.heap.size + 1) 0 (ints A) (fun hi e => by have := OWN.out hi _ e; omega))
        have S4 := Lib.hid (GB.out.puts (b := w.heap.size + 1) (by omega) 0 (ints A))
        clear hU GR GB ST
        go_wp2_with (first | (refine wpList_load_mid rfl 33 _ rfl g (k * 2) rfl (ints A) _ RGB.out Try.underlying33 rfl hiA ?_) | (refine store_at rfl 33 _ _ rfl _ _ rfl rfl ?_ 2 ?_ ?_ ?_ ?_; rotate_left; (· (repeat (first | (with_reducible assumption) | ((with_reducible refine Has.box _ _ ?_ ?_) <;> (first | assumption | decide)) | (with_reducible refine Has.alloc ?_ _) | ((with_reducible refine Has.putOther ?_ _ _ ?_); rotate_left; omega; skip) | ((with_reducible refine Has.below ?_ ?_); rotate_left; assumption)))); (· (first | assumption | rfl)); (· kernel_rfl)))
        go_roundw
        case rel => exact ⟨k + 1, by omega, by omega, by go_num, S2, by rw [E.out, HA.out]; exact S1, S3, S4⟩
        case measure => simp [intOf]; omega
      | false =>
        have E := Lib.hid (show bsJ up (k + 1) = J by rw [ST.out, hU]; rfl)
        clear hU ST
        go_wp2_with fail
        go_roundw
        case rel => exact ⟨k + 1, by omega, by omega, by go_num, GZ, by rw [E.out, HBB.out]; exact GS, GR, GB⟩
        case measure => simp [intOf]; omega
    · obtain rfl : k = n := by omega
      have lb := pr_len fs (bsJ up k) k HFL.out (by omega)
      obtain ⟨B, hB⟩ : ∃ B, pr fs (bsJ up k) = B := ⟨_, rfl⟩
      rw [hB] at lb GS
      have HBB := Lib.hid hB
      have S1 := Lib.hid (GZ.putAll B lb)
      have S2 := Lib.hid (GB.out.puts (b := w.heap.size) (by omega) 0 (ints B))
      clear hB hbk
      go_wp2_with (first | (refine load_has rfl 33 _ rfl _ rfl ?_ 2 ?_ _ Try.underlying33 rfl ?_ ?_; rotate_left; (· (repeat (first | (with_reducible assumption) | ((with_reducible refine Has.box _ _ ?_ ?_) <;> (first | assumption | decide)) | (with_reducible refine Has.alloc ?_ _) | ((with_reducible refine Has.putOther ?_ _ _ ?_); rotate_left; omega; skip) | ((with_reducible refine Has.below ?_ ?_); rotate_left; assumption)))); (· kernel_rfl)) | (refine store_at rfl 33 _ _ rfl _ _ rfl rfl ?_ 2 ?_ ?_ ?_ ?_; rotate_left; (· (repeat (first | (with_reducible assumption) | ((with_reducible refine Has.box _ _ ?_ ?_) <;> (first | assumption | decide)) | (with_reducible refine Has.alloc ?_ _) | ((with_reducible refine Has.putOther ?_ _ _ ?_); rotate_left; omega; skip) | ((with_reducible refine Has.below ?_ ?_); rotate_left; assumption)))); (· (first | assumption | rfl)); (· kernel_rfl)))
      exact bodyPost_ret (res_has rfl _ _ w.heap.size B 2 _ rfl S1.out Try.underlying33 rfl (by kernel_rfl)) rfl ⟨by rw [HBB.out], S2.out⟩
end Go.Proofs.Ytemiljokdedidac.base
end

section
namespace Go.Proofs.Ytemiljokdedidac.base
open Go.ChangeShapes Go.WideShapes Go.ChangeAt Go.RowKit
set_option linter.unusedVariables false
set_option linter.unusedSimpArgs false

theorem res_two {P : Program} {fn : Func} {p q s : Tmp} {T : TypeId} (h : fn.results = #[.cell p T, .cell q T, .tmp s]) (tmps : Array Value) (w : World) (b c : Nat) (ns ms : List Int) (n : Nat) (d : TypeDesc) (v : Value)
    (hp : tmps.getD p undef = .pointer (some ⟨b, 0, none⟩)) (hq : tmps.getD q undef = .pointer (some ⟨c, 0, none⟩)) (hs : tmps.getD s undef = v) (H : Has w b ns n) (M : Has w c ms n) (hu : P.underlying T = some d) (hd : d.isRow = true) (hi : (P.info? T).map (·.size) = some n) :
    (results fn tmps).run P w = .ok (.tuple #[.agg (ints ns).toArray, .agg (ints ms).toArray, v]) w := by
  have hp' : tmps[p]?.getD undef = .pointer (some ⟨b, 0, none⟩) := by simpa using hp
  have hq' : tmps[q]?.getD undef = .pointer (some ⟨c, 0, none⟩) := by simpa using hq
  have hs' : tmps[s]?.getD undef = v := by simpa using hs
  have hl := run_loadVar_mid (P := P) w b 0 T (ints ns) d H.holds.range hu hd (by rw [ints_len, H.len]; exact hi)
  have hm := run_loadVar_mid (P := P) w c 0 T (ints ms) d M.holds.range hu hd (by rw [ints_len, M.len]; exact hi)
  simp [results, h, hp', hq', hs', asAddr, hl, hm]

theorem Has.ex2 {w : World} {b : Nat} {ns : List Int} (h : Has w b ns 2) : ∃ zs, Has w b zs 2 := ⟨_, h⟩

set_option maxHeartbeats 1600000 in
set_option maxRecDepth 100000 in
theorem implBest (r : List Int) (n : Int) (w : World) (h24 : r.length = 24) :
    Calls Try.prog 27 #[row r, .int .i64 n] w fun e w' => e = .returned (.tuple #[.agg (ints (beP r n)).toArray, .agg (ints (beC r n)).toArray, .bool (beOk r n)]) ∧ Kept w w' := by
  have N := (((Bk.box (w.alloc (.cells (ints r).toArray 42)) [.int .i64 n] 3).at (size1 _ _)).alloc (.cells #[.int .i64 0, .int .i64 0] 33)).alloc (.cells #[.int .i64 0, .int .i64 0] 33)
  have H := (((Has.box w 42 h24 (by omega)).alloc (.cells #[.int .i64 n] 3)).alloc (.cells #[.int .i64 0, .int .i64 0] 33)).alloc (.cells #[.int .i64 0, .int .i64 0] 33)
  have HB := Lib.hid (((((kept_refl w).alloc (.cells (ints r).toArray 42)).alloc (.cells #[.int .i64 n] 3)).alloc (.cells #[.int .i64 0, .int .i64 0] 33)).alloc (.cells #[.int .i64 0, .int .i64 0] 33))
  have Z1 := ((Has.zero2v ((w.alloc (.cells (ints r).toArray 42)).alloc (.cells #[.int .i64 n] 3)) 33).at (c := w.heap.size + 1 + 1) (by simp)).alloc (.cells #[.int .i64 0, .int .i64 0] 33)
  have Z2 := (Has.zero2v (((w.alloc (.cells (ints r).toArray 42)).alloc (.cells #[.int .i64 n] 3)).alloc (.cells #[.int .i64 0, .int .i64 0] 33)) 33).at (c := w.heap.size + 1 + 1 + 1) (by simp)
  have KU := Lib.hid (fun W => implUseful r W h24)
  have BG := Lib.hid (fun h => be_good (r := r) (n := n) h24 h)
  have H24 := Lib.hid h24
  rw [row_ints]
  go_enter Try.func27, Try.ntmps27
  go_upto_region 1 with fail
  generalize ((((w.alloc (.cells (ints r).toArray 42)).alloc (.cells #[.int .i64 n] 3)).alloc (.cells #[.int .i64 0, .int .i64 0] 33)).alloc (.cells #[.int .i64 0, .int .i64 0] 33)) = W0 at *
  go_wp2_with (refine load_has rfl 42 _ rfl _ rfl ?_ 24 ?_ _ Try.underlying42 rfl ?_ ?_; rotate_left; (· (repeat (first | (with_reducible assumption) | ((with_reducible refine Has.box _ _ ?_ ?_) <;> (first | assumption | decide)) | (with_reducible refine Has.alloc ?_ _) | ((with_reducible refine Has.putOther ?_ _ _ ?_); rotate_left; omega; skip) | ((with_reducible refine Has.below ?_ ?_); rotate_left; assumption)))); (· kernel_rfl))
  refine (KU.out _).mono ?_
  rintro e w1 ⟨v, rfl, q1, b1⟩
  obtain ⟨va, vc, rfl⟩ := q1.rw.shape
  have R0 := Lib.hid (q1.rw)
  have OWN := Lib.hid (fun hn k hk => q1.rw.ownlt hn k hk)
  have hsz := HB.out.size
  have hn2 := N.lt
  have hz1 := Z1.lt
  have hz2 := Z2.lt
  have hb1 := b1.size
  replace N := N.below b1
  replace H := H.below b1
  replace Z1 := Z1.below b1
  replace Z2 := Z2.below b1
  replace HB := Lib.hid (HB.out.call b1)
  have c0 := N.cell 0 (v := .int .i64 n) rfl
  have N36 := usefNA_le r
  clear b1 q1
  by_cases hok : beOk r n = true
  · obtain ⟨G, hN0, hn0, hn1⟩ := BG.out hok
    have EP := Lib.hid (show beP r n = pr (usefFA r) (bsJ (upC r n) (usefNA r)) by unfold beP beJ; rw [if_pos hok])
    have EC := Lib.hid (show beC r n = mnA (nxR r (bsJ (upC r n) (usefNA r))) n gSort by unfold beC beJ; rw [if_pos hok]; rfl)
    have EK := Lib.hid hok
    have CH := Lib.hid (fun k hk => ch_is (r := r) (n := n) (k := k) G ⟨hn0, hn1⟩ hk)
    have PU := Lib.hid (fun k hk => pr_up (r := r) (k := k) hk)
    have BL := bsJ_lt (upC r n) (usefNA r) hN0
    obtain ⟨M, hM⟩ : ∃ M, usefNA r = M := ⟨_, rfl⟩
    rw [hM] at R0 OWN hN0 N36 EP EC CH PU BL ⊢
    have e0 : ((M : Int) == 0) = false := by simp; omega
    have e1 : ¬ (n < 0) := by omega
    have e2 : ¬ (2 ≤ n) := by omega
    clear hok hM
    go_upto_region 4 with fail
    go_upto_region 5 with fail
    have U := Bk.box w1 [askV w.heap.size (w.heap.size + 1)] 85
    have DH := H.alloc (.cells #[askV w.heap.size (w.heap.size + 1)] 85)
    have DN := N.alloc (.cells #[askV w.heap.size (w.heap.size + 1)] 85)
    have D1 := Z1.alloc (.cells #[askV w.heap.size (w.heap.size + 1)] 85)
    have D2 := Z2.alloc (.cells #[askV w.heap.size (w.heap.size + 1)] 85)
    have DB := Lib.hid (HB.out.alloc (.cells #[askV w.heap.size (w.heap.size + 1)] 85))
    have DR := Lib.hid (R0.out.alloc (.cells #[askV w.heap.size (w.heap.size + 1)] 85))
    clear N H Z1 Z2 HB R0 c0
    have hU : Obj.cells #[.func (Fn.func 63) #[] #[.pointer (some ⟨w.heap.size, 0, none⟩), .pointer (some ⟨w.heap.size + 1, 0, none⟩)]] 85 = .cells #[askV w.heap.size (w.heap.size + 1)] 85 := rfl
    rw [hU]
    clear hU
    obtain ⟨u, hu⟩ : ∃ u, w1.heap.size = u := ⟨_, rfl⟩
    rw [hu] at U hb1 ⊢
    generalize w1.alloc (.cells #[askV w.heap.size (w.heap.size + 1)] 85) = W2 at *
    clear hu
    have KM := Lib.hid (maxFunc_any u (usefFA r) (upC r n) W0.heap.size M (.slice va M vc) W2 hN0 N36 (fun i j hi hj W hW => by
      rw [PU.out i hi, PU.out j hj]
      refine (compare_ask r n (upX r i) (upY r i) (upX r j) (upY r j) (chN r n i) (chD r n i) (chN r n j) (chD r n j) w.heap.size (w.heap.size + 1) u W H24.out (DH.below hW) (DN.below hW) (U.below hW) (CH.out i hi).1 (CH.out j hj).1 ⟨(CH.out i hi).2.1, (CH.out i hi).2.2.2⟩ ⟨(CH.out j hj).2.1, (CH.out j hj).2.2.2⟩).mono ?_
      rintro e w' ⟨rfl, hk⟩
      refine ⟨⟨_, rfl, ?_⟩, hk⟩
      rw [cmpJ_pos]
      unfold upC
      exact decide_eq_decide.2 Int.ofNat_lt) DR.out)
    have PJ := Lib.hid (PU.out _ BL)
    have EN := Lib.hid (show nxR r (bsJ (upC r n) M) = pourR r (upX r (bsJ (upC r n) M)) (upY r (bsJ (upC r n) M)) from rfl)
    rw [PJ.out] at KM EP
    obtain ⟨J, hJ⟩ : ∃ J, bsJ (upC r n) M = J := ⟨_, rfl⟩
    rw [hJ] at KM EP EC EN
    rw [EN.out] at EC
    obtain ⟨x, hx⟩ : ∃ x, upX r J = x := ⟨_, rfl⟩
    obtain ⟨y, hy⟩ : ∃ y, upY r J = y := ⟨_, rfl⟩
    rw [hx, hy] at KM EP EC
    have KA := Lib.hid (fun W h1 h2 => behind_ask r n x y w.heap.size (w.heap.size + 1) W H24.out h1 h2)
    have flC := mnA_len (pourR r x y) n gSort
    generalize mnA (pourR r x y) n gSort = C at *
    have hiP : (Try.prog.info? 33).map (·.size) = some (ints [x, y]).length := by kernel_rfl
    have hiC : (Try.prog.info? 33).map (·.size) = some (ints C).length := by rw [ints_len, flC]; kernel_rfl
    have lC : (ints C).length = 2 := by rw [ints_len]; exact flC
    have hi2 : (Try.prog.info? 33).map (·.size) = some 2 := by kernel_rfl
    clear PJ hJ hx hy CH PU BL OWN DR EN
    go_upto_region 5 with fail
    go_wp2_with fail
    refine KM.out.mono ?_
    rintro e w3 ⟨rfl, b3⟩
    have P := Has.box (ns := [x, y]) (n := 2) w3 33 rfl (by omega)
    replace U := (U.below b3).alloc (.cells (ints [x, y]).toArray 33)
    replace DH := (DH.below b3).alloc (.cells (ints [x, y]).toArray 33)
    replace DN := (DN.below b3).alloc (.cells (ints [x, y]).toArray 33)
    have hb3 := b3.size
    have hd1 := D1.lt
    have hd2 := D2.lt
    replace D1 := (D1.below b3).alloc (.cells (ints [x, y]).toArray 33)
    replace D2 := (D2.below b3).alloc (.cells (ints [x, y]).toArray 33)
    replace DB := Lib.hid ((DB.out.call b3).alloc (.cells (ints [x, y]).toArray 33))
    clear b3 KM
    go_upto_region 6 with (refine store_new rfl 33 _ _ rfl _ _ _ rfl _ rfl _ rfl rfl ?_ ?_ ?_; (· (first | assumption | rfl)); (· kernel_rfl))
    obtain ⟨p, hp⟩ : ∃ p, w3.heap.size = p := ⟨_, rfl⟩
    rw [hp] at P hb3 ⊢
    generalize w3.alloc (.cells (ints [x, y]).toArray 33) = W4 at *
    clear hp
    unfold askV at U
    refine wp_region_held_drew (S := fun w' => Has w' p [x, y] 2 ∧ Bk w' u [.func (Fn.func 63) #[] #[.pointer (some ⟨w.heap.size, 0, none⟩), .pointer (some ⟨w.heap.size + 1, 0, none⟩)]] 85 ∧ Has w' w.heap.size r 24 ∧ Bk w' (w.heap.size + 1) [.int .i64 n] 3 ∧ (∃ zs, Has w' (w.heap.size + 1 + 1) zs 2) ∧ (∃ zs, Has w' (w.heap.size + 1 + 1 + 1) zs 2) ∧ Kept w w') (by kernel_rfl) ⟨P.drew, U.drew, DH.drew, DN.drew, ⟨_, D1.drew⟩, ⟨_, D2.drew⟩, DB.out.drewN 1⟩ (fun hHeld => ?_)
    clear P U DH DN D1 D2 DB
    generalize W4.drew = WD at *
    (refine wpAnyH_take (i := 0) (v := _) rfl (by kernel_rfl) (by kernel_rfl) (by kernel_rfl) (fun _ _ _ h => h) (yieldsIf_load_mid (by rfl) 33 _ rfl _ _ rfl (ints [x, y]) _ (fun w' hSw => hSw.1.holds.range) Try.underlying33 rfl (hiP)) hHeld ?_; (try simp only [List.getElem_toArray, List.getElem_cons_zero, List.getElem_cons_succ, Act.put, List.setIfInBounds_toArray, List.set_cons_zero, List.set_cons_succ]))
    (refine wpAnyH_take (i := 1) (v := .func (Fn.func 63) #[] #[.pointer (some ⟨w.heap.size, 0, none⟩), .pointer (some ⟨w.heap.size + 1, 0, none⟩)]) rfl (by kernel_rfl) (by kernel_rfl) (by kernel_rfl) (fun _ _ _ h => h) (Or.inl ⟨by rfl, ?_⟩) hHeld ?_; (· (intro w' hSw; have q := hSw.2.1.cell 0 rfl; clear hSw; go_simp; try with_reducible rfl)); (try simp only [List.getElem_toArray, List.getElem_cons_zero, List.getElem_cons_succ, Act.put, List.setIfInBounds_toArray, List.set_cons_zero, List.set_cons_succ]))
    (refine wpAnyH_take (i := 2) (v := _) rfl (by kernel_rfl) (by kernel_rfl) (by kernel_rfl) (fun _ _ _ h => h) (yieldsIf_load_mid (by rfl) 33 _ rfl _ _ rfl (ints [x, y]) _ (fun w' hSw => hSw.1.holds.range) Try.underlying33 rfl (hiP)) hHeld ?_; (try simp only [List.getElem_toArray, List.getElem_cons_zero, List.getElem_cons_succ, Act.put, List.setIfInBounds_toArray, List.set_cons_zero, List.set_cons_succ]))
    (refine wpAnyH_ready (rs := [3]) (by kernel_rfl) (by simp) ?_; refine AllReadyH.cons (o := _) rfl (fun K hK => ?_) AllReadyH.nil; (simp only [List.getElem_toArray, List.getElem_cons_zero, List.getElem_cons_succ, Region.wanted, if_true]))
    go_simp
    refine (KA.out _ hHeld.2.2.1 hHeld.2.2.2.1).mono ?_
    rintro e w5 ⟨rfl, bq⟩
    dsimp only
    (try simp only [List.getElem_toArray, List.getElem_cons_zero, List.getElem_cons_succ, Act.put, List.setIfInBounds_toArray, List.set_cons_zero, List.set_cons_succ])
    refine hK.out _ _ ⟨hHeld.1.below bq, hHeld.2.1.below bq, hHeld.2.2.1.below bq, hHeld.2.2.2.1.below bq, ⟨_, hHeld.2.2.2.2.1.choose_spec.below bq⟩, ⟨_, hHeld.2.2.2.2.2.1.choose_spec.below bq⟩, hHeld.2.2.2.2.2.2.call bq⟩ (fun hHeld => ?_)
    clear hK K bq
    have G1 := hHeld.2.2.2.2.1.choose_spec
    have G2 := hHeld.2.2.2.2.2.1.choose_spec
    have S1 := And.intro (hHeld.1.putOther (b' := w.heap.size + 1 + 1) 0 (ints [x, y]) (by omega)) (And.intro (hHeld.2.1.putOther (q := w.heap.size + 1 + 1) 0 (ints [x, y]) (by omega)) (And.intro (hHeld.2.2.1.putOther (b' := w.heap.size + 1 + 1) 0 (ints [x, y]) (by omega)) (And.intro (hHeld.2.2.2.1.putOther (q := w.heap.size + 1 + 1) 0 (ints [x, y]) (by omega)) (And.intro (Has.ex2 (G1.putAll [x, y] rfl)) (And.intro (Has.ex2 (G2.putOther (b' := w.heap.size + 1 + 1) 0 (ints [x, y]) (by omega))) (hHeld.2.2.2.2.2.2.puts (b := w.heap.size + 1 + 1) (by omega) 0 (ints [x, y])))))))
    have F1 := G1.putAll [x, y] rfl
    have F2 := G2.putOther (b' := w.heap.size + 1 + 1) 0 (ints [x, y]) (by omega)
    (refine wpAnyH_ready (rs := [4]) (by kernel_rfl) (by simp) ?_; refine AllReadyH.cons (o := _) rfl (fun K hK => ?_) AllReadyH.nil; (simp only [List.getElem_toArray, List.getElem_cons_zero, List.getElem_cons_succ, Region.wanted, if_true]); refine wp_store_mid _ _ _ rfl _ _ (ints [x, y]).toArray rfl rfl (by exact G1.there) (by exact hi2) (all_oneCell_toArray (ints_one _)) ?_; (try simp only [List.getElem_toArray, List.getElem_cons_zero, List.getElem_cons_succ, Act.put, List.setIfInBounds_toArray, List.set_cons_zero, List.set_cons_succ, List.toList_toArray]); refine hK.out _ _ (S1) (fun hHeld => ?_); clear hK K)
    clear S1 G1 G2
    have KE := hHeld.2.2.2.2.2.2
    have S2 := And.intro (hHeld.1.putOther (b' := w.heap.size + 1 + 1 + 1) 0 (ints C) (by omega)) (And.intro (hHeld.2.1.putOther (q := w.heap.size + 1 + 1 + 1) 0 (ints C) (by omega)) (And.intro (hHeld.2.2.1.putOther (b' := w.heap.size + 1 + 1 + 1) 0 (ints C) (by omega)) (And.intro (hHeld.2.2.2.1.putOther (q := w.heap.size + 1 + 1 + 1) 0 (ints C) (by omega)) (And.intro (Has.ex2 (F1.putOther (b' := w.heap.size + 1 + 1 + 1) 0 (ints C) (by omega))) (And.intro (Has.ex2 (F2.putAll C flC)) (hHeld.2.2.2.2.2.2.puts (b := w.heap.size + 1 + 1 + 1) (by omega) 0 (ints C)))))))
    have T1 := F1.putOther (b' := w.heap.size + 1 + 1 + 1) 0 (ints C) (by omega)
    have T2 := F2.putAll C flC
    have KZ := KE.puts (b := w.heap.size + 1 + 1 + 1) (by omega) 0 (ints C)
    (refine wpAnyH_ready (rs := [5]) (by kernel_rfl) (by simp) ?_; refine AllReadyH.cons (o := _) rfl (fun K hK => ?_) AllReadyH.nil; (simp only [List.getElem_toArray, List.getElem_cons_zero, List.getElem_cons_succ, Region.wanted, if_true]); refine wp_store_mid _ _ _ rfl _ _ (ints C).toArray rfl rfl (by simpa [lC] using F2.there) (by simpa [lC] using hi2) (all_oneCell_toArray (ints_one _)) ?_; (try simp only [List.getElem_toArray, List.getElem_cons_zero, List.getElem_cons_succ, Act.put, List.setIfInBounds_toArray, List.set_cons_zero, List.set_cons_succ, List.toList_toArray]); refine hK.out _ _ (S2) (fun hHeld => ?_); clear hK K)
    clear S2 F1 F2 KE
    (refine wpAnyH_take (i := 6) (v := ?_) rfl (by kernel_rfl) (by kernel_rfl) (by kernel_rfl) (fun _ _ _ h => h) (Or.inl ⟨by rfl, ?_⟩) hHeld ?_; rotate_left; (· (intro w' hSw; go_simp; try with_reducible rfl)); (try simp only [List.getElem_toArray, List.getElem_cons_zero, List.getElem_cons_succ, Act.put, List.setIfInBounds_toArray, List.set_cons_zero, List.set_cons_succ]))
    refine wpAnyH_done (by kernel_rfl) ?_ _
    clear hHeld
    go_wp2_with fail
    exact bodyPost_ret (res_two rfl _ _ (w.heap.size + 1 + 1) (w.heap.size + 1 + 1 + 1) [x, y] C 2 _ (.bool true) rfl rfl rfl T1 T2 Try.underlying33 rfl (by kernel_rfl)) rfl ⟨by rw [EP.out, EC.out, EK.out], KZ⟩
  · have E := Lib.hid (show beP r n = z2 ∧ beC r n = z2 ∧ beOk r n = false from ⟨by unfold beP; rw [if_neg hok], by unfold beC; rw [if_neg hok], by simpa using hok⟩)
    have F1 := (Z1.putAll z2 rfl).putOther (b' := w.heap.size + 1 + 1 + 1) 0 (ints z2) (by omega)
    have F2 := (Z2.putOther (b' := w.heap.size + 1 + 1) 0 (ints z2) (by omega)).putAll z2 rfl
    have KZ := Lib.hid ((HB.out.puts (b := w.heap.size + 1 + 1) (by omega) 0 (ints z2)).puts (b := w.heap.size + 1 + 1 + 1) (by omega) 0 (ints z2))
    replace F1 := Lib.hid F1
    replace F2 := Lib.hid F2
    have CS : usefNA r = 0 ∨ (usefNA r ≠ 0 ∧ n < 0) ∨ (usefNA r ≠ 0 ∧ ¬ n < 0 ∧ 2 ≤ n) := by
      by_cases h1 : usefNA r = 0
      · exact .inl h1
      · by_cases h2 : n < 0
        · exact .inr (.inl ⟨h1, h2⟩)
        · by_cases h3 : 2 ≤ n
          · exact .inr (.inr ⟨h1, h2, h3⟩)
          · refine absurd ?_ hok
            unfold beOk
            rw [decide_eq_true (show 0 < usefNA r by omega), decide_eq_true (show 0 ≤ n ∧ n ≤ 1 by omega)]; rfl
    clear hok BG
    obtain ⟨M, hM⟩ : ∃ M, usefNA r = M := ⟨_, rfl⟩
    rw [hM] at CS ⊢
    clear hM N H HB R0 OWN N36
    rcases CS with h1 | ⟨h1, h2⟩ | ⟨h1, h2, h3⟩
    · subst h1
      go_wp2_with (first | (refine build_law rfl 33 rfl _ build2z ?_) | (refine store_at rfl 33 _ _ rfl _ _ rfl rfl ?_ 2 ?_ ?_ ?_ ?_; rotate_left; (· (repeat (first | (with_reducible assumption) | ((with_reducible refine Has.box _ _ ?_ ?_) <;> (first | assumption | decide)) | (with_reducible refine Has.alloc ?_ _) | ((with_reducible refine Has.putOther ?_ _ _ ?_); rotate_left; omega; skip) | ((with_reducible refine Has.below ?_ ?_); rotate_left; assumption)))); (· (first | assumption | rfl)); (· kernel_rfl)))
      exact bodyPost_ret (res_two rfl _ _ (w.heap.size + 1 + 1) (w.heap.size + 1 + 1 + 1) z2 z2 2 _ (.bool false) rfl rfl rfl F1.out F2.out Try.underlying33 rfl (by kernel_rfl)) rfl ⟨by rw [E.out.1, E.out.2.1, E.out.2.2], KZ.out⟩
    · have e0 : ((M : Int) == 0) = false := by simp; omega
      go_wp2_with (first | (refine build_law rfl 33 rfl _ build2z ?_) | (refine store_at rfl 33 _ _ rfl _ _ rfl rfl ?_ 2 ?_ ?_ ?_ ?_; rotate_left; (· (repeat (first | (with_reducible assumption) | ((with_reducible refine Has.box _ _ ?_ ?_) <;> (first | assumption | decide)) | (with_reducible refine Has.alloc ?_ _) | ((with_reducible refine Has.putOther ?_ _ _ ?_); rotate_left; omega; skip) | ((with_reducible refine Has.below ?_ ?_); rotate_left; assumption)))); (· (first | assumption | rfl)); (· kernel_rfl)))
      exact bodyPost_ret (res_two rfl _ _ (w.heap.size + 1 + 1) (w.heap.size + 1 + 1 + 1) z2 z2 2 _ (.bool false) rfl rfl rfl F1.out F2.out Try.underlying33 rfl (by kernel_rfl)) rfl ⟨by rw [E.out.1, E.out.2.1, E.out.2.2], KZ.out⟩
    · have e0 : ((M : Int) == 0) = false := by simp; omega
      go_wp2_with (first | (refine build_law rfl 33 rfl _ build2z ?_) | (refine store_at rfl 33 _ _ rfl _ _ rfl rfl ?_ 2 ?_ ?_ ?_ ?_; rotate_left; (· (repeat (first | (with_reducible assumption) | ((with_reducible refine Has.box _ _ ?_ ?_) <;> (first | assumption | decide)) | (with_reducible refine Has.alloc ?_ _) | ((with_reducible refine Has.putOther ?_ _ _ ?_); rotate_left; omega; skip) | ((with_reducible refine Has.below ?_ ?_); rotate_left; assumption)))); (· (first | assumption | rfl)); (· kernel_rfl)))
      exact bodyPost_ret (res_two rfl _ _ (w.heap.size + 1 + 1) (w.heap.size + 1 + 1 + 1) z2 z2 2 _ (.bool false) rfl rfl rfl F1.out F2.out Try.underlying33 rfl (by kernel_rfl)) rfl ⟨by rw [E.out.1, E.out.2.1, E.out.2.2], KZ.out⟩
end Go.Proofs.Ytemiljokdedidac.base
end

section
namespace Go.Proofs.Ytemiljokdedidac.base
open Go.ChangeShapes Go.WideShapes Go.ChangeAt Go.RowKit
set_option linter.unusedVariables false
set_option linter.unusedSimpArgs false

/-- The greatest chance among the first k. -/
def msK (r : List Int) (n : Int) (k : Nat) : List Int := if k = 0 then [-1, 1] else [(chN r n (bsJ (upC r n) k) : Int), (chD r n (bsJ (upC r n) k) : Int)]
theorem msK_len (r : List Int) (n : Int) (k : Nat) : (msK r n k).length = 2 := by unfold msK; split <;> rfl
theorem ms_step {r : List Int} {n : Int} {k M : Nat} (CH : ∀ k, k < M → chN r n k ≤ 720 ∧ 1 ≤ chD r n k ∧ chD r n k ≤ 30) (hk : k < M) :
    ∃ m0 m1 : Int, msK r n k = [m0, m1] ∧ IntKind.i64.wrap (m0 * (chD r n k : Int)) = m0 * (chD r n k : Int) ∧ IntKind.i64.wrap ((chN r n k : Int) * m1) = (chN r n k : Int) * m1 ∧
      (m0 * (chD r n k : Int) < (chN r n k : Int) * m1 → bsJ (upC r n) (k + 1) = k ∧ msK r n (k + 1) = [(chN r n k : Int), (chD r n k : Int)]) ∧
      (¬ m0 * (chD r n k : Int) < (chN r n k : Int) * m1 → bsJ (upC r n) (k + 1) = bsJ (upC r n) k ∧ msK r n (k + 1) = msK r n k) := by
  obtain ⟨a1, a2, a3⟩ := CH k hk
  by_cases h0 : k = 0
  · subst h0
    have e1 : bsJ (upC r n) (0 + 1) = 0 := bsJ_one _
    refine ⟨-1, 1, rfl, IntWalk.i64_in _ (by omega), IntWalk.i64_in _ (by omega), fun _ => ⟨e1, ?_⟩, fun h => absurd ?_ h⟩
    · unfold msK
      rw [if_neg (by omega), e1]
    · omega
  · have hJ := bsJ_lt (upC r n) k (by omega)
    obtain ⟨J, eJ⟩ : ∃ J, bsJ (upC r n) k = J := ⟨_, rfl⟩
    have st : bsJ (upC r n) (k + 1) = if upC r n J k = true then k else J := by rw [bsJ, eJ]
    rw [eJ] at hJ
    obtain ⟨b1, b2, b3⟩ := CH J (by omega)
    have p1 : chN r n J * chD r n k ≤ 720 * 30 := Nat.mul_le_mul b1 a3
    have p2 : chN r n k * chD r n J ≤ 720 * 30 := Nat.mul_le_mul a1 b3
    have eM : msK r n k = [(chN r n J : Int), (chD r n J : Int)] := by unfold msK; rw [if_neg h0, eJ]
    refine ⟨(chN r n J : Int), (chD r n J : Int), eM, ?_, ?_, fun h => ?_, fun h => ?_⟩
    · rw [← Int.natCast_mul]; exact IntWalk.i64_in _ (by omega)
    · rw [← Int.natCast_mul]; exact IntWalk.i64_in _ (by omega)
    · rw [← Int.natCast_mul, ← Int.natCast_mul] at h
      have hu : upC r n J k = true := decide_eq_true (Int.ofNat_lt.1 h)
      rw [hu, if_pos rfl] at st
      refine ⟨st, ?_⟩
      unfold msK
      rw [if_neg (by omega), st]
    · rw [← Int.natCast_mul, ← Int.natCast_mul] at h
      have hu : upC r n J k = false := decide_eq_false (fun h2 => h (Int.ofNat_lt.2 h2))
      rw [hu, if_neg (by simp)] at st
      refine ⟨st.trans eJ.symm, ?_⟩
      rw [eM]
      unfold msK
      rw [if_neg (by omega), st]

set_option maxHeartbeats 6400000 in
set_option maxRecDepth 100000 in
theorem specBest (r : List Int) (n : Int) (w : World) (h24 : r.length = 24) :
    Calls Try.prog 26 #[row r, .int .i64 n] w fun e w' => e = .returned (.tuple #[.agg (ints (beP r n)).toArray, .agg (ints (beC r n)).toArray, .bool (beOk r n)]) ∧ Kept w w' := by
  have H := ((Has.box w 42 h24 (by omega)).alloc (.cells #[.int .i64 0, .int .i64 0] 33)).alloc (.cells #[.int .i64 0, .int .i64 0] 33)
  have HB := Lib.hid ((((kept_refl w).alloc (.cells (ints r).toArray 42)).alloc (.cells #[.int .i64 0, .int .i64 0] 33)).alloc (.cells #[.int .i64 0, .int .i64 0] 33))
  have Z1 := ((Has.zero2v (w.alloc (.cells (ints r).toArray 42)) 33).at (size1 _ _)).alloc (.cells #[.int .i64 0, .int .i64 0] 33)
  have Z2 := (Has.zero2v ((w.alloc (.cells (ints r).toArray 42)).alloc (.cells #[.int .i64 0, .int .i64 0] 33)) 33).at (c := w.heap.size + 1 + 1) (by simp)
  have KR := Lib.hid (fun W => l2Rack_any r W h24)
  have FAIL := Lib.hid (fun h => (show beP r n = z2 ∧ beC r n = z2 ∧ beOk r n = false from ⟨by unfold beP; rw [if_neg h], by unfold beC; rw [if_neg h], by simpa using h⟩))
  have C24 := Lib.hid h24
  have hz2 := Z2.lt
  rw [row_ints]
  go_enter Try.func26, Try.ntmps26
  go_upto_region 1 with fail
  generalize (((w.alloc (.cells (ints r).toArray 42)).alloc (.cells #[.int .i64 0, .int .i64 0] 33)).alloc (.cells #[.int .i64 0, .int .i64 0] 33)) = W0 at *
  go_wp2_with (refine load_has rfl 42 _ rfl _ rfl ?_ 24 ?_ _ Try.underlying42 rfl ?_ ?_; rotate_left; (· (repeat (first | (with_reducible assumption) | ((with_reducible refine Has.box _ _ ?_ ?_) <;> (first | assumption | decide)) | (with_reducible refine Has.alloc ?_ _) | ((with_reducible refine Has.putOther ?_ _ _ ?_); rotate_left; omega; skip) | ((with_reducible refine Has.below ?_ ?_); rotate_left; assumption)))); (· kernel_rfl))
  refine (KR.out _).mono ?_
  rintro e w1 ⟨rfl, b1⟩
  replace H := H.below b1
  replace Z1 := Z1.below b1
  replace Z2 := Z2.below b1
  replace HB := Lib.hid (HB.out.call b1)
  clear b1 hz2
  cases hv : vR r with
  | false =>
    have E := Lib.hid (FAIL.out (by unfold beOk usefNA; rw [hv]; simp))
    have hz2 := Z2.lt
    have F1 := Lib.hid ((Z1.putAll z2 rfl).putOther (b' := w.heap.size + 1 + 1) 0 (ints z2) (by omega))
    have F2 := Lib.hid ((Z2.putOther (b' := w.heap.size + 1) 0 (ints z2) (by omega)).putAll z2 rfl)
    have KZ := Lib.hid ((HB.out.puts (b := w.heap.size + 1) (by omega) 0 (ints z2)).puts (b := w.heap.size + 1 + 1) (by omega) 0 (ints z2))
    clear hv
    go_wp2_with (first | (refine build_law rfl 33 rfl _ build2z ?_) | (refine store_at rfl 33 _ _ rfl _ _ rfl rfl ?_ 2 ?_ ?_ ?_ ?_; rotate_left; (· (repeat (first | (with_reducible assumption) | ((with_reducible refine Has.box _ _ ?_ ?_) <;> (first | assumption | decide)) | (with_reducible refine Has.alloc ?_ _) | ((with_reducible refine Has.putOther ?_ _ _ ?_); rotate_left; omega; skip) | ((with_reducible refine Has.below ?_ ?_); rotate_left; assumption)))); (· (first | assumption | rfl)); (· kernel_rfl)))
    exact bodyPost_ret (res_two rfl _ _ (w.heap.size + 1) (w.heap.size + 1 + 1) z2 z2 2 _ (.bool false) rfl rfl rfl F1.out F2.out Try.underlying33 rfl (by kernel_rfl)) rfl ⟨by rw [E.out.1, E.out.2.1, E.out.2.2], KZ.out⟩
  | true =>
  have G : GR r := ⟨h24, hv⟩
  have HG := Lib.hid G
  have CV := Lib.hid hv
  have KV := Lib.hid (fun V => moves_any r V G)
  have UN := Lib.hid (fun k hk => up_nat G k hk)
  have NGOOD := Lib.hid (fun k hk => nx_good G k hk)
  clear hv G
  go_wp2_with fail
  refine (l1In_any n 0 1 _).mono ?_
  rintro e w2 ⟨rfl, rfl⟩
  by_cases hc : 0 ≤ n ∧ n ≤ 1
  rotate_left
  · have E := Lib.hid (FAIL.out (by unfold beOk; rw [decide_eq_false hc]; simp))
    have hz2 := Z2.lt
    have F1 := Lib.hid ((Z1.putAll z2 rfl).putOther (b' := w.heap.size + 1 + 1) 0 (ints z2) (by omega))
    have F2 := Lib.hid ((Z2.putOther (b' := w.heap.size + 1) 0 (ints z2) (by omega)).putAll z2 rfl)
    have KZ := Lib.hid ((HB.out.puts (b := w.heap.size + 1) (by omega) 0 (ints z2)).puts (b := w.heap.size + 1 + 1) (by omega) 0 (ints z2))
    rw [decide_eq_false hc]
    clear hc
    go_wp2_with (first | (refine build_law rfl 33 rfl _ build2z ?_) | (refine store_at rfl 33 _ _ rfl _ _ rfl rfl ?_ 2 ?_ ?_ ?_ ?_; rotate_left; (· (repeat (first | (with_reducible assumption) | ((with_reducible refine Has.box _ _ ?_ ?_) <;> (first | assumption | decide)) | (with_reducible refine Has.alloc ?_ _) | ((with_reducible refine Has.putOther ?_ _ _ ?_); rotate_left; omega; skip) | ((with_reducible refine Has.below ?_ ?_); rotate_left; assumption)))); (· (first | assumption | rfl)); (· kernel_rfl)))
    exact bodyPost_ret (res_two rfl _ _ (w.heap.size + 1) (w.heap.size + 1 + 1) z2 z2 2 _ (.bool false) rfl rfl rfl F1.out F2.out Try.underlying33 rfl (by kernel_rfl)) rfl ⟨by rw [E.out.1, E.out.2.1, E.out.2.2], KZ.out⟩
  rw [decide_eq_true hc]
  have HC01 := Lib.hid hc
  clear hc
  go_wp2_with (refine load_has rfl 42 _ rfl _ rfl ?_ 24 ?_ _ Try.underlying42 rfl ?_ ?_; rotate_left; (· (repeat (first | (with_reducible assumption) | ((with_reducible refine Has.box _ _ ?_ ?_) <;> (first | assumption | decide)) | (with_reducible refine Has.alloc ?_ _) | ((with_reducible refine Has.putOther ?_ _ _ ?_); rotate_left; omega; skip) | ((with_reducible refine Has.below ?_ ?_); rotate_left; assumption)))); (· kernel_rfl))
  refine (KV.out _).mono ?_
  rintro e w3 ⟨v, rfl, q3, b3⟩
  obtain ⟨va, vc, rfl⟩ := q3.rw.shape
  replace H := H.below b3
  replace Z1 := Z1.below b3
  replace Z2 := Z2.below b3
  replace HB := Lib.hid (HB.out.call b3)
  clear b3 q3
  by_cases hz : usefNA r = 0
  · have E := Lib.hid (FAIL.out (by unfold beOk; rw [hz]; simp))
    have hz2 := Z2.lt
    have F1 := Lib.hid ((Z1.putAll z2 rfl).putOther (b' := w.heap.size + 1 + 1) 0 (ints z2) (by omega))
    have F2 := Lib.hid ((Z2.putOther (b' := w.heap.size + 1) 0 (ints z2) (by omega)).putAll z2 rfl)
    have KZ := Lib.hid ((HB.out.puts (b := w.heap.size + 1) (by omega) 0 (ints z2)).puts (b := w.heap.size + 1 + 1) (by omega) 0 (ints z2))
    rw [hz]
    clear hz
    go_wp2_with (first | (refine build_law rfl 33 rfl _ build2z ?_) | (refine store_at rfl 33 _ _ rfl _ _ rfl rfl ?_ 2 ?_ ?_ ?_ ?_; rotate_left; (· (repeat (first | (with_reducible assumption) | ((with_reducible refine Has.box _ _ ?_ ?_) <;> (first | assumption | decide)) | (with_reducible refine Has.alloc ?_ _) | ((with_reducible refine Has.putOther ?_ _ _ ?_); rotate_left; omega; skip) | ((with_reducible refine Has.below ?_ ?_); rotate_left; assumption)))); (· (first | assumption | rfl)); (· kernel_rfl)))
    exact bodyPost_ret (res_two rfl _ _ (w.heap.size + 1) (w.heap.size + 1 + 1) z2 z2 2 _ (.bool false) rfl rfl rfl F1.out F2.out Try.underlying33 rfl (by kernel_rfl)) rfl ⟨by rw [E.out.1, E.out.2.1, E.out.2.2], KZ.out⟩
  have EOK := Lib.hid (show beOk r n = true by unfold beOk; rw [decide_eq_true (show 0 < usefNA r by omega), decide_eq_true HC01.out]; rfl)
  have EP := Lib.hid (show beP r n = pr (usefFA r) (bsJ (upC r n) (usefNA r)) by unfold beP beJ; rw [if_pos EOK.out])
  have EC : Hid (beC r n = msK r n (usefNA r)) := Lib.hid (by
    unfold beC beJ msK
    rw [if_pos EOK.out, if_neg hz]
    exact (ch_is HG.out HC01.out (bsJ_lt _ _ (by omega))).1)
  have CHX := Lib.hid (fun k hk => ch_is (r := r) (n := n) (k := k) HG.out HC01.out hk)
  have N36 := usefNA_le r
  have FL := Lib.hid (usefFA_len (ns := r))
  obtain ⟨N, rfl⟩ : ∃ N : Nat, n = (N : Int) := ⟨n.toNat, by have := HC01.out; omega⟩
  have hN2 : N ≤ 1 := by have := HC01.out; omega
  have KMEAN := Lib.hid (fun x (gx : GR x) V => mean_all 1 gSort (fun x _ => gSort_le x) (fun x gx U => worth1_any x U gx) N (by omega) x gx V)
  obtain ⟨M, hM⟩ : ∃ M, usefNA r = M := ⟨_, rfl⟩
  rw [hM] at EP EC CHX N36 hz FL ⊢
  have HM := Lib.hid hM
  have e0 : ((M : Int) == 0) = false := by simp; omega
  have Mp : 0 < M := by omega
  clear hM hz
  go_wp2_with (refine load_has rfl 42 _ rfl _ rfl ?_ 24 ?_ _ Try.underlying42 rfl ?_ ?_; rotate_left; (· (repeat (first | (with_reducible assumption) | ((with_reducible refine Has.box _ _ ?_ ?_) <;> (first | assumption | decide)) | (with_reducible refine Has.alloc ?_ _) | ((with_reducible refine Has.putOther ?_ _ _ ?_); rotate_left; omega; skip) | ((with_reducible refine Has.below ?_ ?_); rotate_left; assumption)))); (· kernel_rfl))
  refine (KV.out _).mono ?_
  rintro e w4 ⟨v, rfl, q4, b4⟩
  rw [HM.out] at q4
  obtain ⟨va4, vc4, rfl⟩ := q4.rw.shape
  have R0 := Lib.hid ((q4.mono (b' := 0) (Nat.zero_le _)).rw)
  obtain ⟨gg, gcap, he, hgb, hgl⟩ := q4.rw.form Mp
  injection he with e1 _ e3
  subst e1
  subst e3
  have hz2 := Z2.lt
  have hs4 := b4.size
  replace H := H.below b4
  replace Z1 := Z1.below b4
  replace Z2 := Z2.below b4
  replace HB := Lib.hid (HB.out.call b4)
  clear b4 q4 e0
  have l0 := pr_len (usefFA r) 0 M FL.out Mp
  have RG0 : w4.rangeAt gg 0 (ints (pr (usefFA r) 0)) := R0.out.range 0 Mp
  obtain ⟨P0, hP0⟩ : ∃ P, pr (usefFA r) 0 = P := ⟨_, rfl⟩
  rw [hP0] at l0 RG0
  have HP0 := Lib.hid hP0
  have hi0 : (Try.prog.info? 33).map (·.size) = some (ints P0).length := by rw [ints_len, l0]; kernel_rfl
  have OWN := Lib.hid (fun hn k hk => (R0.out.ownlt hn k hk).2)
  have ZB1 := (Has.zero2v w4 33).alloc (.cells #[.int .i64 0, .int .i64 0] 33)
  have ZB2 := (Has.zero2v (w4.alloc (.cells #[.int .i64 0, .int .i64 0] 33)) 33).at (size1 _ _)
  have BS := (ZB1.putAll P0 l0).putOther (b' := w4.heap.size + 1) 0 (ints [-1, 1]) (by omega)
  have MS := (ZB2.putOther (b' := w4.heap.size) 0 (ints P0) (by omega)).putAll [-1, 1] rfl
  replace H := (((H.alloc (.cells #[.int .i64 0, .int .i64 0] 33)).alloc (.cells #[.int .i64 0, .int .i64 0] 33)).putOther (b' := w4.heap.size) 0 (ints P0) (by omega)).putOther (b' := w4.heap.size + 1) 0 (ints [-1, 1]) (by omega)
  replace Z1 := (((Z1.alloc (.cells #[.int .i64 0, .int .i64 0] 33)).alloc (.cells #[.int .i64 0, .int .i64 0] 33)).putOther (b' := w4.heap.size) 0 (ints P0) (by omega)).putOther (b' := w4.heap.size + 1) 0 (ints [-1, 1]) (by omega)
  replace Z2 := (((Z2.alloc (.cells #[.int .i64 0, .int .i64 0] 33)).alloc (.cells #[.int .i64 0, .int .i64 0] 33)).putOther (b' := w4.heap.size) 0 (ints P0) (by omega)).putOther (b' := w4.heap.size + 1) 0 (ints [-1, 1]) (by omega)
  replace R0 := Lib.hid ((((R0.out.alloc (.cells #[.int .i64 0, .int .i64 0] 33)).alloc (.cells #[.int .i64 0, .int .i64 0] 33)).puts w4.heap.size 0 (ints P0) (fun hi e => by have := OWN.out hi _ e; omega)).puts (w4.heap.size + 1) 0 (ints [-1, 1]) (fun hi e => by have := OWN.out hi _ e; omega))
  replace HB := Lib.hid ((((HB.out.alloc (.cells #[.int .i64 0, .int .i64 0] 33)).alloc (.cells #[.int .i64 0, .int .i64 0] 33)).puts (b := w4.heap.size) (by omega) 0 (ints P0)).puts (b := w4.heap.size + 1) (by omega) 0 (ints [-1, 1]))
  clear hP0 hgb
  go_upto_region 5 with (first | (refine wpList_load_mid rfl 33 _ rfl gg 0 rfl (ints P0) _ RG0 Try.underlying33 rfl hi0 ?_) | (refine store_at rfl 33 _ _ rfl _ [(-1 : Int), 1] rfl rfl ?_ 2 ?_ ?_ ?_ ?_; rotate_left; (· (repeat (first | (with_reducible assumption) | ((with_reducible refine Has.box _ _ ?_ ?_) <;> (first | assumption | decide)) | (with_reducible refine Has.alloc ?_ _) | ((with_reducible refine Has.putOther ?_ _ _ ?_); rotate_left; omega; skip) | ((with_reducible refine Has.below ?_ ?_); rotate_left; assumption)))); (· (first | assumption | rfl)); (· kernel_rfl)) | (refine store_at rfl 33 _ _ rfl _ _ rfl rfl ?_ 2 ?_ ?_ ?_ ?_; rotate_left; (· (repeat (first | (with_reducible assumption) | ((with_reducible refine Has.box _ _ ?_ ?_) <;> (first | assumption | decide)) | (with_reducible refine Has.alloc ?_ _) | ((with_reducible refine Has.putOther ?_ _ _ ?_); rotate_left; omega; skip) | ((with_reducible refine Has.below ?_ ?_); rotate_left; assumption)))); (· (first | assumption | rfl)); (· kernel_rfl)))
  obtain ⟨bb, hbb⟩ : ∃ bb, w4.heap.size = bb := ⟨_, rfl⟩
  rw [hbb] at BS MS H Z1 Z2 R0 HB OWN hs4 hgl ⊢
  generalize ((((w4.alloc (.cells #[.int .i64 0, .int .i64 0] 33)).alloc (.cells #[.int .i64 0, .int .i64 0] 33)).setCells bb 0 (ints P0)).setCells (bb + 1) 0 (ints [-1, 1])) = W5 at *
  rw [← HP0.out] at BS
  clear ZB1 ZB2 RG0 hi0 hbb l0 HP0
  go_wp2_with fail
  go_loopw [10] (fun z wr => ∃ k : Nat, k ≤ M ∧ z = .int .i64 k ∧ Has wr w.heap.size r 24 ∧ Has wr (w.heap.size + 1) z2 2 ∧ Has wr (w.heap.size + 1 + 1) z2 2 ∧ Has wr bb (pr (usefFA r) (bsJ (upC r (N : Int)) k)) 2 ∧ Has wr (bb + 1) (msK r (N : Int) k) 2 ∧ Hid (Rw wr 0 (.slice (some ⟨gg, 0, none⟩) M vc4) M (usefFA r)) ∧ Hid (Kept w wr)) (fun z _ => M - (intOf z).toNat)
  case atStart => exact ⟨0, by omega, rfl, H, Z1, Z2, BS, MS, R0, HB⟩
  case round =>
    clear H Z1 Z2 BS MS R0 HB
    obtain ⟨k, hk, rfl, G1, GZ1, GZ2, GS, GM, GR', GB⟩ := hrel
    by_cases hkN : k < M
    · have hki : (k : Int) < (M : Int) := by omega
      have hk0 : (0 : Int) ≤ (k : Int) := by omega
      obtain ⟨p, q, p6, q6, hne, hcn, hx, hy, hnx⟩ := UN.out k (by rw [HM.out]; exact hkN)
      have gx := NGOOD.out k (by rw [HM.out]; exact hkN)
      have C0 : Hid (∀ w', Kept wr w' → w'.cell? ⟨gg, k * 2, none⟩ = some (.int .i64 (p : Int))) := Lib.hid (fun w' hw => (GR'.out.below hw).cellX (by omega) hx)
      have C1 : Hid (∀ w', Kept wr w' → w'.cell? ⟨gg, k * 2 + 1, none⟩ = some (.int .i64 (q : Int))) := Lib.hid (fun w' hw => (GR'.out.below hw).cellX (by omega) hy)
      have KI := Lib.hid (fun V => KMEAN.out (nxR r k) gx V)
      have EPK : frac (numP N gSort (nxR r k)) (denP N (nxR r k)) = [(chN r (N : Int) k : Int), (chD r (N : Int) k : Int)] := by unfold chN chD; rw [Int.toNat_natCast]; rfl
      rw [EPK] at KI
      clear EPK
      obtain ⟨m0, m1, eM, wm1, wm2, YES, NO⟩ := ms_step (r := r) (n := (N : Int)) (k := k) (M := M) (fun k hk => (CHX.out k hk).2) hkN
      rw [eM] at GM
      have lk := pr_len (usefFA r) k M FL.out hkN
      have hbk := bsJ_le (upC r (N : Int)) k
      have lb := pr_len (usefFA r) (bsJ (upC r (N : Int)) k) M FL.out (by omega)
      have RGA := Lib.hid (fun w' (hw : Kept wr w') => (GR'.out.below hw).range k hkN)
      obtain ⟨A, hA⟩ : ∃ A, pr (usefFA r) k = A := ⟨_, rfl⟩
      rw [hA] at lk RGA
      have HA := Lib.hid hA
      have HNO := Lib.hid NO
      have HYES := Lib.hid YES
      have HEM := Lib.hid eM
      clear NO YES eM hA hbk
      generalize chN r (N : Int) k = c0 at *
      generalize chD r (N : Int) k = c1 at *
      obtain ⟨X, hX⟩ : ∃ X, m0 * (c1 : Int) = X := ⟨_, rfl⟩
      obtain ⟨Y, hY⟩ : ∃ Y, (c0 : Int) * m1 = Y := ⟨_, rfl⟩
      replace wm1 := wm1.trans hX
      replace wm2 := wm2.trans hY
      rw [hX, hY] at HYES HNO
      have R24 := gx.1
      have HNE := Lib.hid hne
      have HC := Lib.hid hcn
      rw [hnx] at KI R24
      obtain ⟨R, hR⟩ : ∃ R, pourT r p q = R := ⟨_, rfl⟩
      rw [hR] at R24 KI
      have HR := Lib.hid hR
      have l2 : (ints R).length = 24 := by rw [ints_len]; exact R24
      have hi0 : (Try.prog.info? 42).map (·.size) = some 24 := by kernel_rfl
      have hi1 : (Try.prog.info? 42).map (·.size) = some (ints r).length := by rw [ints_len, C24.out]; kernel_rfl
      have hiA : (Try.prog.info? 33).map (·.size) = some (ints A).length := by rw [ints_len, lk]; kernel_rfl
      have hgs := GS.lt
      have hgm := GM.lt
      clear hx hy hnx hne hcn hR gx hX hY
      go_wp2_with fail
      refine wp_region_held_drew (S := fun w' => Kept wr w') (by kernel_rfl) ?_ (fun hHeld => ?_)
      · exact (kept_refl wr).drewN 1
      (refine wpAnyH_take (i := 1) (v := ?_) rfl (by kernel_rfl) (by kernel_rfl) (by kernel_rfl) (fun _ _ _ h => h) (Or.inl ⟨by rfl, ?_⟩) hHeld ?_; rotate_left; (· (intro w' hSw; go_simp; try with_reducible rfl)); (try simp only [List.getElem_toArray, List.getElem_cons_zero, List.getElem_cons_succ, Act.put, List.setIfInBounds_toArray, List.set_cons_zero, List.set_cons_succ])); (refine wpAnyH_take (i := 2) (v := ?_) rfl (by kernel_rfl) (by kernel_rfl) (by kernel_rfl) (fun _ _ _ h => h) (Or.inl ⟨by rfl, ?_⟩) hHeld ?_; rotate_left; (· (intro w' hSw; go_simp; try with_reducible rfl)); (try simp only [List.getElem_toArray, List.getElem_cons_zero, List.getElem_cons_succ, Act.put, List.setIfInBounds_toArray, List.set_cons_zero, List.set_cons_succ])); (refine wpAnyH_take (i := 3) (v := ?_) rfl (by kernel_rfl) (by kernel_rfl) (by kernel_rfl) (fun _ _ _ h => h) (Or.inl ⟨by rfl, ?_⟩) hHeld ?_; rotate_left; (· (intro w' hSw; go_simp; try with_reducible rfl)); (try simp only [List.getElem_toArray, List.getElem_cons_zero, List.getElem_cons_succ, Act.put, List.setIfInBounds_toArray, List.set_cons_zero, List.set_cons_succ])); (refine wpAnyH_take (i := 4) (v := ?_) rfl (by kernel_rfl) (by kernel_rfl) (by kernel_rfl) (fun _ _ _ h => h) (Or.inl ⟨by rfl, ?_⟩) hHeld ?_; rotate_left; (· (intro w' hSw; go_simp; try with_reducible rfl)); (try simp only [List.getElem_toArray, List.getElem_cons_zero, List.getElem_cons_succ, Act.put, List.setIfInBounds_toArray, List.set_cons_zero, List.set_cons_succ])); (refine wpAnyH_take (i := 6) (v := ?_) rfl (by kernel_rfl) (by kernel_rfl) (by kernel_rfl) (fun _ _ _ h => h) (Or.inl ⟨by rfl, ?_⟩) hHeld ?_; rotate_left; (· (intro w' hSw; go_simp; try with_reducible rfl)); (try simp only [List.getElem_toArray, List.getElem_cons_zero, List.getElem_cons_succ, Act.put, List.setIfInBounds_toArray, List.set_cons_zero, List.set_cons_succ])); (refine wpAnyH_take (i := 7) (v := ?_) rfl (by kernel_rfl) (by kernel_rfl) (by kernel_rfl) (fun _ _ _ h => h) (Or.inl ⟨by rfl, ?_⟩) hHeld ?_; rotate_left; (· (intro w' hSw; go_simp; try with_reducible rfl)); (try simp only [List.getElem_toArray, List.getElem_cons_zero, List.getElem_cons_succ, Act.put, List.setIfInBounds_toArray, List.set_cons_zero, List.set_cons_succ])); (refine wpAnyH_take (i := 8) (v := ?_) rfl (by kernel_rfl) (by kernel_rfl) (by kernel_rfl) (fun _ _ _ h => h) (Or.inl ⟨by rfl, ?_⟩) hHeld ?_; rotate_left; (· (intro w' hSw; go_simp; try with_reducible rfl)); (try simp only [List.getElem_toArray, List.getElem_cons_zero, List.getElem_cons_succ, Act.put, List.setIfInBounds_toArray, List.set_cons_zero, List.set_cons_succ])); (refine wpAnyH_take (i := 9) (v := ?_) rfl (by kernel_rfl) (by kernel_rfl) (by kernel_rfl) (fun _ _ _ h => h) (Or.inl ⟨by rfl, ?_⟩) hHeld ?_; rotate_left; (· (intro w' hSw; go_simp; try with_reducible rfl)); (try simp only [List.getElem_toArray, List.getElem_cons_zero, List.getElem_cons_succ, Act.put, List.setIfInBounds_toArray, List.set_cons_zero, List.set_cons_succ]))
      (refine wpAnyH_take (i := 0) (v := _) rfl (by kernel_rfl) (by kernel_rfl) (by kernel_rfl) (fun _ _ _ h => h) (yieldsIf_load_mid (by rfl) 42 _ rfl _ _ rfl (ints r) _ (fun w' hSw => (G1.below hSw).holds.range) Try.underlying42 rfl (hi1)) hHeld ?_; (try simp only [List.getElem_toArray, List.getElem_cons_zero, List.getElem_cons_succ, Act.put, List.setIfInBounds_toArray, List.set_cons_zero, List.set_cons_succ]))
      refine wpAnyH_take (i := 5) (v := .int .i64 (p : Int)) rfl (by kernel_rfl) (by kernel_rfl) (by kernel_rfl) (fun _ _ _ h => h) (Or.inl ⟨by rfl, ?_⟩) hHeld ?_
      · intro w' hSw
        have cc := C0.out w' hSw
        go_simp
      (try simp only [List.getElem_toArray, List.getElem_cons_zero, List.getElem_cons_succ, Act.put, List.setIfInBounds_toArray, List.set_cons_zero, List.set_cons_succ])
      refine wpAnyH_take (i := 10) (v := .int .i64 (q : Int)) rfl (by kernel_rfl) (by kernel_rfl) (by kernel_rfl) (fun _ _ _ h => h) (Or.inl ⟨by rfl, ?_⟩) hHeld ?_
      · intro w' hSw
        have cc := C1.out w' hSw
        go_simp
      (try simp only [List.getElem_toArray, List.getElem_cons_zero, List.getElem_cons_succ, Act.put, List.setIfInBounds_toArray, List.set_cons_zero, List.set_cons_succ])
      refine wpAnyH_ready (rs := [11, 15]) (by kernel_rfl) (by simp) ?_
      refine AllReadyH.cons (o := _) rfl (fun K hK => ?callFirst) (AllReadyH.cons (o := _) rfl (fun K hK => ?makeFirst) AllReadyH.nil)
      case' callFirst =>
        (simp only [List.getElem_toArray, List.getElem_cons_zero, List.getElem_cons_succ, Region.wanted, if_true])
        go_simp
        refine (l2Pour_any r p q _ C24.out CV.out p6 q6 HNE.out HC.out).mono ?_
        rintro e wp2 ⟨rfl, bp2⟩
        rw [HR.out]
        dsimp only
        (try simp only [List.getElem_toArray, List.getElem_cons_zero, List.getElem_cons_succ, Act.put, List.setIfInBounds_toArray, List.set_cons_zero, List.set_cons_succ])
        have KW := Kept.call hHeld bp2
        refine hK.out _ _ KW (fun hHeld => ?_)
        clear hK K bp2
        (refine wpAnyH_take (i := 12) (v := ?_) rfl (by kernel_rfl) (by kernel_rfl) (by kernel_rfl) (fun _ _ _ h => h) (Or.inl ⟨by rfl, ?_⟩) hHeld ?_; rotate_left; (· (intro w' hSw; go_simp; try with_reducible rfl)); (try simp only [List.getElem_toArray, List.getElem_cons_zero, List.getElem_cons_succ, Act.put, List.setIfInBounds_toArray, List.set_cons_zero, List.set_cons_succ])); (refine wpAnyH_take (i := 13) (v := ?_) rfl (by kernel_rfl) (by kernel_rfl) (by kernel_rfl) (fun _ _ _ h => h) (Or.inl ⟨by rfl, ?_⟩) hHeld ?_; rotate_left; (· (intro w' hSw; go_simp; try with_reducible rfl)); (try simp only [List.getElem_toArray, List.getElem_cons_zero, List.getElem_cons_succ, Act.put, List.setIfInBounds_toArray, List.set_cons_zero, List.set_cons_succ])); (refine wpAnyH_take (i := 14) (v := ?_) rfl (by kernel_rfl) (by kernel_rfl) (by kernel_rfl) (fun _ _ _ h => h) (Or.inl ⟨by rfl, ?_⟩) hHeld ?_; rotate_left; (· (intro w' hSw; go_simp; try with_reducible rfl)); (try simp only [List.getElem_toArray, List.getElem_cons_zero, List.getElem_cons_succ, Act.put, List.setIfInBounds_toArray, List.set_cons_zero, List.set_cons_succ]))
        (refine wpAnyH_ready (rs := [15]) (by kernel_rfl) (by simp) ?_; refine AllReadyH.cons (o := _) rfl (fun K hK => ?_) AllReadyH.nil; (simp only [List.getElem_toArray, List.getElem_cons_zero, List.getElem_cons_succ, Region.wanted, if_true]))
        go_simp
        have F9 := Has.zero24 wp2 42
        have h9 := KW.size
        replace KW := KW.alloc (.cells #[.int .i64 0, .int .i64 0, .int .i64 0, .int .i64 0, .int .i64 0, .int .i64 0, .int .i64 0, .int .i64 0, .int .i64 0, .int .i64 0, .int .i64 0, .int .i64 0, .int .i64 0, .int .i64 0, .int .i64 0, .int .i64 0, .int .i64 0, .int .i64 0, .int .i64 0, .int .i64 0, .int .i64 0, .int .i64 0, .int .i64 0, .int .i64 0] 42)
        refine hK.out _ _ KW (fun hHeld => ?_)
        clear hK K
        generalize wp2.alloc (.cells #[.int .i64 0, .int .i64 0, .int .i64 0, .int .i64 0, .int .i64 0, .int .i64 0, .int .i64 0, .int .i64 0, .int .i64 0, .int .i64 0, .int .i64 0, .int .i64 0, .int .i64 0, .int .i64 0, .int .i64 0, .int .i64 0, .int .i64 0, .int .i64 0, .int .i64 0, .int .i64 0, .int .i64 0, .int .i64 0, .int .i64 0, .int .i64 0] 42) = wp3 at *
        generalize wp2.heap.size = b9 at *
      case' makeFirst =>
        (simp only [List.getElem_toArray, List.getElem_cons_zero, List.getElem_cons_succ, Region.wanted, if_true])
        go_simp
        have F9 : Has _ wr.heap.size z24 24 := Has.zero24 wr.drew 42
        have KW := Kept.alloc hHeld (.cells #[.int .i64 0, .int .i64 0, .int .i64 0, .int .i64 0, .int .i64 0, .int .i64 0, .int .i64 0, .int .i64 0, .int .i64 0, .int .i64 0, .int .i64 0, .int .i64 0, .int .i64 0, .int .i64 0, .int .i64 0, .int .i64 0, .int .i64 0, .int .i64 0, .int .i64 0, .int .i64 0, .int .i64 0, .int .i64 0, .int .i64 0, .int .i64 0] 42)
        obtain ⟨b9, hb9⟩ : ∃ b : Nat, b = wr.heap.size := ⟨_, rfl⟩
        have h9 : wr.heap.size ≤ b9 := by omega
        rw [← hb9] at F9
        refine hK.out _ _ KW (fun hHeld => ?_)
        clear hK K
        (refine wpAnyH_ready (rs := [11]) (by kernel_rfl) (by simp) ?_; refine AllReadyH.cons (o := _) rfl (fun K hK => ?_) AllReadyH.nil; (simp only [List.getElem_toArray, List.getElem_cons_zero, List.getElem_cons_succ, Region.wanted, if_true]))
        go_simp
        refine (l2Pour_any r p q _ C24.out CV.out p6 q6 HNE.out HC.out).mono ?_
        rintro e wp3 ⟨rfl, bp2⟩
        rw [HR.out]
        dsimp only
        (try simp only [List.getElem_toArray, List.getElem_cons_zero, List.getElem_cons_succ, Act.put, List.setIfInBounds_toArray, List.set_cons_zero, List.set_cons_succ])
        replace F9 := F9.below bp2
        replace KW := KW.call bp2
        refine hK.out _ _ KW (fun hHeld => ?_)
        clear hK K bp2
        (refine wpAnyH_take (i := 12) (v := ?_) rfl (by kernel_rfl) (by kernel_rfl) (by kernel_rfl) (fun _ _ _ h => h) (Or.inl ⟨by rfl, ?_⟩) hHeld ?_; rotate_left; (· (intro w' hSw; go_simp; try with_reducible rfl)); (try simp only [List.getElem_toArray, List.getElem_cons_zero, List.getElem_cons_succ, Act.put, List.setIfInBounds_toArray, List.set_cons_zero, List.set_cons_succ])); (refine wpAnyH_take (i := 13) (v := ?_) rfl (by kernel_rfl) (by kernel_rfl) (by kernel_rfl) (fun _ _ _ h => h) (Or.inl ⟨by rfl, ?_⟩) hHeld ?_; rotate_left; (· (intro w' hSw; go_simp; try with_reducible rfl)); (try simp only [List.getElem_toArray, List.getElem_cons_zero, List.getElem_cons_succ, Act.put, List.setIfInBounds_toArray, List.set_cons_zero, List.set_cons_succ])); (refine wpAnyH_take (i := 14) (v := ?_) rfl (by kernel_rfl) (by kernel_rfl) (by kernel_rfl) (fun _ _ _ h => h) (Or.inl ⟨by rfl, ?_⟩) hHeld ?_; rotate_left; (· (intro w' hSw; go_simp; try with_reducible rfl)); (try simp only [List.getElem_toArray, List.getElem_cons_zero, List.getElem_cons_succ, Act.put, List.setIfInBounds_toArray, List.set_cons_zero, List.set_cons_succ]))
        rw [← hb9]
        clear hb9
      all_goals
        (refine wpAnyH_ready (rs := [16]) (by kernel_rfl) (by simp) ?_; refine AllReadyH.cons (o := _) rfl (fun K hK => ?_) AllReadyH.nil; (simp only [List.getElem_toArray, List.getElem_cons_zero, List.getElem_cons_succ, Region.wanted, if_true]))
        refine wp_store_mid _ _ _ rfl _ _ (ints R).toArray rfl rfl (by simpa [l2] using F9.there) (by simpa [l2] using hi0) (all_oneCell_toArray (ints_one _)) ?_
        (try simp only [List.getElem_toArray, List.getElem_cons_zero, List.getElem_cons_succ, Act.put, List.setIfInBounds_toArray, List.set_cons_zero, List.set_cons_succ, List.toList_toArray])
        replace F9 := F9.putAll R R24
        replace KW := KW.puts (b := b9) h9 0 (ints R)
        refine hK.out _ _ KW (fun hHeld => ?_)
        clear hK K
        (refine wpAnyH_take (i := 17) (v := ?_) rfl (by kernel_rfl) (by kernel_rfl) (by kernel_rfl) (fun _ _ _ h => h) (Or.inl ⟨by rfl, ?_⟩) hHeld ?_; rotate_left; (· (intro w' hSw; go_simp; try with_reducible rfl)); (try simp only [List.getElem_toArray, List.getElem_cons_zero, List.getElem_cons_succ, Act.put, List.setIfInBounds_toArray, List.set_cons_zero, List.set_cons_succ]))
        refine wpAnyH_done (by kernel_rfl) ?_ _
        clear hHeld
        generalize wp3.setCells b9 0 (ints R) = wp4 at *
        replace G1 := G1.below KW
        replace GZ1 := GZ1.below KW
        replace GZ2 := GZ2.below KW
        replace GS := GS.below KW
        replace GM := GM.below KW
        replace GR' := Lib.hid (GR'.out.below KW)
        replace GB := Lib.hid (GB.out.call KW)
        have RGB := Lib.hid (GR'.out)
        have hs9 := KW.size
        clear C0 C1 h9
        go_wp2_with (refine load_has rfl 42 _ rfl _ rfl ?_ 24 ?_ _ Try.underlying42 rfl ?_ ?_; rotate_left; (· (repeat (first | (with_reducible assumption) | ((with_reducible refine Has.box _ _ ?_ ?_) <;> (first | assumption | decide)) | (with_reducible refine Has.alloc ?_ _) | ((with_reducible refine Has.putOther ?_ _ _ ?_); rotate_left; omega; skip) | ((with_reducible refine Has.below ?_ ?_); rotate_left; assumption)))); (· kernel_rfl))
        refine (KI.out _).mono ?_
        rintro e w5 ⟨rfl, b5⟩
        have PB := Has.box (ns := [(c0 : Int), (c1 : Int)]) (n := 2) w5 33 rfl (by omega)
        have hs5 := b5.size
        have KW5 := Lib.hid ((KW.call b5).alloc (.cells (ints [(c0 : Int), (c1 : Int)]).toArray 33))
        replace G1 := (G1.below b5).alloc (.cells (ints [(c0 : Int), (c1 : Int)]).toArray 33)
        replace GZ1 := (GZ1.below b5).alloc (.cells (ints [(c0 : Int), (c1 : Int)]).toArray 33)
        replace GZ2 := (GZ2.below b5).alloc (.cells (ints [(c0 : Int), (c1 : Int)]).toArray 33)
        replace GS := (GS.below b5).alloc (.cells (ints [(c0 : Int), (c1 : Int)]).toArray 33)
        replace GM := (GM.below b5).alloc (.cells (ints [(c0 : Int), (c1 : Int)]).toArray 33)
        replace GR' := Lib.hid ((GR'.out.below b5).alloc (.cells (ints [(c0 : Int), (c1 : Int)]).toArray 33))
        replace GB := Lib.hid ((GB.out.call b5).alloc (.cells (ints [(c0 : Int), (c1 : Int)]).toArray 33))
        clear F9 b5 KI KW RGB
        go_upto_region 10 with (refine store_new rfl 33 _ _ rfl _ _ _ rfl _ rfl _ rfl rfl ?_ ?_ ?_; (· (first | assumption | rfl)); (· kernel_rfl))
        obtain ⟨pb, hpb⟩ : ∃ pb, w5.heap.size = pb := ⟨_, rfl⟩
        rw [hpb] at PB hs5 ⊢
        generalize w5.alloc (.cells (ints [(c0 : Int), (c1 : Int)]).toArray 33) = W6 at *
        clear hpb
        have RGW := Lib.hid (RGA.out _ KW5.out)
        have x0 : W6.cell? ⟨pb, 0, none⟩ = some (.int .i64 (c0 : Int)) := PB.cell 0 (by omega)
        have x1 : W6.cell? ⟨pb, 1, none⟩ = some (.int .i64 (c1 : Int)) := PB.cell 1 (by omega)
        have y0 : W6.cell? ⟨bb + 1, 0, none⟩ = some (.int .i64 m0) := GM.cell 0 (by omega)
        have y1 : W6.cell? ⟨bb + 1, 1, none⟩ = some (.int .i64 m1) := GM.cell 1 (by omega)
        clear RGA KW5
        by_cases hlt : X < Y
        · have E := Lib.hid (HYES.out hlt)
          have S1 := (G1.putOther (b' := bb) 0 (ints A) (by omega)).putOther (b' := bb + 1) 0 (ints [(c0 : Int), (c1 : Int)]) (by omega)
          have S2 := (GZ1.putOther (b' := bb) 0 (ints A) (by omega)).putOther (b' := bb + 1) 0 (ints [(c0 : Int), (c1 : Int)]) (by omega)
          have S3 := (GZ2.putOther (b' := bb) 0 (ints A) (by omega)).putOther (b' := bb + 1) 0 (ints [(c0 : Int), (c1 : Int)]) (by omega)
          have S4 := Lib.hid ((GS.putAll A lk).putOther (b' := bb + 1) 0 (ints [(c0 : Int), (c1 : Int)]) (by omega))
          have S5 := Lib.hid ((GM.putOther (b' := bb) 0 (ints A) (by omega)).putAll [(c0 : Int), (c1 : Int)] rfl)
          have S6 := Lib.hid ((GR'.out.puts bb 0 (ints A) (fun hi e => by have := OWN.out hi _ e; omega)).puts (bb + 1) 0 (ints [(c0 : Int), (c1 : Int)]) (fun hi e => by have := OWN.out hi _ e; omega))
          have S7 := Lib.hid ((GB.out.puts (b := bb) (by omega) 0 (ints A)).puts (b := bb + 1) (by omega) 0 (ints [(c0 : Int), (c1 : Int)]))
          clear GR' GB HYES HNO
          go_wp2_with (first | (refine wpList_load_mid rfl 33 _ rfl gg (k * 2) rfl (ints A) _ RGW.out Try.underlying33 rfl hiA ?_) | (refine load_has rfl 33 _ rfl _ rfl ?_ 2 ?_ _ Try.underlying33 rfl ?_ ?_; rotate_left; (· (repeat (first | (with_reducible assumption) | ((with_reducible refine Has.box _ _ ?_ ?_) <;> (first | assumption | decide)) | (with_reducible refine Has.alloc ?_ _) | ((with_reducible refine Has.putOther ?_ _ _ ?_); rotate_left; omega; skip) | ((with_reducible refine Has.below ?_ ?_); rotate_left; assumption)))); (· kernel_rfl)) | (refine store_at rfl 33 _ _ rfl _ _ rfl rfl ?_ 2 ?_ ?_ ?_ ?_; rotate_left; (· (repeat (first | (with_reducible assumption) | ((with_reducible refine Has.box _ _ ?_ ?_) <;> (first | assumption | decide)) | (with_reducible refine Has.alloc ?_ _) | ((with_reducible refine Has.putOther ?_ _ _ ?_); rotate_left; omega; skip) | ((with_reducible refine Has.below ?_ ?_); rotate_left; assumption)))); (· (first | assumption | rfl)); (· kernel_rfl)))
          go_roundw
          case rel => exact ⟨k + 1, by omega, by go_num, S1, S2, S3, by rw [E.out.1, HA.out]; exact S4.out, by rw [E.out.2]; exact S5.out, S6, S7⟩
          case measure => simp [intOf]; omega
        · have E := Lib.hid (HNO.out (by omega))
          clear HYES HNO
          go_wp2_with fail
          go_roundw
          case rel => exact ⟨k + 1, by omega, by go_num, G1, GZ1, GZ2, by rw [E.out.1]; exact GS, by rw [E.out.2, HEM.out]; exact GM, GR', GB⟩
          case measure => simp [intOf]; omega
    · obtain rfl : k = M := by omega
      have hbk := bsJ_lt (upC r (N : Int)) k (by omega)
      have lb := pr_len (usefFA r) (bsJ (upC r (N : Int)) k) k FL.out hbk
      have lm := msK_len r (N : Int) k
      obtain ⟨A, hA⟩ : ∃ A, pr (usefFA r) (bsJ (upC r (N : Int)) k) = A := ⟨_, rfl⟩
      obtain ⟨C, hC⟩ : ∃ C, msK r (N : Int) k = C := ⟨_, rfl⟩
      rw [hA] at lb GS EP
      rw [hC] at lm GM EC
      have lA : (ints A).length = 2 := by rw [ints_len]; exact lb
      have lC : (ints C).length = 2 := by rw [ints_len]; exact lm
      have hiA : (Try.prog.info? 33).map (·.size) = some (ints A).length := by rw [lA]; kernel_rfl
      have hiC : (Try.prog.info? 33).map (·.size) = some (ints C).length := by rw [lC]; kernel_rfl
      have hi2 : (Try.prog.info? 33).map (·.size) = some 2 := by kernel_rfl
      clear hA hC hbk
      go_wp2_with fail
      refine wp_region_held_drew (S := fun w' => Has w' bb A 2 ∧ Has w' (bb + 1) C 2 ∧ (∃ zs, Has w' (w.heap.size + 1) zs 2) ∧ (∃ zs, Has w' (w.heap.size + 1 + 1) zs 2) ∧ Kept w w') (by kernel_rfl) ⟨GS.drew, GM.drew, ⟨_, GZ1.drew⟩, ⟨_, GZ2.drew⟩, GB.out.drewN 1⟩ (fun hHeld => ?_)
      clear G1 GZ1 GZ2 GS GM GB GR'
      generalize World.drew _ = WD at *
      (refine wpAnyH_take (i := 0) (v := _) rfl (by kernel_rfl) (by kernel_rfl) (by kernel_rfl) (fun _ _ _ h => h) (yieldsIf_load_mid (by rfl) 33 _ rfl _ _ rfl (ints A) _ (fun w' hSw => hSw.1.holds.range) Try.underlying33 rfl (hiA)) hHeld ?_; (try simp only [List.getElem_toArray, List.getElem_cons_zero, List.getElem_cons_succ, Act.put, List.setIfInBounds_toArray, List.set_cons_zero, List.set_cons_succ]))
      (refine wpAnyH_take (i := 1) (v := _) rfl (by kernel_rfl) (by kernel_rfl) (by kernel_rfl) (fun _ _ _ h => h) (yieldsIf_load_mid (by rfl) 33 _ rfl _ _ rfl (ints C) _ (fun w' hSw => hSw.2.1.holds.range) Try.underlying33 rfl (hiC)) hHeld ?_; (try simp only [List.getElem_toArray, List.getElem_cons_zero, List.getElem_cons_succ, Act.put, List.setIfInBounds_toArray, List.set_cons_zero, List.set_cons_succ]))
      have Q1 := hHeld.2.2.1.choose_spec
      have Q2 := hHeld.2.2.2.1.choose_spec
      have F1 := Q1.putAll A lb
      have F2 := Q2.putOther (b' := w.heap.size + 1) 0 (ints A) (by omega)
      have T1 := And.intro (hHeld.1.putOther (b' := w.heap.size + 1) 0 (ints A) (by omega)) (And.intro (hHeld.2.1.putOther (b' := w.heap.size + 1) 0 (ints A) (by omega)) (And.intro F1.ex2 (And.intro F2.ex2 (hHeld.2.2.2.2.puts (b := w.heap.size + 1) (by omega) 0 (ints A)))))
      (refine wpAnyH_ready (rs := [2]) (by kernel_rfl) (by simp) ?_; refine AllReadyH.cons (o := _) rfl (fun K hK => ?_) AllReadyH.nil; (simp only [List.getElem_toArray, List.getElem_cons_zero, List.getElem_cons_succ, Region.wanted, if_true]); refine wp_store_mid _ _ _ rfl _ _ (ints A).toArray rfl rfl (by simpa [lA] using Q1.there) (by simpa [lA] using hi2) (all_oneCell_toArray (ints_one _)) ?_; (try simp only [List.getElem_toArray, List.getElem_cons_zero, List.getElem_cons_succ, Act.put, List.setIfInBounds_toArray, List.set_cons_zero, List.set_cons_succ, List.toList_toArray]); refine hK.out _ _ (T1) (fun hHeld => ?_); clear hK K)
      clear T1 Q1 Q2
      have KE := hHeld.2.2.2.2.puts (b := w.heap.size + 1 + 1) (by omega) 0 (ints C)
      have V1 := F1.putOther (b' := w.heap.size + 1 + 1) 0 (ints C) (by omega)
      have V2 := F2.putAll C lm
      have T2 := And.intro (hHeld.1.putOther (b' := w.heap.size + 1 + 1) 0 (ints C) (by omega)) (And.intro (hHeld.2.1.putOther (b' := w.heap.size + 1 + 1) 0 (ints C) (by omega)) (And.intro V1.ex2 (And.intro V2.ex2 KE)))
      (refine wpAnyH_ready (rs := [3]) (by kernel_rfl) (by simp) ?_; refine AllReadyH.cons (o := _) rfl (fun K hK => ?_) AllReadyH.nil; (simp only [List.getElem_toArray, List.getElem_cons_zero, List.getElem_cons_succ, Region.wanted, if_true]); refine wp_store_mid _ _ _ rfl _ _ (ints C).toArray rfl rfl (by simpa [lC] using F2.there) (by simpa [lC] using hi2) (all_oneCell_toArray (ints_one _)) ?_; (try simp only [List.getElem_toArray, List.getElem_cons_zero, List.getElem_cons_succ, Act.put, List.setIfInBounds_toArray, List.set_cons_zero, List.set_cons_succ, List.toList_toArray]); refine hK.out _ _ (T2) (fun hHeld => ?_); clear hK K)
      clear T2 F1 F2
      (refine wpAnyH_take (i := 4) (v := ?_) rfl (by kernel_rfl) (by kernel_rfl) (by kernel_rfl) (fun _ _ _ h => h) (Or.inl ⟨by rfl, ?_⟩) hHeld ?_; rotate_left; (· (intro w' hSw; go_simp; try with_reducible rfl)); (try simp only [List.getElem_toArray, List.getElem_cons_zero, List.getElem_cons_succ, Act.put, List.setIfInBounds_toArray, List.set_cons_zero, List.set_cons_succ]))
      refine wpAnyH_done (by kernel_rfl) ?_ _
      clear hHeld
      go_wp2_with fail
      exact bodyPost_ret (res_two rfl _ _ (w.heap.size + 1) (w.heap.size + 1 + 1) A C 2 _ (.bool true) rfl rfl rfl V1 V2 Try.underlying33 rfl (by kernel_rfl)) rfl ⟨by rw [EP.out, EC.out, EOK.out], KE⟩
end Go.Proofs.Ytemiljokdedidac.base
end

section
namespace Go.Proofs.Ytemiljokdedidac.base
open Go.ChangeShapes Go.WideShapes Go.ChangeAt Go.RowKit
set_option linter.unusedVariables false
set_option linter.unusedSimpArgs false

set_option maxHeartbeats 1600000 in
set_option maxRecDepth 100000 in
theorem lawBestChance (vs : List Int) (n : Int) (w : World) (h0 : vs.length = 24 ∧ ∀ n ∈ vs, (Lit.int .i64 n).wf = true) (fn : (Lit.int .i64 n).wf = true) :
    Calls Try.prog 8 #[row vs, .int .i64 n] w fun e w' => e = .returned (.bool true) ∧ Kept w w' := by
  obtain ⟨h, hw⟩ := h0
  have lP := beP_len (n := n) h
  have lC := beC_len vs n
  have HB := Lib.hid ((kept_refl w).alloc (.cells (ints vs).toArray 40))
  have H := Has.box w 40 h (by omega)
  have KS := Lib.hid (fun _W => specBest vs n _W h)
  have KI := Lib.hid (fun _W => implBest vs n _W h)
  generalize beP vs n = P at *
  generalize beC vs n = C at *
  generalize beOk vs n = O at *
  have KT := Lib.hid (fun W => toRack_any vs W h)
  have KEP := Lib.hid (fun W => eqIntA2v P W lP)
  have KEC := Lib.hid (fun W => eqIntA2v C W lC)
  clear hw fn
  rw [row_ints]
  go_enter Try.func8, Try.ntmps8
  go_wp2_with (refine load_has rfl 40 _ rfl _ rfl ?_ 24 ?_ _ Try.underlying40 rfl ?_ ?_; rotate_left; (· (repeat (first | (with_reducible assumption) | ((with_reducible refine Has.box _ _ ?_ ?_) <;> (first | assumption | decide)) | (with_reducible refine Has.alloc ?_ _) | ((with_reducible refine Has.putOther ?_ _ _ ?_); rotate_left; omega; skip) | ((with_reducible refine Has.below ?_ ?_); rotate_left; assumption)))); (· kernel_rfl))
  refine (KT.out _).mono ?_
  rintro e w1 ⟨rfl, b1⟩
  replace H := H.below b1
  replace HB := Lib.hid (HB.out.call b1)
  clear b1
  go_wp2_with fail
  refine (KS.out _).mono ?_
  rintro e w2 ⟨rfl, b2⟩
  replace H := H.below b2
  replace HB := Lib.hid (HB.out.call b2)
  have hl2 := H.lt
  have hs2 := HB.out.size
  have MA0 := (Has.zero2v w2 33).alloc (.cells #[.int .i64 0, .int .i64 0] 33)
  have MB0 := (Has.zero2v (w2.alloc (.cells #[.int .i64 0, .int .i64 0] 33)) 33).at (size1 _ _)
  have MA := (MA0.putAll P lP).putOther (b' := w2.heap.size + 1) 0 (ints C) (by omega)
  have MB := (MB0.putOther (b' := w2.heap.size) 0 (ints P) (by omega)).putAll C lC
  replace H := (((H.alloc (.cells #[.int .i64 0, .int .i64 0] 33)).alloc (.cells #[.int .i64 0, .int .i64 0] 33)).putOther (b' := w2.heap.size) 0 (ints P) (by omega)).putOther (b' := w2.heap.size + 1) 0 (ints C) (by omega)
  replace HB := Lib.hid ((((HB.out.alloc (.cells #[.int .i64 0, .int .i64 0] 33)).alloc (.cells #[.int .i64 0, .int .i64 0] 33)).puts (b := w2.heap.size) (by omega) 0 (ints P)).puts (b := w2.heap.size + 1) (by omega) 0 (ints C))
  clear b2
  go_upto_region 2 with (refine store_at rfl 33 _ _ rfl _ _ rfl rfl ?_ 2 ?_ ?_ ?_ ?_; rotate_left; (· (repeat (first | (with_reducible assumption) | ((with_reducible refine Has.box _ _ ?_ ?_) <;> (first | assumption | decide)) | (with_reducible refine Has.alloc ?_ _) | ((with_reducible refine Has.putOther ?_ _ _ ?_); rotate_left; omega; skip) | ((with_reducible refine Has.below ?_ ?_); rotate_left; assumption)))); (· (first | assumption | rfl)); (· kernel_rfl))
  obtain ⟨b, hb⟩ : ∃ b, w2.heap.size = b := ⟨_, rfl⟩
  rw [hb] at MA MB H HB hl2 ⊢
  generalize ((((w2.alloc (.cells #[.int .i64 0, .int .i64 0] 33)).alloc (.cells #[.int .i64 0, .int .i64 0] 33)).setCells b 0 (ints P)).setCells (b + 1) 0 (ints C)) = W2 at *
  clear MA0 MB0 hb hl2 hs2
  go_wp2_with (refine load_has rfl 40 _ rfl _ rfl ?_ 24 ?_ _ Try.underlying40 rfl ?_ ?_; rotate_left; (· (repeat (first | (with_reducible assumption) | ((with_reducible refine Has.box _ _ ?_ ?_) <;> (first | assumption | decide)) | (with_reducible refine Has.alloc ?_ _) | ((with_reducible refine Has.putOther ?_ _ _ ?_); rotate_left; omega; skip) | ((with_reducible refine Has.below ?_ ?_); rotate_left; assumption)))); (· kernel_rfl))
  refine (KT.out _).mono ?_
  rintro e w3 ⟨rfl, b3⟩
  replace H := H.below b3
  replace MA := MA.below b3
  replace MB := MB.below b3
  replace HB := Lib.hid (HB.out.call b3)
  clear b3
  go_wp2_with fail
  refine (KI.out _).mono ?_
  rintro e w4 ⟨rfl, b4⟩
  replace H := H.below b4
  replace MA := MA.below b4
  replace MB := MB.below b4
  replace HB := Lib.hid (HB.out.call b4)
  have ha4 := MA.lt
  have hb4 := MB.lt
  have hl4 := H.lt
  have hs4 := HB.out.size
  have NA0 := (Has.zero2v w4 33).alloc (.cells #[.int .i64 0, .int .i64 0] 33)
  have NB0 := (Has.zero2v (w4.alloc (.cells #[.int .i64 0, .int .i64 0] 33)) 33).at (size1 _ _)
  have NA := (NA0.putAll P lP).putOther (b' := w4.heap.size + 1) 0 (ints C) (by omega)
  have NB := (NB0.putOther (b' := w4.heap.size) 0 (ints P) (by omega)).putAll C lC
  replace H := (((H.alloc (.cells #[.int .i64 0, .int .i64 0] 33)).alloc (.cells #[.int .i64 0, .int .i64 0] 33)).putOther (b' := w4.heap.size) 0 (ints P) (by omega)).putOther (b' := w4.heap.size + 1) 0 (ints C) (by omega)
  replace MA := (((MA.alloc (.cells #[.int .i64 0, .int .i64 0] 33)).alloc (.cells #[.int .i64 0, .int .i64 0] 33)).putOther (b' := w4.heap.size) 0 (ints P) (by omega)).putOther (b' := w4.heap.size + 1) 0 (ints C) (by omega)
  replace MB := (((MB.alloc (.cells #[.int .i64 0, .int .i64 0] 33)).alloc (.cells #[.int .i64 0, .int .i64 0] 33)).putOther (b' := w4.heap.size) 0 (ints P) (by omega)).putOther (b' := w4.heap.size + 1) 0 (ints C) (by omega)
  replace HB := Lib.hid ((((HB.out.alloc (.cells #[.int .i64 0, .int .i64 0] 33)).alloc (.cells #[.int .i64 0, .int .i64 0] 33)).puts (b := w4.heap.size) (by omega) 0 (ints P)).puts (b := w4.heap.size + 1) (by omega) 0 (ints C))
  clear b4
  go_upto_region 3 with (refine store_at rfl 33 _ _ rfl _ _ rfl rfl ?_ 2 ?_ ?_ ?_ ?_; rotate_left; (· (repeat (first | (with_reducible assumption) | ((with_reducible refine Has.box _ _ ?_ ?_) <;> (first | assumption | decide)) | (with_reducible refine Has.alloc ?_ _) | ((with_reducible refine Has.putOther ?_ _ _ ?_); rotate_left; omega; skip) | ((with_reducible refine Has.below ?_ ?_); rotate_left; assumption)))); (· (first | assumption | rfl)); (· kernel_rfl))
  obtain ⟨c, hc⟩ : ∃ c, w4.heap.size = c := ⟨_, rfl⟩
  rw [hc] at NA NB MA MB H HB ha4 hb4 hl4 ⊢
  generalize ((((w4.alloc (.cells #[.int .i64 0, .int .i64 0] 33)).alloc (.cells #[.int .i64 0, .int .i64 0] 33)).setCells c 0 (ints P)).setCells (c + 1) 0 (ints C)) = W4 at *
  clear NA0 NB0 hc
  go_wp2_with (refine load_has rfl 33 _ rfl _ rfl ?_ 2 ?_ _ Try.underlying33 rfl ?_ ?_; rotate_left; (· (repeat (first | (with_reducible assumption) | ((with_reducible refine Has.box _ _ ?_ ?_) <;> (first | assumption | decide)) | (with_reducible refine Has.alloc ?_ _) | ((with_reducible refine Has.putOther ?_ _ _ ?_); rotate_left; omega; skip) | ((with_reducible refine Has.below ?_ ?_); rotate_left; assumption)))); (· kernel_rfl))
  refine (KEP.out _).mono ?_
  rintro e w5 ⟨rfl, b5⟩
  replace MB := MB.below b5
  replace NB := NB.below b5
  replace HB := Lib.hid (HB.out.call b5)
  clear b5 MA NA
  go_wp2_with (refine load_has rfl 33 _ rfl _ rfl ?_ 2 ?_ _ Try.underlying33 rfl ?_ ?_; rotate_left; (· (repeat (first | (with_reducible assumption) | ((with_reducible refine Has.box _ _ ?_ ?_) <;> (first | assumption | decide)) | (with_reducible refine Has.alloc ?_ _) | ((with_reducible refine Has.putOther ?_ _ _ ?_); rotate_left; omega; skip) | ((with_reducible refine Has.below ?_ ?_); rotate_left; assumption)))); (· kernel_rfl))
  refine (KEC.out _).mono ?_
  rintro e w6 ⟨rfl, b6⟩
  replace HB := Lib.hid (HB.out.call b6)
  clear b6 MB NB
  go_wp2_with fail
  go_ret
  exact ⟨rfl, HB.out⟩
end Go.Proofs.Ytemiljokdedidac.base
end
