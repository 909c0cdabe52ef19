/-
  Replays on the program's side, walked: the closure that goes on, and all racks.
-/
import Derived.Test.YtalngdccjoafhabDoPZ
import Derived.Test.YtalngdccjoafhabRwZ
import Derived.Deep.Cut
import Derived.Deep.RegionHeld3
import Derived.Deep.CutRange
import Derived.Test.YtalngdccjoafhabBlkWZ
import Derived.Test.YtalngdccjoafhabBackMZ
import Derived.Test.YtalngdccjoafhabGridZ
import Derived.Test.YtalngdccjoafhabSpecWZ
namespace Go.Proofs.Ytalngdccjoafhab.base
open Go.ChangeShapes Go.WideShapes Go.ChangeAt Go.RowKit
set_option linter.unusedVariables false
set_option linter.unusedSimpArgs false

section
variable {a b c : World} {m : Nat}
theorem gbY_trans (h : a.grownBy b (some m)) (k : b.grownBy c (some m)) : a.grownBy c (some m) :=
  ⟨k.os.trans h.os, k.tape.trans h.tape, k.output.trans h.output, Nat.le_trans h.size k.size, fun i hi hn => (k.block i (Nat.lt_of_lt_of_le hi h.size) hn).trans (h.block i hi hn)⟩
theorem gbY_below (h : a.grownBy b (some m)) (k : Below b.heap.size b c) : a.grownBy c (some m) :=
  gbY_trans h ⟨k.os, k.tape, k.output, k.size, fun i hi _ => k.block i hi⟩
theorem gbY_alloc (h : a.grownBy b (some m)) (o : Obj) : a.grownBy (b.alloc o) (some m) := gbY_trans h (World.grownBy_alloc b o (some m))
theorem gbY_refl (a : World) (m : Nat) : a.grownBy a (some m) := ⟨rfl, rfl, rfl, Nat.le_refl _, fun _ _ _ => rfl⟩
theorem gbY_puts (h : a.grownBy b (some m)) (c o : Nat) (vs : List Value) (hc : c = m ∨ a.heap.size ≤ c) : a.grownBy (b.setCells c o vs) (some m) := by
  have k := below_setCells (B := 0) c (Nat.zero_le _) vs o b b (Below.refl _ _)
  refine ⟨k.os.trans h.os, k.tape.trans h.tape, k.output.trans h.output, by rw [size_setCells]; exact h.size, fun i hi hn => ?_⟩
  have e : i ≠ c := by
    rcases hc with h1 | h1
    · intro e; exact hn (by rw [e, h1])
    · omega
  exact (World.heap_setCells_other b c o vs (Nat.lt_of_lt_of_le hi h.size) e).trans (h.block i hi hn)
/-- What is new to an older world stays so. -/
theorem Kept.gbY {w : World} (h : Kept w a) (k : a.grownBy b (some m)) (hm : w.heap.size ≤ m) : Kept w b := h.grown k h.size (fun j hj => by have := Option.some.inj hj; omega)
end
theorem Gr.one {w : World} {b : Nat} (T : TypeId) {ns : List Int} (hb : b ≤ w.heap.size) (h : ns.length = 24) : Gr (w.alloc (.cells (ints ns).toArray T)) b T 24 (.slice (some ⟨w.heap.size, 0, Option.none⟩) 1 1) [ns] := by
  have := World.ownsRow_lit (base := b) (e := T) (size := 24) w (ints ns).toArray 1 hb (by unfold maxLen; omega) (by simp [ints_len, h])
  exact ⟨by simpa using this, fun l hl => by rw [List.mem_singleton.1 hl]; exact h⟩

/-- The closure that makes a pour behind those before, as a value. -/
def onV (s : Nat) : Value := .func (Fn.func 72) #[] #[.pointer (some ⟨s, 0, none⟩)]
theorem goOn_any (ns : List Int) (w : World) (h24 : ns.length = 24) :
    Calls Try.prog 41 #[row ns] w fun e w' => e = .returned (onV w.heap.size) ∧ Has w' w.heap.size ns 24 ∧ Kept w w' := by
  have HB := Lib.hid ((kept_refl w).alloc (.cells (ints ns).toArray 30))
  have H := Has.box w 30 h24 (by omega)
  rw [row_ints]
  go_enter Try.func41, Try.ntmps41
  go_wp2_with fail
  go_ret
  exact ⟨rfl, H, HB.out⟩

/-- The rack behind a pour, if it is possible. -/
def onR (R : List Int) (x y : Int) : List Int := if pourOk R x y = true then pourR R x y else R

set_option maxHeartbeats 1600000 in
set_option maxRecDepth 100000 in
theorem goOn1_any (R : List Int) (x y : Int) (s : Nat) (w : World) (hs : Has w s R 24) :
    Calls Try.prog 72 #[.agg (ints [x, y]).toArray, .pointer (some ⟨s, 0, none⟩)] w fun e w' => e = .returned (.tuple #[.agg (ints (pourR R x y)).toArray, .int .i64 (pourA R x y), .bool (pourOk R x y)]) ∧ Has w' s (onR R x y) 24 ∧ w.grownBy w' (some s) := by
  have h24 := hs.len
  have hR : (pourR R x y).length = 24 := pourR_len h24 x y
  have KP := Lib.hid (fun W => implPour R x y W h24)
  have P := (Has.box (ns := [x, y]) (n := 2) w 51 rfl (by omega)).alloc (.cells #[.int .i64 0, .int .i64 0, .int .i64 0, .int .i64 0, .int .i64 0, .int .i64 0, .int .i64 0, .int .i64 0, .int .i64 0, .int .i64 0, .int .i64 0, .int .i64 0, .int .i64 0, .int .i64 0, .int .i64 0, .int .i64 0, .int .i64 0, .int .i64 0, .int .i64 0, .int .i64 0, .int .i64 0, .int .i64 0, .int .i64 0, .int .i64 0] 30)
  have Z := (Has.zero24 (w.alloc (.cells (ints [x, y]).toArray 51)) 30).at (size1 _ _)
  have H := (hs.alloc (.cells (ints [x, y]).toArray 51)).alloc (.cells #[.int .i64 0, .int .i64 0, .int .i64 0, .int .i64 0, .int .i64 0, .int .i64 0, .int .i64 0, .int .i64 0, .int .i64 0, .int .i64 0, .int .i64 0, .int .i64 0, .int .i64 0, .int .i64 0, .int .i64 0, .int .i64 0, .int .i64 0, .int .i64 0, .int .i64 0, .int .i64 0, .int .i64 0, .int .i64 0, .int .i64 0, .int .i64 0] 30)
  have G := Lib.hid (gbY_alloc (gbY_alloc (gbY_refl w s) (.cells (ints [x, y]).toArray 51)) (.cells #[.int .i64 0, .int .i64 0, .int .i64 0, .int .i64 0, .int .i64 0, .int .i64 0, .int .i64 0, .int .i64 0, .int .i64 0, .int .i64 0, .int .i64 0, .int .i64 0, .int .i64 0, .int .i64 0, .int .i64 0, .int .i64 0, .int .i64 0, .int .i64 0, .int .i64 0, .int .i64 0, .int .i64 0, .int .i64 0, .int .i64 0, .int .i64 0] 30))
  have c0 : ((w.alloc (.cells (ints [x, y]).toArray 51)).alloc (.cells #[.int .i64 0, .int .i64 0, .int .i64 0, .int .i64 0, .int .i64 0, .int .i64 0, .int .i64 0, .int .i64 0, .int .i64 0, .int .i64 0, .int .i64 0, .int .i64 0, .int .i64 0, .int .i64 0, .int .i64 0, .int .i64 0, .int .i64 0, .int .i64 0, .int .i64 0, .int .i64 0, .int .i64 0, .int .i64 0, .int .i64 0, .int .i64 0] 30)).cell? ⟨w.heap.size, 0, none⟩ = some (.int .i64 x) := P.cell 0 (by omega)
  have c1 : ((w.alloc (.cells (ints [x, y]).toArray 51)).alloc (.cells #[.int .i64 0, .int .i64 0, .int .i64 0, .int .i64 0, .int .i64 0, .int .i64 0, .int .i64 0, .int .i64 0, .int .i64 0, .int .i64 0, .int .i64 0, .int .i64 0, .int .i64 0, .int .i64 0, .int .i64 0, .int .i64 0, .int .i64 0, .int .i64 0, .int .i64 0, .int .i64 0, .int .i64 0, .int .i64 0, .int .i64 0, .int .i64 0] 30)).cell? ⟨w.heap.size, 1, none⟩ = some (.int .i64 y) := P.cell 1 (by omega)
  have hs0 := hs.lt
  have EY : Hid (pourOk R x y = true → onR R x y = pourR R x y) := Lib.hid (fun h => by unfold onR; rw [if_pos h])
  have EN : Hid (pourOk R x y = false → onR R x y = R) := Lib.hid (fun h => by unfold onR; rw [if_neg (by rw [h]; simp)])
  clear hs
  generalize onR R x y = O at *
  generalize pourR R x y = B at *
  generalize pourA R x y = M at *
  generalize hok : pourOk R x y = ok at *
  have HOK := Lib.hid hok
  clear hok
  go_enter Try.func72, Try.ntmps72
  go_upto_region 1 with fail
  generalize ((w.alloc (.cells (ints [x, y]).toArray 51)).alloc (.cells #[.int .i64 0, .int .i64 0, .int .i64 0, .int .i64 0, .int .i64 0, .int .i64 0, .int .i64 0, .int .i64 0, .int .i64 0, .int .i64 0, .int .i64 0, .int .i64 0, .int .i64 0, .int .i64 0, .int .i64 0, .int .i64 0, .int .i64 0, .int .i64 0, .int .i64 0, .int .i64 0, .int .i64 0, .int .i64 0, .int .i64 0, .int .i64 0] 30)) = W at *
  go_wp2_with (refine load_has rfl 30 _ rfl _ rfl ?_ 24 ?_ _ Try.underlying30 rfl ?_ ?_; rotate_left; (· (repeat (first | (with_reducible assumption) | ((with_reducible refine Has.box _ _ ?_ ?_) <;> (first | assumption | decide)) | (with_reducible refine Has.alloc ?_ _) | ((with_reducible refine Has.putOther ?_ _ _ ?_); rotate_left; omega; skip) | ((with_reducible refine Has.below ?_ ?_); rotate_left; assumption)))); (· kernel_rfl))
  refine (KP.out _).mono ?_
  rintro e w1 ⟨rfl, b1⟩
  have A := Has.box w1 30 hR (by omega)
  have hz1 := b1.size
  have hz0 := Z.lt
  have hh0 := H.lt
  replace H := (H.below b1).alloc (.cells (ints B).toArray 30)
  replace Z := (Z.below b1).alloc (.cells (ints B).toArray 30)
  replace G := Lib.hid (gbY_alloc (gbY_below G.out b1) (.cells (ints B).toArray 30))
  clear P b1 c0 c1 KP
  cases ok with
  | true =>
    have e := EY.out rfl
    subst e
    clear EY EN
    go_upto_region 3 with (refine store_new rfl 30 _ _ rfl _ _ _ rfl _ rfl _ rfl rfl ?_ ?_ ?_; (· (first | assumption | rfl)); (· kernel_rfl))
    obtain ⟨ab, hab⟩ : ∃ ab, w1.heap.size = ab := ⟨_, rfl⟩
    rw [hab] at A hz1 ⊢
    generalize w1.alloc (.cells (ints O).toArray 30) = W1 at *
    clear hab
    have H2 := H.putAll O hR
    have A2 := A.putOther (b' := s) 0 (ints O) (by omega)
    have Z2 := Z.putOther (b' := s) 0 (ints O) (by omega)
    have G2 := Lib.hid (gbY_puts G.out s 0 (ints O) (.inl rfl))
    clear G
    go_upto_region 4 with (first | (refine load_has rfl 30 _ rfl _ rfl ?_ 24 ?_ _ Try.underlying30 rfl ?_ ?_; rotate_left; (· (repeat (first | (with_reducible assumption) | ((with_reducible refine Has.box _ _ ?_ ?_) <;> (first | assumption | decide)) | (with_reducible refine Has.alloc ?_ _) | ((with_reducible refine Has.putOther ?_ _ _ ?_); rotate_left; omega; skip) | ((with_reducible refine Has.below ?_ ?_); rotate_left; assumption)))); (· kernel_rfl)) | (refine store_at rfl 30 _ _ rfl _ _ rfl rfl ?_ 24 ?_ ?_ ?_ ?_; rotate_left; (· (repeat (first | (with_reducible assumption) | ((with_reducible refine Has.box _ _ ?_ ?_) <;> (first | assumption | decide)) | (with_reducible refine Has.alloc ?_ _) | ((with_reducible refine Has.putOther ?_ _ _ ?_); rotate_left; omega; skip) | ((with_reducible refine Has.below ?_ ?_); rotate_left; assumption)))); (· (first | assumption | rfl)); (· kernel_rfl)))
    clear H A Z
    generalize World.setCells W1 s 0 (ints O) = W2 at *
    have S0 := Lib.hid (H2.putOther (b' := w.heap.size + 1) 0 (ints O) (by omega))
    have S1 := Lib.hid (Z2.putAll O hR)
    have S2 := Lib.hid (gbY_puts G2.out (w.heap.size + 1) 0 (ints O) (.inr (by omega)))
    go_wp2_with (first | (refine load_has rfl 30 _ rfl _ rfl ?_ 24 ?_ _ Try.underlying30 rfl ?_ ?_; rotate_left; (· (repeat (first | (with_reducible assumption) | ((with_reducible refine Has.box _ _ ?_ ?_) <;> (first | assumption | decide)) | (with_reducible refine Has.alloc ?_ _) | ((with_reducible refine Has.putOther ?_ _ _ ?_); rotate_left; omega; skip) | ((with_reducible refine Has.below ?_ ?_); rotate_left; assumption)))); (· kernel_rfl)) | (refine store_at rfl 30 _ _ rfl _ _ rfl rfl ?_ 24 ?_ ?_ ?_ ?_; rotate_left; (· (repeat (first | (with_reducible assumption) | ((with_reducible refine Has.box _ _ ?_ ?_) <;> (first | assumption | decide)) | (with_reducible refine Has.alloc ?_ _) | ((with_reducible refine Has.putOther ?_ _ _ ?_); rotate_left; omega; skip) | ((with_reducible refine Has.below ?_ ?_); rotate_left; assumption)))); (· (first | assumption | rfl)); (· kernel_rfl)))
    exact bodyPost_ret (res_has2 rfl _ _ (w.heap.size + 1) O 24 _ (.int .i64 M) (.bool true) rfl rfl rfl S1.out Try.underlying30 rfl (by kernel_rfl)) rfl ⟨rfl, S0.out, S2.out⟩
  | false =>
    have e := EN.out rfl
    subst e
    clear EY EN
    go_upto_region 4 with (refine store_new rfl 30 _ _ rfl _ _ _ rfl _ rfl _ rfl rfl ?_ ?_ ?_; (· (first | assumption | rfl)); (· kernel_rfl))
    obtain ⟨ab, hab⟩ : ∃ ab, w1.heap.size = ab := ⟨_, rfl⟩
    rw [hab] at A hz1 ⊢
    generalize w1.alloc (.cells (ints B).toArray 30) = W1 at *
    clear hab
    have S0 := Lib.hid (H.putOther (b' := w.heap.size + 1) 0 (ints B) (by omega))
    have S1 := Lib.hid (Z.putAll B hR)
    have S2 := Lib.hid (gbY_puts G.out (w.heap.size + 1) 0 (ints B) (.inr (by omega)))
    go_wp2_with (first | (refine load_has rfl 30 _ rfl _ rfl ?_ 24 ?_ _ Try.underlying30 rfl ?_ ?_; rotate_left; (· (repeat (first | (with_reducible assumption) | ((with_reducible refine Has.box _ _ ?_ ?_) <;> (first | assumption | decide)) | (with_reducible refine Has.alloc ?_ _) | ((with_reducible refine Has.putOther ?_ _ _ ?_); rotate_left; omega; skip) | ((with_reducible refine Has.below ?_ ?_); rotate_left; assumption)))); (· kernel_rfl)) | (refine store_at rfl 30 _ _ rfl _ _ rfl rfl ?_ 24 ?_ ?_ ?_ ?_; rotate_left; (· (repeat (first | (with_reducible assumption) | ((with_reducible refine Has.box _ _ ?_ ?_) <;> (first | assumption | decide)) | (with_reducible refine Has.alloc ?_ _) | ((with_reducible refine Has.putOther ?_ _ _ ?_); rotate_left; omega; skip) | ((with_reducible refine Has.below ?_ ?_); rotate_left; assumption)))); (· (first | assumption | rfl)); (· kernel_rfl)))
    exact bodyPost_ret (res_has2 rfl _ _ (w.heap.size + 1) B 24 _ (.int .i64 M) (.bool false) rfl rfl rfl S1.out Try.underlying30 rfl (by kernel_rfl)) rfl ⟨rfl, S0.out, S2.out⟩

theorem slice_one (a : Option Addr) (n cap : Nat) : (Value.slice a n cap).oneCell' = true := rfl
theorem rk_first (ns fs : List Int) : rks ns fs 0 = [ns] := rfl

set_option maxHeartbeats 3200000 in
set_option maxRecDepth 100000 in
theorem racks_any (ns fs : List Int) (v : Value) (n b : Nat) (w : World) (h24 : ns.length = 24) (hn : n ≤ 1048576) (h : Rw w b v n fs) :
    Calls Try.prog 66 #[rpV ns v] w fun e w' => ∃ u : Value, e = .returned (.tuple #[u, .bool (rpOk ns fs n)]) ∧ Gr w' w.heap.size 30 24 u (rkA ns fs n) ∧ Kept w w' := by
  obtain ⟨a, cap, rfl⟩ := h.shape
  have RY := Ry.box (v := .slice a n cap) w 32 h24
  have HB := Lib.hid ((kept_refl w).alloc (.cells (rpC ns (.slice a n cap)).toArray 32))
  have HR := Lib.hid (h.alloc (.cells (rpC ns (.slice a n cap)).toArray 32))
  have AP := Lib.hid (fun hn0 k hk => (h.ownlt hn0 k hk).2)
  have c24 := RY.pours
  clear h
  unfold rpV
  go_enter Try.func66, Try.ntmps66
  go_wp2_with (refine load_start rfl 30 _ rfl w.heap.size rfl ns _ _ RY _ Try.underlying30 rfl ?_ ?_; (· kernel_rfl))
  refine (isRack_any ns _ h24).mono ?_
  rintro e w1 ⟨rfl, b1⟩
  replace RY := RY.below b1
  replace HB := Lib.hid (HB.out.call b1)
  replace HR := Lib.hid (HR.out.below b1)
  have hs1 := b1.size
  rw [size1] at hs1
  clear b1 c24
  have c24 := RY.pours
  by_cases hv : vR ns = true
  rotate_left
  · have hf : vR ns = false := by simpa using hv
    have E : Hid (rpOk ns fs n = false) := Lib.hid (rp_off (k := 0) hf (Nat.zero_le _))
    have G0 := Lib.hid ((Gr.none w1 w.heap.size 30 24 (by omega)).as (rk_no E.out).symm)
    have HB2 := Lib.hid (HB.out.alloc (.cells #[] 30))
    rw [hf]
    clear hf hv
    go_wp2_with fail
    go_ret2
    exact ⟨_, by rw [E.out]; rfl, G0.out, HB2.out⟩
  rw [hv]
  have HV := Lib.hid hv
  clear hv
  by_cases hn60 : n ≤ 60
  rotate_left
  · have E : Hid (rpOk ns fs n = false) := Lib.hid (rp_far hn60)
    have G0 := Lib.hid ((Gr.none w1 w.heap.size 30 24 (by omega)).as (rk_no E.out).symm)
    have HB2 := Lib.hid (HB.out.alloc (.cells #[] 30))
    have hni : (60 : Int) < (n : Int) := by omega
    clear hn60
    go_wp2_with fail
    go_ret2
    exact ⟨_, by rw [E.out]; rfl, G0.out, HB2.out⟩
  have hni : (n : Int) ≤ 60 := by omega
  have hnf : decide ((60 : Int) < (n : Int)) = false := by simp; omega
  have G1 := Gr.one (w := w1) (b := w.heap.size) 30 (by omega) h24
  have RY1 := RY.alloc (.cells (ints ns).toArray 30)
  have c24' := RY1.pours
  replace HB := Lib.hid (HB.out.alloc (.cells (ints ns).toArray 30))
  replace HR := Lib.hid (HR.out.alloc (.cells (ints ns).toArray 30))
  go_wp2_with (first | (refine load_start rfl 30 _ rfl w.heap.size rfl ns _ _ RY _ Try.underlying30 rfl ?_ ?_; (· kernel_rfl)) | (refine load_start rfl 30 _ rfl w.heap.size rfl ns _ _ RY1 _ Try.underlying30 rfl ?_ ?_; (· kernel_rfl)) | (refine wpList_slice1 rfl 64 30 _ rfl 24 192 Try.underlying64 (by kernel_rfl) (by omega) (by omega) ns rfl h24 ?_))
  refine (goOn_any ns _ h24).mono ?_
  rintro e w2 ⟨rfl, hc, b2⟩
  have hcs : w.heap.size ≤ (w1.alloc (.cells (ints ns).toArray 30)).heap.size := by rw [size1]; omega
  have K0 := (World.grownBy_alloc w1 (.cells (ints ns).toArray 30) none)
  have hu0 : w1.heap.size < (w1.alloc (.cells (ints ns).toArray 30)).heap.size := by rw [size1]; omega
  obtain ⟨c, hcc⟩ : ∃ c, (w1.alloc (.cells (ints ns).toArray 30)).heap.size = c := ⟨_, rfl⟩
  rw [hcc] at hc hcs hu0 ⊢
  have AW0 : Hid (∀ z, (Value.slice (some ⟨w1.heap.size, 0, none⟩) 1 1).ownBlock = some z → z ≠ c) := Lib.hid (fun z hz => by have := Option.some.inj (show some w1.heap.size = some z from hz); omega)
  replace RY := RY1.below b2
  have G2 := Lib.hid ((G1.below b2).as (rk_first ns fs).symm)
  replace HB := Lib.hid (HB.out.call b2)
  replace HR := Lib.hid (HR.out.below b2)
  have hcl := Lib.hid (show ∀ z, (Value.slice a n cap).ownBlock = some z → 0 < n → z ≠ c from fun z hz h0 => by have := AP.out h0 z hz; omega)
  have O0 : Hid (doOk ns fs 0 = true) := HV
  have HL := Lib.hid (doR_len h24 fs)
  have H24 := Lib.hid h24
  clear b2 K0 G1 RY1 hcc c24 c24' hu0 HV
  have c24 := RY.pours
  unfold onV
  go_wp2_with fail
  clear c24 hnf
  go_loopw [4, 31] (fun u i wr => ∃ k : Nat, k ≤ n ∧ i = .int .i64 k ∧ Hid (Gr wr w.heap.size 30 24 u (rks ns fs k)) ∧ Has wr c (doR ns fs k) 24 ∧ Hid (Rw wr b (.slice a n cap) n fs) ∧ Hid (∀ z, u.ownBlock = some z → z ≠ c) ∧ Hid (Kept w wr) ∧ Hid (doOk ns fs k = true)) (fun _ i _ => n - (intOf i).toNat)
  case atStart => exact ⟨0, by omega, rfl, G2, hc, HR, AW0, HB, O0⟩
  case round =>
    clear G2 hc HR AW0 HB O0
    obtain ⟨k, hk, rfl, GU, GC, GR, AW, GB, GO⟩ := hrel
    by_cases hlt : k < n
    · have ki : (k : Int) < ((n : Nat) : Int) := by omega
      have k0 : (0 : Int) ≤ (k : Int) := by omega
      obtain ⟨g, cap2, hv', _, hgl⟩ := GR.out.form (by omega)
      injection hv' with ha _ hcap
      subst ha
      subst hcap
      have hR := HL.out k
      have r0 := GR.out.cell (k * 2) (by omega)
      have r1 := GR.out.cell (k * 2 + 1) (by omega)
      have gc : g ≠ c := hcl.out g rfl (by omega)
      have EO := Lib.hid (do_next ns fs k)
      have ER := Lib.hid (doR_next (ns := ns) (fs := fs) k)
      have EK := Lib.hid (rks_next ns fs k)
      have hl2 := pourR_len hR (fs.getD (k * 2) 0) (fs.getD (k * 2 + 1) 0)
      have YES := Lib.hid (show pourOk (doR ns fs k) (fs.getD (k * 2) 0) (fs.getD (k * 2 + 1) 0) = true → doOk ns fs (k + 1) = true from fun h => by rw [EO.out, GO.out, Bool.true_and]; exact h)
      have NO := Lib.hid (show pourOk (doR ns fs k) (fs.getD (k * 2) 0) (fs.getD (k * 2 + 1) 0) = false → rpOk ns fs n = false from fun h => rp_off (k := k + 1) (by rw [EO.out, GO.out, Bool.true_and]; exact h) (by omega))
      generalize fs.getD (k * 2) 0 = x at *
      generalize fs.getD (k * 2 + 1) 0 = y at *
      obtain ⟨R, hRR⟩ : ∃ R, doR ns fs k = R := ⟨_, rfl⟩
      rw [hRR] at GC hR ER hl2 YES NO
      clear hRR
      have KC := Lib.hid (fun W hW => goOn1_any R x y c W hW)
      have EY : Hid (pourOk R x y = true → onR R x y = pourR R x y) := Lib.hid (fun h => by unfold onR; rw [if_pos h])
      generalize onR R x y = O at *
      generalize pourR R x y = B at *
      generalize pourA R x y = M at *
      generalize pourOk R x y = ok at *
      have RG := Lib.hid (range_two r0 r1)
      have B8 := Has.box (ns := [x, y]) (n := 2) wr 51 rfl (by omega)
      have lu := Lib.hid (fun z hz => (GU.out.own z hz))
      replace GU := Lib.hid (GU.out.alloc (.cells (ints [x, y]).toArray 51))
      replace GC := GC.alloc (.cells (ints [x, y]).toArray 51)
      replace GR := Lib.hid (GR.out.alloc (.cells (ints [x, y]).toArray 51))
      replace GB := Lib.hid (GB.out.alloc (.cells (ints [x, y]).toArray 51))
      clear r0 r1
      go_wp2_with (first | (refine wpList_load_mid rfl 51 _ rfl g (k * 2) rfl (ints [x, y]) _ RG.out Try.underlying51 rfl (by kernel_rfl) ?_) | (refine store_new rfl 51 _ _ rfl _ _ _ rfl _ rfl _ rfl rfl ?_ ?_ ?_; (· (first | assumption | rfl)); (· kernel_rfl)) | (refine load_has rfl 51 _ rfl _ rfl ?_ 2 ?_ _ Try.underlying51 rfl ?_ ?_; rotate_left; (· (repeat (first | (with_reducible assumption) | ((with_reducible refine Has.box _ _ ?_ ?_) <;> (first | assumption | decide)) | (with_reducible refine Has.alloc ?_ _) | ((with_reducible refine Has.putOther ?_ _ _ ?_); rotate_left; omega; skip) | ((with_reducible refine Has.below ?_ ?_); rotate_left; assumption)))); (· kernel_rfl)))
      refine (KC.out _ GC).mono ?_
      rintro e w4 ⟨rfl, hc4, g4⟩
      replace GU := Lib.hid (GU.out.kept g4 (fun z hz e => AW.out z hz (Option.some.inj e).symm))
      replace GR := Lib.hid (GR.out.grownP g4 (fun _ j hj => .inr (fun e => by have := Option.some.inj hj; have := Option.some.inj (show some g = some j from e); omega)))
      replace GB : Hid (Kept w w4) := Lib.hid (GB.out.gbY g4 hcs)
      have A4 := Has.box w4 30 hl2 (by omega)
      replace GU := Lib.hid (GU.out.alloc (.cells (ints B).toArray 30))
      replace hc4 := hc4.alloc (.cells (ints B).toArray 30)
      replace GR := Lib.hid (GR.out.alloc (.cells (ints B).toArray 30))
      replace GB := Lib.hid (GB.out.alloc (.cells (ints B).toArray 30))
      clear GC g4 B8 KC RG
      cases ok with
      | false =>
        have E := Lib.hid (NO.out rfl)
        have hws := GB.out.size
        clear YES NO EY EO ER EK
        go_upto_region 10 with (refine store_new rfl 30 _ _ rfl _ _ _ rfl _ rfl _ rfl rfl ?_ ?_ ?_; (· (first | assumption | rfl)); (· kernel_rfl))
        generalize w4.alloc (.cells (ints B).toArray 30) = W5 at *
        have G0 := Lib.hid ((Gr.none W5 w.heap.size 30 24 (by omega)).as (rk_no E.out).symm)
        have HB2 := Lib.hid (GB.out.alloc (.cells #[] 30))
        go_wp2_with fail
        go_ret2
        exact ⟨_, by rw [E.out]; rfl, G0.out, HB2.out⟩
      | true =>
        have GO2 := Lib.hid (YES.out rfl)
        have eO := EY.out rfl
        subst eO
        have hws := GB.out.size
        have hcw := hc4.lt
        clear YES NO EY EO GO
        have l5 := A4.lt
        go_upto_region 11 with (refine store_new rfl 30 _ _ rfl _ _ _ rfl _ rfl _ rfl rfl ?_ ?_ ?_; (· (first | assumption | rfl)); (· kernel_rfl))
        obtain ⟨ab, hab⟩ : ∃ ab, w4.heap.size = ab := ⟨_, rfl⟩
        rw [hab] at A4 l5 ⊢
        generalize w4.alloc (.cells (ints O).toArray 30) = W5 at *
        clear hab
        have lU := Lib.hid (fun z hz => (GU.out.own z hz).1)
        go_wp2_with (first | (refine load_has rfl 30 _ rfl ab rfl O 24 A4 _ Try.underlying30 rfl ?_ ?_; (· kernel_rfl)) | (refine wpList_slice1 rfl 64 30 _ rfl 24 192 Try.underlying64 (by kernel_rfl) (by omega) (by omega) O rfl hl2 ?_) | (at_builtin; refine append_gr rfl _ _ 64 rfl w.heap.size 30 24 192 Try.underlying64 (by kernel_rfl) (by omega) (by omega) _ (k + 1) (rks ns fs k) (rks_len ns fs k) rfl (GU.out.alloc _) W5.heap.size 1 rfl O (Has.box W5 30 hl2 (by omega)) (by rw [size1]; omega) (by omega) ?_; intro g' cu' w7 hG hgrow hlie hlt7))
        have N1 := Lib.hid (hG.as (show rks ns fs k ++ [O] = rks ns fs (k + 1) by rw [EK.out, ER.out]))
        have N2 : Has w7 c (doR ns fs (k + 1)) 24 := by rw [ER.out]; exact (hc4.alloc (.cells (ints O).toArray 30)).grownNo hgrow (fun e => AW.out c e.symm rfl)
        have N3 := Lib.hid ((GR.out.alloc (.cells (ints O).toArray 30)).grownP hgrow (fun h0 j hj => .inr (fun e => by
          have h1 := Option.some.inj (show some g = some j from e)
          have h2 := lU.out j hj
          have h3 := AP.out h0 g rfl
          omega)))
        have N5 : Hid (Kept w w7) := Lib.hid ((GB.out.alloc (.cells (ints O).toArray 30)).grown hgrow (by rw [size1]; omega) (fun j hj => lU.out j hj))
        have N4 : Hid (∀ z, (Value.slice (some ⟨g', 0, none⟩) (k + 1 + 1) cu').ownBlock = some z → z ≠ c) := Lib.hid (fun z hz => by
          have h1 := Option.some.inj (show some g' = some z from hz)
          rcases hlie with h3 | h3
          · rw [← h1]; exact AW.out g' h3
          · rw [size1] at h3; omega)
        clear hG hgrow hlie hlt7 GU GR GB AW hc4 A4 lU
        go_wp2_with fail
        go_roundw
        case rel => exact ⟨k + 1, by omega, by go_num, N1, N2, N3, N4, N5, GO2⟩
        case measure => simp [intOf]; omega
    · obtain rfl : k = n := by omega
      have E := Lib.hid (rp_of hn60 GO.out)
      have G9 := Lib.hid (GU.out.as (rk_yes E.out).symm)
      clear GU
      go_wp2_with fail
      go_ret2
      exact ⟨_, by rw [E.out]; rfl, G9.out, GB.out⟩
end Go.Proofs.Ytalngdccjoafhab.base
