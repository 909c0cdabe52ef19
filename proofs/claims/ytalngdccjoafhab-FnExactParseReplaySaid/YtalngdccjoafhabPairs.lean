/-
  A slice of pairs that came in, walked: how great it is, and its copy in new memory.
-/
import Derived.Test.YtalngdccjoafhabRackArgZ
import Derived.Test.YtalngdccjoafhabUseS
namespace Go.Proofs.Ytalngdccjoafhab.base
open Go.ChangeShapes Go.WideShapes Go.ChangeAt Go.RowKit
set_option linter.unusedVariables false
set_option linter.unusedSimpArgs false

theorem szA2S (a : Option Addr) (len cap : Nat) (w : World) (h : len ≤ maxLen) :
    Calls Try.prog 26 #[.slice a len cap, .int .i64 1048576] w fun e w' => (∃ r : Int, e = .returned (.int .i64 r) ∧ (r < 0 ∨ (0 ≤ r ∧ len ≤ 1048576))) ∧ w' = w := by
  unfold maxLen at h
  by_cases hb : (1048576 : Int) - (len : Int) < 0
  · go_enter Try.func26, Try.ntmps26
    go_wp2_with fail
    go_ret
    exact ⟨⟨-1, rfl, .inl (by omega)⟩, rfl⟩
  · go_enter Try.func26, Try.ntmps26
    go_wp2_with fail
    go_ret
    exact ⟨⟨_, rfl, .inr ⟨by omega, by omega⟩⟩, rfl⟩

theorem two_new {ns : List Int} (h : ns.length = 2) : ∃ a b, ns = [a, b] := by
  match ns, h with
  | [a, b], _ => exact ⟨a, b, rfl⟩

def upP (xs ys : List Int) (k : Nat) : List Int := xs.take k ++ ys.drop k
theorem upP_set (xs ys : List Int) (k : Nat) (hx : k < xs.length) (hy : k < ys.length) : (upP xs ys k).set k (xs.getD k 0) = upP xs ys (k + 1) := by
  unfold upP
  have hl : (xs.take k).length = k := by rw [List.length_take]; omega
  rw [List.set_append_right _ _ (by omega), hl, Nat.sub_self, List.take_succ_eq_append_getElem hx, List.append_assoc]
  congr 1
  rw [List.drop_eq_getElem_cons hy, List.getD_eq_getElem?_getD, List.getElem?_eq_getElem hx]; rfl
theorem upP_len (xs ys : List Int) (k : Nat) (h : xs.length = ys.length) (hk : k ≤ xs.length) : (upP xs ys k).length = xs.length := by
  unfold upP; rw [List.length_append, List.length_take, List.length_drop]; omega

set_option maxHeartbeats 800000 in
theorem toA2_any (t : List Int) (w : World) (h2 : t.length = 2) :
    Calls Try.prog 65 #[.agg (ints t).toArray] w fun e w' => e = .returned (.agg (ints t).toArray) ∧ Kept w w' := by
  have HB := Lib.hid ((((kept_refl w).alloc (.cells (ints t).toArray 51)).alloc (.cells #[.int .i64 0, .int .i64 0] 51)).alloc (.cells #[.int .i64 0, .int .i64 0] 51))
  have H1 := ((Has.box w 51 h2 (by omega)).alloc (.cells #[.int .i64 0, .int .i64 0] 51)).alloc (.cells #[.int .i64 0, .int .i64 0] 51)
  have H2 := ((Has.box (ns := [0, 0]) (n := 2) (w.alloc (.cells (ints t).toArray 51)) 51 rfl (by omega)).at (size1 _ _)).alloc (.cells #[.int .i64 0, .int .i64 0] 51)
  have H3 := (Has.box (ns := [0, 0]) (n := 2) ((w.alloc (.cells (ints t).toArray 51)).alloc (.cells #[.int .i64 0, .int .i64 0] 51)) 51 rfl (by omega)).at (c := w.heap.size + 1 + 1) (by simp)
  have HL := Lib.hid h2
  clear h2
  go_enter Try.func65, Try.ntmps65
  go_wp2_with fail
  have H2 : Has (((w.alloc (.cells (ints t).toArray 51)).alloc (.cells #[.int .i64 0, .int .i64 0] 51)).alloc (.cells #[.int .i64 0, .int .i64 0] 51)) (w.heap.size + 1) [0, 0] 2 := H2
  have H3 : Has (((w.alloc (.cells (ints t).toArray 51)).alloc (.cells #[.int .i64 0, .int .i64 0] 51)).alloc (.cells #[.int .i64 0, .int .i64 0] 51)) (w.heap.size + 1 + 1) [0, 0] 2 := H3
  generalize (((w.alloc (.cells (ints t).toArray 51)).alloc (.cells #[.int .i64 0, .int .i64 0] 51)).alloc (.cells #[.int .i64 0, .int .i64 0] 51)) = W at *
  go_loopw [4] (fun z wr => ∃ k : Nat, k ≤ 2 ∧ z = .int .i64 k ∧ Has wr w.heap.size t 2 ∧ Has wr (w.heap.size + 1) [0, 0] 2 ∧ Has wr (w.heap.size + 1 + 1) (upP t [0, 0] k) 2 ∧ Hid (Kept w wr)) (fun z _ => 2 - (intOf z).toNat)
  case atStart => exact ⟨0, by omega, rfl, H1, H2, H3, HB⟩
  case round =>
    obtain ⟨k, hk, rfl, G1, G2, G3, GB⟩ := hrel
    by_cases h : k < 2
    · have c1 := G1.cell k h
      have c3 := G3.cell k h
      have f3 := G3.free k h
      have hki : (k : Int) < 2 := by omega
      have hk0 : (0 : Int) ≤ (k : Int) := by omega
      have K1 := G1.setOther (b' := w.heap.size + 1 + 1) k (.int .i64 (t.getD k 0)) (by omega)
      have K2 := G2.setOther (b' := w.heap.size + 1 + 1) k (.int .i64 (t.getD k 0)) (by omega)
      have K3 := G3.set k (t.getD k 0) h
      rw [upP_set t [0, 0] k (by rw [HL.out]; exact h) h] at K3
      have KB := Lib.hid (GB.out.set (b := w.heap.size + 1 + 1) (by omega) k (.int .i64 (t.getD k 0)))
      clear G1 G2 G3 GB
      generalize t.getD k 0 = x at *
      generalize (upP t [0, 0] k).getD k 0 = y at *
      go_wp2_with fail
      go_roundw
      case rel => exact ⟨k + 1, by omega, by go_num, K1, K2, K3, KB⟩
      case measure => simp [intOf]; omega
    · obtain rfl : k = 2 := by omega
      have E : upP t [0, 0] 2 = t := by unfold upP; rw [List.take_of_length_le (by rw [HL.out]; omega)]; simp
      rw [E] at G3
      clear E
      have D2 := G2.putAll t HL.out
      have DB := Lib.hid (GB.out.puts (b := w.heap.size + 1) (by omega) 0 (ints t))
      have hL := HL.out
      go_wp2_with (first | (refine store_at rfl 51 _ _ rfl _ _ rfl rfl ?_ 2 ?_ ?_ ?_ ?_; rotate_left; (· (repeat (first | (with_reducible assumption) | ((with_reducible refine Has.box _ _ ?_ ?_) <;> (first | assumption | decide)) | (with_reducible refine Has.alloc ?_ _) | ((with_reducible refine Has.putOther ?_ _ _ ?_); rotate_left; omega; skip) | ((with_reducible refine Has.below ?_ ?_); rotate_left; assumption)))); (· (first | assumption | rfl)); (· kernel_rfl)) | (refine load_has rfl 51 _ rfl _ rfl ?_ 2 ?_ _ Try.underlying51 rfl ?_ ?_; rotate_left; (· (repeat (first | (with_reducible assumption) | ((with_reducible refine Has.box _ _ ?_ ?_) <;> (first | assumption | decide)) | (with_reducible refine Has.alloc ?_ _) | ((with_reducible refine Has.putOther ?_ _ _ ?_); rotate_left; omega; skip) | ((with_reducible refine Has.below ?_ ?_); rotate_left; assumption)))); (· kernel_rfl)))
      exact bodyPost_ret (v := .agg (ints t).toArray) (res_has (P := Try.prog) rfl _ _ (w.heap.size + 1) t 2 _ rfl D2 Try.underlying51 rfl (by kernel_rfl)) rfl ⟨rfl, DB.out⟩

theorem Prs.put {w : World} {b g cap n : Nat} {fs : List Int} (h : Prs w b (.slice (some ⟨g, 0, Option.none⟩) n cap) n fs) (k : Nat) (x y : Int) :
    Prs (w.setCells g (k * 2) (ints [x, y])) b (.slice (some ⟨g, 0, Option.none⟩) n cap) n ((fs.set (k * 2) x).set (k * 2 + 1) y) ∧ w.grownBy (w.setCells g (k * 2) (ints [x, y])) (some g) := by
  obtain ⟨a1, a2⟩ := World.ownsRow.stored h (k * 2) (.int .i64 x)
  obtain ⟨b1, b2⟩ := World.ownsRow.stored a1 (k * 2 + 1) (.int .i64 y)
  rw [ints_set, ints_set] at b1
  exact ⟨b1, ⟨b2.os.trans a2.os, b2.tape.trans a2.tape, b2.output.trans a2.output, Nat.le_trans a2.size b2.size, fun i hi hn => (b2.block i (Nat.lt_of_lt_of_le hi a2.size) hn).trans (a2.block i hi hn)⟩⟩
theorem Prs.there {w : World} {b g cap n : Nat} {fs : List Int} (h : Prs w b (.slice (some ⟨g, 0, Option.none⟩) n cap) n fs) (k : Nat) (hk : k < n) : w.there g (k * 2) 2 := fun j hj => by
  rw [h.cell (k * 2 + j) (by omega)]
  exact ⟨rfl, World.ownsRow.frozenAt h _⟩
theorem upP_two (xs ys : List Int) (n k : Nat) (hx : xs.length = n * 2) (hy : ys.length = n * 2) (hk : k < n) : ((upP xs ys (k * 2)).set (k * 2) (xs.getD (k * 2) 0)).set (k * 2 + 1) (xs.getD (k * 2 + 1) 0) = upP xs ys ((k + 1) * 2) := by
  rw [upP_set xs ys (k * 2) (by omega) (by omega), upP_set xs ys (k * 2 + 1) (by omega) (by omega), show (k + 1) * 2 = k * 2 + 1 + 1 by omega]
theorem made_zero (n : Nat) : (madeCells (Value.agg #[.int .i64 0, .int .i64 0]).cells n).toList = ints (List.replicate n 0) := by
  have h : ∀ j : Nat, (#[Value.int .i64 0, Value.int .i64 0] : Array Value)[j % 2]! = .int .i64 0 := fun j => by
    have : j % 2 = 0 ∨ j % 2 = 1 := by omega
    rcases this with h | h <;> rw [h] <;> rfl
  have e : (Value.agg #[.int .i64 0, .int .i64 0]).cells = #[Value.int .i64 0, Value.int .i64 0] := rfl
  rw [e]
  apply List.ext_getElem?
  intro j
  unfold madeCells ints
  by_cases hj : j < n
  · simp [hj, h]
  · simp [hj]

set_option maxHeartbeats 1600000 in
theorem toA2S (a : Option Addr) (len cap : Nat) (zs : List Int) (w : World) (h : IsPairs w a len zs) (hl : len ≤ 1048576) :
    Calls Try.prog 33 #[.slice a len cap] w fun e w' => ∃ v : Value, e = .returned v ∧ Prs w' w.heap.size v len zs ∧ Kept w w' := by
  obtain ⟨i0, hi, hz0, hz1, hz2⟩ := info_parts infoPair
  have HH := Lib.hid h
  clear h
  go_enter Try.func33, Try.ntmps33
  go_wp2_with (at_make; refine wpList_make_full w rfl _ _ 26 rfl w.heap.size 51 i0 (.agg #[.int .i64 0, .int .i64 0]) 2 Try.underlying26 hi hz0 hz1 .i64 .i64 _ _ len rfl rfl rfl rfl (by rw [hz2]; omega) (by unfold maxLen; omega) (Nat.le_refl _) ?_; intro w1 hown hgrow)
  rw [made_zero] at hown
  have HB := Lib.hid ((Below.refl w.heap.size w).grown hgrow (Nat.le_refl _) (fun k e => by cases e))
  have HW : Hid (Prs w1 w.heap.size (.slice (some ⟨w.heap.size, 0, none⟩) len len) len (upP zs (List.replicate (len * 2) 0) (0 * 2))) := Lib.hid (by
    have e : upP zs (List.replicate (len * 2) 0) (0 * 2) = List.replicate (len * 2) 0 := by simp [upP]
    rw [e]; exact hown)
  clear hown hgrow
  go_loopw [4] (fun i wr => ∃ k : Nat, k ≤ len ∧ i = .int .i64 k ∧ Hid (Prs wr w.heap.size (.slice (some ⟨w.heap.size, 0, none⟩) len len) len (upP zs (List.replicate (len * 2) 0) (k * 2))) ∧ Hid (Kept w wr)) (fun i _ => len - (intOf i).toNat)
  case atStart => exact ⟨0, Nat.zero_le _, rfl, HW, HB⟩
  case round =>
    obtain ⟨k, hk, rfl, HR, HK⟩ := hrel
    by_cases hlt : k < len
    · obtain ⟨_, hzl, _, h0 | ⟨b, off, rfl, hbl, hc⟩⟩ := HH.out
      · omega
      · have hb := HK.out
        have r0 : wr.cell? ⟨b, off + k * 2, none⟩ = some (.int .i64 (zs.getD (k * 2) 0)) := (hb.cell (p := ⟨b, off + k * 2, none⟩) hbl).trans (hc (k * 2) (by omega))
        have r1 : wr.cell? ⟨b, off + k * 2 + 1, none⟩ = some (.int .i64 (zs.getD (k * 2 + 1) 0)) := by
          have := (hb.cell (p := ⟨b, off + (k * 2 + 1), none⟩) hbl).trans (hc (k * 2 + 1) (by omega))
          rwa [show off + (k * 2 + 1) = off + k * 2 + 1 by omega] at this
        have RG := Lib.hid (range_two r0 r1)
        have E2 := Lib.hid (upP_two zs (List.replicate (len * 2) 0) len k hzl (by simp) hlt)
        have i0' : (0 : Int) ≤ (k : Int) := by omega
        have i1' : (k : Int) < (len : Int) := by omega
        generalize zs.getD (k * 2) 0 = x at *
        generalize zs.getD (k * 2 + 1) 0 = y at *
        clear hc hb r0 r1 hz0 hz1 hz2 hi
        go_wp2_with (refine wpList_load_mid rfl 51 _ rfl b (off + k * 2) rfl (ints [x, y]) _ RG.out Try.underlying51 rfl (by kernel_rfl) ?_)
        refine (toA2_any [x, y] _ rfl).mono ?_
        rintro e w2 ⟨rfl, b2⟩
        have HR2 := HR.out.below b2
        have HT := Lib.hid (HR2.there k hlt)
        obtain ⟨p1, p2⟩ := HR2.put k x y
        rw [E2.out] at p1
        have P1 := Lib.hid p1
        have HK2 := Lib.hid ((HK.out.call b2).puts (b := w.heap.size) (Nat.le_refl _) (k * 2) (ints [x, y]))
        clear p1 p2 HR2 b2 HR HK RG
        go_wp2_with (refine store_has rfl 51 _ _ rfl w.heap.size (k * 2) [x, y] rfl rfl 2 rfl HT.out (by kernel_rfl) ?_)
        go_roundw
        case rel => exact ⟨k + 1, by omega, by go_num, P1, HK2⟩
        case measure => simp [intOf]; omega
    · obtain rfl : k = len := by omega
      have HF : Hid (Prs wr w.heap.size (.slice (some ⟨w.heap.size, 0, none⟩) k k) k zs) := Lib.hid (by
        have e : upP zs (List.replicate (k * 2) 0) (k * 2) = zs := by
          unfold upP; rw [List.take_of_length_le (by have := HH.out.2.1; omega), List.drop_of_length_le (by simp), List.append_nil]
        have := HR.out
        rwa [e] at this)
      clear HR
      go_wp2_with fail
      go_ret
      exact ⟨_, rfl, HF.out, HK.out⟩
end Go.Proofs.Ytalngdccjoafhab.base
