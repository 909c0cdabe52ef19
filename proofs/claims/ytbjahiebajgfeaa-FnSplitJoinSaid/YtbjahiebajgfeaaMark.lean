/-
  The law's own helpers for slices of strings, walked: marks are written, held marks are found again, equal slices are told equal.
-/
import Derived.Test.YtbjahiebajgfeaaSplit
import Derived.Laws.IdiomStrings
import Derived.Laws.OwnMore
import Derived.Laws.Concat
import Derived.Lib.ItoaNum
import Derived.Lib.ItoaLen
import Derived.IntWalk
import Derived.Deep.QuietTactic
import Derived.BigQuiet
import Derived.Deep.RegionHeld3
namespace Go.Proofs.Ytbjahiebajgfeaa.base
open Go.ChangeShapes Go.WideShapes Go.ChangeAt Go.RowKit
set_option linter.unusedVariables false

def mkText (k : Nat) : List UInt8 := 109 :: Lib.decDigits k

/-- Behind some rounds: m is still to be told, out has been told. -/
def Told (K m : Nat) (out : List UInt8) : Prop := (m = 0 ∧ out = Lib.decDigits K) ∨ (0 < m ∧ m ≤ K ∧ Lib.decDigits K = Lib.decDigits m ++ out)

def dg (m : Nat) : UInt8 := UInt8.ofNat (48 + m % 10)
theorem dg_nat (m : Nat) : (dg m).toNat = 48 + m % 10 := by unfold dg; simp [UInt8.toNat_ofNat]; omega
theorem told_step {K m : Nat} {out : List UInt8} (h : Told K m out) (hm : 0 < m) : Told K (m / 10) (dg m :: out) := by
  unfold dg
  rcases h with ⟨h, _⟩ | ⟨_, hle, h⟩
  · omega
  · by_cases h10 : m < 10
    · left
      refine ⟨by omega, ?_⟩
      rw [h, Lib.decDigits.eq_1 m, dif_pos h10, Nat.mod_eq_of_lt h10]; rfl
    · right
      refine ⟨by omega, by omega, ?_⟩
      rw [h, Lib.decDigits.eq_1 m, dif_neg h10]; simp

theorem told_len {K m : Nat} {out : List UInt8} (h : Told K m out) (hK : K < 18446744073709551616) : out.length ≤ 20 := by
  have h1 := Lib.nDigits_le20 K hK
  have h2 := Lib.decDigits_length K
  rcases h with ⟨_, rfl⟩ | ⟨_, _, h⟩
  · omega
  · rw [h, List.length_append] at h2; omega

theorem add_front (c : UInt8) (out : List UInt8) (h : out.length ≤ 100) (W : World) : (Op.stringOp .add ⟨#[c]⟩ ⟨out.toArray⟩).run Try.prog W = .ok (.string ⟨(c :: out).toArray⟩) W := by
  rw [run_string_add_sum]
  · congr 2
  · have : (⟨out.toArray⟩ : ByteArray).size = out.length := by show out.toArray.size = _; simp
    rw [this]; show 1 + _ ≤ _; omega

set_option maxHeartbeats 800000 in
theorem markText_pos (K : Nat) (w : World) (h0 : 0 < K) (h1 : K ≤ 1099511627776) :
    Calls Try.prog 34 #[.int .i64 (K : Int)] w fun e w' => e = .returned (.string ⟨(mkText K).toArray⟩) ∧ Below w.heap.size w w' := by
  have g0 : ¬ (K : Int) ≤ 0 := by omega
  go_enter Try.func34, Try.ntmps34
  go_wp2_with fail
  go_loopw [0, 3] (fun i o wr => ∃ (m : Nat) (out : List UInt8), i = .int .i64 m ∧ o = .string ⟨out.toArray⟩ ∧ Hid (Told K m out) ∧ m ≤ K ∧ Below w.heap.size w wr)
    (fun i _ _ => (intOf i).toNat)
  case atStart => exact ⟨K, [], rfl, rfl, Lib.hid (.inr ⟨h0, Nat.le_refl _, by simp⟩), Nat.le_refl _, Below.refl _ _⟩
  case round =>
    obtain ⟨m, out, rfl, rfl, HT, hmK, hb⟩ := hrel
    have hlen := told_len HT.out (by omega)
    by_cases hm : 0 < m
    · have HT2 := Lib.hid (told_step HT.out hm)
      have hadd := add_front (dg m) out (by omega)
      have hconv : (convert 22 9 (.slice (some ⟨wr.heap.size, 0, none⟩) 1 1)).run Try.prog (wr.alloc (.cells #[.int .u8 (48 + (m : Int) % 10)] 5)) = .ok (.string ⟨#[dg m]⟩) (wr.alloc (.cells #[.int .u8 (48 + (m : Int) % 10)] 5)) := by
        have := run_convert_bytes_back (P := Try.prog) (wr.alloc (.cells #[.int .u8 (48 + (m : Int) % 10)] 5)) 22 9 5 ⟨wr.heap.size, 0, none⟩ 1 [dg m] Try.underlying22 Try.underlying5 Try.underlying9 (fun j hj => by
          obtain rfl : j = 0 := by simpa using hj
          have e : ((([dg m] : List UInt8)[0]'hj).toNat : Int) = 48 + (m : Int) % 10 := by
            show ((dg m).toNat : Int) = _
            rw [dg_nat]; omega
          rw [e]
          exact (cell_one_new _ _ _) 0 _ rfl)
        exact this
      go_wp2_with fail
      go_roundw
      case rel => exact ⟨m / 10, dg m :: out, by go_num, rfl, HT2, by omega, hb.alloc hb.size _⟩
      case measure => simp [intOf]; omega
    · have HE : Hid (out = Lib.decDigits K) := Lib.hid (by
        rcases HT.out with ⟨_, h⟩ | ⟨h, _⟩
        · exact h
        · omega)
      have hadd := add_front 109 out (by omega)
      go_wp2_with fail
      go_ret
      exact ⟨by unfold mkText; rw [← HE.out]; rfl, hb⟩

theorem markText_any (K : Int) (w : World) (h0 : 0 ≤ K) (h1 : K ≤ 1099511627776) :
    Calls Try.prog 34 #[.int .i64 K] w fun e w' => e = .returned (.string ⟨(mkText K.toNat).toArray⟩) ∧ Below w.heap.size w w' := by
  obtain ⟨k, rfl⟩ := Int.eq_ofNat_of_zero_le h0
  rw [Int.toNat_natCast]
  by_cases hk : 0 < k
  · exact markText_pos k w hk (by omega)
  · obtain rfl : k = 0 := by omega
    go_enter Try.func34, Try.ntmps34
    go_wp2_with fail
    go_ret
    have e0 : (⟨(mkText 0).toArray⟩ : ByteArray) = ⟨#[109, 48]⟩ := by decide +kernel
    exact ⟨by rw [e0]; rfl, Below.refl _ _⟩

/-- What a slice of strings reads as: its cells, wherever it lies. -/
def Reads (w : World) (v : Value) (ps : List (List UInt8)) : Prop :=
  ∃ (a : Option Addr) (cap : Nat), v = .slice a ps.length cap ∧ (ps = [] ∨ ∃ g : Nat, a = some ⟨g, 0, none⟩) ∧ ∀ (g : Nat), a = some ⟨g, 0, none⟩ → ∀ j p, ps[j]? = some p → w.cell? ⟨g, j, none⟩ = some (strV p)

theorem row_none {w : World} {base : Nat} {e : TypeId} {size : Nat} {v : Value} {xs : List Value} (h : w.ownsRow base e size v 0 xs) : ∃ a cap, v = .slice a 0 cap := by
  rcases h.2 with ⟨h, _⟩ | ⟨g, cap, cur, hv, _⟩
  · exact ⟨none, 0, h⟩
  · exact ⟨_, cap, hv⟩

theorem row_cell {w : World} {base : Nat} {e : TypeId} {g n cap : Nat} {xs : List Value} (h : w.ownsRow base e 1 (.slice (some ⟨g, 0, none⟩) n cap) n xs) (j : Nat) (u : Value) (hj : xs[j]? = some u) : w.cell? ⟨g, j, none⟩ = some u := by
  have := h.cells rfl j u hj
  have hadd : (⟨g, 0, none⟩ : Addr).add j = ⟨g, j, none⟩ := by unfold Addr.add; split <;> simp_all
  rwa [hadd] at this

set_option maxHeartbeats 800000 in
theorem eqS_same (v1 v2 : Value) (b1 b2 : Nat) (ps : List (List UInt8)) (w : World) (hl : ps.length ≤ 1099511627776)
    (h1 : w.ownsRow b1 9 1 v1 ps.length (ps.map strV)) (h2 : w.ownsRow b2 9 1 v2 ps.length (ps.map strV)) :
    Calls Try.prog 18 #[v1, v2] w fun e w' => e = .returned (.bool true) ∧ ∃ d, w' = w.drewN d := by
  cases hp : ps.length with
  | zero =>
    rw [hp] at h1 h2
    obtain ⟨a1, c1, rfl⟩ := row_none h1
    obtain ⟨a2, c2, rfl⟩ := row_none h2
    clear h1 h2 hp
    go_enter Try.func18, Try.ntmps18
    go_wp2_with fail
    go_loop [5] (fun i => i = .int .i64 0) (fun i => 0)
    case atStart => rfl
    case round =>
      obtain rfl := hrel
      go_wp2_with fail
      go_ret
      exact ⟨rfl, 0, rfl⟩
  | succ n =>
    rw [hp] at h1 h2
    obtain ⟨g1, c1, rfl⟩ := row_succ h1
    obtain ⟨g2, c2, rfl⟩ := row_succ h2
    have H1 := Lib.hid (fun j p (hj : ps[j]? = some p) => row_cell h1 j (strV p) (by rw [List.getElem?_map, hj]; rfl))
    have H2 := Lib.hid (fun j p (hj : ps[j]? = some p) => row_cell h2 j (strV p) (by rw [List.getElem?_map, hj]; rfl))
    have hn : n + 1 ≤ 1099511627776 := by omega
    have HP := Lib.hid hp
    clear h1 h2 hp hl
    go_enter Try.func18, Try.ntmps18
    go_wp2_with fail
    go_loopw [5] (fun i wr => ∃ (k d : Nat), k ≤ n + 1 ∧ i = .int .i64 k ∧ wr = w.drewN d) (fun i _ => n + 1 - (intOf i).toNat)
    case atStart => exact ⟨0, 0, Nat.zero_le _, rfl, rfl⟩
    case round =>
      obtain ⟨k, d, hk, rfl, rfl⟩ := hrel
      by_cases hlt : k < n + 1
      · obtain ⟨p, hpk⟩ : ∃ p, ps[k]? = some p := by
          have : k < ps.length := by rw [HP.out]; exact hlt
          exact ⟨_, List.getElem?_eq_getElem this⟩
        have r1 : w.cell? ⟨g1, k, none⟩ = some (.string ⟨p.toArray⟩) := H1.out k p hpk
        have r2 : w.cell? ⟨g2, k, none⟩ = some (.string ⟨p.toArray⟩) := H2.out k p hpk
        clear hpk
        have i0 : (0 : Int) ≤ (k : Int) := by omega
        have i1 : (k : Int) < ((n + 1 : Nat) : Int) := by omega
        have i2 : (k : Int) < (n : Int) + 1 := by omega
        go_wp2_with fail
        go_quiet (fail)
        go_wp2_with fail
        go_roundw
        case rel => exact ⟨k + 1, _, by omega, by go_num, rfl⟩
        case measure => simp [intOf]; omega
      · go_wp2_with fail
        go_ret
        exact ⟨rfl, d, rfl⟩

/-- The first i of some values, marked from K on. -/
def marks (K i : Nat) (xs : List Value) : List Value := ((List.range i).map fun j => strV (mkText (K + j))) ++ xs.drop i
theorem marks_zero (K : Nat) (xs : List Value) : marks K 0 xs = xs := by simp [marks]
theorem marks_set (K i : Nat) (xs : List Value) (h : i < xs.length) : (marks K i xs).set i (strV (mkText (K + i))) = marks K (i + 1) xs := by
  unfold marks
  rw [List.set_append_right _ _ (by simp), List.range_succ, List.map_append, List.append_assoc]
  congr 1
  simp only [List.length_map, List.length_range, Nat.sub_self]
  rw [List.drop_eq_getElem_cons h]; rfl
theorem marks_all (K : Nat) (xs ys : List Value) (h : xs.length = ys.length) : marks K xs.length xs = marks K ys.length ys := by
  unfold marks; rw [h, List.drop_of_length_le (Nat.le_of_eq h), List.drop_of_length_le (Nat.le_refl _)]
theorem marks_get (K n i : Nat) (xs : List Value) (hn : xs.length = n) (h : i < n) : (marks K n xs)[i]? = some (strV (mkText (K + i))) := by
  unfold marks
  rw [List.getElem?_append_left (by simpa using h), List.getElem?_map, List.getElem?_range h]; rfl
theorem marks_len (K n : Nat) (xs : List Value) (hn : xs.length = n) : (marks K n xs).length = n := by
  unfold marks; simp; omega

theorem grown_to {w wr wx : World} {g : Nat} (h : w.grownBy wr (some g)) (hb : Below wr.heap.size wr wx) (hg : g < wr.heap.size) : w.grownBy wx (some g) :=
  ⟨hb.os.trans h.os, hb.tape.trans h.tape, hb.output.trans h.output, Nat.le_trans h.size hb.size, fun i hi hn => (hb.block i (Nat.lt_of_lt_of_le hi h.size)).trans (h.block i hi hn)⟩
theorem grown_refl (w : World) (r : Option Nat) : w.grownBy w r := ⟨rfl, rfl, rfl, Nat.le_refl _, fun _ _ _ => rfl⟩
theorem grown_by {a b c : World} {g : Nat} (h : a.grownBy b (some g)) (k : b.grownBy c (some g)) : a.grownBy c (some g) :=
  ⟨k.os.trans h.os, k.tape.trans h.tape, k.output.trans h.output, Nat.le_trans h.size k.size, fun i hi hn => (k.block i (Nat.lt_of_lt_of_le hi h.size) hn).trans (h.block i hi hn)⟩
theorem row_below {w wx : World} {base : Nat} {e : TypeId} {size n : Nat} {v : Value} {xs : List Value} (h : w.ownsRow base e size v n xs) (hb : Below w.heap.size w wx) : wx.ownsRow base e size v n xs := by
  refine ⟨h.1, ?_⟩
  rcases h.2 with hn | ⟨g, cap, cur, hv, hbg, hg, rest⟩
  · exact .inl hn
  · exact .inr ⟨g, cap, cur, hv, hbg, (hb.block g (Array.getElem?_eq_some_iff.1 hg).1).trans hg, rest⟩
theorem row_block {w : World} {base : Nat} {e : TypeId} {size n g cap : Nat} {xs : List Value} (h : w.ownsRow base e size (.slice (some ⟨g, 0, none⟩) n cap) n xs) : base ≤ g ∧ g < w.heap.size := h.lt g rfl
theorem row_free {w : World} {base : Nat} {e : TypeId} {g n cap : Nat} {xs : List Value} (h : w.ownsRow base e 1 (.slice (some ⟨g, 0, none⟩) n cap) n xs) (j : Nat) : w.frozen? ⟨g, j, none⟩ = false := by
  rcases h.2 with ⟨h, _⟩ | ⟨g', cap', cur, hv, _, hg, _⟩
  · cases h
  · simp only [Value.slice.injEq, Option.some.injEq, Addr.mk.injEq, and_true, true_and] at hv
    obtain ⟨rfl, rfl⟩ := hv
    unfold World.frozen?; simp [hg]

set_option maxHeartbeats 800000 in
theorem markS (b : Nat) (v : Value) (n K : Nat) (xs : List Value) (w : World) (hxs : xs.length = n) (hn : n ≤ 549755813888) (hK : K ≤ 1000) (h : w.ownsRow b 9 1 v n xs) :
    Calls Try.prog 19 #[v, .int .i64 (K : Int)] w fun e w' => e = .returned (.int .i64 ((K + n : Nat) : Int)) ∧ w'.ownsRow b 9 1 v n (marks K n xs) ∧ w.grownBy w' v.ownBlock ∧ w.heap.size ≤ w'.heap.size := by
  cases n with
  | zero =>
    obtain ⟨a, c, hv⟩ := row_none h
    have HH := Lib.hid h
    have HX := Lib.hid hxs
    clear h hxs
    have HV := Lib.hid hv
    subst hv
    go_enter Try.func19, Try.ntmps19
    go_wp2_with fail
    go_loop [1, 5] (fun q i => i = .int .i64 0 ∧ q = .int .i64 (K : Int)) (fun _ _ => 0)
    case atStart => exact ⟨rfl, rfl⟩
    case round =>
      obtain ⟨rfl, rfl⟩ := hrel
      go_wp2_with fail
      go_ret
      refine ⟨rfl, ?_, grown_refl _ _, Nat.le_refl _⟩
      have h0 : marks K 0 xs = xs := marks_zero K xs
      rw [h0]; exact HH.out
  | succ n =>
    obtain ⟨g, c, rfl⟩ := row_succ h
    have HX := Lib.hid hxs
    clear hxs
    go_enter Try.func19, Try.ntmps19
    go_wp2_with fail
    go_loopw [1, 5] (fun q i wr => ∃ k : Nat, k ≤ n + 1 ∧ i = .int .i64 k ∧ q = .int .i64 ((K + k : Nat) : Int) ∧ Hid (wr.ownsRow b 9 1 (.slice (some ⟨g, 0, none⟩) (n + 1) c) (n + 1) (marks K k xs)) ∧ w.grownBy wr (some g) ∧ w.heap.size ≤ wr.heap.size) (fun _ i _ => n + 1 - (intOf i).toNat)
    case atStart => exact ⟨0, Nat.zero_le _, rfl, rfl, Lib.hid (by rw [marks_zero]; exact h), grown_refl _ _, Nat.le_refl _⟩
    case round =>
      obtain ⟨k, hk, rfl, rfl, HR, hg, hsz⟩ := hrel
      by_cases hlt : k < n + 1
      · have i0 : (0 : Int) ≤ (k : Int) := by omega
        have i2 : (k : Int) < (n : Int) + 1 := by omega
        have HM := Lib.hid (fun W => markText_any ((K : Int) + (k : Int)) W (by omega) (by omega))
        go_wp2_with fail
        refine (HM.out _).mono ?_
        rintro e wx ⟨rfl, hb⟩
        rw [show ((K : Int) + (k : Int)).toNat = K + k from by omega]
        have hR := row_below HR.out hb
        have hgb := row_block HR.out
        have HG := Lib.hid (grown_to hg hb hgb.2)
        have hS := hR.stored k (strV (mkText (K + k)))
        rw [marks_set K k xs (by have := HX.out; omega)] at hS
        obtain ⟨u, hu⟩ : ∃ u, (marks K k xs)[k]? = some u := ⟨_, List.getElem?_eq_getElem (by unfold marks; have := HX.out; simp; omega)⟩
        have hcell := row_cell hR k u hu
        have hfree := row_free hR k
        have HS := Lib.hid hS
        have hbs := hb.size
        clear hu hR hS hgb hb hg HR
        go_wp2_with fail
        go_roundw
        case rel => exact ⟨k + 1, by omega, by go_num, by go_num, Lib.hid HS.out.1, grown_by HG.out HS.out.2, Nat.le_trans (Nat.le_trans hsz hbs) HS.out.2.size⟩
        case measure => simp [intOf]; omega
      · obtain rfl : k = n + 1 := by omega
        go_wp2_with fail
        go_ret
        exact ⟨rfl, HR.out, hg, hsz⟩

set_option maxHeartbeats 1600000 in
theorem heldS (b : Nat) (v : Value) (n K : Nat) (xs : List Value) (w : World) (hxs : xs.length = n) (hn : n ≤ 549755813888) (hK : K ≤ 1000) (h : w.ownsRow b 9 1 v n (marks K n xs)) :
    Calls Try.prog 20 #[v, .int .i64 (K : Int)] w fun e w' => e = .returned (.int .i64 ((K + n : Nat) : Int)) ∧ Below w.heap.size w w' := by
  cases n with
  | zero =>
    obtain ⟨a, c, hv⟩ := row_none h
    clear h hxs
    subst hv
    go_enter Try.func20, Try.ntmps20
    go_wp2_with fail
    go_loop [1, 5] (fun q i => i = .int .i64 0 ∧ q = .int .i64 (K : Int)) (fun _ _ => 0)
    case atStart => exact ⟨rfl, rfl⟩
    case round =>
      obtain ⟨rfl, rfl⟩ := hrel
      go_wp2_with fail
      go_ret
      exact ⟨rfl, Below.refl _ _⟩
  | succ n =>
    obtain ⟨g, c, rfl⟩ := row_succ h
    have HB := Lib.hid (row_block h)
    have HC := Lib.hid (fun j (hj : j < n + 1) => row_cell h j _ (marks_get K (n + 1) j xs hxs hj))
    clear h hxs
    go_enter Try.func20, Try.ntmps20
    go_wp2_with fail
    go_loopw [1, 5] (fun q i wr => ∃ k : Nat, k ≤ n + 1 ∧ i = .int .i64 k ∧ q = .int .i64 ((K + k : Nat) : Int) ∧ Below w.heap.size w wr) (fun _ i _ => n + 1 - (intOf i).toNat)
    case atStart => exact ⟨0, Nat.zero_le _, rfl, rfl, Below.refl _ _⟩
    case round =>
      obtain ⟨k, hk, rfl, rfl, hb⟩ := hrel
      by_cases hlt : k < n + 1
      · have i0 : (0 : Int) ≤ (k : Int) := by omega
        have i2 : (k : Int) < (n : Int) + 1 := by omega
        have HM := Lib.hid (fun W => markText_any ((K : Int) + (k : Int)) W (by omega) (by omega))
        rw [show ((K : Int) + (k : Int)).toNat = K + k from by omega] at HM
        have hcell : wr.cell? ⟨g, k, none⟩ = some (.string ⟨(mkText (K + k)).toArray⟩) := (hb.cell (p := ⟨g, k, none⟩) HB.out.2).trans (HC.out k hlt)
        have HBB := Lib.hid hb
        clear hb
        go_wp2_with fail
        go_region_held3 (fun w' => w'.cell? ⟨g, k, none⟩ = some (.string ⟨(mkText (K + k)).toArray⟩) ∧ Below w.heap.size w w') (first | exact ⟨hcell, HBB.out⟩ | exact ⟨hcell, HBB.out.drew⟩ | exact ⟨hcx, hBx⟩) (first | (go_at_call 34; refine (HM.out _).mono ?_; rintro e wx ⟨rfl, hbx⟩; have hcx := (hbx.cell (p := ⟨g, k, none⟩) (World.block_lt_of_cell? _ _ hcell)).trans hcell; have hBx := HBB.out.drew.trans (hbx.mono HBB.out.drew.size)))
        go_wp2_with fail
        go_roundw
        case rel => exact ⟨k + 1, by omega, by go_num, by go_num, hBx⟩
        case measure => simp [intOf]; omega
      · obtain rfl : k = n + 1 := by omega
        go_wp2_with fail
        go_ret
        exact ⟨rfl, hb⟩
end Go.Proofs.Ytbjahiebajgfeaa.base
