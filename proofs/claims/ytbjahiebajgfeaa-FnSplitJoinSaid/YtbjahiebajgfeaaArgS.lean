/-
  The law's own helpers for a slice of strings that came in, walked: how great it is, and its copy in new memory.
-/
import Derived.Test.YtbjahiebajgfeaaMark
namespace Go.Proofs.Ytbjahiebajgfeaa.base
open Go.ChangeShapes Go.WideShapes Go.ChangeAt Go.RowKit
set_option linter.unusedVariables false

/-- What the walk is told of a slice of strings that came in. -/
def IsStrs (w : World) (a : Option Addr) (len : Nat) (xs : List ByteArray) : Prop :=
  (len = 0 ∧ xs = []) ∨ ∃ b off : Nat, a = some ⟨b, off, none⟩ ∧ len = xs.length ∧ 0 < len ∧ b < w.heap.size ∧ ∀ (j : Nat) x, xs[j]? = some x → w.cell? ⟨b, off + j, none⟩ = some (.string x)

theorem IsStrs.below {w w' : World} {a : Option Addr} {len : Nat} {xs : List ByteArray} (h : IsStrs w a len xs) (hb : Below w.heap.size w w') : IsStrs w' a len xs := by
  rcases h with h | ⟨b, off, h1, h2, h3, h4, h5⟩
  · exact .inl h
  · exact .inr ⟨b, off, h1, h2, h3, Nat.lt_of_lt_of_le h4 hb.size, fun j x hj => (hb.cell (p := ⟨b, off + j, none⟩) h4).trans (h5 j x hj)⟩

theorem IsStrs.len {w : World} {a : Option Addr} {len : Nat} {xs : List ByteArray} (h : IsStrs w a len xs) : len = xs.length := by
  rcases h with ⟨h1, h2⟩ | ⟨b, off, h1, h2, _⟩
  · rw [h1, h2]; rfl
  · exact h2

theorem strs_of {w : World} {x : Addr} {len cap : Nat} {zs : List ByteArray} (hl : len ≤ cap) (hz : zs.length = cap) (hcell : ∀ i, i < zs.length → w.cell? (x.add i) = some (.string (zs.getD i ByteArray.empty))) : IsStrs w (some x) len (zs.take len) := by
  by_cases h0 : len = 0
  · exact .inl ⟨h0, by rw [h0]; rfl⟩
  · obtain ⟨b, off, spot⟩ := x
    have hc := hcell 0 (by omega)
    have hspot : spot = none := by simpa [Addr.add] using World.cell?_spot hc
    subst hspot
    have hc0 : w.cell? ⟨b, off, none⟩ = some (.string (zs.getD 0 ByteArray.empty)) := by simpa [Addr.add] using hc
    refine .inr ⟨b, off, rfl, by rw [List.length_take]; omega, by omega, World.block_lt_of_cell? _ _ hc0, fun j y hj => ?_⟩
    have hjl : j < zs.length := by
      rcases Nat.lt_or_ge j zs.length with h1 | h1
      · exact h1
      · rw [List.getElem?_eq_none (by rw [List.length_take]; omega)] at hj; cases hj
    have hjlen : j < len := by
      rcases Nat.lt_or_ge j len with h1 | h1
      · exact h1
      · rw [List.getElem?_eq_none (by rw [List.length_take]; omega)] at hj; cases hj
    have := hcell j hjl
    rw [List.getElem?_take_of_lt hjlen] at hj
    have e : zs.getD j ByteArray.empty = y := by rw [List.getD_eq_getElem?_getD, hj]; rfl
    rw [e] at this
    have hadd : (⟨b, off, none⟩ : Addr).add j = ⟨b, off + j, none⟩ := by unfold Addr.add; split <;> simp_all
    rwa [hadd] at this

/-- How many bytes some strings have together. -/
def sizes (xs : List ByteArray) : Nat := (xs.map (·.size)).sum
theorem sizes_snoc (xs : List ByteArray) (k : Nat) (x : ByteArray) (h : xs[k]? = some x) : sizes (xs.take (k + 1)) = sizes (xs.take k) + x.size := by
  have hlt : k < xs.length := by
    rcases Nat.lt_or_ge k xs.length with h1 | h1
    · exact h1
    · rw [List.getElem?_eq_none h1] at h; cases h
  rw [List.take_succ_eq_append_getElem hlt]
  rw [List.getElem?_eq_getElem hlt] at h
  injection h with h
  unfold sizes
  rw [List.map_append, List.sum_append, h]; simp
theorem sizes_le (xs : List ByteArray) (k : Nat) : sizes (xs.take k) ≤ sizes xs := by
  conv => rhs; rw [← List.take_append_drop k xs]
  unfold sizes; rw [List.map_append, List.sum_append]; omega

def Small (xs : List ByteArray) : Prop := xs.length + sizes xs ≤ 1048576
/-- What szStringS answers. -/
def SzPost (xs : List ByteArray) (w : World) (e : Ending) (w' : World) : Prop := ∃ r : Int, e = .returned (.int .i64 r) ∧ w = w' ∧ ((r = -1 ∧ ¬ Small xs) ∨ (0 ≤ r ∧ Small xs))

set_option maxHeartbeats 1600000 in
theorem szS (a : Option Addr) (len cap : Nat) (xs : List ByteArray) (w : World) (h : IsStrs w a len xs) (hl : xs.length ≤ maxLen) (hx : ∀ x ∈ xs, x.size ≤ maxLen) :
    Calls Try.prog 21 #[.slice a len cap, .int .i64 1048576] w (SzPost xs w) := by
  unfold maxLen at hl hx
  rcases h with ⟨rfl, rfl⟩ | ⟨b, off, rfl, rfl, hpos, hbl, hc⟩
  · go_enter Try.func21, Try.ntmps21
    go_wp2_with fail
    go_loop [1, 5] (fun q i => i = .int .i64 0 ∧ q = .int .i64 1048576) (fun _ _ => 0)
    case atStart => exact ⟨rfl, rfl⟩
    case round =>
      obtain ⟨rfl, rfl⟩ := hrel
      go_wp2_with fail
      go_ret
      exact ⟨1048576, rfl, rfl, .inr ⟨by decide, by unfold Small sizes; decide⟩⟩
  · have HC := Lib.hid hc; clear hc
    by_cases hbig : (1048576 : Int) - (xs.length : Int) < 0
    · go_enter Try.func21, Try.ntmps21
      go_wp2_with fail
      go_ret
      exact ⟨-1, rfl, rfl, .inl ⟨rfl, by unfold Small; omega⟩⟩
    · go_enter Try.func21, Try.ntmps21
      go_wp2_with fail
      go_loop [1, 5] (fun q i => ∃ k r : Nat, k ≤ xs.length ∧ i = .int .i64 k ∧ q = .int .i64 r ∧ r + xs.length + sizes (xs.take k) = 1048576) (fun _ i => xs.length - (intOf i).toNat)
      case atStart => exact ⟨0, 1048576 - xs.length, Nat.zero_le _, rfl, by congr 1; omega, by simp [sizes]; omega⟩
      case round =>
        obtain ⟨k, r, hk, rfl, rfl, hr⟩ := hrel
        have hr1 : r ≤ 1048576 := by omega
        have HR := Lib.hid hr; clear hr
        by_cases hlt : k < xs.length
        · obtain ⟨x, hxk⟩ : ∃ x, xs[k]? = some x := ⟨_, List.getElem?_eq_getElem hlt⟩
          have hcell := HC.out k x hxk
          have hxs : x.size ≤ 9223372036854775807 := hx x (List.mem_of_getElem? hxk)
          have HN := Lib.hid (sizes_snoc xs k x hxk)
          have HL := Lib.hid (sizes_le xs (k + 1))
          clear hxk hx
          by_cases hneg : (r : Int) - (x.size : Int) < 0
          · go_wp2_with fail
            go_ret
            exact ⟨-1, rfl, rfl, .inl ⟨rfl, by unfold Small; have h1 := HR.out; have h2 := HN.out; have h3 := HL.out; omega⟩⟩
          · go_wp2_with fail
            go_round
            case rel => exact ⟨k + 1, r - x.size, by omega, by go_num, by congr 1; omega, by have h1 := HR.out; rw [HN.out]; omega⟩
            case measure => simp [intOf]; omega
        · go_wp2_with fail
          go_ret
          refine ⟨r, rfl, rfl, .inr ⟨by omega, ?_⟩⟩
          unfold Small; have h1 := HR.out; rw [List.take_of_length_le (by omega)] at h1; omega

theorem toS_none : (Try.prog.info? 9).map (fun i => (i.zero, i.size, i.bytes)) = some (some (.string ByteArray.empty), 1, 16) := infoStr

/-- The first i of some values are those of another list. -/
def upTo (xs ys : List Value) (i : Nat) : List Value := xs.take i ++ ys.drop i
theorem upTo_set (xs ys : List Value) (i : Nat) (u : Value) (hu : xs[i]? = some u) (h : i < ys.length) : (upTo xs ys i).set i u = upTo xs ys (i + 1) := by
  have hlt : i < xs.length := by
    rcases Nat.lt_or_ge i xs.length with h1 | h1
    · exact h1
    · rw [List.getElem?_eq_none h1] at hu; cases hu
  unfold upTo
  have hl : (xs.take i).length = i := by rw [List.length_take]; omega
  rw [List.set_append_right _ _ (by omega), hl, Nat.sub_self, List.take_succ_eq_append_getElem hlt, List.append_assoc]
  congr 1
  rw [List.drop_eq_getElem_cons h]
  rw [List.getElem?_eq_getElem hlt] at hu; injection hu with hu
  rw [hu]; rfl

set_option maxHeartbeats 1600000 in
theorem toS (a : Option Addr) (len cap : Nat) (xs : List ByteArray) (w : World) (h : IsStrs w a len xs) (hl : xs.length ≤ 1048576) :
    Calls Try.prog 22 #[.slice a len cap] w fun e w' => ∃ v : Value, e = .returned v ∧ w'.ownsRow w.heap.size 9 1 v xs.length (xs.map Value.string) ∧ Below w.heap.size w w' := by
  obtain ⟨i0, hi, hz0, hz1, hz2⟩ := info_parts infoStr
  obtain rfl := h.len
  have HH := Lib.hid h; clear h
  go_enter Try.func22, Try.ntmps22
  go_wp2_with (at_make; refine wpList_make_full w rfl _ _ 26 rfl w.heap.size 9 i0 (.string ByteArray.empty) 1 Try.underlying26 hi hz0 hz1 .i64 .i64 _ _ xs.length rfl rfl rfl rfl (by rw [hz2]; omega) (by unfold maxLen; omega) (Nat.le_refl _) ?_; intro w1 hown hgrow)
  have HB := Lib.hid ((Below.refl w.heap.size w).grown hgrow (Nat.le_refl _) (fun k e => by cases e))
  have HW := Lib.hid hown; clear hown hgrow
  have HLn := Lib.hid (show (madeCells (Value.string ByteArray.empty).cells (xs.length * 1)).toList.length = xs.length by have := HW.out.1; simpa using this)
  generalize (madeCells (Value.string ByteArray.empty).cells (xs.length * 1)).toList = zs at *
  go_loopw [4] (fun i wr => ∃ k : Nat, k ≤ xs.length ∧ i = .int .i64 k ∧ Hid (wr.ownsRow w.heap.size 9 1 (.slice (some ⟨w.heap.size, 0, none⟩) xs.length xs.length) xs.length (upTo (xs.map Value.string) zs k)) ∧ Below w.heap.size w wr) (fun i _ => xs.length - (intOf i).toNat)
  case atStart => exact ⟨0, Nat.zero_le _, rfl, Lib.hid (by have : upTo (xs.map Value.string) zs 0 = zs := by simp [upTo]
                                                            rw [this]; exact HW.out), HB.out⟩
  case round =>
    obtain ⟨k, hk, rfl, HR, hb⟩ := hrel
    by_cases hlt : k < xs.length
    · obtain ⟨x, hxk⟩ : ∃ x, xs[k]? = some x := ⟨_, List.getElem?_eq_getElem hlt⟩
      rcases HH.out with ⟨h0, _⟩ | ⟨b, off, rfl, _, hpos, hbl, hc⟩
      · omega
      · have hcell : wr.cell? ⟨b, off + k, none⟩ = some (.string x) := (hb.cell (p := ⟨b, off + k, none⟩) hbl).trans (hc k x hxk)
        obtain ⟨u, hu⟩ : ∃ u, (upTo (xs.map Value.string) zs k)[k]? = some u := ⟨_, List.getElem?_eq_getElem (by unfold upTo; have := HLn.out; simp; omega)⟩
        have hold := row_cell HR.out k u hu
        have hfree := row_free HR.out k
        have hS := HR.out.stored k (.string x)
        rw [upTo_set _ _ _ _ (by rw [List.getElem?_map, hxk]; rfl) (by have := HLn.out; omega)] at hS
        have HS := Lib.hid hS
        have HB2 := Lib.hid (hb.setCell (p := ⟨w.heap.size, k, none⟩) (Nat.le_refl _) (.string x))
        have i0' : (0 : Int) ≤ (k : Int) := by omega
        have i1' : (k : Int) < (xs.length : Int) := by omega
        clear hc hxk hu hS hb hz0 hz1 hz2 hi
        go_wp2_with fail
        go_roundw
        case rel => exact ⟨k + 1, by omega, by go_num, Lib.hid HS.out.1, HB2.out⟩
        case measure => simp [intOf]; omega
    · obtain rfl : k = xs.length := by omega
      have hf : upTo (xs.map Value.string) zs xs.length = xs.map Value.string := by
        unfold upTo; have := HLn.out
        rw [List.take_of_length_le (by simp), List.drop_of_length_le (by omega), List.append_nil]
      have HF : Hid (wr.ownsRow w.heap.size 9 1 (.slice (some ⟨w.heap.size, 0, none⟩) xs.length xs.length) xs.length (xs.map Value.string)) := Lib.hid (by have := HR.out; rwa [hf] at this)
      clear hf HR
      go_wp2_with fail
      go_ret
      exact ⟨_, rfl, HF.out, hb⟩
end Go.Proofs.Ytbjahiebajgfeaa.base
