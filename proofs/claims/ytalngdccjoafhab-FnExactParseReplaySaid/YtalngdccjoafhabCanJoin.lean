/-
  Whether texts can be joined, walked: the program's nested loops answer whether no text has the separator and the whole is not too long.
-/
import Derived.Test.YtalngdccjoafhabArgS
import Derived.Deep.LoopGhost
import Derived.WalkMore
namespace Go.Proofs.Ytalngdccjoafhab.base
open Go.ChangeShapes Go.WideShapes Go.ChangeAt Go.RowKit
set_option linter.unusedVariables false
set_option linter.unusedSimpArgs false

/-- A row of strings, in the world w, that begins at block g. -/
def RowS (w : World) (g : Nat) (xs : List ByteArray) : Prop := g < w.heap.size ∧ ∀ (j : Nat) x, xs[j]? = some x → w.cell? ⟨g, j, none⟩ = some (.string x)

def NoSep (xs : List ByteArray) (b : UInt8) : Prop := ∀ x ∈ xs, stands x.data.toList b = false
def canJ (xs : List ByteArray) (b : UInt8) : Prop := NoSep xs b ∧ xs.length - 1 + sizes xs ≤ 4000

set_option maxHeartbeats 1600000 in
theorem canJoin_yes (g cap : Nat) (xs : List ByteArray) (c : Int) (b : UInt8) (hc : c = (b.toNat : Int)) (w : World) (hr : RowS w g xs) (h0 : 0 < xs.length) (h : canJ xs b) :
    Calls Try.prog 78 #[.slice (some ⟨g, 0, none⟩) xs.length cap, .int .u8 c] w fun e w' => e = .returned (.bool true) ∧ w = w' := by
  have HC := Lib.hid hc; clear hc
  have HR := Lib.hid hr; clear hr
  have HJ := Lib.hid h
  have hlen : xs.length ≤ 4001 := by have := h.2; omega
  clear h
  go_enter Try.func78, Try.ntmps78
  go_wp2_with fail
  go_step3
  go_wp2_with fail
  go_step3
  go_wp2_with fail
  go_loopg [5, 6, 15] xs.length (fun gk p sz i wr => ∃ k q : Nat, gk = xs.length - k ∧ k ≤ xs.length ∧ p = .bool true ∧ i = .int .i64 k ∧ sz = .int .i64 q ∧ q = xs.length - 1 + sizes (xs.take k) ∧ w = wr)
  case atStart => exact ⟨0, xs.length - 1, by omega, Nat.zero_le _, rfl, rfl, by go_num, by simp [sizes], rfl⟩
  case round =>
    obtain ⟨k, q, hgk, hk, rfl, rfl, rfl, hq, rfl⟩ := hrel
    have HQ := Lib.hid hq
    have hq4 : q ≤ 4000 := by have := sizes_le xs k; have := HJ.out.2; omega
    clear hq
    by_cases hlt : k < xs.length
    · obtain ⟨x, hxk⟩ : ∃ x, xs[k]? = some x := ⟨_, List.getElem?_eq_getElem hlt⟩
      have hcell := HR.out.2 k x hxk
      have hns := HJ.out.1 x (List.mem_of_getElem? hxk)
      have HN := Lib.hid (sizes_snoc xs k x hxk)
      have hx4 : q + x.size ≤ 4000 := by have h1 := sizes_le xs (k + 1); have h2 := HJ.out.2; have h3 := HN.out; have h4 := HQ.out; omega
      have i0' : (0 : Int) ≤ (k : Int) := by omega
      have i1' : (k : Int) < (xs.length : Int) := by omega
      have HNS := Lib.hid ((stands_not _ _).1 hns)
      have q1 : decide ((4000 : Int) < (q : Int) + (x.size : Int)) = false := by simp; omega
      clear hxk hns
      go_wp2_with fail
      have hxs : x.size ≤ 4000 := by omega
      go_loopg [5, 27] x.size (fun gj p2 i2 wi => ∃ j : Nat, gj = x.size - j ∧ j ≤ x.size ∧ p2 = .bool true ∧ i2 = .int .i64 j ∧ w = wi)
      case atStart => exact ⟨0, by omega, Nat.zero_le _, rfl, rfl, rfl⟩
      case round =>
        obtain ⟨j, hgj, hj, rfl, rfl, rfl⟩ := hrel
        by_cases hjt : j < x.size
        · have hne : ((x[j].toNat : Int) == c) = false := by
            rw [HC.out, beq_eq_false_iff_ne]; intro h
            have e : x[j] = b := UInt8.toNat_inj.1 (by omega)
            exact HNS.out (by rw [← e]; exact List.mem_of_getElem? (byteat x j hjt))
          go_wp2_with fail
          go_roundg (x.size - (j + 1))
          case rel => exact ⟨j + 1, rfl, by omega, rfl, by go_num, rfl⟩
          case measure => omega
        · go_wp2_with fail
          go_roundg (xs.length - (k + 1))
          case rel => exact ⟨k + 1, q + x.size, rfl, by omega, rfl, by go_num, by go_num, by rw [HN.out]; have := HQ.out; omega, rfl⟩
          case measure => omega
    · go_wp2_with fail
      rw [Exit.noGoto_ret]
      go_ret
      exact ⟨rfl, rfl⟩

set_option maxHeartbeats 3200000 in
theorem canJoin_no (g cap : Nat) (xs : List ByteArray) (c : Int) (b : UInt8) (hc : c = (b.toNat : Int)) (w : World) (hr : RowS w g xs) (h0 : 0 < xs.length) (hlen : xs.length ≤ 1048576) (hx : ∀ x ∈ xs, x.size ≤ 1048576) (h : ¬ canJ xs b) :
    Calls Try.prog 78 #[.slice (some ⟨g, 0, none⟩) xs.length cap, .int .u8 c] w fun e w' => e = .returned (.bool false) ∧ w = w' := by
  have HC := Lib.hid hc; clear hc
  have HR := Lib.hid hr; clear hr
  have HJ := Lib.hid h; clear h
  have HX := Lib.hid hx; clear hx
  go_enter Try.func78, Try.ntmps78
  go_wp2_with fail
  go_step3
  go_wp2_with fail
  go_step3
  go_wp2_with fail
  go_loopg [5, 6, 15] xs.length (fun gk p sz i wr => ∃ k q : Nat, gk = xs.length - k ∧ k ≤ xs.length ∧ p = .bool true ∧ i = .int .i64 k ∧ sz = .int .i64 q ∧ q ≤ xs.length - 1 + 4000 ∧ Hid (q = xs.length - 1 + sizes (xs.take k) ∧ (k = 0 ∨ q ≤ 4000) ∧ NoSep (xs.take k) b) ∧ w = wr)
  case atStart => exact ⟨0, xs.length - 1, by omega, Nat.zero_le _, rfl, rfl, by go_num, by omega, Lib.hid ⟨by simp [sizes], .inl rfl, fun x hx => by simp at hx⟩, rfl⟩
  case round =>
    obtain ⟨k, q, hgk, hk, rfl, rfl, rfl, hqb, HQ, rfl⟩ := hrel
    by_cases hlt : k < xs.length
    · obtain ⟨x, hxk⟩ : ∃ x, xs[k]? = some x := ⟨_, List.getElem?_eq_getElem hlt⟩
      have hcell := HR.out.2 k x hxk
      have hxs0 := HX.out x (List.mem_of_getElem? hxk)
      have HN := Lib.hid (sizes_snoc xs k x hxk)
      have HXK := Lib.hid hxk
      have i0' : (0 : Int) ≤ (k : Int) := by omega
      have i1' : (k : Int) < (xs.length : Int) := by omega
      clear hxk
      by_cases hbig : (4000 : Int) < (q : Int) + (x.size : Int)
      · go_wp2_with fail
        rw [Exit.noGoto_ret]
        go_ret
        exact ⟨rfl, rfl⟩
      · have q1 : decide ((4000 : Int) < (q : Int) + (x.size : Int)) = false := by simpa using hbig
        clear hbig
        have hq4 : q + x.size ≤ 4000 := by simp at q1; omega
        go_wp2_with fail
        go_loopg [5, 27] x.size (fun gj p2 i2 wi => ∃ j : Nat, gj = x.size - j ∧ j ≤ x.size ∧ p2 = .bool true ∧ i2 = .int .i64 j ∧ w = wi ∧ Hid (∀ m (hm : m < x.size), m < j → x[m] ≠ b))
        case atStart => exact ⟨0, by omega, Nat.zero_le _, rfl, rfl, rfl, Lib.hid (fun m hm h => by omega)⟩
        case round =>
          obtain ⟨j, hgj, hj, rfl, rfl, rfl, HB⟩ := hrel
          by_cases hjt : j < x.size
          · by_cases e : x[j] = b
            · have ht : ((x[j].toNat : Int) == c) = true := by rw [HC.out, e]; simp
              clear e
              go_wp2_with fail
              rw [Exit.noGoto_ret]
              go_ret
              exact ⟨rfl, rfl⟩
            · have ht : ((x[j].toNat : Int) == c) = false := by
                rw [HC.out, beq_eq_false_iff_ne]; intro h; exact e (UInt8.toNat_inj.1 (by omega))
              have HB2 : Hid (∀ m (hm : m < x.size), m < j + 1 → x[m] ≠ b) := Lib.hid (fun m hm h => by
                by_cases hmj : m = j
                · subst hmj; exact e
                · exact HB.out m hm (by omega))
              clear e
              go_wp2_with fail
              go_roundg (x.size - (j + 1))
              case rel => exact ⟨j + 1, rfl, by omega, rfl, by go_num, rfl, HB2⟩
              case measure => omega
          · have HNS := Lib.hid (stands_none x b (fun m hm => HB.out m hm (by omega)))
            go_wp2_with fail
            go_roundg (xs.length - (k + 1))
            case rel => exact ⟨k + 1, q + x.size, rfl, by omega, rfl, by go_num, by go_num, by omega, Lib.hid ⟨by rw [HN.out]; have := HQ.out.1; omega, .inr hq4, fun y hy => by
                rw [List.take_succ_eq_append_getElem hlt, List.mem_append] at hy
                rcases hy with hy | hy
                · exact HQ.out.2.2 y hy
                · have e2 := HXK.out; rw [List.getElem?_eq_getElem hlt] at e2; injection e2 with e2
                  rw [List.mem_singleton, e2] at hy; rw [hy]; exact HNS.out⟩, rfl⟩
            case measure => omega
    · exfalso
      apply HJ.out
      obtain ⟨h1, h2, h3⟩ := HQ.out
      rw [List.take_of_length_le (by omega)] at h1 h3
      exact ⟨h3, by rcases h2 with h2 | h2 <;> omega⟩
end Go.Proofs.Ytalngdccjoafhab.base
