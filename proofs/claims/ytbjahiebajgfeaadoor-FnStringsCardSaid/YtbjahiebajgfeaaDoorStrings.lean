/-
  The law on numbers and checksums answers true at every code: numbers are read back, sealed texts are verified, and a changed byte is told.
-/
import Derived.Test.YtbjahiebajgfeaaDoorDrawD
import Derived.Test.YtbjahiebajgfeaaDoorVAt
import Derived.Test.YtbjahiebajgfeaaDoorDetect
import Derived.Test.YtbjahiebajgfeaaDoorParse
import Derived.Test.YtbjahiebajgfeaaDoorRows
import Derived.Lib.ConvBytes
import Derived.Lib.AtoiErrMem
import Derived.StillTailTactics
namespace Go.Proofs.YtbjahiebajgfeaaDoor.num
open Go.ChangeShapes Go.WideShapes Go.ChangeAt Go.RowKit
open Go.Proofs.YtbjahiebajgfeaaDoor.base
open Go.Proofs.YtbjahiebajgfeaaDoor.cur
set_option linter.unusedVariables false

def fmtS (n : Int) : ByteArray := if -999999 ≤ n ∧ n ≤ 999999 then ⟨(Lib.itoa n).toArray⟩ else ⟨#[]⟩
def fmtB (n : Int) : Bool := decide (-999999 ≤ n ∧ n ≤ 999999)
theorem implFormat_any (n : Int) (w : World) (htab : base.Pow w) :
    Calls Tryd.prog 10 #[.int .i64 n] w fun e w' => e = .returned (.tuple #[.string (fmtS n), .bool (fmtB n)]) ∧ Below w.heap.size w w' := by
  by_cases h : -999999 ≤ n ∧ n ≤ 999999
  · rw [show fmtS n = _ from if_pos h, show fmtB n = true from decide_eq_true h]; exact implFormat_in n w h.1 h.2 htab
  · rw [show fmtS n = _ from if_neg h, show fmtB n = false from decide_eq_false h]; exact implFormat_out n w (by omega)
theorem specFormat_any (n : Int) (w : World) :
    Calls Tryd.prog 11 #[.int .i64 n] w fun e w' => e = .returned (.tuple #[.string (fmtS n), .bool (fmtB n)]) ∧ Below w.heap.size w w' := by
  by_cases h : -999999 ≤ n ∧ n ≤ 999999
  · rw [show fmtS n = _ from if_pos h, show fmtB n = true from decide_eq_true h]; exact specFormat_in n w h.1 h.2
  · rw [show fmtS n = _ from if_neg h, show fmtB n = false from decide_eq_false h]; exact specFormat_out n w (by omega)
theorem fmt_back (n : Int) (h : fmtB n = true) : readN (fmtS n).data.toList = n ∧ readB (fmtS n).data.toList = true := by
  have h' : -999999 ≤ n ∧ n ≤ 999999 := of_decide_eq_true h
  rw [show fmtS n = _ from if_pos h', list_of_mk]
  unfold readN readB
  rw [readOf_itoa n h']
  exact ⟨rfl, rfl⟩
theorem fmt_size (n : Int) (h0 : -1000000 ≤ n) (h1 : n ≤ 1000000) : (fmtS n).size ≤ 30 := by
  unfold fmtS
  split
  · rw [size_of_mk]; exact itoa_short n h0 h1
  · exact Nat.zero_le _

theorem bytes_thaw (w : World) (e : TypeId) (s : ByteArray) (j : Nat) (hj : j < s.size) : (Lib.bytesWorld w e s).frozen? ⟨w.heap.size, j, none⟩ = false := by
  have h1 : j < (Lib.bytesCells w e s).size := by
    unfold Lib.bytesCells
    rw [Array.size_append, Array.size_map]
    have : s.data.size = s.size := rfl
    omega
  simp only [World.frozen?, Lib.bytesWorld_at_new]
  simp; omega

/-- The text of the bytes with one of them put anew. -/
theorem put_text (W : World) (g k c cap : Nat) (y : ByteArray) (h : ∀ j, j < y.size → W.cell? ⟨g, j, none⟩ = some (.int .u8 ((y.data.toList.getD j 0).toNat : Int))) (hk : k < y.size) (hc : c < 256) :
    (convert 22 9 (.slice (some ⟨g, 0, none⟩) y.size cap)).run Tryd.prog (W.setCell ⟨g, k, none⟩ (.int .u8 (c : Int))) = .ok (.string ⟨(y.data.toList.set k (UInt8.ofNat c)).toArray⟩) (W.setCell ⟨g, k, none⟩ (.int .u8 (c : Int))) := by
  have hl : (y.data.toList.set k (UInt8.ofNat c)).length = y.size := by rw [List.length_set, bytesize]
  have h1 := run_convert_bytes_back (P := Tryd.prog) (W.setCell ⟨g, k, none⟩ (.int .u8 (c : Int))) 22 9 5 ⟨g, 0, none⟩ cap (y.data.toList.set k (UInt8.ofNat c)) Tryd.underlying22 Tryd.underlying5 Tryd.underlying9 (fun j hj => by
    have hj' : j < y.size := by omega
    have hadd : (⟨g, 0, none⟩ : Addr).add j = ⟨g, j, none⟩ := by unfold Addr.add; split <;> simp_all
    rw [hadd]
    by_cases e : k = j
    · subst e
      rw [World.cell?_setCell_same' _ _ _ (by rw [h k hk]; rfl), List.getElem_set_self]
      have : (UInt8.ofNat c).toNat = c := by simp; omega
      rw [this]
    · have ho : (W.setCell ⟨g, k, none⟩ (.int .u8 (c : Int))).cell? ⟨g, j, none⟩ = W.cell? ⟨g, j, none⟩ := by
        apply World.cell?_setCell_other
        intro e2
        simp only [Addr.mk.injEq] at e2
        exact e e2.2.1
      rw [ho, h j hj', List.getElem_set_ne e]
      rw [List.getD_eq_getElem?_getD, List.getElem?_eq_getElem (by rw [← bytesize]; exact hj')]; rfl)
  rw [hl] at h1
  exact h1
theorem put_size (y : ByteArray) (k c : Nat) : (⟨(y.data.toList.set k (UInt8.ofNat c)).toArray⟩ : ByteArray).size = y.size := by
  rw [size_of_mk, List.length_set, bytesize]
theorem put_told (x y : ByteArray) (k c : Nat) (hs : canSeal x) (hy : y.data.toList = sealList x.data.toList) (hk : k < y.size) (hc : c < 256) (hne : c ≠ (y.data.toList.getD k 0).toNat) :
    verB ⟨(y.data.toList.set k (UInt8.ofNat c)).toArray⟩ = false := by
  have hkl : k < y.data.toList.length := by rw [← bytesize]; exact hk
  refine verify_changed x _ k hs (fun j hj => ?_) ?_
  · rw [list_of_mk, ← hy, List.getElem?_set_ne (Ne.symm hj)]
  · rw [list_of_mk, ← hy, List.getElem?_set_self hkl, List.getElem?_eq_getElem hkl]
    intro e
    injection e with e
    refine hne ?_
    have : (UInt8.ofNat c).toNat = c := by simp; omega
    rw [List.getD_eq_getElem?_getD, List.getElem?_eq_getElem hkl]
    show c = (y.data.toList[k]).toNat
    rw [← e, this]

set_option maxRecDepth 40000 in
set_option maxHeartbeats 3200000 in
theorem strings (a : Option Addr) (len cap : Nat) (zs : List Int) (w : World) (h : IsRow .u8 w a len cap zs) (hp : base.Pow w) (he : Errs w) :
    Calls Tryd.prog 3 #[.slice a len cap] w fun e w' => e = .returned (.bool true) ∧ Below w.heap.size w w' := by
  have hlen : len ≤ maxLen := by
    rcases h with ⟨_, h, _⟩ | ⟨_, _, h1, h2, _⟩ <;> omega
  by_cases hbig : (65536 : Int) < (len : Int)
  · clear h hp he
    go_enter Tryd.func3, Tryd.ntmps3
    go_wp2_with fail
    refine (vBig_any a len cap w hlen).mono ?_
    rintro e w1 ⟨rfl, rfl⟩
    rw [decide_eq_true hbig]
    go_wp2_with fail
    go_ret
    exact ⟨rfl, Below.refl _ _⟩
  · have HC := Lib.hid (code_of h (by omega))
    have HP := Lib.hid hp
    have HE := Lib.hid he
    clear h hp he
    go_enter Tryd.func3, Tryd.ntmps3
    go_wp2_with fail
    refine (vBig_any a len cap w hlen).mono ?_
    rintro e w1 ⟨rfl, rfl⟩
    rw [decide_eq_false (show ¬ (65536 : Int) < (len : Int) by omega)]
    go_wp2_with fail
    refine (drawFormat a len cap w HC.out).mono ?_
    rintro e w1 ⟨n, rfl, ⟨n0, n1⟩, b1⟩
    have B1 := Lib.hid b1; clear b1
    go_wp2_with fail
    refine (implFormat_any n w1 (HP.out.below B1.out)).mono ?_
    rintro e w2 ⟨rfl, b2⟩
    have B2 := Lib.hid (B1.out.trans (b2.mono B1.out.size)); clear b2
    go_wp2_with fail
    refine (specFormat_any n w2).mono ?_
    rintro e w3 ⟨rfl, b3⟩
    have B3 := Lib.hid (B2.out.trans (b3.mono B2.out.size)); clear b3
    have HF := Lib.hid (fmt_back n)
    have HZ := Lib.hid (fmt_size n n0 n1)
    generalize fmtS n = fs at *
    generalize fmtB n = fb at *
    go_wp2_with fail
    refine (drawParse a len cap w3 (HC.out.below B3.out)).mono ?_
    rintro e w4 ⟨t, rfl, ht, b4⟩
    have B4 := Lib.hid (B3.out.trans (b4.mono B3.out.size)); clear b4
    go_wp2_with fail
    refine (implParse_any t w4 (by omega) (HP.out.below B4.out) (HE.out.below B4.out)).mono ?_
    rintro e w5 ⟨rfl, b5⟩
    have B5 := Lib.hid (B4.out.trans (b5.mono B4.out.size)); clear b5
    go_wp2_with fail
    refine (specParse_any t w5 (by unfold maxLen; omega)).mono ?_
    rintro e w6 ⟨rfl, b6⟩
    have B6 := Lib.hid (B5.out.trans (b6.mono B5.out.size)); clear b6
    generalize readN t.data.toList = rn
    generalize readB t.data.toList = rb
    go_wp2_with fail
    refine (drawAppend a len cap w6 (HC.out.below B6.out)).mono ?_
    rintro e w7 ⟨x, rfl, hx, b7⟩
    have B7 := Lib.hid (B6.out.trans (b7.mono B6.out.size)); clear b7
    go_wp2_with fail
    refine (implAppend_any x w7 (HP.out.below B7.out)).mono ?_
    rintro e w8 ⟨rfl, b8⟩
    have B8 := Lib.hid (B7.out.trans (b8.mono B7.out.size)); clear b8
    go_wp2_with fail
    refine (specAppend_any x w8).mono ?_
    rintro e w9 ⟨rfl, b9⟩
    have B9 := Lib.hid (B8.out.trans (b9.mono B8.out.size)); clear b9
    by_cases hs : canSeal x
    · obtain ⟨e1, e2⟩ := app_true_eq x hs
      rw [e1, e2]
      have HS := Lib.hid hs
      have HY := Lib.hid hs.2.2
      have HY1 := Lib.hid (show 1 ≤ (sealOf x).size by rw [seal_size]; omega)
      have HV := Lib.hid (verify_seal x hs)
      clear e1 e2 hs
      generalize hy : sealOf x = y at *
      have hyl : y.data.toList = sealList x.data.toList := by rw [← hy]; unfold sealOf; rw [list_of_mk]
      clear hy
      go_wp2_with fail
      refine (implParse_any fs w9 (by have := HZ.out; omega) (HP.out.below B9.out) (HE.out.below B9.out)).mono ?_
      rintro e w10 ⟨rfl, b10⟩
      have B10 := Lib.hid (B9.out.trans (b10.mono B9.out.size)); clear b10
      have HVY := Lib.hid (fun W T => implVerify_any y W (by have := HY.out; omega) T)
      rw [HV.out.1, HV.out.2] at HVY
      cases fb
      · generalize readN fs.data.toList = qn
        generalize readB fs.data.toList = qb
        go_wp2_with fail
        refine (HVY.out w10 (HP.out.below B10.out)).mono ?_
        rintro e w11 ⟨rfl, b11⟩
        have B11 := Lib.hid (B10.out.trans (b11.mono B10.out.size)); clear b11
        have hcv := Lib.run_convert_string_bytes (P := Tryd.prog) w11 9 22 5 y Tryd.underlying9 Tryd.underlying22 Tryd.underlying5
        go_wp2_with fail
        have BV := Lib.hid (Lib.bytesWorld_below w11 5 y)
        have HCl := Lib.hid (Lib.bytesWorld_cell w11 5 y)
        have HFz := Lib.hid (bytes_thaw w11 5 y)
        have hgs : w11.heap.size < (Lib.bytesWorld w11 5 y).heap.size := by rw [Lib.bytesWorld_size]; omega
        generalize Lib.bytesWorld w11 5 y = wv at *
        generalize hG : grownCap w11 y.size 0 5 = gc at *
        clear hG hcv
        have B12 := Lib.hid (B11.out.trans (BV.out.mono B11.out.size))
        obtain ⟨z, z0, z1, hv9⟩ := vAt_any a len cap 9 wv (HC.out.below B12.out) (by omega)
        have HV9 := Lib.hid hv9; clear hv9
        obtain ⟨m, rfl⟩ : ∃ m : Nat, z = (m : Int) := ⟨z.toNat, by omega⟩
        have hy0 := HY1.out
        obtain ⟨k, hk, hky⟩ : ∃ k : Nat, ((m : Int) % (y.size : Int)) = (k : Int) ∧ k < y.size := ⟨m % y.size, rfl, Nat.mod_lt _ hy0⟩
        have hky0 : (0 : Int) ≤ (k : Int) := Int.natCast_nonneg _
        have hky1 : (k : Int) < (y.size : Int) := by omega
        have HK0 := Lib.hid (HCl.out k hky)
        have HK1 := Lib.hid (HFz.out k hky)
        refine HV9.out.mono ?_
        rintro e w12 ⟨rfl, rfl⟩
        go_wp2_with fail
        rw [hk]
        clear hk
        refine wp_region_still_tail 13 (by kernel_rfl) (by kernel_rfl) ?_
        simp only [List.take_succ_cons, List.take_zero, List.drop_succ_cons, List.drop_zero]
        generalize hW : ({ heap := w12.heap, tape := w12.tape, drawn := w12.drawn + 1, os := w12.os, output := w12.output } : World) = wd
        have c0 : wd.cell? ⟨w11.heap.size, k, none⟩ = some (.int .u8 ((y.data.toList.getD k 0).toNat : Int)) := by rw [← hW]; exact HK0.out
        have c1 : wd.frozen? ⟨w11.heap.size, k, none⟩ = false := by rw [← hW]; exact HK1.out
        have BD : Hid (Below w.heap.size w wd) := Lib.hid (by rw [← hW]; exact ⟨B12.out.os, B12.out.tape, B12.out.output, B12.out.size, B12.out.block⟩)
        have HCd : Hid (∀ j, j < y.size → wd.cell? ⟨w11.heap.size, j, none⟩ = some (.int .u8 ((y.data.toList.getD j 0).toNat : Int))) := Lib.hid (fun j hj => by rw [← hW]; exact HCl.out j hj)
        have hgd : w11.heap.size < wd.heap.size := by rw [← hW]; exact hgs
        clear hW HK0 HK1 HCl HFz
        obtain ⟨z, z0, z1, hv10⟩ := vAt_any a len cap 10 wd (HC.out.below BD.out) (by omega)
        obtain ⟨q, rfl⟩ : ∃ q : Nat, z = (q : Int) := ⟨z.toNat, by omega⟩
        generalize hbk : (y.data.toList.getD k 0).toNat = bk at *
        have hbk256 : bk < 256 := by rw [← hbk]; exact UInt8.toNat_lt _
        have HBK := Lib.hid hbk; clear hbk
        repeat still_step
        still_call hv10
        repeat still_step
        refine wpStill_nil ?_
        go_wp2_with fail
        obtain ⟨c, hxc, hc256, hcne⟩ := xor_byte bk (1 + q % 255) hbk256 (by omega) (by omega)
        rw [show (((1 + q % 255 : Nat)) : Int) = 1 + (q : Int) % 255 by omega] at hxc
        rw [hxc]
        have hcv2 := put_text wd w11.heap.size k c gc y HCd.out hky hc256
        have HT := Lib.hid (put_told x y k c HS.out hyl hky hc256 (by rw [HBK.out]; exact hcne))
        have HTs := Lib.hid (put_size y k c)
        have BE := Lib.hid (BD.out.setCell (p := ⟨w11.heap.size, k, none⟩) (by have := B11.out.size; exact this) (.int .u8 (c : Int)))
        generalize (⟨(y.data.toList.set k (UInt8.ofNat c)).toArray⟩ : ByteArray) = t2 at *
        generalize wd.setCell ⟨w11.heap.size, k, none⟩ (.int .u8 (c : Int)) = we at *
        rw [hcv2]
        go_wp2_with fail
        have HVT := Lib.hid (implVerify_any t2 we (by have := HTs.out; have := HY.out; omega) (HP.out.below BE.out))
        rw [HT.out] at HVT
        generalize verS t2 = tz at *
        refine HVT.out.mono ?_
        rintro e wf ⟨rfl, bf⟩
        have BF := Lib.hid (BE.out.trans (bf.mono BE.out.size)); clear bf
        go_wp2_with fail
        go_ret
        exact ⟨rfl, BF.out⟩
      · obtain ⟨f1, f2⟩ := HF.out rfl
        rw [f1, f2]
        clear f1 f2
        go_wp2_with fail
        refine (HVY.out w10 (HP.out.below B10.out)).mono ?_
        rintro e w11 ⟨rfl, b11⟩
        have B11 := Lib.hid (B10.out.trans (b11.mono B10.out.size)); clear b11
        have hcv := Lib.run_convert_string_bytes (P := Tryd.prog) w11 9 22 5 y Tryd.underlying9 Tryd.underlying22 Tryd.underlying5
        go_wp2_with fail
        have BV := Lib.hid (Lib.bytesWorld_below w11 5 y)
        have HCl := Lib.hid (Lib.bytesWorld_cell w11 5 y)
        have HFz := Lib.hid (bytes_thaw w11 5 y)
        have hgs : w11.heap.size < (Lib.bytesWorld w11 5 y).heap.size := by rw [Lib.bytesWorld_size]; omega
        generalize Lib.bytesWorld w11 5 y = wv at *
        generalize hG : grownCap w11 y.size 0 5 = gc at *
        clear hG hcv
        have B12 := Lib.hid (B11.out.trans (BV.out.mono B11.out.size))
        obtain ⟨z, z0, z1, hv9⟩ := vAt_any a len cap 9 wv (HC.out.below B12.out) (by omega)
        have HV9 := Lib.hid hv9; clear hv9
        obtain ⟨m, rfl⟩ : ∃ m : Nat, z = (m : Int) := ⟨z.toNat, by omega⟩
        have hy0 := HY1.out
        obtain ⟨k, hk, hky⟩ : ∃ k : Nat, ((m : Int) % (y.size : Int)) = (k : Int) ∧ k < y.size := ⟨m % y.size, rfl, Nat.mod_lt _ hy0⟩
        have hky0 : (0 : Int) ≤ (k : Int) := Int.natCast_nonneg _
        have hky1 : (k : Int) < (y.size : Int) := by omega
        have HK0 := Lib.hid (HCl.out k hky)
        have HK1 := Lib.hid (HFz.out k hky)
        refine HV9.out.mono ?_
        rintro e w12 ⟨rfl, rfl⟩
        go_wp2_with fail
        rw [hk]
        clear hk
        refine wp_region_still_tail 13 (by kernel_rfl) (by kernel_rfl) ?_
        simp only [List.take_succ_cons, List.take_zero, List.drop_succ_cons, List.drop_zero]
        generalize hW : ({ heap := w12.heap, tape := w12.tape, drawn := w12.drawn + 1, os := w12.os, output := w12.output } : World) = wd
        have c0 : wd.cell? ⟨w11.heap.size, k, none⟩ = some (.int .u8 ((y.data.toList.getD k 0).toNat : Int)) := by rw [← hW]; exact HK0.out
        have c1 : wd.frozen? ⟨w11.heap.size, k, none⟩ = false := by rw [← hW]; exact HK1.out
        have BD : Hid (Below w.heap.size w wd) := Lib.hid (by rw [← hW]; exact ⟨B12.out.os, B12.out.tape, B12.out.output, B12.out.size, B12.out.block⟩)
        have HCd : Hid (∀ j, j < y.size → wd.cell? ⟨w11.heap.size, j, none⟩ = some (.int .u8 ((y.data.toList.getD j 0).toNat : Int))) := Lib.hid (fun j hj => by rw [← hW]; exact HCl.out j hj)
        have hgd : w11.heap.size < wd.heap.size := by rw [← hW]; exact hgs
        clear hW HK0 HK1 HCl HFz
        obtain ⟨z, z0, z1, hv10⟩ := vAt_any a len cap 10 wd (HC.out.below BD.out) (by omega)
        obtain ⟨q, rfl⟩ : ∃ q : Nat, z = (q : Int) := ⟨z.toNat, by omega⟩
        generalize hbk : (y.data.toList.getD k 0).toNat = bk at *
        have hbk256 : bk < 256 := by rw [← hbk]; exact UInt8.toNat_lt _
        have HBK := Lib.hid hbk; clear hbk
        repeat still_step
        still_call hv10
        repeat still_step
        refine wpStill_nil ?_
        go_wp2_with fail
        obtain ⟨c, hxc, hc256, hcne⟩ := xor_byte bk (1 + q % 255) hbk256 (by omega) (by omega)
        rw [show (((1 + q % 255 : Nat)) : Int) = 1 + (q : Int) % 255 by omega] at hxc
        rw [hxc]
        have hcv2 := put_text wd w11.heap.size k c gc y HCd.out hky hc256
        have HT := Lib.hid (put_told x y k c HS.out hyl hky hc256 (by rw [HBK.out]; exact hcne))
        have HTs := Lib.hid (put_size y k c)
        have BE := Lib.hid (BD.out.setCell (p := ⟨w11.heap.size, k, none⟩) (by have := B11.out.size; exact this) (.int .u8 (c : Int)))
        generalize (⟨(y.data.toList.set k (UInt8.ofNat c)).toArray⟩ : ByteArray) = t2 at *
        generalize wd.setCell ⟨w11.heap.size, k, none⟩ (.int .u8 (c : Int)) = we at *
        rw [hcv2]
        go_wp2_with fail
        have HVT := Lib.hid (implVerify_any t2 we (by have := HTs.out; have := HY.out; omega) (HP.out.below BE.out))
        rw [HT.out] at HVT
        generalize verS t2 = tz at *
        refine HVT.out.mono ?_
        rintro e wf ⟨rfl, bf⟩
        have BF := Lib.hid (BE.out.trans (bf.mono BE.out.size)); clear bf
        go_wp2_with fail
        go_ret
        exact ⟨rfl, BF.out⟩
    · obtain ⟨e1, e2⟩ := app_false_eq x hs
      rw [e1, e2]
      go_wp2_with fail
      refine (implParse_any fs w9 (by have := HZ.out; omega) (HP.out.below B9.out) (HE.out.below B9.out)).mono ?_
      rintro e w10 ⟨rfl, b10⟩
      have B10 := Lib.hid (B9.out.trans (b10.mono B9.out.size)); clear b10
      cases fb
      · generalize readN fs.data.toList = qn
        generalize readB fs.data.toList = qb
        go_wp2_with fail
        go_ret
        exact ⟨rfl, B10.out⟩
      · obtain ⟨f1, f2⟩ := HF.out rfl
        rw [f1, f2]
        clear f1 f2
        go_wp2_with fail
        go_ret
        exact ⟨rfl, B10.out⟩

theorem stringsLaw (a : Option Addr) (len cap : Nat) (zs : List Int) (W : World) (w0 : IsRow .u8 W a len cap zs) (hL : laidMetH Tryd.prog Rows.fnStringsRow.laid W) :
    Calls Tryd.prog 3 #[.slice a len cap] W fun e w' => e = .returned (.bool true) ∧ Below W.heap.size W w' :=
  strings a len cap zs W w0 (base.pow_of_laid (laid := Rows.fnStringsRow.laid) (by simp [Rows.fnStringsRow]; rfl) hL)
    ⟨base.sentinel_cell base.gSyn base.gSynType (text := [105, 110, 118, 97, 108, 105, 100, 32, 115, 121, 110, 116, 97, 120]) Rows.fnStringsRow.laid hL (by simp [Rows.fnStringsRow]; rfl),
      base.sentinel_cell base.gRan base.gRanType (text := [118, 97, 108, 117, 101, 32, 111, 117, 116, 32, 111, 102, 32, 114, 97, 110, 103, 101]) Rows.fnStringsRow.laid hL (by simp [Rows.fnStringsRow]; rfl)⟩
end Go.Proofs.YtbjahiebajgfeaaDoor.num
