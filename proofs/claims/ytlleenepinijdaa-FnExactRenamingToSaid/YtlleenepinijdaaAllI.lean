/-
  All renamings, on the program's side, walked.
-/
import Derived.Test.YtlleenepinijdaaAllM
import Derived.Test.YtlleenepinijdaaFill
import Derived.Test.YtlleenepinijdaaContains
import Derived.Test.YtlleenepinijdaaOrdI
import Derived.Deep.Cut
import Derived.Deep.CutRange
namespace Go.Proofs.Ytlleenepinijdaa.base
open Go.ChangeShapes Go.WideShapes Go.ChangeAt Go.RowKit
set_option linter.unusedVariables false
set_option linter.unusedSimpArgs false

/-- Of a row's array only the place p has been changed. -/
structure Same (p : Nat) (ms nm : List Int) : Prop where
  len : ms.length = 6
  put : ∀ z : Int, ms.set p z = nm.set p z
  front : ms.take p = nm.take p
theorem same_refl {p : Nat} {nm : List Int} (h : nm.length = 6) : Same p nm nm := ⟨h, fun _ => rfl, rfl⟩
theorem same_put {p : Nat} {ms nm : List Int} (h : Same p ms nm) (z : Int) : Same p (ms.set p z) nm := by
  refine ⟨by rw [List.length_set]; exact h.len, fun y => ?_, ?_⟩
  · rw [List.set_set]; exact h.put y
  · rw [List.take_set_of_le (Nat.le_refl _)]; exact h.front
theorem front_getD {p : Nat} {ms : List Int} (hl : ms.length = 6) (hp : 1 ≤ p ∧ p ≤ 5) : ((ms.take p).drop 1).length = p - 1 ∧ ∀ j, j < p - 1 → ((ms.take p).drop 1).getD j 0 = ms.getD (1 + j) 0 := by
  constructor
  · simp; omega
  · intro j hj
    rw [List.getD_eq_getElem?_getD, List.getD_eq_getElem?_getD, List.getElem?_drop, List.getElem?_take, if_pos (by omega)]

set_option maxHeartbeats 1600000 in
set_option maxRecDepth 100000 in
theorem allRenamings_any (w : World) :
    Calls Try.prog 36 #[] w fun e w' => ∃ v : Value, e = .returned v ∧ Gr w' w.heap.size 31 6 v allN ∧ Kept w w' := by
  have HB := Lib.hid ((kept_refl w).alloc (.cells (ints z6x).toArray 31))
  have hz : z6x.length = 6 := rfl
  have R0 : Hid (Gr (w.alloc (.cells (ints z6x).toArray 31)) w.heap.size 31 6 (.slice (some ⟨w.heap.size, 0, none⟩) 1 1) (lev 0)) := Lib.hid (by
    refine ⟨?_, fun l hl => ?_⟩
    · have := World.ownsRow_lit (base := w.heap.size) (e := 31) (size := 6) w (ints z6x).toArray 1 (Nat.le_refl _) (by unfold maxLen; omega) rfl
      exact this
    · rw [List.mem_singleton.1 hl]; rfl)
  go_enter Try.func36, Try.ntmps36
  go_wp2_with (first | (refine build_law rfl 31 rfl _ build6o ?_) | (refine wpList_slice1 rfl 51 31 _ rfl 6 48 Try.underlying51 (by kernel_rfl) (by omega) (by omega) z6x rfl rfl ?_))
  generalize w.alloc (.cells (ints z6x).toArray 31) = W at *
  go_loopg [1, 2] 5 (fun gk v pl wr => ∃ (p g cu : Nat), gk = 5 - p ∧ p ≤ 5 ∧ pl = .int .i64 ((p : Int) + 1) ∧ v = .slice (some ⟨g, 0, none⟩) (lev p).length cu ∧ Hid (Gr wr w.heap.size 31 6 (.slice (some ⟨g, 0, none⟩) (lev p).length cu) (lev p)) ∧ Hid (Kept w wr))
  case atStart => exact ⟨0, w.heap.size, 1, rfl, by omega, rfl, rfl, R0, HB⟩
  case round =>
    obtain ⟨p, g, cu, rfl, hp, rfl, rfl, GR, GB⟩ := hrel
    by_cases hp5 : p < 5
    · have hpi : (p : Int) + 1 ≤ 5 := by omega
      have LS : (lev p).length ≤ 120 := (lev_small ⟨p, by omega⟩).1
      have LF : Hid (∀ a : Nat, a ≤ 120 → (flatUp (p + 1) (lev p) a).length ≤ 720) := Lib.hid (fun a (ha : a ≤ 120) => (lev_small ⟨p, by omega⟩).2 ⟨a, by omega⟩ 0)
      have LN : lev (p + 1) = flatUp (p + 1) (lev p) (lev p).length := rfl
      have HLN := Lib.hid LN
      have FS := Lib.hid (fun a ha => flatUp_succ (p + 1) (lev p) (a := a) ha)
      have IT := Lib.hid (fun a ha => GR.out.item (k := a) ha)
      have hgl := (GR.out.own g rfl)
      have wle := GB.out.size
      have KR := Lib.hid (GR.out.alloc (.cells #[] 31))
      have KB := Lib.hid (GB.out.alloc (.cells #[] 31))
      have KL := Lib.hid ((Gr.none wr w.heap.size 31 6 wle).as (ls' := flatUp (p + 1) (lev p) 0) rfl)
      clear GR GB LN
      generalize hLv : lev p = L at *
      have HLv := Lib.hid hLv
      clear hLv
      go_wp2_with fail
      generalize wr.alloc (.cells #[] 31) = W1 at *
      generalize wr.heap.size = b2 at *
      go_loopg [3, 16] L.length (fun gk u i wq => ∃ (a f cf : Nat), gk = L.length - a ∧ a ≤ L.length ∧ i = .int .i64 a ∧ u = .slice (some ⟨f, 0, none⟩) (flatUp (p + 1) L a).length cf ∧ Hid (Gr wq w.heap.size 31 6 (.slice (some ⟨f, 0, none⟩) (flatUp (p + 1) L a).length cf) (flatUp (p + 1) L a)) ∧ Hid (Gr wq w.heap.size 31 6 (.slice (some ⟨g, 0, none⟩) L.length cu) L) ∧ Hid (g ≠ f) ∧ Hid (Kept w wq))
      case atStart => exact ⟨0, b2, 0, rfl, by omega, rfl, rfl, KL, KR, Lib.hid (by omega), KB⟩
      case round =>
        obtain ⟨a, f, cf, rfl, ha, rfl, rfl, QL, QR, QA, QB⟩ := hrel
        by_cases haL : a < L.length
        · have hai : (a : Int) < (L.length : Int) := by omega
          have hnm := IT.out a haL
          have FSa := Lib.hid (FS.out a haL)
          have LFa := LF.out a (by omega)
          have RG := Lib.hid (QR.out.range rfl a haL)
          generalize L.getD a [] = nm at *
          have hi6 : (Try.prog.info? 31).map (·.size) = some (ints nm).length := by rw [ints_len, hnm]; kernel_rfl
          have hfl := (QL.out.own f rfl)
          have hgl2 := (QR.out.own g rfl)
          have hx0 : flatUp (p + 1) L a ++ extUp (p + 1) nm 0 = flatUp (p + 1) L a := by unfold extUp; simp
          have JL := Lib.hid (QL.out.alloc (.cells (ints nm).toArray 31))
          have JR := Lib.hid (QR.out.alloc (.cells (ints nm).toArray 31))
          have JB := Lib.hid (QB.out.alloc (.cells (ints nm).toArray 31))
          have JN := Has.box wr 31 hnm (by omega)
          have wl2 := QB.out.size
          clear QL QR QB
          go_wp2_with (first | (refine wpList_load_mid rfl 31 _ rfl g (a * 6) rfl (ints nm) _ RG.out Try.underlying31 rfl hi6 ?_) | (refine store_new rfl 31 _ _ rfl _ _ _ rfl _ rfl _ rfl rfl ?_ ?_ ?_; (· (first | assumption | rfl)); (· kernel_rfl)))
          clear RG
          generalize wr.alloc (.cells (ints nm).toArray 31) = W2 at *
          generalize wr.heap.size = b5 at *
          go_loopg [3, 6] 5 (fun gk u col wz => ∃ (c f cf : Nat) (ms : List Int), gk = 5 - c ∧ c ≤ 5 ∧ col = .int .i64 ((c : Int) + 1) ∧ u = .slice (some ⟨f, 0, none⟩) (flatUp (p + 1) L a ++ extUp (p + 1) nm c).length cf ∧ Hid (Same (p + 1) ms nm) ∧ Has wz b5 ms 6 ∧ Hid (Gr wz w.heap.size 31 6 (.slice (some ⟨f, 0, none⟩) (flatUp (p + 1) L a ++ extUp (p + 1) nm c).length cf) (flatUp (p + 1) L a ++ extUp (p + 1) nm c)) ∧ Hid (Gr wz w.heap.size 31 6 (.slice (some ⟨g, 0, none⟩) L.length cu) L) ∧ Hid (g ≠ f ∧ b5 ≠ f) ∧ Hid (Kept w wz))
          case atStart => exact ⟨0, f, cf, nm, rfl, by omega, rfl, by rw [hx0], Lib.hid (same_refl hnm), JN, by rw [hx0]; exact JL, JR, Lib.hid ⟨QA.out, by omega⟩, JB⟩
          case round =>
            obtain ⟨c, f, cf, ms, rfl, hc, rfl, rfl, ZS, ZN, ZL, ZR, ZA, ZB⟩ := hrel
            have EXF : flatUp (p + 1) L a ++ extUp (p + 1) nm (c + 1) = (flatUp (p + 1) L a ++ extUp (p + 1) nm c) ++ oneX (p + 1) nm c := by rw [extUp_succ, List.append_assoc]
            have TL : (flatUp (p + 1) L a ++ extUp (p + 1) nm c).length ≤ 730 := by
              have h1 := extUp_len (p + 1) nm c
              rw [List.length_append]; omega
            have EXH := Lib.hid EXF
            clear EXF
            generalize hcur : flatUp (p + 1) L a ++ extUp (p + 1) nm c = cur at *
            have HCUR := Lib.hid hcur
            clear hcur
            by_cases hc5 : c < 5
            · have hci : (c : Int) + 1 ≤ 5 := by omega
              have hp1 : (1 : Int) ≤ (p : Int) + 1 := by omega
              have hp6 : (p : Int) + 1 ≤ 6 := by omega
              have hp6' : (p : Int) + 1 < 6 := by omega
              have hp0 : (0 : Int) ≤ (p : Int) + 1 := by omega
              have hpn : ((p : Int) + 1).toNat = p + 1 := by omega
              have hcc : ((c + 1 : Nat) : Int) = (c : Int) + 1 := by omega
              have hms := ZS.out.len
              obtain ⟨hfl1, hfg⟩ := front_getD hms (p := p + 1) (by omega)
              have HFR := Lib.hid ZS.out.front
              have CL := Lib.hid (sContains_any b5 1 p 5 ((ms.take (p + 1)).drop 1) ((c : Int) + 1) wr (by rw [hfl1]; omega) (by omega) (fun j hj => by rw [hfg j (by omega)]; exact ZN.cell (1 + j) (by omega)))
              clear hfg hfl1
              go_wp2_with fail
              refine CL.out.mono ?_
              rintro e w9 ⟨rfl, rfl⟩
              by_cases hm : ((c : Int) + 1) ∈ (ms.take (p + 1)).drop 1
              · rw [decide_eq_true hm]
                have E2 := Lib.hid (show flatUp (p + 1) L a ++ extUp (p + 1) nm (c + 1) = cur by
                  rw [EXH.out, oneX_yes (by rw [hcc, ← HFR.out]; exact hm), List.append_nil])
                have KL2 := Lib.hid (show Gr w9 w.heap.size 31 6 (.slice (some ⟨f, 0, none⟩) (flatUp (p + 1) L a ++ extUp (p + 1) nm (c + 1)).length cf) (flatUp (p + 1) L a ++ extUp (p + 1) nm (c + 1)) by rw [E2.out]; exact ZL.out)
                clear hm CL
                go_wp2_with fail
                go_roundg (5 - (c + 1))
                case rel => exact ⟨c + 1, f, cf, ms, rfl, by omega, by go_num, by rw [E2.out], ZS, ZN, KL2, ZR, ZA, ZB⟩
                case measure => omega
              · rw [decide_eq_false hm]
                have E2 := Lib.hid (show flatUp (p + 1) L a ++ extUp (p + 1) nm (c + 1) = cur ++ [ms.set (p + 1) ((c : Int) + 1)] by
                  rw [EXH.out, oneX_no (by rw [hcc, ← HFR.out]; exact hm), hcc, ZS.out.put])
                have hfl := (ZL.out.own f rfl)
                have f0 := ZN.free (p + 1) (by omega)
                have c0 := ZN.cell (p + 1) (by omega)
                have S1 := ZN.set (p + 1) ((c : Int) + 1) (by omega)
                have hfa := ZA.out.2
                have SL := Lib.hid (ZL.out.puts b5 (p + 1) [.int .i64 ((c : Int) + 1)] (fun z hz e => by have hz := Option.some.inj (show some f = some z from hz); omega))
                have hgz := (ZR.out.own g rfl)
                have SR := Lib.hid (ZR.out.puts b5 (p + 1) [.int .i64 ((c : Int) + 1)] (fun z hz e => by have hz := Option.some.inj (show some g = some z from hz); omega))
                have SB := Lib.hid (ZB.out.set (b := b5) (by omega) (p + 1) (.int .i64 ((c : Int) + 1)))
                have SS := Lib.hid (same_put ZS.out ((c : Int) + 1))
                have hl6 := S1.len
                have hsz9 : (w9.setCell ⟨b5, p + 1, none⟩ (.int .i64 ((c : Int) + 1))).heap.size = w9.heap.size := by have := size_setCells b5 [.int .i64 ((c : Int) + 1)] (p + 1) w9; exact this
                have hwb := ZB.out.size
                rw [setCells_one] at SL SR
                clear hm CL ZL ZR ZB ZS ZN
                go_upto_region 14 with fail
                generalize w9.setCell ⟨b5, p + 1, none⟩ (.int .i64 ((c : Int) + 1)) = wa at *
                generalize ms.set (p + 1) ((c : Int) + 1) = ms2 at *
                go_wp2_with (first | (refine load_has rfl 31 _ rfl _ rfl ?_ 6 ?_ _ Try.underlying31 rfl ?_ ?_; rotate_left; (· (repeat (first | (with_reducible assumption) | ((with_reducible refine Has.box _ _ ?_ ?_) <;> (first | assumption | decide)) | (with_reducible refine Has.alloc ?_ _) | ((with_reducible refine Has.putOther ?_ _ _ ?_); rotate_left; omega; skip) | ((with_reducible refine Has.below ?_ ?_); rotate_left; assumption)))); (· kernel_rfl)) | (refine wpList_slice1 rfl 51 31 _ rfl 6 48 Try.underlying51 (by kernel_rfl) (by omega) (by omega) ms2 rfl hl6 ?_) | (at_builtin; refine append_gr rfl _ _ 51 rfl w.heap.size 31 6 48 Try.underlying51 (by kernel_rfl) (by omega) (by omega) _ cur.length cur rfl rfl (SL.out.alloc _) wa.heap.size 1 rfl ms2 (Has.box wa 31 hl6 (by omega)) (by rw [size1]; omega) (by omega) ?_; intro f' cf' w7 hG hgrow hlie hlt))
                have hle : (flatUp (p + 1) L a ++ extUp (p + 1) nm (c + 1)).length = cur.length + 1 := by rw [E2.out]; simp
                have K1 := Lib.hid (show Gr w7 w.heap.size 31 6 (.slice (some ⟨f', 0, none⟩) (flatUp (p + 1) L a ++ extUp (p + 1) nm (c + 1)).length cf') (flatUp (p + 1) L a ++ extUp (p + 1) nm (c + 1)) by rw [hle, E2.out]; exact hG)
                have K2 := (S1.alloc (.cells (ints ms2).toArray 31)).grownNo hgrow (fun e => by have e := Option.some.inj (show some b5 = some f from e); omega)
                have K3 := Lib.hid ((SR.out.alloc (.cells (ints ms2).toArray 31)).kept hgrow (fun z hz e => by
                  have hz := Option.some.inj (show some g = some z from hz)
                  have e := Option.some.inj (show some f = some z from e)
                  exact ZA.out.1 (by omega)))
                have K4 : Hid (Kept w w7) := Lib.hid ((SB.out.alloc (.cells (ints ms2).toArray 31)).grown hgrow (SB.out.alloc (.cells (ints ms2).toArray 31)).size (fun j hj => by have hj := Option.some.inj (show some f = some j from hj); omega))
                have hb5 := S1.lt
                have K5 : Hid (g ≠ f' ∧ b5 ≠ f') := Lib.hid (by
                  have h1 := ZA.out.1
                  rcases hlie with h2 | h2
                  · have h2 := Option.some.inj (show some f = some f' from h2)
                    omega
                  · rw [size1] at h2; omega)
                clear hG hgrow hlie SL SR SB S1
                go_wp2_with fail
                go_roundg (5 - (c + 1))
                case rel => exact ⟨c + 1, f', cf', ms2, rfl, by omega, by go_num, by rw [hle], SS, K2, K1, K3, K5, K4⟩
                case measure => omega
            · obtain rfl : c = 5 := by omega
              have KL2 := Lib.hid (show Gr wr w.heap.size 31 6 (.slice (some ⟨f, 0, none⟩) (flatUp (p + 1) L (a + 1)).length cf) (flatUp (p + 1) L (a + 1)) by rw [FSa.out, HCUR.out]; exact ZL.out)
              go_wp2_with fail
              go_roundg (L.length - (a + 1))
              case rel => exact ⟨a + 1, f, cf, rfl, by omega, by go_num, by rw [FSa.out, HCUR.out], KL2, ZR, Lib.hid ZA.out.1, ZB⟩
              case measure => omega
        · obtain rfl : a = L.length := by omega
          have KL2 := Lib.hid (show Gr wr w.heap.size 31 6 (.slice (some ⟨f, 0, none⟩) (lev (p + 1)).length cf) (lev (p + 1)) by rw [HLN.out]; exact QL.out)
          go_wp2_with fail
          go_roundg (5 - (p + 1))
          case rel => exact ⟨p + 1, f, cf, rfl, by omega, by go_num, by rw [HLN.out], KL2, QB⟩
          case measure => omega
    · obtain rfl : p = 5 := by omega
      go_wp2_with fail
      go_ret
      exact ⟨_, rfl, GR.out.as lev_all, GB.out⟩
end Go.Proofs.Ytlleenepinijdaa.base
