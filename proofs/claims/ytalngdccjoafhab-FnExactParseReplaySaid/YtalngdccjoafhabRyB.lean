/-
  The law's own helpers for replays, walked.
-/
import Derived.Test.YtalngdccjoafhabRyCZ
import Derived.Test.YtalngdccjoafhabRackToZ
import Derived.Test.YtalngdccjoafhabCanZ
namespace Go.Proofs.Ytalngdccjoafhab.base
open Go.ChangeShapes Go.WideShapes Go.ChangeAt Go.RowKit
set_option linter.unusedVariables false
set_option linter.unusedSimpArgs false

set_option maxHeartbeats 1600000 in
theorem markBigY (b : Nat) (v : Value) (n K : Nat) (fs : List Int) (w : World) (hn : n ≤ 1048576) (hK : K ≤ 1000) (h : Rw w b v n fs) :
    Calls Try.prog 38 #[v, .int .i64 (K : Int)] w fun e w' => e = .returned (.int .i64 ((K + n * 2 : Nat) : Int)) ∧ Rw w' b v n (markF K (n * 2) fs) ∧ GrR w w' b v n := by
  cases n with
  | zero =>
    obtain ⟨a, c, hv⟩ := rw_zero h
    have HH := Lib.hid h
    clear h
    subst hv
    go_enter Try.func38, Try.ntmps38
    go_wp2_with fail
    go_loop [1, 5, 6] (fun q i j => i = .int .i64 0 ∧ q = .int .i64 (K : Int)) (fun _ _ _ => 0)
    case atStart => exact ⟨rfl, rfl⟩
    case round =>
      obtain ⟨rfl, rfl⟩ := hrel
      go_wp2_with fail
      go_ret
      refine ⟨rfl, ?_, ⟨none, ⟨rfl, rfl, rfl, Nat.le_refl _, fun _ _ _ => rfl⟩, fun k hk => by cases hk⟩⟩
      rw [show markF K 0 fs = fs from markF_zero K fs]; exact HH.out
  | succ n =>
    obtain ⟨g, c, rfl, hbg, _⟩ := h.form (by omega)
    have HBG := Lib.hid hbg
    clear hbg
    have HL := Lib.hid h.flat
    have HH := Lib.hid h
    clear h
    go_enter Try.func38, Try.ntmps38
    go_wp2_with fail
    go_loopg [1, 5, 6] (n + 1) (fun gk q i j wr => ∃ p : Nat, gk = n + 1 - p ∧ p ≤ n + 1 ∧ i = .int .i64 p ∧ q = .int .i64 ((K + p * 2 : Nat) : Int) ∧ Hid (Rw wr b (.slice (some ⟨g, 0, none⟩) (n + 1) c) (n + 1) (markF K (p * 2) fs)) ∧ Hid (w.grownBy wr (some g)))
    case atStart => exact ⟨0, rfl, by omega, rfl, by simp, Lib.hid (by rw [Nat.zero_mul, markF_zero]; exact HH.out), Lib.hid ⟨rfl, rfl, rfl, Nat.le_refl _, fun _ _ _ => rfl⟩⟩
    case round =>
      obtain ⟨p, rfl, hp, rfl, rfl, GP, GG⟩ := hrel
      by_cases hlt : p < n + 1
      · have hpi : (p : Int) < (n : Int) + 1 := by omega
        go_wp2_with fail
        go_loopg [1, 6] 2 (fun gk q j wr => ∃ z : Nat, gk = 2 - z ∧ z ≤ 2 ∧ j = .int .i64 z ∧ q = .int .i64 ((K + (p * 2 + z) : Nat) : Int) ∧ Hid (Rw wr b (.slice (some ⟨g, 0, none⟩) (n + 1) c) (n + 1) (markF K (p * 2 + z) fs)) ∧ Hid (w.grownBy wr (some g)))
        case atStart => exact ⟨0, rfl, by omega, rfl, by simp, GP, GG⟩
        case round =>
          obtain ⟨z, rfl, hz, rfl, rfl, KP, KG⟩ := hrel
          by_cases hz2 : z < 2
          · have hzi : (z : Int) < 2 := by omega
            have c0 := KP.out.cell (p * 2 + z) (by omega)
            have f0 := KP.out.freeAt (by omega) (p * 2 + z) (by omega)
            have st := KP.out.stored (p * 2 + z) (by omega) ((K + (p * 2 + z) : Nat) : Int)
            have e : (markF K (p * 2 + z) fs).set (p * 2 + z) ((K + (p * 2 + z) : Nat) : Int) = markF K (p * 2 + z + 1) fs := markF_set K _ fs (by rw [HL.out]; omega)
            rw [e] at st
            clear e
            have S1 := Lib.hid st.1
            have S2 := Lib.hid (show w.grownBy _ (some g) from ⟨st.2.os.trans KG.out.os, st.2.tape.trans KG.out.tape, st.2.output.trans KG.out.output, Nat.le_trans KG.out.size st.2.size, fun i hi hn => (st.2.block i (Nat.lt_of_lt_of_le hi KG.out.size) hn).trans (KG.out.block i hi hn)⟩)
            clear st
            generalize (markF K (p * 2 + z) fs).getD (p * 2 + z) 0 = y at *
            go_wp2_with fail
            go_roundg (2 - (z + 1))
            case rel => exact ⟨z + 1, rfl, by omega, by go_num, by go_num, S1, S2⟩
            case measure => omega
          · obtain rfl : z = 2 := by omega
            have E : p * 2 + 2 = (p + 1) * 2 := by omega
            rw [E] at KP
            go_wp2_with fail
            go_roundg (n + 1 - (p + 1))
            case rel => exact ⟨p + 1, rfl, by omega, by go_num, by rw [← E], KP, KG⟩
            case measure => omega
      · obtain rfl : p = n + 1 := by omega
        go_wp2_with fail
        go_ret
        exact ⟨rfl, GP.out, ⟨some g, GG.out, fun k hk => by injection hk with hk; subst hk; exact ⟨HBG.out, rfl, by omega⟩⟩⟩



set_option maxHeartbeats 1600000 in
theorem heldBigY (b : Nat) (v : Value) (n K : Nat) (fs : List Int) (w : World) (hn : n ≤ 1048576) (hK : K ≤ 1000) (h : Rw w b v n (markF K (n * 2) fs)) :
    Calls Try.prog 39 #[v, .int .i64 (K : Int)] w fun e w' => e = .returned (.int .i64 ((K + n * 2 : Nat) : Int)) ∧ w' = w := by
  cases n with
  | zero =>
    obtain ⟨a, c, hv⟩ := rw_zero h
    clear h
    subst hv
    go_enter Try.func39, Try.ntmps39
    go_wp2_with fail
    go_loop [1, 5, 6] (fun q i j => i = .int .i64 0 ∧ q = .int .i64 (K : Int)) (fun _ _ _ => 0)
    case atStart => exact ⟨rfl, rfl⟩
    case round =>
      obtain ⟨rfl, rfl⟩ := hrel
      go_wp2_with fail
      go_ret
      exact ⟨rfl, rfl⟩
  | succ n =>
    obtain ⟨g, c, rfl, _, _⟩ := h.form (by omega)
    have HH := Lib.hid h
    clear h
    go_enter Try.func39, Try.ntmps39
    go_wp2_with fail
    go_loopg [1, 5, 6] (n + 1) (fun gk q i j wr => ∃ p : Nat, gk = n + 1 - p ∧ p ≤ n + 1 ∧ i = .int .i64 p ∧ q = .int .i64 ((K + p * 2 : Nat) : Int) ∧ w = wr)
    case atStart => exact ⟨0, rfl, by omega, rfl, by simp, rfl⟩
    case round =>
      obtain ⟨p, rfl, hp, rfl, rfl, rfl⟩ := hrel
      by_cases hlt : p < n + 1
      · have hpi : (p : Int) < (n : Int) + 1 := by omega
        go_wp2_with fail
        go_loopg [1, 6] 2 (fun gk q j wr => ∃ z : Nat, gk = 2 - z ∧ z ≤ 2 ∧ j = .int .i64 z ∧ q = .int .i64 ((K + (p * 2 + z) : Nat) : Int) ∧ w = wr)
        case atStart => exact ⟨0, rfl, by omega, rfl, by simp, rfl⟩
        case round =>
          obtain ⟨z, rfl, hz, rfl, rfl, rfl⟩ := hrel
          by_cases hz2 : z < 2
          · have hzi : (z : Int) < 2 := by omega
            have c0 := HH.out.cell (p * 2 + z) (by omega)
            rw [markF_get K _ _ fs (by omega)] at c0
            go_wp2_with fail
            go_roundg (2 - (z + 1))
            case rel => exact ⟨z + 1, rfl, by omega, by go_num, by go_num, rfl⟩
            case measure => omega
          · obtain rfl : z = 2 := by omega
            have E : p * 2 + 2 = (p + 1) * 2 := by omega
            go_wp2_with fail
            go_roundg (n + 1 - (p + 1))
            case rel => exact ⟨p + 1, rfl, by omega, by go_num, by rw [← E], rfl⟩
            case measure => omega
      · obtain rfl : p = n + 1 := by omega
        go_wp2_with fail
        go_ret
        exact ⟨rfl, rfl⟩

theorem Prs.monoY {w : World} {b b' n : Nat} {v : Value} {fs : List Int} (h : Prs w b v n fs) (hb : b' ≤ b) : Prs w b' v n fs := by
  refine ⟨h.1, ?_⟩
  rcases h.2 with h0 | ⟨g, cap, cur, hv, hg, rest⟩
  · exact .inl h0
  · exact .inr ⟨g, cap, cur, hv, by omega, rest⟩
theorem cells25B : (#[.int .i64 0, .int .i64 0, .int .i64 0, .int .i64 0, .int .i64 0, .int .i64 0, .int .i64 0, .int .i64 0, .int .i64 0, .int .i64 0, .int .i64 0, .int .i64 0, .int .i64 0, .int .i64 0, .int .i64 0, .int .i64 0, .int .i64 0, .int .i64 0, .int .i64 0, .int .i64 0, .int .i64 0, .int .i64 0, .int .i64 0, .int .i64 0, .slice none 0 0] : Array Value) = z25.toArray := rfl

set_option maxHeartbeats 800000 in
set_option maxRecDepth 100000 in
theorem szReplay_any (ns : List Int) (a : Option Addr) (len cap : Nat) (w : World) (h24 : ns.length = 24) (h : len ≤ maxLen) :
    Calls Try.prog 9 #[rpV ns (.slice a len cap), .int .i64 1048576] w fun e w' => (∃ r : Int, e = .returned (.int .i64 r) ∧ (r < 0 ∨ (0 ≤ r ∧ len ≤ 1048576))) ∧ Kept w w' := by
  have RY := Ry.box (v := .slice a len cap) w 28 h24
  have HB := Lib.hid ((kept_refl w).alloc (.cells (rpC ns (.slice a len cap)).toArray 28))
  have c24 := RY.pours
  unfold rpV
  go_enter Try.func9, Try.ntmps9
  go_wp2_with fail
  refine (szA2S a len cap _ h).mono ?_
  rintro e w' ⟨⟨r, rfl, hr⟩, rfl⟩
  by_cases hneg : r < 0
  · clear hr
    go_wp2_with fail
    go_ret
    exact ⟨⟨-1, rfl, .inl (by omega)⟩, HB.out⟩
  · have hneg2 : decide (r < 0) = false := by simpa using hneg
    have HH := Lib.hid hr
    go_wp2_with fail
    go_ret
    exact ⟨⟨r, rfl, HH.out⟩, HB.out⟩

set_option maxHeartbeats 1600000 in
set_option maxRecDepth 100000 in
theorem toReplay_any (ns : List Int) (a : Option Addr) (len cap : Nat) (zs : List Int) (w : World) (h24 : ns.length = 24) (h : IsPairs w a len zs) (hl : len ≤ 1048576) :
    Calls Try.prog 11 #[rpV ns (.slice a len cap)] w fun e w' => ∃ v : Value, e = .returned (rpV ns v) ∧ Prs w' w.heap.size v len zs ∧ Kept w w' := by
  have RY := ((Ry.box (v := .slice a len cap) w 28 h24).alloc (.cells z25.toArray 32)).alloc (.cells z25.toArray 32)
  have Z := ((Ry.zero (w.alloc (.cells (rpC ns (.slice a len cap)).toArray 28)) 32).at (size1 _ _)).alloc (.cells z25.toArray 32)
  have Y := (Ry.zero ((w.alloc (.cells (rpC ns (.slice a len cap)).toArray 28)).alloc (.cells z25.toArray 32)) 32).at (q := w.heap.size + 1 + 1) (by simp)
  have HB := Lib.hid ((((kept_refl w).alloc (.cells (rpC ns (.slice a len cap)).toArray 28)).alloc (.cells z25.toArray 32)).alloc (.cells z25.toArray 32))
  have HP := Lib.hid h
  clear h
  unfold rpV
  go_enter Try.func11, Try.ntmps11
  go_upto_region 2 with fail
  try rw [cells25B]
  generalize (((w.alloc (.cells (rpC ns (.slice a len cap)).toArray 28)).alloc (.cells z25.toArray 32)).alloc (.cells z25.toArray 32)) = W at *
  go_wp2_with (refine guardY (isLdY 25) ?_ ?_; (· rfl); refine load_start rfl 25 _ rfl w.heap.size rfl _ _ _ RY _ Try.underlying25 rfl ?_ ?_; (· kernel_rfl))
  refine (toRack_any ns _ h24).mono ?_
  rintro e w1 ⟨rfl, b1⟩
  rw [row_ints]
  replace RY := RY.below b1
  replace Z := Z.below b1
  replace Y := Y.below b1
  replace HB := Lib.hid (HB.out.call b1)
  clear b1
  have R2 := RY.putOther (q := w.heap.size + 1 + 1) 0 (ints ns) (by omega)
  have Z2 := Z.putOther (q := w.heap.size + 1 + 1) 0 (ints ns) (by omega)
  have Y2 := Y.setStart ns h24
  have B2 := Lib.hid (HB.out.puts (b := w.heap.size + 1 + 1) (by omega) 0 (ints ns))
  go_upto_region 3 with (refine guardY (isStY 30) ?_ ?_; (· rfl); refine store_start rfl 30 _ _ rfl (w.heap.size + 1 + 1) ns rfl rfl _ _ _ Y h24 ?_ ?_; (· kernel_rfl))
  clear RY Z Y HB
  generalize World.setCells w1 (w.heap.size + 1 + 1) 0 (ints ns) = W2 at *
  have c24 := R2.pours
  go_wp2_with fail
  refine (toA2S a len cap zs _ (HP.out.below B2.out) hl).mono ?_
  rintro e w3 ⟨v, rfl, q3, b3⟩
  have ow := Lib.hid (fun k hk => (World.ownsRow.lt q3 k hk).1)
  have hs2 := B2.out.size
  have zl := Z2.lt
  have yl := Y2.lt
  clear c24 R2
  replace Z2 := Z2.below b3
  replace Y2 := Y2.below b3
  replace B2 := Lib.hid (B2.out.call b3)
  have q4 := Lib.hid (Prs.monoY q3 hs2)
  clear b3 q3
  obtain ⟨va, vc, rfl⟩ := q4.out.rw.shape
  have c24 := Y2.pours
  have f24 := Y2.free 24
  have Y3 := Y2.setPours (.slice va len vc)
  have Z3 := Z2.setOther (q := w.heap.size + 1 + 1) 24 (.slice va len vc) (by omega)
  have B3 := Lib.hid (B2.out.set (b := w.heap.size + 1 + 1) (by omega) 24 (.slice va len vc))
  have q5 := Lib.hid (Prs.putsY q4.out (w.heap.size + 1 + 1) 24 [.slice va len vc] (fun k hk => by have := ow.out k hk; omega))
  go_upto_region 4 with fail
  clear c24 f24 Y2 Z2 B2 q4
  replace q5 : Hid (Prs (w3.setCell ⟨w.heap.size + 1 + 1, 24, none⟩ (.slice va len vc)) w.heap.size (.slice va len vc) len zs) := q5
  generalize World.setCell w3 ⟨w.heap.size + 1 + 1, 24, none⟩ (.slice va len vc) = W4 at *
  have S1 := Lib.hid (Z3.putAll ns (.slice va len vc) h24)
  have S2 := Lib.hid (B3.out.puts (b := w.heap.size + 1) (by omega) 0 (rpC ns (.slice va len vc)))
  have S3 := Lib.hid (Prs.putsY q5.out (w.heap.size + 1) 0 (rpC ns (.slice va len vc)) (fun k hk => by have := ow.out k hk; omega))
  go_wp2_with (first | (refine guardY (isLdY 32) ?_ ?_; (· rfl); refine load_ry rfl 32 _ rfl (w.heap.size + 1 + 1) rfl _ _ _ Y3 _ Try.underlying32 rfl ?_ ?_; (· kernel_rfl)) | (refine guardY (isStY 32) ?_ ?_; (· rfl); refine store_ry rfl 32 _ _ rfl (w.heap.size + 1) rfl ns (.slice va len vc) rfl _ _ _ Z3 h24 rfl ?_ ?_; (· kernel_rfl)))
  exact bodyPost_ret (res_ry rfl _ _ (w.heap.size + 1) ns _ _ _ rfl S1.out Try.underlying32 rfl (by kernel_rfl)) rfl ⟨_, rfl, S3.out, S2.out⟩

set_option maxHeartbeats 800000 in
set_option maxRecDepth 100000 in
theorem eqReplay_same (ns fs : List Int) (v1 v2 : Value) (b1 b2 n : Nat) (w : World) (h24 : ns.length = 24) (hn : n ≤ 1048576) (h1 : Rw w b1 v1 n fs) (h2 : Rw w b2 v2 n fs) :
    Calls Try.prog 13 #[rpV ns v1, rpV ns v2] w fun e w' => e = .returned (.bool true) ∧ Kept w w' := by
  have RA := (Ry.box (v := v1) w 32 h24).alloc (.cells (rpC ns v2).toArray 32)
  have RB := (Ry.box (v := v2) (w.alloc (.cells (rpC ns v1).toArray 32)) 32 h24).at (size1 _ _)
  have HB := Lib.hid (((kept_refl w).alloc (.cells (rpC ns v1).toArray 32)).alloc (.cells (rpC ns v2).toArray 32))
  have Q1 := Lib.hid ((h1.alloc (.cells (rpC ns v1).toArray 32)).alloc (.cells (rpC ns v2).toArray 32))
  have Q2 := Lib.hid ((h2.alloc (.cells (rpC ns v1).toArray 32)).alloc (.cells (rpC ns v2).toArray 32))
  clear h1 h2
  unfold rpV
  go_enter Try.func13, Try.ntmps13
  go_upto_region 1 with fail
  generalize ((w.alloc (.cells (rpC ns v1).toArray 32)).alloc (.cells (rpC ns v2).toArray 32)) = W at *
  go_wp2_with (first | (refine guardY (isLdY 30) ?_ ?_; (· rfl); refine load_start rfl 30 _ rfl w.heap.size rfl _ _ _ RA _ Try.underlying30 rfl ?_ ?_; (· kernel_rfl)) | (refine guardY (isLdY 30) ?_ ?_; (· rfl); refine load_start rfl 30 _ rfl (w.heap.size + 1) rfl _ _ _ RB _ Try.underlying30 rfl ?_ ?_; (· kernel_rfl)))
  refine (eqRack_same ns _ h24).mono ?_
  rintro e w1 ⟨rfl, bb⟩
  replace RA := RA.below bb
  replace RB := RB.below bb
  replace Q1 := Lib.hid (Q1.out.below bb)
  replace Q2 := Lib.hid (Q2.out.below bb)
  replace HB := Lib.hid (HB.out.call bb)
  clear bb
  have ca := RA.pours
  have cb := RB.pours
  go_wp2_with fail
  refine (eqRw_same v1 v2 _ _ n fs _ hn Q1.out Q2.out).mono ?_
  rintro e w2 ⟨rfl, bb⟩
  replace HB := Lib.hid (HB.out.call bb)
  clear bb ca cb RA RB Q1 Q2
  go_wp2_with fail
  go_ret
  exact ⟨rfl, HB.out⟩

set_option maxHeartbeats 800000 in
set_option maxRecDepth 100000 in
theorem markReplay_any (ns fs : List Int) (v : Value) (b n : Nat) (w : World) (h24 : ns.length = 24) (hn : n ≤ 1048576) (h : Rw w b v n fs) :
    Calls Try.prog 14 #[rpV ns v, .int .i64 1] w fun e w' => e = .returned (.int .i64 ((1 + n * 2 : Nat) : Int)) ∧ Rw w' b v n (markF 1 (n * 2) fs) ∧ GrR w w' b v n := by
  have RY := Ry.box (v := v) w 32 h24
  have Q := Lib.hid (h.alloc (.cells (rpC ns v).toArray 32))
  have G0 := World.grownBy_alloc w (.cells (rpC ns v).toArray 32) none
  have c24 := RY.pours
  have hone : ((1 : Nat) : Int) = 1 := rfl
  clear h
  unfold rpV
  go_enter Try.func14, Try.ntmps14
  go_wp2_with fail
  refine (markBigY b v n 1 fs _ hn (by omega) Q.out).mono ?_
  rintro e w1 ⟨rfl, q1, ⟨r, g1, g2⟩⟩
  have S1 := Lib.hid q1
  have S2 : Hid (GrR w w1 b v n) := Lib.hid ⟨r, ⟨g1.os.trans G0.os, g1.tape.trans G0.tape, g1.output.trans G0.output, Nat.le_trans G0.size g1.size, fun i hi hne => (g1.block i (Nat.lt_of_lt_of_le hi G0.size) hne).trans (G0.block i hi (by simp))⟩, g2⟩
  clear q1 g1 g2 G0 c24 RY Q
  obtain ⟨y, hy⟩ : ∃ y : Int, y = ((1 + n * 2 : Nat) : Int) := ⟨_, rfl⟩
  have HY := Lib.hid hy
  rw [← HY.out]
  clear hy
  go_wp2_with fail
  go_ret
  exact ⟨by rw [HY.out]; rfl, S1.out, S2.out⟩

set_option maxHeartbeats 800000 in
set_option maxRecDepth 100000 in
theorem heldReplay_any (ns fs : List Int) (v : Value) (b n : Nat) (w : World) (h24 : ns.length = 24) (hn : n ≤ 1000) (h : Rw w b v n (markF 1 (n * 2) fs)) :
    Calls Try.prog 15 #[rpV ns v, .int .i64 1] w fun e w' => e = .returned (.int .i64 ((1 + n * 2 : Nat) : Int)) ∧ Kept w w' := by
  have RY := Ry.box (v := v) w 32 h24
  have Q := Lib.hid (h.alloc (.cells (rpC ns v).toArray 32))
  have HB := Lib.hid ((kept_refl w).alloc (.cells (rpC ns v).toArray 32))
  have c24 := RY.pours
  clear h
  unfold rpV
  go_enter Try.func15, Try.ntmps15
  go_wp2_with fail
  refine (heldRw b v n 1 fs _ hn (by omega) Q.out).mono ?_
  rintro e w1 ⟨rfl, rfl⟩
  obtain ⟨y, hy, hy0⟩ : ∃ y : Int, y = ((1 + n * 2 : Nat) : Int) ∧ 0 ≤ y := ⟨_, rfl, by omega⟩
  have HY := Lib.hid hy
  rw [← HY.out]
  clear hy c24
  have yl : decide (y < 0) = false := by simp; omega
  go_wp2_with fail
  go_ret
  exact ⟨by rw [HY.out]; rfl, HB.out⟩
end Go.Proofs.Ytalngdccjoafhab.base
