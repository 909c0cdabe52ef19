/-
  The candidate with a rank, on the model's side, walked.
-/
import Derived.Test.YtemiljokdedidabWhW
import Derived.Test.YtemiljokdedidabOrdW
import Derived.Test.YtemiljokdedidabVwS3
namespace Go.Proofs.Ytemiljokdedidab.base
open Go.ChangeShapes Go.WideShapes Go.ChangeAt Go.RowKit
set_option linter.unusedVariables false
set_option linter.unusedSimpArgs false

/-- The rack while a tube is filled. -/
def madG (vs hs : List Int) (i k j : Nat) : Int := if j / 4 < i then madAt vs hs (j / 4) (j % 4) else if j / 4 = i ∧ j % 4 < k then madAt vs hs i (j % 4) else 0
def madK (vs hs : List Int) (i k : Nat) : List Int := (List.range 24).map (madG vs hs i k)
theorem madK_len (vs hs : List Int) (i k : Nat) : (madK vs hs i k).length = 24 := by unfold madK; rw [List.length_map, List.length_range]
theorem madK_zero (vs hs : List Int) (i : Nat) : madK vs hs i 0 = madR vs hs i := by
  unfold madK madR
  apply List.map_congr_left
  intro j hj
  unfold madF madG
  by_cases h : j / 4 < i
  · rw [if_pos h, if_pos h]
  · rw [if_neg h, if_neg h, if_neg (by omega)]
theorem madK_set (vs hs : List Int) (i k : Nat) (hk : k < 4) : (madK vs hs i k).set (i * 4 + k) (madAt vs hs i k) = madK vs hs i (k + 1) := by
  unfold madK
  have e : madAt vs hs i k = madG vs hs i (k + 1) (i * 4 + k) := by
    unfold madG
    rw [if_neg (by omega), if_pos (by omega), show (i * 4 + k) % 4 = k by omega]
  rw [e]
  refine range_set 24 _ _ (i * 4 + k) fun j hj => ?_
  unfold madG
  by_cases h : j / 4 < i
  · rw [if_pos h, if_pos h]
  · rw [if_neg h, if_neg h]
    by_cases h2 : j / 4 = i ∧ j % 4 < k
    · rw [if_pos h2, if_pos (by omega)]
    · rw [if_neg h2, if_neg (by omega)]
theorem madK_end (vs hs : List Int) (i m : Nat) (hm : vMany vs i = (m : Int)) : madK vs hs i m = madR vs hs (i + 1) := by
  unfold madK madR
  apply List.map_congr_left
  intro j hj
  unfold madF madG
  by_cases h : j / 4 < i
  · rw [if_pos h, if_pos (by omega)]
  · rw [if_neg h]
    by_cases h2 : j / 4 = i
    · rw [if_pos (show j / 4 < i + 1 by omega), h2]
      by_cases h3 : j % 4 < m
      · rw [if_pos ⟨rfl, h3⟩]
      · rw [if_neg (by omega)]
        unfold madAt
        rw [hm, if_neg (by omega), if_neg (by omega)]
    · rw [if_neg (by omega), if_neg (by omega)]

theorem Has.mCellX {w : World} {b : Nat} {vs : List Int} {x : Int} (h : Has w b vs 18) (k : Nat) (hk : k < 6) (e : vMany vs k = x) : w.cell? ⟨b, 6 + k, none⟩ = some (.int .i64 x) := by
  have := h.vCell 1 k (by omega) hk
  have e2 : (prt vs 1).getD k 0 = x := e
  rw [e2] at this
  simp only [Nat.one_mul] at this
  exact this
theorem backV (s : List Int) (c : Nat) (h : c < s.length) : (less1 s c).set c (s.getD c 0 - 1 + 1) = s := by
  unfold less1
  rw [List.set_set, show s.getD c 0 - 1 + 1 = s.getD c 0 by omega]
  apply List.ext_getElem?
  intro j
  rw [List.getElem?_set]
  split
  · rename_i e; subst e
    rw [List.getD_eq_getElem?_getD, List.getElem?_eq_getElem h]; rfl
  · rfl

set_option maxHeartbeats 3200000 in
set_option maxRecDepth 100000 in
theorem l7Made_any (vs : List Int) (r : Nat) (w : World) (h : vs.length = 18) (hv : vV vs = true) (hw : Wf vs) (hr : r < ordA (hid vs)) :
    Calls Try.prog 33 #[row vs, .int .i64 r] w fun e w' => e = .returned (.agg (ints (madR vs (ordL (hid vs) r (offB vs 6)) 6)).toArray) ∧ Kept w w' := by
  have H := ((Has.box w 31 h (by omega)).alloc (.cells #[.int .i64 0, .int .i64 0, .int .i64 0, .int .i64 0, .int .i64 0, .int .i64 0, .int .i64 0, .int .i64 0, .int .i64 0, .int .i64 0, .int .i64 0, .int .i64 0, .int .i64 0, .int .i64 0, .int .i64 0, .int .i64 0, .int .i64 0, .int .i64 0, .int .i64 0, .int .i64 0, .int .i64 0, .int .i64 0, .int .i64 0, .int .i64 0] 28)).alloc (.cells (ints z24).toArray 28)
  have Z := ((Has.zero24 (w.alloc (.cells (ints vs).toArray 31)) 28).at (size1 _ _)).alloc (.cells (ints z24).toArray 28)
  have Y := (Has.box ((w.alloc (.cells (ints vs).toArray 31)).alloc (.cells #[.int .i64 0, .int .i64 0, .int .i64 0, .int .i64 0, .int .i64 0, .int .i64 0, .int .i64 0, .int .i64 0, .int .i64 0, .int .i64 0, .int .i64 0, .int .i64 0, .int .i64 0, .int .i64 0, .int .i64 0, .int .i64 0, .int .i64 0, .int .i64 0, .int .i64 0, .int .i64 0, .int .i64 0, .int .i64 0, .int .i64 0, .int .i64 0] 28)) 28 (ns := z24) (n := 24) rfl (by decide)).at (c := w.heap.size + 1 + 1) (by simp)
  have HB := Lib.hid ((((kept_refl w).alloc (.cells (ints vs).toArray 31)).alloc (.cells #[.int .i64 0, .int .i64 0, .int .i64 0, .int .i64 0, .int .i64 0, .int .i64 0, .int .i64 0, .int .i64 0, .int .i64 0, .int .i64 0, .int .i64 0, .int .i64 0, .int .i64 0, .int .i64 0, .int .i64 0, .int .i64 0, .int .i64 0, .int .i64 0, .int .i64 0, .int .i64 0, .int .i64 0, .int .i64 0, .int .i64 0, .int .i64 0] 28)).alloc (.cells (ints z24).toArray 28))
  have F := viewFacts h hv
  have ht := F.tops
  have h6 := hid_len h
  have ES := hid_same h hv
  have hz : z24.length = 24 := rfl
  rw [row_ints]
  go_enter Try.func33, Try.ntmps33
  go_upto_region 2 with (first | (refine build_law rfl 28 rfl _ buildRack ?_) | (refine store_new rfl 28 _ _ rfl _ _ _ rfl _ (by simp) z24 rfl rfl ?_ ?_ ?_; (· (first | assumption | rfl)); (· kernel_rfl)))
  generalize (((w.alloc (.cells (ints vs).toArray 31)).alloc (.cells #[.int .i64 0, .int .i64 0, .int .i64 0, .int .i64 0, .int .i64 0, .int .i64 0, .int .i64 0, .int .i64 0, .int .i64 0, .int .i64 0, .int .i64 0, .int .i64 0, .int .i64 0, .int .i64 0, .int .i64 0, .int .i64 0, .int .i64 0, .int .i64 0, .int .i64 0, .int .i64 0, .int .i64 0, .int .i64 0, .int .i64 0, .int .i64 0] 28)).alloc (.cells (ints z24).toArray 28)) = W at *
  go_wp2_with (refine load_has rfl 31 _ rfl _ rfl ?_ 18 ?_ _ Try.underlying31 rfl ?_ ?_; rotate_left; (· (repeat (first | (with_reducible assumption) | ((with_reducible refine Has.box _ _ ?_ ?_) <;> (first | assumption | decide)) | (with_reducible refine Has.alloc ?_ _) | ((with_reducible refine Has.putOther ?_ _ _ ?_); rotate_left; omega; skip) | ((with_reducible refine Has.below ?_ ?_); rotate_left; assumption)))); (· kernel_rfl))
  refine (l7Hidden_any vs _ h ht hw).mono ?_
  rintro e w3 ⟨rfl, b3⟩
  rw [ES]
  have N0 : Stk (hid vs) (offB vs 6) := by
    refine ⟨h6, F.nat, F.zero, ?_⟩
    have := F.pl
    unfold offB; omega
  have n18 : offB vs 6 ≤ 18 := by have := F.small; have := F.pl; unfold offB; omega
  have Y3 : Has _ (w.heap.size + 1 + 1) (madR vs (ordL (hid vs) r (offB vs 6)) 0) 24 := ((Y.below b3).alloc (.cells (ints (hid vs)).toArray 22)).asV (madR_zero vs _).symm
  have Z3 := (Z.below b3).alloc (.cells (ints (hid vs)).toArray 22)
  have H3 := (H.below b3).alloc (.cells (ints (hid vs)).toArray 22)
  have HB3 := Lib.hid ((HB.out.call b3).alloc (.cells (ints (hid vs)).toArray 22))
  have C3 : Has (w3.alloc (.cells (ints (hid vs)).toArray 22)) w3.heap.size (pt (hid vs) r (offB vs 0)).1 6 := Has.box w3 22 h6 (by omega)
  have hne : w.heap.size + 1 + 1 < w3.heap.size := by have := (Y.below b3).lt; omega
  have HT := Lib.hid (fun i hi => topV_at ht i hi)
  have OS := Lib.hid (fun i m hi hm => offB_succ ht i m hi hm)
  have OL := Lib.hid (fun i hi => offB_le ht i hi)
  have PT := Lib.hid (fun k hk => pt_ok N0 hr k hk)
  have CO := Lib.hid (fun k hk => colAt_ok N0 hr k hk)
  have OG := Lib.hid (fun j hj => ordL_getD (hid vs) r (offB vs 6) j hj)
  have N18 := Lib.hid n18
  have e0 : (r : Int) = ((pt (hid vs) r (offB vs 0)).2 : Nat) := rfl
  rw [e0]
  clear H Z Y HB b3 ES F ht hv hw e0 N0 n18 hr
  go_upto_region 3 with (refine store_new rfl 22 _ _ rfl _ _ _ rfl _ rfl _ rfl rfl ?_ ?_ ?_; (· (first | assumption | rfl)); (· kernel_rfl))
  generalize w3.alloc (.cells (ints (hid vs)).toArray 22) = W3 at *
  generalize w3.heap.size = b at *
  generalize hhs : ordL (hid vs) r (offB vs 6) = hs at *
  have HHS := Lib.hid hhs
  clear hhs
  generalize belUp vs 6 = bu at *
  clear h6
  generalize hs0 : hid vs = s at *
  have HS0 := Lib.hid hs0
  clear hs0
  go_wp2_with fail
  go_loopg [1, 8] 6 (fun gk rr ii wr => ∃ i : Nat, gk = 6 - i ∧ i ≤ 6 ∧ ii = .int .i64 i ∧ rr = .int .i64 ((pt s r (offB vs i)).2 : Nat) ∧ Has wr w.heap.size vs 18 ∧ Has wr (w.heap.size + 1) z24 24 ∧ Has wr (w.heap.size + 1 + 1) (madR vs hs i) 24 ∧ Has wr b (pt s r (offB vs i)).1 6 ∧ Hid (Kept w wr))
  case atStart => exact ⟨0, rfl, by omega, rfl, rfl, H3, Z3, Y3, C3, HB3⟩
  case round =>
    clear H3 Z3 Y3 C3 HB3
    obtain ⟨i, rfl, hi, rfl, rfl, GH, GZ, GY, GC, GB⟩ := hrel
    by_cases hi6 : i < 6
    · have hii : (i : Int) < 6 := by omega
      have tk := HT.out i hi6
      obtain ⟨m, hm⟩ : ∃ m : Nat, vMany vs i = (m : Int) := ⟨(vMany vs i).toNat, by omega⟩
      have hm4 : m ≤ 4 := by omega
      have os := OS.out i m hi6 hm
      have ol := OL.out (i + 1) (by omega)
      have EO := Lib.hid os
      rw [os] at ol
      have HM := Lib.hid hm
      have TZ := Lib.hid (show m = 0 → vTop vs i = 0 from fun h => by omega)
      have KE := Lib.hid (madK_end vs hs i m hm)
      have AH := Lib.hid (show ∀ q, q < m - 1 → madAt vs hs i q = hs.getD (offB vs i + q) 0 from fun q hq => by
        unfold madAt; rw [hm, if_pos (by omega)])
      have AM := Lib.hid (show 1 ≤ m → madAt vs hs i (m - 1) = vTop vs i from fun h1 => by
        unfold madAt; rw [hm, if_neg (by omega), if_pos (by omega)])
      have GY := GY.asV (madK_zero vs hs i).symm
      clear tk os hm
      have DI := Lib.hid (show 6 - (i + 1) < 6 - i by omega)
      go_wp2_with fail
      go_loopg [1, 9] m (fun gk rr kk wr => ∃ k : Nat, gk = m - k ∧ k ≤ m - 1 ∧ kk = .int .i64 k ∧ rr = .int .i64 ((pt s r (offB vs i + k)).2 : Nat) ∧ Has wr w.heap.size vs 18 ∧ Has wr (w.heap.size + 1) z24 24 ∧ Has wr (w.heap.size + 1 + 1) (madK vs hs i k) 24 ∧ Has wr b (pt s r (offB vs i + k)).1 6 ∧ Hid (Kept w wr))
      case atStart => exact ⟨0, rfl, by omega, rfl, rfl, GH, GZ, GY, GC, GB⟩
      case round =>
        clear GH GZ GY GC GB
        obtain ⟨k, rfl, hk, rfl, rfl, KH, KZ, KY, KC, KB⟩ := hrel
        have c1 := KH.vCell 1 i (by omega) hi6
        have e1 : (prt vs 1).getD i 0 = (m : Int) := HM.out
        rw [e1] at c1
        simp only [Nat.one_mul] at c1
        clear e1
        by_cases hkl : k < m - 1
        · have dk : decide ((k : Int) < (m : Int) - 1) = true := decide_eq_true (by omega)
          have hp : offB vs i + k < offB vs 6 := by omega
          obtain ⟨o1, o2⟩ := PT.out (offB vs i + k) (by omega)
          obtain ⟨o3, o4⟩ := PT.out (offB vs i + k + 1) (by omega)
          have P := CO.out (offB vs i + k) hp
          have ES : Hid ((pt s r (offB vs i + k + 1)).1 = less1 (pt s r (offB vs i + k)).1 (colAt s r (offB vs i + k))) := Lib.hid rfl
          have ER : Hid ((pt s r (offB vs i + k + 1)).2 = (pt s r (offB vs i + k)).2 - bef (pt s r (offB vs i + k)).1 (colAt s r (offB vs i + k))) := Lib.hid rfl
          have EA := Lib.hid (show madAt vs hs i k = (colAt s r (offB vs i + k) : Int) by rw [AH.out k hkl]; exact OG.out _ hp)
          have O1 := Lib.hid o1
          have l6 := o1.len
          have lo := P.lo
          have hi6c := P.hi
          have lw := P.low
          have hg := P.high
          have n18 : offB vs 6 - (offB vs i + k) ≤ 18 := by have := N18.out; omega
          have big := o1.le18 n18
          have BL := Lib.hid (fun a b hab => bef_le (pt s r (offB vs i + k)).1 (a := a) (b := b) hab)
          have BO := Lib.hid (fun c hc => o1.bef_le c hc)
          have xpos := P.pos
          have EJ := Lib.hid (show offB vs i + (k + 1) = offB vs i + k + 1 by omega)
          have DK := Lib.hid (show m - (k + 1) < m - k by omega)
          have HK1 := Lib.hid (show k + 1 ≤ m - 1 from hkl)
          have MS := Lib.hid (madK_set vs hs i k (by omega))
          have hk4 : k < 4 := by omega
          clear P o1 o3 o4 hkl dk
          generalize hR1 : pt s r (offB vs i + k + 1) = R1 at *
          have HR1 := Lib.hid hR1
          clear hR1
          generalize pt s r (offB vs i + k) = R0 at *
          generalize colAt s r (offB vs i + k) = c at *
          generalize offB vs 6 - (offB vs i + k) = n at *
          have B1 := Lib.hid (bef_one R0.1)
          have dk : decide ((k : Int) < (m : Int) - 1) = true := decide_eq_true (by have := HK1.out; omega)
          go_wp2_with fail
          have CX := Lib.hid (show ∀ l, 1 ≤ l → l ≤ c → bef R0.1 l ≤ R0.2 from fun l h1 h2 => Nat.le_trans (BL.out l c h2) lw)
          have CY := Lib.hid (show ∀ l, l < c → bef R0.1 (l + 1) ≤ R0.2 from fun l h2 => Nat.le_trans (BL.out (l + 1) c h2) lw)
          have r0 : R0.2 ≤ 101559956668416 := by omega
          have HG := Lib.hid hg
          have LO := Lib.hid lo
          clear lw hg o2 big
          go_loopg [1, 10] (c - 1) (fun gk rr cc wr => ∃ l : Nat, gk = c - l ∧ 1 ≤ l ∧ l ≤ c ∧ cc = .int .i64 l ∧ rr = .int .i64 ((R0.2 - bef R0.1 l : Nat) : Int) ∧ Has wr w.heap.size vs 18 ∧ Has wr (w.heap.size + 1) z24 24 ∧ Has wr (w.heap.size + 1 + 1) (madK vs hs i k) 24 ∧ Has wr b R0.1 6 ∧ Hid (Kept w wr))
          case atStart => exact ⟨1, rfl, by omega, lo, rfl, by rw [B1.out, Nat.sub_zero], KH, KZ, KY, KC, KB⟩
          case round =>
            clear KH KZ KY KC KB c1
            obtain ⟨l, rfl, hl1, hlc, rfl, rfl, JH, JZ, JY, JC, JB⟩ := hrel
            have hl6 : l < 6 := by omega
            have hli6 : (l : Int) < 6 := by omega
            have ES2 := Lib.hid (bef_succ R0.1 l hl1)
            have cx := CX.out l hl1 hlc
            have bl := BO.out (l + 1) (by omega)
            have d0 := JC.cell l hl6
            have g1 := O1.out.nat l hl6
            have g2 := O1.out.each l hl6
            have DL := Lib.hid (show l < c → c - (l + 1) < c - l from fun h => by omega)
            have NX := Lib.hid (show l < c → ordA (less1 R0.1 l) ≤ R0.2 - bef R0.1 l ∧ R0.2 - bef R0.1 l - ordA (less1 R0.1 l) = R0.2 - bef R0.1 (l + 1) from fun h => by
              have h1 := CY.out l h
              have h2 := ES2.out
              omega)
            have NE := Lib.hid (show l = c → R0.2 - bef R0.1 l < ordA (less1 R0.1 l) from fun h => by
              subst h
              have h1 := HG.out
              have h2 := ES2.out
              omega)
            by_cases hx : R0.1.getD l 0 = 0
            · have ez : ordA (less1 R0.1 l) = 0 := ordA_not (j := l) hl6 (by unfold less1; rw [set_getD _ _ _ _ (by omega), if_pos rfl]; omega)
              have hlc2 : l < c := by
                rcases Nat.lt_or_ge l c with h1 | h1
                · exact h1
                · have := NE.out (by omega)
                  omega
              obtain ⟨n1, n2⟩ := NX.out hlc2
              rw [ez, Nat.sub_zero] at n2
              rw [hx] at d0
              have HC := Lib.hid (show l + 1 ≤ c from hlc2)
              have DL2 := Lib.hid (DL.out hlc2)
              have N2 := Lib.hid n2
              have dz : decide (R0.2 - bef R0.1 l < 0) = false := decide_eq_false (by omega)
              have hyb : R0.2 - bef R0.1 l < 1000000000000000 := by omega
              clear hx g1 g2 bl ez n1 n2 cx
              generalize R0.2 - bef R0.1 l = y at *
              have dy : decide ((y : Int) < 0) = false := decide_eq_false (by omega)
              go_wp2_with fail
              go_roundg (c - (l + 1))
              case rel => exact ⟨l + 1, rfl, by omega, HC.out, by go_num, by rw [← N2.out], JH, JZ, JY, JC, JB⟩
              case measure => exact DL2.out
            · have xp : 0 < R0.1.getD l 0 := by omega
              obtain ⟨n1, hn1⟩ : ∃ n1, n = n1 + 1 := ⟨n - 1, by omega⟩
              subst hn1
              have O2 := O1.out.less hl1 hl6 xp
              have l62 := O2.len
              have p2 : plUp (less1 R0.1 l) 6 ≤ 18 := by rw [O2.pl]; omega
              have zb := O2.le18 (by omega)
              have BK := Lib.hid (backV R0.1 l (by omega))
              have EL1 : less1 R0.1 l = R0.1.set l (R0.1.getD l 0 - 1) := rfl
              have G1 := Lib.hid (show (less1 R0.1 l).getD l 0 = R0.1.getD l 0 - 1 by rw [EL1, set_getD _ _ _ _ (by omega), if_pos rfl])
              have f0 := JC.free l hl6
              have JC2 := (JC.set l (R0.1.getD l 0 - 1) hl6).asV EL1.symm
              have JY2 := JY.setOther (b' := b) l (.int .i64 (R0.1.getD l 0 - 1)) (by omega)
              have JZ2 := JZ.setOther (b' := b) l (.int .i64 (R0.1.getD l 0 - 1)) (by omega)
              have JH2 := JH.setOther (b' := b) l (.int .i64 (R0.1.getD l 0 - 1)) (by omega)
              have JB2 := Lib.hid (JB.out.set (b := b) (by omega) l (.int .i64 (R0.1.getD l 0 - 1)))
              have xr : R0.1.getD l 0 ≤ 100 := by omega
              have xq : decide (0 < R0.1.getD l 0) = true := decide_eq_true xp
              have KW := Lib.hid (fun W => l7Ways_any (less1 R0.1 l) W l62 O2.nat O2.zero p2)
              have ES3 := Lib.hid (show l = c → less1 R0.1 l = R1.1 from fun h => by rw [h, ES.out])
              have ER3 := Lib.hid (show l = c → R0.2 - bef R0.1 l = R1.2 from fun h => by rw [h, ER.out])
              clear hx g1 g2 O2 JH JZ JY JC JB EL1 bl cx p2
              generalize hgx : R0.1.getD l 0 = x at *
              have HGX := Lib.hid hgx
              clear hgx
              generalize hyy : R0.2 - bef R0.1 l = y at *
              have HYY := Lib.hid hyy
              clear hyy
              have hy : y < 1000000000000000 := by have := HYY.out; omega
              generalize hzz : ordA (less1 R0.1 l) = z at *
              have HZZ := Lib.hid hzz
              clear hzz
              go_upto_region 13 with fail
              generalize wr.setCell ⟨b, l, none⟩ (.int .i64 (x - 1)) = W4 at *
              clear d0 f0
              go_wp2_with (refine load_has rfl 22 _ rfl _ rfl ?_ 6 ?_ _ Try.underlying22 rfl ?_ ?_; rotate_left; (· (repeat (first | (with_reducible assumption) | ((with_reducible refine Has.box _ _ ?_ ?_) <;> (first | assumption | decide)) | (with_reducible refine Has.alloc ?_ _) | ((with_reducible refine Has.putOther ?_ _ _ ?_); rotate_left; omega; skip) | ((with_reducible refine Has.below ?_ ?_); rotate_left; assumption)))); (· kernel_rfl))
              refine (KW.out _).mono ?_
              rintro e w7 ⟨rfl, b7⟩
              have JH3 := JH2.below b7
              have JZ3 := JZ2.below b7
              have JY3 := JY2.below b7
              have JC3 := JC2.below b7
              have JB3 := Lib.hid (JB2.out.call b7)
              clear JH2 JZ2 JY2 JC2 JB2 b7
              have d1 := JC3.cell l hl6
              rw [G1.out] at d1
              have f1 := JC3.free l hl6
              have xx : x - 1 + 1 = x := by omega
              have JC4 := (JC3.set l (x - 1 + 1) hl6).asV BK.out
              have JY4 := JY3.setOther (b' := b) l (.int .i64 (x - 1 + 1)) (by omega)
              have JZ4 := JZ3.setOther (b' := b) l (.int .i64 (x - 1 + 1)) (by omega)
              have JH4 := JH3.setOther (b' := b) l (.int .i64 (x - 1 + 1)) (by omega)
              have JB4 := Lib.hid (JB3.out.set (b := b) (by omega) l (.int .i64 (x - 1 + 1)))
              rw [xx] at JC4 JY4 JZ4 JH4 JB4
              clear JH3 JZ3 JY3 JC3 JB3 xx
              go_upto_region 15 with fail
              generalize w7.setCell ⟨b, l, none⟩ (.int .i64 x) = W8 at *
              clear d1 f1
              by_cases hlc2 : l < c
              · obtain ⟨n1', n2⟩ := NX.out hlc2
                have dz : decide (y < z) = false := decide_eq_false (by omega)
                have dzi : decide ((y : Int) < (z : Int)) = false := decide_eq_false (by omega)
                have wz : IntKind.i64.wrap ((y : Int) - (z : Int)) = ((y - z : Nat) : Int) := by rw [IntWalk.i64_in _ (by omega)]; omega
                have WZ := Lib.hid (show (y : Int) - (z : Int) = ((y - z : Nat) : Int) by omega)
                have N2 := Lib.hid n2
                have HC := Lib.hid (show l + 1 ≤ c from hlc2)
                have DL2 := Lib.hid (DL.out hlc2)
                clear n1' n2 hlc2
                go_wp2_with fail
                go_roundg (c - (l + 1))
                case rel => exact ⟨l + 1, rfl, by omega, HC.out, by go_num, by rw [← N2.out], JH4, JZ4, JY4, JC4, JB4⟩
                case measure => exact DL2.out
              · have hle : l = c := by omega
                have ne := NE.out hle
                have dz : decide (y < z) = true := decide_eq_true ne
                have dzi : decide ((y : Int) < (z : Int)) = true := decide_eq_true (by omega)
                have es := ES3.out hle
                have er := ER3.out hle
                have d2 := JC4.cell l hl6
                have f2 := JC4.free l hl6
                have y2 := JY4.cell (i * 4 + k) (by omega)
                have fy2 := JY4.free (i * 4 + k) (by omega)
                have xe : R0.1.getD l 0 = x := HGX.out
                have x0 : 0 ≤ x := by omega
                rw [xe] at d2
                have QY := (JY4.set (i * 4 + k) (l : Int) (by omega)).asV (show (madK vs hs i k).set (i * 4 + k) (l : Int) = madK vs hs i (k + 1) by rw [hle, ← EA.out]; exact MS.out)
                have QC := JC4.setOther (b' := w.heap.size + 1 + 1) (i * 4 + k) (.int .i64 (l : Int)) (by omega)
                have QZ := JZ4.setOther (b' := w.heap.size + 1 + 1) (i * 4 + k) (.int .i64 (l : Int)) (by omega)
                have QH := JH4.setOther (b' := w.heap.size + 1 + 1) (i * 4 + k) (.int .i64 (l : Int)) (by omega)
                have QB := Lib.hid (JB4.out.set (b := w.heap.size + 1 + 1) (by omega) (i * 4 + k) (.int .i64 (l : Int)))
                have hki4 : (k : Int) < 4 := by omega
                have XE := Lib.hid xe
                have ER4 := Lib.hid er
                clear er
                have HLE := Lib.hid hle
                clear hle
                clear JH4 JZ4 JY4 JB4 d2 hlc2 ne xe
                generalize (madK vs hs i k).getD (i * 4 + k) 0 = yy at *
                go_upto_region 19 with fail
                generalize W8.setCell ⟨w.heap.size + 1 + 1, i * 4 + k, none⟩ (.int .i64 (l : Int)) = W9 at *
                clear y2 fy2 f2 JC4
                have d3 := QC.cell l hl6
                have f3 := QC.free l hl6
                rw [XE.out] at d3
                have RC := Lib.hid ((QC.set l (x - 1) hl6).asV (show R0.1.set l (x - 1) = R1.1 by rw [← es, ← XE.out]; rfl))
                have RY := Lib.hid (QY.setOther (b' := b) l (.int .i64 (x - 1)) (by omega))
                have RZ := Lib.hid (QZ.setOther (b' := b) l (.int .i64 (x - 1)) (by omega))
                have RH := Lib.hid (QH.setOther (b' := b) l (.int .i64 (x - 1)) (by omega))
                have RB := Lib.hid (QB.out.set (b := b) (by omega) l (.int .i64 (x - 1)))
                clear QY QC QZ QH QB
                go_wp2_with fail
                go_roundg (m - (k + 1))
                case rel => exact ⟨k + 1, rfl, HK1.out, by go_num, by rw [EJ.out, HR1.out, ← ER4.out], RH.out, RZ.out, RY.out, by rw [EJ.out, HR1.out]; exact RC.out, RB⟩
                case measure => exact DK.out
        · have hke : k = m - 1 := by omega
          have dk : decide ((k : Int) < (m : Int) - 1) = false := decide_eq_false (by omega)
          subst hke
          rw [← EO.out] at KC ⊢
          by_cases hm0 : m = 0
          · subst hm0
            have KY2 := KY.asV KE.out
            clear hkl dk
            go_wp2_with fail
            go_roundg (6 - (i + 1))
            case rel => exact ⟨i + 1, rfl, by omega, by go_num, rfl, KH, KZ, KY2, KC, KB⟩
            case measure => exact DI.out
          · have hm1 : 1 ≤ m := by omega
            have dm : decide ((0 : Int) < (m : Int)) = true := decide_eq_true (by omega)
            have AT := AM.out hm1
            have MS := madK_set vs hs i (m - 1) (by omega)
            rw [show m - 1 + 1 = m by omega, KE.out, AT] at MS
            obtain ⟨q, hq⟩ : ∃ q, q = m - 1 := ⟨_, rfl⟩
            have wq : IntKind.i64.wrap ((m : Int) - 1) = (q : Int) := by rw [IntWalk.i64_in _ (by omega)]; omega
            have qi4 : (q : Int) < 4 := by omega
            have q4 : q < 4 := by omega
            rw [← hq] at MS KY ⊢
            have HQ := Lib.hid hq
            clear hq
            have MSH := Lib.hid MS
            have hii4 : i * 4 + q < 24 := by omega
            have hne2 : w.heap.size + 1 + 1 ≠ w.heap.size := by omega
            clear hkl hm0 AT MS
            go_wp2_with fail
            clear c1
            refine wp_region_held_drew (S := fun w' => Has w' w.heap.size vs 18 ∧ (∃ zs, Has w' (w.heap.size + 1 + 1) zs 24)) (by kernel_rfl) ⟨KH.drew, ⟨_, KY.drew⟩⟩ (fun hHeld => ?_)
            have D1 := KZ.drew
            have D2 := KY.drew
            have D3 := KC.drew
            have D4 := Lib.hid (KB.out.drewN 1)
            change Hid (Kept _ (World.drew wr)) at D4
            clear KZ KY KC KB KH
            generalize World.drew wr = WD at *
            (refine wpAnyH_take (i := 0) (v := ?_) rfl (by kernel_rfl) (by kernel_rfl) (by kernel_rfl) (fun _ _ _ h => h) (Or.inl ⟨by rfl, ?_⟩) hHeld ?_; rotate_left; (· (intro w' hSw; go_simp; try with_reducible rfl)); (try simp only [List.getElem_toArray, List.getElem_cons_zero, List.getElem_cons_succ, Act.put, List.setIfInBounds_toArray, List.set_cons_zero, List.set_cons_succ])); (refine wpAnyH_take (i := 1) (v := ?_) rfl (by kernel_rfl) (by kernel_rfl) (by kernel_rfl) (fun _ _ _ h => h) (Or.inl ⟨by rfl, ?_⟩) hHeld ?_; rotate_left; (· (intro w' hSw; go_simp; try with_reducible rfl)); (try simp only [List.getElem_toArray, List.getElem_cons_zero, List.getElem_cons_succ, Act.put, List.setIfInBounds_toArray, List.set_cons_zero, List.set_cons_succ])); (refine wpAnyH_take (i := 2) (v := ?_) rfl (by kernel_rfl) (by kernel_rfl) (by kernel_rfl) (fun _ _ _ h => h) (Or.inl ⟨by rfl, ?_⟩) hHeld ?_; rotate_left; (· (intro w' hSw; go_simp; try with_reducible rfl)); (try simp only [List.getElem_toArray, List.getElem_cons_zero, List.getElem_cons_succ, Act.put, List.setIfInBounds_toArray, List.set_cons_zero, List.set_cons_succ])); (refine wpAnyH_take (i := 3) (v := ?_) rfl (by kernel_rfl) (by kernel_rfl) (by kernel_rfl) (fun _ _ _ h => h) (Or.inl ⟨by rfl, ?_⟩) hHeld ?_; rotate_left; (· (intro w' hSw; go_simp; try with_reducible rfl)); (try simp only [List.getElem_toArray, List.getElem_cons_zero, List.getElem_cons_succ, Act.put, List.setIfInBounds_toArray, List.set_cons_zero, List.set_cons_succ])); (refine wpAnyH_take (i := 6) (v := ?_) rfl (by kernel_rfl) (by kernel_rfl) (by kernel_rfl) (fun _ _ _ h => h) (Or.inl ⟨by rfl, ?_⟩) hHeld ?_; rotate_left; (· (intro w' hSw; go_simp; try with_reducible rfl)); (try simp only [List.getElem_toArray, List.getElem_cons_zero, List.getElem_cons_succ, Act.put, List.setIfInBounds_toArray, List.set_cons_zero, List.set_cons_succ])); (refine wpAnyH_take (i := 7) (v := ?_) rfl (by kernel_rfl) (by kernel_rfl) (by kernel_rfl) (fun _ _ _ h => h) (Or.inl ⟨by rfl, ?_⟩) hHeld ?_; rotate_left; (· (intro w' hSw; go_simp; try with_reducible rfl)); (try simp only [List.getElem_toArray, List.getElem_cons_zero, List.getElem_cons_succ, Act.put, List.setIfInBounds_toArray, List.set_cons_zero, List.set_cons_succ])); (refine wpAnyH_take (i := 8) (v := ?_) rfl (by kernel_rfl) (by kernel_rfl) (by kernel_rfl) (fun _ _ _ h => h) (Or.inl ⟨by rfl, ?_⟩) hHeld ?_; rotate_left; (· (intro w' hSw; go_simp; try with_reducible rfl)); (try simp only [List.getElem_toArray, List.getElem_cons_zero, List.getElem_cons_succ, Act.put, List.setIfInBounds_toArray, List.set_cons_zero, List.set_cons_succ])); (refine wpAnyH_take (i := 10) (v := ?_) rfl (by kernel_rfl) (by kernel_rfl) (by kernel_rfl) (fun _ _ _ h => h) (Or.inl ⟨by rfl, ?_⟩) hHeld ?_; rotate_left; (· (intro w' hSw; go_simp; try with_reducible rfl)); (try simp only [List.getElem_toArray, List.getElem_cons_zero, List.getElem_cons_succ, Act.put, List.setIfInBounds_toArray, List.set_cons_zero, List.set_cons_succ])); (refine wpAnyH_take (i := 11) (v := ?_) rfl (by kernel_rfl) (by kernel_rfl) (by kernel_rfl) (fun _ _ _ h => h) (Or.inl ⟨by rfl, ?_⟩) hHeld ?_; rotate_left; (· (intro w' hSw; go_simp; try with_reducible rfl)); (try simp only [List.getElem_toArray, List.getElem_cons_zero, List.getElem_cons_succ, Act.put, List.setIfInBounds_toArray, List.set_cons_zero, List.set_cons_succ]))
            (refine wpAnyH_take (i := 4) (v := .int .i64 (m : Int)) rfl (by kernel_rfl) (by kernel_rfl) (by kernel_rfl) (fun _ _ _ h => h) (Or.inl ⟨by rfl, ?_⟩) hHeld ?_; (· (intro w' hSw; have q := hSw.1.mCellX i hi6 HM.out; clear hSw; go_simp; try with_reducible rfl)); (try simp only [List.getElem_toArray, List.getElem_cons_zero, List.getElem_cons_succ, Act.put, List.setIfInBounds_toArray, List.set_cons_zero, List.set_cons_succ]))
            (refine wpAnyH_take (i := 5) (v := ?_) rfl (by kernel_rfl) (by kernel_rfl) (by kernel_rfl) (fun _ _ _ h => h) (Or.inl ⟨by rfl, ?_⟩) hHeld ?_; rotate_left; (· (intro w' hSw; go_simp; try with_reducible rfl)); (try simp only [List.getElem_toArray, List.getElem_cons_zero, List.getElem_cons_succ, Act.put, List.setIfInBounds_toArray, List.set_cons_zero, List.set_cons_succ]))
            (refine wpAnyH_take (i := 9) (v := .int .i64 (vTop vs i)) rfl (by kernel_rfl) (by kernel_rfl) (by kernel_rfl) (fun _ _ _ h => h) (Or.inl ⟨by rfl, ?_⟩) hHeld ?_; (· (intro w' hSw; have q := hSw.1.tCell i hi6; clear hSw; go_simp; try with_reducible rfl)); (try simp only [List.getElem_toArray, List.getElem_cons_zero, List.getElem_cons_succ, Act.put, List.setIfInBounds_toArray, List.set_cons_zero, List.set_cons_succ]))
            (refine wpAnyH_take (i := 12) (v := ?_) rfl (by kernel_rfl) (by kernel_rfl) (by kernel_rfl) (fun _ _ _ h => h) (Or.inl ⟨by rfl, ?_⟩) hHeld ?_; rotate_left; (· (intro w' hSw; go_simp; try with_reducible rfl)); (try simp only [List.getElem_toArray, List.getElem_cons_zero, List.getElem_cons_succ, Act.put, List.setIfInBounds_toArray, List.set_cons_zero, List.set_cons_succ]))
            have y2 := D2.cell (i * 4 + q) hii4
            have f2 := D2.free (i * 4 + q) hii4
            have M2 := (D2.set (i * 4 + q) (vTop vs i) hii4).asV MSH.out
            have M0 := hHeld.1.setOther (b' := w.heap.size + 1 + 1) (i * 4 + q) (.int .i64 (vTop vs i)) (by omega)
            have M1 := Lib.hid (D1.setOther (b' := w.heap.size + 1 + 1) (i * 4 + q) (.int .i64 (vTop vs i)) (by omega))
            have M3 := Lib.hid (D3.setOther (b' := w.heap.size + 1 + 1) (i * 4 + q) (.int .i64 (vTop vs i)) (by omega))
            have M4 := Lib.hid (D4.out.set (b := w.heap.size + 1 + 1) (by omega) (i * 4 + q) (.int .i64 (vTop vs i)))
            (refine wpAnyH_ready (rs := [13]) (by kernel_rfl) (by simp) ?_; refine AllReadyH.cons (o := _) rfl (fun K hK => ?_) AllReadyH.nil; (simp only [List.getElem_toArray, List.getElem_cons_zero, List.getElem_cons_succ, Region.wanted, if_true]))
            go_simp
            (try simp only [List.getElem_toArray, List.getElem_cons_zero, List.getElem_cons_succ, Act.put, List.setIfInBounds_toArray, List.set_cons_zero, List.set_cons_succ])
            refine hK.out _ _ ⟨M0, ⟨_, M2⟩⟩ (fun hHeld => ?_)
            clear hK K
            refine wpAnyH_done (by kernel_rfl) ?_ _
            have M0 := Lib.hid M0
            have M2 := Lib.hid M2
            clear hHeld D1 D2 D3 D4 y2 f2
            go_wp2_with fail
            go_roundg (6 - (i + 1))
            case rel => exact ⟨i + 1, rfl, by omega, by go_num, rfl, M0.out, M1.out, M2.out, M3.out, M4⟩
            case measure => exact DI.out
    · obtain rfl : i = 6 := by omega
      have hl := madR_len vs hs 6
      have S1 := Lib.hid (GZ.putAll (madR vs hs 6) hl)
      have S2 := Lib.hid (GB.out.puts (b := w.heap.size + 1) (by omega) 0 (ints (madR vs hs 6)))
      go_wp2_with (first | (refine load_has rfl 28 _ rfl _ rfl ?_ 24 ?_ _ Try.underlying28 rfl ?_ ?_; rotate_left; (· (repeat (first | (with_reducible assumption) | ((with_reducible refine Has.box _ _ ?_ ?_) <;> (first | assumption | decide)) | (with_reducible refine Has.alloc ?_ _) | ((with_reducible refine Has.putOther ?_ _ _ ?_); rotate_left; omega; skip) | ((with_reducible refine Has.below ?_ ?_); rotate_left; assumption)))); (· kernel_rfl)) | (refine store_at rfl 28 _ _ rfl _ _ rfl rfl ?_ 24 ?_ ?_ ?_ ?_; rotate_left; (· (repeat (first | (with_reducible assumption) | ((with_reducible refine Has.box _ _ ?_ ?_) <;> (first | assumption | decide)) | (with_reducible refine Has.alloc ?_ _) | ((with_reducible refine Has.putOther ?_ _ _ ?_); rotate_left; omega; skip) | ((with_reducible refine Has.below ?_ ?_); rotate_left; assumption)))); (· (first | assumption | rfl)); (· kernel_rfl)))
      exact bodyPost_ret (res_has rfl _ _ (w.heap.size + 1) (madR vs hs 6) 24 _ rfl S1.out Try.underlying28 rfl (by kernel_rfl)) rfl ⟨by rw [HS0.out, HHS.out], S2.out⟩
end Go.Proofs.Ytemiljokdedidab.base
