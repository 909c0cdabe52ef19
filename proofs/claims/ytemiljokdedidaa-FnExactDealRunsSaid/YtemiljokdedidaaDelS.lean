/-
  Deals on the model's side, walked.
-/
import Derived.Test.YtemiljokdedidaaDelJ
import Derived.Test.YtemiljokdedidaaDelP
import Derived.Test.YtemiljokdedidaaPlusW
import Derived.Test.YtemiljokdedidaaVwS2
import Derived.Test.YtemiljokdedidaaTubeW3
import Derived.StillTailTactics
namespace Go.Proofs.Ytemiljokdedidaa.base
open Go.ChangeShapes Go.WideShapes Go.ChangeAt Go.RowKit
set_option linter.unusedVariables false
set_option linter.unusedSimpArgs false
theorem ab_tb (ms : List Int) : ∀ i, abUp ms i = 0 ∨ 0 < tbUp ms i
  | 0 => Or.inl rfl
  | i + 1 => by
    have := ab_tb ms i
    rw [abUp, tbUp]
    split <;> omega
theorem dV_loop {ms cs : List Int} (hm : manyOk ms = true) (hc : ∀ c, 1 ≤ c → c < 6 → 0 ≤ cs.getD c 0 ∧ cs.getD c 0 ≤ 24) : dV ms cs = (decide (cs.getD 0 0 = 0) && decide (sumUp ms 6 = sumUp cs 6 - cs.getD 0 0)) := by
  rw [Bool.eq_iff_iff, Bool.and_eq_true, decide_eq_true_eq, decide_eq_true_eq]
  constructor
  · intro h
    obtain ⟨L, F⟩ := dealFacts h
    have := F.zero
    have := F.msum
    have := F.csum
    exact ⟨F.zero, by omega⟩
  · rintro ⟨h0, hs⟩
    refine dV_of ((manyOk_iff ms).1 hm) (fun c hcc => ?_) h0 (by omega)
    by_cases e : c = 0
    · subst e; omega
    · exact (hc c (by omega) hcc).1
theorem dV_badc {ms cs : List Int} (c : Nat) (hc : c < 6) (h : ¬ (0 ≤ cs.getD c 0 ∧ cs.getD c 0 ≤ 24)) : dV ms cs = false := by
  cases e : dV ms cs with
  | false => rfl
  | true => obtain ⟨L, F⟩ := dealFacts e; exact absurd (F.cnt c hc) h

set_option maxHeartbeats 1600000 in
theorem l9Deal_any (ms cs : List Int) (w : World) (h1 : ms.length = 6) (h2 : cs.length = 6) :
    Calls Try.prog 31 #[row ms, row cs] w fun e w' => ∃ z : Int, e = .returned (.tuple #[.int .i64 z, .bool (dV ms cs)]) ∧ (dV ms cs = true → z = (plUp ms 6 : Nat)) ∧ Kept w w' := by
  have H1 := (Has.box w 22 h1 (by omega)).alloc (.cells (ints cs).toArray 22)
  have H2 := (Has.box (w.alloc (.cells (ints ms).toArray 22)) 22 h2 (by omega)).at (size1 _ _)
  have HB := Lib.hid (((kept_refl w).alloc (.cells (ints ms).toArray 22)).alloc (.cells (ints cs).toArray 22))
  rw [row_ints, row_ints]
  go_enter Try.func31, Try.ntmps31
  go_wp2_with fail
  generalize (w.alloc (.cells (ints ms).toArray 22)).alloc (.cells (ints cs).toArray 22) = W at *
  go_loopw [6, 8] (fun y z wr => ∃ k : Nat, k ≤ 6 ∧ z = .int .i64 k ∧ y = .int .i64 (sumUp ms k) ∧ Hid (∀ i, i < k → 0 ≤ ms.getD i 0 ∧ ms.getD i 0 ≤ 4) ∧ 0 ≤ sumUp ms k ∧ sumUp ms k ≤ 4 * (k : Int) ∧ W = wr) (fun _ z _ => 6 - (intOf z).toNat)
  case atStart => exact ⟨0, by omega, rfl, rfl, Lib.hid (fun i hi => by omega), by simp [sumUp], by simp [sumUp], rfl⟩
  case round =>
    obtain ⟨k, hk, rfl, rfl, OK, hu0, hu1, rfl⟩ := hrel
    by_cases hlt : k < 6
    · have c0 := H1.cell k hlt
      have hki : (k : Int) < 6 := by omega
      by_cases hx : 0 ≤ ms.getD k 0 ∧ ms.getD k 0 ≤ 4
      · have D := Lib.hid (decide_eq_true hx)
        have OK2 := Lib.hid (show ∀ i, i < k + 1 → 0 ≤ ms.getD i 0 ∧ ms.getD i 0 ≤ 4 from fun i hi => by
          by_cases e : i = k
          · subst e; exact hx
          · exact OK.out i (by omega))
        have E := Lib.hid (show sumUp ms (k + 1) = sumUp ms k + ms.getD k 0 from rfl)
        have x0 := hx.1
        have x4 := hx.2
        clear hx OK
        generalize ms.getD k 0 = x at *
        generalize sumUp ms k = u at *
        go_wp2_with fail
        refine (l1In_any x 0 4 _).mono ?_
        rintro e w1 ⟨rfl, rfl⟩
        rw [D.out]
        go_wp2_with fail
        go_roundw
        case rel => exact ⟨k + 1, by omega, by go_num, by rw [E.out], OK2, by rw [E.out]; omega, by rw [E.out]; omega, by trivial⟩
        case measure => simp [intOf]; omega
      · have D := Lib.hid (decide_eq_false hx)
        have N := Lib.hid (dV_many (cs := cs) (manyOk_not k hlt hx))
        clear hx OK
        generalize ms.getD k 0 = x at *
        go_wp2_with fail
        refine (l1In_any x 0 4 _).mono ?_
        rintro e w1 ⟨rfl, rfl⟩
        rw [D.out]
        go_wp2_with fail
        go_ret2
        exact ⟨0, by rw [N.out]; rfl, fun h => by rw [N.out] at h; (cases h), HB.out⟩
    · obtain rfl : k = 6 := by omega
      have MO := Lib.hid ((manyOk_iff ms).2 OK.out)
      have SM := Lib.hid (sumUp_pl (fun j hj => (OK.out j hj).1) 6 (by omega))
      have hu2 : sumUp ms 6 ≤ 24 := by omega
      clear OK hu1
      obtain ⟨u, hu⟩ : ∃ u, sumUp ms 6 = u := ⟨_, rfl⟩
      have HU := Lib.hid hu
      rw [hu] at SM hu0 hu2 ⊢
      clear hu
      rw [show ((6 : Nat) : Int) = 6 from rfl]
      go_wp2_with fail
      go_loopw [7, 9] (fun y z wr => ∃ c : Nat, 1 ≤ c ∧ c ≤ 6 ∧ z = .int .i64 c ∧ y = .int .i64 (sumUp cs c - cs.getD 0 0) ∧ Hid (∀ i, 1 ≤ i → i < c → 0 ≤ cs.getD i 0 ∧ cs.getD i 0 ≤ 24) ∧ 0 ≤ sumUp cs c - cs.getD 0 0 ∧ sumUp cs c - cs.getD 0 0 ≤ 24 * (c : Int) ∧ W = wr) (fun _ z _ => 6 - (intOf z).toNat)
      case atStart => exact ⟨1, by omega, by omega, rfl, by simp only [sumUp]; congr 1; omega, Lib.hid (fun i _ hi => by omega), by simp only [sumUp]; omega, by simp only [sumUp]; omega, rfl⟩
      case round =>
        obtain ⟨c, hc1, hc, rfl, rfl, OK, hv0, hv1, rfl⟩ := hrel
        by_cases hct : c < 6
        · have c0 := H2.cell c hct
          have hci : (c : Int) < 6 := by omega
          have hci5 : decide ((c : Int) ≤ 5) = true := decide_eq_true (by omega)
          by_cases hx : 0 ≤ cs.getD c 0 ∧ cs.getD c 0 ≤ 24
          · have D := Lib.hid (decide_eq_true hx)
            have OK2 := Lib.hid (show ∀ i, 1 ≤ i → i < c + 1 → 0 ≤ cs.getD i 0 ∧ cs.getD i 0 ≤ 24 from fun i hi1 hi => by
              by_cases e : i = c
              · subst e; exact hx
              · exact OK.out i hi1 (by omega))
            have E := Lib.hid (show sumUp cs (c + 1) - cs.getD 0 0 = sumUp cs c - cs.getD 0 0 + cs.getD c 0 by rw [sumUp]; omega)
            have x0 := hx.1
            have x4 := hx.2
            clear hx OK
            generalize cs.getD c 0 = x at *
            generalize sumUp cs c - cs.getD 0 0 = v at *
            go_wp2_with fail
            refine (l1In_any x 0 24 _).mono ?_
            rintro e w1 ⟨rfl, rfl⟩
            rw [D.out]
            go_wp2_with fail
            go_roundw
            case rel => exact ⟨c + 1, by omega, by omega, by go_num, by rw [E.out], OK2, by rw [E.out]; omega, by rw [E.out]; omega, by trivial⟩
            case measure => simp [intOf]; omega
          · have D := Lib.hid (decide_eq_false hx)
            have N := Lib.hid (dV_badc (ms := ms) c hct hx)
            clear hx OK
            generalize cs.getD c 0 = x at *
            go_wp2_with fail
            refine (l1In_any x 0 24 _).mono ?_
            rintro e w1 ⟨rfl, rfl⟩
            rw [D.out]
            go_wp2_with fail
            go_ret2
            exact ⟨0, by rw [N.out]; rfl, fun h => by rw [N.out] at h; (cases h), HB.out⟩
        · obtain rfl : c = 6 := by omega
          have c0 := H2.cell 0 (by omega)
          have EV := Lib.hid (dV_loop MO.out OK.out)
          clear OK
          generalize sumUp cs 6 - cs.getD 0 0 = v at *
          rw [HU.out] at EV
          generalize cs.getD 0 0 = z at *
          by_cases hz : z = 0
          · subst hz
            have EV2 := Lib.hid (show dV ms cs = decide (u = v) by rw [EV.out]; simp)
            by_cases huv : u = v
            · subst huv
              go_wp2_with fail
              go_ret2
              exact ⟨u, by rw [EV2.out]; simp, fun _ => SM.out, HB.out⟩
            · have q0 : (u == v) = false := by simpa using huv
              have EV3 := Lib.hid (show dV ms cs = false by rw [EV2.out, decide_eq_false huv])
              go_wp2_with fail
              go_ret2
              exact ⟨u, by rw [EV3.out]; rfl, fun h => by rw [EV3.out] at h; (cases h), HB.out⟩
          · have q0 : (z == 0) = false := by simpa using hz
            have EV3 := Lib.hid (show dV ms cs = false by rw [EV.out, decide_eq_false hz]; rfl)
            go_wp2_with fail
            go_ret2
            exact ⟨u, by rw [EV3.out]; rfl, fun h => by rw [EV3.out] at h; (cases h), HB.out⟩

set_option maxHeartbeats 800000 in
theorem l9Pairs_any (cs : List Int) (w : World) (h2 : cs.length = 6) (hn : ∀ j, j < 6 → 0 ≤ cs.getD j 0 ∧ cs.getD j 0 ≤ 24) (h0 : cs.getD 0 0 = 0) (hp : prUp cs 6 ≤ 552) :
    Calls Try.prog 34 #[row cs] w fun e w' => e = .returned (.int .i64 (prUp cs 6 : Nat)) ∧ Kept w w' := by
  have H := Has.box w 22 h2 (by omega)
  have HB := Lib.hid ((kept_refl w).alloc (.cells (ints cs).toArray 22))
  have HN := Lib.hid hn
  have PB := Lib.hid (fun c (hc : c ≤ 6) => show prUp cs c ≤ 552 from by have := prUp_mono cs hc; omega)
  have P1 := Lib.hid (show prUp cs 1 = 0 by simp only [prUp, h0]; rfl)
  rw [row_ints]
  clear hn h0 hp
  go_enter Try.func34, Try.ntmps34
  go_wp2_with fail
  generalize w.alloc (.cells (ints cs).toArray 22) = W at *
  go_loopw [3, 4] (fun y z wr => ∃ c : Nat, 1 ≤ c ∧ c ≤ 6 ∧ z = .int .i64 c ∧ y = .int .i64 (prUp cs c : Nat) ∧ Has wr w.heap.size cs 6 ∧ Hid (Kept w wr)) (fun _ z _ => 6 - (intOf z).toNat)
  case atStart => exact ⟨1, by omega, by omega, rfl, by rw [P1.out]; rfl, H, HB⟩
  case round =>
    clear H HB
    obtain ⟨c, hc1, hc, rfl, rfl, H, HB⟩ := hrel
    by_cases hlt : c < 6
    · have c0 := H.cell c hlt
      have hci : (c : Int) < 6 := by omega
      have hci5 : decide ((c : Int) ≤ 5) = true := decide_eq_true (by omega)
      have n0 := HN.out c hlt
      obtain ⟨k, hk⟩ : ∃ k : Nat, cs.getD c 0 = (k : Int) := ⟨(cs.getD c 0).toNat, by omega⟩
      rw [hk] at c0 n0
      have E := Lib.hid (show prUp cs (c + 1) = prUp cs c + k * (k - 1) by rw [prUp, hk, Int.toNat_natCast])
      have pb := PB.out (c + 1) (by omega)
      rw [E.out] at pb
      have ek : (k : Int) * ((k : Int) - 1) = ((k * (k - 1) : Nat) : Int) := by
        rcases Nat.eq_zero_or_pos k with h | h
        · subst h; rfl
        · rw [Int.natCast_mul]; congr 1; omega
      obtain ⟨t, ht⟩ : ∃ t, t = k * (k - 1) := ⟨_, rfl⟩
      rw [← ht] at E pb ek
      obtain ⟨x, hx⟩ : ∃ x, x = prUp cs c := ⟨_, rfl⟩
      rw [← hx] at E pb ⊢
      have k24 : k ≤ 24 := by omega
      have w2 : IntKind.i64.wrap ((k : Int) - 1) = (k : Int) - 1 := IntWalk.i64_in _ (by omega)
      have w3 : IntKind.i64.wrap ((k : Int) * ((k : Int) - 1)) = (t : Int) := by rw [ek]; exact IntWalk.i64_in _ (by omega)
      have w4 : IntKind.i64.wrap ((x : Int) + (t : Int)) = ((x + t : Nat) : Int) := by rw [IntWalk.i64_in _ (by omega)]; omega
      obtain ⟨y, hy⟩ : ∃ y, y = x + t := ⟨_, rfl⟩
      rw [← hy] at E w4
      clear hk ht hx hy ek n0 pb
      go_wp2_with fail
      go_quiet (fail)
      have G3 := H.drewN nq
      have GB2 := Lib.hid (HB.out.drewN nq)
      go_wp2_with fail
      go_roundw
      case rel => exact ⟨c + 1, by omega, by omega, by go_num, by rw [E.out], G3, GB2⟩
      case measure => simp [intOf]; omega
    · obtain rfl : c = 6 := by omega
      go_wp2_with fail
      go_ret
      exact ⟨rfl, HB.out⟩
end Go.Proofs.Ytemiljokdedidaa.base
