/-
  Games on the program's side, walked: what completes a tube.
-/
/-
  Games on the program's side, walked: replies.
-/
/-
  Games on the program's side, walked: pours that can hurt.
-/
import Derived.Test.YtnldnjnnjfbhnabGmWZ

section
namespace Go.Proofs.Ytnldnjnnjfbhnab.base
open Go.ChangeShapes Go.WideShapes Go.ChangeAt Go.RowKit
set_option linter.unusedVariables false
set_option linter.unusedSimpArgs false

set_option maxHeartbeats 800000 in
theorem completes_any (x : Int) (q : Nat) (t : List Int) (w : World) (h24 : t.length = 24) (hv : vR t = true) (hq : q < 6) :
    Calls Try.prog 77 #[row (x :: (q : Int) :: t)] w fun e w' => e = .returned (.bool (decide (topN (tub t q) = 4))) ∧ Kept w w' := by
  have l26 : (x :: (q : Int) :: t).length = 26 := by rw [List.length_cons, List.length_cons, h24]
  have HB := Lib.hid ((kept_refl w).alloc (.cells (ints (x :: (q : Int) :: t)).toArray 69))
  have H := Has.box w 69 l26 (by omega)
  have c1 := H.cellXg (k := 1) (x := (q : Int)) (by omega) rfl
  have hqi : (q : Int) < 6 := by omega
  have hq0 : (0 : Int) ≤ (q : Int) := by omega
  have s4 := tub_len t q h24 hq
  have ET := trn_tub x (q : Int) t q
  rw [row_ints]
  go_enter Try.func77, Try.ntmps77
  go_wp2_with (refine load_sub rfl 24 _ rfl w.heap.size (2 + q * 4) 4 _ rfl ?_ _ 26 H _ ET s4 _ Try.underlying24 rfl ?_ ?_; (· (first | rfl | omega)); (· kernel_rfl))
  refine (isComplete_any (tub t q) _ s4 (vR_tub hv q hq)).mono ?_
  rintro e w1 ⟨rfl, b1⟩
  replace HB := Lib.hid (HB.out.call b1)
  go_wp2_with fail
  go_ret
  exact ⟨rfl, HB.out⟩

def anyCA (ns : List Int) : Bool := anyC ns (usefNA ns)
set_option maxHeartbeats 1600000 in
set_option maxRecDepth 100000 in
theorem canComplete_any (ns : List Int) (w : World) (G : GR ns) :
    Calls Try.prog 49 #[row ns] w fun e w' => e = .returned (.bool (anyCA ns)) ∧ Kept w w' := by
  have h24 := G.1
  have HB := Lib.hid ((kept_refl w).alloc (.cells (ints ns).toArray 27))
  have H := Has.box w 27 h24 (by omega)
  have KT := Lib.hid (fun W => turnsOf_any ns W G)
  have UN := Lib.hid (fun k hk => up_natG G k hk)
  have NG := Lib.hid (fun k hk => nx_good G k hk)
  have EA : Hid (anyCA ns = anyC ns (usefNA ns)) := Lib.hid rfl
  have N30 := use30 ns
  rw [row_ints]
  go_enter Try.func49, Try.ntmps49
  go_wp2_with (refine load_has rfl 27 _ rfl _ rfl ?_ 24 ?_ _ Try.underlying27 rfl ?_ ?_; rotate_left; (· (repeat (first | (with_reducible assumption) | ((with_reducible refine Has.box _ _ ?_ ?_) <;> (first | assumption | decide)) | (with_reducible refine Has.alloc ?_ _) | ((with_reducible refine Has.putOther ?_ _ _ ?_); rotate_left; omega; skip) | ((with_reducible refine Has.below ?_ ?_); rotate_left; assumption)))); (· kernel_rfl))
  refine (KT.out _).mono ?_
  rintro e w1 ⟨v, rfl, q1, b1⟩
  obtain ⟨a0, cap0, rfl⟩ := q1.shape
  replace HB := Lib.hid (HB.out.call b1)
  have GT := Lib.hid (q1.mono (b' := 0) (Nat.zero_le _))
  clear q1 b1 H KT
  obtain ⟨N, hN⟩ : ∃ N, usefNA ns = N := ⟨_, rfl⟩
  rw [trL_len] at GT ⊢
  rw [hN] at GT EA UN NG N30 ⊢
  clear hN
  go_wp2_with fail
  go_loopw [8] (fun i wr => ∃ k : Nat, k ≤ N ∧ i = .int .i64 k ∧ Hid (anyC ns k = false) ∧ Hid (Gr wr 0 69 26 (.slice a0 N cap0) (trL ns N)) ∧ Hid (Kept w wr)) (fun z _ => N - (intOf z).toNat)
  case atStart => exact ⟨0, by omega, rfl, Lib.hid rfl, GT, HB⟩
  case round =>
    clear GT HB
    obtain ⟨k, hk, rfl, KA, GT, GB⟩ := hrel
    by_cases hkN : k < N
    · have hki : (k : Int) < (N : Int) := by omega
      have hk0 : (0 : Int) ≤ (k : Int) := by omega
      obtain ⟨g, cap, he, _, hgl⟩ := GT.out.form (by rw [trL_len]; omega)
      rw [trL_len] at he
      injection he with e1 _ e3
      subst e1
      subst e3
      have RG := Lib.hid (GT.out.range (trL_len ns N).symm k hkN)
      rw [trL_get ns hkN] at RG
      obtain ⟨p, q, hp, hq, hne, hc, hid, hx, hy, hr, hok⟩ := UN.out k hkN
      have gx := NG.out k hkN
      have ES := Lib.hid (anyC_succ ns k)
      have EC : Hid (cpl ns k = decide (topN (tub (nxR ns k) q) = 4)) := Lib.hid (by unfold cpl; rw [hy, Int.toNat_natCast])
      have ET : trn ns k = (p : Int) :: (q : Int) :: nxR ns k := by unfold trn; rw [hx, hy]
      rw [ET] at RG
      obtain ⟨t, ht⟩ : ∃ t, nxR ns k = t := ⟨_, rfl⟩
      rw [ht] at gx RG EC
      have l26 : ((p : Int) :: (q : Int) :: t).length = 26 := by rw [List.length_cons, List.length_cons, gx.1]
      have KC := Lib.hid (fun W => completes_any (p : Int) q t W gx.1 gx.2 hq)
      clear hid hx hy hr hok ET ht hp hq hne hc gx hgl
      have HX := Has.box wr 69 l26 (by omega)
      obtain ⟨tt, htt⟩ : ∃ tt, (p : Int) :: (q : Int) :: t = tt := ⟨_, rfl⟩
      rw [htt] at RG l26 KC HX
      clear htt
      have l26i : (ints tt).length = 26 := by rw [ints_len]; exact l26
      replace GT := Lib.hid (GT.out.alloc (.cells (ints tt).toArray 69))
      replace GB := Lib.hid (GB.out.alloc (.cells (ints tt).toArray 69))
      go_wp2_with (first | (refine wpList_load_mid rfl 69 _ rfl g (k * 26) rfl (ints tt) _ RG.out Try.underlying69 rfl (by rw [l26i]; kernel_rfl) ?_) | (refine store_new rfl 69 _ _ rfl _ _ _ rfl _ rfl _ rfl rfl ?_ ?_ ?_; (· (first | assumption | rfl)); (· kernel_rfl)) | (refine load_has rfl 69 _ rfl _ rfl ?_ 26 ?_ _ Try.underlying69 rfl ?_ ?_; rotate_left; (· (repeat (first | (with_reducible assumption) | ((with_reducible refine Has.box _ _ ?_ ?_) <;> (first | assumption | decide)) | (with_reducible refine Has.alloc ?_ _) | ((with_reducible refine Has.putOther ?_ _ _ ?_); rotate_left; omega; skip) | ((with_reducible refine Has.below ?_ ?_); rotate_left; assumption)))); (· kernel_rfl)))
      refine (KC.out _).mono ?_
      rintro e w2 ⟨rfl, b2⟩
      rw [← EC.out]
      replace GT := Lib.hid (GT.out.below b2)
      replace GB := Lib.hid (GB.out.call b2)
      clear b2 HX RG KC EC
      cases hcc : cpl ns k with
      | true =>
        have E2 := Lib.hid (show ∃ j, j < N ∧ cpl ns j = true from ⟨k, hkN, hcc⟩)
        clear hcc
        go_wp2_with fail
        go_ret
        refine ⟨ret_bool ?_, GB.out⟩
        rw [EA.out]
        obtain ⟨j, hj, hc⟩ := E2.out
        exact (List.any_eq_true.2 ⟨j, List.mem_range.2 hj, hc⟩).symm
      | false =>
        have E2 := Lib.hid (show anyC ns (k + 1) = false by rw [ES.out, KA.out, hcc]; rfl)
        clear hcc
        go_wp2_with fail
        go_roundw
        case rel => exact ⟨k + 1, by omega, by go_num, E2, GT, GB⟩
        case measure => simp [intOf]; omega
    · obtain rfl : k = N := by omega
      go_wp2_with fail
      go_ret
      exact ⟨ret_bool (by rw [EA.out, KA.out]), GB.out⟩

end Go.Proofs.Ytnldnjnnjfbhnab.base
end

section
namespace Go.Proofs.Ytnldnjnnjfbhnab.base
open Go.ChangeShapes Go.WideShapes Go.ChangeAt Go.RowKit
set_option linter.unusedVariables false
set_option linter.unusedSimpArgs false

theorem use_no {ns : List Int} (h : vR ns = false) : usefNA ns = 0 := by unfold usefNA; rw [if_neg (by rw [h]; simp)]
def HurPost (ns : List Int) (w : World) (e : Ending) (w' : World) : Prop := ∃ v : Value, e = .returned (.tuple #[v, .bool (vR ns)]) ∧ Prs w' w.heap.size v (hurN ns (usefNA ns)) (hurF ns (usefNA ns)) ∧ Kept w w'
def RepPost (ns : List Int) (w : World) (e : Ending) (w' : World) : Prop := ∃ v : Value, e = .returned (.tuple #[v, .bool (vR ns)]) ∧ Nu w' w.heap.size v (usefNA ns) (replF ns (usefNA ns)) ∧ Kept w w'

end Go.Proofs.Ytnldnjnnjfbhnab.base
end

section
namespace Go.Proofs.Ytnldnjnnjfbhnab.base
open Go.ChangeShapes Go.WideShapes Go.ChangeAt Go.RowKit
set_option linter.unusedVariables false
set_option linter.unusedSimpArgs false


set_option maxHeartbeats 3200000 in
set_option maxRecDepth 100000 in
theorem implCanHurt (ns : List Int) (w : World) (h24 : ns.length = 24) :
    Calls Try.prog 22 #[row ns] w (HurPost ns w) := by
  obtain ⟨i0, hi, hz0, hz1, hz2⟩ := info_parts infoPair
  have HB := Lib.hid (((kept_refl w).alloc (.cells (ints ns).toArray 27)).alloc (.cells #[] 36))
  have H := (Has.box w 27 h24 (by omega)).alloc (.cells #[] 36)
  have P0 := Lib.hid (by have := Prs.none (w.alloc (.cells (ints ns).toArray 27)) (w.heap.size + 1) (by simp); rwa [size1] at this)
  have N30 := use30 ns
  rw [row_ints]
  go_enter Try.func22, Try.ntmps22
  go_wp2_with (refine load_has rfl 27 _ rfl _ rfl ?_ 24 ?_ _ Try.underlying27 rfl ?_ ?_; rotate_left; (· (repeat (first | (with_reducible assumption) | ((with_reducible refine Has.box _ _ ?_ ?_) <;> (first | assumption | decide)) | (with_reducible refine Has.alloc ?_ _) | ((with_reducible refine Has.putOther ?_ _ _ ?_); rotate_left; omega; skip) | ((with_reducible refine Has.below ?_ ?_); rotate_left; assumption)))); (· kernel_rfl))
  refine (isRack_any ns _ h24).mono ?_
  rintro e w1 ⟨rfl, b1⟩
  have hs1 := b1.size
  simp only [size1] at hs1
  replace H := H.below b1
  replace HB := Lib.hid (HB.out.call b1)
  replace P0 := Lib.hid (P0.out.below b1)
  clear b1
  by_cases hv : vR ns = true
  rotate_left
  · have hf : vR ns = false := by simpa using hv
    have E := Lib.hid hf
    have Z := Lib.hid (use_no hf)
    rw [hf]
    clear hf hv
    go_wp2_with fail
    go_ret2
    exact ⟨_, by rw [E.out]; rfl, by rw [Z.out]; rw [(hur0 ns).1, (hur0 ns).2]; exact P0.out.mono (by omega), HB.out⟩
  rw [hv]
  have E := Lib.hid hv
  have G : GR ns := ⟨h24, hv⟩
  have KT := Lib.hid (fun W => turnsOf_any ns W G)
  have NG := Lib.hid (fun k hk => nx_good G k hk)
  have T26 := Lib.hid (fun k => trn_len h24 k)
  clear h24 hv G
  go_wp2_with (refine load_has rfl 27 _ rfl _ rfl ?_ 24 ?_ _ Try.underlying27 rfl ?_ ?_; rotate_left; (· (repeat (first | (with_reducible assumption) | ((with_reducible refine Has.box _ _ ?_ ?_) <;> (first | assumption | decide)) | (with_reducible refine Has.alloc ?_ _) | ((with_reducible refine Has.putOther ?_ _ _ ?_); rotate_left; omega; skip) | ((with_reducible refine Has.below ?_ ?_); rotate_left; assumption)))); (· kernel_rfl))
  refine (KT.out _).mono ?_
  rintro e w2 ⟨v, rfl, q2, b2⟩
  obtain ⟨a0, cap0, rfl⟩ := q2.shape
  replace HB := Lib.hid (HB.out.call b2)
  have P1 := Lib.hid (P0.out.below b2)
  have GT := Lib.hid (q2.mono (b' := 0) (Nat.zero_le _))
  have AP : Hid (∀ z, (Value.slice (some ⟨w.heap.size + 1, 0, none⟩) 0 0).ownBlock = some z → (Value.slice a0 (trL ns (usefNA ns)).length cap0).ownBlock ≠ some z) := Lib.hid (fun z hz e => by
    have h1 := (q2.own z e).1
    have h2 := Option.some.inj (show some (w.heap.size + 1) = some z from hz)
    omega)
  clear q2 b2 H KT P0
  obtain ⟨N, hN⟩ : ∃ N, usefNA ns = N := ⟨_, rfl⟩
  have HN := Lib.hid hN
  rw [trL_len] at GT AP ⊢
  rw [hN] at GT AP NG N30 ⊢
  clear hN
  go_wp2_with fail
  go_loopw [4, 15] (fun u i wr => ∃ k : Nat, k ≤ N ∧ i = .int .i64 k ∧ Hid (Prs wr (w.heap.size + 1) u (hurN ns k) (hurF ns k)) ∧ Hid (Gr wr 0 69 26 (.slice a0 N cap0) (trL ns N)) ∧ Hid (∀ z, u.ownBlock = some z → (Value.slice a0 N cap0).ownBlock ≠ some z) ∧ Hid (Kept w wr)) (fun _ z _ => N - (intOf z).toNat)
  case atStart => exact ⟨0, by omega, rfl, by rw [(hur0 ns).1, (hur0 ns).2]; exact P1, GT, AP, HB⟩
  case round =>
    clear P1 GT AP HB
    obtain ⟨k, hk, rfl, GU, GT, GA, GB⟩ := hrel
    by_cases hkN : k < N
    · have hki : (k : Int) < (N : Int) := by omega
      have hk0 : (0 : Int) ≤ (k : Int) := by omega
      obtain ⟨g, cap, he, _, hgl⟩ := GT.out.form (by rw [trL_len]; omega)
      rw [trL_len] at he
      injection he with e1 _ e3
      subst e1
      subst e3
      have RG := Lib.hid (GT.out.range (trL_len ns N).symm k hkN)
      rw [trL_get ns hkN] at RG
      have gx := NG.out k hkN
      have l26 := T26.out k
      have ET : trn ns k = upX ns k :: upY ns k :: nxR ns k := rfl
      rw [ET] at RG l26
      clear ET
      have KC := Lib.hid (fun W => canComplete_any (nxR ns k) W gx)
      have EY := Lib.hid (fun h => hur_yes (ns := ns) (k := k) h)
      have EN := Lib.hid (fun h => hur_no (ns := ns) (k := k) h)
      have EC : Hid (anyCA (nxR ns k) = anyC (nxR ns k) (usefNA (nxR ns k))) := Lib.hid rfl
      have hU := (hur_le ns k).1
      obtain ⟨x, hx⟩ : ∃ x, upX ns k = x := ⟨_, rfl⟩
      obtain ⟨y, hy⟩ : ∃ y, upY ns k = y := ⟨_, rfl⟩
      obtain ⟨t, ht⟩ : ∃ t, nxR ns k = t := ⟨_, rfl⟩
      rw [hx, hy] at EY
      rw [hx, hy, ht] at RG l26
      rw [ht] at gx KC EY EN EC
      clear hx hy ht
      have g24 := gx.1
      have HX := Has.box wr 69 l26 (by omega)
      have l26i : (ints (x :: y :: t)).length = 26 := by rw [ints_len]; exact l26
      have EW := trn_rack x y t g24
      replace GU := Lib.hid (GU.out.alloc (.cells (ints (x :: y :: t)).toArray 69))
      replace GT := Lib.hid (GT.out.alloc (.cells (ints (x :: y :: t)).toArray 69))
      replace GB := Lib.hid (GB.out.alloc (.cells (ints (x :: y :: t)).toArray 69))
      go_wp2_with (first | (refine wpList_load_mid rfl 69 _ rfl g (k * 26) rfl (ints (x :: y :: t)) _ RG.out Try.underlying69 rfl (by rw [l26i]; kernel_rfl) ?_) | (refine store_new rfl 69 _ _ rfl _ _ _ rfl _ rfl _ rfl rfl ?_ ?_ ?_; (· (first | assumption | rfl)); (· kernel_rfl)) | (refine load_sub rfl 27 _ rfl wr.heap.size 2 24 _ rfl ?_ _ 26 HX _ EW g24 _ Try.underlying27 rfl ?_ ?_; (· (first | rfl | omega)); (· kernel_rfl)))
      refine (KC.out _).mono ?_
      rintro e w3 ⟨rfl, b3⟩
      replace HX := HX.below b3
      replace GU := Lib.hid (GU.out.below b3)
      replace GT := Lib.hid (GT.out.below b3)
      replace GB := Lib.hid (GB.out.call b3)
      clear b3 RG KC
      obtain ⟨xb, hxb⟩ : ∃ xb, wr.heap.size = xb := ⟨_, rfl⟩
      rw [hxb] at HX ⊢
      clear hxb
      cases hcc : anyCA t with
      | false =>
        obtain ⟨Y, Y2⟩ := EN.out (by rw [← EC.out]; exact hcc)
        have B2 := Lib.hid (show Prs w3 (w.heap.size + 1) u4 (hurN ns (k + 1)) (hurF ns (k + 1)) by rw [Y, Y2]; exact GU.out)
        clear hcc Y Y2 EY EN EC
        go_wp2_with fail
        go_roundw
        case rel => exact ⟨k + 1, by omega, by go_num, B2, GT, GA, GB⟩
        case measure => simp [intOf]; omega
      | true =>
        obtain ⟨Y, Y2⟩ := EY.out (by rw [← EC.out]; exact hcc)
        have HY := Lib.hid Y
        have HY2 := Lib.hid Y2
        have RP := Lib.hid (range_two (HX.cellXg (k := 0) (x := x) (by omega) rfl) (HX.cellXg (k := 1) (x := y) (by omega) rfl))
        have hbs := GB.out.size
        clear hcc Y Y2 EY EN EC
        go_wp2_with (first | (refine wpList_load_mid rfl 36 _ rfl xb 0 rfl [.int .i64 x, .int .i64 y] _ RP.out Try.underlying36 rfl (by kernel_rfl) ?_) | (at_builtin; refine wpList_append_lies _ rfl _ _ 32 rfl (w.heap.size + 1) 36 i0 (.agg #[.int .i64 0, .int .i64 0]) 2 16 Try.underlying32 hi hz0 hz1 hz2 rfl (by decide) _ (hurN ns k) (ints (hurF ns k)) rfl (World.ownsRow.alloc GU.out _) ⟨w3.heap.size, 0, none⟩ 1 1 [.int .i64 x, .int .i64 y] rfl rfl (cell_two_new _ _ _ _) (fun z hz => by simp at hz; rcases hz with rfl | rfl <;> rfl) (by decide) (by unfold maxLen; omega) (by omega) (by simp; omega) _ rfl ?_; intro g' cap' w4 hown' hgrow3 hlie hlt3))
        obtain ⟨A2, A3⟩ := prs_app GU.out GB.out (Nat.le_refl _) hown' hgrow3
        have A0 := Lib.hid ((GT.out.alloc (.cells #[.int .i64 x, .int .i64 y] 36)).kept hgrow3 (fun z hz e => GA.out z e hz))
        have GA2 : Hid (∀ z, (Value.slice (some ⟨g', 0, none⟩) (hurN ns k + 1) cap').ownBlock = some z → (Value.slice (some ⟨g, 0, none⟩) N cap0).ownBlock ≠ some z) := Lib.hid (fun z hz e => by
          have h5 := Option.some.inj (show some g' = some z from hz)
          subst h5
          rcases hlie with h1 | h1
          · exact GA.out _ h1 e
          · have := (GT.out.own _ e).2
            rw [size1] at h1; omega)
        rw [← HY.out, ← HY2.out] at A2
        have B2 := Lib.hid A2
        have B3 : Hid (Kept w w4) := Lib.hid A3
        clear hown' hgrow3 hlie hlt3 A2 A3
        go_wp2_with fail
        go_roundw
        case rel => exact ⟨k + 1, by omega, by go_num, by rw [← HY2.out]; exact B2, A0, by rw [← HY2.out]; rw [← HY2.out] at GA2; exact GA2, B3⟩
        case measure => simp [intOf]; omega
    · obtain rfl : k = N := by omega
      go_wp2_with fail
      go_ret2
      exact ⟨_, by rw [E.out]; rfl, by rw [HN.out]; exact GU.out.mono (by omega), GB.out⟩
end Go.Proofs.Ytnldnjnnjfbhnab.base
end
