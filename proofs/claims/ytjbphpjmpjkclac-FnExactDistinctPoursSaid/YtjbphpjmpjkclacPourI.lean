/-
  The program's pour, walked.
-/
import Derived.Test.YtjbphpjmpjkclacCan2
import Derived.Test.YtjbphpjmpjkclacPourS
namespace Go.Proofs.Ytjbphpjmpjkclac.base
open Go.ChangeShapes Go.WideShapes Go.ChangeAt Go.RowKit
set_option linter.unusedVariables false
set_option linter.unusedSimpArgs false

theorem toA_p {ns : List Int} {p q : Nat} (h : twoOk ns (p : Int) (q : Int) = true) : toA ns (p : Int) (q : Int) (p : Int) = tub ns p ∧ toA ns (p : Int) (q : Int) (q : Int) = tub ns q := by
  unfold toA; rw [if_pos h, if_pos h]; simp

set_option maxHeartbeats 6400000 in
set_option maxRecDepth 100000 in
theorem implPour (ns : List Int) (i j : Int) (w : World) (h24 : ns.length = 24) :
    Calls Try.prog 53 #[row ns, .int .i64 i, .int .i64 j] w fun e w' => e = .returned (.tuple #[.agg (ints (pourR ns i j)).toArray, .int .i64 (pourA ns i j), .bool (pourOk ns i j)]) ∧ Kept w w' := by
  have HB := Lib.hid (((kept_refl w).alloc (.cells (ints ns).toArray 29)).alloc (.cells #[.int .i64 0, .int .i64 0, .int .i64 0, .int .i64 0, .int .i64 0, .int .i64 0, .int .i64 0, .int .i64 0, .int .i64 0, .int .i64 0, .int .i64 0, .int .i64 0, .int .i64 0, .int .i64 0, .int .i64 0, .int .i64 0, .int .i64 0, .int .i64 0, .int .i64 0, .int .i64 0, .int .i64 0, .int .i64 0, .int .i64 0, .int .i64 0] 29))
  have H := (Has.box w 29 h24 (by omega)).alloc (.cells #[.int .i64 0, .int .i64 0, .int .i64 0, .int .i64 0, .int .i64 0, .int .i64 0, .int .i64 0, .int .i64 0, .int .i64 0, .int .i64 0, .int .i64 0, .int .i64 0, .int .i64 0, .int .i64 0, .int .i64 0, .int .i64 0, .int .i64 0, .int .i64 0, .int .i64 0, .int .i64 0, .int .i64 0, .int .i64 0, .int .i64 0, .int .i64 0] 29)
  have Z := (Has.zero24 (w.alloc (.cells (ints ns).toArray 29)) 29).at (size1 _ _)
  have hz : z24.length = 24 := rfl
  rw [row_ints]
  go_enter Try.func53, Try.ntmps53
  go_wp2_with (refine load_has rfl 29 _ rfl _ rfl ?_ 24 ?_ _ Try.underlying29 rfl ?_ ?_; rotate_left; (· (repeat (first | (with_reducible assumption) | ((with_reducible refine Has.box _ _ ?_ ?_) <;> (first | assumption | decide)) | (with_reducible refine Has.alloc ?_ _) | ((with_reducible refine Has.putOther ?_ _ _ ?_); rotate_left; omega; skip) | ((with_reducible refine Has.below ?_ ?_); rotate_left; assumption)))); (· kernel_rfl))
  refine (twoTubes_any ns i j _ h24).mono ?_
  rintro e w1 ⟨rfl, b1⟩
  have sA := toA_len h24 i j i (.inl rfl)
  have sB := toA_len h24 i j j (.inr rfl)
  have K1 := HB.out.call b1
  have hs1 : w.heap.size + 1 < w1.heap.size := (Z.below b1).lt
  obtain ⟨z1, z2, F1, F2, K2⟩ := twoNew w w1 K1 98 (toA ns i j i) (toA ns i j j) sA sB
  have H2 := ((((H.below b1).alloc (.cells #[.int .i64 0, .int .i64 0, .int .i64 0, .int .i64 0] 98)).alloc (.cells #[.int .i64 0, .int .i64 0, .int .i64 0, .int .i64 0] 98)).putOther (b' := w1.heap.size) 0 (ints (toA ns i j i)) (by omega)).putOther (b' := w1.heap.size + 1) 0 (ints (toA ns i j j)) (by omega)
  have Z2 := ((((Z.below b1).alloc (.cells #[.int .i64 0, .int .i64 0, .int .i64 0, .int .i64 0] 98)).alloc (.cells #[.int .i64 0, .int .i64 0, .int .i64 0, .int .i64 0] 98)).putOther (b' := w1.heap.size) 0 (ints (toA ns i j i)) (by omega)).putOther (b' := w1.heap.size + 1) 0 (ints (toA ns i j j)) (by omega)
  clear H Z HB b1 K1
  by_cases hR : twoOk ns i j = true
  · obtain ⟨hv, p, q, rfl, rfl, hp, hq, hne⟩ := twoOk_of hR
    rw [(toA_p hR).1, (toA_p hR).2] at *
    rw [hR]
    have HR := Lib.hid hR
    have vp := vR_tub hv p hp
    have vq := vR_tub hv q hq
    have hpi : (p : Int) < 6 := by omega
    have hp0 : (0 : Int) ≤ (p : Int) := by omega
    have hqi : (q : Int) < 6 := by omega
    have hq0 : (0 : Int) ≤ (q : Int) := by omega
    have HO := Lib.hid (show pourOk ns (p : Int) (q : Int) = decide (0 < canN (tub ns p) (tub ns q)) by unfold pourOk; rw [hR, Bool.true_and]; simp)
    have HV := Lib.hid hv
    have HB2 := Lib.hid K2
    clear hR hv K2
    go_wp2_with (first | (refine store_at rfl 98 _ _ rfl _ _ rfl rfl ?_ 4 ?_ ?_ ?_ ?_; rotate_left; (· (repeat (first | (with_reducible assumption) | ((with_reducible refine Has.box _ _ ?_ ?_) <;> (first | assumption | decide)) | (with_reducible refine Has.alloc ?_ _) | ((with_reducible refine Has.putOther ?_ _ _ ?_); rotate_left; omega; skip) | ((with_reducible refine Has.below ?_ ?_); rotate_left; assumption)))); (· (first | assumption | rfl)); (· kernel_rfl)) | (refine load_has rfl 98 _ rfl _ rfl ?_ 4 ?_ _ Try.underlying98 rfl ?_ ?_; rotate_left; (· (repeat (first | (with_reducible assumption) | ((with_reducible refine Has.box _ _ ?_ ?_) <;> (first | assumption | decide)) | (with_reducible refine Has.alloc ?_ _) | ((with_reducible refine Has.putOther ?_ _ _ ?_); rotate_left; omega; skip) | ((with_reducible refine Has.below ?_ ?_); rotate_left; assumption)))); (· kernel_rfl)))
    refine (pourable_any (tub ns p) (tub ns q) _ sA sB vp vq).mono ?_
    rintro e w2 ⟨rfl, b2⟩
    have F3 := F1.below b2
    have F4 := F2.below b2
    have H3 := H2.below b2
    have Z3 := Z2.below b2
    have HB3 := Lib.hid (HB2.out.call b2)
    clear z1 z2 F1 F2 H2 Z2 HB2 b2
    by_cases hm : canN (tub ns p) (tub ns q) = 0
    · have O := Lib.hid (show pourOk ns (p : Int) (q : Int) = false by rw [HO.out, hm]; rfl)
      rw [hm]
      have S1 := Lib.hid (Z3.putAll z24 rfl)
      have S2 := Lib.hid (HB3.out.puts (b := w.heap.size + 1) (by omega) 0 (ints z24))
      clear hm
      go_wp2_with (first | (refine build_law rfl 29 rfl _ buildRack ?_) | (refine store_at rfl 98 _ _ rfl _ _ rfl rfl ?_ 4 ?_ ?_ ?_ ?_; rotate_left; (· (repeat (first | (with_reducible assumption) | ((with_reducible refine Has.box _ _ ?_ ?_) <;> (first | assumption | decide)) | (with_reducible refine Has.alloc ?_ _) | ((with_reducible refine Has.putOther ?_ _ _ ?_); rotate_left; omega; skip) | ((with_reducible refine Has.below ?_ ?_); rotate_left; assumption)))); (· (first | assumption | rfl)); (· kernel_rfl)) | (refine load_has rfl 98 _ rfl _ rfl ?_ 4 ?_ _ Try.underlying98 rfl ?_ ?_; rotate_left; (· (repeat (first | (with_reducible assumption) | ((with_reducible refine Has.box _ _ ?_ ?_) <;> (first | assumption | decide)) | (with_reducible refine Has.alloc ?_ _) | ((with_reducible refine Has.putOther ?_ _ _ ?_); rotate_left; omega; skip) | ((with_reducible refine Has.below ?_ ?_); rotate_left; assumption)))); (· kernel_rfl)) | (refine store_at rfl 29 _ _ rfl _ _ rfl rfl ?_ 24 ?_ ?_ ?_ ?_; rotate_left; (· (repeat (first | (with_reducible assumption) | ((with_reducible refine Has.box _ _ ?_ ?_) <;> (first | assumption | decide)) | (with_reducible refine Has.alloc ?_ _) | ((with_reducible refine Has.putOther ?_ _ _ ?_); rotate_left; omega; skip) | ((with_reducible refine Has.below ?_ ?_); rotate_left; assumption)))); (· (first | assumption | rfl)); (· kernel_rfl)))
      exact bodyPost_ret (res_has2 rfl _ _ (w.heap.size + 1) z24 24 _ (.int .i64 0) (.bool false) rfl rfl rfl S1.out Try.underlying29 rfl (by kernel_rfl)) rfl ⟨by unfold pourR pourA; rw [O.out]; rfl, S2.out⟩
    · have hpos : 0 < canN (tub ns p) (tub ns q) := by omega
      have O := Lib.hid (show pourOk ns (p : Int) (q : Int) = true by rw [HO.out, decide_eq_true hpos])
      have V := Lib.hid (show pourR ns (p : Int) (q : Int) = pourT ns p q by unfold pourR; rw [if_pos O.out]; simp)
      have VA := Lib.hid (show pourA ns (p : Int) (q : Int) = (canN (tub ns p) (tub ns q) : Nat) by unfold pourA; rw [if_pos O.out]; simp)
      have HC := Lib.hid (canN_le sA sB vp vq)
      have FP := Lib.hid (fun k hk => fromK_facts sA vp k hk)
      have FQ := Lib.hid (fun k hk => toK_facts sB vq (topC (tub ns p)) (HC.out.2.2 hpos) k hk)
      have n0 : (((canN (tub ns p) (tub ns q) : Nat) : Int) == 0) = false := by simp; omega
      clear hm
      go_wp2_with (refine load_has rfl 98 _ rfl _ rfl ?_ 4 ?_ _ Try.underlying98 rfl ?_ ?_; rotate_left; (· (repeat (first | (with_reducible assumption) | ((with_reducible refine Has.box _ _ ?_ ?_) <;> (first | assumption | decide)) | (with_reducible refine Has.alloc ?_ _) | ((with_reducible refine Has.putOther ?_ _ _ ?_); rotate_left; omega; skip) | ((with_reducible refine Has.below ?_ ?_); rotate_left; assumption)))); (· kernel_rfl))
      refine (top_any (tub ns p) _ sA vp).mono ?_
      rintro e w3 ⟨rfl, b3⟩
      have F5 := F3.below b3
      have F6 := F4.below b3
      have H4 := H3.below b3
      have Z4 := Z3.below b3
      have HB4 := Lib.hid (HB3.out.call b3)
      clear F3 F4 H3 Z3 HB3 b3
      have HM := Lib.hid (show canN (tub ns p) (tub ns q) = canN (tub ns p) (tub ns q) from rfl)
      go_wp2_with fail
      go_loopw [38] (fun z wr => ∃ k : Nat, k ≤ canN (tub ns p) (tub ns q) ∧ z = .int .i64 k ∧ Has wr w1.heap.size (fromK (tub ns p) k) 4 ∧ Has wr (w1.heap.size + 1) (toK (tub ns q) (topC (tub ns p)) k) 4 ∧ Has wr w.heap.size ns 24 ∧ Has wr (w.heap.size + 1) z24 24 ∧ Hid (Kept w wr)) (fun z _ => canN (tub ns p) (tub ns q) - (intOf z).toNat)
      case atStart => exact ⟨0, by omega, rfl, F5, F6, H4, Z4, HB4⟩
      case round =>
        obtain ⟨k, hk, rfl, G9, G10, GH, GZ, GB⟩ := hrel
        clear F5 F6 H4 Z4 HB4
        by_cases h : k < canN (tub ns p) (tub ns q)
        · have hki : (k : Int) < ((canN (tub ns p) (tub ns q) : Nat) : Int) := by omega
          have fA := FP.out k (by have := HC.out; omega)
          have fB := FQ.out k (by have := HC.out; omega)
          have hlA : 0 < lay (fromK (tub ns p) k) := by have := HC.out; omega
          have hlB : lay (toK (tub ns q) (topC (tub ns p)) k) < 4 := by have := HC.out; omega
          have tA : (takeT (fromK (tub ns p) k)).length = 4 := by unfold takeT; rw [List.length_set]; exact fA.2.2
          have tB : (putT (toK (tub ns q) (topC (tub ns p)) k) (topC (tub ns p))).length = 4 := by unfold putT; rw [List.length_set]; exact fB.2.2
          have hiZ : (Try.prog.info? 98).map (·.size) = some 4 := by kernel_rfl
          have hiA : (Try.prog.info? 98).map (·.size) = some (ints (fromK (tub ns p) k)).length := by rw [ints_len, fA.2.2]; exact hiZ
          have hiB : (Try.prog.info? 98).map (·.size) = some (ints (toK (tub ns q) (topC (tub ns p)) k)).length := by rw [ints_len, fB.2.2]; exact hiZ
          have G9 := G9.drew
          have G10 := G10.drew
          have GH := GH.drew
          have GZ := GZ.drew
          have GB := GB.out.drewN 1
          go_wp2_with fail
          refine wp_region_held_drew (S := fun w' => True) (by kernel_rfl) trivial (fun hHeld => ?_)
          (refine wpAnyH_take (i := 3) (v := ?_) rfl (by kernel_rfl) (by kernel_rfl) (by kernel_rfl) (fun _ _ _ h => h) (Or.inl ⟨by rfl, ?_⟩) hHeld ?_; rotate_left; (· (intro w' hSw; go_simp; try with_reducible rfl)); (try simp only [List.getElem_toArray, List.getElem_cons_zero, List.getElem_cons_succ, Act.put, List.setIfInBounds_toArray, List.set_cons_zero, List.set_cons_succ]))
          refine wpAnyH_ready (rs := [0, 2]) (by kernel_rfl) (by simp) ?_
          refine AllReadyH.cons (o := _) rfl (fun K hK => ?_) (AllReadyH.cons (o := _) rfl (fun K hK => ?_) AllReadyH.nil)
          · (simp only [List.getElem_toArray, List.getElem_cons_zero, List.getElem_cons_succ, Region.wanted, if_true])
            refine wp_load_mid _ _ rfl _ _ rfl (ints (fromK (tub ns p) k)) _ G9.holds.range Try.underlying98 rfl hiA ?_
            (try simp only [List.getElem_toArray, List.getElem_cons_zero, List.getElem_cons_succ, Act.put, List.setIfInBounds_toArray, List.set_cons_zero, List.set_cons_succ])
            refine hK.out _ _ trivial (fun hHeld => ?_)
            clear hK K
            refine wpAnyH_ready (rs := [1, 2]) (by kernel_rfl) (by simp) ?_
            refine AllReadyH.cons (o := _) rfl (fun K hK => ?_) (AllReadyH.cons (o := _) rfl (fun K hK => ?_) AllReadyH.nil)
            · (simp only [List.getElem_toArray, List.getElem_cons_zero, List.getElem_cons_succ, Region.wanted, if_true])
              go_simp
              refine (take_any (fromK (tub ns p) k) _ fA.2.2 fA.2.1 hlA).mono ?_
              rintro e u1 ⟨rfl, d1⟩
              have G9 := G9.below d1
              have G10 := G10.below d1
              have GH := GH.below d1
              have GZ := GZ.below d1
              have GB := GB.call d1
              clear d1
              dsimp only
              (try simp only [List.getElem_toArray, List.getElem_cons_zero, List.getElem_cons_succ, Act.put, List.setIfInBounds_toArray, List.set_cons_zero, List.set_cons_succ])
              refine hK.out _ _ trivial (fun hHeld => ?_)
              clear hK K
              (refine wpAnyH_ready (rs := [2]) (by kernel_rfl) (by simp) ?_; refine AllReadyH.cons (o := _) rfl (fun K hK => ?_) AllReadyH.nil; (simp only [List.getElem_toArray, List.getElem_cons_zero, List.getElem_cons_succ, Region.wanted, if_true]))
              refine wp_load_mid _ _ rfl _ _ rfl (ints (toK (tub ns q) (topC (tub ns p)) k)) _ G10.holds.range Try.underlying98 rfl hiB ?_
              (try simp only [List.getElem_toArray, List.getElem_cons_zero, List.getElem_cons_succ, Act.put, List.setIfInBounds_toArray, List.set_cons_zero, List.set_cons_succ])
              refine hK.out _ _ trivial (fun hHeld => ?_)
              clear hK K
              (refine wpAnyH_ready (rs := [4]) (by kernel_rfl) (by simp) ?_; refine AllReadyH.cons (o := _) rfl (fun K hK => ?_) AllReadyH.nil; (simp only [List.getElem_toArray, List.getElem_cons_zero, List.getElem_cons_succ, Region.wanted, if_true]))
              go_simp
              refine (put_any (toK (tub ns q) (topC (tub ns p)) k) (topC (tub ns p)) _ fB.2.2 fB.2.1 hlB).mono ?_
              rintro e u2 ⟨rfl, d2⟩
              have G9 := G9.below d2
              have G10 := G10.below d2
              have GH := GH.below d2
              have GZ := GZ.below d2
              have GB := GB.call d2
              clear d2
              dsimp only
              (try simp only [List.getElem_toArray, List.getElem_cons_zero, List.getElem_cons_succ, Act.put, List.setIfInBounds_toArray, List.set_cons_zero, List.set_cons_succ])
              refine hK.out _ _ trivial (fun hHeld => ?_)
              clear hK K
              (refine wpAnyH_ready (rs := [5]) (by kernel_rfl) (by simp) ?_; refine AllReadyH.cons (o := _) rfl (fun K hK => ?_) AllReadyH.nil; (simp only [List.getElem_toArray, List.getElem_cons_zero, List.getElem_cons_succ, Region.wanted, if_true]))
              refine wp_store_mid _ _ _ rfl _ _ (ints (takeT (fromK (tub ns p) k))).toArray rfl rfl (by simpa [ints_len, tA] using G9.there) (by simpa [ints_len, tA] using hiZ) (all_oneCell_toArray (ints_one _)) ?_
              (try simp only [List.getElem_toArray, List.getElem_cons_zero, List.getElem_cons_succ, Act.put, List.setIfInBounds_toArray, List.set_cons_zero, List.set_cons_succ, List.toList_toArray])
              have G10 := G10.putOther (b' := w1.heap.size) 0 (ints (takeT (fromK (tub ns p) k))) (by omega)
              have GH := GH.putOther (b' := w1.heap.size) 0 (ints (takeT (fromK (tub ns p) k))) (by omega)
              have GZ := GZ.putOther (b' := w1.heap.size) 0 (ints (takeT (fromK (tub ns p) k))) (by omega)
              have GB := GB.puts (b := w1.heap.size) (by omega) 0 (ints (takeT (fromK (tub ns p) k)))
              have G9 := G9.putAll (takeT (fromK (tub ns p) k)) tA
              refine hK.out _ _ trivial (fun hHeld => ?_)
              clear hK K
              (refine wpAnyH_ready (rs := [6]) (by kernel_rfl) (by simp) ?_; refine AllReadyH.cons (o := _) rfl (fun K hK => ?_) AllReadyH.nil; (simp only [List.getElem_toArray, List.getElem_cons_zero, List.getElem_cons_succ, Region.wanted, if_true]))
              refine wp_store_mid _ _ _ rfl _ _ (ints (putT (toK (tub ns q) (topC (tub ns p)) k) (topC (tub ns p)))).toArray rfl rfl (by simpa [ints_len, tB] using G10.there) (by simpa [ints_len, tB] using hiZ) (all_oneCell_toArray (ints_one _)) ?_
              (try simp only [List.getElem_toArray, List.getElem_cons_zero, List.getElem_cons_succ, Act.put, List.setIfInBounds_toArray, List.set_cons_zero, List.set_cons_succ, List.toList_toArray])
              have G9 := G9.putOther (b' := w1.heap.size + 1) 0 (ints (putT (toK (tub ns q) (topC (tub ns p)) k) (topC (tub ns p)))) (by omega)
              have GH := GH.putOther (b' := w1.heap.size + 1) 0 (ints (putT (toK (tub ns q) (topC (tub ns p)) k) (topC (tub ns p)))) (by omega)
              have GZ := GZ.putOther (b' := w1.heap.size + 1) 0 (ints (putT (toK (tub ns q) (topC (tub ns p)) k) (topC (tub ns p)))) (by omega)
              have GB := GB.puts (b := w1.heap.size + 1) (by omega) 0 (ints (putT (toK (tub ns q) (topC (tub ns p)) k) (topC (tub ns p))))
              have G10 := G10.putAll (putT (toK (tub ns q) (topC (tub ns p)) k) (topC (tub ns p))) tB
              refine hK.out _ _ trivial (fun hHeld => ?_)
              clear hK K
              refine wpAnyH_done (by kernel_rfl) ?_ _
              have R9 := Lib.hid G9
              have R10 := Lib.hid G10
              have RH := Lib.hid GH
              have RZ := Lib.hid GZ
              have RB := Lib.hid GB
              clear G9 G10 GH GZ GB hHeld hiA hiB hiZ
              go_wp2_with fail
              go_roundw
              case rel => exact ⟨k + 1, by omega, by go_num, R9.out, R10.out, RH.out, RZ.out, RB⟩
              case measure => simp [intOf]; omega
            · (simp only [List.getElem_toArray, List.getElem_cons_zero, List.getElem_cons_succ, Region.wanted, if_true])
              refine wp_load_mid _ _ rfl _ _ rfl (ints (toK (tub ns q) (topC (tub ns p)) k)) _ G10.holds.range Try.underlying98 rfl hiB ?_
              (try simp only [List.getElem_toArray, List.getElem_cons_zero, List.getElem_cons_succ, Act.put, List.setIfInBounds_toArray, List.set_cons_zero, List.set_cons_succ])
              refine hK.out _ _ trivial (fun hHeld => ?_)
              clear hK K
              (refine wpAnyH_ready (rs := [1]) (by kernel_rfl) (by simp) ?_; refine AllReadyH.cons (o := _) rfl (fun K hK => ?_) AllReadyH.nil; (simp only [List.getElem_toArray, List.getElem_cons_zero, List.getElem_cons_succ, Region.wanted, if_true]))
              go_simp
              refine (take_any (fromK (tub ns p) k) _ fA.2.2 fA.2.1 hlA).mono ?_
              rintro e u3 ⟨rfl, d3⟩
              have G9 := G9.below d3
              have G10 := G10.below d3
              have GH := GH.below d3
              have GZ := GZ.below d3
              have GB := GB.call d3
              clear d3
              dsimp only
              (try simp only [List.getElem_toArray, List.getElem_cons_zero, List.getElem_cons_succ, Act.put, List.setIfInBounds_toArray, List.set_cons_zero, List.set_cons_succ])
              refine hK.out _ _ trivial (fun hHeld => ?_)
              clear hK K
              (refine wpAnyH_ready (rs := [4]) (by kernel_rfl) (by simp) ?_; refine AllReadyH.cons (o := _) rfl (fun K hK => ?_) AllReadyH.nil; (simp only [List.getElem_toArray, List.getElem_cons_zero, List.getElem_cons_succ, Region.wanted, if_true]))
              go_simp
              refine (put_any (toK (tub ns q) (topC (tub ns p)) k) (topC (tub ns p)) _ fB.2.2 fB.2.1 hlB).mono ?_
              rintro e u4 ⟨rfl, d4⟩
              have G9 := G9.below d4
              have G10 := G10.below d4
              have GH := GH.below d4
              have GZ := GZ.below d4
              have GB := GB.call d4
              clear d4
              dsimp only
              (try simp only [List.getElem_toArray, List.getElem_cons_zero, List.getElem_cons_succ, Act.put, List.setIfInBounds_toArray, List.set_cons_zero, List.set_cons_succ])
              refine hK.out _ _ trivial (fun hHeld => ?_)
              clear hK K
              (refine wpAnyH_ready (rs := [5]) (by kernel_rfl) (by simp) ?_; refine AllReadyH.cons (o := _) rfl (fun K hK => ?_) AllReadyH.nil; (simp only [List.getElem_toArray, List.getElem_cons_zero, List.getElem_cons_succ, Region.wanted, if_true]))
              refine wp_store_mid _ _ _ rfl _ _ (ints (takeT (fromK (tub ns p) k))).toArray rfl rfl (by simpa [ints_len, tA] using G9.there) (by simpa [ints_len, tA] using hiZ) (all_oneCell_toArray (ints_one _)) ?_
              (try simp only [List.getElem_toArray, List.getElem_cons_zero, List.getElem_cons_succ, Act.put, List.setIfInBounds_toArray, List.set_cons_zero, List.set_cons_succ, List.toList_toArray])
              have G10 := G10.putOther (b' := w1.heap.size) 0 (ints (takeT (fromK (tub ns p) k))) (by omega)
              have GH := GH.putOther (b' := w1.heap.size) 0 (ints (takeT (fromK (tub ns p) k))) (by omega)
              have GZ := GZ.putOther (b' := w1.heap.size) 0 (ints (takeT (fromK (tub ns p) k))) (by omega)
              have GB := GB.puts (b := w1.heap.size) (by omega) 0 (ints (takeT (fromK (tub ns p) k)))
              have G9 := G9.putAll (takeT (fromK (tub ns p) k)) tA
              refine hK.out _ _ trivial (fun hHeld => ?_)
              clear hK K
              (refine wpAnyH_ready (rs := [6]) (by kernel_rfl) (by simp) ?_; refine AllReadyH.cons (o := _) rfl (fun K hK => ?_) AllReadyH.nil; (simp only [List.getElem_toArray, List.getElem_cons_zero, List.getElem_cons_succ, Region.wanted, if_true]))
              refine wp_store_mid _ _ _ rfl _ _ (ints (putT (toK (tub ns q) (topC (tub ns p)) k) (topC (tub ns p)))).toArray rfl rfl (by simpa [ints_len, tB] using G10.there) (by simpa [ints_len, tB] using hiZ) (all_oneCell_toArray (ints_one _)) ?_
              (try simp only [List.getElem_toArray, List.getElem_cons_zero, List.getElem_cons_succ, Act.put, List.setIfInBounds_toArray, List.set_cons_zero, List.set_cons_succ, List.toList_toArray])
              have G9 := G9.putOther (b' := w1.heap.size + 1) 0 (ints (putT (toK (tub ns q) (topC (tub ns p)) k) (topC (tub ns p)))) (by omega)
              have GH := GH.putOther (b' := w1.heap.size + 1) 0 (ints (putT (toK (tub ns q) (topC (tub ns p)) k) (topC (tub ns p)))) (by omega)
              have GZ := GZ.putOther (b' := w1.heap.size + 1) 0 (ints (putT (toK (tub ns q) (topC (tub ns p)) k) (topC (tub ns p)))) (by omega)
              have GB := GB.puts (b := w1.heap.size + 1) (by omega) 0 (ints (putT (toK (tub ns q) (topC (tub ns p)) k) (topC (tub ns p))))
              have G10 := G10.putAll (putT (toK (tub ns q) (topC (tub ns p)) k) (topC (tub ns p))) tB
              refine hK.out _ _ trivial (fun hHeld => ?_)
              clear hK K
              refine wpAnyH_done (by kernel_rfl) ?_ _
              have R9 := Lib.hid G9
              have R10 := Lib.hid G10
              have RH := Lib.hid GH
              have RZ := Lib.hid GZ
              have RB := Lib.hid GB
              clear G9 G10 GH GZ GB hHeld hiA hiB hiZ
              go_wp2_with fail
              go_roundw
              case rel => exact ⟨k + 1, by omega, by go_num, R9.out, R10.out, RH.out, RZ.out, RB⟩
              case measure => simp [intOf]; omega
          · (simp only [List.getElem_toArray, List.getElem_cons_zero, List.getElem_cons_succ, Region.wanted, if_true])
            refine wp_load_mid _ _ rfl _ _ rfl (ints (toK (tub ns q) (topC (tub ns p)) k)) _ G10.holds.range Try.underlying98 rfl hiB ?_
            (try simp only [List.getElem_toArray, List.getElem_cons_zero, List.getElem_cons_succ, Act.put, List.setIfInBounds_toArray, List.set_cons_zero, List.set_cons_succ])
            refine hK.out _ _ trivial (fun hHeld => ?_)
            clear hK K
            (refine wpAnyH_ready (rs := [0]) (by kernel_rfl) (by simp) ?_; refine AllReadyH.cons (o := _) rfl (fun K hK => ?_) AllReadyH.nil; (simp only [List.getElem_toArray, List.getElem_cons_zero, List.getElem_cons_succ, Region.wanted, if_true]))
            refine wp_load_mid _ _ rfl _ _ rfl (ints (fromK (tub ns p) k)) _ G9.holds.range Try.underlying98 rfl hiA ?_
            (try simp only [List.getElem_toArray, List.getElem_cons_zero, List.getElem_cons_succ, Act.put, List.setIfInBounds_toArray, List.set_cons_zero, List.set_cons_succ])
            refine hK.out _ _ trivial (fun hHeld => ?_)
            clear hK K
            (refine wpAnyH_ready (rs := [1]) (by kernel_rfl) (by simp) ?_; refine AllReadyH.cons (o := _) rfl (fun K hK => ?_) AllReadyH.nil; (simp only [List.getElem_toArray, List.getElem_cons_zero, List.getElem_cons_succ, Region.wanted, if_true]))
            go_simp
            refine (take_any (fromK (tub ns p) k) _ fA.2.2 fA.2.1 hlA).mono ?_
            rintro e u5 ⟨rfl, d5⟩
            have G9 := G9.below d5
            have G10 := G10.below d5
            have GH := GH.below d5
            have GZ := GZ.below d5
            have GB := GB.call d5
            clear d5
            dsimp only
            (try simp only [List.getElem_toArray, List.getElem_cons_zero, List.getElem_cons_succ, Act.put, List.setIfInBounds_toArray, List.set_cons_zero, List.set_cons_succ])
            refine hK.out _ _ trivial (fun hHeld => ?_)
            clear hK K
            (refine wpAnyH_ready (rs := [4]) (by kernel_rfl) (by simp) ?_; refine AllReadyH.cons (o := _) rfl (fun K hK => ?_) AllReadyH.nil; (simp only [List.getElem_toArray, List.getElem_cons_zero, List.getElem_cons_succ, Region.wanted, if_true]))
            go_simp
            refine (put_any (toK (tub ns q) (topC (tub ns p)) k) (topC (tub ns p)) _ fB.2.2 fB.2.1 hlB).mono ?_
            rintro e u6 ⟨rfl, d6⟩
            have G9 := G9.below d6
            have G10 := G10.below d6
            have GH := GH.below d6
            have GZ := GZ.below d6
            have GB := GB.call d6
            clear d6
            dsimp only
            (try simp only [List.getElem_toArray, List.getElem_cons_zero, List.getElem_cons_succ, Act.put, List.setIfInBounds_toArray, List.set_cons_zero, List.set_cons_succ])
            refine hK.out _ _ trivial (fun hHeld => ?_)
            clear hK K
            (refine wpAnyH_ready (rs := [5]) (by kernel_rfl) (by simp) ?_; refine AllReadyH.cons (o := _) rfl (fun K hK => ?_) AllReadyH.nil; (simp only [List.getElem_toArray, List.getElem_cons_zero, List.getElem_cons_succ, Region.wanted, if_true]))
            refine wp_store_mid _ _ _ rfl _ _ (ints (takeT (fromK (tub ns p) k))).toArray rfl rfl (by simpa [ints_len, tA] using G9.there) (by simpa [ints_len, tA] using hiZ) (all_oneCell_toArray (ints_one _)) ?_
            (try simp only [List.getElem_toArray, List.getElem_cons_zero, List.getElem_cons_succ, Act.put, List.setIfInBounds_toArray, List.set_cons_zero, List.set_cons_succ, List.toList_toArray])
            have G10 := G10.putOther (b' := w1.heap.size) 0 (ints (takeT (fromK (tub ns p) k))) (by omega)
            have GH := GH.putOther (b' := w1.heap.size) 0 (ints (takeT (fromK (tub ns p) k))) (by omega)
            have GZ := GZ.putOther (b' := w1.heap.size) 0 (ints (takeT (fromK (tub ns p) k))) (by omega)
            have GB := GB.puts (b := w1.heap.size) (by omega) 0 (ints (takeT (fromK (tub ns p) k)))
            have G9 := G9.putAll (takeT (fromK (tub ns p) k)) tA
            refine hK.out _ _ trivial (fun hHeld => ?_)
            clear hK K
            (refine wpAnyH_ready (rs := [6]) (by kernel_rfl) (by simp) ?_; refine AllReadyH.cons (o := _) rfl (fun K hK => ?_) AllReadyH.nil; (simp only [List.getElem_toArray, List.getElem_cons_zero, List.getElem_cons_succ, Region.wanted, if_true]))
            refine wp_store_mid _ _ _ rfl _ _ (ints (putT (toK (tub ns q) (topC (tub ns p)) k) (topC (tub ns p)))).toArray rfl rfl (by simpa [ints_len, tB] using G10.there) (by simpa [ints_len, tB] using hiZ) (all_oneCell_toArray (ints_one _)) ?_
            (try simp only [List.getElem_toArray, List.getElem_cons_zero, List.getElem_cons_succ, Act.put, List.setIfInBounds_toArray, List.set_cons_zero, List.set_cons_succ, List.toList_toArray])
            have G9 := G9.putOther (b' := w1.heap.size + 1) 0 (ints (putT (toK (tub ns q) (topC (tub ns p)) k) (topC (tub ns p)))) (by omega)
            have GH := GH.putOther (b' := w1.heap.size + 1) 0 (ints (putT (toK (tub ns q) (topC (tub ns p)) k) (topC (tub ns p)))) (by omega)
            have GZ := GZ.putOther (b' := w1.heap.size + 1) 0 (ints (putT (toK (tub ns q) (topC (tub ns p)) k) (topC (tub ns p)))) (by omega)
            have GB := GB.puts (b := w1.heap.size + 1) (by omega) 0 (ints (putT (toK (tub ns q) (topC (tub ns p)) k) (topC (tub ns p))))
            have G10 := G10.putAll (putT (toK (tub ns q) (topC (tub ns p)) k) (topC (tub ns p))) tB
            refine hK.out _ _ trivial (fun hHeld => ?_)
            clear hK K
            refine wpAnyH_done (by kernel_rfl) ?_ _
            have R9 := Lib.hid G9
            have R10 := Lib.hid G10
            have RH := Lib.hid GH
            have RZ := Lib.hid GZ
            have RB := Lib.hid GB
            clear G9 G10 GH GZ GB hHeld hiA hiB hiZ
            go_wp2_with fail
            go_roundw
            case rel => exact ⟨k + 1, by omega, by go_num, R9.out, R10.out, RH.out, RZ.out, RB⟩
            case measure => simp [intOf]; omega
        · obtain rfl : k = canN (tub ns p) (tub ns q) := by omega
          have fA := FP.out (canN (tub ns p) (tub ns q)) (by have := HC.out; omega)
          have fB := FQ.out (canN (tub ns p) (tub ns q)) (by have := HC.out; omega)
          have hiZ : (Try.prog.info? 98).map (·.size) = some 4 := by kernel_rfl
          have hiY : (Try.prog.info? 22).map (·.size) = some 4 := by kernel_rfl
          have hiA : (Try.prog.info? 98).map (·.size) = some (ints (fromK (tub ns p) (canN (tub ns p) (tub ns q)))).length := by rw [ints_len, fA.2.2]; exact hiZ
          have hiB : (Try.prog.info? 98).map (·.size) = some (ints (toK (tub ns q) (topC (tub ns p)) (canN (tub ns p) (tub ns q)))).length := by rw [ints_len, fB.2.2]; exact hiZ
          have G11 := GH.drew.putTub p hp (fromK (tub ns p) (canN (tub ns p) (tub ns q))) fA.2.2
          have G12 := G11.putTub q hq (toK (tub ns q) (topC (tub ns p)) (canN (tub ns p) (tub ns q))) fB.2.2
          have hl := G12.len
          have t1 := GH.drew.holds.thereSub (p * 4) 4 (by rw [ints_len, GH.len]; omega)
          have t2 := G11.holds.thereSub (q * 4) 4 (by rw [ints_len, G11.len]; omega)
          have Y1 := (GZ.drew.putOther (b' := w.heap.size) (p * 4) (ints (fromK (tub ns p) (canN (tub ns p) (tub ns q)))) (by omega)).putOther (b' := w.heap.size) (q * 4) (ints (toK (tub ns q) (topC (tub ns p)) (canN (tub ns p) (tub ns q)))) (by omega)
          have S1 := Lib.hid (Y1.putAll _ hl)
          have S2 := Lib.hid ((((GB.out.drewN 1).puts (b := w.heap.size) (Nat.le_refl _) (p * 4) (ints (fromK (tub ns p) (canN (tub ns p) (tub ns q))))).puts (b := w.heap.size) (Nat.le_refl _) (q * 4) (ints (toK (tub ns q) (topC (tub ns p)) (canN (tub ns p) (tub ns q))))).puts (b := w.heap.size + 1) (by omega) 0 (ints (two ns p q (fromK (tub ns p) (canN (tub ns p) (tub ns q))) (toK (tub ns q) (topC (tub ns p)) (canN (tub ns p) (tub ns q))))))
          go_wp2_with fail
          refine wp_region_held_drew (S := fun w' => Has w' w1.heap.size (fromK (tub ns p) (canN (tub ns p) (tub ns q))) 4 ∧ Has w' (w1.heap.size + 1) (toK (tub ns q) (topC (tub ns p)) (canN (tub ns p) (tub ns q))) 4) (by kernel_rfl) ⟨G9.drew, G10.drew⟩ (fun hHeld => ?_)
          (refine wpAnyH_take (i := 0) (v := ?_) rfl (by kernel_rfl) (by kernel_rfl) (by kernel_rfl) (fun _ _ _ h => h) (Or.inl ⟨by rfl, ?_⟩) hHeld ?_; rotate_left; (· (intro w' hSw; go_simp; try with_reducible rfl)); (try simp only [List.getElem_toArray, List.getElem_cons_zero, List.getElem_cons_succ, Act.put, List.setIfInBounds_toArray, List.set_cons_zero, List.set_cons_succ])); (refine wpAnyH_take (i := 1) (v := ?_) rfl (by kernel_rfl) (by kernel_rfl) (by kernel_rfl) (fun _ _ _ h => h) (Or.inl ⟨by rfl, ?_⟩) hHeld ?_; rotate_left; (· (intro w' hSw; go_simp; try with_reducible rfl)); (try simp only [List.getElem_toArray, List.getElem_cons_zero, List.getElem_cons_succ, Act.put, List.setIfInBounds_toArray, List.set_cons_zero, List.set_cons_succ])); (refine wpAnyH_take (i := 4) (v := ?_) rfl (by kernel_rfl) (by kernel_rfl) (by kernel_rfl) (fun _ _ _ h => h) (Or.inl ⟨by rfl, ?_⟩) hHeld ?_; rotate_left; (· (intro w' hSw; go_simp; try with_reducible rfl)); (try simp only [List.getElem_toArray, List.getElem_cons_zero, List.getElem_cons_succ, Act.put, List.setIfInBounds_toArray, List.set_cons_zero, List.set_cons_succ])); (refine wpAnyH_take (i := 7) (v := ?_) rfl (by kernel_rfl) (by kernel_rfl) (by kernel_rfl) (fun _ _ _ h => h) (Or.inl ⟨by rfl, ?_⟩) hHeld ?_; rotate_left; (· (intro w' hSw; go_simp; try with_reducible rfl)); (try simp only [List.getElem_toArray, List.getElem_cons_zero, List.getElem_cons_succ, Act.put, List.setIfInBounds_toArray, List.set_cons_zero, List.set_cons_succ]))
          (refine wpAnyH_take (i := 2) (v := _) rfl (by kernel_rfl) (by kernel_rfl) (by kernel_rfl) (fun _ _ _ h => h) (yieldsIf_load_mid (by rfl) 98 _ rfl _ _ rfl (ints (fromK (tub ns p) (canN (tub ns p) (tub ns q)))) _ (fun w' hSw => hSw.1.holds.range) Try.underlying98 rfl (hiA)) hHeld ?_; (try simp only [List.getElem_toArray, List.getElem_cons_zero, List.getElem_cons_succ, Act.put, List.setIfInBounds_toArray, List.set_cons_zero, List.set_cons_succ]))
          (refine wpAnyH_take (i := 3) (v := _) rfl (by kernel_rfl) (by kernel_rfl) (by kernel_rfl) (fun _ _ _ h => h) (yieldsIf_load_mid (by rfl) 98 _ rfl _ _ rfl (ints (toK (tub ns q) (topC (tub ns p)) (canN (tub ns p) (tub ns q)))) _ (fun w' hSw => hSw.2.holds.range) Try.underlying98 rfl (hiB)) hHeld ?_; (try simp only [List.getElem_toArray, List.getElem_cons_zero, List.getElem_cons_succ, Act.put, List.setIfInBounds_toArray, List.set_cons_zero, List.set_cons_succ]))
          (refine wpAnyH_take (i := 5) (v := ?_) rfl (by kernel_rfl) (by kernel_rfl) (by kernel_rfl) (fun _ _ _ h => h) (Or.inl ⟨by rfl, ?_⟩) hHeld ?_; rotate_left; (· (intro w' hSw; go_simp; try with_reducible rfl)); (try simp only [List.getElem_toArray, List.getElem_cons_zero, List.getElem_cons_succ, Act.put, List.setIfInBounds_toArray, List.set_cons_zero, List.set_cons_succ]))
          (refine wpAnyH_ready (rs := [6]) (by kernel_rfl) (by simp) ?_; refine AllReadyH.cons (o := _) rfl (fun K hK => ?_) AllReadyH.nil; (simp only [List.getElem_toArray, List.getElem_cons_zero, List.getElem_cons_succ, Region.wanted, if_true]); refine wp_store_mid _ _ _ rfl _ _ (ints (fromK (tub ns p) (canN (tub ns p) (tub ns q)))).toArray rfl rfl (by simpa [ints_len, fA.2.2] using t1) (by simpa [ints_len, fA.2.2] using hiY) (all_oneCell_toArray (ints_one _)) ?_; (try simp only [List.getElem_toArray, List.getElem_cons_zero, List.getElem_cons_succ, Act.put, List.setIfInBounds_toArray, List.set_cons_zero, List.set_cons_succ, List.toList_toArray]); refine hK.out _ _ (⟨hHeld.1.putOther _ _ (by omega), hHeld.2.putOther _ _ (by omega)⟩) (fun hHeld => ?_); clear hK K)
          (refine wpAnyH_take (i := 8) (v := ?_) rfl (by kernel_rfl) (by kernel_rfl) (by kernel_rfl) (fun _ _ _ h => h) (Or.inl ⟨by rfl, ?_⟩) hHeld ?_; rotate_left; (· (intro w' hSw; go_simp; try with_reducible rfl)); (try simp only [List.getElem_toArray, List.getElem_cons_zero, List.getElem_cons_succ, Act.put, List.setIfInBounds_toArray, List.set_cons_zero, List.set_cons_succ]))
          (refine wpAnyH_ready (rs := [9]) (by kernel_rfl) (by simp) ?_; refine AllReadyH.cons (o := _) rfl (fun K hK => ?_) AllReadyH.nil; (simp only [List.getElem_toArray, List.getElem_cons_zero, List.getElem_cons_succ, Region.wanted, if_true]); refine wp_store_mid _ _ _ rfl _ _ (ints (toK (tub ns q) (topC (tub ns p)) (canN (tub ns p) (tub ns q)))).toArray rfl rfl (by simpa [ints_len, fB.2.2] using t2) (by simpa [ints_len, fB.2.2] using hiY) (all_oneCell_toArray (ints_one _)) ?_; (try simp only [List.getElem_toArray, List.getElem_cons_zero, List.getElem_cons_succ, Act.put, List.setIfInBounds_toArray, List.set_cons_zero, List.set_cons_succ, List.toList_toArray]); refine hK.out _ _ (⟨hHeld.1.putOther _ _ (by omega), hHeld.2.putOther _ _ (by omega)⟩) (fun hHeld => ?_); clear hK K)
          refine wpAnyH_done (by kernel_rfl) ?_ _
          clear G9 G10 GH GZ GB hHeld hiA hiB hiZ hiY G11 t1 t2
          go_wp2_with (first | (refine load_has rfl 29 _ rfl _ rfl ?_ 24 ?_ _ Try.underlying29 rfl ?_ ?_; rotate_left; (· (repeat (first | (with_reducible assumption) | ((with_reducible refine Has.box _ _ ?_ ?_) <;> (first | assumption | decide)) | (with_reducible refine Has.alloc ?_ _) | ((with_reducible refine Has.putOther ?_ _ _ ?_); rotate_left; omega; skip) | ((with_reducible refine Has.below ?_ ?_); rotate_left; assumption)))); (· kernel_rfl)) | (refine store_at rfl 29 _ _ rfl _ _ rfl rfl ?_ 24 ?_ ?_ ?_ ?_; rotate_left; (· (repeat (first | (with_reducible assumption) | ((with_reducible refine Has.box _ _ ?_ ?_) <;> (first | assumption | decide)) | (with_reducible refine Has.alloc ?_ _) | ((with_reducible refine Has.putOther ?_ _ _ ?_); rotate_left; omega; skip) | ((with_reducible refine Has.below ?_ ?_); rotate_left; assumption)))); (· (first | assumption | rfl)); (· kernel_rfl)))
          exact bodyPost_ret (res_has2 rfl _ _ (w.heap.size + 1) _ 24 _ (.int .i64 (canN (tub ns p) (tub ns q) : Nat)) (.bool true) rfl rfl rfl S1.out Try.underlying29 rfl (by kernel_rfl)) rfl ⟨by rw [V.out, VA.out, O.out]; rfl, S2.out⟩
  · have hf : twoOk ns i j = false := by simpa using hR
    have O := Lib.hid (pourOk_not hf)
    rw [hf]
    have S1 := Lib.hid (Z2.putAll z24 rfl)
    have S2 := Lib.hid (K2.puts (b := w.heap.size + 1) (by omega) 0 (ints z24))
    clear hf hR K2 H2
    generalize toA ns i j i = A at *
    generalize toA ns i j j = B at *
    go_wp2_with (first | (refine build_law rfl 29 rfl _ buildRack ?_) | (refine store_at rfl 98 _ _ rfl _ _ rfl rfl ?_ 4 ?_ ?_ ?_ ?_; rotate_left; (· (repeat (first | (with_reducible assumption) | ((with_reducible refine Has.box _ _ ?_ ?_) <;> (first | assumption | decide)) | (with_reducible refine Has.alloc ?_ _) | ((with_reducible refine Has.putOther ?_ _ _ ?_); rotate_left; omega; skip) | ((with_reducible refine Has.below ?_ ?_); rotate_left; assumption)))); (· (first | assumption | rfl)); (· kernel_rfl)) | (refine load_has rfl 98 _ rfl _ rfl ?_ 4 ?_ _ Try.underlying98 rfl ?_ ?_; rotate_left; (· (repeat (first | (with_reducible assumption) | ((with_reducible refine Has.box _ _ ?_ ?_) <;> (first | assumption | decide)) | (with_reducible refine Has.alloc ?_ _) | ((with_reducible refine Has.putOther ?_ _ _ ?_); rotate_left; omega; skip) | ((with_reducible refine Has.below ?_ ?_); rotate_left; assumption)))); (· kernel_rfl)) | (refine store_at rfl 29 _ _ rfl _ _ rfl rfl ?_ 24 ?_ ?_ ?_ ?_; rotate_left; (· (repeat (first | (with_reducible assumption) | ((with_reducible refine Has.box _ _ ?_ ?_) <;> (first | assumption | decide)) | (with_reducible refine Has.alloc ?_ _) | ((with_reducible refine Has.putOther ?_ _ _ ?_); rotate_left; omega; skip) | ((with_reducible refine Has.below ?_ ?_); rotate_left; assumption)))); (· (first | assumption | rfl)); (· kernel_rfl)))
    exact bodyPost_ret (res_has2 rfl _ _ (w.heap.size + 1) z24 24 _ (.int .i64 0) (.bool false) rfl rfl rfl S1.out Try.underlying29 rfl (by kernel_rfl)) rfl ⟨by unfold pourR pourA; rw [O.out]; rfl, S2.out⟩
end Go.Proofs.Ytjbphpjmpjkclac.base
