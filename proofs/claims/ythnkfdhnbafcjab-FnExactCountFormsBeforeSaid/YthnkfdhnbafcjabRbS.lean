/-
  The racks before a rack, on the model's side, walked.
-/
import Derived.Test.YthnkfdhnbafcjabRbP
import Derived.Test.YthnkfdhnbafcjabRbI
namespace Go.Proofs.Ythnkfdhnbafcjab.base
open Go.ChangeShapes Go.WideShapes Go.ChangeAt Go.RowKit
set_option linter.unusedVariables false
set_option linter.unusedSimpArgs false

theorem l5BackLR (ns t : List Int) (w : World) (h24 : ns.length = 24) (hv : vR ns = true) (h3 : t.length = 3) : Calls Try.prog 37 #[row ns, .agg (ints t).toArray] w fun e w' => e = .returned (.tuple #[.agg (ints (backRL ns t)).toArray, .bool (backOkL ns t)]) ∧ Kept w w' := by
  obtain ⟨a, b, c, rfl⟩ := len3 h3; exact l5Back_any ns a b c w h24 hv
theorem rbK_zero (ns : List Int) : rbK ns 0 = [] := rfl

set_option maxHeartbeats 3200000 in
set_option maxRecDepth 100000 in
theorem l5Racks_any (ns : List Int) (w : World) (h24 : ns.length = 24) (hv : vR ns = true) :
    Calls Try.prog 44 #[row ns] w fun e w' => ∃ v : Value, e = .returned v ∧ Gr w' w.heap.size 29 24 v (rbA ns) ∧ Kept w w' := by
  have HB := Lib.hid (((kept_refl w).alloc (.cells (ints ns).toArray 29)).alloc (.cells #[] 29))
  have H := (Has.box w 29 h24 (by omega)).alloc (.cells #[] 29)
  have P0 := Gr.none (w.alloc (.cells (ints ns).toArray 29)) (w.heap.size + 1) 29 24 (by simp)
  rw [size1] at P0
  have G0 := Lib.hid (P0.as (rbK_zero ns).symm)
  have HV := Lib.hid hv
  have H24 := Lib.hid h24
  have SA := Lib.hid (show srcA ns = srcL ns 144 by unfold srcA; rw [if_pos hv])
  clear P0
  rw [row_ints]
  go_enter Try.func44, Try.ntmps44
  have hHH := H.lt
  have hG2 := (G0.out.own (w.heap.size + 1) rfl).2
  go_wp2_with (refine load_has rfl 29 _ rfl _ rfl ?_ 24 ?_ _ Try.underlying29 rfl ?_ ?_; rotate_left; (· (repeat (first | (with_reducible assumption) | ((with_reducible refine Has.box _ _ ?_ ?_) <;> (first | assumption | decide)) | (with_reducible refine Has.alloc ?_ _) | ((with_reducible refine Has.putOther ?_ _ _ ?_); rotate_left; omega; skip) | ((with_reducible refine Has.below ?_ ?_); rotate_left; assumption)))); (· kernel_rfl))
  refine (l5Sources_any ns _ h24 hv).mono ?_
  rintro e w1 ⟨va, rfl, G1a, b1⟩
  have G1 := Lib.hid ((G1a.as SA.out.symm).mono (b' := w.heap.size + 1 + 1) (by simp))
  replace H := H.below b1
  replace G0 := Lib.hid (G0.out.below b1)
  replace HB := Lib.hid (HB.out.call b1)
  clear G1a b1 hv h24
  have hSL : (srcL ns 144).length = (srcA ns).length := by rw [SA.out]
  obtain ⟨a0, cap0, rfl⟩ := G1.out.shape
  have EL := Lib.hid (fun W (x : List Int) (h3 : x.length = 3) => l5BackLR ns x W H24.out HV.out h3)
  have hN := srcA_le ns
  obtain ⟨N, hNN⟩ : ∃ N, (srcA ns).length = N := ⟨_, rfl⟩
  have HNN := Lib.hid hNN
  rw [hNN] at hN
  rw [hNN]
  have X0 : Hid (∀ z, (Value.slice a0 N cap0).ownBlock = some z → w.heap.size + 1 + 1 ≤ z) := Lib.hid (fun z hz => (G1.out.own z (by rw [hNN]; exact hz)).1)
  have G1' := Lib.hid (show Gr w1 (w.heap.size + 1 + 1) 60 3 (.slice a0 N cap0) (srcA ns) by have := G1.out; rw [hNN] at this; exact this)
  have G1'' := Lib.hid (G1'.out.mono (b' := 0) (Nat.zero_le _))
  have RF := Lib.hid (fun k hk => rbK_facts H24.out k hk)
  clear G1 G1' hNN hSL
  go_wp2_with fail
  go_loopg [3, 5] N (fun gk v i wr => ∃ k g cap : Nat, gk = N - k ∧ k ≤ N ∧ v = .slice (some ⟨g, 0, none⟩) (rbK ns k).length cap ∧ i = .int .i64 k ∧ Has wr w.heap.size ns 24 ∧ Hid (Gr wr (w.heap.size + 1) 29 24 (.slice (some ⟨g, 0, none⟩) (rbK ns k).length cap) (rbK ns k)) ∧ Hid (Gr wr 0 60 3 (.slice a0 N cap0) (srcA ns)) ∧ Hid (Kept w wr))
  case atStart => exact ⟨0, w.heap.size + 1, 0, rfl, by omega, rfl, rfl, H, G0, G1'', HB⟩
  case round =>
    obtain ⟨k, gr, cr, rfl, hk, rfl, rfl, KA, KO, KS, KB⟩ := hrel
    by_cases hkN : k < N
    · have hki : (k : Int) < (N : Int) := by omega
      have hk0 : (0 : Int) ≤ (k : Int) := by omega
      have hkS : k < (srcA ns).length := by rw [HNN.out]; exact hkN
      obtain ⟨g, c, he, _, hgl⟩ := KS.out.form (by omega)
      rw [HNN.out] at he
      injection he with e1 _ e3
      subst e1
      subst e3
      have hx3 := srcI_item ns hkS
      have C0 := Lib.hid (fun (w' : World) (h : Gr w' 0 60 3 (.slice (some ⟨g, 0, none⟩) N cap0) (srcA ns)) => h.range HNN.out.symm k hkN)
      have hple : (rbK ns k).length ≤ 144 := by
        have := (RF.out k (by omega)).2.2.length_eq
        rw [List.length_map, List.length_take] at this
        omega
      have Y := Lib.hid (show rbK ns (k + 1) = rkIns (backRL ns ((srcA ns).getD k [])) (rbK ns k) from rfl)
      have hA := KA.lt
      obtain ⟨x, hx⟩ : ∃ x, (srcA ns).getD k [] = x := ⟨_, rfl⟩
      rw [hx] at hx3 C0 Y
      have hi3 : (Try.prog.info? 60).map (·.size) = some (ints x).length := by rw [ints_len, hx3]; kernel_rfl
      have hi24 : (Try.prog.info? 29).map (·.size) = some (ints ns).length := by rw [ints_len, H24.out]; kernel_rfl
      have hrl := backRL_len H24.out x
      have hr24 : (Try.prog.info? 29).map (·.size) = some (ints (backRL ns x)).length := by rw [ints_len, hrl]; kernel_rfl
      clear hx hkS
      go_wp2_with fail
      go_cut [6, 7] from 18 to 25 (fun s6 s7 wx => ∃ rc : Nat, s6 = .pointer (some ⟨rc, 0, none⟩) ∧ Has wx rc (backRL ns x) 24 ∧ Has wx w.heap.size ns 24 ∧ Hid (Gr wx (w.heap.size + 1) 29 24 (.slice (some ⟨gr, 0, none⟩) (rbK ns k).length cr) (rbK ns k)) ∧ Hid (Gr wx 0 60 3 (.slice (some ⟨g, 0, none⟩) N cap0) (srcA ns)) ∧ Hid (Kept w wx))
      case first =>
        have DKA := KA.drew
        have DKO := Lib.hid KO.out.drew
        have DKS := Lib.hid KS.out.drew
        have DKB : Hid (Kept w wr.drew) := Lib.hid (KB.out.drewN 1)
        clear KA KO KS KB Y hA
        refine wp_region_held_drew (S := fun w' => Has w' w.heap.size ns 24 ∧ Gr w' 0 60 3 (.slice (some ⟨g, 0, none⟩) N cap0) (srcA ns)) (by kernel_rfl) ⟨DKA, DKS.out⟩ (fun hHeld => ?_)
        generalize wr.drew = WD at *
        (refine wpAnyH_take (i := 1) (v := ?_) rfl (by kernel_rfl) (by kernel_rfl) (by kernel_rfl) (fun _ _ _ h => h) (Or.inl ⟨by rfl, ?_⟩) hHeld ?_; rotate_left; (· (intro w' hSw; go_simp; try with_reducible rfl)); (try simp only [List.getElem_toArray, List.getElem_cons_zero, List.getElem_cons_succ, Act.put, List.setIfInBounds_toArray, List.set_cons_zero, List.set_cons_succ])); (refine wpAnyH_take (i := 2) (v := ?_) rfl (by kernel_rfl) (by kernel_rfl) (by kernel_rfl) (fun _ _ _ h => h) (Or.inl ⟨by rfl, ?_⟩) hHeld ?_; rotate_left; (· (intro w' hSw; go_simp; try with_reducible rfl)); (try simp only [List.getElem_toArray, List.getElem_cons_zero, List.getElem_cons_succ, Act.put, List.setIfInBounds_toArray, List.set_cons_zero, List.set_cons_succ])); (refine wpAnyH_take (i := 3) (v := ?_) rfl (by kernel_rfl) (by kernel_rfl) (by kernel_rfl) (fun _ _ _ h => h) (Or.inl ⟨by rfl, ?_⟩) hHeld ?_; rotate_left; (· (intro w' hSw; go_simp; try with_reducible rfl)); (try simp only [List.getElem_toArray, List.getElem_cons_zero, List.getElem_cons_succ, Act.put, List.setIfInBounds_toArray, List.set_cons_zero, List.set_cons_succ]))
        (refine wpAnyH_take (i := 0) (v := _) rfl (by kernel_rfl) (by kernel_rfl) (by kernel_rfl) (fun _ _ _ h => h) (yieldsIf_load_mid (by rfl) 29 _ rfl _ _ rfl (ints ns) _ (fun w' hSw => hSw.1.holds.range) Try.underlying29 rfl (hi24)) hHeld ?_; (try simp only [List.getElem_toArray, List.getElem_cons_zero, List.getElem_cons_succ, Act.put, List.setIfInBounds_toArray, List.set_cons_zero, List.set_cons_succ]))
        (refine wpAnyH_take (i := 4) (v := _) rfl (by kernel_rfl) (by kernel_rfl) (by kernel_rfl) (fun _ _ _ h => h) (yieldsIf_load_mid (by rfl) 60 _ rfl _ _ rfl (ints x) _ (fun w' hSw => C0.out w' hSw.2) Try.underlying60 rfl (hi3)) hHeld ?_; (try simp only [List.getElem_toArray, List.getElem_cons_zero, List.getElem_cons_succ, Act.put, List.setIfInBounds_toArray, List.set_cons_zero, List.set_cons_succ]))
        refine wpAnyH_ready (rs := [5, 9]) (by kernel_rfl) (by simp) ?_
        refine AllReadyH.cons (o := _) rfl (fun K hK => ?_) (AllReadyH.cons (o := _) rfl (fun K hK => ?_) AllReadyH.nil)
        · (simp only [List.getElem_toArray, List.getElem_cons_zero, List.getElem_cons_succ, Region.wanted, if_true])
          go_simp
          refine (EL.out _ x hx3).mono ?_
          rintro e wc1 ⟨rfl, bc1⟩
          dsimp only
          (try simp only [List.getElem_toArray, List.getElem_cons_zero, List.getElem_cons_succ, Act.put, List.setIfInBounds_toArray, List.set_cons_zero, List.set_cons_succ])
          refine hK.out _ _ ⟨hHeld.1.below bc1, hHeld.2.below bc1⟩ (fun hHeld => ?_)
          clear hK K
          replace DKA := DKA.below bc1
          replace DKO := Lib.hid (DKO.out.below bc1)
          replace DKS := Lib.hid (DKS.out.below bc1)
          replace DKB := Lib.hid (DKB.out.call bc1)
          clear bc1
          (refine wpAnyH_take (i := 6) (v := ?_) rfl (by kernel_rfl) (by kernel_rfl) (by kernel_rfl) (fun _ _ _ h => h) (Or.inl ⟨by rfl, ?_⟩) hHeld ?_; rotate_left; (· (intro w' hSw; go_simp; try with_reducible rfl)); (try simp only [List.getElem_toArray, List.getElem_cons_zero, List.getElem_cons_succ, Act.put, List.setIfInBounds_toArray, List.set_cons_zero, List.set_cons_succ])); (refine wpAnyH_take (i := 7) (v := ?_) rfl (by kernel_rfl) (by kernel_rfl) (by kernel_rfl) (fun _ _ _ h => h) (Or.inl ⟨by rfl, ?_⟩) hHeld ?_; rotate_left; (· (intro w' hSw; go_simp; try with_reducible rfl)); (try simp only [List.getElem_toArray, List.getElem_cons_zero, List.getElem_cons_succ, Act.put, List.setIfInBounds_toArray, List.set_cons_zero, List.set_cons_succ])); (refine wpAnyH_take (i := 8) (v := ?_) rfl (by kernel_rfl) (by kernel_rfl) (by kernel_rfl) (fun _ _ _ h => h) (Or.inl ⟨by rfl, ?_⟩) hHeld ?_; rotate_left; (· (intro w' hSw; go_simp; try with_reducible rfl)); (try simp only [List.getElem_toArray, List.getElem_cons_zero, List.getElem_cons_succ, Act.put, List.setIfInBounds_toArray, List.set_cons_zero, List.set_cons_succ]))
          (refine wpAnyH_ready (rs := [9]) (by kernel_rfl) (by simp) ?_; refine AllReadyH.cons (o := _) rfl (fun K hK => ?_) AllReadyH.nil; (simp only [List.getElem_toArray, List.getElem_cons_zero, List.getElem_cons_succ, Region.wanted, if_true]))
          go_simp
          refine hK.out _ _ ⟨hHeld.1.alloc _, hHeld.2.alloc _⟩ (fun hHeld => ?_)
          clear hK K
          have lt1 := DKA.lt
          have lt3 := DKB.out.size
          have lt4 := (DKO.out.own gr rfl).2
          have lt5 := (DKS.out.own g rfl).2
          have ZZ : Has (wc1.alloc (.cells #[.int .i64 0, .int .i64 0, .int .i64 0, .int .i64 0, .int .i64 0, .int .i64 0, .int .i64 0, .int .i64 0, .int .i64 0, .int .i64 0, .int .i64 0, .int .i64 0, .int .i64 0, .int .i64 0, .int .i64 0, .int .i64 0, .int .i64 0, .int .i64 0, .int .i64 0, .int .i64 0, .int .i64 0, .int .i64 0, .int .i64 0, .int .i64 0] 29)) wc1.heap.size z24 24 := Has.zero24 wc1 29
          replace DKA := DKA.alloc (.cells #[.int .i64 0, .int .i64 0, .int .i64 0, .int .i64 0, .int .i64 0, .int .i64 0, .int .i64 0, .int .i64 0, .int .i64 0, .int .i64 0, .int .i64 0, .int .i64 0, .int .i64 0, .int .i64 0, .int .i64 0, .int .i64 0, .int .i64 0, .int .i64 0, .int .i64 0, .int .i64 0, .int .i64 0, .int .i64 0, .int .i64 0, .int .i64 0] 29)
          replace DKO := Lib.hid (DKO.out.alloc (.cells #[.int .i64 0, .int .i64 0, .int .i64 0, .int .i64 0, .int .i64 0, .int .i64 0, .int .i64 0, .int .i64 0, .int .i64 0, .int .i64 0, .int .i64 0, .int .i64 0, .int .i64 0, .int .i64 0, .int .i64 0, .int .i64 0, .int .i64 0, .int .i64 0, .int .i64 0, .int .i64 0, .int .i64 0, .int .i64 0, .int .i64 0, .int .i64 0] 29))
          replace DKS := Lib.hid (DKS.out.alloc (.cells #[.int .i64 0, .int .i64 0, .int .i64 0, .int .i64 0, .int .i64 0, .int .i64 0, .int .i64 0, .int .i64 0, .int .i64 0, .int .i64 0, .int .i64 0, .int .i64 0, .int .i64 0, .int .i64 0, .int .i64 0, .int .i64 0, .int .i64 0, .int .i64 0, .int .i64 0, .int .i64 0, .int .i64 0, .int .i64 0, .int .i64 0, .int .i64 0] 29))
          replace DKB := Lib.hid (DKB.out.alloc (.cells #[.int .i64 0, .int .i64 0, .int .i64 0, .int .i64 0, .int .i64 0, .int .i64 0, .int .i64 0, .int .i64 0, .int .i64 0, .int .i64 0, .int .i64 0, .int .i64 0, .int .i64 0, .int .i64 0, .int .i64 0, .int .i64 0, .int .i64 0, .int .i64 0, .int .i64 0, .int .i64 0, .int .i64 0, .int .i64 0, .int .i64 0, .int .i64 0] 29))
          generalize hcc : wc1.heap.size = cc at *
          clear hcc
          generalize wc1.alloc (.cells #[.int .i64 0, .int .i64 0, .int .i64 0, .int .i64 0, .int .i64 0, .int .i64 0, .int .i64 0, .int .i64 0, .int .i64 0, .int .i64 0, .int .i64 0, .int .i64 0, .int .i64 0, .int .i64 0, .int .i64 0, .int .i64 0, .int .i64 0, .int .i64 0, .int .i64 0, .int .i64 0, .int .i64 0, .int .i64 0, .int .i64 0, .int .i64 0] 29) = WA1 at *
          have NG : ∀ z, (Value.slice (some ⟨g, 0, none⟩) N cap0).ownBlock = some z → z ≠ cc := fun z hz => by have hz := Option.some.inj (show some g = some z from hz); omega
          (refine wpAnyH_ready (rs := [10]) (by kernel_rfl) (by simp) ?_; refine AllReadyH.cons (o := _) rfl (fun K hK => ?_) AllReadyH.nil; (simp only [List.getElem_toArray, List.getElem_cons_zero, List.getElem_cons_succ, Region.wanted, if_true]); refine wp_store_mid _ _ _ rfl _ _ (ints (backRL ns x)).toArray rfl rfl (by simpa [ints_len, hrl] using ZZ.there) (by simpa [ints_len, hrl] using hr24) (all_oneCell_toArray (ints_one _)) ?_; (try simp only [List.getElem_toArray, List.getElem_cons_zero, List.getElem_cons_succ, Act.put, List.setIfInBounds_toArray, List.set_cons_zero, List.set_cons_succ, List.toList_toArray]); refine hK.out _ _ (⟨hHeld.1.putOther _ _ (by omega), hHeld.2.puts _ _ _ NG⟩) (fun hHeld => ?_); clear hK K)
          (refine wpAnyH_take (i := 11) (v := ?_) rfl (by kernel_rfl) (by kernel_rfl) (by kernel_rfl) (fun _ _ _ h => h) (Or.inl ⟨by rfl, ?_⟩) hHeld ?_; rotate_left; (· (intro w' hSw; go_simp; try with_reducible rfl)); (try simp only [List.getElem_toArray, List.getElem_cons_zero, List.getElem_cons_succ, Act.put, List.setIfInBounds_toArray, List.set_cons_zero, List.set_cons_succ]))
          refine wpAnyH_done (by kernel_rfl) ?_ _
          have RR := ZZ.putAll (backRL ns x) hrl
          replace DKA := DKA.putOther (b' := cc) 0 (ints (backRL ns x)) (by omega)
          replace DKO := Lib.hid (DKO.out.puts cc 0 (ints (backRL ns x)) (fun z hz => by have hz := Option.some.inj (show some gr = some z from hz); omega))
          replace DKS := Lib.hid (DKS.out.puts cc 0 (ints (backRL ns x)) NG)
          replace DKB := Lib.hid (DKB.out.puts (b := cc) (by omega) 0 (ints (backRL ns x)))
          go_wp2_with fail
          go_meet
          case rel => exact ⟨cc, rfl, RR, DKA, DKO, DKS, DKB⟩
        · (simp only [List.getElem_toArray, List.getElem_cons_zero, List.getElem_cons_succ, Region.wanted, if_true])
          go_simp
          refine hK.out _ _ ⟨hHeld.1.alloc _, hHeld.2.alloc _⟩ (fun hHeld => ?_)
          clear hK K
          have lt1 := DKA.lt
          have lt3 := DKB.out.size
          have lt4 := (DKO.out.own gr rfl).2
          have lt5 := (DKS.out.own g rfl).2
          have ZZ : Has (WD.alloc (.cells #[.int .i64 0, .int .i64 0, .int .i64 0, .int .i64 0, .int .i64 0, .int .i64 0, .int .i64 0, .int .i64 0, .int .i64 0, .int .i64 0, .int .i64 0, .int .i64 0, .int .i64 0, .int .i64 0, .int .i64 0, .int .i64 0, .int .i64 0, .int .i64 0, .int .i64 0, .int .i64 0, .int .i64 0, .int .i64 0, .int .i64 0, .int .i64 0] 29)) WD.heap.size z24 24 := Has.zero24 WD 29
          replace DKA := DKA.alloc (.cells #[.int .i64 0, .int .i64 0, .int .i64 0, .int .i64 0, .int .i64 0, .int .i64 0, .int .i64 0, .int .i64 0, .int .i64 0, .int .i64 0, .int .i64 0, .int .i64 0, .int .i64 0, .int .i64 0, .int .i64 0, .int .i64 0, .int .i64 0, .int .i64 0, .int .i64 0, .int .i64 0, .int .i64 0, .int .i64 0, .int .i64 0, .int .i64 0] 29)
          replace DKO := Lib.hid (DKO.out.alloc (.cells #[.int .i64 0, .int .i64 0, .int .i64 0, .int .i64 0, .int .i64 0, .int .i64 0, .int .i64 0, .int .i64 0, .int .i64 0, .int .i64 0, .int .i64 0, .int .i64 0, .int .i64 0, .int .i64 0, .int .i64 0, .int .i64 0, .int .i64 0, .int .i64 0, .int .i64 0, .int .i64 0, .int .i64 0, .int .i64 0, .int .i64 0, .int .i64 0] 29))
          replace DKS := Lib.hid (DKS.out.alloc (.cells #[.int .i64 0, .int .i64 0, .int .i64 0, .int .i64 0, .int .i64 0, .int .i64 0, .int .i64 0, .int .i64 0, .int .i64 0, .int .i64 0, .int .i64 0, .int .i64 0, .int .i64 0, .int .i64 0, .int .i64 0, .int .i64 0, .int .i64 0, .int .i64 0, .int .i64 0, .int .i64 0, .int .i64 0, .int .i64 0, .int .i64 0, .int .i64 0] 29))
          replace DKB := Lib.hid (DKB.out.alloc (.cells #[.int .i64 0, .int .i64 0, .int .i64 0, .int .i64 0, .int .i64 0, .int .i64 0, .int .i64 0, .int .i64 0, .int .i64 0, .int .i64 0, .int .i64 0, .int .i64 0, .int .i64 0, .int .i64 0, .int .i64 0, .int .i64 0, .int .i64 0, .int .i64 0, .int .i64 0, .int .i64 0, .int .i64 0, .int .i64 0, .int .i64 0, .int .i64 0] 29))
          generalize hcc : WD.heap.size = cc at *
          clear hcc
          generalize WD.alloc (.cells #[.int .i64 0, .int .i64 0, .int .i64 0, .int .i64 0, .int .i64 0, .int .i64 0, .int .i64 0, .int .i64 0, .int .i64 0, .int .i64 0, .int .i64 0, .int .i64 0, .int .i64 0, .int .i64 0, .int .i64 0, .int .i64 0, .int .i64 0, .int .i64 0, .int .i64 0, .int .i64 0, .int .i64 0, .int .i64 0, .int .i64 0, .int .i64 0] 29) = WA2 at *
          (refine wpAnyH_ready (rs := [5]) (by kernel_rfl) (by simp) ?_; refine AllReadyH.cons (o := _) rfl (fun K hK => ?_) AllReadyH.nil; (simp only [List.getElem_toArray, List.getElem_cons_zero, List.getElem_cons_succ, Region.wanted, if_true]))
          go_simp
          refine (EL.out _ x hx3).mono ?_
          rintro e wc2 ⟨rfl, bc2⟩
          dsimp only
          (try simp only [List.getElem_toArray, List.getElem_cons_zero, List.getElem_cons_succ, Act.put, List.setIfInBounds_toArray, List.set_cons_zero, List.set_cons_succ])
          refine hK.out _ _ ⟨hHeld.1.below bc2, hHeld.2.below bc2⟩ (fun hHeld => ?_)
          clear hK K
          replace DKA := DKA.below bc2
          replace DKO := Lib.hid (DKO.out.below bc2)
          replace DKS := Lib.hid (DKS.out.below bc2)
          replace DKB := Lib.hid (DKB.out.call bc2)
          replace ZZ := ZZ.below bc2
          clear bc2
          (refine wpAnyH_take (i := 6) (v := ?_) rfl (by kernel_rfl) (by kernel_rfl) (by kernel_rfl) (fun _ _ _ h => h) (Or.inl ⟨by rfl, ?_⟩) hHeld ?_; rotate_left; (· (intro w' hSw; go_simp; try with_reducible rfl)); (try simp only [List.getElem_toArray, List.getElem_cons_zero, List.getElem_cons_succ, Act.put, List.setIfInBounds_toArray, List.set_cons_zero, List.set_cons_succ])); (refine wpAnyH_take (i := 7) (v := ?_) rfl (by kernel_rfl) (by kernel_rfl) (by kernel_rfl) (fun _ _ _ h => h) (Or.inl ⟨by rfl, ?_⟩) hHeld ?_; rotate_left; (· (intro w' hSw; go_simp; try with_reducible rfl)); (try simp only [List.getElem_toArray, List.getElem_cons_zero, List.getElem_cons_succ, Act.put, List.setIfInBounds_toArray, List.set_cons_zero, List.set_cons_succ])); (refine wpAnyH_take (i := 8) (v := ?_) rfl (by kernel_rfl) (by kernel_rfl) (by kernel_rfl) (fun _ _ _ h => h) (Or.inl ⟨by rfl, ?_⟩) hHeld ?_; rotate_left; (· (intro w' hSw; go_simp; try with_reducible rfl)); (try simp only [List.getElem_toArray, List.getElem_cons_zero, List.getElem_cons_succ, Act.put, List.setIfInBounds_toArray, List.set_cons_zero, List.set_cons_succ]))
          have NG : ∀ z, (Value.slice (some ⟨g, 0, none⟩) N cap0).ownBlock = some z → z ≠ cc := fun z hz => by have hz := Option.some.inj (show some g = some z from hz); omega
          (refine wpAnyH_ready (rs := [10]) (by kernel_rfl) (by simp) ?_; refine AllReadyH.cons (o := _) rfl (fun K hK => ?_) AllReadyH.nil; (simp only [List.getElem_toArray, List.getElem_cons_zero, List.getElem_cons_succ, Region.wanted, if_true]); refine wp_store_mid _ _ _ rfl _ _ (ints (backRL ns x)).toArray rfl rfl (by simpa [ints_len, hrl] using ZZ.there) (by simpa [ints_len, hrl] using hr24) (all_oneCell_toArray (ints_one _)) ?_; (try simp only [List.getElem_toArray, List.getElem_cons_zero, List.getElem_cons_succ, Act.put, List.setIfInBounds_toArray, List.set_cons_zero, List.set_cons_succ, List.toList_toArray]); refine hK.out _ _ (⟨hHeld.1.putOther _ _ (by omega), hHeld.2.puts _ _ _ NG⟩) (fun hHeld => ?_); clear hK K)
          (refine wpAnyH_take (i := 11) (v := ?_) rfl (by kernel_rfl) (by kernel_rfl) (by kernel_rfl) (fun _ _ _ h => h) (Or.inl ⟨by rfl, ?_⟩) hHeld ?_; rotate_left; (· (intro w' hSw; go_simp; try with_reducible rfl)); (try simp only [List.getElem_toArray, List.getElem_cons_zero, List.getElem_cons_succ, Act.put, List.setIfInBounds_toArray, List.set_cons_zero, List.set_cons_succ]))
          refine wpAnyH_done (by kernel_rfl) ?_ _
          have RR := ZZ.putAll (backRL ns x) hrl
          replace DKA := DKA.putOther (b' := cc) 0 (ints (backRL ns x)) (by omega)
          replace DKO := Lib.hid (DKO.out.puts cc 0 (ints (backRL ns x)) (fun z hz => by have hz := Option.some.inj (show some gr = some z from hz); omega))
          replace DKS := Lib.hid (DKS.out.puts cc 0 (ints (backRL ns x)) NG)
          replace DKB := Lib.hid (DKB.out.puts (b := cc) (by omega) 0 (ints (backRL ns x)))
          go_wp2_with fail
          go_meet
          case rel => exact ⟨cc, rfl, RR, DKA, DKO, DKS, DKB⟩
      case rest =>
        clear KA KO KS KB
        obtain ⟨rc, rfl, RR, KA, KO, KS, KB⟩ := hcut
        have hbs := KB.out.size
        have hA := KA.lt
        go_wp2_with (refine load_has rfl 29 _ rfl _ rfl ?_ 24 ?_ _ Try.underlying29 rfl ?_ ?_; rotate_left; (· (repeat (first | (with_reducible assumption) | ((with_reducible refine Has.box _ _ ?_ ?_) <;> (first | assumption | decide)) | (with_reducible refine Has.alloc ?_ _) | ((with_reducible refine Has.putOther ?_ _ _ ?_); rotate_left; omega; skip) | ((with_reducible refine Has.below ?_ ?_); rotate_left; assumption)))); (· kernel_rfl))
        refine (l5Put_any (rbK ns k) (backRL ns x) (w.heap.size + 1) gr (rbK ns k).length cr _ hrl rfl hple (by omega) KO.out).mono ?_
        rintro e w4 ⟨g', cap', rfl, GP, b4⟩
        rw [← Y.out] at GP ⊢
        have A1 := KA.below b4
        have A4 := Lib.hid GP
        have A5 := Lib.hid (KS.out.below b4)
        have A3 := Lib.hid (KB.out.call b4)
        clear GP b4 KA KO KS KB RR
        go_wp2_with fail
        go_roundg (N - (k + 1))
        case rel => exact ⟨k + 1, g', cap', rfl, by omega, rfl, by go_num, A1, A4, A5, A3⟩
        case measure => omega
    · obtain rfl : k = N := by omega
      have E := Lib.hid (show rbK ns k = rbA ns by unfold rbA; rw [HNN.out])
      have GR := Lib.hid (KO.out.as E.out)
      go_wp2_with fail
      go_ret
      exact ⟨_, rfl, GR.out.mono (by omega), KB.out⟩

set_option maxHeartbeats 800000 in
theorem specRacksBefore (ns : List Int) (w : World) (h24 : ns.length = 24) :
    Calls Try.prog 20 #[row ns] w (RbPost ns w) := by
  have HB := Lib.hid ((kept_refl w).alloc (.cells (ints ns).toArray 29))
  have H := Has.box w 29 h24 (by omega)
  rw [row_ints]
  go_enter Try.func20, Try.ntmps20
  go_wp2_with (refine load_has rfl 29 _ rfl _ rfl ?_ 24 ?_ _ Try.underlying29 rfl ?_ ?_; rotate_left; (· (repeat (first | (with_reducible assumption) | ((with_reducible refine Has.box _ _ ?_ ?_) <;> (first | assumption | decide)) | (with_reducible refine Has.alloc ?_ _) | ((with_reducible refine Has.putOther ?_ _ _ ?_); rotate_left; omega; skip) | ((with_reducible refine Has.below ?_ ?_); rotate_left; assumption)))); (· kernel_rfl))
  refine (l2Rack_any ns _ h24).mono ?_
  rintro e w1 ⟨rfl, b1⟩
  replace H := H.below b1
  replace HB := Lib.hid (HB.out.call b1)
  clear b1
  have hbs := HB.out.size
  by_cases hv : vR ns = true
  · rw [hv]
    have HV := Lib.hid hv
    clear hv
    go_wp2_with (refine load_has rfl 29 _ rfl _ rfl ?_ 24 ?_ _ Try.underlying29 rfl ?_ ?_; rotate_left; (· (repeat (first | (with_reducible assumption) | ((with_reducible refine Has.box _ _ ?_ ?_) <;> (first | assumption | decide)) | (with_reducible refine Has.alloc ?_ _) | ((with_reducible refine Has.putOther ?_ _ _ ?_); rotate_left; omega; skip) | ((with_reducible refine Has.below ?_ ?_); rotate_left; assumption)))); (· kernel_rfl))
    refine (l5Racks_any ns _ h24 HV.out).mono ?_
    rintro e w2 ⟨v, rfl, G2, b2⟩
    have HB2 := Lib.hid (HB.out.call b2)
    have G3 := Lib.hid (G2.mono (b' := w.heap.size) (by omega))
    clear G2 b2 HB H
    go_wp2_with fail
    go_ret2
    exact ⟨_, by rw [HV.out]; rfl, G3.out, HB2.out⟩
  · have hf : vR ns = false := by simpa using hv
    have HV := Lib.hid hf
    have E := Lib.hid (show rbA ns = [] by unfold rbA srcA; rw [if_neg hv]; rfl)
    have P0 := Gr.none w1 w.heap.size 29 24 (by omega)
    have HB2 := Lib.hid (HB.out.alloc (.cells #[] 29))
    have G0 := Lib.hid P0
    rw [hf]
    clear hf hv P0
    go_wp2_with fail
    go_ret2
    exact ⟨_, by rw [HV.out]; rfl, G0.out.as E.out.symm, HB2.out⟩
end Go.Proofs.Ythnkfdhnbafcjab.base
