/-
  A replay without its idle pours, walked on the model's side.
-/
import Derived.Test.YtalngdccjoafhabRyDi
namespace Go.Proofs.Ytalngdccjoafhab.base
open Go.ChangeShapes Go.WideShapes Go.ChangeAt Go.RowKit
set_option linter.unusedVariables false
set_option linter.unusedSimpArgs false

theorem Ry.there25Di {w : World} {p : Nat} {ns : List Int} {v : Value} {T : TypeId} (h : Ry w p ns v T) : w.there p 0 25 := fun j hj => h.1.there j (by rw [rpC_len h.2]; exact hj)
theorem tb_off {ns : List Int} {x y : Int} (h : pourOk ns x y = false) : tbOk ns x y = false := by unfold tbOk; rw [h]; rfl
theorem tb_on {ns : List Int} {x y : Int} (h : pourOk ns x y = true) : tbOk ns x y = !idl ns x.toNat y.toNat := by unfold tbOk; rw [h]; rfl

set_option maxHeartbeats 6400000 in
set_option maxRecDepth 100000 in
theorem specDrop (ns fs : List Int) (v : Value) (n b : Nat) (w : World) (h24 : ns.length = 24) (hn : n ≤ 1048576) (h : Rw w b v n fs) :
    Calls Try.prog 10 #[rpV ns v] w (RepPost (rpOk ns fs n) ns (diNA ns fs n) (diFA ns fs n) w) := by
  obtain ⟨a, cap, rfl⟩ := h.shape
  have AP := Lib.hid (fun hn0 k hk => (h.ownlt hn0 k hk).2)
  have RY := (Ry.box (v := .slice a n cap) w 32 h24).alloc (.cells z25.toArray 32)
  have Z := (Ry.zero (w.alloc (.cells (rpC ns (.slice a n cap)).toArray 32)) 32).at (size1 _ _)
  have HB := Lib.hid (((kept_refl w).alloc (.cells (rpC ns (.slice a n cap)).toArray 32)).alloc (.cells z25.toArray 32))
  have HR := Lib.hid ((h.alloc (.cells (rpC ns (.slice a n cap)).toArray 32)).alloc (.cells z25.toArray 32))
  have hsz : ((w.alloc (.cells (rpC ns (.slice a n cap)).toArray 32)).alloc (.cells z25.toArray 32)).heap.size = w.heap.size + 2 := by simp
  clear h
  unfold rpV
  go_enter Try.func10, Try.ntmps10
  go_upto_region 1 with fail
  try rw [cells25C]
  generalize ((w.alloc (.cells (rpC ns (.slice a n cap)).toArray 32)).alloc (.cells z25.toArray 32)) = W at *
  have hW := hsz
  clear hsz
  go_wp2_with (refine guardY (isLdY 32) ?_ ?_; (· rfl); refine load_ry rfl 32 _ rfl w.heap.size rfl _ _ _ RY _ Try.underlying32 rfl ?_ ?_; (· kernel_rfl))
  refine (specIsReplay ns fs (.slice a n cap) n b _ h24 hn HR.out).mono ?_
  rintro e w1 ⟨rfl, b1⟩
  have hws : w.heap.size + 2 ≤ w1.heap.size := by have := b1.size; omega
  replace RY := RY.below b1
  replace Z := Z.below b1
  replace HB := Lib.hid (HB.out.call b1)
  replace HR := Lib.hid (HR.out.below b1)
  clear b1 hW
  cases hok : rpOk ns fs n with
  | false =>
    have E := Lib.hid hok
    have S1 := Lib.hid (Z.putAll z24 (.slice none 0 0) rfl)
    have S2 := Lib.hid (HB.out.puts (b := w.heap.size + 1) (by omega) 0 (rpC z24 (.slice none 0 0)))
    clear hok
    go_wp2_with (first | (refine guardY (isBdY 32) ?_ ?_; (· rfl); refine build_law rfl 32 rfl _ buildRpZ ?_) | (refine guardY (isStY 32) ?_ ?_; (· rfl); refine store_ry rfl 32 _ _ rfl (w.heap.size + 1) rfl z24 (.slice none 0 0) rfl _ _ _ Z rfl rfl ?_ ?_; (· kernel_rfl)))
    exact bodyPost_ret (res_ry1 rfl _ _ (w.heap.size + 1) z24 _ _ _ (.bool false) rfl rfl S1.out Try.underlying32 rfl (by kernel_rfl)) rfl ⟨.slice none 0 0, by rw [E.out]; rfl, by rw [E.out]; exact Rw.nil _ _, S2.out⟩
  | true =>
    have E := Lib.hid hok
    have n60 := rp_le hok
    have HL := Lib.hid (di_len h24 fs)
    have VV := Lib.hid (di_valid h24 (do_first (rp_do hok)) fs)
    have H24 := Lib.hid h24
    have hi25 : (Try.prog.info? 32).map (·.size) = some 25 := by kernel_rfl
    have hi24 : (Try.prog.info? 30).map (·.size) = some 24 := by kernel_rfl
    have lR : ∀ v : Value, (rpC ns v).length = 25 := rpC_len h24
    have l24 : (ints ns).length = 24 := by rw [ints_len]; exact h24
    have hiA : (Try.prog.info? 32).map (·.size) = some (rpC ns (.slice a n cap)).length := by rw [lR]; exact hi25
    have hiB : (Try.prog.info? 30).map (·.size) = some (ints ns).length := by rw [l24]; exact hi24
    have KC : Hid (∀ W, Rw W b (.slice a n cap) n fs → Calls Try.prog 28 #[rpV ns (.slice a n cap), .int .i64 0] W fun e w' => ∃ g gc : Nat, e = .returned (rpV ns (.slice (some ⟨g, 0, none⟩) 0 gc)) ∧ Prs w' W.heap.size (.slice (some ⟨g, 0, none⟩) 0 gc) 0 [] ∧ Kept W w') := Lib.hid (fun W q => l11CutG_any ns fs _ n b 0 W h24 hn q (Nat.zero_le _))
    clear hok
    obtain ⟨B, hB⟩ : ∃ s, w1.heap.size = s := ⟨_, rfl⟩
    go_wp2_with fail
    (try simp only [Act.put])
    go_cut [4, 5] from 14 to 17 (fun s4 s5 wx => ∃ (c d : Nat) (va : Option Addr) (vc : Nat), s4 = .pointer (some ⟨c, 0, none⟩) ∧ s5 = .pointer (some ⟨d, 0, none⟩) ∧ c ≠ d ∧ w1.heap.size ≤ c ∧ w1.heap.size ≤ d ∧ Ry wx c ns (.slice va 0 vc) 32 ∧ Has wx d ns 24 ∧ Hid (Prs wx w1.heap.size (.slice va 0 vc) 0 []) ∧ Hid (∀ z, (Value.slice va 0 vc).ownBlock = some z → z ≠ c ∧ z ≠ d) ∧ Ry wx (w.heap.size + 1) z24 (.slice none 0 0) 32 ∧ Ry wx w.heap.size ns (.slice a n cap) 32 ∧ Hid (Rw wx b (.slice a n cap) n fs) ∧ Hid (Kept w wx))
    case first =>
      clear hB
      refine wp_region_held_drew (S := fun w' => Kept w1 w') (by kernel_rfl) ((kept_refl w1).drewN 1) (fun hHeld => ?_)
      (refine wpAnyH_take (i := 2) (v := ?_) rfl (by kernel_rfl) (by kernel_rfl) (by kernel_rfl) (fun _ _ _ h => h) (Or.inl ⟨by rfl, ?_⟩) hHeld ?_; rotate_left; (· (intro w' hSw; go_simp; try with_reducible rfl)); (try simp only [List.getElem_toArray, List.getElem_cons_zero, List.getElem_cons_succ, Act.put, List.setIfInBounds_toArray, List.set_cons_zero, List.set_cons_succ]))
      (refine wpAnyH_take (i := 0) (v := _) rfl (by kernel_rfl) (by kernel_rfl) (by kernel_rfl) (fun _ _ _ h => h) (yieldsIf_load_mid (by rfl) 32 _ rfl _ _ rfl (rpC ns (.slice a n cap)) _ (fun w' hSw => (RY.below hSw).1.range) Try.underlying32 rfl (hiA)) hHeld ?_; (try simp only [List.getElem_toArray, List.getElem_cons_zero, List.getElem_cons_succ, Act.put, List.setIfInBounds_toArray, List.set_cons_zero, List.set_cons_succ]))
      (refine wpAnyH_take (i := 3) (v := _) rfl (by kernel_rfl) (by kernel_rfl) (by kernel_rfl) (fun _ _ _ h => h) (yieldsIf_load_mid (by rfl) 30 _ rfl _ _ rfl (ints ns) _ (fun w' hSw => (RY.below hSw).start) Try.underlying30 rfl (hiB)) hHeld ?_; (try simp only [List.getElem_toArray, List.getElem_cons_zero, List.getElem_cons_succ, Act.put, List.setIfInBounds_toArray, List.set_cons_zero, List.set_cons_succ]))
      have hHeld : Kept w1 w1.drew := (kept_refl w1).drewN 1
      refine wpAnyH_ready (rs := [1, 4, 5]) (by kernel_rfl) (by simp) ?_
      refine AllReadyH.cons (o := _) rfl (fun K hK => ?_) (AllReadyH.cons (o := _) rfl (fun K hK => ?_) (AllReadyH.cons (o := _) rfl (fun K hK => ?_) AllReadyH.nil))
      · (simp only [List.getElem_toArray, List.getElem_cons_zero, List.getElem_cons_succ, Region.wanted, if_true])
        go_simp
        refine (KC.out _ (HR.out.below hHeld)).mono ?_
        rintro e wq201 ⟨g, gc, rfl, q2, bb⟩
        dsimp only
        (try simp only [List.getElem_toArray, List.getElem_cons_zero, List.getElem_cons_succ, Act.put, List.setIfInBounds_toArray, List.set_cons_zero, List.set_cons_succ])
        have hgl := World.ownsRow.lt q2 g rfl
        have hg1 : w1.heap.size ≤ g := by have := hHeld.size; omega
        have U := Lib.hid (Prs.monoK q2 (b' := w1.heap.size) hHeld.size)
        clear q2
        have KN := Kept.call hHeld bb
        refine hK.out _ _ KN (fun hHeld => ?_)
        clear hK K hHeld bb
        have hHeld := KN
        clear KN
        refine wpAnyH_ready (rs := [4, 5]) (by kernel_rfl) (by simp) ?_
        refine AllReadyH.cons (o := _) rfl (fun K hK => ?_) (AllReadyH.cons (o := _) rfl (fun K hK => ?_) AllReadyH.nil)
        · (simp only [List.getElem_toArray, List.getElem_cons_zero, List.getElem_cons_succ, Region.wanted, if_true])
          go_simp
          (try rw [cells25C])
          have Zc : Ry (wq201.alloc (.cells z25.toArray 32)) (wq201.heap.size) z24 (.slice none 0 0) 32 := Ry.zero wq201 32
          have hc1 : w1.heap.size ≤ wq201.heap.size := hHeld.size
          have KN : Kept w1 (wq201.alloc (.cells z25.toArray 32)) := Kept.alloc hHeld (.cells z25.toArray 32)
          refine hK.out _ _ KN (fun hHeld => ?_)
          clear hK K hHeld
          have hHeld := KN
          clear KN
          replace U := Lib.hid (Prs.allocDi U.out (.cells z25.toArray 32))
          have hcg : wq201.heap.size ≠ g := by have := hgl.2; omega
          replace hgl : g < (wq201.alloc (.cells z25.toArray 32)).heap.size ∧ g < (wq201.alloc (.cells z25.toArray 32)).heap.size := by rw [size1]; omega
          obtain ⟨c, hcc⟩ : ∃ s, wq201.heap.size = s := ⟨_, rfl⟩
          rw [hcc] at Zc hc1 hcg ⊢
          generalize wq201.alloc (.cells z25.toArray 32) = wq202 at *
          clear hcc
          (refine wpAnyH_ready (rs := [5]) (by kernel_rfl) (by simp) ?_; refine AllReadyH.cons (o := _) rfl (fun K hK => ?_) AllReadyH.nil; (simp only [List.getElem_toArray, List.getElem_cons_zero, List.getElem_cons_succ, Region.wanted, if_true]))
          go_simp
          have Zd : Has (wq202.alloc (.cells #[.int .i64 0, .int .i64 0, .int .i64 0, .int .i64 0, .int .i64 0, .int .i64 0, .int .i64 0, .int .i64 0, .int .i64 0, .int .i64 0, .int .i64 0, .int .i64 0, .int .i64 0, .int .i64 0, .int .i64 0, .int .i64 0, .int .i64 0, .int .i64 0, .int .i64 0, .int .i64 0, .int .i64 0, .int .i64 0, .int .i64 0, .int .i64 0] 30)) (wq202.heap.size) z24 24 := Has.zero24 wq202 30
          have hd1 : w1.heap.size ≤ wq202.heap.size := hHeld.size
          have KN : Kept w1 (wq202.alloc (.cells #[.int .i64 0, .int .i64 0, .int .i64 0, .int .i64 0, .int .i64 0, .int .i64 0, .int .i64 0, .int .i64 0, .int .i64 0, .int .i64 0, .int .i64 0, .int .i64 0, .int .i64 0, .int .i64 0, .int .i64 0, .int .i64 0, .int .i64 0, .int .i64 0, .int .i64 0, .int .i64 0, .int .i64 0, .int .i64 0, .int .i64 0, .int .i64 0] 30)) := Kept.alloc hHeld (.cells #[.int .i64 0, .int .i64 0, .int .i64 0, .int .i64 0, .int .i64 0, .int .i64 0, .int .i64 0, .int .i64 0, .int .i64 0, .int .i64 0, .int .i64 0, .int .i64 0, .int .i64 0, .int .i64 0, .int .i64 0, .int .i64 0, .int .i64 0, .int .i64 0, .int .i64 0, .int .i64 0, .int .i64 0, .int .i64 0, .int .i64 0, .int .i64 0] 30)
          refine hK.out _ _ KN (fun hHeld => ?_)
          clear hK K hHeld
          have hHeld := KN
          clear KN
          replace U := Lib.hid (Prs.allocDi U.out (.cells #[.int .i64 0, .int .i64 0, .int .i64 0, .int .i64 0, .int .i64 0, .int .i64 0, .int .i64 0, .int .i64 0, .int .i64 0, .int .i64 0, .int .i64 0, .int .i64 0, .int .i64 0, .int .i64 0, .int .i64 0, .int .i64 0, .int .i64 0, .int .i64 0, .int .i64 0, .int .i64 0, .int .i64 0, .int .i64 0, .int .i64 0, .int .i64 0] 30))
          have hdg : wq202.heap.size ≠ g := by have := hgl.2; omega
          replace hgl : g < (wq202.alloc (.cells #[.int .i64 0, .int .i64 0, .int .i64 0, .int .i64 0, .int .i64 0, .int .i64 0, .int .i64 0, .int .i64 0, .int .i64 0, .int .i64 0, .int .i64 0, .int .i64 0, .int .i64 0, .int .i64 0, .int .i64 0, .int .i64 0, .int .i64 0, .int .i64 0, .int .i64 0, .int .i64 0, .int .i64 0, .int .i64 0, .int .i64 0, .int .i64 0] 30)).heap.size ∧ g < (wq202.alloc (.cells #[.int .i64 0, .int .i64 0, .int .i64 0, .int .i64 0, .int .i64 0, .int .i64 0, .int .i64 0, .int .i64 0, .int .i64 0, .int .i64 0, .int .i64 0, .int .i64 0, .int .i64 0, .int .i64 0, .int .i64 0, .int .i64 0, .int .i64 0, .int .i64 0, .int .i64 0, .int .i64 0, .int .i64 0, .int .i64 0, .int .i64 0, .int .i64 0] 30)).heap.size := by rw [size1]; omega
          have hdc : wq202.heap.size ≠ c := by have := Zc.lt; omega
          replace Zc := Zc.alloc (.cells #[.int .i64 0, .int .i64 0, .int .i64 0, .int .i64 0, .int .i64 0, .int .i64 0, .int .i64 0, .int .i64 0, .int .i64 0, .int .i64 0, .int .i64 0, .int .i64 0, .int .i64 0, .int .i64 0, .int .i64 0, .int .i64 0, .int .i64 0, .int .i64 0, .int .i64 0, .int .i64 0, .int .i64 0, .int .i64 0, .int .i64 0, .int .i64 0] 30)
          obtain ⟨d, hcc⟩ : ∃ s, wq202.heap.size = s := ⟨_, rfl⟩
          rw [hcc] at Zd hd1 hdg hdc ⊢
          generalize wq202.alloc (.cells #[.int .i64 0, .int .i64 0, .int .i64 0, .int .i64 0, .int .i64 0, .int .i64 0, .int .i64 0, .int .i64 0, .int .i64 0, .int .i64 0, .int .i64 0, .int .i64 0, .int .i64 0, .int .i64 0, .int .i64 0, .int .i64 0, .int .i64 0, .int .i64 0, .int .i64 0, .int .i64 0, .int .i64 0, .int .i64 0, .int .i64 0, .int .i64 0] 30) = wq203 at *
          clear hcc
          have hcd : c ≠ d := (Ne.symm hdc)
          have hcg : c ≠ g := hcg
          have hdg : d ≠ g := hdg
          (refine wpAnyH_ready (rs := [6]) (by kernel_rfl) (by simp) ?_; refine AllReadyH.cons (o := _) rfl (fun K hK => ?_) AllReadyH.nil; (simp only [List.getElem_toArray, List.getElem_cons_zero, List.getElem_cons_succ, Region.wanted, if_true]))
          refine wp_store_mid _ _ _ rfl _ _ (rpC ns (.slice (some ⟨g, 0, none⟩) 0 gc)).toArray rfl rfl (by simpa [lR] using Zc.there25Di) (by simpa [lR] using hi25) (all_oneCell_toArray (rpC_one ns rfl)) ?_
          (try simp only [List.getElem_toArray, List.getElem_cons_zero, List.getElem_cons_succ, Act.put, List.setIfInBounds_toArray, List.set_cons_zero, List.set_cons_succ, List.toList_toArray])
          have KN := hHeld.puts (b := c) hc1 0 (rpC ns (.slice (some ⟨g, 0, none⟩) 0 gc))
          refine hK.out _ _ KN (fun hHeld => ?_)
          clear hK K hHeld
          have hHeld := KN
          clear KN
          have C := Zc.putAll ns (.slice (some ⟨g, 0, none⟩) 0 gc) H24.out
          replace Zd := Zd.putOther (b' := c) 0 (rpC ns (.slice (some ⟨g, 0, none⟩) 0 gc)) (Ne.symm hcd)
          replace U := Lib.hid (U.out.putsY c 0 (rpC ns (.slice (some ⟨g, 0, none⟩) 0 gc)) (fun z hz => by have := Option.some.inj (show some g = some z from hz); omega))
          generalize wq203.setCells c 0 (rpC ns (.slice (some ⟨g, 0, none⟩) 0 gc)) = WF at *
          (refine wpAnyH_ready (rs := [7]) (by kernel_rfl) (by simp) ?_; refine AllReadyH.cons (o := _) rfl (fun K hK => ?_) AllReadyH.nil; (simp only [List.getElem_toArray, List.getElem_cons_zero, List.getElem_cons_succ, Region.wanted, if_true]))
          refine wp_store_mid _ _ _ rfl _ _ (ints ns).toArray rfl rfl (by simpa [l24] using Zd.there) (by simpa [l24] using hi24) (all_oneCell_toArray (ints_one _)) ?_
          (try simp only [List.getElem_toArray, List.getElem_cons_zero, List.getElem_cons_succ, Act.put, List.setIfInBounds_toArray, List.set_cons_zero, List.set_cons_succ, List.toList_toArray])
          have KN := hHeld.puts (b := d) hd1 0 (ints ns)
          refine hK.out _ _ KN (fun hHeld => ?_)
          clear hK K hHeld
          have hHeld := KN
          clear KN
          have D := Zd.putAll ns H24.out
          replace C := C.putOther (q := d) 0 (ints ns) hcd
          replace U := Lib.hid (U.out.putsY d 0 (ints ns) (fun z hz => by have := Option.some.inj (show some g = some z from hz); omega))
          have NE : Hid (∀ z, (Value.slice (some ⟨g, 0, none⟩) 0 gc).ownBlock = some z → z ≠ c ∧ z ≠ d) := Lib.hid (fun z hz => by have := Option.some.inj (show some g = some z from hz); omega)
          refine wpAnyH_done (by kernel_rfl) ?_ _
          have RY9 := RY.below hHeld
          have Z9 := Z.below hHeld
          have HR9 := Lib.hid (HR.out.below hHeld)
          have HB9 := Lib.hid (HB.out.call hHeld)
          clear hHeld Zc Zd
          go_wp2_with fail
          go_meet
          case rel => exact ⟨c, d, some ⟨g, 0, none⟩, gc, rfl, rfl, hcd, hc1, hd1, C, D, U, NE, Z9, RY9, HR9, HB9⟩
        · (simp only [List.getElem_toArray, List.getElem_cons_zero, List.getElem_cons_succ, Region.wanted, if_true])
          go_simp
          have Zd : Has (wq201.alloc (.cells #[.int .i64 0, .int .i64 0, .int .i64 0, .int .i64 0, .int .i64 0, .int .i64 0, .int .i64 0, .int .i64 0, .int .i64 0, .int .i64 0, .int .i64 0, .int .i64 0, .int .i64 0, .int .i64 0, .int .i64 0, .int .i64 0, .int .i64 0, .int .i64 0, .int .i64 0, .int .i64 0, .int .i64 0, .int .i64 0, .int .i64 0, .int .i64 0] 30)) (wq201.heap.size) z24 24 := Has.zero24 wq201 30
          have hd1 : w1.heap.size ≤ wq201.heap.size := hHeld.size
          have KN : Kept w1 (wq201.alloc (.cells #[.int .i64 0, .int .i64 0, .int .i64 0, .int .i64 0, .int .i64 0, .int .i64 0, .int .i64 0, .int .i64 0, .int .i64 0, .int .i64 0, .int .i64 0, .int .i64 0, .int .i64 0, .int .i64 0, .int .i64 0, .int .i64 0, .int .i64 0, .int .i64 0, .int .i64 0, .int .i64 0, .int .i64 0, .int .i64 0, .int .i64 0, .int .i64 0] 30)) := Kept.alloc hHeld (.cells #[.int .i64 0, .int .i64 0, .int .i64 0, .int .i64 0, .int .i64 0, .int .i64 0, .int .i64 0, .int .i64 0, .int .i64 0, .int .i64 0, .int .i64 0, .int .i64 0, .int .i64 0, .int .i64 0, .int .i64 0, .int .i64 0, .int .i64 0, .int .i64 0, .int .i64 0, .int .i64 0, .int .i64 0, .int .i64 0, .int .i64 0, .int .i64 0] 30)
          refine hK.out _ _ KN (fun hHeld => ?_)
          clear hK K hHeld
          have hHeld := KN
          clear KN
          replace U := Lib.hid (Prs.allocDi U.out (.cells #[.int .i64 0, .int .i64 0, .int .i64 0, .int .i64 0, .int .i64 0, .int .i64 0, .int .i64 0, .int .i64 0, .int .i64 0, .int .i64 0, .int .i64 0, .int .i64 0, .int .i64 0, .int .i64 0, .int .i64 0, .int .i64 0, .int .i64 0, .int .i64 0, .int .i64 0, .int .i64 0, .int .i64 0, .int .i64 0, .int .i64 0, .int .i64 0] 30))
          have hdg : wq201.heap.size ≠ g := by have := hgl.2; omega
          replace hgl : g < (wq201.alloc (.cells #[.int .i64 0, .int .i64 0, .int .i64 0, .int .i64 0, .int .i64 0, .int .i64 0, .int .i64 0, .int .i64 0, .int .i64 0, .int .i64 0, .int .i64 0, .int .i64 0, .int .i64 0, .int .i64 0, .int .i64 0, .int .i64 0, .int .i64 0, .int .i64 0, .int .i64 0, .int .i64 0, .int .i64 0, .int .i64 0, .int .i64 0, .int .i64 0] 30)).heap.size ∧ g < (wq201.alloc (.cells #[.int .i64 0, .int .i64 0, .int .i64 0, .int .i64 0, .int .i64 0, .int .i64 0, .int .i64 0, .int .i64 0, .int .i64 0, .int .i64 0, .int .i64 0, .int .i64 0, .int .i64 0, .int .i64 0, .int .i64 0, .int .i64 0, .int .i64 0, .int .i64 0, .int .i64 0, .int .i64 0, .int .i64 0, .int .i64 0, .int .i64 0, .int .i64 0] 30)).heap.size := by rw [size1]; omega
          obtain ⟨d, hcc⟩ : ∃ s, wq201.heap.size = s := ⟨_, rfl⟩
          rw [hcc] at Zd hd1 hdg ⊢
          generalize wq201.alloc (.cells #[.int .i64 0, .int .i64 0, .int .i64 0, .int .i64 0, .int .i64 0, .int .i64 0, .int .i64 0, .int .i64 0, .int .i64 0, .int .i64 0, .int .i64 0, .int .i64 0, .int .i64 0, .int .i64 0, .int .i64 0, .int .i64 0, .int .i64 0, .int .i64 0, .int .i64 0, .int .i64 0, .int .i64 0, .int .i64 0, .int .i64 0, .int .i64 0] 30) = wq204 at *
          clear hcc
          (refine wpAnyH_ready (rs := [4]) (by kernel_rfl) (by simp) ?_; refine AllReadyH.cons (o := _) rfl (fun K hK => ?_) AllReadyH.nil; (simp only [List.getElem_toArray, List.getElem_cons_zero, List.getElem_cons_succ, Region.wanted, if_true]))
          go_simp
          (try rw [cells25C])
          have Zc : Ry (wq204.alloc (.cells z25.toArray 32)) (wq204.heap.size) z24 (.slice none 0 0) 32 := Ry.zero wq204 32
          have hc1 : w1.heap.size ≤ wq204.heap.size := hHeld.size
          have KN : Kept w1 (wq204.alloc (.cells z25.toArray 32)) := Kept.alloc hHeld (.cells z25.toArray 32)
          refine hK.out _ _ KN (fun hHeld => ?_)
          clear hK K hHeld
          have hHeld := KN
          clear KN
          replace U := Lib.hid (Prs.allocDi U.out (.cells z25.toArray 32))
          have hcg : wq204.heap.size ≠ g := by have := hgl.2; omega
          replace hgl : g < (wq204.alloc (.cells z25.toArray 32)).heap.size ∧ g < (wq204.alloc (.cells z25.toArray 32)).heap.size := by rw [size1]; omega
          have hcd : wq204.heap.size ≠ d := by have := Zd.lt; omega
          replace Zd := Zd.alloc (.cells z25.toArray 32)
          obtain ⟨c, hcc⟩ : ∃ s, wq204.heap.size = s := ⟨_, rfl⟩
          rw [hcc] at Zc hc1 hcg hcd ⊢
          generalize wq204.alloc (.cells z25.toArray 32) = wq205 at *
          clear hcc
          have hcd : c ≠ d := hcd
          have hcg : c ≠ g := hcg
          have hdg : d ≠ g := hdg
          (refine wpAnyH_ready (rs := [6]) (by kernel_rfl) (by simp) ?_; refine AllReadyH.cons (o := _) rfl (fun K hK => ?_) AllReadyH.nil; (simp only [List.getElem_toArray, List.getElem_cons_zero, List.getElem_cons_succ, Region.wanted, if_true]))
          refine wp_store_mid _ _ _ rfl _ _ (rpC ns (.slice (some ⟨g, 0, none⟩) 0 gc)).toArray rfl rfl (by simpa [lR] using Zc.there25Di) (by simpa [lR] using hi25) (all_oneCell_toArray (rpC_one ns rfl)) ?_
          (try simp only [List.getElem_toArray, List.getElem_cons_zero, List.getElem_cons_succ, Act.put, List.setIfInBounds_toArray, List.set_cons_zero, List.set_cons_succ, List.toList_toArray])
          have KN := hHeld.puts (b := c) hc1 0 (rpC ns (.slice (some ⟨g, 0, none⟩) 0 gc))
          refine hK.out _ _ KN (fun hHeld => ?_)
          clear hK K hHeld
          have hHeld := KN
          clear KN
          have C := Zc.putAll ns (.slice (some ⟨g, 0, none⟩) 0 gc) H24.out
          replace Zd := Zd.putOther (b' := c) 0 (rpC ns (.slice (some ⟨g, 0, none⟩) 0 gc)) (Ne.symm hcd)
          replace U := Lib.hid (U.out.putsY c 0 (rpC ns (.slice (some ⟨g, 0, none⟩) 0 gc)) (fun z hz => by have := Option.some.inj (show some g = some z from hz); omega))
          generalize wq205.setCells c 0 (rpC ns (.slice (some ⟨g, 0, none⟩) 0 gc)) = WF at *
          (refine wpAnyH_ready (rs := [7]) (by kernel_rfl) (by simp) ?_; refine AllReadyH.cons (o := _) rfl (fun K hK => ?_) AllReadyH.nil; (simp only [List.getElem_toArray, List.getElem_cons_zero, List.getElem_cons_succ, Region.wanted, if_true]))
          refine wp_store_mid _ _ _ rfl _ _ (ints ns).toArray rfl rfl (by simpa [l24] using Zd.there) (by simpa [l24] using hi24) (all_oneCell_toArray (ints_one _)) ?_
          (try simp only [List.getElem_toArray, List.getElem_cons_zero, List.getElem_cons_succ, Act.put, List.setIfInBounds_toArray, List.set_cons_zero, List.set_cons_succ, List.toList_toArray])
          have KN := hHeld.puts (b := d) hd1 0 (ints ns)
          refine hK.out _ _ KN (fun hHeld => ?_)
          clear hK K hHeld
          have hHeld := KN
          clear KN
          have D := Zd.putAll ns H24.out
          replace C := C.putOther (q := d) 0 (ints ns) hcd
          replace U := Lib.hid (U.out.putsY d 0 (ints ns) (fun z hz => by have := Option.some.inj (show some g = some z from hz); omega))
          have NE : Hid (∀ z, (Value.slice (some ⟨g, 0, none⟩) 0 gc).ownBlock = some z → z ≠ c ∧ z ≠ d) := Lib.hid (fun z hz => by have := Option.some.inj (show some g = some z from hz); omega)
          refine wpAnyH_done (by kernel_rfl) ?_ _
          have RY9 := RY.below hHeld
          have Z9 := Z.below hHeld
          have HR9 := Lib.hid (HR.out.below hHeld)
          have HB9 := Lib.hid (HB.out.call hHeld)
          clear hHeld Zc Zd
          go_wp2_with fail
          go_meet
          case rel => exact ⟨c, d, some ⟨g, 0, none⟩, gc, rfl, rfl, hcd, hc1, hd1, C, D, U, NE, Z9, RY9, HR9, HB9⟩
      · (simp only [List.getElem_toArray, List.getElem_cons_zero, List.getElem_cons_succ, Region.wanted, if_true])
        go_simp
        (try rw [cells25C])
        have Zc : Ry ((w1.alloc (.cells z25.toArray 32)).drew) (w1.heap.size) z24 (.slice none 0 0) 32 := Ry.zero w1.drew 32
        have hc1 : w1.heap.size ≤ w1.heap.size := hHeld.size
        have KN : Kept w1 ((w1.alloc (.cells z25.toArray 32)).drew) := Kept.alloc hHeld (.cells z25.toArray 32)
        refine hK.out _ _ KN (fun hHeld => ?_)
        clear hK K hHeld
        have hHeld := KN
        clear KN
        obtain ⟨c, hcc⟩ : ∃ s, w1.heap.size = s := ⟨_, rfl⟩
        rw [hcc] at Zc ⊢
        generalize (w1.alloc (.cells z25.toArray 32)).drew = wq206 at *
        replace hc1 : w1.heap.size ≤ c := Nat.le_of_eq hcc
        clear hcc
        refine wpAnyH_ready (rs := [1, 5]) (by kernel_rfl) (by simp) ?_
        refine AllReadyH.cons (o := _) rfl (fun K hK => ?_) (AllReadyH.cons (o := _) rfl (fun K hK => ?_) AllReadyH.nil)
        · (simp only [List.getElem_toArray, List.getElem_cons_zero, List.getElem_cons_succ, Region.wanted, if_true])
          go_simp
          refine (KC.out _ (HR.out.below hHeld)).mono ?_
          rintro e wq207 ⟨g, gc, rfl, q2, bb⟩
          dsimp only
          (try simp only [List.getElem_toArray, List.getElem_cons_zero, List.getElem_cons_succ, Act.put, List.setIfInBounds_toArray, List.set_cons_zero, List.set_cons_succ])
          have hgl := World.ownsRow.lt q2 g rfl
          have hg1 : w1.heap.size ≤ g := by have := hHeld.size; omega
          have hcg : c ≠ g := by have := Zc.lt; omega
          have U := Lib.hid (Prs.monoK q2 (b' := w1.heap.size) hHeld.size)
          clear q2
          have KN := Kept.call hHeld bb
          replace Zc := Zc.below bb
          refine hK.out _ _ KN (fun hHeld => ?_)
          clear hK K hHeld bb
          have hHeld := KN
          clear KN
          (refine wpAnyH_ready (rs := [5]) (by kernel_rfl) (by simp) ?_; refine AllReadyH.cons (o := _) rfl (fun K hK => ?_) AllReadyH.nil; (simp only [List.getElem_toArray, List.getElem_cons_zero, List.getElem_cons_succ, Region.wanted, if_true]))
          go_simp
          have Zd : Has (wq207.alloc (.cells #[.int .i64 0, .int .i64 0, .int .i64 0, .int .i64 0, .int .i64 0, .int .i64 0, .int .i64 0, .int .i64 0, .int .i64 0, .int .i64 0, .int .i64 0, .int .i64 0, .int .i64 0, .int .i64 0, .int .i64 0, .int .i64 0, .int .i64 0, .int .i64 0, .int .i64 0, .int .i64 0, .int .i64 0, .int .i64 0, .int .i64 0, .int .i64 0] 30)) (wq207.heap.size) z24 24 := Has.zero24 wq207 30
          have hd1 : w1.heap.size ≤ wq207.heap.size := hHeld.size
          have KN : Kept w1 (wq207.alloc (.cells #[.int .i64 0, .int .i64 0, .int .i64 0, .int .i64 0, .int .i64 0, .int .i64 0, .int .i64 0, .int .i64 0, .int .i64 0, .int .i64 0, .int .i64 0, .int .i64 0, .int .i64 0, .int .i64 0, .int .i64 0, .int .i64 0, .int .i64 0, .int .i64 0, .int .i64 0, .int .i64 0, .int .i64 0, .int .i64 0, .int .i64 0, .int .i64 0] 30)) := Kept.alloc hHeld (.cells #[.int .i64 0, .int .i64 0, .int .i64 0, .int .i64 0, .int .i64 0, .int .i64 0, .int .i64 0, .int .i64 0, .int .i64 0, .int .i64 0, .int .i64 0, .int .i64 0, .int .i64 0, .int .i64 0, .int .i64 0, .int .i64 0, .int .i64 0, .int .i64 0, .int .i64 0, .int .i64 0, .int .i64 0, .int .i64 0, .int .i64 0, .int .i64 0] 30)
          refine hK.out _ _ KN (fun hHeld => ?_)
          clear hK K hHeld
          have hHeld := KN
          clear KN
          have hdc : wq207.heap.size ≠ c := by have := Zc.lt; omega
          replace Zc := Zc.alloc (.cells #[.int .i64 0, .int .i64 0, .int .i64 0, .int .i64 0, .int .i64 0, .int .i64 0, .int .i64 0, .int .i64 0, .int .i64 0, .int .i64 0, .int .i64 0, .int .i64 0, .int .i64 0, .int .i64 0, .int .i64 0, .int .i64 0, .int .i64 0, .int .i64 0, .int .i64 0, .int .i64 0, .int .i64 0, .int .i64 0, .int .i64 0, .int .i64 0] 30)
          replace U := Lib.hid (Prs.allocDi U.out (.cells #[.int .i64 0, .int .i64 0, .int .i64 0, .int .i64 0, .int .i64 0, .int .i64 0, .int .i64 0, .int .i64 0, .int .i64 0, .int .i64 0, .int .i64 0, .int .i64 0, .int .i64 0, .int .i64 0, .int .i64 0, .int .i64 0, .int .i64 0, .int .i64 0, .int .i64 0, .int .i64 0, .int .i64 0, .int .i64 0, .int .i64 0, .int .i64 0] 30))
          have hdg : wq207.heap.size ≠ g := by have := hgl.2; omega
          replace hgl : g < (wq207.alloc (.cells #[.int .i64 0, .int .i64 0, .int .i64 0, .int .i64 0, .int .i64 0, .int .i64 0, .int .i64 0, .int .i64 0, .int .i64 0, .int .i64 0, .int .i64 0, .int .i64 0, .int .i64 0, .int .i64 0, .int .i64 0, .int .i64 0, .int .i64 0, .int .i64 0, .int .i64 0, .int .i64 0, .int .i64 0, .int .i64 0, .int .i64 0, .int .i64 0] 30)).heap.size ∧ g < (wq207.alloc (.cells #[.int .i64 0, .int .i64 0, .int .i64 0, .int .i64 0, .int .i64 0, .int .i64 0, .int .i64 0, .int .i64 0, .int .i64 0, .int .i64 0, .int .i64 0, .int .i64 0, .int .i64 0, .int .i64 0, .int .i64 0, .int .i64 0, .int .i64 0, .int .i64 0, .int .i64 0, .int .i64 0, .int .i64 0, .int .i64 0, .int .i64 0, .int .i64 0] 30)).heap.size := by rw [size1]; omega
          obtain ⟨d, hcc⟩ : ∃ s, wq207.heap.size = s := ⟨_, rfl⟩
          rw [hcc] at Zd hd1 hdc hdg ⊢
          generalize wq207.alloc (.cells #[.int .i64 0, .int .i64 0, .int .i64 0, .int .i64 0, .int .i64 0, .int .i64 0, .int .i64 0, .int .i64 0, .int .i64 0, .int .i64 0, .int .i64 0, .int .i64 0, .int .i64 0, .int .i64 0, .int .i64 0, .int .i64 0, .int .i64 0, .int .i64 0, .int .i64 0, .int .i64 0, .int .i64 0, .int .i64 0, .int .i64 0, .int .i64 0] 30) = wq208 at *
          clear hcc
          have hcd : c ≠ d := (Ne.symm hdc)
          have hcg : c ≠ g := hcg
          have hdg : d ≠ g := hdg
          (refine wpAnyH_ready (rs := [6]) (by kernel_rfl) (by simp) ?_; refine AllReadyH.cons (o := _) rfl (fun K hK => ?_) AllReadyH.nil; (simp only [List.getElem_toArray, List.getElem_cons_zero, List.getElem_cons_succ, Region.wanted, if_true]))
          refine wp_store_mid _ _ _ rfl _ _ (rpC ns (.slice (some ⟨g, 0, none⟩) 0 gc)).toArray rfl rfl (by simpa [lR] using Zc.there25Di) (by simpa [lR] using hi25) (all_oneCell_toArray (rpC_one ns rfl)) ?_
          (try simp only [List.getElem_toArray, List.getElem_cons_zero, List.getElem_cons_succ, Act.put, List.setIfInBounds_toArray, List.set_cons_zero, List.set_cons_succ, List.toList_toArray])
          have KN := hHeld.puts (b := c) hc1 0 (rpC ns (.slice (some ⟨g, 0, none⟩) 0 gc))
          refine hK.out _ _ KN (fun hHeld => ?_)
          clear hK K hHeld
          have hHeld := KN
          clear KN
          have C := Zc.putAll ns (.slice (some ⟨g, 0, none⟩) 0 gc) H24.out
          replace Zd := Zd.putOther (b' := c) 0 (rpC ns (.slice (some ⟨g, 0, none⟩) 0 gc)) (Ne.symm hcd)
          replace U := Lib.hid (U.out.putsY c 0 (rpC ns (.slice (some ⟨g, 0, none⟩) 0 gc)) (fun z hz => by have := Option.some.inj (show some g = some z from hz); omega))
          generalize wq208.setCells c 0 (rpC ns (.slice (some ⟨g, 0, none⟩) 0 gc)) = WF at *
          (refine wpAnyH_ready (rs := [7]) (by kernel_rfl) (by simp) ?_; refine AllReadyH.cons (o := _) rfl (fun K hK => ?_) AllReadyH.nil; (simp only [List.getElem_toArray, List.getElem_cons_zero, List.getElem_cons_succ, Region.wanted, if_true]))
          refine wp_store_mid _ _ _ rfl _ _ (ints ns).toArray rfl rfl (by simpa [l24] using Zd.there) (by simpa [l24] using hi24) (all_oneCell_toArray (ints_one _)) ?_
          (try simp only [List.getElem_toArray, List.getElem_cons_zero, List.getElem_cons_succ, Act.put, List.setIfInBounds_toArray, List.set_cons_zero, List.set_cons_succ, List.toList_toArray])
          have KN := hHeld.puts (b := d) hd1 0 (ints ns)
          refine hK.out _ _ KN (fun hHeld => ?_)
          clear hK K hHeld
          have hHeld := KN
          clear KN
          have D := Zd.putAll ns H24.out
          replace C := C.putOther (q := d) 0 (ints ns) hcd
          replace U := Lib.hid (U.out.putsY d 0 (ints ns) (fun z hz => by have := Option.some.inj (show some g = some z from hz); omega))
          have NE : Hid (∀ z, (Value.slice (some ⟨g, 0, none⟩) 0 gc).ownBlock = some z → z ≠ c ∧ z ≠ d) := Lib.hid (fun z hz => by have := Option.some.inj (show some g = some z from hz); omega)
          refine wpAnyH_done (by kernel_rfl) ?_ _
          have RY9 := RY.below hHeld
          have Z9 := Z.below hHeld
          have HR9 := Lib.hid (HR.out.below hHeld)
          have HB9 := Lib.hid (HB.out.call hHeld)
          clear hHeld Zc Zd
          go_wp2_with fail
          go_meet
          case rel => exact ⟨c, d, some ⟨g, 0, none⟩, gc, rfl, rfl, hcd, hc1, hd1, C, D, U, NE, Z9, RY9, HR9, HB9⟩
        · (simp only [List.getElem_toArray, List.getElem_cons_zero, List.getElem_cons_succ, Region.wanted, if_true])
          go_simp
          have Zd : Has (wq206.alloc (.cells #[.int .i64 0, .int .i64 0, .int .i64 0, .int .i64 0, .int .i64 0, .int .i64 0, .int .i64 0, .int .i64 0, .int .i64 0, .int .i64 0, .int .i64 0, .int .i64 0, .int .i64 0, .int .i64 0, .int .i64 0, .int .i64 0, .int .i64 0, .int .i64 0, .int .i64 0, .int .i64 0, .int .i64 0, .int .i64 0, .int .i64 0, .int .i64 0] 30)) (wq206.heap.size) z24 24 := Has.zero24 wq206 30
          have hd1 : w1.heap.size ≤ wq206.heap.size := hHeld.size
          have KN : Kept w1 (wq206.alloc (.cells #[.int .i64 0, .int .i64 0, .int .i64 0, .int .i64 0, .int .i64 0, .int .i64 0, .int .i64 0, .int .i64 0, .int .i64 0, .int .i64 0, .int .i64 0, .int .i64 0, .int .i64 0, .int .i64 0, .int .i64 0, .int .i64 0, .int .i64 0, .int .i64 0, .int .i64 0, .int .i64 0, .int .i64 0, .int .i64 0, .int .i64 0, .int .i64 0] 30)) := Kept.alloc hHeld (.cells #[.int .i64 0, .int .i64 0, .int .i64 0, .int .i64 0, .int .i64 0, .int .i64 0, .int .i64 0, .int .i64 0, .int .i64 0, .int .i64 0, .int .i64 0, .int .i64 0, .int .i64 0, .int .i64 0, .int .i64 0, .int .i64 0, .int .i64 0, .int .i64 0, .int .i64 0, .int .i64 0, .int .i64 0, .int .i64 0, .int .i64 0, .int .i64 0] 30)
          refine hK.out _ _ KN (fun hHeld => ?_)
          clear hK K hHeld
          have hHeld := KN
          clear KN
          have hdc : wq206.heap.size ≠ c := by have := Zc.lt; omega
          replace Zc := Zc.alloc (.cells #[.int .i64 0, .int .i64 0, .int .i64 0, .int .i64 0, .int .i64 0, .int .i64 0, .int .i64 0, .int .i64 0, .int .i64 0, .int .i64 0, .int .i64 0, .int .i64 0, .int .i64 0, .int .i64 0, .int .i64 0, .int .i64 0, .int .i64 0, .int .i64 0, .int .i64 0, .int .i64 0, .int .i64 0, .int .i64 0, .int .i64 0, .int .i64 0] 30)
          obtain ⟨d, hcc⟩ : ∃ s, wq206.heap.size = s := ⟨_, rfl⟩
          rw [hcc] at Zd hd1 hdc ⊢
          generalize wq206.alloc (.cells #[.int .i64 0, .int .i64 0, .int .i64 0, .int .i64 0, .int .i64 0, .int .i64 0, .int .i64 0, .int .i64 0, .int .i64 0, .int .i64 0, .int .i64 0, .int .i64 0, .int .i64 0, .int .i64 0, .int .i64 0, .int .i64 0, .int .i64 0, .int .i64 0, .int .i64 0, .int .i64 0, .int .i64 0, .int .i64 0, .int .i64 0, .int .i64 0] 30) = wq209 at *
          clear hcc
          (refine wpAnyH_ready (rs := [1]) (by kernel_rfl) (by simp) ?_; refine AllReadyH.cons (o := _) rfl (fun K hK => ?_) AllReadyH.nil; (simp only [List.getElem_toArray, List.getElem_cons_zero, List.getElem_cons_succ, Region.wanted, if_true]))
          go_simp
          refine (KC.out _ (HR.out.below hHeld)).mono ?_
          rintro e wq210 ⟨g, gc, rfl, q2, bb⟩
          dsimp only
          (try simp only [List.getElem_toArray, List.getElem_cons_zero, List.getElem_cons_succ, Act.put, List.setIfInBounds_toArray, List.set_cons_zero, List.set_cons_succ])
          have hgl := World.ownsRow.lt q2 g rfl
          have hg1 : w1.heap.size ≤ g := by have := hHeld.size; omega
          have hcg : c ≠ g := by have := Zc.lt; omega
          have hdg : d ≠ g := by have := Zd.lt; omega
          have U := Lib.hid (Prs.monoK q2 (b' := w1.heap.size) hHeld.size)
          clear q2
          have KN := Kept.call hHeld bb
          replace Zc := Zc.below bb
          replace Zd := Zd.below bb
          refine hK.out _ _ KN (fun hHeld => ?_)
          clear hK K hHeld bb
          have hHeld := KN
          clear KN
          have hcd : c ≠ d := (Ne.symm hdc)
          have hcg : c ≠ g := hcg
          have hdg : d ≠ g := hdg
          (refine wpAnyH_ready (rs := [6]) (by kernel_rfl) (by simp) ?_; refine AllReadyH.cons (o := _) rfl (fun K hK => ?_) AllReadyH.nil; (simp only [List.getElem_toArray, List.getElem_cons_zero, List.getElem_cons_succ, Region.wanted, if_true]))
          refine wp_store_mid _ _ _ rfl _ _ (rpC ns (.slice (some ⟨g, 0, none⟩) 0 gc)).toArray rfl rfl (by simpa [lR] using Zc.there25Di) (by simpa [lR] using hi25) (all_oneCell_toArray (rpC_one ns rfl)) ?_
          (try simp only [List.getElem_toArray, List.getElem_cons_zero, List.getElem_cons_succ, Act.put, List.setIfInBounds_toArray, List.set_cons_zero, List.set_cons_succ, List.toList_toArray])
          have KN := hHeld.puts (b := c) hc1 0 (rpC ns (.slice (some ⟨g, 0, none⟩) 0 gc))
          refine hK.out _ _ KN (fun hHeld => ?_)
          clear hK K hHeld
          have hHeld := KN
          clear KN
          have C := Zc.putAll ns (.slice (some ⟨g, 0, none⟩) 0 gc) H24.out
          replace Zd := Zd.putOther (b' := c) 0 (rpC ns (.slice (some ⟨g, 0, none⟩) 0 gc)) (Ne.symm hcd)
          replace U := Lib.hid (U.out.putsY c 0 (rpC ns (.slice (some ⟨g, 0, none⟩) 0 gc)) (fun z hz => by have := Option.some.inj (show some g = some z from hz); omega))
          generalize wq210.setCells c 0 (rpC ns (.slice (some ⟨g, 0, none⟩) 0 gc)) = WF at *
          (refine wpAnyH_ready (rs := [7]) (by kernel_rfl) (by simp) ?_; refine AllReadyH.cons (o := _) rfl (fun K hK => ?_) AllReadyH.nil; (simp only [List.getElem_toArray, List.getElem_cons_zero, List.getElem_cons_succ, Region.wanted, if_true]))
          refine wp_store_mid _ _ _ rfl _ _ (ints ns).toArray rfl rfl (by simpa [l24] using Zd.there) (by simpa [l24] using hi24) (all_oneCell_toArray (ints_one _)) ?_
          (try simp only [List.getElem_toArray, List.getElem_cons_zero, List.getElem_cons_succ, Act.put, List.setIfInBounds_toArray, List.set_cons_zero, List.set_cons_succ, List.toList_toArray])
          have KN := hHeld.puts (b := d) hd1 0 (ints ns)
          refine hK.out _ _ KN (fun hHeld => ?_)
          clear hK K hHeld
          have hHeld := KN
          clear KN
          have D := Zd.putAll ns H24.out
          replace C := C.putOther (q := d) 0 (ints ns) hcd
          replace U := Lib.hid (U.out.putsY d 0 (ints ns) (fun z hz => by have := Option.some.inj (show some g = some z from hz); omega))
          have NE : Hid (∀ z, (Value.slice (some ⟨g, 0, none⟩) 0 gc).ownBlock = some z → z ≠ c ∧ z ≠ d) := Lib.hid (fun z hz => by have := Option.some.inj (show some g = some z from hz); omega)
          refine wpAnyH_done (by kernel_rfl) ?_ _
          have RY9 := RY.below hHeld
          have Z9 := Z.below hHeld
          have HR9 := Lib.hid (HR.out.below hHeld)
          have HB9 := Lib.hid (HB.out.call hHeld)
          clear hHeld Zc Zd
          go_wp2_with fail
          go_meet
          case rel => exact ⟨c, d, some ⟨g, 0, none⟩, gc, rfl, rfl, hcd, hc1, hd1, C, D, U, NE, Z9, RY9, HR9, HB9⟩
      · (simp only [List.getElem_toArray, List.getElem_cons_zero, List.getElem_cons_succ, Region.wanted, if_true])
        go_simp
        have Zd : Has ((w1.alloc (.cells #[.int .i64 0, .int .i64 0, .int .i64 0, .int .i64 0, .int .i64 0, .int .i64 0, .int .i64 0, .int .i64 0, .int .i64 0, .int .i64 0, .int .i64 0, .int .i64 0, .int .i64 0, .int .i64 0, .int .i64 0, .int .i64 0, .int .i64 0, .int .i64 0, .int .i64 0, .int .i64 0, .int .i64 0, .int .i64 0, .int .i64 0, .int .i64 0] 30)).drew) (w1.heap.size) z24 24 := Has.zero24 w1.drew 30
        have hd1 : w1.heap.size ≤ w1.heap.size := hHeld.size
        have KN : Kept w1 ((w1.alloc (.cells #[.int .i64 0, .int .i64 0, .int .i64 0, .int .i64 0, .int .i64 0, .int .i64 0, .int .i64 0, .int .i64 0, .int .i64 0, .int .i64 0, .int .i64 0, .int .i64 0, .int .i64 0, .int .i64 0, .int .i64 0, .int .i64 0, .int .i64 0, .int .i64 0, .int .i64 0, .int .i64 0, .int .i64 0, .int .i64 0, .int .i64 0, .int .i64 0] 30)).drew) := Kept.alloc hHeld (.cells #[.int .i64 0, .int .i64 0, .int .i64 0, .int .i64 0, .int .i64 0, .int .i64 0, .int .i64 0, .int .i64 0, .int .i64 0, .int .i64 0, .int .i64 0, .int .i64 0, .int .i64 0, .int .i64 0, .int .i64 0, .int .i64 0, .int .i64 0, .int .i64 0, .int .i64 0, .int .i64 0, .int .i64 0, .int .i64 0, .int .i64 0, .int .i64 0] 30)
        refine hK.out _ _ KN (fun hHeld => ?_)
        clear hK K hHeld
        have hHeld := KN
        clear KN
        obtain ⟨d, hcc⟩ : ∃ s, w1.heap.size = s := ⟨_, rfl⟩
        rw [hcc] at Zd ⊢
        generalize (w1.alloc (.cells #[.int .i64 0, .int .i64 0, .int .i64 0, .int .i64 0, .int .i64 0, .int .i64 0, .int .i64 0, .int .i64 0, .int .i64 0, .int .i64 0, .int .i64 0, .int .i64 0, .int .i64 0, .int .i64 0, .int .i64 0, .int .i64 0, .int .i64 0, .int .i64 0, .int .i64 0, .int .i64 0, .int .i64 0, .int .i64 0, .int .i64 0, .int .i64 0] 30)).drew = wq211 at *
        replace hd1 : w1.heap.size ≤ d := Nat.le_of_eq hcc
        clear hcc
        refine wpAnyH_ready (rs := [1, 4]) (by kernel_rfl) (by simp) ?_
        refine AllReadyH.cons (o := _) rfl (fun K hK => ?_) (AllReadyH.cons (o := _) rfl (fun K hK => ?_) AllReadyH.nil)
        · (simp only [List.getElem_toArray, List.getElem_cons_zero, List.getElem_cons_succ, Region.wanted, if_true])
          go_simp
          refine (KC.out _ (HR.out.below hHeld)).mono ?_
          rintro e wq212 ⟨g, gc, rfl, q2, bb⟩
          dsimp only
          (try simp only [List.getElem_toArray, List.getElem_cons_zero, List.getElem_cons_succ, Act.put, List.setIfInBounds_toArray, List.set_cons_zero, List.set_cons_succ])
          have hgl := World.ownsRow.lt q2 g rfl
          have hg1 : w1.heap.size ≤ g := by have := hHeld.size; omega
          have hdg : d ≠ g := by have := Zd.lt; omega
          have U := Lib.hid (Prs.monoK q2 (b' := w1.heap.size) hHeld.size)
          clear q2
          have KN := Kept.call hHeld bb
          replace Zd := Zd.below bb
          refine hK.out _ _ KN (fun hHeld => ?_)
          clear hK K hHeld bb
          have hHeld := KN
          clear KN
          (refine wpAnyH_ready (rs := [4]) (by kernel_rfl) (by simp) ?_; refine AllReadyH.cons (o := _) rfl (fun K hK => ?_) AllReadyH.nil; (simp only [List.getElem_toArray, List.getElem_cons_zero, List.getElem_cons_succ, Region.wanted, if_true]))
          go_simp
          (try rw [cells25C])
          have Zc : Ry (wq212.alloc (.cells z25.toArray 32)) (wq212.heap.size) z24 (.slice none 0 0) 32 := Ry.zero wq212 32
          have hc1 : w1.heap.size ≤ wq212.heap.size := hHeld.size
          have KN : Kept w1 (wq212.alloc (.cells z25.toArray 32)) := Kept.alloc hHeld (.cells z25.toArray 32)
          refine hK.out _ _ KN (fun hHeld => ?_)
          clear hK K hHeld
          have hHeld := KN
          clear KN
          have hcd : wq212.heap.size ≠ d := by have := Zd.lt; omega
          replace Zd := Zd.alloc (.cells z25.toArray 32)
          replace U := Lib.hid (Prs.allocDi U.out (.cells z25.toArray 32))
          have hcg : wq212.heap.size ≠ g := by have := hgl.2; omega
          replace hgl : g < (wq212.alloc (.cells z25.toArray 32)).heap.size ∧ g < (wq212.alloc (.cells z25.toArray 32)).heap.size := by rw [size1]; omega
          obtain ⟨c, hcc⟩ : ∃ s, wq212.heap.size = s := ⟨_, rfl⟩
          rw [hcc] at Zc hc1 hcd hcg ⊢
          generalize wq212.alloc (.cells z25.toArray 32) = wq213 at *
          clear hcc
          have hcd : c ≠ d := hcd
          have hcg : c ≠ g := hcg
          have hdg : d ≠ g := hdg
          (refine wpAnyH_ready (rs := [6]) (by kernel_rfl) (by simp) ?_; refine AllReadyH.cons (o := _) rfl (fun K hK => ?_) AllReadyH.nil; (simp only [List.getElem_toArray, List.getElem_cons_zero, List.getElem_cons_succ, Region.wanted, if_true]))
          refine wp_store_mid _ _ _ rfl _ _ (rpC ns (.slice (some ⟨g, 0, none⟩) 0 gc)).toArray rfl rfl (by simpa [lR] using Zc.there25Di) (by simpa [lR] using hi25) (all_oneCell_toArray (rpC_one ns rfl)) ?_
          (try simp only [List.getElem_toArray, List.getElem_cons_zero, List.getElem_cons_succ, Act.put, List.setIfInBounds_toArray, List.set_cons_zero, List.set_cons_succ, List.toList_toArray])
          have KN := hHeld.puts (b := c) hc1 0 (rpC ns (.slice (some ⟨g, 0, none⟩) 0 gc))
          refine hK.out _ _ KN (fun hHeld => ?_)
          clear hK K hHeld
          have hHeld := KN
          clear KN
          have C := Zc.putAll ns (.slice (some ⟨g, 0, none⟩) 0 gc) H24.out
          replace Zd := Zd.putOther (b' := c) 0 (rpC ns (.slice (some ⟨g, 0, none⟩) 0 gc)) (Ne.symm hcd)
          replace U := Lib.hid (U.out.putsY c 0 (rpC ns (.slice (some ⟨g, 0, none⟩) 0 gc)) (fun z hz => by have := Option.some.inj (show some g = some z from hz); omega))
          generalize wq213.setCells c 0 (rpC ns (.slice (some ⟨g, 0, none⟩) 0 gc)) = WF at *
          (refine wpAnyH_ready (rs := [7]) (by kernel_rfl) (by simp) ?_; refine AllReadyH.cons (o := _) rfl (fun K hK => ?_) AllReadyH.nil; (simp only [List.getElem_toArray, List.getElem_cons_zero, List.getElem_cons_succ, Region.wanted, if_true]))
          refine wp_store_mid _ _ _ rfl _ _ (ints ns).toArray rfl rfl (by simpa [l24] using Zd.there) (by simpa [l24] using hi24) (all_oneCell_toArray (ints_one _)) ?_
          (try simp only [List.getElem_toArray, List.getElem_cons_zero, List.getElem_cons_succ, Act.put, List.setIfInBounds_toArray, List.set_cons_zero, List.set_cons_succ, List.toList_toArray])
          have KN := hHeld.puts (b := d) hd1 0 (ints ns)
          refine hK.out _ _ KN (fun hHeld => ?_)
          clear hK K hHeld
          have hHeld := KN
          clear KN
          have D := Zd.putAll ns H24.out
          replace C := C.putOther (q := d) 0 (ints ns) hcd
          replace U := Lib.hid (U.out.putsY d 0 (ints ns) (fun z hz => by have := Option.some.inj (show some g = some z from hz); omega))
          have NE : Hid (∀ z, (Value.slice (some ⟨g, 0, none⟩) 0 gc).ownBlock = some z → z ≠ c ∧ z ≠ d) := Lib.hid (fun z hz => by have := Option.some.inj (show some g = some z from hz); omega)
          refine wpAnyH_done (by kernel_rfl) ?_ _
          have RY9 := RY.below hHeld
          have Z9 := Z.below hHeld
          have HR9 := Lib.hid (HR.out.below hHeld)
          have HB9 := Lib.hid (HB.out.call hHeld)
          clear hHeld Zc Zd
          go_wp2_with fail
          go_meet
          case rel => exact ⟨c, d, some ⟨g, 0, none⟩, gc, rfl, rfl, hcd, hc1, hd1, C, D, U, NE, Z9, RY9, HR9, HB9⟩
        · (simp only [List.getElem_toArray, List.getElem_cons_zero, List.getElem_cons_succ, Region.wanted, if_true])
          go_simp
          (try rw [cells25C])
          have Zc : Ry (wq211.alloc (.cells z25.toArray 32)) (wq211.heap.size) z24 (.slice none 0 0) 32 := Ry.zero wq211 32
          have hc1 : w1.heap.size ≤ wq211.heap.size := hHeld.size
          have KN : Kept w1 (wq211.alloc (.cells z25.toArray 32)) := Kept.alloc hHeld (.cells z25.toArray 32)
          refine hK.out _ _ KN (fun hHeld => ?_)
          clear hK K hHeld
          have hHeld := KN
          clear KN
          have hcd : wq211.heap.size ≠ d := by have := Zd.lt; omega
          replace Zd := Zd.alloc (.cells z25.toArray 32)
          obtain ⟨c, hcc⟩ : ∃ s, wq211.heap.size = s := ⟨_, rfl⟩
          rw [hcc] at Zc hc1 hcd ⊢
          generalize wq211.alloc (.cells z25.toArray 32) = wq214 at *
          clear hcc
          (refine wpAnyH_ready (rs := [1]) (by kernel_rfl) (by simp) ?_; refine AllReadyH.cons (o := _) rfl (fun K hK => ?_) AllReadyH.nil; (simp only [List.getElem_toArray, List.getElem_cons_zero, List.getElem_cons_succ, Region.wanted, if_true]))
          go_simp
          refine (KC.out _ (HR.out.below hHeld)).mono ?_
          rintro e wq215 ⟨g, gc, rfl, q2, bb⟩
          dsimp only
          (try simp only [List.getElem_toArray, List.getElem_cons_zero, List.getElem_cons_succ, Act.put, List.setIfInBounds_toArray, List.set_cons_zero, List.set_cons_succ])
          have hgl := World.ownsRow.lt q2 g rfl
          have hg1 : w1.heap.size ≤ g := by have := hHeld.size; omega
          have hdg : d ≠ g := by have := Zd.lt; omega
          have hcg : c ≠ g := by have := Zc.lt; omega
          have U := Lib.hid (Prs.monoK q2 (b' := w1.heap.size) hHeld.size)
          clear q2
          have KN := Kept.call hHeld bb
          replace Zd := Zd.below bb
          replace Zc := Zc.below bb
          refine hK.out _ _ KN (fun hHeld => ?_)
          clear hK K hHeld bb
          have hHeld := KN
          clear KN
          have hcd : c ≠ d := hcd
          have hcg : c ≠ g := hcg
          have hdg : d ≠ g := hdg
          (refine wpAnyH_ready (rs := [6]) (by kernel_rfl) (by simp) ?_; refine AllReadyH.cons (o := _) rfl (fun K hK => ?_) AllReadyH.nil; (simp only [List.getElem_toArray, List.getElem_cons_zero, List.getElem_cons_succ, Region.wanted, if_true]))
          refine wp_store_mid _ _ _ rfl _ _ (rpC ns (.slice (some ⟨g, 0, none⟩) 0 gc)).toArray rfl rfl (by simpa [lR] using Zc.there25Di) (by simpa [lR] using hi25) (all_oneCell_toArray (rpC_one ns rfl)) ?_
          (try simp only [List.getElem_toArray, List.getElem_cons_zero, List.getElem_cons_succ, Act.put, List.setIfInBounds_toArray, List.set_cons_zero, List.set_cons_succ, List.toList_toArray])
          have KN := hHeld.puts (b := c) hc1 0 (rpC ns (.slice (some ⟨g, 0, none⟩) 0 gc))
          refine hK.out _ _ KN (fun hHeld => ?_)
          clear hK K hHeld
          have hHeld := KN
          clear KN
          have C := Zc.putAll ns (.slice (some ⟨g, 0, none⟩) 0 gc) H24.out
          replace Zd := Zd.putOther (b' := c) 0 (rpC ns (.slice (some ⟨g, 0, none⟩) 0 gc)) (Ne.symm hcd)
          replace U := Lib.hid (U.out.putsY c 0 (rpC ns (.slice (some ⟨g, 0, none⟩) 0 gc)) (fun z hz => by have := Option.some.inj (show some g = some z from hz); omega))
          generalize wq215.setCells c 0 (rpC ns (.slice (some ⟨g, 0, none⟩) 0 gc)) = WF at *
          (refine wpAnyH_ready (rs := [7]) (by kernel_rfl) (by simp) ?_; refine AllReadyH.cons (o := _) rfl (fun K hK => ?_) AllReadyH.nil; (simp only [List.getElem_toArray, List.getElem_cons_zero, List.getElem_cons_succ, Region.wanted, if_true]))
          refine wp_store_mid _ _ _ rfl _ _ (ints ns).toArray rfl rfl (by simpa [l24] using Zd.there) (by simpa [l24] using hi24) (all_oneCell_toArray (ints_one _)) ?_
          (try simp only [List.getElem_toArray, List.getElem_cons_zero, List.getElem_cons_succ, Act.put, List.setIfInBounds_toArray, List.set_cons_zero, List.set_cons_succ, List.toList_toArray])
          have KN := hHeld.puts (b := d) hd1 0 (ints ns)
          refine hK.out _ _ KN (fun hHeld => ?_)
          clear hK K hHeld
          have hHeld := KN
          clear KN
          have D := Zd.putAll ns H24.out
          replace C := C.putOther (q := d) 0 (ints ns) hcd
          replace U := Lib.hid (U.out.putsY d 0 (ints ns) (fun z hz => by have := Option.some.inj (show some g = some z from hz); omega))
          have NE : Hid (∀ z, (Value.slice (some ⟨g, 0, none⟩) 0 gc).ownBlock = some z → z ≠ c ∧ z ≠ d) := Lib.hid (fun z hz => by have := Option.some.inj (show some g = some z from hz); omega)
          refine wpAnyH_done (by kernel_rfl) ?_ _
          have RY9 := RY.below hHeld
          have Z9 := Z.below hHeld
          have HR9 := Lib.hid (HR.out.below hHeld)
          have HB9 := Lib.hid (HB.out.call hHeld)
          clear hHeld Zc Zd
          go_wp2_with fail
          go_meet
          case rel => exact ⟨c, d, some ⟨g, 0, none⟩, gc, rfl, rfl, hcd, hc1, hd1, C, D, U, NE, Z9, RY9, HR9, HB9⟩
    clear Z RY HR HB KC hiA hiB
    obtain ⟨c, d, va0, vc0, rfl, rfl, hcd, hc1, hd1, C0, D0, P1, NE0, Z, RY, HR, HB⟩ := hcut
    rw [hB] at hc1 hd1 P1
    have hsB : w.heap.size + 2 ≤ B := by omega
    clear hws hB
    go_wp2_with fail
    go_loopw [6] (fun i wr => ∃ (k N : Nat) (va : Option Addr) (vc : Nat), k ≤ n ∧ N ≤ k ∧ i = .int .i64 k ∧ Ry wr c ns (.slice va N vc) 32 ∧ Has wr d (diR ns fs k) 24 ∧ Hid (Prs wr B (.slice va N vc) N (diF ns fs k)) ∧ Hid (∀ z, (Value.slice va N vc).ownBlock = some z → z ≠ c ∧ z ≠ d) ∧ Ry wr (w.heap.size + 1) z24 (.slice none 0 0) 32 ∧ Ry wr w.heap.size ns (.slice a n cap) 32 ∧ Hid (Rw wr b (.slice a n cap) n fs) ∧ Hid (Kept w wr)) (fun i _ => n - (intOf i).toNat)
    case atStart => exact ⟨0, 0, va0, vc0, by omega, by omega, rfl, C0, D0, P1, NE0, Z, RY, HR, HB⟩
    case round =>
      clear C0 D0 P1 NE0 Z RY HR HB
      obtain ⟨k, N, va, vc, hk, hN, rfl, C, D, GP, NE, Z, RY, GR, GB⟩ := hrel
      have c24 := RY.pours
      by_cases hlt : k < n
      · have ki : (k : Int) < ((n : Nat) : Int) := by omega
        have k0 : (0 : Int) ≤ (k : Int) := by omega
        obtain ⟨g, cap2, hv', _, hgl⟩ := GR.out.form (by omega)
        injection hv' with ha _ hcap
        subst ha
        subst hcap
        have hgs : g < w.heap.size := AP.out (by omega) g rfl
        have hR := HL.out k
        have hV := Lib.hid (VV.out k)
        have r0 := GR.out.cell (k * 2) (by omega)
        have r1 := GR.out.cell (k * 2 + 1) (by omega)
        have YES := Lib.hid (di_yes (ns := ns) (fs := fs) (k := k))
        have NO := Lib.hid (di_no (ns := ns) (fs := fs) (k := k))
        generalize fs.getD (k * 2) 0 = x at *
        generalize fs.getD (k * 2 + 1) 0 = y at *
        obtain ⟨R, hRR⟩ : ∃ R, diR ns fs k = R := ⟨_, rfl⟩
        obtain ⟨F, hFF⟩ : ∃ F, diF ns fs k = F := ⟨_, rfl⟩
        rw [hRR] at D hR YES NO hV
        rw [hFF] at GP YES NO
        clear hRR hFF
        have RG := Lib.hid (range_two r0 r1)
        have hb7 := C.lt
        have B7 := Has.box (ns := [x, y]) (n := 2) wr 51 rfl (by omega)
        replace C := C.alloc (.cells (ints [x, y]).toArray 51)
        replace D := D.alloc (.cells (ints [x, y]).toArray 51)
        replace Z := Z.alloc (.cells (ints [x, y]).toArray 51)
        replace RY := RY.alloc (.cells (ints [x, y]).toArray 51)
        replace GP := Lib.hid (Prs.allocDi GP.out (.cells (ints [x, y]).toArray 51))
        replace GR := Lib.hid (GR.out.alloc (.cells (ints [x, y]).toArray 51))
        replace GB := Lib.hid (GB.out.alloc (.cells (ints [x, y]).toArray 51))
        clear r0 r1
        go_upto_region 8 with (first | (refine wpList_load_mid rfl 51 _ rfl g (k * 2) rfl (ints [x, y]) _ RG.out Try.underlying51 rfl (by kernel_rfl) ?_) | (refine guardY (isStY 51) ?_ ?_; (· rfl); (refine store_new rfl 51 _ _ rfl _ _ _ rfl _ rfl _ rfl rfl ?_ ?_ ?_; (· (first | assumption | rfl)); (· kernel_rfl))))
        obtain ⟨b7, hb⟩ : ∃ s, wr.heap.size = s := ⟨_, rfl⟩
        rw [hb] at B7 hb7 ⊢
        generalize wr.alloc (.cells (ints [x, y]).toArray 51) = W4 at *
        clear hb RG c24
        go_wp2_with (first | (refine guardY (isLdY 51) ?_ ?_; (· rfl); refine load_has rfl 51 _ rfl b7 rfl [x, y] 2 B7 _ Try.underlying51 rfl ?_ ?_; (· kernel_rfl)) | (refine guardY (isLdY 30) ?_ ?_; (· rfl); refine load_has rfl 30 _ rfl d rfl R 24 D _ Try.underlying30 rfl ?_ ?_; (· kernel_rfl)))
        refine (l6Can_any R x y _ hR hV.out).mono ?_
        rintro e w5 ⟨rfl, b5⟩
        replace C := C.below b5
        replace D := D.below b5
        replace Z := Z.below b5
        replace RY := RY.below b5
        replace B7 := B7.below b5
        replace GP := Lib.hid (GP.out.belowDi b5)
        replace GR := Lib.hid (GR.out.below b5)
        replace GB := Lib.hid (GB.out.call b5)
        clear b5
        cases hpo : pourOk R x y with
        | false =>
          obtain ⟨e1, e2⟩ := NO.out (tb_off hpo)
          have E1 := Lib.hid e1
          have E2 := Lib.hid e2
          clear hpo YES NO e1 e2 B7
          go_wp2_with fail
          go_roundw
          case rel => exact ⟨k + 1, N, va, vc, by omega, by omega, by go_num, C, by rw [E1.out]; exact D, by rw [E2.out]; exact GP, NE, Z, RY, GR, GB⟩
          case measure => simp [intOf]; omega
        | true =>
          have TB := Lib.hid (tb_on hpo)
          obtain ⟨p, q, rfl, rfl, p6, q6, hne, hc0⟩ := pourOk_parts hpo
          have LZ := Lib.hid (can_lay (tub_len R _ hR p6) (vR_tub hV.out _ p6) hc0)
          have EP := Lib.hid (pourR_T hpo)
          rw [Int.toNat_natCast, Int.toNat_natCast] at TB
          have HC := Lib.hid hc0
          have HNE := Lib.hid hne
          have HRL := Lib.hid hR
          clear hpo hc0 hne
          have cc0 := B7.cell 0 (by omega)
          have cc1 := B7.cell 1 (by omega)
          rw [List.getD_cons_zero] at cc0
          rw [List.getD_cons_succ, List.getD_cons_zero] at cc1
          go_wp2_with (refine guardY (isLdY 30) ?_ ?_; (· rfl); refine load_has rfl 30 _ rfl d rfl R 24 D _ Try.underlying30 rfl ?_ ?_; (· kernel_rfl))
          refine (l2Idle_any R p q _ HRL.out hV.out p6 q6 LZ.out).mono ?_
          rintro e w6 ⟨rfl, b6⟩
          clear cc0 cc1
          replace C := C.below b6
          replace D := D.below b6
          replace Z := Z.below b6
          replace RY := RY.below b6
          replace B7 := B7.below b6
          replace GP := Lib.hid (GP.out.belowDi b6)
          replace GR := Lib.hid (GR.out.below b6)
          replace GB := Lib.hid (GB.out.call b6)
          clear b6
          cases hid : idl R p q with
          | true =>
            obtain ⟨e1, e2⟩ := NO.out (by rw [TB.out, hid]; rfl)
            have E1 := Lib.hid e1
            have E2 := Lib.hid e2
            clear hid YES NO e1 e2 B7 TB
            go_wp2_with fail
            go_roundw
            case rel => exact ⟨k + 1, N, va, vc, by omega, by omega, by go_num, C, by rw [E1.out]; exact D, by rw [E2.out]; exact GP, NE, Z, RY, GR, GB⟩
            case measure => simp [intOf]; omega
          | false =>
            obtain ⟨e1, e2⟩ := YES.out (by rw [TB.out, hid]; rfl)
            have L2 := pourR_len hR (p : Int) (q : Int)
            rw [EP.out] at e1 L2
            have E1 := Lib.hid e1
            have E2 := Lib.hid e2
            clear hid YES NO e1 e2 TB EP
            have cc0 := B7.cell 0 (by omega)
            have cc1 := B7.cell 1 (by omega)
            rw [List.getD_cons_zero] at cc0
            rw [List.getD_cons_succ, List.getD_cons_zero] at cc1
            go_wp2_with (refine guardY (isLdY 30) ?_ ?_; (· rfl); refine load_has rfl 30 _ rfl d rfl R 24 D _ Try.underlying30 rfl ?_ ?_; (· kernel_rfl))
            refine (l2Pour_any R p q _ HRL.out hV.out p6 q6 HNE.out HC.out).mono ?_
            rintro e w7 ⟨rfl, b7'⟩
            clear cc0 cc1
            obtain ⟨R2, hR2⟩ : ∃ R2, pourT R p q = R2 := ⟨_, rfl⟩
            rw [hR2] at E1 L2 ⊢
            clear hR2
            replace C := C.below b7'
            replace D := D.below b7'
            replace Z := Z.below b7'
            replace RY := RY.below b7'
            replace B7 := B7.below b7'
            replace GP := Lib.hid (GP.out.belowDi b7')
            replace GR := Lib.hid (GR.out.below b7')
            replace GB := Lib.hid (GB.out.call b7')
            clear b7'
            have hd7 : d < w7.heap.size := D.lt
            have hc7 : c < w7.heap.size := C.lt
            have GP5 := GP
            have T8 := Has.box w7 30 L2 (by omega)
            replace C := C.alloc (.cells (ints R2).toArray 30)
            replace D := D.alloc (.cells (ints R2).toArray 30)
            replace Z := Z.alloc (.cells (ints R2).toArray 30)
            replace RY := RY.alloc (.cells (ints R2).toArray 30)
            replace B7 := B7.alloc (.cells (ints R2).toArray 30)
            replace GP := Lib.hid (Prs.allocDi GP.out (.cells (ints R2).toArray 30))
            replace GR := Lib.hid (GR.out.alloc (.cells (ints R2).toArray 30))
            replace GB := Lib.hid (GB.out.alloc (.cells (ints R2).toArray 30))
            obtain ⟨b8, hb8⟩ : ∃ s, w7.heap.size = s := ⟨_, rfl⟩
            rw [hb8] at T8
            have hW5 : (w7.alloc (.cells (ints R2).toArray 30)).heap.size = b8 + 1 := by rw [size1, hb8]
            have hb82 : d < b8 := by omega
            have hb83 : c < b8 := by omega
            have hb8n : ∀ z, (Value.slice va N vc).ownBlock = some z → z ≠ b8 := fun z hz => by have := (World.ownsRow.lt GP5.out z hz).2; omega
            go_upto_region 10 with (refine guardY (isStY 30) ?_ ?_; (· rfl); refine store_new rfl 30 _ _ rfl _ _ _ rfl b8 hb8.symm R2 rfl rfl ?_ ?_ ?_; (· exact L2); (· kernel_rfl))
            generalize w7.alloc (.cells (ints R2).toArray 30) = W6 at *
            clear hb8 GP5
            have c24 := C.pours
            have C2 := C.alloc (.cells (ints [(p : Int), (q : Int)]).toArray 51)
            have f24 := C2.free 24
            have Q2 := Lib.hid (Prs.allocDi GP.out (.cells (ints [(p : Int), (q : Int)]).toArray 51))
            have hcs : some c ≠ (Value.slice va N vc).ownBlock := fun e => (NE.out _ e.symm).1 rfl
            have hds : some d ≠ (Value.slice va N vc).ownBlock := fun e => (NE.out _ e.symm).2 rfl
            have own0 := Lib.hid (fun z hz => (World.ownsRow.lt GP.out z hz))
            go_upto_region 11 with (first | (refine guardY (isLdY 51) ?_ ?_; (· rfl); refine load_has rfl 51 _ rfl b7 rfl [(p : Int), (q : Int)] 2 B7 _ Try.underlying51 rfl ?_ ?_; (· kernel_rfl)) | (refine slice1Di rfl 26 51 _ rfl Try.underlying26 (by kernel_rfl) [(p : Int), (q : Int)] rfl rfl ?_) | (at_builtin; refine wpList_append_prs rfl _ _ rfl B _ N F rfl Q2.out (some ⟨W6.heap.size, 0, none⟩) 1 1 rfl [(p : Int), (q : Int)] rfl (from_new W6 (p : Int) (q : Int) _) (by rw [size1]; omega) (by omega) ?_; intro v' w8 hP hgrow hlie; obtain ⟨va', vc', rfl⟩ := hP.rw.shape; have C3 := C2.grown hgrow hcs; have c24' := C3.pours; have f24' := C3.free 24))
            have sz6 := size1 W6 (.cells (ints [(p : Int), (q : Int)]).toArray 51)
            have P7 := Lib.hid hP
            have D3 := (D.alloc (.cells (ints [(p : Int), (q : Int)]).toArray 51)).grownDi hgrow hds
            have T3 := (T8.alloc (.cells (ints [(p : Int), (q : Int)]).toArray 51)).grownDi hgrow (fun e => hb8n _ e.symm rfl)
            have Z3 := (Z.alloc (.cells (ints [(p : Int), (q : Int)]).toArray 51)).grown hgrow (fun e => by have := (own0.out _ e.symm).1; omega)
            have RY3 := (RY.alloc (.cells (ints [(p : Int), (q : Int)]).toArray 51)).grown hgrow (fun e => by have := (own0.out _ e.symm).1; omega)
            have GR3 := Lib.hid ((GR.out.alloc (.cells (ints [(p : Int), (q : Int)]).toArray 51)).grownP hgrow (fun _ z hz => .inr (fun e => by have h1 := (own0.out z hz).1; have h2 := Option.some.inj (show some g = some z from e); omega)))
            have GB3 : Hid (Kept w w8) := Lib.hid ((GB.out.alloc (.cells (ints [(p : Int), (q : Int)]).toArray 51)).grown hgrow (by rw [size1]; have := GB.out.size; omega) (fun z hz => by have := (own0.out z hz).1; omega))
            have NE3 : Hid (∀ z, (Value.slice va' (N + 1) vc').ownBlock = some z → z ≠ c ∧ z ≠ d) := Lib.hid (fun z hz => by
              rcases hlie with h3 | h3
              · exact NE.out z (h3.symm.trans hz)
              · have h4 := Option.some.inj (h3.symm.trans hz); omega)
            clear hP hgrow hlie Q2 GP C C2 D T8 Z RY GR GB B7 NE c24 f24 c24' f24' own0
            have C4 := C3.setPours (.slice va' (N + 1) vc')
            have D4 := D3.afterDi (q := c) 24 (.slice va' (N + 1) vc') (Ne.symm hcd)
            have T4 := T3.afterDi (q := c) 24 (.slice va' (N + 1) vc') (by omega)
            have Z4 := Z3.setOther (q := c) 24 (.slice va' (N + 1) vc') (by omega)
            have RY4 := RY3.setOther (q := c) 24 (.slice va' (N + 1) vc') (by omega)
            have P4 : Hid (Prs (w8.setCell ⟨c, 24, none⟩ (.slice va' (N + 1) vc')) B (.slice va' (N + 1) vc') (N + 1) (F ++ [(p : Int), (q : Int)])) := Lib.hid (P7.out.putsY c 24 [.slice va' (N + 1) vc'] (fun z hz => (NE3.out z hz).1))
            have GR4 : Hid (Rw (w8.setCell ⟨c, 24, none⟩ (.slice va' (N + 1) vc')) b (.slice (some ⟨g, 0, none⟩) n cap) n fs) := Lib.hid (GR3.out.puts c 24 [.slice va' (N + 1) vc'] (fun _ e => by have := Option.some.inj (show some g = some c from e); omega))
            have GB4 := Lib.hid (GB3.out.set (b := c) (by omega) 24 (.slice va' (N + 1) vc'))
            clear C3 D3 T3 Z3 RY3 P7 GR3 GB3
            generalize World.setCell w8 ⟨c, 24, none⟩ (.slice va' (N + 1) vc') = W8 at *
            have C5 := C4.putOther (q := d) 0 (ints R2) hcd
            have D5 := D4.putAll R2 L2
            have Z5 := Z4.putOther (q := d) 0 (ints R2) (by omega)
            have RY5 := RY4.putOther (q := d) 0 (ints R2) (by omega)
            have P5 := Lib.hid (P4.out.putsY d 0 (ints R2) (fun z hz => (NE3.out z hz).2))
            have GR5 := Lib.hid (GR4.out.puts d 0 (ints R2) (fun _ e => by have := Option.some.inj (show some g = some d from e); omega))
            have GB5 := Lib.hid (GB4.out.puts (b := d) (by omega) 0 (ints R2))
            go_wp2_with (first | (refine guardY (isLdY 30) ?_ ?_; (· rfl); refine load_has rfl 30 _ rfl b8 rfl R2 24 T4 _ Try.underlying30 rfl ?_ ?_; (· kernel_rfl)) | (refine guardY (isStY 30) ?_ ?_; (· rfl); refine store_at rfl 30 _ _ rfl _ R2 rfl rfl R 24 D4 L2 ?_ ?_; (· kernel_rfl)))
            go_roundw
            case rel => exact ⟨k + 1, N + 1, va', vc', by omega, by omega, by go_num, C5, by rw [E1.out]; exact D5, by rw [E2.out]; exact P5, NE3, Z5, RY5, GR5, GB5⟩
            case measure => simp [intOf]; omega
      · obtain rfl : k = n := by omega
        have own := Lib.hid (fun z hz => (World.ownsRow.lt GP.out z hz).1)
        have FLN := GP.out.flat
        have EN : Hid (diNA ns fs k = N) := Lib.hid (by unfold diNA; omega)
        have Q := Lib.hid GP.out.rw
        have S1 := Lib.hid (Z.putAll ns (.slice va N vc) H24.out)
        have S2 := Lib.hid (GB.out.puts (b := w.heap.size + 1) (by omega) 0 (rpC ns (.slice va N vc)))
        have S3 := Lib.hid ((Q.out.puts (w.heap.size + 1) 0 (rpC ns (.slice va N vc)) (fun _ e => by have := own.out _ e; omega)).mono (show w.heap.size ≤ B by omega))
        clear FLN GP Q D GR own NE RY
        go_wp2_with (first | (refine guardY (isLdY 32) ?_ ?_; (· rfl); refine load_ry rfl 32 _ rfl c rfl _ _ _ C _ Try.underlying32 rfl ?_ ?_; (· kernel_rfl)) | (refine guardY (isStY 32) ?_ ?_; (· rfl); refine store_ry rfl 32 _ _ rfl (w.heap.size + 1) rfl ns (.slice va N vc) rfl _ _ _ Z H24.out rfl ?_ ?_; (· kernel_rfl)))
        exact bodyPost_ret (res_ry1 rfl _ _ (w.heap.size + 1) ns _ _ _ (.bool true) rfl rfl S1.out Try.underlying32 rfl (by kernel_rfl)) rfl ⟨_, by rw [E.out]; rfl, by rw [E.out]; exact (show Rw _ _ _ (diNA ns fs k) (diF ns fs k) by rw [EN.out]; exact S3.out), S2.out⟩
end Go.Proofs.Ytalngdccjoafhab.base
