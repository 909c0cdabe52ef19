/-
  The best party of the game for tubes on both sides, walked.
-/
/-
  The best party of the game for tubes on the model's side, walked, and its exact law.
-/
import Derived.Test.YtnldnjnnjfbhnabGmEZ
import Derived.Test.YtnldnjnnjfbhnabRackToZ
import Derived.Test.YtnldnjnnjfbhnabRunsZ

section
namespace Go.Proofs.Ytnldnjnnjfbhnab.base
open Go.ChangeShapes Go.WideShapes Go.ChangeAt Go.RowKit
set_option linter.unusedVariables false
set_option linter.unusedSimpArgs false

def PaPost (r : List Int) (n : Int) (w : World) (e : Ending) (w' : World) : Prop := ∃ v : Value, e = .returned (.tuple #[v, .bool (gmOk r n)]) ∧ Prs w' w.heap.size v (paNA r n) (paFA r n) ∧ Kept w w'
/-- A party is under way: what has been made, acc, and what is to come. -/
structure Pa (F : List Int) (left : Nat) (r acc : List Int) (k : Nat) : Prop where
  good : GR r
  le : left ≤ 3
  all : acc ++ paF left r = F
  len : acc.length = k * 2
  k3 : k + left ≤ 3
theorem Pa.stop {F : List Int} {left k : Nat} {r acc : List Int} (h : Pa F left r acc k) (hs : left = 0 ∨ fbOk r (left : Int) = false) : acc = F := by
  have e : paF left r = [] := by
    rcases hs with h0 | h0
    · subst h0; rw [paF]
    · cases left with
      | zero => rw [paF]
      | succ n => rw [paF, if_neg (by rw [h0]; simp)]
  have := h.all
  rw [e, List.append_nil] at this; exact this
theorem Pa.next {F : List Int} {left k : Nat} {r acc : List Int} (h : Pa F (left + 1) r acc k) (hf : fbOk r ((left + 1 : Nat) : Int) = true) :
    ∃ j, j < usefNA r ∧ fbA r ((left + 1 : Nat) : Int) = [upX r j, upY r j] ∧ fbX r ((left + 1 : Nat) : Int) = upX r j ∧ fbY r ((left + 1 : Nat) : Int) = upY r j ∧ Pa F left (nxR r j) (acc ++ [upX r j, upY r j]) (k + 1) := by
  obtain ⟨j, hj, hx, hy⟩ := fb_in h.good.1 hf
  refine ⟨j, hj, ?_, hx, hy, ⟨nx_good h.good j hj, by have := h.le; omega, ?_, ?_, by have := h.k3; omega⟩⟩
  · unfold fbA; rw [if_pos hf, hx, hy]
  · have h2 := h.all
    rw [paF, if_pos hf, hx, hy] at h2
    rw [List.append_assoc]
    exact h2
  · rw [List.length_append, h.len]; simp; omega
theorem Pa.first {r : List Int} {n : Nat} (G : GR r) (hn : n ≤ 3) : Pa (paF n r) n r [] 0 := ⟨G, hn, rfl, rfl, by omega⟩

theorem Prs.asideG {w : World} {b n : Nat} {v : Value} {fs : List Int} (h : Prs w b v n fs) (c o : Nat) (vs : List Value) (hne : ∀ k, v.ownBlock = some k → k ≠ c) : Prs (w.setCells c o vs) b v n fs := by
  have hb := below_setCells (B := 0) c (Nat.zero_le _) vs o w w (Below.refl _ _)
  exact h.apart (r := some c) ⟨hb.os, hb.tape, hb.output, Nat.le_of_eq (size_setCells c vs o w).symm, fun i hi hn => World.heap_setCells_other w c o vs hi (fun e => hn (by rw [e]))⟩ (fun k hk e => by injection hk with hk; subst hk; exact hne _ e rfl)
theorem Prs.putRack {w : World} {b n : Nat} {v : Value} {fs : List Int} (h : Prs w b v n fs) (c o : Nat) (vs : List Value) (hc : c < b) : Prs (w.setCells c o vs) b v n fs :=
  h.asideG c o vs (fun z hz => by have := (World.ownsRow.lt h z hz).1; omega)

set_option maxHeartbeats 3200000 in
set_option maxRecDepth 100000 in
theorem implBestParty (r : List Int) (n : Int) (w : World) (h24 : r.length = 24) :
    Calls Try.prog 8 #[row r, .int .i64 n] w (PaPost r n w) := by
  obtain ⟨i0, hi, hz0, hz1, hz2⟩ := info_parts infoPair
  have HB := Lib.hid (((kept_refl w).alloc (.cells (ints r).toArray 27)).alloc (.cells #[] 36))
  have H := (Has.box w 27 h24 (by omega)).alloc (.cells #[] 36)
  have P0 := Lib.hid (by have := Prs.none (w.alloc (.cells (ints r).toArray 27)) (w.heap.size + 1) (by simp); rwa [size1] at this)
  have EF : Hid (paFA r n = if gmOk r n = true then paF n.toNat r else []) := Lib.hid rfl
  have EN : Hid (paNA r n = if gmOk r n = true then paN n.toNat r else 0) := Lib.hid rfl
  have KF := Lib.hid (fun x m W (hx : x.length = 24) => implFirstBest x m W hx)
  have KP := Lib.hid (fun x p q W (hx : x.length = 24) => implPour x p q W hx)
  rw [row_ints]
  go_enter Try.func8, Try.ntmps8
  go_wp2_with (refine load_has rfl 27 _ rfl _ rfl ?_ 24 ?_ _ Try.underlying27 rfl ?_ ?_; rotate_left; (· (repeat (first | (with_reducible assumption) | ((with_reducible refine Has.box _ _ ?_ ?_) <;> (first | assumption | decide)) | (with_reducible refine Has.alloc ?_ _) | ((with_reducible refine Has.putOther ?_ _ _ ?_); rotate_left; omega; skip) | ((with_reducible refine Has.below ?_ ?_); rotate_left; assumption)))); (· kernel_rfl))
  refine (isGame_any r n _ h24).mono ?_
  rintro e w1 ⟨rfl, b1⟩
  replace H := H.below b1
  replace HB := Lib.hid (HB.out.call b1)
  replace P0 := Lib.hid (P0.out.below b1)
  clear b1
  cases hok : gmOk r n with
  | false =>
    have E := Lib.hid hok
    have E1 := Lib.hid (show paNA r n = 0 ∧ paFA r n = [] from ⟨by rw [EN.out, if_neg (by rw [hok]; simp)], by rw [EF.out, if_neg (by rw [hok]; simp)]⟩)
    clear hok
    go_wp2_with fail
    go_ret2
    exact ⟨_, by rw [E.out]; rfl, by rw [E1.out.1, E1.out.2]; exact P0.out.mono (by omega), HB.out⟩
  | true =>
    obtain ⟨hv, h0, h3⟩ := gmOk_of hok
    have E := Lib.hid hok
    obtain ⟨N, hN⟩ : ∃ N : Nat, n = (N : Int) := ⟨n.toNat, by omega⟩
    have E1 := Lib.hid (show paFA r n = paF N r by rw [EF.out, if_pos hok, hN, Int.toNat_natCast])
    have E2 := Lib.hid (show paNA r n = (paF N r).length / 2 by rw [EN.out, if_pos hok, hN, Int.toNat_natCast]; rfl)
    have PA := Lib.hid (Pa.first (r := r) (n := N) ⟨h24, hv⟩ (by omega))
    clear hok hv EF EN h0 h3 h24
    subst hN
    obtain ⟨F, hF⟩ : ∃ F, paF N r = F := ⟨_, rfl⟩
    rw [hF] at PA E1 E2
    clear hF
    go_wp2_with fail
    go_loopw [6, 7] (fun u z wr => ∃ (left k : Nat) (rr acc : List Int), z = .int .i64 (left : Nat) ∧ Hid (Pa F left rr acc k) ∧ Has wr w.heap.size rr 24 ∧ Hid (Prs wr (w.heap.size + 1) u k acc) ∧ Hid (Kept w wr)) (fun _ z _ => (intOf z).toNat)
    case atStart => exact ⟨N, 0, r, [], rfl, PA, H, P0, HB⟩
    case round =>
      clear PA H P0 HB
      obtain ⟨left, k, rr, acc, rfl, PA, H, GU, GB⟩ := hrel
      have hk3 := PA.out.k3
      cases left with
      | zero =>
        have EA := Lib.hid (PA.out.stop (.inl rfl))
        have EL := Lib.hid (PA.out.len)
        go_wp2_with fail
        go_ret2
        exact ⟨_, by rw [E.out]; rfl, by rw [E1.out, E2.out, ← EA.out, EL.out, Nat.mul_div_cancel _ (by omega)]; exact GU.out.mono (by omega), GB.out⟩
      | succ left =>
        obtain ⟨lz, hlz⟩ : ∃ lz : Int, ((left + 1 : Nat) : Int) = lz := ⟨_, rfl⟩
        have l0 : 0 < lz := by omega
        have wl : IntKind.i64.wrap (lz - 1) = ((left : Nat) : Int) := by rw [IntWalk.i64_in _ (by omega)]; omega
        have r24 := PA.out.good.1
        have KFr := Lib.hid (fun W => KF.out rr lz W r24)
        have HLZ := Lib.hid hlz
        have fl := fbA_len rr lz
        have STOP := Lib.hid (fun (h : fbOk rr lz = false) => PA.out.stop (.inr (by rw [hlz]; exact h)))
        have NEXT := Lib.hid (fun (h : fbOk rr lz = true) => PA.out.next (by rw [hlz]; exact h))
        rw [hlz] at NEXT
        have EL := Lib.hid (PA.out.len)
        have hlr := H.lt
        rw [hlz]
        clear hlz
        go_wp2_with (refine load_has rfl 27 _ rfl _ rfl ?_ 24 ?_ _ Try.underlying27 rfl ?_ ?_; rotate_left; (· (repeat (first | (with_reducible assumption) | ((with_reducible refine Has.box _ _ ?_ ?_) <;> (first | assumption | decide)) | (with_reducible refine Has.alloc ?_ _) | ((with_reducible refine Has.putOther ?_ _ _ ?_); rotate_left; omega; skip) | ((with_reducible refine Has.below ?_ ?_); rotate_left; assumption)))); (· kernel_rfl))
        refine (KFr.out _).mono ?_
        rintro e w2 ⟨rfl, b2⟩
        rw [row_ints]
        have HX := Has.box w2 36 fl (by omega)
        have GUo := Lib.hid (fun z hz => (World.ownsRow.lt (GU.out.below b2) z hz).2)
        replace H := (H.below b2).alloc (.cells (ints (fbA rr lz)).toArray 36)
        replace GU := Lib.hid ((GU.out.below b2).alloc (.cells (ints (fbA rr lz)).toArray 36))
        replace GB := Lib.hid ((GB.out.call b2).alloc (.cells (ints (fbA rr lz)).toArray 36))
        have hl2 := b2.size
        clear b2 KFr
        cases hf : fbOk rr lz with
        | false =>
          have EA := Lib.hid (STOP.out hf)
          clear hf NEXT STOP
          go_wp2_with (refine store_new rfl 36 _ _ rfl _ _ _ rfl _ rfl _ rfl rfl ?_ ?_ ?_; (· (first | assumption | rfl)); (· kernel_rfl))
          go_ret2
          exact ⟨_, by rw [E.out]; rfl, by rw [E1.out, E2.out, ← EA.out, EL.out, Nat.mul_div_cancel _ (by omega)]; exact GU.out.mono (by omega), GB.out⟩
        | true =>
          obtain ⟨j, hj, hfa, _, _, pn⟩ := NEXT.out hf
          have PN := Lib.hid pn
          have hok := (up_ok PA.out.good j hj).1
          rw [hfa] at fl HX H GU GB ⊢
          obtain ⟨x, hx⟩ : ∃ x, upX rr j = x := ⟨_, rfl⟩
          obtain ⟨y, hy⟩ : ∃ y, upY rr j = y := ⟨_, rfl⟩
          have EX : Hid (nxR rr j = pourR rr x y) := Lib.hid (by unfold nxR; rw [hx, hy])
          rw [hx, hy] at HX H GU GB PN hok ⊢
          obtain ⟨R, hR⟩ : ∃ R, nxR rr j = R := ⟨_, rfl⟩
          rw [hR] at PN EX
          have R24 := PN.out.good.1
          have KPr := Lib.hid (fun W => KP.out rr x y W r24)
          rw [← EX.out, hok] at KPr
          clear hf NEXT STOP hfa hj hx hy hR pn hok EX fl
          go_upto_region 9 with (refine store_new rfl 36 _ _ rfl _ _ _ rfl _ rfl _ rfl rfl ?_ ?_ ?_; (· (first | assumption | rfl)); (· kernel_rfl))
          obtain ⟨xb, hxb⟩ : ∃ xb, w2.heap.size = xb := ⟨_, rfl⟩
          rw [hxb] at HX hl2 GUo ⊢
          generalize w2.alloc (.cells (ints [x, y]).toArray 36) = W3 at *
          clear hxb
          have XU : Hid (∀ z, u6.ownBlock = some z → z ≠ xb) := Lib.hid (fun z hz => by have := GUo.out z hz; omega)
          have RP := Lib.hid (range_two (HX.cellXg (k := 0) (x := x) (by omega) rfl) (HX.cellXg (k := 1) (x := y) (by omega) rfl))
          have hbs := GB.out.size
          have hHl := H.lt
          go_upto_region 10 with (first | (refine wpList_load_mid rfl 36 _ rfl xb 0 rfl [.int .i64 x, .int .i64 y] _ RP.out Try.underlying36 rfl (by kernel_rfl) ?_) | (at_builtin; refine wpList_append_lies _ rfl _ _ 32 rfl (w.heap.size + 1) 36 i0 (.agg #[.int .i64 0, .int .i64 0]) 2 16 Try.underlying32 hi hz0 hz1 hz2 rfl (by decide) _ k (ints acc) rfl (World.ownsRow.alloc GU.out _) ⟨W3.heap.size, 0, none⟩ 1 1 [.int .i64 x, .int .i64 y] rfl rfl (cell_two_new _ _ _ _) (fun z hz => by simp at hz; rcases hz with rfl | rfl <;> rfl) (by decide) (by unfold maxLen; omega) (by omega) (by simp; omega) _ rfl ?_; intro g' cap' w6 hown' hgrow3 hlie hlt3))
          obtain ⟨A2, A3⟩ := prs_app GU.out GB.out (Nat.le_refl _) hown' hgrow3
          have A1 := (H.alloc (.cells #[.int .i64 x, .int .i64 y] 36)).grown hgrow3 (Prs.own GU.out)
          have OWN := Lib.hid (fun z hz => World.ownsRow.lt GU.out z hz)
          have AX := (HX.alloc (.cells #[.int .i64 x, .int .i64 y] 36)).grownNo hgrow3 (fun e => XU.out xb e.symm rfl)
          have c0 := AX.cellXg (k := 0) (x := x) (by omega) rfl
          have c1 := AX.cellXg (k := 1) (x := y) (by omega) rfl
          have B2 := Lib.hid A2
          have B3 : Hid (Kept w w6) := Lib.hid A3
          clear hown' hgrow3 hlie hlt3 A2 A3 GU GB H RP OWN
          go_wp2_with (refine load_has rfl 27 _ rfl _ rfl ?_ 24 ?_ _ Try.underlying27 rfl ?_ ?_; rotate_left; (· (repeat (first | (with_reducible assumption) | ((with_reducible refine Has.box _ _ ?_ ?_) <;> (first | assumption | decide)) | (with_reducible refine Has.alloc ?_ _) | ((with_reducible refine Has.putOther ?_ _ _ ?_); rotate_left; omega; skip) | ((with_reducible refine Has.below ?_ ?_); rotate_left; assumption)))); (· kernel_rfl))
          refine (KPr.out _).mono ?_
          rintro e w7 ⟨rfl, b7⟩
          have A7 := A1.below b7
          have S7 := A7.putAll R R24
          have B7 := Lib.hid (Prs.putRack (B2.out.below b7) w.heap.size 0 (ints R) (by omega))
          have K7 := Lib.hid ((B3.out.call b7).puts (b := w.heap.size) (Nat.le_refl _) 0 (ints R))
          clear B2 B3 b7 AX A1 c0 c1
          generalize pourA rr x y = pa at *
          go_wp2_with (refine store_at rfl 27 _ _ rfl _ R rfl rfl rr 24 A7 R24 ?_ ?_; (· kernel_rfl))
          go_roundw
          case rel => exact ⟨left, k + 1, R, _, by go_num, PN, S7, B7, K7⟩
          case measure => have h9 := HLZ.out; simp [intOf]; omega
end Go.Proofs.Ytnldnjnnjfbhnab.base
end

section
namespace Go.Proofs.Ytnldnjnnjfbhnab.base
open Go.ChangeShapes Go.WideShapes Go.ChangeAt Go.RowKit
set_option linter.unusedVariables false
set_option linter.unusedSimpArgs false

theorem fb_of {r : List Int} (G : GR r) {m : Nat} (hm : m ≤ 2) : bpOk r ((m + 1 : Nat) : Int) = true ∧ bpNA ptT 0 r ((m + 1 : Nat) : Int) = bpN ptT (gval ptT 0 m) r (gval ptT 0 (m + 1) r) (usefNA r) ∧ bpFA ptT 0 r ((m + 1 : Nat) : Int) = bpF ptT (gval ptT 0 m) r (gval ptT 0 (m + 1) r) (usefNA r) := by
  have h : bpOk r ((m + 1 : Nat) : Int) = true := by
    unfold bpOk gmOk
    rw [G.2, decide_eq_true (show 0 ≤ ((m + 1 : Nat) : Int) ∧ ((m + 1 : Nat) : Int) ≤ 3 by omega), decide_eq_true (show ((m + 1 : Nat) : Int) ≠ 0 by omega)]; rfl
  refine ⟨h, ?_, ?_⟩
  · unfold bpNA; rw [if_pos h, Int.toNat_natCast, Nat.add_sub_cancel]
  · unfold bpFA; rw [if_pos h, Int.toNat_natCast, Nat.add_sub_cancel]

set_option maxHeartbeats 6400000 in
set_option maxRecDepth 100000 in
theorem specBestParty (r : List Int) (n : Int) (w : World) (h24 : r.length = 24) :
    Calls Try.prog 9 #[row r, .int .i64 n] w (PaPost r n w) := by
  obtain ⟨i0, hi, hz0, hz1, hz2⟩ := info_parts infoPair
  have HB := Lib.hid (((kept_refl w).alloc (.cells (ints r).toArray 27)).alloc (.cells #[] 36))
  have H := (Has.box w 27 h24 (by omega)).alloc (.cells #[] 36)
  have P0 := Lib.hid (by have := Prs.none (w.alloc (.cells (ints r).toArray 27)) (w.heap.size + 1) (by simp); rwa [size1] at this)
  have EF : Hid (paFA r n = if gmOk r n = true then paF n.toNat r else []) := Lib.hid rfl
  have EN : Hid (paNA r n = if gmOk r n = true then paN n.toNat r else 0) := Lib.hid rfl
  have EO : Hid (gmOk r n = (vR r && decide (0 ≤ n ∧ n ≤ 3))) := Lib.hid rfl
  have hi0 : (Try.prog.info? 27).map (·.size) = some 24 := by kernel_rfl
  have KB := Lib.hid (fun x m W (gx : GR x) (hm : m ≤ 2) => l10Best_any x m W gx.1 gx.2 hm)
  rw [row_ints]
  go_enter Try.func9, Try.ntmps9
  go_wp2_with (refine load_has rfl 27 _ rfl _ rfl ?_ 24 ?_ _ Try.underlying27 rfl ?_ ?_; rotate_left; (· (repeat (first | (with_reducible assumption) | ((with_reducible refine Has.box _ _ ?_ ?_) <;> (first | assumption | decide)) | (with_reducible refine Has.alloc ?_ _) | ((with_reducible refine Has.putOther ?_ _ _ ?_); rotate_left; omega; skip) | ((with_reducible refine Has.below ?_ ?_); rotate_left; assumption)))); (· kernel_rfl))
  refine (l2Rack_any r _ h24).mono ?_
  rintro e w1 ⟨rfl, b1⟩
  replace H := H.below b1
  replace HB := Lib.hid (HB.out.call b1)
  replace P0 := Lib.hid (P0.out.below b1)
  clear b1
  cases hv : vR r with
  | false =>
    have E := Lib.hid (show gmOk r n = false by rw [EO.out, hv]; rfl)
    have E1 := Lib.hid (show paNA r n = 0 ∧ paFA r n = [] from ⟨by rw [EN.out, if_neg (by rw [E.out]; simp)], by rw [EF.out, if_neg (by rw [E.out]; simp)]⟩)
    clear hv
    go_wp2_with fail
    go_ret2
    exact ⟨_, by rw [E.out]; rfl, by rw [E1.out.1, E1.out.2]; exact P0.out.mono (by omega), HB.out⟩
  | true =>
    have EH := Lib.hid hv
    go_wp2_with fail
    refine (l1In_anyG n 0 3 _).mono ?_
    rintro e w2 ⟨rfl, rfl⟩
    by_cases hn : 0 ≤ n ∧ n ≤ 3
    rotate_left
    · rw [decide_eq_false hn]
      have E := Lib.hid (show gmOk r n = false by rw [EO.out, EH.out, decide_eq_false hn]; rfl)
      have E1 := Lib.hid (show paNA r n = 0 ∧ paFA r n = [] from ⟨by rw [EN.out, if_neg (by rw [E.out]; simp)], by rw [EF.out, if_neg (by rw [E.out]; simp)]⟩)
      clear hn hv
      go_wp2_with fail
      go_ret2
      exact ⟨_, by rw [E.out]; rfl, by rw [E1.out.1, E1.out.2]; exact P0.out.mono (by omega), HB.out⟩
    rw [decide_eq_true hn]
    have E := Lib.hid (show gmOk r n = true by rw [EO.out, EH.out, decide_eq_true hn]; rfl)
    obtain ⟨N, hN⟩ : ∃ N : Nat, n = (N : Int) := ⟨n.toNat, by omega⟩
    have E1 := Lib.hid (show paFA r n = paF N r by rw [EF.out, if_pos E.out, hN, Int.toNat_natCast])
    have E2 := Lib.hid (show paNA r n = (paF N r).length / 2 by rw [EN.out, if_pos E.out, hN, Int.toNat_natCast]; rfl)
    have PA := Lib.hid (Pa.first (r := r) (n := N) ⟨h24, hv⟩ (by omega))
    clear hv EF EN EO hn h24 EH
    subst hN
    obtain ⟨F, hF⟩ : ∃ F, paF N r = F := ⟨_, rfl⟩
    rw [hF] at PA E1 E2
    clear hF
    go_wp2_with fail
    go_loopw [1, 6] (fun z u wr => ∃ (left k : Nat) (rr acc : List Int), z = .int .i64 (left : Nat) ∧ Hid (Pa F left rr acc k) ∧ Has wr w.heap.size rr 24 ∧ Hid (Prs wr (w.heap.size + 1) u k acc) ∧ Hid (Kept w wr)) (fun z _ _ => (intOf z).toNat)
    case atStart => exact ⟨N, 0, r, [], rfl, PA, H, P0, HB⟩
    case round =>
      clear PA H P0 HB
      obtain ⟨left, k, rr, acc, rfl, PA, H, GU, GB⟩ := hrel
      have hk3 := PA.out.k3
      cases left with
      | zero =>
        have EA := Lib.hid (PA.out.stop (.inl rfl))
        have EL := Lib.hid (PA.out.len)
        go_wp2_with fail
        go_ret2
        exact ⟨_, by rw [E.out]; rfl, by rw [E1.out, E2.out, ← EA.out, EL.out, Nat.mul_div_cancel _ (by omega)]; exact GU.out.mono (by omega), GB.out⟩
      | succ left =>
        obtain ⟨hb1, hb2, hb3⟩ := fb_of PA.out.good (m := left) (by omega)
        have KBr := Lib.hid (fun W => KB.out rr left W PA.out.good (by omega))
        rw [← hb2, ← hb3] at KBr
        have HB1 := Lib.hid hb1
        obtain ⟨lz, hlz⟩ : ∃ lz : Int, ((left + 1 : Nat) : Int) = lz := ⟨_, rfl⟩
        have l0 : 0 < lz := by omega
        have wl : IntKind.i64.wrap (lz - 1) = ((left : Nat) : Int) := by rw [IntWalk.i64_in _ (by omega)]; omega
        have HLZ := Lib.hid hlz
        have gG := PA.out.good
        have STOP := Lib.hid (fun (h : fbOk rr lz = false) => PA.out.stop (.inr (by rw [hlz]; exact h)))
        have NEXT := Lib.hid (fun (h : fbOk rr lz = true) => PA.out.next (by rw [hlz]; exact h))
        have EO2 : Hid (fbOk rr lz = (bpOk rr lz && decide (bpNA ptT 0 rr lz ≠ 0))) := Lib.hid rfl
        have EX : Hid (fbX rr lz = (bpFA ptT 0 rr lz).getD 0 0 ∧ fbY rr lz = (bpFA ptT 0 rr lz).getD 1 0) := Lib.hid ⟨rfl, rfl⟩
        have hN30 := bpNA_le ptT 0 rr lz
        rw [hlz] at NEXT KBr HB1
        have EL := Lib.hid (PA.out.len)
        have C24 := Lib.hid gG.1
        have CV := Lib.hid gG.2
        have hi1 : (Try.prog.info? 27).map (·.size) = some (ints rr).length := by rw [ints_len, gG.1]; exact hi0
        rw [hlz]
        clear hlz hb1 hb2 hb3
        have hlr := H.lt
        go_wp2_with (refine load_has rfl 27 _ rfl _ rfl ?_ 24 ?_ _ Try.underlying27 rfl ?_ ?_; rotate_left; (· (repeat (first | (with_reducible assumption) | ((with_reducible refine Has.box _ _ ?_ ?_) <;> (first | assumption | decide)) | (with_reducible refine Has.alloc ?_ _) | ((with_reducible refine Has.putOther ?_ _ _ ?_); rotate_left; omega; skip) | ((with_reducible refine Has.below ?_ ?_); rotate_left; assumption)))); (· kernel_rfl))
        refine (KBr.out _).mono ?_
        rintro e w2 ⟨v, rfl, q2, b2⟩
        obtain ⟨va, vc, rfl⟩ := q2.rw.shape
        have R0 := Lib.hid ((q2.mono (b' := 0) (Nat.zero_le _)).rw)
        have AP := Lib.hid (show ∀ z, u6.ownBlock = some z → (Value.slice va (bpNA ptT 0 rr lz) vc).ownBlock ≠ some z from fun z hz e => by
          have h1 := (q2.own z e)
          have h2 := (World.ownsRow.lt GU.out z hz).2
          omega)
        replace H := H.below b2
        replace GU := Lib.hid (GU.out.below b2)
        replace GB := Lib.hid (GB.out.call b2)
        clear q2 b2 KBr
        by_cases hz : bpNA ptT 0 rr lz = 0
        · have EA := Lib.hid (STOP.out (by rw [EO2.out, hz]; simp))
          rw [hz]
          clear hz NEXT STOP R0 AP
          go_wp2_with fail
          go_ret2
          exact ⟨_, by rw [E.out]; rfl, by rw [E1.out, E2.out, ← EA.out, EL.out, Nat.mul_div_cancel _ (by omega)]; exact GU.out.mono (by omega), GB.out⟩
        obtain ⟨j, hj, _, fx, fy, pn⟩ := NEXT.out (by rw [EO2.out, HB1.out, decide_eq_true hz]; rfl)
        have PN := Lib.hid pn
        obtain ⟨p, q, p6, q6, hne, hcn, _, hx, hy, hnx, _⟩ := up_natG gG j hj
        rw [EX.out.1, hx] at fx
        rw [EX.out.2, hy] at fy
        rw [hx, hy, hnx] at PN
        have n0 : ((bpNA ptT 0 rr lz : Int) == 0) = false := by simp; omega
        obtain ⟨M, hM⟩ : ∃ M, bpNA ptT 0 rr lz = M := ⟨_, rfl⟩
        rw [hM] at R0 AP n0 hz hN30 ⊢
        obtain ⟨BF, hBF⟩ : ∃ BF, bpFA ptT 0 rr lz = BF := ⟨_, rfl⟩
        rw [hBF] at R0 fx fy
        obtain ⟨gg, cap, he, _, hgl⟩ := R0.out.form (by omega)
        injection he with e1 _ e3
        subst e1
        subst e3
        have Mp : (0 : Int) < (M : Int) := by omega
        have Mp2 : 0 < M := by omega
        have C0 : Hid (∀ w', Kept w2 w' → w'.cell? ⟨gg, 0, none⟩ = some (.int .i64 (p : Int))) := Lib.hid (fun w' hw => (R0.out.below hw).cellX (by omega) fx)
        have C1 : Hid (∀ w', Kept w2 w' → w'.cell? ⟨gg, 1, none⟩ = some (.int .i64 (q : Int))) := Lib.hid (fun w' hw => (R0.out.below hw).cellX (by omega) fy)
        have D0 := Lib.hid (fun W (h : Kept w2 W) => range_two (C0.out W h) (C1.out W h))
        have R24 := PN.out.good.1
        have HNE := Lib.hid hne
        have HC := Lib.hid hcn
        obtain ⟨R, hR⟩ : ∃ R, pourT rr p q = R := ⟨_, rfl⟩
        rw [hR] at R24 PN
        have HR := Lib.hid hR
        have l2 : (ints R).length = 24 := by rw [ints_len]; exact R24
        have G1 := H
        have XU := Lib.hid (show ∀ z, u6.ownBlock = some z → z < w2.heap.size from fun z hz => (World.ownsRow.lt GU.out z hz).2)
        clear H hM hBF hj fx fy hx hy hnx hne hcn hR pn NEXT STOP EO2 EX gG hz
        go_wp2_with fail
        refine wp_region_held_drew (S := fun w' => Kept w2 w') (by kernel_rfl) ?_ (fun hHeld => ?_)
        · exact (kept_refl w2).drewN 1
        (refine wpAnyH_take (i := 1) (v := ?_) rfl (by kernel_rfl) (by kernel_rfl) (by kernel_rfl) (fun _ _ _ h => h) (Or.inl ⟨by rfl, ?_⟩) hHeld ?_; rotate_left; (· (intro w' hSw; go_simp; try with_reducible rfl)); (try simp only [List.getElem_toArray, List.getElem_cons_zero, List.getElem_cons_succ, Act.put, List.setIfInBounds_toArray, List.set_cons_zero, List.set_cons_succ])); (refine wpAnyH_take (i := 2) (v := ?_) rfl (by kernel_rfl) (by kernel_rfl) (by kernel_rfl) (fun _ _ _ h => h) (Or.inl ⟨by rfl, ?_⟩) hHeld ?_; rotate_left; (· (intro w' hSw; go_simp; try with_reducible rfl)); (try simp only [List.getElem_toArray, List.getElem_cons_zero, List.getElem_cons_succ, Act.put, List.setIfInBounds_toArray, List.set_cons_zero, List.set_cons_succ])); (refine wpAnyH_take (i := 3) (v := ?_) rfl (by kernel_rfl) (by kernel_rfl) (by kernel_rfl) (fun _ _ _ h => h) (Or.inl ⟨by rfl, ?_⟩) hHeld ?_; rotate_left; (· (intro w' hSw; go_simp; try with_reducible rfl)); (try simp only [List.getElem_toArray, List.getElem_cons_zero, List.getElem_cons_succ, Act.put, List.setIfInBounds_toArray, List.set_cons_zero, List.set_cons_succ])); (refine wpAnyH_take (i := 5) (v := ?_) rfl (by kernel_rfl) (by kernel_rfl) (by kernel_rfl) (fun _ _ _ h => h) (Or.inl ⟨by rfl, ?_⟩) hHeld ?_; rotate_left; (· (intro w' hSw; go_simp; try with_reducible rfl)); (try simp only [List.getElem_toArray, List.getElem_cons_zero, List.getElem_cons_succ, Act.put, List.setIfInBounds_toArray, List.set_cons_zero, List.set_cons_succ])); (refine wpAnyH_take (i := 6) (v := ?_) rfl (by kernel_rfl) (by kernel_rfl) (by kernel_rfl) (fun _ _ _ h => h) (Or.inl ⟨by rfl, ?_⟩) hHeld ?_; rotate_left; (· (intro w' hSw; go_simp; try with_reducible rfl)); (try simp only [List.getElem_toArray, List.getElem_cons_zero, List.getElem_cons_succ, Act.put, List.setIfInBounds_toArray, List.set_cons_zero, List.set_cons_succ])); (refine wpAnyH_take (i := 7) (v := ?_) rfl (by kernel_rfl) (by kernel_rfl) (by kernel_rfl) (fun _ _ _ h => h) (Or.inl ⟨by rfl, ?_⟩) hHeld ?_; rotate_left; (· (intro w' hSw; go_simp; try with_reducible rfl)); (try simp only [List.getElem_toArray, List.getElem_cons_zero, List.getElem_cons_succ, Act.put, List.setIfInBounds_toArray, List.set_cons_zero, List.set_cons_succ]))
        (refine wpAnyH_take (i := 0) (v := _) rfl (by kernel_rfl) (by kernel_rfl) (by kernel_rfl) (fun _ _ _ h => h) (yieldsIf_load_mid (by rfl) 27 _ rfl _ _ rfl (ints rr) _ (fun w' hSw => (G1.below hSw).holds.range) Try.underlying27 rfl (hi1)) hHeld ?_; (try simp only [List.getElem_toArray, List.getElem_cons_zero, List.getElem_cons_succ, Act.put, List.setIfInBounds_toArray, List.set_cons_zero, List.set_cons_succ]))
        refine wpAnyH_take (i := 4) (v := .int .i64 (p : Int)) rfl (by kernel_rfl) (by kernel_rfl) (by kernel_rfl) (fun _ _ _ h => h) (Or.inl ⟨by rfl, ?_⟩) hHeld ?_
        · intro w' hSw
          have cc := C0.out w' hSw
          go_simp
        (try simp only [List.getElem_toArray, List.getElem_cons_zero, List.getElem_cons_succ, Act.put, List.setIfInBounds_toArray, List.set_cons_zero, List.set_cons_succ])
        refine wpAnyH_take (i := 8) (v := .int .i64 (q : Int)) rfl (by kernel_rfl) (by kernel_rfl) (by kernel_rfl) (fun _ _ _ h => h) (Or.inl ⟨by rfl, ?_⟩) hHeld ?_
        · intro w' hSw
          have cc := C1.out w' hSw
          go_simp
        (try simp only [List.getElem_toArray, List.getElem_cons_zero, List.getElem_cons_succ, Act.put, List.setIfInBounds_toArray, List.set_cons_zero, List.set_cons_succ])
        refine wpAnyH_ready (rs := [9, 13]) (by kernel_rfl) (by simp) ?_
        refine AllReadyH.cons (o := _) rfl (fun K hK => ?callFirst) (AllReadyH.cons (o := _) rfl (fun K hK => ?makeFirst) AllReadyH.nil)
        case' callFirst =>
          (simp only [List.getElem_toArray, List.getElem_cons_zero, List.getElem_cons_succ, Region.wanted, if_true])
          go_simp
          refine (l2Pour_any rr p q _ C24.out CV.out p6 q6 HNE.out HC.out).mono ?_
          rintro e wp2 ⟨rfl, bp2⟩
          rw [HR.out]
          dsimp only
          (try simp only [List.getElem_toArray, List.getElem_cons_zero, List.getElem_cons_succ, Act.put, List.setIfInBounds_toArray, List.set_cons_zero, List.set_cons_succ])
          have KW := Kept.call hHeld bp2
          refine hK.out _ _ KW (fun hHeld => ?_)
          clear hK K bp2
          (refine wpAnyH_take (i := 10) (v := ?_) rfl (by kernel_rfl) (by kernel_rfl) (by kernel_rfl) (fun _ _ _ h => h) (Or.inl ⟨by rfl, ?_⟩) hHeld ?_; rotate_left; (· (intro w' hSw; go_simp; try with_reducible rfl)); (try simp only [List.getElem_toArray, List.getElem_cons_zero, List.getElem_cons_succ, Act.put, List.setIfInBounds_toArray, List.set_cons_zero, List.set_cons_succ])); (refine wpAnyH_take (i := 11) (v := ?_) rfl (by kernel_rfl) (by kernel_rfl) (by kernel_rfl) (fun _ _ _ h => h) (Or.inl ⟨by rfl, ?_⟩) hHeld ?_; rotate_left; (· (intro w' hSw; go_simp; try with_reducible rfl)); (try simp only [List.getElem_toArray, List.getElem_cons_zero, List.getElem_cons_succ, Act.put, List.setIfInBounds_toArray, List.set_cons_zero, List.set_cons_succ])); (refine wpAnyH_take (i := 12) (v := ?_) rfl (by kernel_rfl) (by kernel_rfl) (by kernel_rfl) (fun _ _ _ h => h) (Or.inl ⟨by rfl, ?_⟩) hHeld ?_; rotate_left; (· (intro w' hSw; go_simp; try with_reducible rfl)); (try simp only [List.getElem_toArray, List.getElem_cons_zero, List.getElem_cons_succ, Act.put, List.setIfInBounds_toArray, List.set_cons_zero, List.set_cons_succ]))
          (refine wpAnyH_ready (rs := [13]) (by kernel_rfl) (by simp) ?_; refine AllReadyH.cons (o := _) rfl (fun K hK => ?_) AllReadyH.nil; (simp only [List.getElem_toArray, List.getElem_cons_zero, List.getElem_cons_succ, Region.wanted, if_true]))
          go_simp
          have F9 := Has.zero24 wp2 27
          have h9 := KW.size
          replace KW := KW.alloc (.cells #[.int .i64 0, .int .i64 0, .int .i64 0, .int .i64 0, .int .i64 0, .int .i64 0, .int .i64 0, .int .i64 0, .int .i64 0, .int .i64 0, .int .i64 0, .int .i64 0, .int .i64 0, .int .i64 0, .int .i64 0, .int .i64 0, .int .i64 0, .int .i64 0, .int .i64 0, .int .i64 0, .int .i64 0, .int .i64 0, .int .i64 0, .int .i64 0] 27)
          refine hK.out _ _ KW (fun hHeld => ?_)
          clear hK K
          generalize wp2.alloc (.cells #[.int .i64 0, .int .i64 0, .int .i64 0, .int .i64 0, .int .i64 0, .int .i64 0, .int .i64 0, .int .i64 0, .int .i64 0, .int .i64 0, .int .i64 0, .int .i64 0, .int .i64 0, .int .i64 0, .int .i64 0, .int .i64 0, .int .i64 0, .int .i64 0, .int .i64 0, .int .i64 0, .int .i64 0, .int .i64 0, .int .i64 0, .int .i64 0] 27) = wp3 at *
          generalize wp2.heap.size = b9 at *
        case' makeFirst =>
          (simp only [List.getElem_toArray, List.getElem_cons_zero, List.getElem_cons_succ, Region.wanted, if_true])
          go_simp
          have F9 : Has _ w2.heap.size z24 24 := Has.zero24 w2.drew 27
          have KW := Kept.alloc hHeld (.cells #[.int .i64 0, .int .i64 0, .int .i64 0, .int .i64 0, .int .i64 0, .int .i64 0, .int .i64 0, .int .i64 0, .int .i64 0, .int .i64 0, .int .i64 0, .int .i64 0, .int .i64 0, .int .i64 0, .int .i64 0, .int .i64 0, .int .i64 0, .int .i64 0, .int .i64 0, .int .i64 0, .int .i64 0, .int .i64 0, .int .i64 0, .int .i64 0] 27)
          obtain ⟨b9, hb9⟩ : ∃ b : Nat, b = w2.heap.size := ⟨_, rfl⟩
          have h9 : w2.heap.size ≤ b9 := by omega
          rw [← hb9] at F9
          refine hK.out _ _ KW (fun hHeld => ?_)
          clear hK K
          (refine wpAnyH_ready (rs := [9]) (by kernel_rfl) (by simp) ?_; refine AllReadyH.cons (o := _) rfl (fun K hK => ?_) AllReadyH.nil; (simp only [List.getElem_toArray, List.getElem_cons_zero, List.getElem_cons_succ, Region.wanted, if_true]))
          go_simp
          refine (l2Pour_any rr p q _ C24.out CV.out p6 q6 HNE.out HC.out).mono ?_
          rintro e wp3 ⟨rfl, bp2⟩
          rw [HR.out]
          dsimp only
          (try simp only [List.getElem_toArray, List.getElem_cons_zero, List.getElem_cons_succ, Act.put, List.setIfInBounds_toArray, List.set_cons_zero, List.set_cons_succ])
          replace F9 := F9.below bp2
          replace KW := KW.call bp2
          refine hK.out _ _ KW (fun hHeld => ?_)
          clear hK K bp2
          (refine wpAnyH_take (i := 10) (v := ?_) rfl (by kernel_rfl) (by kernel_rfl) (by kernel_rfl) (fun _ _ _ h => h) (Or.inl ⟨by rfl, ?_⟩) hHeld ?_; rotate_left; (· (intro w' hSw; go_simp; try with_reducible rfl)); (try simp only [List.getElem_toArray, List.getElem_cons_zero, List.getElem_cons_succ, Act.put, List.setIfInBounds_toArray, List.set_cons_zero, List.set_cons_succ])); (refine wpAnyH_take (i := 11) (v := ?_) rfl (by kernel_rfl) (by kernel_rfl) (by kernel_rfl) (fun _ _ _ h => h) (Or.inl ⟨by rfl, ?_⟩) hHeld ?_; rotate_left; (· (intro w' hSw; go_simp; try with_reducible rfl)); (try simp only [List.getElem_toArray, List.getElem_cons_zero, List.getElem_cons_succ, Act.put, List.setIfInBounds_toArray, List.set_cons_zero, List.set_cons_succ])); (refine wpAnyH_take (i := 12) (v := ?_) rfl (by kernel_rfl) (by kernel_rfl) (by kernel_rfl) (fun _ _ _ h => h) (Or.inl ⟨by rfl, ?_⟩) hHeld ?_; rotate_left; (· (intro w' hSw; go_simp; try with_reducible rfl)); (try simp only [List.getElem_toArray, List.getElem_cons_zero, List.getElem_cons_succ, Act.put, List.setIfInBounds_toArray, List.set_cons_zero, List.set_cons_succ]))
          rw [← hb9]
          clear hb9
        all_goals
          (refine wpAnyH_ready (rs := [14]) (by kernel_rfl) (by simp) ?_; refine AllReadyH.cons (o := _) rfl (fun K hK => ?_) AllReadyH.nil; (simp only [List.getElem_toArray, List.getElem_cons_zero, List.getElem_cons_succ, Region.wanted, if_true]))
          refine wp_store_mid _ _ _ rfl _ _ (ints R).toArray rfl rfl (by simpa [l2] using F9.there) (by simpa [l2] using hi0) (all_oneCell_toArray (ints_one _)) ?_
          (try simp only [List.getElem_toArray, List.getElem_cons_zero, List.getElem_cons_succ, Act.put, List.setIfInBounds_toArray, List.set_cons_zero, List.set_cons_succ, List.toList_toArray])
          replace F9 := F9.putAll R R24
          replace KW := KW.puts (b := b9) h9 0 (ints R)
          refine hK.out _ _ KW (fun hHeld => ?_)
          clear hK K
          (refine wpAnyH_take (i := 15) (v := ?_) rfl (by kernel_rfl) (by kernel_rfl) (by kernel_rfl) (fun _ _ _ h => h) (Or.inl ⟨by rfl, ?_⟩) hHeld ?_; rotate_left; (· (intro w' hSw; go_simp; try with_reducible rfl)); (try simp only [List.getElem_toArray, List.getElem_cons_zero, List.getElem_cons_succ, Act.put, List.setIfInBounds_toArray, List.set_cons_zero, List.set_cons_succ]))
          refine wpAnyH_done (by kernel_rfl) ?_ _
          clear hHeld
          generalize wp3.setCells b9 0 (ints R) = wp4 at *
          replace G1 := G1.below KW
          replace GU := Lib.hid (GU.out.below KW)
          replace GB := Lib.hid (GB.out.call KW)
          have RP := Lib.hid (D0.out wp4 KW)
          clear KW C0 C1 D0 R0
          have hbs := GB.out.size
          have hHl := G1.lt
          go_upto_region 11 with (first | (refine wpList_load_mid rfl 36 _ rfl gg 0 rfl [.int .i64 (p : Int), .int .i64 (q : Int)] _ RP.out Try.underlying36 rfl (by kernel_rfl) ?_) | (at_builtin; refine wpList_append_lies _ rfl _ _ 32 rfl (w.heap.size + 1) 36 i0 (.agg #[.int .i64 0, .int .i64 0]) 2 16 Try.underlying32 hi hz0 hz1 hz2 rfl (by decide) _ k (ints acc) rfl (World.ownsRow.alloc GU.out _) ⟨wp4.heap.size, 0, none⟩ 1 1 [.int .i64 (p : Int), .int .i64 (q : Int)] rfl rfl (cell_two_new _ _ _ _) (fun z hz => by simp at hz; rcases hz with rfl | rfl <;> rfl) (by decide) (by unfold maxLen; omega) (by omega) (by simp; omega) _ rfl ?_; intro g' cap' w6 hown' hgrow3 hlie hlt3))
          obtain ⟨A2, A3⟩ := prs_app GU.out GB.out (Nat.le_refl _) hown' hgrow3
          have A1 := (G1.alloc (.cells #[.int .i64 (p : Int), .int .i64 (q : Int)] 36)).grown hgrow3 (Prs.own GU.out)
          have AX := (F9.alloc (.cells #[.int .i64 (p : Int), .int .i64 (q : Int)] 36)).grownNo hgrow3 (fun e => by have := XU.out b9 e.symm; omega)
          have S7 := A1.putAll R R24
          have B7 := Lib.hid (Prs.putRack A2 w.heap.size 0 (ints R) (by omega))
          have K7 : Hid (Kept w (w6.setCells w.heap.size 0 (ints R))) := Lib.hid (Kept.puts A3 (b := w.heap.size) (Nat.le_refl _) 0 (ints R))
          clear hown' hgrow3 hlie hlt3 A2 A3 GU GB G1 RP F9
          go_wp2_with (first | (refine load_has rfl 27 _ rfl _ rfl ?_ 24 ?_ _ Try.underlying27 rfl ?_ ?_; rotate_left; (· (repeat (first | (with_reducible assumption) | ((with_reducible refine Has.box _ _ ?_ ?_) <;> (first | assumption | decide)) | (with_reducible refine Has.alloc ?_ _) | ((with_reducible refine Has.putOther ?_ _ _ ?_); rotate_left; omega; skip) | ((with_reducible refine Has.below ?_ ?_); rotate_left; assumption)))); (· kernel_rfl)) | (refine store_at rfl 27 _ _ rfl _ R rfl rfl rr 24 A1 R24 ?_ ?_; (· kernel_rfl)))
          go_roundw
          case rel => exact ⟨left, k + 1, R, _, by go_num, PN, S7, B7, K7⟩
          case measure => have h9 := HLZ.out; simp [intOf]; omega

end Go.Proofs.Ytnldnjnnjfbhnab.base
end
