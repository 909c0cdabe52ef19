/-
  Pours that each rule allows, on the program's side, walked.
-/
import Derived.Test.YtcedpjjfcfeokabComM
import Derived.Test.YtcedpjjfcfeokabFilC
import Derived.Test.YtcedpjjfcfeokabByI
import Derived.Test.YtcedpjjfcfeokabOthW
import Derived.Test.YtcedpjjfcfeokabRwL
namespace Go.Proofs.Ytcedpjjfcfeokab.base
open Go.ChangeShapes Go.WideShapes Go.ChangeAt Go.RowKit
set_option linter.unusedVariables false
set_option linter.unusedSimpArgs false

def CtxP (c bp pn : Nat) (pf : List Int) (pv : Value) (W : World) : Prop := Bk W c [pv] 27 ∧ Rw W bp pv pn pf
theorem Has.low {w w' : World} {c b : Nat} {ns : List Int} {m : Nat} (H : Has w c ns m) (k : Below b w w') (hc : c < b) : Has w' c ns m := by
  have hb := k.block c hc
  refine ⟨⟨fun j v hv => (World.cell?_of_block (a := ⟨c, 0 + j, Option.none⟩) hb).trans (H.holds.range j v hv), fun j hj => ?_⟩, H.len, H.pos⟩
  have := H.holds.there j hj
  rw [World.cell?_of_block (w' := w') (w := w) (a := ⟨c, 0 + j, Option.none⟩) hb, World.frozen?_of_block (w' := w') (w := w) (a := ⟨c, 0 + j, Option.none⟩) hb]
  exact this

set_option maxHeartbeats 800000 in
theorem commonF_any (c bp pn : Nat) (pf : List Int) (pv : Value) (x y : Int) (W : World) (hn : pn ≤ 1000) (hC : CtxP c bp pn pf pv W) :
    Calls Try.prog 30 #[.agg (ints [x, y]).toArray, .pointer (some ⟨c, 0, none⟩)] W fun e w' => e = .returned (.bool (!hasP pf pn x y)) ∧ Kept W w' := by
  have B0 := Has.box (ns := [x, y]) (n := 2) W 50 rfl (by omega)
  have c0 := (hC.1.alloc (.cells (ints [x, y]).toArray 50)).cell 0 (v := pv) rfl
  have R0 := Lib.hid (hC.2.alloc (.cells (ints [x, y]).toArray 50))
  have K0 := Lib.hid ((kept_refl W).alloc (.cells (ints [x, y]).toArray 50))
  clear hC
  go_enter Try.func30, Try.ntmps30
  go_wp2_with (refine load_has rfl 50 _ rfl _ rfl ?_ 2 ?_ _ Try.underlying50 rfl ?_ ?_; rotate_left; (· (repeat (first | (with_reducible assumption) | ((with_reducible refine Has.box _ _ ?_ ?_) <;> (first | assumption | decide)) | (with_reducible refine Has.alloc ?_ _) | ((with_reducible refine Has.putOther ?_ _ _ ?_); rotate_left; omega; skip) | ((with_reducible refine Has.below ?_ ?_); rotate_left; assumption)))); (· kernel_rfl))
  refine (containsP_any pf x y bp pn pv _ hn R0.out).mono ?_
  rintro e w1 ⟨rfl, b1⟩
  have K1 := Lib.hid (K0.out.call b1)
  clear B0 c0 R0 K0 b1
  go_wp2_with fail
  go_ret
  exact ⟨rfl, K1.out⟩

def ComPost (ns ds : List Int) (w : World) (e : Ending) (w' : World) : Prop := ∃ v : Value, e = .returned (.tuple #[v, .bool (fitA ns ds)]) ∧ Rw w' w.heap.size v (coNA ns ds) (coFA ns ds) ∧ Kept w w'
theorem byOk_1 (ns ds : List Int) : byOk ns ds 1 = fitA ns ds := by unfold byOk; rw [show ruleV 1 = true from rfl, Bool.and_true]

set_option maxHeartbeats 1600000 in
set_option maxRecDepth 100000 in
theorem implCommon (ns ds : List Int) (w : World) (h24 : ns.length = 24) (h6 : ds.length = 6) :
    Calls Try.prog 11 #[row ns, row ds] w (ComPost ns ds w) := by
  have HB := Lib.hid (((kept_refl w).alloc (.cells (ints ns).toArray 30)).alloc (.cells (ints ds).toArray 26))
  have H := (Has.box w 30 h24 (by omega)).alloc (.cells (ints ds).toArray 26)
  have D := (Has.box (w.alloc (.cells (ints ns).toArray 30)) 26 h6 (by omega)).at (size1 _ _)
  rw [row_ints, row_ints]
  go_enter Try.func11, Try.ntmps11
  go_wp2_with (first | (refine load_has rfl 30 _ rfl _ rfl ?_ 24 ?_ _ Try.underlying30 rfl ?_ ?_; rotate_left; (· (repeat (first | (with_reducible assumption) | ((with_reducible refine Has.box _ _ ?_ ?_) <;> (first | assumption | decide)) | (with_reducible refine Has.alloc ?_ _) | ((with_reducible refine Has.putOther ?_ _ _ ?_); rotate_left; omega; skip) | ((with_reducible refine Has.below ?_ ?_); rotate_left; assumption)))); (· kernel_rfl)) | (refine load_has rfl 26 _ rfl _ rfl ?_ 6 ?_ _ Try.underlying26 rfl ?_ ?_; rotate_left; (· (repeat (first | (with_reducible assumption) | ((with_reducible refine Has.box _ _ ?_ ?_) <;> (first | assumption | decide)) | (with_reducible refine Has.alloc ?_ _) | ((with_reducible refine Has.putOther ?_ _ _ ?_); rotate_left; omega; skip) | ((with_reducible refine Has.below ?_ ?_); rotate_left; assumption)))); (· kernel_rfl)))
  refine (implPoursBy ns ds 1 _ h24 h6).mono ?_
  rintro e w1 ⟨v, rfl, q1, b1⟩
  have R1 := Lib.hid (q1.mono (b' := w.heap.size + 1 + 1) (by simp))
  replace H := H.below b1
  replace D := D.below b1
  replace HB := Lib.hid (HB.out.call b1)
  clear q1 b1
  rw [byOk_1]
  by_cases hf : fitA ns ds = true
  · have HF := Lib.hid hf
    have H24 := Lib.hid h24
    have H6 := Lib.hid h6
    have E1 := Lib.hid (show coNA ns ds = pN (coP ns ds 3) 36 by unfold coNA; rw [if_pos hf])
    have E2 := Lib.hid (show coFA ns ds = pF (coP ns ds 3) 36 by unfold coFA; rw [if_pos hf])
    have R2 : Hid (Rw w1 (w.heap.size + 1 + 1) v (pN (coP ns ds 0) 36) (pF (coP ns ds 0) 36)) := Lib.hid (by
      have a1 : byNA ns ds 1 = pN (byP ns ds 1) 36 := by unfold byNA; rw [byOk_1, if_pos hf]
      have a2 : byFA ns ds 1 = pF (byP ns ds 1) 36 := by unfold byFA; rw [byOk_1, if_pos hf]
      have := R1.out
      rw [a1, a2] at this
      exact this)
    rw [hf]
    clear R1 h24 h6 hf
    go_wp2_with fail
    go_loopw [6, 8] (fun v z wr => ∃ (r : Nat) (x : Int), r ≤ 3 ∧ Hid (x = (r : Int) + 2) ∧ z = .int .i64 x ∧ Has wr w.heap.size ns 24 ∧ Has wr (w.heap.size + 1) ds 6 ∧ Hid (Rw wr (w.heap.size + 1 + 1) v (pN (coP ns ds r) 36) (pF (coP ns ds r) 36)) ∧ Hid (Kept w wr)) (fun _ z _ => 5 - (intOf z).toNat)
    case atStart => exact ⟨0, 2, by omega, Lib.hid (by omega), rfl, H, D, R2, HB⟩
    case round =>
      obtain ⟨r, x, hr, HXR, rfl, GH, GD, GR, GB⟩ := hrel
      clear H D R2 HB
      by_cases h : r < 3
      · have hx4 : x ≤ 4 := by have := HXR.out; omega
        have hx1 : 1 ≤ x := by have := HXR.out; omega
        have hrv : ruleV x = true := decide_eq_true (by omega)
        have OK := Lib.hid (show byOk ns ds x = true by unfold byOk; rw [HF.out, hrv]; rfl)
        have a1 := Lib.hid (show byNA ns ds x = pN (byP ns ds x) 36 by unfold byNA; rw [if_pos OK.out])
        have a2 := Lib.hid (show byFA ns ds x = pF (byP ns ds x) 36 by unfold byFA; rw [if_pos OK.out])
        have hN := pN_le (coP ns ds r) 36
        have hM := byNA_le ns ds x
        have HX := Lib.hid (show ((r + 2 : Nat) : Int) = x by have := HXR.out; omega)
        clear hrv
        go_wp2_with (first | (refine load_has rfl 30 _ rfl _ rfl ?_ 24 ?_ _ Try.underlying30 rfl ?_ ?_; rotate_left; (· (repeat (first | (with_reducible assumption) | ((with_reducible refine Has.box _ _ ?_ ?_) <;> (first | assumption | decide)) | (with_reducible refine Has.alloc ?_ _) | ((with_reducible refine Has.putOther ?_ _ _ ?_); rotate_left; omega; skip) | ((with_reducible refine Has.below ?_ ?_); rotate_left; assumption)))); (· kernel_rfl)) | (refine load_has rfl 26 _ rfl _ rfl ?_ 6 ?_ _ Try.underlying26 rfl ?_ ?_; rotate_left; (· (repeat (first | (with_reducible assumption) | ((with_reducible refine Has.box _ _ ?_ ?_) <;> (first | assumption | decide)) | (with_reducible refine Has.alloc ?_ _) | ((with_reducible refine Has.putOther ?_ _ _ ?_); rotate_left; omega; skip) | ((with_reducible refine Has.below ?_ ?_); rotate_left; assumption)))); (· kernel_rfl)))
        refine (implPoursBy ns ds x _ H24.out H6.out).mono ?_
        rintro e w2 ⟨pv, rfl, q2, b2⟩
        obtain ⟨pa, pcap, hpv⟩ := q2.shape
        subst hpv
        have hll := GD.lt
        have OW := Lib.hid (fun hn k hk => (GR.out.ownlt hn k hk).2)
        have hs2 := b2.size
        have C0 : Hid (CtxP w2.heap.size wr.heap.size (byNA ns ds x) (byFA ns ds x) (.slice pa (byNA ns ds x) pcap) (w2.alloc (.cells #[.slice pa (byNA ns ds x) pcap] 27))) := Lib.hid ⟨Bk.box w2 [.slice pa (byNA ns ds x) pcap] 27, q2.alloc _⟩
        have PO := Lib.hid (fun hn k hk => (q2.ownlt hn k hk).1)
        replace GH := (GH.below b2).alloc (.cells #[.slice pa (byNA ns ds x) pcap] 27)
        replace GD := (GD.below b2).alloc (.cells #[.slice pa (byNA ns ds x) pcap] 27)
        replace GR := Lib.hid ((GR.out.below b2).alloc (.cells #[.slice pa (byNA ns ds x) pcap] 27))
        replace GB := Lib.hid ((GB.out.call b2).alloc (.cells #[.slice pa (byNA ns ds x) pcap] 27))
        have KF : Hid (KeepsC (CtxP w2.heap.size wr.heap.size (byNA ns ds x) (byFA ns ds x) (.slice pa (byNA ns ds x) pcap)) w2.heap.size (pF (coP ns ds r) 36) (hasP (byFA ns ds x) (byNA ns ds x)) (pN (coP ns ds r) 36)) :=
          Lib.hid (fun j hj W hC => commonF_any _ _ _ _ _ _ _ W (by omega) hC)
        have CB : Hid (∀ W W', CtxP w2.heap.size wr.heap.size (byNA ns ds x) (byFA ns ds x) (.slice pa (byNA ns ds x) pcap) W → Below W.heap.size W W' → CtxP w2.heap.size wr.heap.size (byNA ns ds x) (byFA ns ds x) (.slice pa (byNA ns ds x) pcap) W') :=
          Lib.hid (fun W W' hC k => ⟨hC.1.below k, hC.2.below k⟩)
        have CP : Hid (0 < pN (coP ns ds r) 36 → ∀ (W : World) (g o : Nat) (us : List Value), u6.ownBlock = some g → CtxP w2.heap.size wr.heap.size (byNA ns ds x) (byFA ns ds x) (.slice pa (byNA ns ds x) pcap) W → CtxP w2.heap.size wr.heap.size (byNA ns ds x) (byFA ns ds x) (.slice pa (byNA ns ds x) pcap) (W.setCells g o us)) :=
          Lib.hid (fun hn W g o us hg hC => by
            have l1 := OW.out hn g hg
            refine ⟨hC.1.putOther o us (by omega), hC.2.puts g o us (fun hm e => ?_)⟩
            have := PO.out hm g e
            omega)
        have hw3 : w.heap.size + 1 + 1 ≤ (w2.alloc (.cells #[.slice pa (byNA ns ds x) pcap] 27)).heap.size := by rw [size1]; omega
        clear b2 q2 OW PO hll hs2
        go_wp2_with fail
        generalize w2.alloc (.cells #[.slice pa (byNA ns ds x) pcap] 27) = W3 at *
        refine (deleteKeepC_any (CtxP w2.heap.size wr.heap.size (byNA ns ds x) (byFA ns ds x) (.slice pa (byNA ns ds x) pcap)) w2.heap.size (pF (coP ns ds r) 36) (hasP (byFA ns ds x) (byNA ns ds x)) (w.heap.size + 1 + 1) (pN (coP ns ds r) 36) u6 W3 (by omega) hw3 KF.out CB.out CP.out C0.out GR.out).mono ?_
        rintro e w4 ⟨v', rfl, r4, b4⟩
        have R4 : Hid (Rw w4 (w.heap.size + 1 + 1) v' (pN (coP ns ds (r + 1)) 36) (pF (coP ns ds (r + 1)) 36)) := Lib.hid (by
          rw [filtN_pN, filt_pF] at r4
          have ex : ∀ p q, p < 6 → q < 6 → (coP ns ds r p q && hasP (byFA ns ds x) (byNA ns ds x) (p : Int) (q : Int)) = coP ns ds (r + 1) p q := fun p q hp hq => by
            rw [a1.out, a2.out, has_pF36 _ p q hp hq]
            show _ = (coP ns ds r p q && byP ns ds ((r + 2 : Nat) : Int) p q)
            rw [HX.out]
          rw [pF_ext ex 36 (Nat.le_refl _), pN_ext ex] at r4
          exact r4)
        replace GH := GH.low b4 (by omega)
        replace GD := GD.low b4 (by omega)
        replace GB : Hid (Kept w w4) := Lib.hid (Below.trans GB.out (b4.mono (by omega)))
        clear r4 b4 KF CB CP C0 GR
        go_wp2_with fail
        go_roundw
        case rel => exact ⟨r + 1, x + 1, by omega, Lib.hid (by have := HXR.out; omega), rfl, GH, GD, R4, GB⟩
        case measure => simp [intOf]; omega
      · obtain rfl : r = 3 := by omega
        have hx5 : ¬ x ≤ 4 := by have := HXR.out; omega
        go_wp2_with fail
        go_ret2
        exact ⟨_, by rw [HF.out]; rfl, by rw [E1.out, E2.out]; exact GR.out.mono (by omega), GB.out⟩
  · have hff : fitA ns ds = false := by simpa using hf
    have E1 := Lib.hid (show coNA ns ds = 0 by unfold coNA; rw [hff]; rfl)
    have E2 := Lib.hid (show coFA ns ds = [] by unfold coFA; rw [hff]; rfl)
    have HF := Lib.hid hff
    rw [hff]
    clear hf hff R1
    go_wp2_with fail
    go_ret2
    exact ⟨_, by rw [HF.out]; rfl, by rw [E1.out, E2.out]; exact ⟨rfl, .inl ⟨rfl, _, _, rfl⟩⟩, HB.out.alloc _⟩
end Go.Proofs.Ytcedpjjfcfeokab.base
