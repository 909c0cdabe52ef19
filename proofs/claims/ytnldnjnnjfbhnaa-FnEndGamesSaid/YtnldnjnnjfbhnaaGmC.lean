/-
  Games on the program's side, walked: replies.
-/
import Derived.Test.YtnldnjnnjfbhnaaGmWZ
namespace Go.Proofs.Ytnldnjnnjfbhnaa.base
open Go.ChangeShapes Go.WideShapes Go.ChangeAt Go.RowKit
set_option linter.unusedVariables false
set_option linter.unusedSimpArgs false

theorem use_no {ns : List Int} (h : vR ns = false) : usefNA ns = 0 := by unfold usefNA; rw [if_neg (by rw [h]; simp)]
def HurPost (ns : List Int) (w : World) (e : Ending) (w' : World) : Prop := ∃ v : Value, e = .returned (.tuple #[v, .bool (vR ns)]) ∧ Prs w' w.heap.size v (hurN ns (usefNA ns)) (hurF ns (usefNA ns)) ∧ Kept w w'
def RepPost (ns : List Int) (w : World) (e : Ending) (w' : World) : Prop := ∃ v : Value, e = .returned (.tuple #[v, .bool (vR ns)]) ∧ Nu w' w.heap.size v (usefNA ns) (replF ns (usefNA ns)) ∧ Kept w w'

set_option maxHeartbeats 3200000 in
set_option maxRecDepth 100000 in
theorem implReplies (ns : List Int) (w : World) (h24 : ns.length = 24) :
    Calls Try.prog 14 #[row ns] w (RepPost ns w) := by
  obtain ⟨i0, hi, hz0, hz1, hz2⟩ := infoN_parts infoN
  have HB := Lib.hid (((kept_refl w).alloc (.cells (ints ns).toArray 27)).alloc (.cells #[] 3))
  have H := (Has.box w 27 h24 (by omega)).alloc (.cells #[] 3)
  have P0 := Lib.hid (by have := nu_none0 (w.alloc (.cells (ints ns).toArray 27)) (w.heap.size) (by simp); rwa [size1] at this)
  have N30 := use30 ns
  rw [row_ints]
  go_enter Try.func14, Try.ntmps14
  go_wp2_with (refine load_has rfl 27 _ rfl _ rfl ?_ 24 ?_ _ Try.underlying27 rfl ?_ ?_; rotate_left; (· (repeat (first | (with_reducible assumption) | ((with_reducible refine Has.box _ _ ?_ ?_) <;> (first | assumption | decide)) | (with_reducible refine Has.alloc ?_ _) | ((with_reducible refine Has.putOther ?_ _ _ ?_); rotate_left; omega; skip) | ((with_reducible refine Has.below ?_ ?_); rotate_left; assumption)))); (· kernel_rfl))
  refine (isRack_any ns _ h24).mono ?_
  rintro e w1 ⟨rfl, b1⟩
  have hs1 := b1.size
  simp only [size1] at hs1
  replace H := H.below b1
  replace HB := Lib.hid (HB.out.call b1)
  replace P0 := Lib.hid (P0.out.below b1)
  clear b1
  by_cases hv : vR ns = true
  rotate_left
  · have hf : vR ns = false := by simpa using hv
    have E := Lib.hid hf
    have Z := Lib.hid (use_no hf)
    rw [hf]
    clear hf hv
    go_wp2_with fail
    go_ret2
    exact ⟨_, by rw [E.out]; rfl, by rw [Z.out]; skip; exact P0.out, HB.out⟩
  rw [hv]
  have E := Lib.hid hv
  have G : GR ns := ⟨h24, hv⟩
  have KT := Lib.hid (fun W => turnsOf_any ns W G)
  have NG := Lib.hid (fun k hk => nx_good G k hk)
  have T26 := Lib.hid (fun k => trn_len h24 k)
  clear h24 hv G
  go_wp2_with (refine load_has rfl 27 _ rfl _ rfl ?_ 24 ?_ _ Try.underlying27 rfl ?_ ?_; rotate_left; (· (repeat (first | (with_reducible assumption) | ((with_reducible refine Has.box _ _ ?_ ?_) <;> (first | assumption | decide)) | (with_reducible refine Has.alloc ?_ _) | ((with_reducible refine Has.putOther ?_ _ _ ?_); rotate_left; omega; skip) | ((with_reducible refine Has.below ?_ ?_); rotate_left; assumption)))); (· kernel_rfl))
  refine (KT.out _).mono ?_
  rintro e w2 ⟨v, rfl, q2, b2⟩
  obtain ⟨a0, cap0, rfl⟩ := q2.shape
  replace HB := Lib.hid (HB.out.call b2)
  have P1 := Lib.hid (P0.out.below b2)
  have GT := Lib.hid (q2.mono (b' := 0) (Nat.zero_le _))
  have AP : Hid (∀ z, (Value.slice (some ⟨w.heap.size + 1, 0, none⟩) 0 0).ownBlock = some z → (Value.slice a0 (trL ns (usefNA ns)).length cap0).ownBlock ≠ some z) := Lib.hid (fun z hz e => by
    have h1 := (q2.own z e).1
    have h2 := Option.some.inj (show some (w.heap.size + 1) = some z from hz)
    omega)
  clear q2 b2 H KT P0
  obtain ⟨N, hN⟩ : ∃ N, usefNA ns = N := ⟨_, rfl⟩
  have HN := Lib.hid hN
  rw [trL_len] at GT AP ⊢
  rw [hN] at GT AP NG N30 ⊢
  clear hN
  go_wp2_with fail
  go_loopw [4, 15] (fun u i wr => ∃ k : Nat, k ≤ N ∧ i = .int .i64 k ∧ Hid (Nu wr w.heap.size u k (replF ns k)) ∧ Hid (Gr wr 0 67 26 (.slice a0 N cap0) (trL ns N)) ∧ Hid (∀ z, u.ownBlock = some z → (Value.slice a0 N cap0).ownBlock ≠ some z) ∧ Hid (Kept w wr)) (fun _ z _ => N - (intOf z).toNat)
  case atStart => exact ⟨0, by omega, rfl, P1, GT, AP, HB⟩
  case round =>
    clear P1 GT AP HB
    obtain ⟨k, hk, rfl, GU, GT, GA, GB⟩ := hrel
    by_cases hkN : k < N
    · have hki : (k : Int) < (N : Int) := by omega
      have hk0 : (0 : Int) ≤ (k : Int) := by omega
      obtain ⟨g, cap, he, _, hgl⟩ := GT.out.form (by rw [trL_len]; omega)
      rw [trL_len] at he
      injection he with e1 _ e3
      subst e1
      subst e3
      have RG := Lib.hid (GT.out.range (trL_len ns N).symm k hkN)
      rw [trL_get ns hkN] at RG
      have gx := NG.out k hkN
      have l26 := T26.out k
      have ET : trn ns k = upX ns k :: upY ns k :: nxR ns k := rfl
      rw [ET] at RG l26
      clear ET
      have KC := Lib.hid (fun W => turnsOf_any (nxR ns k) W gx)
      have EY := Lib.hid (replF_succ ns k)
      have N30b := use30 (nxR ns k)
      obtain ⟨x, hx⟩ : ∃ x, upX ns k = x := ⟨_, rfl⟩
      obtain ⟨y, hy⟩ : ∃ y, upY ns k = y := ⟨_, rfl⟩
      obtain ⟨t, ht⟩ : ∃ t, nxR ns k = t := ⟨_, rfl⟩
      rw [hx, hy, ht] at RG l26
      rw [ht] at gx KC EY N30b
      clear hx hy ht
      have g24 := gx.1
      have HX := Has.box wr 67 l26 (by omega)
      have l26i : (ints (x :: y :: t)).length = 26 := by rw [ints_len]; exact l26
      have EW := trn_rack x y t g24
      replace GU := Lib.hid (GU.out.alloc (.cells (ints (x :: y :: t)).toArray 67))
      replace GT := Lib.hid (GT.out.alloc (.cells (ints (x :: y :: t)).toArray 67))
      replace GB := Lib.hid (GB.out.alloc (.cells (ints (x :: y :: t)).toArray 67))
      go_wp2_with (first | (refine wpList_load_mid rfl 67 _ rfl g (k * 26) rfl (ints (x :: y :: t)) _ RG.out Try.underlying67 rfl (by rw [l26i]; kernel_rfl) ?_) | (refine store_new rfl 67 _ _ rfl _ _ _ rfl _ rfl _ rfl rfl ?_ ?_ ?_; (· (first | assumption | rfl)); (· kernel_rfl)) | (refine load_sub rfl 27 _ rfl wr.heap.size 2 24 _ rfl ?_ _ 26 HX _ EW g24 _ Try.underlying27 rfl ?_ ?_; (· (first | rfl | omega)); (· kernel_rfl)))
      refine (KC.out _).mono ?_
      rintro e w3 ⟨v3, rfl, q3, b3⟩
      obtain ⟨a3, cap3, rfl⟩ := q3.shape
      rw [trL_len]
      replace GU := Lib.hid (GU.out.below b3)
      replace GT := Lib.hid (GT.out.below b3)
      replace GB := Lib.hid (GB.out.call b3)
      clear b3 RG KC q3
      have hbs := GB.out.size
      have owu := Lib.hid (fun z hz => (GU.out.own z hz))
      have rl := replF_len ns k
      generalize usefNA t = M at *
      go_wp2_with (first | (at_builtin; refine wpList_append_lies _ rfl _ _ 39 rfl w.heap.size 3 i0 (.int .i64 0) 1 8 Try.underlying39 hi hz0 hz1 hz2 rfl (by decide) _ k (ints (replF ns k)) rfl (World.ownsRow.alloc GU.out _) ⟨w3.heap.size, 0, none⟩ 1 1 [.int .i64 (M : Int)] rfl rfl (cell_one_new _ _ _) (fun x hx => by simp at hx; subst hx; rfl) (by decide) (by unfold maxLen; omega) (by omega) (by simp; omega) _ rfl ?_; intro g' cap' w4 hown' hgrow3 hlie hlt3))
      have F3 := Lib.hid (show Kept w w4 from (GB.out.alloc (.cells #[.int .i64 (M : Int)] 3)).grown hgrow3 (by rw [size1]; omega) (fun j hj => by have := (owu.out j hj).1; omega))
      have F4 : Hid (Nu w4 w.heap.size (.slice (some ⟨g', 0, none⟩) (k + 1) cap') (k + 1) (replF ns (k + 1))) := Lib.hid (by rw [EY.out]; unfold Nu; rw [ints_more0]; exact hown')
      have A0 := Lib.hid ((GT.out.alloc (.cells #[.int .i64 (M : Int)] 3)).kept hgrow3 (fun z hz e => GA.out z e hz))
      have GA2 : Hid (∀ z, (Value.slice (some ⟨g', 0, none⟩) (k + 1) cap').ownBlock = some z → (Value.slice (some ⟨g, 0, none⟩) N cap0).ownBlock ≠ some z) := Lib.hid (fun z hz e => by
        have h5 := Option.some.inj (show some g' = some z from hz)
        subst h5
        rcases hlie with h1 | h1
        · exact GA.out _ h1 e
        · have := (GT.out.own _ e).2
          rw [size1] at h1; omega)
      clear hown' hgrow3 hlie hlt3 GU GB GT GA owu
      go_wp2_with fail
      go_roundw
      case rel => exact ⟨k + 1, by omega, by go_num, F4, A0, GA2, F3⟩
      case measure => simp [intOf]; omega
    · obtain rfl : k = N := by omega
      go_wp2_with fail
      go_ret2
      exact ⟨_, by rw [E.out]; rfl, by rw [HN.out]; exact GU.out, GB.out⟩
end Go.Proofs.Ytnldnjnnjfbhnaa.base
