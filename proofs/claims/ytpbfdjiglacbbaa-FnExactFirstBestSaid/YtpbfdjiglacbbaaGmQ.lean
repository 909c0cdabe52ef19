/-
  Games on the model's side, walked: complete tubes, lost racks, pours that can hurt, and replies.
-/
import Derived.Test.YtpbfdjiglacbbaaGmWZ
import Derived.Test.YtpbfdjiglacbbaaUseZ
import Derived.Test.YtpbfdjiglacbbaaPourS
import Derived.Test.YtpbfdjiglacbbaaSpecW
namespace Go.Proofs.Ytpbfdjiglacbbaa.base
open Go.ChangeShapes Go.WideShapes Go.ChangeAt Go.RowKit
set_option linter.unusedVariables false
set_option linter.unusedSimpArgs false

theorem World.ownsRow.mono' {w : World} {b b' : Nat} {v : Value} {n : Nat} {fs : List Int} (h : Nu w b v n fs) (hb : b' ≤ b) : Nu w b' v n fs := by
  refine ⟨h.1, ?_⟩
  rcases h.2 with h0 | ⟨g, cap, cur, hv, hg, rest⟩
  · exact .inl h0
  · exact .inr ⟨g, cap, cur, hv, by omega, rest⟩

set_option maxHeartbeats 1600000 in
set_option maxRecDepth 100000 in
theorem l10Complete_any (ns : List Int) (w : World) (h24 : ns.length = 24) (hv : vR ns = true) :
    Calls Try.prog 63 #[row ns] w fun e w' => ∃ v : Value, e = .returned v ∧ Nu w' w.heap.size v (cmpl ns 6).length (cmpl ns 6) ∧ Kept w w' := by
  obtain ⟨i0, hi, hz0, hz1, hz2⟩ := infoN_parts infoN
  have HB := Lib.hid (((kept_refl w).alloc (.cells (ints ns).toArray 28)).alloc (.cells #[] 3))
  have H := (Has.box w 28 h24 (by omega)).alloc (.cells #[] 3)
  have P0 := Lib.hid (by have := nu_none0 (w.alloc (.cells (ints ns).toArray 28)) (w.heap.size + 1) (by simp); rwa [size1] at this)
  have E := Lib.hid hv
  have H24 := Lib.hid h24
  have P1 : Hid (Nu ((w.alloc (.cells (ints ns).toArray 28)).alloc (.cells #[] 3)) (w.heap.size + 1) (.slice (some ⟨w.heap.size + 1, 0, none⟩) 0 0) (cmpl ns 0).length (cmpl ns 0)) := Lib.hid P0.out
  rw [row_ints]
  clear h24 hv P0
  go_enter Try.func63, Try.ntmps63
  go_wp2_with fail
  generalize (w.alloc (.cells (ints ns).toArray 28)).alloc (.cells #[] 3) = W at *
  go_loopw [3, 4] (fun u i wr => ∃ p : Nat, p ≤ 6 ∧ i = .int .i64 p ∧ Has wr w.heap.size ns 24 ∧ Hid (Nu wr (w.heap.size + 1) u (cmpl ns p).length (cmpl ns p)) ∧ Hid (Kept w wr)) (fun _ z _ => 6 - (intOf z).toNat)
  case atStart => exact ⟨0, by omega, rfl, H, P1, HB⟩
  case round =>
    clear H P1 HB
    obtain ⟨p, hp, rfl, G1, GU, GB⟩ := hrel
    rcases Nat.lt_or_ge p 6 with hp6 | hge
    · have hpi : (p : Int) < 6 := by omega
      have h4 := tub_len ns p H24.out hp6
      have hvt := vR_tub E.out p hp6
      have ML := cmpl_le ns p
      have YES := Lib.hid (fun h => cmpl_yes (ns := ns) (k := p) h)
      have NO := Lib.hid (fun h => cmpl_no (ns := ns) (k := p) h)
      go_wp2_with (refine load_tub rfl 22 _ rfl _ (p) _ rfl ?_ ?_ ?_ ?_ _ Try.underlying22 rfl ?_ ?_; (· (first | rfl | omega)); rotate_left; (· (repeat (first | (with_reducible assumption) | ((with_reducible refine Has.box _ _ ?_ ?_) <;> (first | assumption | decide)) | (with_reducible refine Has.alloc ?_ _) | ((with_reducible refine Has.putOther ?_ _ _ ?_); rotate_left; omega; skip) | ((with_reducible refine Has.below ?_ ?_); rotate_left; assumption)))); (· omega); (· kernel_rfl))
      refine (l2Top_any (tub ns p) _ h4 hvt).mono ?_
      rintro e w3 ⟨rfl, b3⟩
      replace G1 := G1.below b3
      replace GU := Lib.hid (GU.out.below b3)
      replace GB := Lib.hid (GB.out.call b3)
      clear b3 hvt h4
      generalize topC (tub ns p) = tc at *
      by_cases he : topN (tub ns p) = 4
      · have SN := Lib.hid (YES.out he)
        rw [he]
        have hbs := GB.out.size
        have owu := Lib.hid (fun z hz => (GU.out.own z hz))
        clear YES NO he
        generalize cmpl ns p = M at *
        go_wp2_with (first | (at_builtin; refine wpList_append_own _ rfl _ _ 84 rfl (w.heap.size + 1) 3 i0 (.int .i64 0) 1 8 Try.underlying84 hi hz0 hz1 hz2 rfl (by decide) _ M.length (ints M) rfl (World.ownsRow.alloc GU.out _) ⟨w3.heap.size, 0, none⟩ 1 1 [.int .i64 (p : Int)] rfl rfl (cell_one_new _ _ _) (fun x hx => by simp at hx; subst hx; rfl) (by unfold maxLen; omega) (by omega) (by simp; omega) ?_; intro v' w6 hown' hgrow3 hnil3))
        have F1 := (G1.alloc (.cells #[.int .i64 (p : Int)] 3)).grownNo hgrow3 (fun e => by
          have h1 := (owu.out w.heap.size e.symm).1
          omega)
        have F3 := Lib.hid (show Kept w w6 from (GB.out.alloc (.cells #[.int .i64 (p : Int)] 3)).grown hgrow3 (by rw [size1]; omega) (fun j hj => by have := (owu.out j hj).1; omega))
        have F4 : Hid (Nu w6 (w.heap.size + 1) v' (cmpl ns (p + 1)).length (cmpl ns (p + 1))) := Lib.hid (by rw [SN.out, List.length_append]; unfold Nu; rw [ints_more0]; exact hown')
        clear hown' hgrow3 hnil3 GU GB owu
        go_wp2_with fail
        go_roundw
        case rel => exact ⟨p + 1, by omega, by go_num, F1, F4, F3⟩
        case measure => simp [intOf]; omega
      · have q0 : ((topN (tub ns p) : Int) == 4) = false := by simp; omega
        have SN := Lib.hid (NO.out he)
        clear YES NO he
        generalize topN (tub ns p) = tn at *
        go_wp2_with fail
        go_roundw
        case rel => exact ⟨p + 1, by omega, by go_num, G1, by rw [SN.out]; exact GU, GB⟩
        case measure => simp [intOf]; omega
    · obtain rfl : p = 6 := by omega
      go_wp2_with fail
      go_ret
      exact ⟨_, rfl, World.ownsRow.mono' GU.out (by omega), GB.out⟩

end Go.Proofs.Ytpbfdjiglacbbaa.base
