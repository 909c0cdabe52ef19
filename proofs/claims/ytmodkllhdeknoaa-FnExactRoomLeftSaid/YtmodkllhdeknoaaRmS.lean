/-
  The rooms of a rack, on the model's side, walked.
-/
import Derived.Test.YtmodkllhdeknoaaRmM
import Derived.Test.YtmodkllhdeknoaaNu
import Derived.Test.YtmodkllhdeknoaaSpecW
import Derived.Test.YtmodkllhdeknoaaTubeW3
import Derived.Test.YtmodkllhdeknoaaRuns
namespace Go.Proofs.Ytmodkllhdeknoaa.base
open Go.ChangeShapes Go.WideShapes Go.ChangeAt Go.RowKit
set_option linter.unusedVariables false
set_option linter.unusedSimpArgs false

theorem nu_none (w : World) (b : Nat) (hb : b ≤ w.heap.size) : Nu (w.alloc (.cells #[] 3)) b (.slice (some ⟨w.heap.size, 0, Option.none⟩) 0 0) 0 [] := by
  have := World.ownsRow_made (base := b) (e := 3) (size := 1) w #[] 0 hb (by unfold maxLen; omega) (by simp)
  simpa [Nu, ints] using this
theorem ints_more (xs : List Int) (x : Int) : ints (xs ++ [x]) = ints xs ++ [.int .i64 x] := by unfold ints; rw [List.map_append]; rfl
def RoomPost (ns : List Int) (w : World) (e : Ending) (w' : World) : Prop := ∃ v : Value, e = .returned (.tuple #[v, .bool (vR ns)]) ∧ Nu w' (w.heap.size + 1) v (roomN ns) (roomF ns) ∧ Kept w w'

set_option maxHeartbeats 1600000 in
set_option maxRecDepth 100000 in
theorem specRoom (ns : List Int) (w : World) (h24 : ns.length = 24) :
    Calls Try.prog 24 #[row ns] w (RoomPost ns w) := by
  obtain ⟨i0, hi, hz0, hz1, hz2⟩ := infoN_parts infoN
  have HB := Lib.hid (((kept_refl w).alloc (.cells (ints ns).toArray 28)).alloc (.cells #[] 3))
  have H := (Has.box w 28 h24 (by omega)).alloc (.cells #[] 3)
  have P0 := Lib.hid (by have := nu_none (w.alloc (.cells (ints ns).toArray 28)) (w.heap.size + 1) (by simp); rwa [size1] at this)
  rw [row_ints]
  go_enter Try.func24, Try.ntmps24
  go_wp2_with (refine load_has rfl 28 _ rfl _ rfl ?_ 24 ?_ _ Try.underlying28 rfl ?_ ?_; rotate_left; (· (repeat (first | (with_reducible assumption) | ((with_reducible refine Has.box _ _ ?_ ?_) <;> (first | assumption | decide)) | (with_reducible refine Has.alloc ?_ _) | ((with_reducible refine Has.putOther ?_ _ _ ?_); rotate_left; omega; skip) | ((with_reducible refine Has.below ?_ ?_); rotate_left; assumption)))); (· kernel_rfl))
  refine (l2Rack_any ns _ h24).mono ?_
  rintro e w1 ⟨rfl, b1⟩
  replace H := H.below b1
  replace HB := Lib.hid (HB.out.call b1)
  replace P0 := Lib.hid (P0.out.below b1)
  clear b1
  by_cases hv : vR ns = true
  rotate_left
  · have hf : vR ns = false := by simpa using hv
    have E := Lib.hid hf
    have Z := Lib.hid (room_no hf)
    rw [hf]
    clear hf hv
    go_wp2_with fail
    go_ret2
    exact ⟨_, by rw [E.out]; rfl, by rw [Z.out.1, Z.out.2]; exact P0.out, HB.out⟩
  rw [hv]
  have E := Lib.hid hv
  have Z := Lib.hid (room_yes hv)
  have ZL := Lib.hid (bk_len h24)
  have H24 := Lib.hid h24
  clear h24 hv
  go_wp2_with fail
  go_loopw [4, 5] (fun u i wr => ∃ v : Nat, v ≤ 5 ∧ i = .int .i64 v ∧ Has wr w.heap.size ns 24 ∧ Hid (Nu wr (w.heap.size + 1) u (bkUp ns v).length (bkUp ns v)) ∧ Hid (Kept w wr)) (fun _ z _ => 5 - (intOf z).toNat)
  case atStart => exact ⟨0, by omega, rfl, H, P0, HB⟩
  case round =>
    clear H P0 HB
    obtain ⟨v, hv5, rfl, G1, GU, GB⟩ := hrel
    rcases Nat.lt_or_ge v 5 with hlt | hge
    · have vi : (v : Int) ≤ 4 := by omega
      go_wp2_with fail
      go_loopw [4, 6] (fun u2 j wr2 => ∃ p : Nat, p ≤ 6 ∧ j = .int .i64 p ∧ Has wr2 w.heap.size ns 24 ∧ Hid (Nu wr2 (w.heap.size + 1) u2 (mid ns v p).length (mid ns v p)) ∧ Hid (Kept w wr2)) (fun _ z _ => 6 - (intOf z).toNat)
      case atStart => exact ⟨0, by omega, rfl, G1, by rw [mid_zero]; exact GU, GB⟩
      case round =>
        clear G1 GU GB
        obtain ⟨p, hp, rfl, G1, GU, GB⟩ := hrel
        rcases Nat.lt_or_ge p 6 with hp6 | hge
        · have hpi : (p : Int) < 6 := by omega
          have h4 := tub_len ns p H24.out hp6
          have hvt := vR_tub E.out p hp6
          have hL := lay_le (tub ns p)
          rw [h4] at hL
          have EA : Hid (rmA ns p = 4 - (lay (tub ns p) : Nat)) := Lib.hid rfl
          have YES := Lib.hid (fun h => mid_yes (ns := ns) (v := v) (p := p) h)
          have NO := Lib.hid (fun h => mid_no (ns := ns) (v := v) (p := p) h)
          have ML := mid_le ns v p (by omega) (by omega)
          go_wp2_with (refine load_tub rfl 22 _ rfl _ (p) _ rfl ?_ ?_ ?_ ?_ _ Try.underlying22 rfl ?_ ?_; (· (first | rfl | omega)); rotate_left; (· (repeat (first | (with_reducible assumption) | ((with_reducible refine Has.box _ _ ?_ ?_) <;> (first | assumption | decide)) | (with_reducible refine Has.alloc ?_ _) | ((with_reducible refine Has.putOther ?_ _ _ ?_); rotate_left; omega; skip) | ((with_reducible refine Has.below ?_ ?_); rotate_left; assumption)))); (· omega); (· kernel_rfl))
          refine (l2Many_any (tub ns p) _ h4 hvt).mono ?_
          rintro e w3 ⟨rfl, b3⟩
          replace G1 := G1.below b3
          replace GU := Lib.hid (GU.out.below b3)
          replace GB := Lib.hid (GB.out.call b3)
          clear b3 hvt h4
          generalize lay (tub ns p) = L at *
          have W1 : IntKind.i64.wrap (4 - (L : Int)) = 4 - (L : Int) := IntWalk.i64_in _ (by omega)
          by_cases he : 4 - (L : Int) = (v : Int)
          · have hq : (4 - (L : Int) == (v : Int)) = true := beq_iff_eq.2 he
            have SN := Lib.hid (YES.out (EA.out.trans he))
            have hbs := GB.out.size
            have owu := Lib.hid (fun z hz => (GU.out.own z hz))
            clear YES NO EA
            generalize mid ns v p = M at *
            go_wp2_with (first | (at_builtin; refine wpList_append_own _ rfl _ _ 37 rfl (w.heap.size + 1) 3 i0 (.int .i64 0) 1 8 Try.underlying37 hi hz0 hz1 hz2 rfl (by decide) _ M.length (ints M) rfl (World.ownsRow.alloc GU.out _) ⟨w3.heap.size, 0, none⟩ 1 1 [.int .i64 (v : Int)] rfl rfl (cell_one_new _ _ _) (fun x hx => by simp at hx; subst hx; rfl) (by unfold maxLen; omega) (by omega) (by simp; omega) ?_; intro v' w6 hown' hgrow3 hnil3))
            have F1 := (G1.alloc (.cells #[.int .i64 (v : Int)] 3)).grown hgrow3 (fun j hj => (owu.out j hj).1)
            have F3 := Lib.hid (show Kept w w6 from (GB.out.alloc (.cells #[.int .i64 (v : Int)] 3)).grown hgrow3 (by rw [size1]; omega) (fun j hj => by have := (owu.out j hj).1; omega))
            have F4 : Hid (Nu w6 (w.heap.size + 1) v' (mid ns v (p + 1)).length (mid ns v (p + 1))) := Lib.hid (by rw [SN.out, List.length_append]; unfold Nu; rw [ints_more]; exact hown')
            clear hown' hgrow3 hnil3 G1 GU GB owu
            go_wp2_with fail
            go_roundw
            case rel => exact ⟨p + 1, by omega, by go_num, F1, F4, F3⟩
            case measure => simp [intOf]; omega
          · have hq : (4 - (L : Int) == (v : Int)) = false := beq_eq_false_iff_ne.2 he
            have SN := Lib.hid (NO.out (fun e => he (EA.out.symm.trans e)))
            clear YES NO EA
            go_wp2_with fail
            go_roundw
            case rel => exact ⟨p + 1, by omega, by go_num, G1, by rw [SN.out]; exact GU, GB⟩
            case measure => simp [intOf]; omega
        · obtain rfl : p = 6 := by omega
          rw [mid_six] at GU
          go_wp2_with fail
          go_roundw
          case rel => exact ⟨v + 1, by omega, by go_num, G1, GU, GB⟩
          case measure => simp [intOf]; omega
    · obtain rfl : v = 5 := by omega
      rw [ZL.out] at GU
      go_wp2_with fail
      go_ret2
      exact ⟨_, by rw [E.out]; rfl, by rw [Z.out.1, Z.out.2]; exact GU.out, GB.out⟩
end Go.Proofs.Ytmodkllhdeknoaa.base
