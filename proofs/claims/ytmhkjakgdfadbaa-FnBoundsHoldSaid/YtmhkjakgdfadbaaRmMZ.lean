/-
  The rooms of a rack in ascending order: the mathematics.
-/
/-
  The rooms of a rack, on the model's side, walked.
-/
/-
  The rooms of a rack, on the program's side, walked.
-/
import Derived.Test.YtmhkjakgdfadbaaTube
import Derived.Test.YtmhkjakgdfadbaaTubeW
import Derived.Test.YtmhkjakgdfadbaaGridZ
import Derived.Test.YtmhkjakgdfadbaaSpecW
import Derived.Test.YtmhkjakgdfadbaaTubeW3
import Derived.Test.YtmhkjakgdfadbaaRuns
import Derived.Test.YtmhkjakgdfadbaaShelfR
import Derived.Test.YtmhkjakgdfadbaaBndI
import Derived.Sort.OwnSortedInts

section
namespace Go.Proofs.Ytmhkjakgdfadbaa.base
open Go.ChangeShapes Go.WideShapes Go.ChangeAt Go.RowKit
set_option linter.unusedVariables false
set_option linter.unusedSimpArgs false

/-- The room of tube i. -/
def rmA (ns : List Int) (i : Nat) : Int := 4 - (lay (tub ns i) : Nat)
/-- The rooms of the first p tubes. -/
def rmUp (ns : List Int) : Nat → List Int
  | 0 => []
  | p + 1 => rmUp ns p ++ [rmA ns p]
/-- Those of the first p tubes that are v. -/
def rmOf (ns : List Int) (v : Nat) : Nat → List Int
  | 0 => []
  | p + 1 => if rmA ns p = (v : Int) then rmOf ns v p ++ [(v : Int)] else rmOf ns v p
/-- What the model holds before the room v: the smaller rooms, in order. -/
def bkUp (ns : List Int) : Nat → List Int
  | 0 => []
  | v + 1 => bkUp ns v ++ rmOf ns v 6
def mid (ns : List Int) (v p : Nat) : List Int := bkUp ns v ++ rmOf ns v p
theorem rmUp_len (ns : List Int) : ∀ p, (rmUp ns p).length = p
  | 0 => rfl
  | p + 1 => by rw [rmUp, List.length_append, rmUp_len ns p]; rfl
theorem rmOf_le (ns : List Int) (v : Nat) : ∀ p, (rmOf ns v p).length ≤ p
  | 0 => Nat.le_refl _
  | p + 1 => by
    have := rmOf_le ns v p
    rw [rmOf]
    split
    · rw [List.length_append]; simp; omega
    · omega
theorem bkUp_le (ns : List Int) : ∀ v, (bkUp ns v).length ≤ v * 6
  | 0 => Nat.le_refl _
  | v + 1 => by
    have := bkUp_le ns v
    have := rmOf_le ns v 6
    rw [bkUp, List.length_append]; omega
theorem mid_le (ns : List Int) (v p : Nat) (hv : v ≤ 5) (hp : p ≤ 6) : (mid ns v p).length ≤ 36 := by
  have := bkUp_le ns v
  have := rmOf_le ns v p
  rw [mid, List.length_append]; omega
theorem mid_zero (ns : List Int) (v : Nat) : mid ns v 0 = bkUp ns v := by rw [mid, rmOf, List.append_nil]
theorem mid_six (ns : List Int) (v : Nat) : mid ns v 6 = bkUp ns (v + 1) := rfl
theorem mid_yes {ns : List Int} {v p : Nat} (h : rmA ns p = (v : Int)) : mid ns v (p + 1) = mid ns v p ++ [(v : Int)] := by rw [mid, mid, rmOf, if_pos h, List.append_assoc]
theorem mid_no {ns : List Int} {v p : Nat} (h : rmA ns p ≠ (v : Int)) : mid ns v (p + 1) = mid ns v p := by rw [mid, mid, rmOf, if_neg h]
theorem rmOf_eq (ns : List Int) (v : Nat) : ∀ p, rmOf ns v p = (rmUp ns p).filter (fun x => x == (v : Int))
  | 0 => rfl
  | p + 1 => by
    rw [rmOf, rmUp, List.filter_append, ← rmOf_eq ns v p]
    by_cases h : rmA ns p = (v : Int)
    · rw [if_pos h]; simp [h]
    · rw [if_neg h]; simp [h]
theorem count_of (xs : List Int) (v a : Int) : List.count a (xs.filter (fun x => x == v)) = if a = v then List.count a xs else 0 := by
  by_cases h : a = v
  · rw [if_pos h, List.count_filter (by simp [h])]
  · rw [if_neg h, List.count_eq_zero]
    intro m
    have := (List.mem_filter.1 m).2
    simp at this
    exact h this
def five (xs : List Int) : List Int := ((((xs.filter (fun x => x == 0)) ++ xs.filter (fun x => x == 1)) ++ xs.filter (fun x => x == 2)) ++ xs.filter (fun x => x == 3)) ++ xs.filter (fun x => x == 4)
theorem five_perm (xs : List Int) (h : ∀ x ∈ xs, 0 ≤ x ∧ x ≤ 4) : List.Perm (five xs) xs := by
  rw [List.perm_iff_count]
  intro a
  unfold five
  rw [List.count_append, List.count_append, List.count_append, List.count_append, count_of, count_of, count_of, count_of, count_of]
  by_cases m : a ∈ xs
  · obtain ⟨h0, h4⟩ := h a m
    have : a = 0 ∨ a = 1 ∨ a = 2 ∨ a = 3 ∨ a = 4 := by omega
    rcases this with rfl | rfl | rfl | rfl | rfl <;> simp
  · rw [List.count_eq_zero.2 m]; simp
theorem all_of {xs : List Int} {v a : Int} (h : a ∈ xs.filter (fun x => x == v)) : a = v := by
  have := (List.mem_filter.1 h).2
  simpa using this
theorem one_up (xs : List Int) (v : Int) : (xs.filter (fun x => x == v)).Pairwise (fun x y => x ≤ y) := by
  refine List.pairwise_of_forall_mem_list ?_
  intro a ha b hb
  rw [all_of ha, all_of hb]
  exact Int.le_refl _
theorem five_up (xs : List Int) : (five xs).Pairwise (fun x y => x ≤ y) := by
  unfold five
  rw [List.pairwise_append, List.pairwise_append, List.pairwise_append, List.pairwise_append]
  refine ⟨⟨⟨⟨one_up _ _, one_up _ _, ?_⟩, one_up _ _, ?_⟩, one_up _ _, ?_⟩, one_up _ _, ?_⟩
  all_goals
    intro a ha b hb
    have e := all_of hb
    try simp only [List.mem_append] at ha
  · have := all_of ha; omega
  · rcases ha with ha | ha <;> (have := all_of ha; omega)
  · rcases ha with (ha | ha) | ha <;> (have := all_of ha; omega)
  · rcases ha with ((ha | ha) | ha) | ha <;> (have := all_of ha; omega)
theorem lay_le (t : List Int) : lay t ≤ t.length := by
  unfold lay
  exact (List.takeWhile_sublist _).length_le
theorem rmUp_all {ns : List Int} (h : ns.length = 24) : ∀ p, p ≤ 6 → ∀ x ∈ rmUp ns p, 0 ≤ x ∧ x ≤ 4
  | 0, _ => by intro x hx; cases hx
  | p + 1, hp => by
    intro x hx
    rw [rmUp, List.mem_append] at hx
    rcases hx with hx | hx
    · exact rmUp_all h p (by omega) x hx
    · rw [List.mem_singleton] at hx
      have := lay_le (tub ns p)
      rw [tub_len ns p h (by omega)] at this
      rw [hx]; unfold rmA; omega
theorem bk_five (ns : List Int) : bkUp ns 5 = five (rmUp ns 6) := by
  rw [bkUp, bkUp, bkUp, bkUp, bkUp, bkUp, rmOf_eq, rmOf_eq, rmOf_eq, rmOf_eq, rmOf_eq, List.nil_append]; rfl
/-- The model's answer is the program's. -/
theorem bk_sort {ns : List Int} (h : ns.length = 24) : (rmUp ns 6).mergeSort (fun x y => decide (x ≤ y)) = bkUp ns 5 := by
  rw [bk_five]
  have p1 : List.Perm ((rmUp ns 6).mergeSort (fun x y => decide (x ≤ y))) (rmUp ns 6) := List.mergeSort_perm _ _
  have p2 := five_perm (rmUp ns 6) (rmUp_all h 6 (by omega))
  refine List.Perm.eq_of_pairwise (le := fun x y : Int => x ≤ y) (fun a b _ _ h1 h2 => Int.le_antisymm h1 h2) ?_ (five_up _) (p1.trans p2.symm)
  have := List.pairwise_mergeSort (le := fun x y : Int => decide (x ≤ y)) (fun a b c h1 h2 => by simp at h1 h2 ⊢; omega) (fun a b => by simp; omega) (rmUp ns 6)
  exact this.imp (fun h => by simpa using h)
theorem bk_len {ns : List Int} (h : ns.length = 24) : (bkUp ns 5).length = 6 := by
  rw [← bk_sort h, List.length_mergeSort, rmUp_len]
/-- What both sides answer. -/
def roomF (ns : List Int) : List Int := if vR ns = true then bkUp ns 5 else []
def roomN (ns : List Int) : Nat := if vR ns = true then 6 else 0
theorem room_no {ns : List Int} (h : vR ns = false) : roomN ns = 0 ∧ roomF ns = [] := by
  unfold roomN roomF; rw [h]; exact ⟨if_neg (by decide), if_neg (by decide)⟩
theorem room_yes {ns : List Int} (h : vR ns = true) : roomN ns = 6 ∧ roomF ns = bkUp ns 5 := by
  unfold roomN roomF; rw [h]; exact ⟨if_pos rfl, if_pos rfl⟩
theorem roomN_le (ns : List Int) : roomN ns ≤ 6 := by unfold roomN; split <;> omega
end Go.Proofs.Ytmhkjakgdfadbaa.base
end

section
namespace Go.Proofs.Ytmhkjakgdfadbaa.base
open Go.ChangeShapes Go.WideShapes Go.ChangeAt Go.RowKit
set_option linter.unusedVariables false
set_option linter.unusedSimpArgs false

theorem nu_none (w : World) (b : Nat) (hb : b ≤ w.heap.size) : Nu (w.alloc (.cells #[] 3)) b (.slice (some ⟨w.heap.size, 0, Option.none⟩) 0 0) 0 [] := by
  have := World.ownsRow_made (base := b) (e := 3) (size := 1) w #[] 0 hb (by unfold maxLen; omega) (by simp)
  simpa [Nu, ints] using this
theorem ints_more (xs : List Int) (x : Int) : ints (xs ++ [x]) = ints xs ++ [.int .i64 x] := by unfold ints; rw [List.map_append]; rfl
def RoomPost (ns : List Int) (w : World) (e : Ending) (w' : World) : Prop := ∃ v : Value, e = .returned (.tuple #[v, .bool (vR ns)]) ∧ Nu w' (w.heap.size + 1) v (roomN ns) (roomF ns) ∧ Kept w w'

set_option maxHeartbeats 1600000 in
set_option maxRecDepth 100000 in
theorem specRoom (ns : List Int) (w : World) (h24 : ns.length = 24) :
    Calls Try.prog 22 #[row ns] w (RoomPost ns w) := by
  obtain ⟨i0, hi, hz0, hz1, hz2⟩ := infoN_parts infoN
  have HB := Lib.hid (((kept_refl w).alloc (.cells (ints ns).toArray 27)).alloc (.cells #[] 3))
  have H := (Has.box w 27 h24 (by omega)).alloc (.cells #[] 3)
  have P0 := Lib.hid (by have := nu_none (w.alloc (.cells (ints ns).toArray 27)) (w.heap.size + 1) (by simp); rwa [size1] at this)
  rw [row_ints]
  go_enter Try.func22, Try.ntmps22
  go_wp2_with (refine load_has rfl 27 _ rfl _ rfl ?_ 24 ?_ _ Try.underlying27 rfl ?_ ?_; rotate_left; (· (repeat (first | (with_reducible assumption) | ((with_reducible refine Has.box _ _ ?_ ?_) <;> (first | assumption | decide)) | (with_reducible refine Has.alloc ?_ _) | ((with_reducible refine Has.putOther ?_ _ _ ?_); rotate_left; omega; skip) | ((with_reducible refine Has.below ?_ ?_); rotate_left; assumption)))); (· kernel_rfl))
  refine (l2Rack_any ns _ h24).mono ?_
  rintro e w1 ⟨rfl, b1⟩
  replace H := H.below b1
  replace HB := Lib.hid (HB.out.call b1)
  replace P0 := Lib.hid (P0.out.below b1)
  clear b1
  by_cases hv : vR ns = true
  rotate_left
  · have hf : vR ns = false := by simpa using hv
    have E := Lib.hid hf
    have Z := Lib.hid (room_no hf)
    rw [hf]
    clear hf hv
    go_wp2_with fail
    go_ret2
    exact ⟨_, by rw [E.out]; rfl, by rw [Z.out.1, Z.out.2]; exact P0.out, HB.out⟩
  rw [hv]
  have E := Lib.hid hv
  have Z := Lib.hid (room_yes hv)
  have ZL := Lib.hid (bk_len h24)
  have H24 := Lib.hid h24
  clear h24 hv
  go_wp2_with fail
  go_loopw [4, 5] (fun u i wr => ∃ v : Nat, v ≤ 5 ∧ i = .int .i64 v ∧ Has wr w.heap.size ns 24 ∧ Hid (Nu wr (w.heap.size + 1) u (bkUp ns v).length (bkUp ns v)) ∧ Hid (Kept w wr)) (fun _ z _ => 5 - (intOf z).toNat)
  case atStart => exact ⟨0, by omega, rfl, H, P0, HB⟩
  case round =>
    clear H P0 HB
    obtain ⟨v, hv5, rfl, G1, GU, GB⟩ := hrel
    rcases Nat.lt_or_ge v 5 with hlt | hge
    · have vi : (v : Int) ≤ 4 := by omega
      go_wp2_with fail
      go_loopw [4, 6] (fun u2 j wr2 => ∃ p : Nat, p ≤ 6 ∧ j = .int .i64 p ∧ Has wr2 w.heap.size ns 24 ∧ Hid (Nu wr2 (w.heap.size + 1) u2 (mid ns v p).length (mid ns v p)) ∧ Hid (Kept w wr2)) (fun _ z _ => 6 - (intOf z).toNat)
      case atStart => exact ⟨0, by omega, rfl, G1, by rw [mid_zero]; exact GU, GB⟩
      case round =>
        clear G1 GU GB
        obtain ⟨p, hp, rfl, G1, GU, GB⟩ := hrel
        rcases Nat.lt_or_ge p 6 with hp6 | hge
        · have hpi : (p : Int) < 6 := by omega
          have h4 := tub_len ns p H24.out hp6
          have hvt := vR_tub E.out p hp6
          have hL := lay_le (tub ns p)
          rw [h4] at hL
          have EA : Hid (rmA ns p = 4 - (lay (tub ns p) : Nat)) := Lib.hid rfl
          have YES := Lib.hid (fun h => mid_yes (ns := ns) (v := v) (p := p) h)
          have NO := Lib.hid (fun h => mid_no (ns := ns) (v := v) (p := p) h)
          have ML := mid_le ns v p (by omega) (by omega)
          go_wp2_with (refine load_tub rfl 24 _ rfl _ (p) _ rfl ?_ ?_ ?_ ?_ _ Try.underlying24 rfl ?_ ?_; (· (first | rfl | omega)); rotate_left; (· (repeat (first | (with_reducible assumption) | ((with_reducible refine Has.box _ _ ?_ ?_) <;> (first | assumption | decide)) | (with_reducible refine Has.alloc ?_ _) | ((with_reducible refine Has.putOther ?_ _ _ ?_); rotate_left; omega; skip) | ((with_reducible refine Has.below ?_ ?_); rotate_left; assumption)))); (· omega); (· kernel_rfl))
          refine (l2Many_any (tub ns p) _ h4 hvt).mono ?_
          rintro e w3 ⟨rfl, b3⟩
          replace G1 := G1.below b3
          replace GU := Lib.hid (GU.out.below b3)
          replace GB := Lib.hid (GB.out.call b3)
          clear b3 hvt h4
          generalize lay (tub ns p) = L at *
          have W1 : IntKind.i64.wrap (4 - (L : Int)) = 4 - (L : Int) := IntWalk.i64_in _ (by omega)
          by_cases he : 4 - (L : Int) = (v : Int)
          · have hq : (4 - (L : Int) == (v : Int)) = true := beq_iff_eq.2 he
            have SN := Lib.hid (YES.out (EA.out.trans he))
            have hbs := GB.out.size
            have owu := Lib.hid (fun z hz => (GU.out.own z hz))
            clear YES NO EA
            generalize mid ns v p = M at *
            go_wp2_with (first | (at_builtin; refine wpList_append_own _ rfl _ _ 41 rfl (w.heap.size + 1) 3 i0 (.int .i64 0) 1 8 Try.underlying41 hi hz0 hz1 hz2 rfl (by decide) _ M.length (ints M) rfl (World.ownsRow.alloc GU.out _) ⟨w3.heap.size, 0, none⟩ 1 1 [.int .i64 (v : Int)] rfl rfl (cell_one_new _ _ _) (fun x hx => by simp at hx; subst hx; rfl) (by unfold maxLen; omega) (by omega) (by simp; omega) ?_; intro v' w6 hown' hgrow3 hnil3))
            have F1 := (G1.alloc (.cells #[.int .i64 (v : Int)] 3)).grown hgrow3 (fun j hj => (owu.out j hj).1)
            have F3 := Lib.hid (show Kept w w6 from (GB.out.alloc (.cells #[.int .i64 (v : Int)] 3)).grown hgrow3 (by rw [size1]; omega) (fun j hj => by have := (owu.out j hj).1; omega))
            have F4 : Hid (Nu w6 (w.heap.size + 1) v' (mid ns v (p + 1)).length (mid ns v (p + 1))) := Lib.hid (by rw [SN.out, List.length_append]; unfold Nu; rw [ints_more]; exact hown')
            clear hown' hgrow3 hnil3 G1 GU GB owu
            go_wp2_with fail
            go_roundw
            case rel => exact ⟨p + 1, by omega, by go_num, F1, F4, F3⟩
            case measure => simp [intOf]; omega
          · have hq : (4 - (L : Int) == (v : Int)) = false := beq_eq_false_iff_ne.2 he
            have SN := Lib.hid (NO.out (fun e => he (EA.out.symm.trans e)))
            clear YES NO EA
            go_wp2_with fail
            go_roundw
            case rel => exact ⟨p + 1, by omega, by go_num, G1, by rw [SN.out]; exact GU, GB⟩
            case measure => simp [intOf]; omega
        · obtain rfl : p = 6 := by omega
          rw [mid_six] at GU
          go_wp2_with fail
          go_roundw
          case rel => exact ⟨v + 1, by omega, by go_num, G1, GU, GB⟩
          case measure => simp [intOf]; omega
    · obtain rfl : v = 5 := by omega
      rw [ZL.out] at GU
      go_wp2_with fail
      go_ret2
      exact ⟨_, by rw [E.out]; rfl, by rw [Z.out.1, Z.out.2]; exact GU.out, GB.out⟩
end Go.Proofs.Ytmhkjakgdfadbaa.base
end

section
namespace Go.Proofs.Ytmhkjakgdfadbaa.base
open Go.ChangeShapes Go.WideShapes Go.ChangeAt Go.RowKit
set_option linter.unusedVariables false
set_option linter.unusedSimpArgs false

theorem sort_any {w : World} {b g cap n : Nat} {fs : List Int} (h : Nu w b (.slice (some ⟨g, 0, none⟩) n cap) n fs) (hn : n ≤ 1048576) :
    Calls Try.prog 41 #[.slice (some ⟨g, 0, none⟩) n cap] w fun e w' => e = .returned (.tuple #[]) ∧ Nu w' b (.slice (some ⟨g, 0, none⟩) n cap) n (fs.mergeSort fun x y => decide (x ≤ y)) ∧ w.grownBy w' (some g) := by
  have hf := h.flat
  rcases h.2 with ⟨h0, _⟩ | ⟨g', cap', cur, hv, hb, hg, h1, h2, h3, h4⟩
  · cases h0
  injection hv with e1 e2 e3
  injection e1 with e1
  injection e1 with e1
  subst e1
  subst e3
  subst hf
  have hH : Go.Sort.Holds (Value.int .i64) w g 0 fs.toArray := holds_of_blockI hg (by rw [Nat.mul_one] at h4; exact h4)
  refine (Try.slices_Sort_int g 0 cap fs w hH (lt_of_block hg) (by omega)).mono ?_
  rintro e w' ⟨rfl, n, os, rfl⟩
  exact ⟨rfl, ownsRow_sortedI (List.length_mergeSort _) hb hg h1 h2 h3, grownBy_sortedI _⟩

set_option maxHeartbeats 1600000 in
set_option maxRecDepth 100000 in
theorem implRoom (ns : List Int) (w : World) (h24 : ns.length = 24) :
    Calls Try.prog 21 #[row ns] w (RoomPost ns w) := by
  obtain ⟨i0, hi, hz0, hz1, hz2⟩ := infoN_parts infoN
  have HB := Lib.hid (((kept_refl w).alloc (.cells (ints ns).toArray 27)).alloc (.cells #[] 3))
  have H := (Has.box w 27 h24 (by omega)).alloc (.cells #[] 3)
  have P0 := Lib.hid (by have := nu_none (w.alloc (.cells (ints ns).toArray 27)) (w.heap.size + 1) (by simp); rwa [size1] at this)
  rw [row_ints]
  go_enter Try.func21, Try.ntmps21
  go_wp2_with (refine load_has rfl 27 _ rfl _ rfl ?_ 24 ?_ _ Try.underlying27 rfl ?_ ?_; rotate_left; (· (repeat (first | (with_reducible assumption) | ((with_reducible refine Has.box _ _ ?_ ?_) <;> (first | assumption | decide)) | (with_reducible refine Has.alloc ?_ _) | ((with_reducible refine Has.putOther ?_ _ _ ?_); rotate_left; omega; skip) | ((with_reducible refine Has.below ?_ ?_); rotate_left; assumption)))); (· kernel_rfl))
  refine (isRack_any ns _ h24).mono ?_
  rintro e w1 ⟨rfl, b1⟩
  replace H := H.below b1
  replace HB := Lib.hid (HB.out.call b1)
  replace P0 := Lib.hid (P0.out.below b1)
  clear b1
  by_cases hv : vR ns = true
  rotate_left
  · have hf : vR ns = false := by simpa using hv
    have E := Lib.hid hf
    have Z := Lib.hid (room_no hf)
    rw [hf]
    clear hf hv
    go_wp2_with fail
    go_ret2
    exact ⟨_, by rw [E.out]; rfl, by rw [Z.out.1, Z.out.2]; exact P0.out, HB.out⟩
  rw [hv]
  have E := Lib.hid hv
  have Z := Lib.hid (room_yes hv)
  have ZS := Lib.hid (bk_sort h24)
  have H24 := Lib.hid h24
  clear h24 hv
  go_wp2_with (refine load_has rfl 25 _ rfl _ rfl ?_ 24 ?_ _ Try.underlying25 rfl ?_ ?_; rotate_left; (· (repeat (first | (with_reducible assumption) | ((with_reducible refine Has.box _ _ ?_ ?_) <;> (first | assumption | decide)) | (with_reducible refine Has.alloc ?_ _) | ((with_reducible refine Has.putOther ?_ _ _ ?_); rotate_left; omega; skip) | ((with_reducible refine Has.below ?_ ?_); rotate_left; assumption)))); (· kernel_rfl))
  clear H
  go_loopw [4, 14] (fun u i wr => ∃ p : Nat, p ≤ 6 ∧ i = .int .i64 p ∧ Hid (Nu wr (w.heap.size + 1) u p (rmUp ns p)) ∧ Hid (Kept w wr)) (fun _ z _ => 6 - (intOf z).toNat)
  case atStart => exact ⟨0, by omega, rfl, P0, HB⟩
  case round =>
    clear P0 HB
    obtain ⟨p, hp, rfl, GU, GB⟩ := hrel
    rcases Nat.lt_or_ge p 6 with hp6 | hge
    · have hpi : (p : Int) < 6 := by omega
      have h4 := tub_len ns p H24.out hp6
      have hvt := vR_tub E.out p hp6
      have EA : Hid (rmA ns p = 4 - (lay (tub ns p) : Nat)) := Lib.hid rfl
      have SN : Hid (rmUp ns (p + 1) = rmUp ns p ++ [rmA ns p]) := Lib.hid rfl
      have g0 := indexTub ns p hp6
      have HT := Has.box wr 24 h4 (by omega)
      replace GU := Lib.hid (GU.out.alloc (.cells (ints (tub ns p)).toArray 24))
      replace GB := Lib.hid (GB.out.alloc (.cells (ints (tub ns p)).toArray 24))
      go_wp2_with (first | (refine store_new rfl 24 _ _ rfl _ _ _ rfl _ rfl _ rfl rfl ?_ ?_ ?_; (· (first | assumption | rfl)); (· kernel_rfl)) | (refine load_has rfl 24 _ rfl _ rfl ?_ 4 ?_ _ Try.underlying24 rfl ?_ ?_; rotate_left; (· (repeat (first | (with_reducible assumption) | ((with_reducible refine Has.box _ _ ?_ ?_) <;> (first | assumption | decide)) | (with_reducible refine Has.alloc ?_ _) | ((with_reducible refine Has.putOther ?_ _ _ ?_); rotate_left; omega; skip) | ((with_reducible refine Has.below ?_ ?_); rotate_left; assumption)))); (· kernel_rfl)))
      refine (room_any (tub ns p) _ h4 hvt).mono ?_
      rintro e w3 ⟨rfl, b3⟩
      rw [← EA.out]
      replace GU := Lib.hid (GU.out.below b3)
      replace GB := Lib.hid (GB.out.call b3)
      clear b3 hvt h4 HT g0 EA
      have hbs := GB.out.size
      have owu := Lib.hid (fun z hz => (GU.out.own z hz))
      generalize rmA ns p = x at *
      generalize rmUp ns p = M at *
      go_wp2_with (first | (at_builtin; refine wpList_append_own _ rfl _ _ 41 rfl (w.heap.size + 1) 3 i0 (.int .i64 0) 1 8 Try.underlying41 hi hz0 hz1 hz2 rfl (by decide) _ p (ints M) rfl (World.ownsRow.alloc GU.out _) ⟨w3.heap.size, 0, none⟩ 1 1 [.int .i64 x] rfl rfl (cell_one_new _ _ _) (fun x hx => by simp at hx; subst hx; rfl) (by unfold maxLen; omega) (by omega) (by simp; omega) ?_; intro v' w6 hown' hgrow3 hnil3))
      have F3 := Lib.hid (show Kept w w6 from (GB.out.alloc (.cells #[.int .i64 x] 3)).grown hgrow3 (by rw [size1]; omega) (fun j hj => by have := (owu.out j hj).1; omega))
      have F4 : Hid (Nu w6 (w.heap.size + 1) v' (p + 1) (rmUp ns (p + 1))) := Lib.hid (by rw [SN.out]; unfold Nu; rw [ints_more]; exact hown')
      clear hown' hgrow3 hnil3 GU GB owu
      go_wp2_with fail
      go_roundw
      case rel => exact ⟨p + 1, by omega, by go_num, F4, F3⟩
      case measure => simp [intOf]; omega
    · obtain rfl : p = 6 := by omega
      obtain ⟨g, cap, rfl, hbg, hgl⟩ := GU.out.form (by omega)
      go_wp2_with fail
      refine (sort_any GU.out (by omega)).mono ?_
      rintro e w4 ⟨rfl, q4, g4⟩
      replace GB := Lib.hid (show Kept w w4 from GB.out.grown g4 GB.out.size (fun j hj => by injection hj with hj; omega))
      rw [ZS.out] at q4
      have Q4 := Lib.hid q4
      clear q4 g4 GU
      go_wp2_with fail
      go_ret2
      exact ⟨_, by rw [E.out]; rfl, by rw [Z.out.1, Z.out.2]; exact Q4.out, GB.out⟩
end Go.Proofs.Ytmhkjakgdfadbaa.base
end
