/-
  The first order that takes a rack to another one, on the model's side, walked.
-/
import Derived.Test.YtjbphpjmpjkclabOrdI
import Derived.Test.YtjbphpjmpjkclabFormS
import Derived.Test.YtjbphpjmpjkclabSpecW
namespace Go.Proofs.Ytjbphpjmpjkclab.base
open Go.ChangeShapes Go.WideShapes Go.ChangeAt Go.RowKit
set_option linter.unusedVariables false
set_option linter.unusedSimpArgs false

/-- Which places are used. -/
def bl (os : List Nat) : List Value := (List.range 6).map (fun p => Value.bool (decide (p ∈ os)))
theorem bl_len (os : List Nat) : (bl os).length = 6 := by unfold bl; simp
theorem bl_at (os : List Nat) (p : Nat) (hp : p < 6) : (bl os)[p]? = some (.bool (decide (p ∈ os))) := by
  unfold bl; rw [List.getElem?_map, List.getElem?_range hp]; rfl
theorem bl_set (os : List Nat) (q : Nat) : (bl os).set q (.bool true) = bl (os ++ [q]) := by
  apply List.ext_getElem?
  intro j
  unfold bl
  rw [List.getElem?_set, List.getElem?_map, List.getElem?_map]
  simp only [List.length_map, List.length_range]
  by_cases e : q = j
  · subst e
    rw [if_pos rfl]
    by_cases h : q < 6
    · rw [if_pos h, List.getElem?_range h]; simp
    · rw [if_neg h, List.getElem?_eq_none (by simp; omega)]; rfl
  · rw [if_neg e]
    by_cases h : j < 6
    · rw [List.getElem?_range h]
      have e' : ¬ j = q := fun x => e x.symm
      simp [e']
    · rw [List.getElem?_eq_none (by simp; omega)]; rfl
theorem bl_one (os : List Nat) : ∀ v ∈ bl os, v.oneCell' = true := fun v hv => by
  obtain ⟨z, _, rfl⟩ := List.mem_map.1 hv; rfl
/-- The order so far. -/
def pad (os : List Nat) : List Int := (List.range 6).map (fun j => ((os.getD j 0 : Nat) : Int))
theorem pad_len (os : List Nat) : (pad os).length = 6 := by unfold pad; simp
theorem pad_set (os : List Nat) (q : Nat) (h : os.length < 6) : (pad os).set os.length (q : Int) = pad (os ++ [q]) := by
  apply List.ext_getElem?
  intro j
  unfold pad
  rw [List.getElem?_set, List.getElem?_map, List.getElem?_map]
  simp only [List.length_map, List.length_range]
  by_cases e : os.length = j
  · subst e
    rw [if_pos rfl, if_pos h, List.getElem?_range h]
    simp
  · rw [if_neg e]
    by_cases hj : j < 6
    · rw [List.getElem?_range hj]
      simp only [Option.map_some, Option.some.injEq, Int.natCast_inj]
      rw [List.getD_eq_getElem?_getD, List.getD_eq_getElem?_getD]
      by_cases hlt : j < os.length
      · rw [List.getElem?_append_left hlt]
      · rw [List.getElem?_eq_none (by omega), List.getElem?_eq_none (by simp; omega)]
    · rw [List.getElem?_eq_none (by simp; omega)]; rfl
theorem pad_ni (os : List Nat) (h : os.length = 6) : pad os = ni os := by
  apply List.ext_getElem?
  intro j
  unfold pad ni
  rw [List.getElem?_map, List.getElem?_map]
  by_cases hj : j < 6
  · rw [List.getElem?_range hj, List.getElem?_eq_getElem (by omega)]
    have e : os.getD j 0 = os[j] := by rw [List.getD_eq_getElem?_getD, List.getElem?_eq_getElem (by omega)]; rfl
    show some ((os.getD j 0 : Nat) : Int) = some ((os[j] : Nat) : Int)
    rw [e]
  · rw [List.getElem?_eq_none (by simp; omega), List.getElem?_eq_none (by omega)]; rfl
theorem fits_parts {a : List Int} {os : List Nat} {t : List Int} {q : Nat} : fits a os t q = true ↔ tub a q = t ∧ ¬ q ∈ os := by
  unfold fits; simp
theorem buildBools (w : World) : (Instr.build 43 #[]).run Try.prog w = .ok (.agg (bl []).toArray) w := by kernel_rfl
theorem toOk_form {a b : List Int} (h : ¬ formL a = formL b) : toOk a b = false := by
  unfold toOk; rw [decide_eq_false h, Bool.and_false]

def isSt6 (T : TypeId) : Op → Bool
  | .store t _ _ => t == T
  | _ => false
set_option maxHeartbeats 400000 in
set_option maxRecDepth 100000 in
theorem specOrderTo (a b : List Int) (w : World) (ha : a.length = 24) (hb : b.length = 24) :
    Calls Try.prog 9 #[row a, row b] w fun e w' => e = .returned (.tuple #[.agg (ints (toR a b)).toArray, .bool (toOk a b)]) ∧ Kept w w' := by
  have HB := Lib.hid ((((kept_refl w).alloc (.cells (ints a).toArray 29)).alloc (.cells (ints b).toArray 29)).alloc (.cells #[.int .i64 0, .int .i64 0, .int .i64 0, .int .i64 0, .int .i64 0, .int .i64 0] 26))
  have H := ((Has.box w 29 ha (by omega)).alloc (.cells (ints b).toArray 29)).alloc (.cells #[.int .i64 0, .int .i64 0, .int .i64 0, .int .i64 0, .int .i64 0, .int .i64 0] 26)
  have G := ((Has.box (w.alloc (.cells (ints a).toArray 29)) 29 hb (by omega)).at (size1 _ _)).alloc (.cells #[.int .i64 0, .int .i64 0, .int .i64 0, .int .i64 0, .int .i64 0, .int .i64 0] 26)
  have Z := (Has.zero6x ((w.alloc (.cells (ints a).toArray 29)).alloc (.cells (ints b).toArray 29)) 26).at (c := w.heap.size + 1 + 1) (by simp)
  have hz : z6x.length = 6 := rfl
  have hia : (Try.prog.info? 29).map (·.size) = some (ints a).length := by rw [ints_len, ha]; kernel_rfl
  have hib : (Try.prog.info? 29).map (·.size) = some (ints b).length := by rw [ints_len, hb]; kernel_rfl
  have HMR : Hid (Try.prog.eqGuardType Try.prog.depth 29 = false) := Lib.hid (by kernel_rfl)
  have HMT : Hid (Try.prog.eqGuardType Try.prog.depth 22 = false) := Lib.hid (by kernel_rfl)
  have EQR := Lib.hid (eqRackT (formL a) (formL b) (formL_len a ha) (formL_len b hb))
  rw [row_ints, row_ints]
  go_enter Try.func9, Try.ntmps9
  go_wp2_with fail
  refine wp_region_held_drew (S := fun w' => Has w' w.heap.size a 24 ∧ Has w' (w.heap.size + 1) b 24 ∧ Has w' (w.heap.size + 1 + 1) z6x 6 ∧ Kept w w') (by kernel_rfl) ⟨H.drew, G.drew, Z.drew, HB.out.drewN 1⟩ (fun hHeld => ?_)
  clear H G Z HB
  (refine wpAnyH_take (i := 0) (v := _) rfl (by kernel_rfl) (by kernel_rfl) (by kernel_rfl) (fun _ _ _ h => h) (yieldsIf_load_mid (by rfl) 29 _ rfl _ _ rfl (ints a) _ (fun w' hSw => hSw.1.holds.range) Try.underlying29 rfl (hia)) hHeld ?_; (try simp only [List.getElem_toArray, List.getElem_cons_zero, List.getElem_cons_succ, Act.put, List.setIfInBounds_toArray, List.set_cons_zero, List.set_cons_succ]))
  (refine wpAnyH_ready (rs := [1]) (by kernel_rfl) (by simp) ?_; refine AllReadyH.cons (o := _) rfl (fun K hK => ?_) AllReadyH.nil; (simp only [List.getElem_toArray, List.getElem_cons_zero, List.getElem_cons_succ, Region.wanted, if_true]))
  go_simp
  refine (l2Rack_any a _ ha).mono ?_
  rintro e w1 ⟨rfl, b1⟩
  dsimp only
  (try simp only [List.getElem_toArray, List.getElem_cons_zero, List.getElem_cons_succ, Act.put, List.setIfInBounds_toArray, List.set_cons_zero, List.set_cons_succ])
  refine hK.out _ _ ⟨hHeld.1.below b1, hHeld.2.1.below b1, hHeld.2.2.1.below b1, hHeld.2.2.2.call b1⟩ (fun hHeld => ?_)
  clear hK K b1
  by_cases va : vR a = true
  · rw [va]
    (refine wpAnyH_take (i := 2) (v := ?_) rfl (by kernel_rfl) (by kernel_rfl) (by kernel_rfl) (fun _ _ _ h => h) (Or.inl ⟨by rfl, ?_⟩) hHeld ?_; rotate_left; (· (intro w' hSw; go_simp; try with_reducible rfl)); (try simp only [List.getElem_toArray, List.getElem_cons_zero, List.getElem_cons_succ, Act.put, List.setIfInBounds_toArray, List.set_cons_zero, List.set_cons_succ])); (refine wpAnyH_take (i := 3) (v := ?_) rfl (by kernel_rfl) (by kernel_rfl) (by kernel_rfl) (fun _ _ _ h => h) (Or.inl ⟨by rfl, ?_⟩) hHeld ?_; rotate_left; (· (intro w' hSw; go_simp; try with_reducible rfl)); (try simp only [List.getElem_toArray, List.getElem_cons_zero, List.getElem_cons_succ, Act.put, List.setIfInBounds_toArray, List.set_cons_zero, List.set_cons_succ]))
    (refine wpAnyH_take (i := 4) (v := _) rfl (by kernel_rfl) (by kernel_rfl) (by kernel_rfl) (fun _ _ _ h => h) (yieldsIf_load_mid (by rfl) 29 _ rfl _ _ rfl (ints b) _ (fun w' hSw => hSw.2.1.holds.range) Try.underlying29 rfl (hib)) hHeld ?_; (try simp only [List.getElem_toArray, List.getElem_cons_zero, List.getElem_cons_succ, Act.put, List.setIfInBounds_toArray, List.set_cons_zero, List.set_cons_succ]))
    (refine wpAnyH_ready (rs := [5]) (by kernel_rfl) (by simp) ?_; refine AllReadyH.cons (o := _) rfl (fun K hK => ?_) AllReadyH.nil; (simp only [List.getElem_toArray, List.getElem_cons_zero, List.getElem_cons_succ, Region.wanted, if_true]))
    go_simp
    refine (l2Rack_any b _ hb).mono ?_
    rintro e w2 ⟨rfl, b2⟩
    dsimp only
    (try simp only [List.getElem_toArray, List.getElem_cons_zero, List.getElem_cons_succ, Act.put, List.setIfInBounds_toArray, List.set_cons_zero, List.set_cons_succ])
    refine hK.out _ _ ⟨hHeld.1.below b2, hHeld.2.1.below b2, hHeld.2.2.1.below b2, hHeld.2.2.2.call b2⟩ (fun hHeld => ?_)
    clear hK K b2
    by_cases vb : vR b = true
    · rw [vb]
      (refine wpAnyH_take (i := 6) (v := ?_) rfl (by kernel_rfl) (by kernel_rfl) (by kernel_rfl) (fun _ _ _ h => h) (Or.inl ⟨by rfl, ?_⟩) hHeld ?_; rotate_left; (· (intro w' hSw; go_simp; try with_reducible rfl)); (try simp only [List.getElem_toArray, List.getElem_cons_zero, List.getElem_cons_succ, Act.put, List.setIfInBounds_toArray, List.set_cons_zero, List.set_cons_succ])); (refine wpAnyH_take (i := 7) (v := ?_) rfl (by kernel_rfl) (by kernel_rfl) (by kernel_rfl) (fun _ _ _ h => h) (Or.inl ⟨by rfl, ?_⟩) hHeld ?_; rotate_left; (· (intro w' hSw; go_simp; try with_reducible rfl)); (try simp only [List.getElem_toArray, List.getElem_cons_zero, List.getElem_cons_succ, Act.put, List.setIfInBounds_toArray, List.set_cons_zero, List.set_cons_succ])); (refine wpAnyH_take (i := 8) (v := ?_) rfl (by kernel_rfl) (by kernel_rfl) (by kernel_rfl) (fun _ _ _ h => h) (Or.inl ⟨by rfl, ?_⟩) hHeld ?_; rotate_left; (· (intro w' hSw; go_simp; try with_reducible rfl)); (try simp only [List.getElem_toArray, List.getElem_cons_zero, List.getElem_cons_succ, Act.put, List.setIfInBounds_toArray, List.set_cons_zero, List.set_cons_succ]))
      (refine wpAnyH_take (i := 9) (v := _) rfl (by kernel_rfl) (by kernel_rfl) (by kernel_rfl) (fun _ _ _ h => h) (yieldsIf_load_mid (by rfl) 29 _ rfl _ _ rfl (ints a) _ (fun w' hSw => hSw.1.holds.range) Try.underlying29 rfl (hia)) hHeld ?_; (try simp only [List.getElem_toArray, List.getElem_cons_zero, List.getElem_cons_succ, Act.put, List.setIfInBounds_toArray, List.set_cons_zero, List.set_cons_succ]))
      (refine wpAnyH_take (i := 11) (v := _) rfl (by kernel_rfl) (by kernel_rfl) (by kernel_rfl) (fun _ _ _ h => h) (yieldsIf_load_mid (by rfl) 29 _ rfl _ _ rfl (ints b) _ (fun w' hSw => hSw.2.1.holds.range) Try.underlying29 rfl (hib)) hHeld ?_; (try simp only [List.getElem_toArray, List.getElem_cons_zero, List.getElem_cons_succ, Act.put, List.setIfInBounds_toArray, List.set_cons_zero, List.set_cons_succ]))
      (refine wpAnyH_ready (rs := [10]) (by kernel_rfl) (by simp) ?_; refine AllReadyH.cons (o := _) rfl (fun K hK => ?_) AllReadyH.nil; (simp only [List.getElem_toArray, List.getElem_cons_zero, List.getElem_cons_succ, Region.wanted, if_true]))
      go_simp
      refine (l3Form_any a _ ha).mono ?_
      rintro e w3 ⟨rfl, b3⟩
      dsimp only
      (try simp only [List.getElem_toArray, List.getElem_cons_zero, List.getElem_cons_succ, Act.put, List.setIfInBounds_toArray, List.set_cons_zero, List.set_cons_succ])
      refine hK.out _ _ ⟨hHeld.1.below b3, hHeld.2.1.below b3, hHeld.2.2.1.below b3, hHeld.2.2.2.call b3⟩ (fun hHeld => ?_)
      clear hK K b3
      (refine wpAnyH_ready (rs := [12]) (by kernel_rfl) (by simp) ?_; refine AllReadyH.cons (o := _) rfl (fun K hK => ?_) AllReadyH.nil; (simp only [List.getElem_toArray, List.getElem_cons_zero, List.getElem_cons_succ, Region.wanted, if_true]))
      go_simp
      refine (l3Form_any b _ hb).mono ?_
      rintro e w4 ⟨rfl, b4⟩
      dsimp only
      (try simp only [List.getElem_toArray, List.getElem_cons_zero, List.getElem_cons_succ, Act.put, List.setIfInBounds_toArray, List.set_cons_zero, List.set_cons_succ])
      refine hK.out _ _ ⟨hHeld.1.below b4, hHeld.2.1.below b4, hHeld.2.2.1.below b4, hHeld.2.2.2.call b4⟩ (fun hHeld => ?_)
      clear hK K b4
      by_cases hf : formL a = formL b
      · have E := Lib.hid (show (!decide (formL a = formL b)) = false by rw [decide_eq_true hf]; rfl)
        refine wpAnyH_take (i := 13) (v := .bool false) rfl (by kernel_rfl) (by kernel_rfl) (by kernel_rfl) (fun _ _ _ h => h) (Or.inl ⟨by rfl, fun w' hSw => neq_is_run _ _ _ _ _ _ rfl _ _ rfl rfl HMR.out EQR.out false E.out⟩) hHeld ?_
        (try simp only [List.getElem_toArray, List.getElem_cons_zero, List.getElem_cons_succ, Act.put, List.setIfInBounds_toArray, List.set_cons_zero, List.set_cons_succ])
        (refine wpAnyH_take (i := 14) (v := ?_) rfl (by kernel_rfl) (by kernel_rfl) (by kernel_rfl) (fun _ _ _ h => h) (Or.inl ⟨by rfl, ?_⟩) hHeld ?_; rotate_left; (· (intro w' hSw; go_simp; try with_reducible rfl)); (try simp only [List.getElem_toArray, List.getElem_cons_zero, List.getElem_cons_succ, Act.put, List.setIfInBounds_toArray, List.set_cons_zero, List.set_cons_succ]))
        refine wpAnyH_done (by kernel_rfl) ?_ _
        have VF := Lib.hid (And.intro va (And.intro vb hf))
        have LA := Lib.hid ha
        have LB := Lib.hid hb
        obtain ⟨H, G, Z, HB⟩ := hHeld
        replace HB := Lib.hid HB
        have hlt := Z.lt
        have HBB := Lib.hid buildBools
        have hb0 : (bl []).length = 6 := bl_len []
        have hbs : (bl []).toArray.size = 6 := by rw [List.size_toArray]; exact hb0
        have hiB : Hid ((Try.prog.info? 43).map (·.size) = some (bl []).toArray.size) := Lib.hid (by rw [hbs]; kernel_rfl)
        have hO1 := Lib.hid (all_oneCell_toArray (bl_one []))
        have FA := (Has.zero6x w4 26).alloc (.cells #[.bool false, .bool false, .bool false, .bool false, .bool false, .bool false] 43)
        have FB : Holds ((w4.alloc (.cells #[.int .i64 0, .int .i64 0, .int .i64 0, .int .i64 0, .int .i64 0, .int .i64 0] 26)).alloc (.cells #[.bool false, .bool false, .bool false, .bool false, .bool false, .bool false] 43)) (w4.heap.size + 1) (bl []) := by
          have := Holds.new (w4.alloc (.cells #[.int .i64 0, .int .i64 0, .int .i64 0, .int .i64 0, .int .i64 0, .int .i64 0] 26)) #[.bool false, .bool false, .bool false, .bool false, .bool false, .bool false] 43
          rw [size1] at this; exact this
        have FB2 := FB.putOther (b' := w4.heap.size) 0 (ints z6x) (by omega)
        have T2 : Hid (((w4.alloc (.cells #[.int .i64 0, .int .i64 0, .int .i64 0, .int .i64 0, .int .i64 0, .int .i64 0] 26)).alloc (.cells #[.bool false, .bool false, .bool false, .bool false, .bool false, .bool false] 43)).setCells w4.heap.size 0 (ints z6x) |>.there (w4.heap.size + 1) 0 (bl []).toArray.size) := Lib.hid (by have := FB2.there; rw [hb0] at this; rw [hbs]; exact this)
        have FB3 : Hid (Holds ((((w4.alloc (.cells #[.int .i64 0, .int .i64 0, .int .i64 0, .int .i64 0, .int .i64 0, .int .i64 0] 26)).alloc (.cells #[.bool false, .bool false, .bool false, .bool false, .bool false, .bool false] 43)).setCells w4.heap.size 0 (ints z6x)).setCells (w4.heap.size + 1) 0 (bl [])) (w4.heap.size + 1) (bl [])) := Lib.hid (by
          have := FB2.put 0 (bl []) (by rw [hb0]; omega)
          rw [List.take_zero, List.nil_append, Nat.zero_add, List.drop_of_length_le (Nat.le_refl _), List.append_nil] at this; exact this)
        have FA3 := Lib.hid (((FA.putAll z6x rfl).putOther (b' := w4.heap.size + 1) 0 (bl []) (by omega)).asL (show z6x = pad [] from rfl))
        have H3 := Lib.hid ((((H.alloc (.cells #[.int .i64 0, .int .i64 0, .int .i64 0, .int .i64 0, .int .i64 0, .int .i64 0] 26)).alloc (.cells #[.bool false, .bool false, .bool false, .bool false, .bool false, .bool false] 43)).putOther (b' := w4.heap.size) 0 (ints z6x) (by omega)).putOther (b' := w4.heap.size + 1) 0 (bl []) (by omega))
        have G3 := Lib.hid ((((G.alloc (.cells #[.int .i64 0, .int .i64 0, .int .i64 0, .int .i64 0, .int .i64 0, .int .i64 0] 26)).alloc (.cells #[.bool false, .bool false, .bool false, .bool false, .bool false, .bool false] 43)).putOther (b' := w4.heap.size) 0 (ints z6x) (by omega)).putOther (b' := w4.heap.size + 1) 0 (bl []) (by omega))
        have Z3 := Lib.hid ((((Z.alloc (.cells #[.int .i64 0, .int .i64 0, .int .i64 0, .int .i64 0, .int .i64 0, .int .i64 0] 26)).alloc (.cells #[.bool false, .bool false, .bool false, .bool false, .bool false, .bool false] 43)).putOther (b' := w4.heap.size) 0 (ints z6x) (by omega)).putOther (b' := w4.heap.size + 1) 0 (bl []) (by omega))
        have B3 := Lib.hid ((((HB.out.alloc (.cells #[.int .i64 0, .int .i64 0, .int .i64 0, .int .i64 0, .int .i64 0, .int .i64 0] 26)).alloc (.cells #[.bool false, .bool false, .bool false, .bool false, .bool false, .bool false] 43)).puts (b := w4.heap.size) (by omega) 0 (ints z6x)).puts (b := w4.heap.size + 1) (by omega) 0 (bl []))
        clear va vb hf E EQR HMR hia hib H G Z HB FB FB2
        generalize hbb : bl [] = bs at *
        have HBZ := Lib.hid hbb
        clear hbb
        go_wp2_with (first | (refine build_law rfl 26 rfl _ build6o ?_) | (refine build_law rfl 43 rfl _ HBB.out ?_) | (refine guard_at (isSt6 26) ?_ ?_; (· rfl); (refine store_at rfl 26 _ _ rfl _ _ rfl rfl ?_ 6 ?_ ?_ ?_ ?_; rotate_left; (· (repeat (first | (with_reducible assumption) | ((with_reducible refine Has.box _ _ ?_ ?_) <;> (first | assumption | decide)) | (with_reducible refine Has.alloc ?_ _) | ((with_reducible refine Has.putOther ?_ _ _ ?_); rotate_left; omega; skip) | ((with_reducible refine Has.below ?_ ?_); rotate_left; assumption)))); (· (first | assumption | rfl)); (· kernel_rfl))) | (refine guard_at (isSt6 43) ?_ ?_; (· rfl); refine wpList_store_mid rfl 43 _ _ rfl (w4.heap.size + 1) 0 bs.toArray rfl rfl T2.out hiB.out hO1.out ?_))
        clear FA T2
        have H := H3.out
        have G := G3.out
        have Z := Z3.out
        have FA := FA3.out
        clear H3 G3 Z3 FA3
        generalize ((((w4.alloc (.cells #[.int .i64 0, .int .i64 0, .int .i64 0, .int .i64 0, .int .i64 0, .int .i64 0] 26)).alloc (.cells #[.bool false, .bool false, .bool false, .bool false, .bool false, .bool false] 43)).setCells w4.heap.size 0 (ints z6x)).setCells (w4.heap.size + 1) 0 bs) = W at *
        generalize w4.heap.size = gA at *
        have FU : Hid (Holds W (gA + 1) (bl [])) := Lib.hid (by rw [HBZ.out]; exact FB3.out)
        clear FB3 HBZ HBB hiB hO1 hb0 hbs ha hb
        go_loopg [8, 9] 6 (fun gk i kk wr => ∃ (k : Nat) (os : List Nat), gk = 6 - k ∧ k ≤ 6 ∧ i = .int .i64 k ∧ os.length = k ∧ Hid (ordTo a b k = some os) ∧ Has wr w.heap.size a 24 ∧ Has wr (w.heap.size + 1) b 24 ∧ Has wr (w.heap.size + 1 + 1) z6x 6 ∧ Has wr gA (pad os) 6 ∧ Hid (Holds wr (gA + 1) (bl os)) ∧ Hid (Kept w wr))
        case atStart => exact ⟨0, [], rfl, by omega, rfl, rfl, Lib.hid rfl, H, G, Z, FA, FU, B3⟩
        case round =>
          obtain ⟨k, os, rfl, hk, rfl, hol, GO, GH, GG, GZ, GA, GU, GB⟩ := hrel
          by_cases hk6 : k < 6
          · have hki : (k : Int) < 6 := by omega
            have hF := ordTo_next LA.out LB.out VF.out.2.2 hk6 GO.out
            have h4 := tub_len b k LB.out hk6
            have l2 : (ints (tub b k)).length = 4 := by rw [ints_len]; exact h4
            have hi2 : (Try.prog.info? 22).map (·.size) = some (ints (tub b k)).length := by rw [l2]; kernel_rfl
            have SP : Hid (fits a os (tub b k) (fstAt a os (tub b k)) = true ∧ ∀ q, q < fstAt a os (tub b k) → fits a os (tub b k) q = false) := Lib.hid (by
              rcases fstAt_spec a os (tub b k) with ⟨h1, _⟩ | ⟨_, h2, h3⟩
              · omega
              · exact ⟨h2, h3⟩)
            have O2 := Lib.hid (show ordTo a b (k + 1) = some (os ++ [fstAt a os (tub b k)]) by rw [ordTo_succ GO.out, if_neg (by omega)])
            generalize fstAt a os (tub b k) = F at *
            go_wp2_with fail
            go_loopg [9] 6 (fun gk kk wq => ∃ q : Nat, gk = 6 - q ∧ q ≤ F ∧ kk = .int .i64 q ∧ Has wq w.heap.size a 24 ∧ Has wq (w.heap.size + 1) b 24 ∧ Has wq (w.heap.size + 1 + 1) z6x 6 ∧ Has wq gA (pad os) 6 ∧ Hid (Holds wq (gA + 1) (bl os)) ∧ Hid (Kept w wq))
            case atStart => exact ⟨0, rfl, by omega, rfl, GH, GG, GZ, GA, GU, GB⟩
            case round =>
              obtain ⟨q, rfl, hq, rfl, QH, QG, QZ, QA, QU, QB⟩ := hrel
              have hq6 : q < 6 := by omega
              have hqi : (q : Int) < 6 := by omega
              have s4 := tub_len a q LA.out hq6
              have l1 : (ints (tub a q)).length = 4 := by rw [ints_len]; exact s4
              have hi1 : (Try.prog.info? 22).map (·.size) = some (ints (tub a q)).length := by rw [l1]; kernel_rfl
              have EQ := Lib.hid (eqArr4 (tub a q) (tub b k) s4 h4)
              have BA := Lib.hid (bl_at os q hq6)
              go_wp2_with fail
              refine wp_region_held_drew (S := fun w' => Has w' w.heap.size a 24 ∧ Has w' (w.heap.size + 1) b 24 ∧ Has w' (w.heap.size + 1 + 1) z6x 6 ∧ Has w' gA (pad os) 6 ∧ Holds w' (gA + 1) (bl os) ∧ Kept w w') (by kernel_rfl) ⟨QH.drew, QG.drew, QZ.drew, QA.drew, QU.out.drew, QB.out.drewN 1⟩ (fun hHeld => ?_)
              generalize hWD : World.drew wr = WD at *
              clear hWD QH QG QZ QA QU QB
              (refine wpAnyH_take (i := 0) (v := ?_) rfl (by kernel_rfl) (by kernel_rfl) (by kernel_rfl) (fun _ _ _ h => h) (Or.inl ⟨by rfl, ?_⟩) hHeld ?_; rotate_left; (· (intro w' hSw; go_simp; try with_reducible rfl)); (try simp only [List.getElem_toArray, List.getElem_cons_zero, List.getElem_cons_succ, Act.put, List.setIfInBounds_toArray, List.set_cons_zero, List.set_cons_succ])); (refine wpAnyH_take (i := 1) (v := ?_) rfl (by kernel_rfl) (by kernel_rfl) (by kernel_rfl) (fun _ _ _ h => h) (Or.inl ⟨by rfl, ?_⟩) hHeld ?_; rotate_left; (· (intro w' hSw; go_simp; try with_reducible rfl)); (try simp only [List.getElem_toArray, List.getElem_cons_zero, List.getElem_cons_succ, Act.put, List.setIfInBounds_toArray, List.set_cons_zero, List.set_cons_succ]))
              refine wpAnyH_take (i := 2) (v := .bool (decide (q ∈ os))) rfl (by kernel_rfl) (by kernel_rfl) (by kernel_rfl) (fun _ _ _ h => h) (Or.inl ⟨by rfl, ?_⟩) hHeld ?_
              · intro w' hSw
                have cc := hSw.2.2.2.2.1.cellAt BA.out
                go_simp
              (try simp only [List.getElem_toArray, List.getElem_cons_zero, List.getElem_cons_succ, Act.put, List.setIfInBounds_toArray, List.set_cons_zero, List.set_cons_succ])
              by_cases hm : q ∈ os
              · rw [decide_eq_true hm]
                (refine wpAnyH_take (i := 3) (v := ?_) rfl (by kernel_rfl) (by kernel_rfl) (by kernel_rfl) (fun _ _ _ h => h) (Or.inl ⟨by rfl, ?_⟩) hHeld ?_; rotate_left; (· (intro w' hSw; go_simp; try with_reducible rfl)); (try simp only [List.getElem_toArray, List.getElem_cons_zero, List.getElem_cons_succ, Act.put, List.setIfInBounds_toArray, List.set_cons_zero, List.set_cons_succ]))
                (refine wpAnyH_take (i := 4) (v := undef) rfl (by kernel_rfl) (by kernel_rfl) (by kernel_rfl) (fun _ _ _ h => h) (Or.inr ⟨by rfl, rfl⟩) hHeld ?_; (try simp only [List.getElem_toArray, List.getElem_cons_zero, List.getElem_cons_succ, Act.put, List.setIfInBounds_toArray, List.set_cons_zero, List.set_cons_succ])); (refine wpAnyH_take (i := 5) (v := undef) rfl (by kernel_rfl) (by kernel_rfl) (by kernel_rfl) (fun _ _ _ h => h) (Or.inr ⟨by rfl, rfl⟩) hHeld ?_; (try simp only [List.getElem_toArray, List.getElem_cons_zero, List.getElem_cons_succ, Act.put, List.setIfInBounds_toArray, List.set_cons_zero, List.set_cons_succ])); (refine wpAnyH_take (i := 6) (v := undef) rfl (by kernel_rfl) (by kernel_rfl) (by kernel_rfl) (fun _ _ _ h => h) (Or.inr ⟨by rfl, rfl⟩) hHeld ?_; (try simp only [List.getElem_toArray, List.getElem_cons_zero, List.getElem_cons_succ, Act.put, List.setIfInBounds_toArray, List.set_cons_zero, List.set_cons_succ])); (refine wpAnyH_take (i := 7) (v := undef) rfl (by kernel_rfl) (by kernel_rfl) (by kernel_rfl) (fun _ _ _ h => h) (Or.inr ⟨by rfl, rfl⟩) hHeld ?_; (try simp only [List.getElem_toArray, List.getElem_cons_zero, List.getElem_cons_succ, Act.put, List.setIfInBounds_toArray, List.set_cons_zero, List.set_cons_succ])); (refine wpAnyH_take (i := 8) (v := undef) rfl (by kernel_rfl) (by kernel_rfl) (by kernel_rfl) (fun _ _ _ h => h) (Or.inr ⟨by rfl, rfl⟩) hHeld ?_; (try simp only [List.getElem_toArray, List.getElem_cons_zero, List.getElem_cons_succ, Act.put, List.setIfInBounds_toArray, List.set_cons_zero, List.set_cons_succ])); (refine wpAnyH_take (i := 9) (v := undef) rfl (by kernel_rfl) (by kernel_rfl) (by kernel_rfl) (fun _ _ _ h => h) (Or.inr ⟨by rfl, rfl⟩) hHeld ?_; (try simp only [List.getElem_toArray, List.getElem_cons_zero, List.getElem_cons_succ, Act.put, List.setIfInBounds_toArray, List.set_cons_zero, List.set_cons_succ])); (refine wpAnyH_take (i := 10) (v := undef) rfl (by kernel_rfl) (by kernel_rfl) (by kernel_rfl) (fun _ _ _ h => h) (Or.inr ⟨by rfl, rfl⟩) hHeld ?_; (try simp only [List.getElem_toArray, List.getElem_cons_zero, List.getElem_cons_succ, Act.put, List.setIfInBounds_toArray, List.set_cons_zero, List.set_cons_succ])); (refine wpAnyH_take (i := 11) (v := undef) rfl (by kernel_rfl) (by kernel_rfl) (by kernel_rfl) (fun _ _ _ h => h) (Or.inr ⟨by rfl, rfl⟩) hHeld ?_; (try simp only [List.getElem_toArray, List.getElem_cons_zero, List.getElem_cons_succ, Act.put, List.setIfInBounds_toArray, List.set_cons_zero, List.set_cons_succ])); (refine wpAnyH_take (i := 12) (v := undef) rfl (by kernel_rfl) (by kernel_rfl) (by kernel_rfl) (fun _ _ _ h => h) (Or.inr ⟨by rfl, rfl⟩) hHeld ?_; (try simp only [List.getElem_toArray, List.getElem_cons_zero, List.getElem_cons_succ, Act.put, List.setIfInBounds_toArray, List.set_cons_zero, List.set_cons_succ]))
                (refine wpAnyH_take (i := 13) (v := ?_) rfl (by kernel_rfl) (by kernel_rfl) (by kernel_rfl) (fun _ _ _ h => h) (Or.inl ⟨by rfl, ?_⟩) hHeld ?_; rotate_left; (· (intro w' hSw; go_simp; try with_reducible rfl)); (try simp only [List.getElem_toArray, List.getElem_cons_zero, List.getElem_cons_succ, Act.put, List.setIfInBounds_toArray, List.set_cons_zero, List.set_cons_succ]))
                refine wpAnyH_done (by kernel_rfl) ?_ _
                have hlt2 : q < F := by
                  rcases Nat.lt_or_ge q F with h | h
                  · exact h
                  · have : q = F := by omega
                    exact absurd hm (fits_parts.1 (this ▸ SP.out.1)).2
                obtain ⟨D1, D2, D3, D4, D5, D6⟩ := hHeld
                replace D5 := Lib.hid D5
                replace D6 := Lib.hid D6
                clear hm EQ BA hi1 l1
                go_wp2_with fail
                go_roundg (6 - (q + 1))
                case rel => exact ⟨q + 1, rfl, by omega, by go_num, D1, D2, D3, D4, D5, D6⟩
                case measure => omega
              · rw [decide_eq_false hm]
                (refine wpAnyH_take (i := 3) (v := ?_) rfl (by kernel_rfl) (by kernel_rfl) (by kernel_rfl) (fun _ _ _ h => h) (Or.inl ⟨by rfl, ?_⟩) hHeld ?_; rotate_left; (· (intro w' hSw; go_simp; try with_reducible rfl)); (try simp only [List.getElem_toArray, List.getElem_cons_zero, List.getElem_cons_succ, Act.put, List.setIfInBounds_toArray, List.set_cons_zero, List.set_cons_succ])); (refine wpAnyH_take (i := 4) (v := ?_) rfl (by kernel_rfl) (by kernel_rfl) (by kernel_rfl) (fun _ _ _ h => h) (Or.inl ⟨by rfl, ?_⟩) hHeld ?_; rotate_left; (· (intro w' hSw; go_simp; try with_reducible rfl)); (try simp only [List.getElem_toArray, List.getElem_cons_zero, List.getElem_cons_succ, Act.put, List.setIfInBounds_toArray, List.set_cons_zero, List.set_cons_succ])); (refine wpAnyH_take (i := 5) (v := ?_) rfl (by kernel_rfl) (by kernel_rfl) (by kernel_rfl) (fun _ _ _ h => h) (Or.inl ⟨by rfl, ?_⟩) hHeld ?_; rotate_left; (· (intro w' hSw; go_simp; try with_reducible rfl)); (try simp only [List.getElem_toArray, List.getElem_cons_zero, List.getElem_cons_succ, Act.put, List.setIfInBounds_toArray, List.set_cons_zero, List.set_cons_succ])); (refine wpAnyH_take (i := 6) (v := ?_) rfl (by kernel_rfl) (by kernel_rfl) (by kernel_rfl) (fun _ _ _ h => h) (Or.inl ⟨by rfl, ?_⟩) hHeld ?_; rotate_left; (· (intro w' hSw; go_simp; try with_reducible rfl)); (try simp only [List.getElem_toArray, List.getElem_cons_zero, List.getElem_cons_succ, Act.put, List.setIfInBounds_toArray, List.set_cons_zero, List.set_cons_succ])); (refine wpAnyH_take (i := 8) (v := ?_) rfl (by kernel_rfl) (by kernel_rfl) (by kernel_rfl) (fun _ _ _ h => h) (Or.inl ⟨by rfl, ?_⟩) hHeld ?_; rotate_left; (· (intro w' hSw; go_simp; try with_reducible rfl)); (try simp only [List.getElem_toArray, List.getElem_cons_zero, List.getElem_cons_succ, Act.put, List.setIfInBounds_toArray, List.set_cons_zero, List.set_cons_succ])); (refine wpAnyH_take (i := 9) (v := ?_) rfl (by kernel_rfl) (by kernel_rfl) (by kernel_rfl) (fun _ _ _ h => h) (Or.inl ⟨by rfl, ?_⟩) hHeld ?_; rotate_left; (· (intro w' hSw; go_simp; try with_reducible rfl)); (try simp only [List.getElem_toArray, List.getElem_cons_zero, List.getElem_cons_succ, Act.put, List.setIfInBounds_toArray, List.set_cons_zero, List.set_cons_succ])); (refine wpAnyH_take (i := 10) (v := ?_) rfl (by kernel_rfl) (by kernel_rfl) (by kernel_rfl) (fun _ _ _ h => h) (Or.inl ⟨by rfl, ?_⟩) hHeld ?_; rotate_left; (· (intro w' hSw; go_simp; try with_reducible rfl)); (try simp only [List.getElem_toArray, List.getElem_cons_zero, List.getElem_cons_succ, Act.put, List.setIfInBounds_toArray, List.set_cons_zero, List.set_cons_succ]))
                (refine wpAnyH_take (i := 7) (v := _) rfl (by kernel_rfl) (by kernel_rfl) (by kernel_rfl) (fun _ _ _ h => h) (yieldsIf_load_mid (by rfl) 22 _ rfl _ _ rfl (ints (tub a q)) _ (fun w' hSw => hSw.1.holds.sub (q * 4) 4) Try.underlying22 rfl (hi1)) hHeld ?_; (try simp only [List.getElem_toArray, List.getElem_cons_zero, List.getElem_cons_succ, Act.put, List.setIfInBounds_toArray, List.set_cons_zero, List.set_cons_succ]))
                (refine wpAnyH_take (i := 11) (v := _) rfl (by kernel_rfl) (by kernel_rfl) (by kernel_rfl) (fun _ _ _ h => h) (yieldsIf_load_mid (by rfl) 22 _ rfl _ _ rfl (ints (tub b k)) _ (fun w' hSw => hSw.2.1.holds.sub (k * 4) 4) Try.underlying22 rfl (hi2)) hHeld ?_; (try simp only [List.getElem_toArray, List.getElem_cons_zero, List.getElem_cons_succ, Act.put, List.setIfInBounds_toArray, List.set_cons_zero, List.set_cons_succ]))
                by_cases e : tub a q = tub b k
                · have E := Lib.hid (show (!decide (tub a q = tub b k)) = false by rw [decide_eq_true e]; rfl)
                  refine wpAnyH_take (i := 12) (v := .bool false) rfl (by kernel_rfl) (by kernel_rfl) (by kernel_rfl) (fun _ _ _ h => h) (Or.inl ⟨by rfl, fun w' hSw => neq_is_run _ _ _ _ _ _ rfl _ _ rfl rfl HMT.out EQ.out false E.out⟩) hHeld ?_
                  (try simp only [List.getElem_toArray, List.getElem_cons_zero, List.getElem_cons_succ, Act.put, List.setIfInBounds_toArray, List.set_cons_zero, List.set_cons_succ])
                  (refine wpAnyH_take (i := 13) (v := ?_) rfl (by kernel_rfl) (by kernel_rfl) (by kernel_rfl) (fun _ _ _ h => h) (Or.inl ⟨by rfl, ?_⟩) hHeld ?_; rotate_left; (· (intro w' hSw; go_simp; try with_reducible rfl)); (try simp only [List.getElem_toArray, List.getElem_cons_zero, List.getElem_cons_succ, Act.put, List.setIfInBounds_toArray, List.set_cons_zero, List.set_cons_succ]))
                  refine wpAnyH_done (by kernel_rfl) ?_ _
                  have hqF : q = F := by
                    rcases Nat.lt_or_ge q F with h | h
                    · have h1 := SP.out.2 q h
                      rw [fits_yes e hm] at h1; cases h1
                    · omega
                  subst hqF
                  obtain ⟨D1, D2, D3, D4, D5, D6⟩ := hHeld
                  have c1 := D4.cell k hk6
                  have f1 := D4.free k hk6
                  have A1 := D4.set k (q : Int) hk6
                  have U1 := D5.setOther (b' := gA) k (.int .i64 (q : Int)) (by omega)
                  have c2 := U1.cellAt BA.out
                  have f2 := U1.free q (by rw [bl_len]; exact hq6)
                  have U2 := Lib.hid (U1.set q (.bool true) (by rw [bl_len]; exact hq6))
                  rw [bl_set] at U2
                  have A2 := Lib.hid ((A1.setOther (b' := gA + 1) q (.bool true) (by omega)).asL (show (pad os).set k (q : Int) = pad (os ++ [q]) by rw [← hol]; exact pad_set os q (by omega)))
                  have E1 := Lib.hid ((D1.setOther (b' := gA) k (.int .i64 (q : Int)) (by omega)).setOther (b' := gA + 1) q (.bool true) (by omega))
                  have E2 := Lib.hid ((D2.setOther (b' := gA) k (.int .i64 (q : Int)) (by omega)).setOther (b' := gA + 1) q (.bool true) (by omega))
                  have E3 := Lib.hid ((D3.setOther (b' := gA) k (.int .i64 (q : Int)) (by omega)).setOther (b' := gA + 1) q (.bool true) (by omega))
                  have E6 := Lib.hid ((D6.set (b := gA) (by omega) k (.int .i64 (q : Int))).set (b := gA + 1) (by omega) q (.bool true))
                  have hol2 : (os ++ [q]).length = k + 1 := by simp [hol]
                  clear hm e E EQ BA hi1 l1 A1 U1 D1 D2 D3 D4 D5 D6
                  go_wp2_with fail
                  go_roundg (6 - (k + 1))
                  case rel => exact ⟨k + 1, os ++ [q], rfl, by omega, by go_num, hol2, O2, E1.out, E2.out, E3.out, A2.out, U2, E6⟩
                  case measure => omega
                · have E := Lib.hid (show (!decide (tub a q = tub b k)) = true by rw [decide_eq_false e]; rfl)
                  refine wpAnyH_take (i := 12) (v := .bool true) rfl (by kernel_rfl) (by kernel_rfl) (by kernel_rfl) (fun _ _ _ h => h) (Or.inl ⟨by rfl, fun w' hSw => neq_is_run _ _ _ _ _ _ rfl _ _ rfl rfl HMT.out EQ.out true E.out⟩) hHeld ?_
                  (try simp only [List.getElem_toArray, List.getElem_cons_zero, List.getElem_cons_succ, Act.put, List.setIfInBounds_toArray, List.set_cons_zero, List.set_cons_succ])
                  (refine wpAnyH_take (i := 13) (v := ?_) rfl (by kernel_rfl) (by kernel_rfl) (by kernel_rfl) (fun _ _ _ h => h) (Or.inl ⟨by rfl, ?_⟩) hHeld ?_; rotate_left; (· (intro w' hSw; go_simp; try with_reducible rfl)); (try simp only [List.getElem_toArray, List.getElem_cons_zero, List.getElem_cons_succ, Act.put, List.setIfInBounds_toArray, List.set_cons_zero, List.set_cons_succ]))
                  refine wpAnyH_done (by kernel_rfl) ?_ _
                  have hlt2 : q < F := by
                    rcases Nat.lt_or_ge q F with h | h
                    · exact h
                    · have : q = F := by omega
                      exact absurd (fits_parts.1 (this ▸ SP.out.1)).1 e
                  obtain ⟨D1, D2, D3, D4, D5, D6⟩ := hHeld
                  replace D5 := Lib.hid D5
                  replace D6 := Lib.hid D6
                  clear hm e E EQ BA hi1 l1
                  go_wp2_with fail
                  go_roundg (6 - (q + 1))
                  case rel => exact ⟨q + 1, rfl, by omega, by go_num, D1, D2, D3, D4, D5, D6⟩
                  case measure => omega
          · obtain rfl : k = 6 := by omega
            have V := Lib.hid (toOk_yes LA.out LB.out VF.out.1 VF.out.2.1 GO.out)
            have hn6 : (ni os).length = 6 := by rw [ni_len]; exact hol
            replace GA := GA.asL (pad_ni os hol)
            have S1 := Lib.hid (GZ.putAll (ni os) hn6)
            have S2 := Lib.hid (GB.out.puts (b := w.heap.size + 1 + 1) (by omega) 0 (ints (ni os)))
            go_wp2_with (first | (refine load_has rfl 26 _ rfl _ rfl ?_ 6 ?_ _ Try.underlying26 rfl ?_ ?_; rotate_left; (· (repeat (first | (with_reducible assumption) | ((with_reducible refine Has.box _ _ ?_ ?_) <;> (first | assumption | decide)) | (with_reducible refine Has.alloc ?_ _) | ((with_reducible refine Has.putOther ?_ _ _ ?_); rotate_left; omega; skip) | ((with_reducible refine Has.below ?_ ?_); rotate_left; assumption)))); (· kernel_rfl)) | (refine store_at rfl 26 _ _ rfl _ _ rfl rfl ?_ 6 ?_ ?_ ?_ ?_; rotate_left; (· (repeat (first | (with_reducible assumption) | ((with_reducible refine Has.box _ _ ?_ ?_) <;> (first | assumption | decide)) | (with_reducible refine Has.alloc ?_ _) | ((with_reducible refine Has.putOther ?_ _ _ ?_); rotate_left; omega; skip) | ((with_reducible refine Has.below ?_ ?_); rotate_left; assumption)))); (· (first | assumption | rfl)); (· kernel_rfl)))
            exact bodyPost_ret (res_has1 rfl _ _ (w.heap.size + 1 + 1) (ni os) 6 _ (.bool true) rfl rfl S1.out Try.underlying26 rfl (by kernel_rfl)) rfl ⟨by rw [V.out.1, V.out.2], S2.out⟩
      · have V := Lib.hid (toOk_form hf)
        have E := Lib.hid (show (!decide (formL a = formL b)) = true by rw [decide_eq_false hf]; rfl)
        refine wpAnyH_take (i := 13) (v := .bool true) rfl (by kernel_rfl) (by kernel_rfl) (by kernel_rfl) (fun _ _ _ h => h) (Or.inl ⟨by rfl, fun w' hSw => neq_is_run _ _ _ _ _ _ rfl _ _ rfl rfl HMR.out EQR.out true E.out⟩) hHeld ?_
        (try simp only [List.getElem_toArray, List.getElem_cons_zero, List.getElem_cons_succ, Act.put, List.setIfInBounds_toArray, List.set_cons_zero, List.set_cons_succ])
        (refine wpAnyH_take (i := 14) (v := ?_) rfl (by kernel_rfl) (by kernel_rfl) (by kernel_rfl) (fun _ _ _ h => h) (Or.inl ⟨by rfl, ?_⟩) hHeld ?_; rotate_left; (· (intro w' hSw; go_simp; try with_reducible rfl)); (try simp only [List.getElem_toArray, List.getElem_cons_zero, List.getElem_cons_succ, Act.put, List.setIfInBounds_toArray, List.set_cons_zero, List.set_cons_succ]))
        refine wpAnyH_done (by kernel_rfl) ?_ _
        obtain ⟨H, G, Z, HB⟩ := hHeld
        have S1 := Lib.hid (Z.putAll z6x rfl)
        have S2 := Lib.hid (HB.puts (b := w.heap.size + 1 + 1) (by omega) 0 (ints z6x))
        clear va vb hf E EQR HMR hia hib
        go_wp2_with (first | (refine build_law rfl 26 rfl _ build6o ?_) | (refine store_at rfl 26 _ _ rfl _ _ rfl rfl ?_ 6 ?_ ?_ ?_ ?_; rotate_left; (· (repeat (first | (with_reducible assumption) | ((with_reducible refine Has.box _ _ ?_ ?_) <;> (first | assumption | decide)) | (with_reducible refine Has.alloc ?_ _) | ((with_reducible refine Has.putOther ?_ _ _ ?_); rotate_left; omega; skip) | ((with_reducible refine Has.below ?_ ?_); rotate_left; assumption)))); (· (first | assumption | rfl)); (· kernel_rfl)))
        exact bodyPost_ret (res_has1 rfl _ _ (w.heap.size + 1 + 1) z6x 6 _ (.bool false) rfl rfl S1.out Try.underlying26 rfl (by kernel_rfl)) rfl ⟨by rw [V.out, toR_no V.out], S2.out⟩
    · have V := Lib.hid (toOk_not (a := a) (b := b) fun h => vb h.2)
      rw [show vR b = false by simpa using vb]
      (refine wpAnyH_take (i := 6) (v := ?_) rfl (by kernel_rfl) (by kernel_rfl) (by kernel_rfl) (fun _ _ _ h => h) (Or.inl ⟨by rfl, ?_⟩) hHeld ?_; rotate_left; (· (intro w' hSw; go_simp; try with_reducible rfl)); (try simp only [List.getElem_toArray, List.getElem_cons_zero, List.getElem_cons_succ, Act.put, List.setIfInBounds_toArray, List.set_cons_zero, List.set_cons_succ])); (refine wpAnyH_take (i := 7) (v := ?_) rfl (by kernel_rfl) (by kernel_rfl) (by kernel_rfl) (fun _ _ _ h => h) (Or.inl ⟨by rfl, ?_⟩) hHeld ?_; rotate_left; (· (intro w' hSw; go_simp; try with_reducible rfl)); (try simp only [List.getElem_toArray, List.getElem_cons_zero, List.getElem_cons_succ, Act.put, List.setIfInBounds_toArray, List.set_cons_zero, List.set_cons_succ])); (refine wpAnyH_take (i := 8) (v := ?_) rfl (by kernel_rfl) (by kernel_rfl) (by kernel_rfl) (fun _ _ _ h => h) (Or.inl ⟨by rfl, ?_⟩) hHeld ?_; rotate_left; (· (intro w' hSw; go_simp; try with_reducible rfl)); (try simp only [List.getElem_toArray, List.getElem_cons_zero, List.getElem_cons_succ, Act.put, List.setIfInBounds_toArray, List.set_cons_zero, List.set_cons_succ]))
      (refine wpAnyH_take (i := 9) (v := undef) rfl (by kernel_rfl) (by kernel_rfl) (by kernel_rfl) (fun _ _ _ h => h) (Or.inr ⟨by rfl, rfl⟩) hHeld ?_; (try simp only [List.getElem_toArray, List.getElem_cons_zero, List.getElem_cons_succ, Act.put, List.setIfInBounds_toArray, List.set_cons_zero, List.set_cons_succ])); (refine wpAnyH_take (i := 11) (v := undef) rfl (by kernel_rfl) (by kernel_rfl) (by kernel_rfl) (fun _ _ _ h => h) (Or.inr ⟨by rfl, rfl⟩) hHeld ?_; (try simp only [List.getElem_toArray, List.getElem_cons_zero, List.getElem_cons_succ, Act.put, List.setIfInBounds_toArray, List.set_cons_zero, List.set_cons_succ]))
      (refine wpAnyH_ready (rs := [10]) (by kernel_rfl) (by simp) ?_; refine AllReadyH.cons (o := _) rfl (fun K hK => ?_) AllReadyH.nil; (simp only [List.getElem_toArray, List.getElem_cons_zero, List.getElem_cons_succ, Region.wanted, Bool.false_eq_true, if_false]))
      refine hK.out _ _ hHeld (fun hHeld => ?_)
      clear hK K
      (refine wpAnyH_ready (rs := [12]) (by kernel_rfl) (by simp) ?_; refine AllReadyH.cons (o := _) rfl (fun K hK => ?_) AllReadyH.nil; (simp only [List.getElem_toArray, List.getElem_cons_zero, List.getElem_cons_succ, Region.wanted, Bool.false_eq_true, if_false]))
      refine hK.out _ _ hHeld (fun hHeld => ?_)
      clear hK K
      (refine wpAnyH_take (i := 13) (v := undef) rfl (by kernel_rfl) (by kernel_rfl) (by kernel_rfl) (fun _ _ _ h => h) (Or.inr ⟨by rfl, rfl⟩) hHeld ?_; (try simp only [List.getElem_toArray, List.getElem_cons_zero, List.getElem_cons_succ, Act.put, List.setIfInBounds_toArray, List.set_cons_zero, List.set_cons_succ]))
      (refine wpAnyH_take (i := 14) (v := ?_) rfl (by kernel_rfl) (by kernel_rfl) (by kernel_rfl) (fun _ _ _ h => h) (Or.inl ⟨by rfl, ?_⟩) hHeld ?_; rotate_left; (· (intro w' hSw; go_simp; try with_reducible rfl)); (try simp only [List.getElem_toArray, List.getElem_cons_zero, List.getElem_cons_succ, Act.put, List.setIfInBounds_toArray, List.set_cons_zero, List.set_cons_succ]))
      refine wpAnyH_done (by kernel_rfl) ?_ _
      obtain ⟨H, G, Z, HB⟩ := hHeld
      have S1 := Lib.hid (Z.putAll z6x rfl)
      have S2 := Lib.hid (HB.puts (b := w.heap.size + 1 + 1) (by omega) 0 (ints z6x))
      clear va vb EQR HMR hia hib
      go_wp2_with (first | (refine build_law rfl 26 rfl _ build6o ?_) | (refine store_at rfl 26 _ _ rfl _ _ rfl rfl ?_ 6 ?_ ?_ ?_ ?_; rotate_left; (· (repeat (first | (with_reducible assumption) | ((with_reducible refine Has.box _ _ ?_ ?_) <;> (first | assumption | decide)) | (with_reducible refine Has.alloc ?_ _) | ((with_reducible refine Has.putOther ?_ _ _ ?_); rotate_left; omega; skip) | ((with_reducible refine Has.below ?_ ?_); rotate_left; assumption)))); (· (first | assumption | rfl)); (· kernel_rfl)))
      exact bodyPost_ret (res_has1 rfl _ _ (w.heap.size + 1 + 1) z6x 6 _ (.bool false) rfl rfl S1.out Try.underlying26 rfl (by kernel_rfl)) rfl ⟨by rw [V.out, toR_no V.out], S2.out⟩
  · have V := Lib.hid (toOk_not (a := a) (b := b) fun h => va h.1)
    rw [show vR a = false by simpa using va]
    (refine wpAnyH_take (i := 2) (v := ?_) rfl (by kernel_rfl) (by kernel_rfl) (by kernel_rfl) (fun _ _ _ h => h) (Or.inl ⟨by rfl, ?_⟩) hHeld ?_; rotate_left; (· (intro w' hSw; go_simp; try with_reducible rfl)); (try simp only [List.getElem_toArray, List.getElem_cons_zero, List.getElem_cons_succ, Act.put, List.setIfInBounds_toArray, List.set_cons_zero, List.set_cons_succ])); (refine wpAnyH_take (i := 3) (v := ?_) rfl (by kernel_rfl) (by kernel_rfl) (by kernel_rfl) (fun _ _ _ h => h) (Or.inl ⟨by rfl, ?_⟩) hHeld ?_; rotate_left; (· (intro w' hSw; go_simp; try with_reducible rfl)); (try simp only [List.getElem_toArray, List.getElem_cons_zero, List.getElem_cons_succ, Act.put, List.setIfInBounds_toArray, List.set_cons_zero, List.set_cons_succ]))
    (refine wpAnyH_take (i := 4) (v := undef) rfl (by kernel_rfl) (by kernel_rfl) (by kernel_rfl) (fun _ _ _ h => h) (Or.inr ⟨by rfl, rfl⟩) hHeld ?_; (try simp only [List.getElem_toArray, List.getElem_cons_zero, List.getElem_cons_succ, Act.put, List.setIfInBounds_toArray, List.set_cons_zero, List.set_cons_succ]))
    (refine wpAnyH_ready (rs := [5]) (by kernel_rfl) (by simp) ?_; refine AllReadyH.cons (o := _) rfl (fun K hK => ?_) AllReadyH.nil; (simp only [List.getElem_toArray, List.getElem_cons_zero, List.getElem_cons_succ, Region.wanted, Bool.false_eq_true, if_false]))
    refine hK.out _ _ hHeld (fun hHeld => ?_)
    clear hK K
    (refine wpAnyH_take (i := 6) (v := undef) rfl (by kernel_rfl) (by kernel_rfl) (by kernel_rfl) (fun _ _ _ h => h) (Or.inr ⟨by rfl, rfl⟩) hHeld ?_; (try simp only [List.getElem_toArray, List.getElem_cons_zero, List.getElem_cons_succ, Act.put, List.setIfInBounds_toArray, List.set_cons_zero, List.set_cons_succ]))
    (refine wpAnyH_take (i := 7) (v := ?_) rfl (by kernel_rfl) (by kernel_rfl) (by kernel_rfl) (fun _ _ _ h => h) (Or.inl ⟨by rfl, ?_⟩) hHeld ?_; rotate_left; (· (intro w' hSw; go_simp; try with_reducible rfl)); (try simp only [List.getElem_toArray, List.getElem_cons_zero, List.getElem_cons_succ, Act.put, List.setIfInBounds_toArray, List.set_cons_zero, List.set_cons_succ])); (refine wpAnyH_take (i := 8) (v := ?_) rfl (by kernel_rfl) (by kernel_rfl) (by kernel_rfl) (fun _ _ _ h => h) (Or.inl ⟨by rfl, ?_⟩) hHeld ?_; rotate_left; (· (intro w' hSw; go_simp; try with_reducible rfl)); (try simp only [List.getElem_toArray, List.getElem_cons_zero, List.getElem_cons_succ, Act.put, List.setIfInBounds_toArray, List.set_cons_zero, List.set_cons_succ]))
    (refine wpAnyH_take (i := 9) (v := undef) rfl (by kernel_rfl) (by kernel_rfl) (by kernel_rfl) (fun _ _ _ h => h) (Or.inr ⟨by rfl, rfl⟩) hHeld ?_; (try simp only [List.getElem_toArray, List.getElem_cons_zero, List.getElem_cons_succ, Act.put, List.setIfInBounds_toArray, List.set_cons_zero, List.set_cons_succ])); (refine wpAnyH_take (i := 11) (v := undef) rfl (by kernel_rfl) (by kernel_rfl) (by kernel_rfl) (fun _ _ _ h => h) (Or.inr ⟨by rfl, rfl⟩) hHeld ?_; (try simp only [List.getElem_toArray, List.getElem_cons_zero, List.getElem_cons_succ, Act.put, List.setIfInBounds_toArray, List.set_cons_zero, List.set_cons_succ]))
    (refine wpAnyH_ready (rs := [10]) (by kernel_rfl) (by simp) ?_; refine AllReadyH.cons (o := _) rfl (fun K hK => ?_) AllReadyH.nil; (simp only [List.getElem_toArray, List.getElem_cons_zero, List.getElem_cons_succ, Region.wanted, Bool.false_eq_true, if_false]))
    refine hK.out _ _ hHeld (fun hHeld => ?_)
    clear hK K
    (refine wpAnyH_ready (rs := [12]) (by kernel_rfl) (by simp) ?_; refine AllReadyH.cons (o := _) rfl (fun K hK => ?_) AllReadyH.nil; (simp only [List.getElem_toArray, List.getElem_cons_zero, List.getElem_cons_succ, Region.wanted, Bool.false_eq_true, if_false]))
    refine hK.out _ _ hHeld (fun hHeld => ?_)
    clear hK K
    (refine wpAnyH_take (i := 13) (v := undef) rfl (by kernel_rfl) (by kernel_rfl) (by kernel_rfl) (fun _ _ _ h => h) (Or.inr ⟨by rfl, rfl⟩) hHeld ?_; (try simp only [List.getElem_toArray, List.getElem_cons_zero, List.getElem_cons_succ, Act.put, List.setIfInBounds_toArray, List.set_cons_zero, List.set_cons_succ]))
    (refine wpAnyH_take (i := 14) (v := ?_) rfl (by kernel_rfl) (by kernel_rfl) (by kernel_rfl) (fun _ _ _ h => h) (Or.inl ⟨by rfl, ?_⟩) hHeld ?_; rotate_left; (· (intro w' hSw; go_simp; try with_reducible rfl)); (try simp only [List.getElem_toArray, List.getElem_cons_zero, List.getElem_cons_succ, Act.put, List.setIfInBounds_toArray, List.set_cons_zero, List.set_cons_succ]))
    refine wpAnyH_done (by kernel_rfl) ?_ _
    obtain ⟨H, G, Z, HB⟩ := hHeld
    have S1 := Lib.hid (Z.putAll z6x rfl)
    have S2 := Lib.hid (HB.puts (b := w.heap.size + 1 + 1) (by omega) 0 (ints z6x))
    clear va EQR HMR hia hib
    go_wp2_with (first | (refine build_law rfl 26 rfl _ build6o ?_) | (refine store_at rfl 26 _ _ rfl _ _ rfl rfl ?_ 6 ?_ ?_ ?_ ?_; rotate_left; (· (repeat (first | (with_reducible assumption) | ((with_reducible refine Has.box _ _ ?_ ?_) <;> (first | assumption | decide)) | (with_reducible refine Has.alloc ?_ _) | ((with_reducible refine Has.putOther ?_ _ _ ?_); rotate_left; omega; skip) | ((with_reducible refine Has.below ?_ ?_); rotate_left; assumption)))); (· (first | assumption | rfl)); (· kernel_rfl)))
    exact bodyPost_ret (res_has1 rfl _ _ (w.heap.size + 1 + 1) z6x 6 _ (.bool false) rfl rfl S1.out Try.underlying26 rfl (by kernel_rfl)) rfl ⟨by rw [V.out, toR_no V.out], S2.out⟩
end Go.Proofs.Ytjbphpjmpjkclab.base
