/-
  The sources that lead back to a rack, on both sides, walked.
-/
import Derived.Test.YthnkfdhnbafcjaaSrc
import Derived.Test.YthnkfdhnbafcjaaBackP
import Derived.Test.YthnkfdhnbafcjaaFill
namespace Go.Proofs.Ythnkfdhnbafcjaa.base
open Go.ChangeShapes Go.WideShapes Go.ChangeAt Go.RowKit
set_option linter.unusedVariables false
set_option linter.unusedSimpArgs false

def leads (a b x : List Int) : Bool := decide (backRL b x = a)
/-- Those of the first k sources of b that lead to a. -/
def btK (a b : List Int) (k : Nat) : List (List Int) := ((srcA b).take k).filter (leads a b)
def btOk (a b : List Int) : Bool := vR a && vR b
def btA (a b : List Int) : List (List Int) := if btOk a b = true then btK a b (srcA b).length else []
theorem btK_zero (a b : List Int) : btK a b 0 = [] := rfl
theorem btK_step (a b : List Int) {k : Nat} (h : k < (srcA b).length) : btK a b (k + 1) = btK a b k ++ (if leads a b ((srcA b).getD k []) = true then [(srcA b).getD k []] else []) := by
  unfold btK
  rw [List.take_add_one, List.getElem?_eq_getElem h, List.filter_append, List.getD_eq_getElem?_getD, List.getElem?_eq_getElem h]
  by_cases hp : leads a b (srcA b)[k] = true
  · simp [hp]
  · have hf : leads a b (srcA b)[k] = false := by simpa using hp
    simp [hf]
theorem btK_yes (a b : List Int) {k : Nat} (h : k < (srcA b).length) (hp : leads a b ((srcA b).getD k []) = true) : btK a b (k + 1) = btK a b k ++ [(srcA b).getD k []] := by rw [btK_step a b h, if_pos hp]
theorem btK_no (a b : List Int) {k : Nat} (h : k < (srcA b).length) (hp : leads a b ((srcA b).getD k []) = false) : btK a b (k + 1) = btK a b k := by rw [btK_step a b h, hp]; simp
theorem btK_le (a b : List Int) (k : Nat) : (btK a b k).length ≤ 144 := by
  unfold btK
  have h1 := List.length_filter_le (leads a b) ((srcA b).take k)
  have h2 := srcA_le b
  have h3 : ((srcA b).take k).length ≤ (srcA b).length := by rw [List.length_take]; omega
  omega
theorem btA_le (a b : List Int) : (btA a b).length ≤ 144 := by
  unfold btA
  split
  · exact btK_le a b _
  · simp
theorem srcA_item (b : List Int) {k : Nat} (h : k < (srcA b).length) : ((srcA b).getD k []).length = 3 := srcA_len3 b _ (getD_mem h)
theorem l5BackL (ns t : List Int) (w : World) (h24 : ns.length = 24) (hv : vR ns = true) (h3 : t.length = 3) : Calls Try.prog 34 #[row ns, .agg (ints t).toArray] w fun e w' => e = .returned (.tuple #[.agg (ints (backRL ns t)).toArray, .bool (backOkL ns t)]) ∧ Kept w w' := by
  obtain ⟨a, b, c, rfl⟩ := len3 h3; exact l5Back_any ns a b c w h24 hv
theorem srcA_eq {b : List Int} (h : vR b = true) : srcA b = srcL b 144 := by unfold srcA; rw [if_pos h]
def BtPost (a b : List Int) (w : World) (e : Ending) (w' : World) : Prop := ∃ v : Value, e = .returned (.tuple #[v, .bool (btOk a b)]) ∧ Gr w' w.heap.size 32 3 v (btA a b) ∧ Kept w w'
theorem btA_no {a b : List Int} (h : btOk a b = false) : btA a b = [] := by unfold btA; rw [h]; rfl
theorem btA_yes {a b : List Int} (h : btOk a b = true) : btA a b = btK a b (srcA b).length := by unfold btA; rw [if_pos h]

set_option maxHeartbeats 3200000 in
set_option maxRecDepth 100000 in
theorem specBackTo (a b : List Int) (w : World) (ha : a.length = 24) (hb : b.length = 24) :
    Calls Try.prog 26 #[row a, row b] w (BtPost a b w) := by
  have HB := Lib.hid ((((kept_refl w).alloc (.cells (ints a).toArray 28)).alloc (.cells (ints b).toArray 28)).alloc (.cells #[] 32))
  have HA := ((Has.box w 28 ha (by omega)).alloc (.cells (ints b).toArray 28)).alloc (.cells #[] 32)
  have HC := ((Has.box (w.alloc (.cells (ints a).toArray 28)) 28 hb (by omega)).at (size1 _ _)).alloc (.cells #[] 32)
  have P0 := Gr.none ((w.alloc (.cells (ints a).toArray 28)).alloc (.cells (ints b).toArray 28)) (w.heap.size + 1 + 1) 32 3 (by simp)
  have hsz : ((w.alloc (.cells (ints a).toArray 28)).alloc (.cells (ints b).toArray 28)).heap.size = w.heap.size + 1 + 1 := by simp
  rw [hsz] at P0
  have G0 := Lib.hid P0
  have EQM : Hid (Try.prog.eqGuardType Try.prog.depth 28 = false) := Lib.hid (by kernel_rfl)
  clear P0 hsz
  rw [row_ints, row_ints]
  go_enter Try.func26, Try.ntmps26
  go_wp2_with (refine load_has rfl 28 _ rfl _ rfl ?_ 24 ?_ _ Try.underlying28 rfl ?_ ?_; rotate_left; (· (repeat (first | (with_reducible assumption) | ((with_reducible refine Has.box _ _ ?_ ?_) <;> (first | assumption | decide)) | (with_reducible refine Has.alloc ?_ _) | ((with_reducible refine Has.putOther ?_ _ _ ?_); rotate_left; omega; skip) | ((with_reducible refine Has.below ?_ ?_); rotate_left; assumption)))); (· kernel_rfl))
  refine (l2Rack_any a _ ha).mono ?_
  rintro e w1 ⟨rfl, b1⟩
  replace HA := HA.below b1
  replace HC := HC.below b1
  replace G0 := Lib.hid (G0.out.below b1)
  replace HB := Lib.hid (HB.out.call b1)
  clear b1
  have hbs0 := HB.out.size
  by_cases va : vR a = true
  · have VA := Lib.hid va
    rw [va]
    clear va
    go_wp2_with (refine load_has rfl 28 _ rfl _ rfl ?_ 24 ?_ _ Try.underlying28 rfl ?_ ?_; rotate_left; (· (repeat (first | (with_reducible assumption) | ((with_reducible refine Has.box _ _ ?_ ?_) <;> (first | assumption | decide)) | (with_reducible refine Has.alloc ?_ _) | ((with_reducible refine Has.putOther ?_ _ _ ?_); rotate_left; omega; skip) | ((with_reducible refine Has.below ?_ ?_); rotate_left; assumption)))); (· kernel_rfl))
    refine (l2Rack_any b _ hb).mono ?_
    rintro e w2 ⟨rfl, b2⟩
    replace HA := HA.below b2
    replace HC := HC.below b2
    replace G0 := Lib.hid (G0.out.below b2)
    replace HB := Lib.hid (HB.out.call b2)
    clear b2
    have hbs1 := HB.out.size
    by_cases vb : vR b = true
    · have VB := Lib.hid vb
      rw [vb]
      clear vb
      have hHC := HC.lt
      have hG2 := (G0.out.own (w.heap.size + 1 + 1) rfl).2
      go_wp2_with (refine load_has rfl 28 _ rfl _ rfl ?_ 24 ?_ _ Try.underlying28 rfl ?_ ?_; rotate_left; (· (repeat (first | (with_reducible assumption) | ((with_reducible refine Has.box _ _ ?_ ?_) <;> (first | assumption | decide)) | (with_reducible refine Has.alloc ?_ _) | ((with_reducible refine Has.putOther ?_ _ _ ?_); rotate_left; omega; skip) | ((with_reducible refine Has.below ?_ ?_); rotate_left; assumption)))); (· kernel_rfl))
      refine (l5Sources_any b _ hb VB.out).mono ?_
      rintro e w3 ⟨va, rfl, G1a, b3⟩
      have G1 := Lib.hid (G1a.as (srcA_eq VB.out).symm)
      clear G1a
      replace HA := HA.below b3
      replace HC := HC.below b3
      replace G0 := Lib.hid (G0.out.below b3)
      replace HB := Lib.hid (HB.out.call b3)
      clear b3
      have O := Lib.hid (show btOk a b = true by unfold btOk; rw [VA.out, VB.out]; rfl)
      obtain ⟨a0, cap0, rfl⟩ := G1.out.shape
      have EL := Lib.hid (fun W (x : List Int) (h3 : x.length = 3) => l5BackL b x W hb VB.out h3)
      have hN := srcA_le b
      obtain ⟨N, hNN⟩ : ∃ N, (srcA b).length = N := ⟨_, rfl⟩
      have HNN := Lib.hid hNN
      have HBA := Lib.hid hb
      have HAA := Lib.hid ha
      rw [hNN] at hN
      rw [hNN]
      have X0 : Hid (∀ z, (Value.slice a0 N cap0).ownBlock = some z → (Value.slice (some ⟨w.heap.size + 1 + 1, 0, none⟩) 0 0).ownBlock ≠ some z) := Lib.hid (fun z hz e => by
        have h1 := (G1.out.own z (by rw [hNN]; exact hz)).1
        have e := Option.some.inj (show some (w.heap.size + 1 + 1) = some z from e)
        omega)
      have G0' := Lib.hid (G0.out.as (btK_zero a b).symm)
      have G1' := Lib.hid (show Gr w3 w2.heap.size 32 3 (.slice a0 N cap0) (srcA b) by have := G1.out; rw [hNN] at this; exact this)
      have G1'' := Lib.hid (G1'.out.mono (b' := 0) (Nat.zero_le _))
      clear G1 G1' hNN G0 ha hb
      go_wp2_with fail
      go_loopg [6, 8] N (fun gk v i wr => ∃ k : Nat, gk = N - k ∧ k ≤ N ∧ i = .int .i64 k ∧ Has wr w.heap.size a 24 ∧ Has wr (w.heap.size + 1) b 24 ∧ Hid (Gr wr (w.heap.size + 1 + 1) 32 3 v (btK a b k)) ∧ Hid (Gr wr 0 32 3 (.slice a0 N cap0) (srcA b)) ∧ Hid (∀ z, (Value.slice a0 N cap0).ownBlock = some z → v.ownBlock ≠ some z) ∧ Hid (Kept w wr))
      case atStart => exact ⟨0, rfl, by omega, rfl, HA, HC, G0', G1'', X0, HB⟩
      case round =>
        obtain ⟨k, rfl, hk, rfl, KA, KC, KO, KS, KX, KB⟩ := hrel
        by_cases hkN : k < N
        · have hki : (k : Int) < (N : Int) := by omega
          have hk0 : (0 : Int) ≤ (k : Int) := by omega
          have hkS : k < (srcA b).length := by rw [HNN.out]; exact hkN
          obtain ⟨g, c, he, _, hgl⟩ := KS.out.form (by omega)
          rw [HNN.out] at he
          injection he with e1 _ e3
          subst e1
          subst e3
          have hx3 := srcA_item b hkS
          have RG := Lib.hid (KS.out.range HNN.out.symm k hkN)
          have YY := Lib.hid (btK_yes a b hkS)
          have YN := Lib.hid (btK_no a b hkS)
          have hle := btK_le a b k
          have hbs := KB.out.size
          have hA := KA.lt
          have hC := KC.lt
          obtain ⟨x, hx⟩ : ∃ x, (srcA b).getD k [] = x := ⟨_, rfl⟩
          rw [hx] at hx3 RG YY YN
          have HX := Lib.hid hx
          clear hx hkS
          have hi3 : (Try.prog.info? 32).map (·.size) = some (ints x).length := by rw [ints_len, hx3]; kernel_rfl
          have hi24 : (Try.prog.info? 28).map (·.size) = some (ints b).length := by rw [ints_len, HBA.out]; kernel_rfl
          have hr24 : (Try.prog.info? 28).map (·.size) = some (ints (backRL b x)).length := by rw [ints_len, backRL_len HBA.out]; kernel_rfl
          have hrl := backRL_len HBA.out x
          go_wp2_with fail
          go_cut [9, 10] from 30 to 37 (fun s9 s10 wx => ∃ rc : Nat, s9 = .pointer (some ⟨rc, 0, none⟩) ∧ Has wx rc (backRL b x) 24 ∧ Has wx w.heap.size a 24 ∧ Has wx (w.heap.size + 1) b 24 ∧ Hid (Gr wx (w.heap.size + 1 + 1) 32 3 u6 (btK a b k)) ∧ Hid (Gr wx 0 32 3 (.slice (some ⟨g, 0, none⟩) N cap0) (srcA b)) ∧ Hid (Kept w wx))
          case first =>
            have DKA := KA.drew
            have DKC := KC.drew
            have DKO := Lib.hid KO.out.drew
            have DKS := Lib.hid KS.out.drew
            have DKB : Hid (Kept w wr.drew) := Lib.hid (KB.out.drewN 1)
            clear KA KC KO KS KB RG YY YN hA hC
            refine wp_region_held_drew (S := fun w' => Has w' (w.heap.size + 1) b 24 ∧ Gr w' 0 32 3 (.slice (some ⟨g, 0, none⟩) N cap0) (srcA b)) (by kernel_rfl) ⟨DKC, DKS.out⟩ (fun hHeld => ?_)
            generalize wr.drew = WD at *
            (refine wpAnyH_take (i := 1) (v := ?_) rfl (by kernel_rfl) (by kernel_rfl) (by kernel_rfl) (fun _ _ _ h => h) (Or.inl ⟨by rfl, ?_⟩) hHeld ?_; rotate_left; (· (intro w' hSw; go_simp; try with_reducible rfl)); (try simp only [List.getElem_toArray, List.getElem_cons_zero, List.getElem_cons_succ, Act.put, List.setIfInBounds_toArray, List.set_cons_zero, List.set_cons_succ])); (refine wpAnyH_take (i := 2) (v := ?_) rfl (by kernel_rfl) (by kernel_rfl) (by kernel_rfl) (fun _ _ _ h => h) (Or.inl ⟨by rfl, ?_⟩) hHeld ?_; rotate_left; (· (intro w' hSw; go_simp; try with_reducible rfl)); (try simp only [List.getElem_toArray, List.getElem_cons_zero, List.getElem_cons_succ, Act.put, List.setIfInBounds_toArray, List.set_cons_zero, List.set_cons_succ])); (refine wpAnyH_take (i := 3) (v := ?_) rfl (by kernel_rfl) (by kernel_rfl) (by kernel_rfl) (fun _ _ _ h => h) (Or.inl ⟨by rfl, ?_⟩) hHeld ?_; rotate_left; (· (intro w' hSw; go_simp; try with_reducible rfl)); (try simp only [List.getElem_toArray, List.getElem_cons_zero, List.getElem_cons_succ, Act.put, List.setIfInBounds_toArray, List.set_cons_zero, List.set_cons_succ]))
            (refine wpAnyH_take (i := 0) (v := _) rfl (by kernel_rfl) (by kernel_rfl) (by kernel_rfl) (fun _ _ _ h => h) (yieldsIf_load_mid (by rfl) 28 _ rfl _ _ rfl (ints b) _ (fun w' hSw => hSw.1.holds.range) Try.underlying28 rfl (hi24)) hHeld ?_; (try simp only [List.getElem_toArray, List.getElem_cons_zero, List.getElem_cons_succ, Act.put, List.setIfInBounds_toArray, List.set_cons_zero, List.set_cons_succ]))
            (refine wpAnyH_take (i := 4) (v := _) rfl (by kernel_rfl) (by kernel_rfl) (by kernel_rfl) (fun _ _ _ h => h) (yieldsIf_load_mid (by rfl) 32 _ rfl _ _ rfl (ints x) _ (fun w' hSw => (HX.out ▸ hSw.2.range HNN.out.symm k hkN)) Try.underlying32 rfl (hi3)) hHeld ?_; (try simp only [List.getElem_toArray, List.getElem_cons_zero, List.getElem_cons_succ, Act.put, List.setIfInBounds_toArray, List.set_cons_zero, List.set_cons_succ]))
            refine wpAnyH_ready (rs := [5, 9]) (by kernel_rfl) (by simp) ?_
            refine AllReadyH.cons (o := _) rfl (fun K hK => ?_) (AllReadyH.cons (o := _) rfl (fun K hK => ?_) AllReadyH.nil)
            · (simp only [List.getElem_toArray, List.getElem_cons_zero, List.getElem_cons_succ, Region.wanted, if_true])
              go_simp
              refine (EL.out _ x hx3).mono ?_
              rintro e wc1 ⟨rfl, bc1⟩
              dsimp only
              (try simp only [List.getElem_toArray, List.getElem_cons_zero, List.getElem_cons_succ, Act.put, List.setIfInBounds_toArray, List.set_cons_zero, List.set_cons_succ])
              refine hK.out _ _ ⟨hHeld.1.below bc1, hHeld.2.below bc1⟩ (fun hHeld => ?_)
              clear hK K
              replace DKA := DKA.below bc1
              replace DKC := DKC.below bc1
              replace DKO := Lib.hid (DKO.out.below bc1)
              replace DKS := Lib.hid (DKS.out.below bc1)
              replace DKB := Lib.hid (DKB.out.call bc1)
              clear bc1
              (refine wpAnyH_take (i := 6) (v := ?_) rfl (by kernel_rfl) (by kernel_rfl) (by kernel_rfl) (fun _ _ _ h => h) (Or.inl ⟨by rfl, ?_⟩) hHeld ?_; rotate_left; (· (intro w' hSw; go_simp; try with_reducible rfl)); (try simp only [List.getElem_toArray, List.getElem_cons_zero, List.getElem_cons_succ, Act.put, List.setIfInBounds_toArray, List.set_cons_zero, List.set_cons_succ])); (refine wpAnyH_take (i := 7) (v := ?_) rfl (by kernel_rfl) (by kernel_rfl) (by kernel_rfl) (fun _ _ _ h => h) (Or.inl ⟨by rfl, ?_⟩) hHeld ?_; rotate_left; (· (intro w' hSw; go_simp; try with_reducible rfl)); (try simp only [List.getElem_toArray, List.getElem_cons_zero, List.getElem_cons_succ, Act.put, List.setIfInBounds_toArray, List.set_cons_zero, List.set_cons_succ])); (refine wpAnyH_take (i := 8) (v := ?_) rfl (by kernel_rfl) (by kernel_rfl) (by kernel_rfl) (fun _ _ _ h => h) (Or.inl ⟨by rfl, ?_⟩) hHeld ?_; rotate_left; (· (intro w' hSw; go_simp; try with_reducible rfl)); (try simp only [List.getElem_toArray, List.getElem_cons_zero, List.getElem_cons_succ, Act.put, List.setIfInBounds_toArray, List.set_cons_zero, List.set_cons_succ]))
              (refine wpAnyH_ready (rs := [9]) (by kernel_rfl) (by simp) ?_; refine AllReadyH.cons (o := _) rfl (fun K hK => ?_) AllReadyH.nil; (simp only [List.getElem_toArray, List.getElem_cons_zero, List.getElem_cons_succ, Region.wanted, if_true]))
              go_simp
              refine hK.out _ _ ⟨hHeld.1.alloc _, hHeld.2.alloc _⟩ (fun hHeld => ?_)
              clear hK K
              have lt1 := DKA.lt
              have lt2 := DKC.lt
              have lt3 := DKB.out.size
              have lt4 := fun z hz => (DKO.out.own z hz).2
              have lt5 := (DKS.out.own g rfl).2
              have ZZ : Has (wc1.alloc (.cells #[.int .i64 0, .int .i64 0, .int .i64 0, .int .i64 0, .int .i64 0, .int .i64 0, .int .i64 0, .int .i64 0, .int .i64 0, .int .i64 0, .int .i64 0, .int .i64 0, .int .i64 0, .int .i64 0, .int .i64 0, .int .i64 0, .int .i64 0, .int .i64 0, .int .i64 0, .int .i64 0, .int .i64 0, .int .i64 0, .int .i64 0, .int .i64 0] 28)) wc1.heap.size z24 24 := Has.zero24 wc1 28
              replace DKA := DKA.alloc (.cells #[.int .i64 0, .int .i64 0, .int .i64 0, .int .i64 0, .int .i64 0, .int .i64 0, .int .i64 0, .int .i64 0, .int .i64 0, .int .i64 0, .int .i64 0, .int .i64 0, .int .i64 0, .int .i64 0, .int .i64 0, .int .i64 0, .int .i64 0, .int .i64 0, .int .i64 0, .int .i64 0, .int .i64 0, .int .i64 0, .int .i64 0, .int .i64 0] 28)
              replace DKC := DKC.alloc (.cells #[.int .i64 0, .int .i64 0, .int .i64 0, .int .i64 0, .int .i64 0, .int .i64 0, .int .i64 0, .int .i64 0, .int .i64 0, .int .i64 0, .int .i64 0, .int .i64 0, .int .i64 0, .int .i64 0, .int .i64 0, .int .i64 0, .int .i64 0, .int .i64 0, .int .i64 0, .int .i64 0, .int .i64 0, .int .i64 0, .int .i64 0, .int .i64 0] 28)
              replace DKO := Lib.hid (DKO.out.alloc (.cells #[.int .i64 0, .int .i64 0, .int .i64 0, .int .i64 0, .int .i64 0, .int .i64 0, .int .i64 0, .int .i64 0, .int .i64 0, .int .i64 0, .int .i64 0, .int .i64 0, .int .i64 0, .int .i64 0, .int .i64 0, .int .i64 0, .int .i64 0, .int .i64 0, .int .i64 0, .int .i64 0, .int .i64 0, .int .i64 0, .int .i64 0, .int .i64 0] 28))
              replace DKS := Lib.hid (DKS.out.alloc (.cells #[.int .i64 0, .int .i64 0, .int .i64 0, .int .i64 0, .int .i64 0, .int .i64 0, .int .i64 0, .int .i64 0, .int .i64 0, .int .i64 0, .int .i64 0, .int .i64 0, .int .i64 0, .int .i64 0, .int .i64 0, .int .i64 0, .int .i64 0, .int .i64 0, .int .i64 0, .int .i64 0, .int .i64 0, .int .i64 0, .int .i64 0, .int .i64 0] 28))
              replace DKB := Lib.hid (DKB.out.alloc (.cells #[.int .i64 0, .int .i64 0, .int .i64 0, .int .i64 0, .int .i64 0, .int .i64 0, .int .i64 0, .int .i64 0, .int .i64 0, .int .i64 0, .int .i64 0, .int .i64 0, .int .i64 0, .int .i64 0, .int .i64 0, .int .i64 0, .int .i64 0, .int .i64 0, .int .i64 0, .int .i64 0, .int .i64 0, .int .i64 0, .int .i64 0, .int .i64 0] 28))
              have HCC : wc1.heap.size = wc1.heap.size := rfl
              generalize hcc : wc1.heap.size = cc at *
              clear hcc HCC
              generalize wc1.alloc (.cells #[.int .i64 0, .int .i64 0, .int .i64 0, .int .i64 0, .int .i64 0, .int .i64 0, .int .i64 0, .int .i64 0, .int .i64 0, .int .i64 0, .int .i64 0, .int .i64 0, .int .i64 0, .int .i64 0, .int .i64 0, .int .i64 0, .int .i64 0, .int .i64 0, .int .i64 0, .int .i64 0, .int .i64 0, .int .i64 0, .int .i64 0, .int .i64 0] 28) = WA1 at *
              have NG : ∀ z, (Value.slice (some ⟨g, 0, none⟩) N cap0).ownBlock = some z → z ≠ cc := fun z hz => by have hz := Option.some.inj (show some g = some z from hz); omega
              (refine wpAnyH_ready (rs := [10]) (by kernel_rfl) (by simp) ?_; refine AllReadyH.cons (o := _) rfl (fun K hK => ?_) AllReadyH.nil; (simp only [List.getElem_toArray, List.getElem_cons_zero, List.getElem_cons_succ, Region.wanted, if_true]); refine wp_store_mid _ _ _ rfl _ _ (ints (backRL b x)).toArray rfl rfl (by simpa [ints_len, hrl] using ZZ.there) (by simpa [ints_len, hrl] using hr24) (all_oneCell_toArray (ints_one _)) ?_; (try simp only [List.getElem_toArray, List.getElem_cons_zero, List.getElem_cons_succ, Act.put, List.setIfInBounds_toArray, List.set_cons_zero, List.set_cons_succ, List.toList_toArray]); refine hK.out _ _ (⟨hHeld.1.putOther _ _ (by omega), hHeld.2.puts _ _ _ NG⟩) (fun hHeld => ?_); clear hK K)
              (refine wpAnyH_take (i := 11) (v := ?_) rfl (by kernel_rfl) (by kernel_rfl) (by kernel_rfl) (fun _ _ _ h => h) (Or.inl ⟨by rfl, ?_⟩) hHeld ?_; rotate_left; (· (intro w' hSw; go_simp; try with_reducible rfl)); (try simp only [List.getElem_toArray, List.getElem_cons_zero, List.getElem_cons_succ, Act.put, List.setIfInBounds_toArray, List.set_cons_zero, List.set_cons_succ]))
              refine wpAnyH_done (by kernel_rfl) ?_ _
              have RR := ZZ.putAll (backRL b x) hrl
              replace DKA := DKA.putOther (b' := cc) 0 (ints (backRL b x)) (by omega)
              replace DKC := DKC.putOther (b' := cc) 0 (ints (backRL b x)) (by omega)
              replace DKO := Lib.hid (DKO.out.puts cc 0 (ints (backRL b x)) (fun z hz => by have := lt4 z hz; omega))
              replace DKS := Lib.hid (DKS.out.puts cc 0 (ints (backRL b x)) (fun z hz => by have hz := Option.some.inj (show some g = some z from hz); omega))
              replace DKB := Lib.hid (DKB.out.puts (b := cc) (by omega) 0 (ints (backRL b x)))
              go_wp2_with fail
              go_meet
              case rel => exact ⟨cc, rfl, RR, DKA, DKC, DKO, DKS, DKB⟩
            · (simp only [List.getElem_toArray, List.getElem_cons_zero, List.getElem_cons_succ, Region.wanted, if_true])
              go_simp
              refine hK.out _ _ ⟨hHeld.1.alloc _, hHeld.2.alloc _⟩ (fun hHeld => ?_)
              clear hK K
              have lt1 := DKA.lt
              have lt2 := DKC.lt
              have lt3 := DKB.out.size
              have lt4 := fun z hz => (DKO.out.own z hz).2
              have lt5 := (DKS.out.own g rfl).2
              have ZZ : Has (WD.alloc (.cells #[.int .i64 0, .int .i64 0, .int .i64 0, .int .i64 0, .int .i64 0, .int .i64 0, .int .i64 0, .int .i64 0, .int .i64 0, .int .i64 0, .int .i64 0, .int .i64 0, .int .i64 0, .int .i64 0, .int .i64 0, .int .i64 0, .int .i64 0, .int .i64 0, .int .i64 0, .int .i64 0, .int .i64 0, .int .i64 0, .int .i64 0, .int .i64 0] 28)) WD.heap.size z24 24 := Has.zero24 WD 28
              replace DKA := DKA.alloc (.cells #[.int .i64 0, .int .i64 0, .int .i64 0, .int .i64 0, .int .i64 0, .int .i64 0, .int .i64 0, .int .i64 0, .int .i64 0, .int .i64 0, .int .i64 0, .int .i64 0, .int .i64 0, .int .i64 0, .int .i64 0, .int .i64 0, .int .i64 0, .int .i64 0, .int .i64 0, .int .i64 0, .int .i64 0, .int .i64 0, .int .i64 0, .int .i64 0] 28)
              replace DKC := DKC.alloc (.cells #[.int .i64 0, .int .i64 0, .int .i64 0, .int .i64 0, .int .i64 0, .int .i64 0, .int .i64 0, .int .i64 0, .int .i64 0, .int .i64 0, .int .i64 0, .int .i64 0, .int .i64 0, .int .i64 0, .int .i64 0, .int .i64 0, .int .i64 0, .int .i64 0, .int .i64 0, .int .i64 0, .int .i64 0, .int .i64 0, .int .i64 0, .int .i64 0] 28)
              replace DKO := Lib.hid (DKO.out.alloc (.cells #[.int .i64 0, .int .i64 0, .int .i64 0, .int .i64 0, .int .i64 0, .int .i64 0, .int .i64 0, .int .i64 0, .int .i64 0, .int .i64 0, .int .i64 0, .int .i64 0, .int .i64 0, .int .i64 0, .int .i64 0, .int .i64 0, .int .i64 0, .int .i64 0, .int .i64 0, .int .i64 0, .int .i64 0, .int .i64 0, .int .i64 0, .int .i64 0] 28))
              replace DKS := Lib.hid (DKS.out.alloc (.cells #[.int .i64 0, .int .i64 0, .int .i64 0, .int .i64 0, .int .i64 0, .int .i64 0, .int .i64 0, .int .i64 0, .int .i64 0, .int .i64 0, .int .i64 0, .int .i64 0, .int .i64 0, .int .i64 0, .int .i64 0, .int .i64 0, .int .i64 0, .int .i64 0, .int .i64 0, .int .i64 0, .int .i64 0, .int .i64 0, .int .i64 0, .int .i64 0] 28))
              replace DKB := Lib.hid (DKB.out.alloc (.cells #[.int .i64 0, .int .i64 0, .int .i64 0, .int .i64 0, .int .i64 0, .int .i64 0, .int .i64 0, .int .i64 0, .int .i64 0, .int .i64 0, .int .i64 0, .int .i64 0, .int .i64 0, .int .i64 0, .int .i64 0, .int .i64 0, .int .i64 0, .int .i64 0, .int .i64 0, .int .i64 0, .int .i64 0, .int .i64 0, .int .i64 0, .int .i64 0] 28))
              have HCC : WD.heap.size = WD.heap.size := rfl
              generalize hcc : WD.heap.size = cc at *
              clear hcc HCC
              generalize WD.alloc (.cells #[.int .i64 0, .int .i64 0, .int .i64 0, .int .i64 0, .int .i64 0, .int .i64 0, .int .i64 0, .int .i64 0, .int .i64 0, .int .i64 0, .int .i64 0, .int .i64 0, .int .i64 0, .int .i64 0, .int .i64 0, .int .i64 0, .int .i64 0, .int .i64 0, .int .i64 0, .int .i64 0, .int .i64 0, .int .i64 0, .int .i64 0, .int .i64 0] 28) = WA2 at *
              (refine wpAnyH_ready (rs := [5]) (by kernel_rfl) (by simp) ?_; refine AllReadyH.cons (o := _) rfl (fun K hK => ?_) AllReadyH.nil; (simp only [List.getElem_toArray, List.getElem_cons_zero, List.getElem_cons_succ, Region.wanted, if_true]))
              go_simp
              refine (EL.out _ x hx3).mono ?_
              rintro e wc2 ⟨rfl, bc2⟩
              dsimp only
              (try simp only [List.getElem_toArray, List.getElem_cons_zero, List.getElem_cons_succ, Act.put, List.setIfInBounds_toArray, List.set_cons_zero, List.set_cons_succ])
              refine hK.out _ _ ⟨hHeld.1.below bc2, hHeld.2.below bc2⟩ (fun hHeld => ?_)
              clear hK K
              replace DKA := DKA.below bc2
              replace DKC := DKC.below bc2
              replace DKO := Lib.hid (DKO.out.below bc2)
              replace DKS := Lib.hid (DKS.out.below bc2)
              replace DKB := Lib.hid (DKB.out.call bc2)
              replace ZZ := ZZ.below bc2
              clear bc2
              (refine wpAnyH_take (i := 6) (v := ?_) rfl (by kernel_rfl) (by kernel_rfl) (by kernel_rfl) (fun _ _ _ h => h) (Or.inl ⟨by rfl, ?_⟩) hHeld ?_; rotate_left; (· (intro w' hSw; go_simp; try with_reducible rfl)); (try simp only [List.getElem_toArray, List.getElem_cons_zero, List.getElem_cons_succ, Act.put, List.setIfInBounds_toArray, List.set_cons_zero, List.set_cons_succ])); (refine wpAnyH_take (i := 7) (v := ?_) rfl (by kernel_rfl) (by kernel_rfl) (by kernel_rfl) (fun _ _ _ h => h) (Or.inl ⟨by rfl, ?_⟩) hHeld ?_; rotate_left; (· (intro w' hSw; go_simp; try with_reducible rfl)); (try simp only [List.getElem_toArray, List.getElem_cons_zero, List.getElem_cons_succ, Act.put, List.setIfInBounds_toArray, List.set_cons_zero, List.set_cons_succ])); (refine wpAnyH_take (i := 8) (v := ?_) rfl (by kernel_rfl) (by kernel_rfl) (by kernel_rfl) (fun _ _ _ h => h) (Or.inl ⟨by rfl, ?_⟩) hHeld ?_; rotate_left; (· (intro w' hSw; go_simp; try with_reducible rfl)); (try simp only [List.getElem_toArray, List.getElem_cons_zero, List.getElem_cons_succ, Act.put, List.setIfInBounds_toArray, List.set_cons_zero, List.set_cons_succ]))
              have NG : ∀ z, (Value.slice (some ⟨g, 0, none⟩) N cap0).ownBlock = some z → z ≠ cc := fun z hz => by have hz := Option.some.inj (show some g = some z from hz); omega
              (refine wpAnyH_ready (rs := [10]) (by kernel_rfl) (by simp) ?_; refine AllReadyH.cons (o := _) rfl (fun K hK => ?_) AllReadyH.nil; (simp only [List.getElem_toArray, List.getElem_cons_zero, List.getElem_cons_succ, Region.wanted, if_true]); refine wp_store_mid _ _ _ rfl _ _ (ints (backRL b x)).toArray rfl rfl (by simpa [ints_len, hrl] using ZZ.there) (by simpa [ints_len, hrl] using hr24) (all_oneCell_toArray (ints_one _)) ?_; (try simp only [List.getElem_toArray, List.getElem_cons_zero, List.getElem_cons_succ, Act.put, List.setIfInBounds_toArray, List.set_cons_zero, List.set_cons_succ, List.toList_toArray]); refine hK.out _ _ (⟨hHeld.1.putOther _ _ (by omega), hHeld.2.puts _ _ _ NG⟩) (fun hHeld => ?_); clear hK K)
              (refine wpAnyH_take (i := 11) (v := ?_) rfl (by kernel_rfl) (by kernel_rfl) (by kernel_rfl) (fun _ _ _ h => h) (Or.inl ⟨by rfl, ?_⟩) hHeld ?_; rotate_left; (· (intro w' hSw; go_simp; try with_reducible rfl)); (try simp only [List.getElem_toArray, List.getElem_cons_zero, List.getElem_cons_succ, Act.put, List.setIfInBounds_toArray, List.set_cons_zero, List.set_cons_succ]))
              refine wpAnyH_done (by kernel_rfl) ?_ _
              have RR := ZZ.putAll (backRL b x) hrl
              replace DKA := DKA.putOther (b' := cc) 0 (ints (backRL b x)) (by omega)
              replace DKC := DKC.putOther (b' := cc) 0 (ints (backRL b x)) (by omega)
              replace DKO := Lib.hid (DKO.out.puts cc 0 (ints (backRL b x)) (fun z hz => by have := lt4 z hz; omega))
              replace DKS := Lib.hid (DKS.out.puts cc 0 (ints (backRL b x)) (fun z hz => by have hz := Option.some.inj (show some g = some z from hz); omega))
              replace DKB := Lib.hid (DKB.out.puts (b := cc) (by omega) 0 (ints (backRL b x)))
              go_wp2_with fail
              go_meet
              case rel => exact ⟨cc, rfl, RR, DKA, DKC, DKO, DKS, DKB⟩
          case rest =>
            clear KA KC KO KS KB RG hA hC hbs
            obtain ⟨rc, rfl, RR, KA, KC, KO, KS, KB⟩ := hcut
            have EQ := Lib.hid (eqRackT (backRL b x) a hrl HAA.out)
            have RG := Lib.hid (show wc.rangeAt g (k * 3) (ints x) from HX.out ▸ KS.out.range HNN.out.symm k hkN)
            have hbs := KB.out.size
            have hA := KA.lt
            have hC := KC.lt
            have hg := (KS.out.own g rfl).2
            have ha24 := HAA.out
            by_cases hl : backRL b x = a
            · have hd := decide_eq_true hl
              have Y := Lib.hid (YY.out hd)
              clear hl YY YN
              go_wp2_with (first | (refine load_has rfl 28 _ rfl _ rfl ?_ 24 ?_ _ Try.underlying28 rfl ?_ ?_; rotate_left; (· (repeat (first | (with_reducible assumption) | ((with_reducible refine Has.box _ _ ?_ ?_) <;> (first | assumption | decide)) | (with_reducible refine Has.alloc ?_ _) | ((with_reducible refine Has.putOther ?_ _ _ ?_); rotate_left; omega; skip) | ((with_reducible refine Has.below ?_ ?_); rotate_left; assumption)))); (· kernel_rfl)) | (refine eql_has rfl 28 28 _ _ rfl (backRL b x) a rfl rfl EQM.out EQ.out ?_; rw [hd]) | (refine wpList_load_mid rfl 32 _ rfl g (k * 3) rfl (ints x) _ RG.out Try.underlying32 rfl hi3 ?_) | (refine wpList_slice1 rfl 36 32 _ rfl 3 24 Try.underlying36 (by kernel_rfl) (by omega) (by omega) x rfl hx3 ?_) | (at_builtin; refine append_gr rfl _ _ 36 rfl (w.heap.size + 1 + 1) 32 3 24 Try.underlying36 (by kernel_rfl) (by omega) (by omega) _ (btK a b k).length (btK a b k) rfl rfl (KO.out.alloc _) wc.heap.size 1 rfl x (Has.box wc 32 hx3 (by omega)) (by rw [size1]; have := RR.lt; omega) (by omega) ?_; intro g' cu' w4 hG hgrow hlie hlt4))
              have A1 := (KA.alloc (.cells (ints x).toArray 32)).grownNo hgrow (fun e => by have := (KO.out.own w.heap.size e.symm).1; omega)
              have A2 := (KC.alloc (.cells (ints x).toArray 32)).grownNo hgrow (fun e => by have := (KO.out.own (w.heap.size + 1) e.symm).1; omega)
              have A3 : Hid (Kept w w4) := Lib.hid ((KB.out.alloc (.cells (ints x).toArray 32)).grown hgrow (KB.out.alloc (.cells (ints x).toArray 32)).size (fun j hj => by have := (KO.out.own j hj).1; omega))
              have A4 := Lib.hid (hG.as Y.out.symm)
              have A5 := Lib.hid ((KS.out.alloc (.cells (ints x).toArray 32)).kept hgrow (fun z hz e => KX.out z hz e))
              have A6 : Hid (∀ z, (Value.slice (some ⟨g, 0, none⟩) N cap0).ownBlock = some z → (Value.slice (some ⟨g', 0, none⟩) ((btK a b k).length + 1) cu').ownBlock ≠ some z) := Lib.hid (fun z hz e => by
                have h1 := Option.some.inj (show some g = some z from hz)
                have h2 := Option.some.inj (show some g' = some z from e)
                rcases hlie with h3 | h3
                · have h3 : u6.ownBlock = some g' := h3
                  exact KX.out z hz (by rw [h3, h2])
                · rw [size1] at h3; omega)
              clear hG hgrow hlie KA KC KO KS KB KX
              go_wp2_with fail
              go_roundg (N - (k + 1))
              case rel => exact ⟨k + 1, rfl, by omega, by go_num, A1, A2, A4, A5, A6, A3⟩
              case measure => omega
            · have hd := decide_eq_false hl
              have Y := Lib.hid (YN.out hd)
              have A4 := Lib.hid (KO.out.as Y.out.symm)
              clear hl YY YN KO
              go_wp2_with (first | (refine load_has rfl 28 _ rfl _ rfl ?_ 24 ?_ _ Try.underlying28 rfl ?_ ?_; rotate_left; (· (repeat (first | (with_reducible assumption) | ((with_reducible refine Has.box _ _ ?_ ?_) <;> (first | assumption | decide)) | (with_reducible refine Has.alloc ?_ _) | ((with_reducible refine Has.putOther ?_ _ _ ?_); rotate_left; omega; skip) | ((with_reducible refine Has.below ?_ ?_); rotate_left; assumption)))); (· kernel_rfl)) | (refine eql_has rfl 28 28 _ _ rfl (backRL b x) a rfl rfl EQM.out EQ.out ?_; rw [hd]))
              go_roundg (N - (k + 1))
              case rel => exact ⟨k + 1, rfl, by omega, by go_num, KA, KC, A4, KS, KX, KB⟩
              case measure => omega
        · obtain rfl : k = N := by omega
          have E := Lib.hid (show btK a b k = btA a b by rw [btA_yes O.out, HNN.out])
          go_wp2_with fail
          go_ret2
          exact ⟨_, by rw [O.out]; rfl, (KO.out.mono (by omega)).as E.out, KB.out⟩
    · have hf : vR b = false := by simpa using vb
      have O := Lib.hid (show btOk a b = false by unfold btOk; rw [VA.out, hf]; rfl)
      rw [hf]
      go_wp2_with fail
      go_ret2
      exact ⟨_, by rw [O.out]; rfl, (G0.out.mono (by omega)).as (btA_no O.out).symm, HB.out⟩
  · have hf : vR a = false := by simpa using va
    have O := Lib.hid (show btOk a b = false by unfold btOk; rw [hf]; rfl)
    rw [hf]
    go_wp2_with fail
    go_ret2
    exact ⟨_, by rw [O.out]; rfl, (G0.out.mono (by omega)).as (btA_no O.out).symm, HB.out⟩

set_option maxHeartbeats 3200000 in
set_option maxRecDepth 100000 in
theorem implBackTo (a b : List Int) (w : World) (ha : a.length = 24) (hb : b.length = 24) :
    Calls Try.prog 27 #[row a, row b] w (BtPost a b w) := by
  have HB := Lib.hid ((((kept_refl w).alloc (.cells (ints a).toArray 28)).alloc (.cells (ints b).toArray 28)).alloc (.cells #[] 32))
  have HA := ((Has.box w 28 ha (by omega)).alloc (.cells (ints b).toArray 28)).alloc (.cells #[] 32)
  have HC := ((Has.box (w.alloc (.cells (ints a).toArray 28)) 28 hb (by omega)).at (size1 _ _)).alloc (.cells #[] 32)
  have P0 := Gr.none ((w.alloc (.cells (ints a).toArray 28)).alloc (.cells (ints b).toArray 28)) (w.heap.size + 1 + 1) 32 3 (by simp)
  have hsz : ((w.alloc (.cells (ints a).toArray 28)).alloc (.cells (ints b).toArray 28)).heap.size = w.heap.size + 1 + 1 := by simp
  rw [hsz] at P0
  have G0 := Lib.hid P0
  have EQM : Hid (Try.prog.eqGuardType Try.prog.depth 28 = false) := Lib.hid (by kernel_rfl)
  clear P0 hsz
  rw [row_ints, row_ints]
  go_enter Try.func27, Try.ntmps27
  go_wp2_with (refine load_has rfl 28 _ rfl _ rfl ?_ 24 ?_ _ Try.underlying28 rfl ?_ ?_; rotate_left; (· (repeat (first | (with_reducible assumption) | ((with_reducible refine Has.box _ _ ?_ ?_) <;> (first | assumption | decide)) | (with_reducible refine Has.alloc ?_ _) | ((with_reducible refine Has.putOther ?_ _ _ ?_); rotate_left; omega; skip) | ((with_reducible refine Has.below ?_ ?_); rotate_left; assumption)))); (· kernel_rfl))
  have hHC := HC.lt
  have hG2 := (G0.out.own (w.heap.size + 1 + 1) rfl).2
  refine (implSources b _ hb).mono ?_
  rintro e w1 ⟨va, rfl, G1a, b1⟩
  have G1 := Lib.hid (G1a.mono (b' := w.heap.size + 1 + 1 + 1) (by simp))
  clear G1a
  replace HA := HA.below b1
  replace HC := HC.below b1
  replace G0 := Lib.hid (G0.out.below b1)
  replace HB := Lib.hid (HB.out.call b1)
  clear b1
  have hbs0 := HB.out.size
  by_cases vb : vR b = true
  · have VB := Lib.hid vb
    rw [vb]
    clear vb
    go_wp2_with (refine load_has rfl 28 _ rfl _ rfl ?_ 24 ?_ _ Try.underlying28 rfl ?_ ?_; rotate_left; (· (repeat (first | (with_reducible assumption) | ((with_reducible refine Has.box _ _ ?_ ?_) <;> (first | assumption | decide)) | (with_reducible refine Has.alloc ?_ _) | ((with_reducible refine Has.putOther ?_ _ _ ?_); rotate_left; omega; skip) | ((with_reducible refine Has.below ?_ ?_); rotate_left; assumption)))); (· kernel_rfl))
    refine (isRack_any a _ ha).mono ?_
    rintro e w2 ⟨rfl, b2⟩
    replace G1 := Lib.hid (G1.out.below b2)
    replace HA := HA.below b2
    replace HC := HC.below b2
    replace G0 := Lib.hid (G0.out.below b2)
    replace HB := Lib.hid (HB.out.call b2)
    clear b2
    have hbs1 := HB.out.size
    by_cases va' : vR a = true
    · have VA := Lib.hid va'
      rw [va']
      clear va'
      have O := Lib.hid (show btOk a b = true by unfold btOk; rw [VA.out, VB.out]; rfl)
      obtain ⟨a0, cap0, rfl⟩ := G1.out.shape
      have EL := Lib.hid (fun W (x : List Int) (h3 : x.length = 3) => implBackL b x W hb h3)
      have hN := srcA_le b
      obtain ⟨N, hNN⟩ : ∃ N, (srcA b).length = N := ⟨_, rfl⟩
      have HNN := Lib.hid hNN
      have HBA := Lib.hid hb
      have HAA := Lib.hid ha
      rw [hNN] at hN
      rw [hNN]
      have X0 : Hid (∀ z, (Value.slice a0 N cap0).ownBlock = some z → (Value.slice (some ⟨w.heap.size + 1 + 1, 0, none⟩) 0 0).ownBlock ≠ some z) := Lib.hid (fun z hz e => by
        have h1 := (G1.out.own z (by rw [hNN]; exact hz)).1
        have e := Option.some.inj (show some (w.heap.size + 1 + 1) = some z from e)
        omega)
      have G0' := Lib.hid (G0.out.as (btK_zero a b).symm)
      have G1' := Lib.hid (show Gr w2 (w.heap.size + 1 + 1 + 1) 32 3 (.slice a0 N cap0) (srcA b) by have := G1.out; rw [hNN] at this; exact this)
      have G1'' := Lib.hid (G1'.out.mono (b' := 0) (Nat.zero_le _))
      clear G1 G1' hNN G0 ha hb
      go_wp2_with fail
      go_loopg [6, 29] N (fun gk v i wr => ∃ k : Nat, gk = N - k ∧ k ≤ N ∧ i = .int .i64 k ∧ Has wr w.heap.size a 24 ∧ Has wr (w.heap.size + 1) b 24 ∧ Hid (Gr wr (w.heap.size + 1 + 1) 32 3 v (btK a b k)) ∧ Hid (Gr wr 0 32 3 (.slice a0 N cap0) (srcA b)) ∧ Hid (∀ z, (Value.slice a0 N cap0).ownBlock = some z → v.ownBlock ≠ some z) ∧ Hid (Kept w wr))
      case atStart => exact ⟨0, rfl, by omega, rfl, HA, HC, G0', G1'', X0, HB⟩
      case round =>
        obtain ⟨k, rfl, hk, rfl, KA, KC, KO, KS, KX, KB⟩ := hrel
        by_cases hkN : k < N
        · have hki : (k : Int) < (N : Int) := by omega
          have hk0 : (0 : Int) ≤ (k : Int) := by omega
          have hkS : k < (srcA b).length := by rw [HNN.out]; exact hkN
          obtain ⟨g, c, he, _, hgl⟩ := KS.out.form (by omega)
          rw [HNN.out] at he
          injection he with e1 _ e3
          subst e1
          subst e3
          have hx3 := srcA_item b hkS
          have RG := Lib.hid (KS.out.range HNN.out.symm k hkN)
          have YY := Lib.hid (btK_yes a b hkS)
          have YN := Lib.hid (btK_no a b hkS)
          have hle := btK_le a b k
          have hbs := KB.out.size
          have hA := KA.lt
          have hC := KC.lt
          obtain ⟨x, hx⟩ : ∃ x, (srcA b).getD k [] = x := ⟨_, rfl⟩
          rw [hx] at hx3 RG YY YN
          have HX := Lib.hid hx
          clear hx hkS
          have hi3 : (Try.prog.info? 32).map (·.size) = some (ints x).length := by rw [ints_len, hx3]; kernel_rfl
          have hi24 : (Try.prog.info? 28).map (·.size) = some (ints b).length := by rw [ints_len, HBA.out]; kernel_rfl
          have hr24 : (Try.prog.info? 28).map (·.size) = some (ints (backRL b x)).length := by rw [ints_len, backRL_len HBA.out]; kernel_rfl
          have hrl := backRL_len HBA.out x
          have SB1 := Has.box wr 32 hx3 (by omega)
          replace KA := KA.alloc (.cells (ints x).toArray 32)
          replace KC := KC.alloc (.cells (ints x).toArray 32)
          replace KO := Lib.hid (KO.out.alloc (.cells (ints x).toArray 32))
          replace KS := Lib.hid (KS.out.alloc (.cells (ints x).toArray 32))
          replace KB := Lib.hid (KB.out.alloc (.cells (ints x).toArray 32))
          go_wp2_with (first | (refine wpList_load_mid rfl 32 _ rfl g (k * 3) rfl (ints x) _ RG.out Try.underlying32 rfl hi3 ?_) | (refine store_new rfl 32 _ _ rfl _ _ _ rfl _ rfl _ rfl rfl ?_ ?_ ?_; (· (first | assumption | rfl)); (· kernel_rfl)) | (refine load_has rfl 28 _ rfl _ rfl ?_ 24 ?_ _ Try.underlying28 rfl ?_ ?_; rotate_left; (· (repeat (first | (with_reducible assumption) | ((with_reducible refine Has.box _ _ ?_ ?_) <;> (first | assumption | decide)) | (with_reducible refine Has.alloc ?_ _) | ((with_reducible refine Has.putOther ?_ _ _ ?_); rotate_left; omega; skip) | ((with_reducible refine Has.below ?_ ?_); rotate_left; assumption)))); (· kernel_rfl)) | (refine load_has rfl 32 _ rfl _ rfl ?_ 3 ?_ _ Try.underlying32 rfl ?_ ?_; rotate_left; (· (repeat (first | (with_reducible assumption) | ((with_reducible refine Has.box _ _ ?_ ?_) <;> (first | assumption | decide)) | (with_reducible refine Has.alloc ?_ _) | ((with_reducible refine Has.putOther ?_ _ _ ?_); rotate_left; omega; skip) | ((with_reducible refine Has.below ?_ ?_); rotate_left; assumption)))); (· kernel_rfl)))
          refine (EL.out _ x hx3).mono ?_
          rintro e w2 ⟨rfl, b2⟩
          have RR := Has.box w2 28 hrl (by omega)
          have hl2 := b2.size
          have hl3 := SB1.lt
          replace SB1 := (SB1.below b2).alloc (.cells (ints (backRL b x)).toArray 28)
          replace KA := (KA.below b2).alloc (.cells (ints (backRL b x)).toArray 28)
          replace KC := (KC.below b2).alloc (.cells (ints (backRL b x)).toArray 28)
          replace KO := Lib.hid ((KO.out.below b2).alloc (.cells (ints (backRL b x)).toArray 28))
          replace KS := Lib.hid ((KS.out.below b2).alloc (.cells (ints (backRL b x)).toArray 28))
          replace KB := Lib.hid ((KB.out.call b2).alloc (.cells (ints (backRL b x)).toArray 28))
          clear RG hA hC hbs b2
          go_upto_region 9 with (refine store_new rfl 28 _ _ rfl _ _ _ rfl _ rfl _ rfl rfl ?_ ?_ ?_; (· (first | assumption | rfl)); (· kernel_rfl))
          generalize w2.alloc (.cells (ints (backRL b x)).toArray 28) = wc at *
          have EQ := Lib.hid (eqRackT (backRL b x) a hrl HAA.out)
          have hbs := KB.out.size
          have hA := KA.lt
          have hC := KC.lt
          have hg := (KS.out.own g rfl).2
          have ha24 := HAA.out
          by_cases hl : backRL b x = a
          · have hd := decide_eq_true hl
            have Y := Lib.hid (YY.out hd)
            clear hl YY YN
            go_wp2_with (first | (refine load_has rfl 28 _ rfl _ rfl ?_ 24 ?_ _ Try.underlying28 rfl ?_ ?_; rotate_left; (· (repeat (first | (with_reducible assumption) | ((with_reducible refine Has.box _ _ ?_ ?_) <;> (first | assumption | decide)) | (with_reducible refine Has.alloc ?_ _) | ((with_reducible refine Has.putOther ?_ _ _ ?_); rotate_left; omega; skip) | ((with_reducible refine Has.below ?_ ?_); rotate_left; assumption)))); (· kernel_rfl)) | (refine eql_has rfl 28 28 _ _ rfl (backRL b x) a rfl rfl EQM.out EQ.out ?_; rw [hd]) | (refine load_has rfl 32 _ rfl _ rfl ?_ 3 ?_ _ Try.underlying32 rfl ?_ ?_; rotate_left; (· (repeat (first | (with_reducible assumption) | ((with_reducible refine Has.box _ _ ?_ ?_) <;> (first | assumption | decide)) | (with_reducible refine Has.alloc ?_ _) | ((with_reducible refine Has.putOther ?_ _ _ ?_); rotate_left; omega; skip) | ((with_reducible refine Has.below ?_ ?_); rotate_left; assumption)))); (· kernel_rfl)) | (refine wpList_slice1 rfl 36 32 _ rfl 3 24 Try.underlying36 (by kernel_rfl) (by omega) (by omega) x rfl hx3 ?_) | (at_builtin; refine append_gr rfl _ _ 36 rfl (w.heap.size + 1 + 1) 32 3 24 Try.underlying36 (by kernel_rfl) (by omega) (by omega) _ (btK a b k).length (btK a b k) rfl rfl (KO.out.alloc _) wc.heap.size 1 rfl x (Has.box wc 32 hx3 (by omega)) (by rw [size1]; have := RR.lt; omega) (by omega) ?_; intro g' cu' w4 hG hgrow hlie hlt4))
            have A1 := (KA.alloc (.cells (ints x).toArray 32)).grownNo hgrow (fun e => by have := (KO.out.own w.heap.size e.symm).1; omega)
            have A2 := (KC.alloc (.cells (ints x).toArray 32)).grownNo hgrow (fun e => by have := (KO.out.own (w.heap.size + 1) e.symm).1; omega)
            have A3 : Hid (Kept w w4) := Lib.hid ((KB.out.alloc (.cells (ints x).toArray 32)).grown hgrow (KB.out.alloc (.cells (ints x).toArray 32)).size (fun j hj => by have := (KO.out.own j hj).1; omega))
            have A4 := Lib.hid (hG.as Y.out.symm)
            have A5 := Lib.hid ((KS.out.alloc (.cells (ints x).toArray 32)).kept hgrow (fun z hz e => KX.out z hz e))
            have A6 : Hid (∀ z, (Value.slice (some ⟨g, 0, none⟩) N cap0).ownBlock = some z → (Value.slice (some ⟨g', 0, none⟩) ((btK a b k).length + 1) cu').ownBlock ≠ some z) := Lib.hid (fun z hz e => by
              have h1 := Option.some.inj (show some g = some z from hz)
              have h2 := Option.some.inj (show some g' = some z from e)
              rcases hlie with h3 | h3
              · have h3 : u6.ownBlock = some g' := h3
                exact KX.out z hz (by rw [h3, h2])
              · rw [size1] at h3; omega)
            clear hG hgrow hlie KA KC KO KS KB KX
            go_wp2_with fail
            go_roundg (N - (k + 1))
            case rel => exact ⟨k + 1, rfl, by omega, by go_num, A1, A2, A4, A5, A6, A3⟩
            case measure => omega
          · have hd := decide_eq_false hl
            have Y := Lib.hid (YN.out hd)
            have A4 := Lib.hid (KO.out.as Y.out.symm)
            clear hl YY YN KO
            go_wp2_with (first | (refine load_has rfl 28 _ rfl _ rfl ?_ 24 ?_ _ Try.underlying28 rfl ?_ ?_; rotate_left; (· (repeat (first | (with_reducible assumption) | ((with_reducible refine Has.box _ _ ?_ ?_) <;> (first | assumption | decide)) | (with_reducible refine Has.alloc ?_ _) | ((with_reducible refine Has.putOther ?_ _ _ ?_); rotate_left; omega; skip) | ((with_reducible refine Has.below ?_ ?_); rotate_left; assumption)))); (· kernel_rfl)) | (refine eql_has rfl 28 28 _ _ rfl (backRL b x) a rfl rfl EQM.out EQ.out ?_; rw [hd]))
            go_roundg (N - (k + 1))
            case rel => exact ⟨k + 1, rfl, by omega, by go_num, KA, KC, A4, KS, KX, KB⟩
            case measure => omega

        · obtain rfl : k = N := by omega
          have E := Lib.hid (show btK a b k = btA a b by rw [btA_yes O.out, HNN.out])
          go_wp2_with fail
          go_ret2
          exact ⟨_, by rw [O.out]; rfl, (KO.out.mono (by omega)).as E.out, KB.out⟩
    · have hf : vR a = false := by simpa using va'
      have O := Lib.hid (show btOk a b = false by unfold btOk; rw [hf]; rfl)
      rw [hf]
      go_wp2_with fail
      go_ret2
      exact ⟨_, by rw [O.out]; rfl, (G0.out.mono (by omega)).as (btA_no O.out).symm, HB.out⟩
  · have hf : vR b = false := by simpa using vb
    have O := Lib.hid (show btOk a b = false by unfold btOk; rw [hf, Bool.and_false])
    rw [hf]
    go_wp2_with fail
    go_ret2
    exact ⟨_, by rw [O.out]; rfl, (G0.out.mono (by omega)).as (btA_no O.out).symm, HB.out⟩
end Go.Proofs.Ythnkfdhnbafcjaa.base
