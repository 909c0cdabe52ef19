/-
  The gardens before a rack: mathematics, and a garden on the program's side.
-/
import Derived.Test.YthnkfdhnbafcjabRbI
namespace Go.Proofs.Ythnkfdhnbafcjab.base
open Go.ChangeShapes Go.WideShapes Go.ChangeAt Go.RowKit
set_option linter.unusedVariables false
set_option linter.unusedSimpArgs false

def gardA (ns : List Int) : Bool := vR ns && decide ((srcA ns).length = 0)
theorem decLen (n : Nat) : (((n : Nat) : Int) == 0) = decide (n = 0) := by
  by_cases h : n = 0
  · subst h; rfl
  · rw [decide_eq_false h]; simp; omega

/-- The gardens among the first k racks before a rack. -/
def gdK (ns : List Int) (k : Nat) : List (List Int) := ((rbA ns).take k).filter gardA
def gdA (ns : List Int) : List (List Int) := gdK ns (rbA ns).length
theorem gdK_zero (ns : List Int) : gdK ns 0 = [] := rfl
theorem gdK_step (ns : List Int) {k : Nat} (h : k < (rbA ns).length) : gdK ns (k + 1) = gdK ns k ++ (if gardA ((rbA ns).getD k []) = true then [(rbA ns).getD k []] else []) := by
  unfold gdK
  rw [List.take_add_one, List.getElem?_eq_getElem h, List.filter_append, List.getD_eq_getElem?_getD, List.getElem?_eq_getElem h]
  by_cases hp : gardA (rbA ns)[k] = true
  · simp [hp]
  · have hf : gardA (rbA ns)[k] = false := by simpa using hp
    simp [hf]
theorem gdK_yes (ns : List Int) {k : Nat} (h : k < (rbA ns).length) (hp : gardA ((rbA ns).getD k []) = true) : gdK ns (k + 1) = gdK ns k ++ [(rbA ns).getD k []] := by rw [gdK_step ns h, if_pos hp]
theorem gdK_no (ns : List Int) {k : Nat} (h : k < (rbA ns).length) (hp : gardA ((rbA ns).getD k []) = false) : gdK ns (k + 1) = gdK ns k := by rw [gdK_step ns h, hp]; simp
theorem rbA_le {ns : List Int} (h24 : ns.length = 24) : (rbA ns).length ≤ 144 := by rw [rbA_len h24]; exact srcA_le ns
theorem gdK_le {ns : List Int} (h24 : ns.length = 24) (k : Nat) : (gdK ns k).length ≤ 144 := by
  unfold gdK
  have h1 := List.length_filter_le gardA ((rbA ns).take k)
  have h2 := rbA_le h24
  have h3 : ((rbA ns).take k).length ≤ (rbA ns).length := by rw [List.length_take]; omega
  omega
theorem gdA_le {ns : List Int} (h24 : ns.length = 24) : (gdA ns).length ≤ 144 := gdK_le h24 _
theorem rbA_no {ns : List Int} (hv : ¬ vR ns = true) : rbA ns = [] := by unfold rbA srcA; rw [if_neg hv]; rfl
theorem gdA_no {ns : List Int} (hv : ¬ vR ns = true) : gdA ns = [] := by unfold gdA; rw [rbA_no hv]; rfl
theorem rbA_item {ns : List Int} (h24 : ns.length = 24) {k : Nat} (h : k < (rbA ns).length) : ((rbA ns).getD k []).length = 24 := (rbA_facts h24).1 _ (getD_mem h)
theorem rbA_valid {ns : List Int} (h24 : ns.length = 24) {k : Nat} (h : k < (rbA ns).length) : vR ((rbA ns).getD k []) = true := by
  have h1 := (rbA_facts h24).2.2.mem_iff.1 (getD_mem h)
  obtain ⟨x, hx, he⟩ := List.mem_map.1 h1
  obtain ⟨i, j, m, rfl, hb⟩ := srcA_mem ns x hx
  rw [← he]
  exact backR_valid h24 hb
theorem gard_len {x : List Int} (hv : vR x = true) : gardA x = decide ((srcL x 144).length = 0) := by unfold gardA srcA; rw [hv, if_pos rfl]; rfl
def GdPost (ns : List Int) (w : World) (e : Ending) (w' : World) : Prop := ∃ v : Value, e = .returned (.tuple #[v, .bool (vR ns)]) ∧ Gr w' w.heap.size 29 24 v (gdA ns) ∧ Kept w w'

set_option maxHeartbeats 400000 in
theorem implGarden (ns : List Int) (w : World) (h24 : ns.length = 24) :
    Calls Try.prog 50 #[row ns] w fun e w' => e = .returned (.tuple #[.bool (gardA ns), .bool (vR ns)]) ∧ Kept w w' := by
  have HB := Lib.hid ((kept_refl w).alloc (.cells (ints ns).toArray 29))
  have H := Has.box w 29 h24 (by omega)
  rw [row_ints]
  go_enter Try.func50, Try.ntmps50
  go_wp2_with (refine load_has rfl 29 _ rfl _ rfl ?_ 24 ?_ _ Try.underlying29 rfl ?_ ?_; rotate_left; (· (repeat (first | (with_reducible assumption) | ((with_reducible refine Has.box _ _ ?_ ?_) <;> (first | assumption | decide)) | (with_reducible refine Has.alloc ?_ _) | ((with_reducible refine Has.putOther ?_ _ _ ?_); rotate_left; omega; skip) | ((with_reducible refine Has.below ?_ ?_); rotate_left; assumption)))); (· kernel_rfl))
  refine (implSources ns _ h24).mono ?_
  rintro e w1 ⟨v, rfl, G1, b1⟩
  replace HB := Lib.hid (HB.out.call b1)
  obtain ⟨a, cap, rfl⟩ := G1.shape
  clear b1 G1 H
  have E := Lib.hid (show gardA ns = (vR ns && decide ((srcA ns).length = 0)) from rfl)
  generalize (srcA ns).length = n at *
  have D := decLen n
  by_cases hv : vR ns = true
  · have HV := Lib.hid hv
    rw [hv]
    clear hv
    by_cases hn : n = 0
    · have E2 := Lib.hid (show gardA ns = true by rw [E.out, HV.out, decide_eq_true hn]; rfl)
      subst hn
      clear D
      go_wp2_with fail
      go_ret2
      exact ⟨by rw [E2.out, HV.out]; rfl, HB.out⟩
    · have E2 := Lib.hid (show gardA ns = false by rw [E.out, decide_eq_false hn, Bool.and_false])
      rw [decide_eq_false hn] at D
      have D2 : (n == 0) = false := by simp; omega
      clear hn
      go_wp2_with fail
      go_ret2
      exact ⟨by rw [E2.out, HV.out]; rfl, HB.out⟩
  · have hf : vR ns = false := by simpa using hv
    have HV := Lib.hid hf
    have E2 := Lib.hid (show gardA ns = false by rw [E.out, hf]; rfl)
    rw [hf]
    clear hf hv D
    go_wp2_with fail
    go_ret2
    exact ⟨by rw [E2.out, HV.out]; rfl, HB.out⟩

end Go.Proofs.Ythnkfdhnbafcjab.base
