/-
  Plain facts: what is sealed is verified, and one changed byte is told.
-/
import Derived.Test.YtbjahiebajgfeaaDoorVerify
import Derived.Test.YtbjahiebajgfeaaDoorNumMath
namespace Go.Proofs.YtbjahiebajgfeaaDoor.num
open Go.ChangeShapes Go.WideShapes Go.ChangeAt Go.RowKit
open Go.Proofs.YtbjahiebajgfeaaDoor.base (stands stands_iff stands_not bytesize byteat splitL splitL_at)
open Go.Proofs.YtbjahiebajgfeaaDoor.sums
set_option linter.unusedVariables false

theorem step_inj (h1 h2 : Int) (c : UInt8) (a : 0 ≤ h1 ∧ h1 < 999979) (b : 0 ≤ h2 ∧ h2 < 999979) (e : stepOf h1 c = stepOf h2 c) : h1 = h2 := by
  unfold stepOf at e
  have hc := c.toNat_lt
  omega
theorem fold_inj (l : List UInt8) : ∀ (h1 h2 : Int), (0 ≤ h1 ∧ h1 < 999979) → (0 ≤ h2 ∧ h2 < 999979) → l.foldl stepOf h1 = l.foldl stepOf h2 → h1 = h2 := by
  induction l with
  | nil => intro h1 h2 _ _ e; exact e
  | cons c r ih =>
    intro h1 h2 a b e
    exact step_inj h1 h2 c a b (ih _ _ (stepOf_range h1 c) (stepOf_range h2 c) e)
theorem step_byte (h : Int) (c d : UInt8) (e : stepOf h c = stepOf h d) : c = d := by
  unfold stepOf at e
  have hc := c.toNat_lt
  have hd := d.toNat_lt
  have : c.toNat = d.toNat := by omega
  exact UInt8.toNat_inj.1 this

/-- Sums of texts that differ in one byte differ. -/
theorem sum_differs (u v : List UInt8) (c d : UInt8) (h : c ≠ d) : sumOf (u ++ c :: v) ≠ sumOf (u ++ d :: v) := by
  unfold sumOf
  rw [List.foldl_append, List.foldl_append, List.foldl_cons, List.foldl_cons]
  intro e
  have hr := foldl_range u 7 (by omega)
  exact h (step_byte _ c d (fold_inj v _ _ (stepOf_range _ c) (stepOf_range _ d) e))

theorem itoa_plain (n : Int) (h : 0 ≤ n) : (35 : UInt8) ∉ Lib.itoa n := by
  rw [itoa_nonneg n h]
  intro hm
  have := (dec_bytes n.toNat 35 hm).1
  revert this; decide

theorem head_seal (p : List UInt8) (r : List UInt8) (h : (35 : UInt8) ∉ p) : headOf (p ++ 35 :: r) = p := by
  unfold headOf; rw [splitL_at 35 p r h]; rfl

theorem verify_seal (x : ByteArray) (h : canSeal x) : verB (sealOf x) = true ∧ verS (sealOf x) = x := by
  have h35 : (35 : UInt8) ∉ x.data.toList := (stands_not _ _).1 h.2.1
  have hp : preOf (sealOf x) = x := by
    refine bytes_ext ?_
    rw [pre_list]
    unfold sealOf
    rw [list_of_mk]
    exact head_seal _ _ h35
  have hc : (sealOf x).size ≤ 4000 ∧ (sealOf (preOf (sealOf x))).data.toList = (sealOf x).data.toList := ⟨h.2.2, by rw [hp]⟩
  exact ⟨decide_eq_true hc, by unfold verS; rw [if_pos hc, hp]⟩

theorem at_mid (p r : List UInt8) (j : Nat) : (p ++ 35 :: r)[j]? = if j < p.length then p[j]? else if j = p.length then some 35 else r[j - p.length - 1]? := by
  by_cases h1 : j < p.length
  · rw [if_pos h1, List.getElem?_append_left h1]
  · rw [if_neg h1, List.getElem?_append_right (by omega)]
    by_cases h2 : j = p.length
    · rw [if_pos h2, h2, Nat.sub_self]; rfl
    · rw [if_neg h2, List.getElem?_cons, if_neg (by omega)]

theorem not_at {l : List UInt8} {b : UInt8} (h : b ∉ l) (j : Nat) : l[j]? ≠ some b := fun e => h (List.mem_of_getElem? e)

/-- Two sealed texts that agree in all bytes but one are the same. -/
theorem seal_apart (x p : List UInt8) (k : Nat) (hx : (35 : UInt8) ∉ x) (hp : (35 : UInt8) ∉ p) (h : ∀ j, j ≠ k → (sealList p)[j]? = (sealList x)[j]?) : (sealList p)[k]? = (sealList x)[k]? := by
  unfold sealList at *
  have dx := itoa_plain (sumOf x) (sumOf_range x).1
  have dp := itoa_plain (sumOf p) (sumOf_range p).1
  have hlen : x.length = p.length := by
    rcases Nat.lt_trichotomy x.length p.length with hl | hl | hl
    · exfalso
      have a1 : (x ++ 35 :: Lib.itoa (sumOf x))[x.length]? = some 35 := by rw [at_mid, if_neg (by omega), if_pos rfl]
      have a2 : (p ++ 35 :: Lib.itoa (sumOf p))[x.length]? ≠ some 35 := by rw [at_mid, if_pos hl]; exact not_at hp _
      have b1 : (p ++ 35 :: Lib.itoa (sumOf p))[p.length]? = some 35 := by rw [at_mid, if_neg (by omega), if_pos rfl]
      have b2 : (x ++ 35 :: Lib.itoa (sumOf x))[p.length]? ≠ some 35 := by rw [at_mid, if_neg (by omega), if_neg (by omega)]; exact not_at dx _
      have e1 : x.length = k := by
        refine Classical.byContradiction fun hne => a2 ?_
        rw [h _ hne]; exact a1
      have e2 : p.length = k := by
        refine Classical.byContradiction fun hne => b2 ?_
        rw [← h _ hne]; exact b1
      omega
    · exact hl
    · exfalso
      have a1 : (p ++ 35 :: Lib.itoa (sumOf p))[p.length]? = some 35 := by rw [at_mid, if_neg (by omega), if_pos rfl]
      have a2 : (x ++ 35 :: Lib.itoa (sumOf x))[p.length]? ≠ some 35 := by rw [at_mid, if_pos hl]; exact not_at hx _
      have b1 : (x ++ 35 :: Lib.itoa (sumOf x))[x.length]? = some 35 := by rw [at_mid, if_neg (by omega), if_pos rfl]
      have b2 : (p ++ 35 :: Lib.itoa (sumOf p))[x.length]? ≠ some 35 := by rw [at_mid, if_neg (by omega), if_neg (by omega)]; exact not_at dp _
      have e1 : p.length = k := by
        refine Classical.byContradiction fun hne => a2 ?_
        rw [← h _ hne]; exact a1
      have e2 : x.length = k := by
        refine Classical.byContradiction fun hne => b2 ?_
        rw [h _ hne]; exact b1
      omega
  by_cases hk : k < x.length
  · -- the digits are the same, so are the sums
    have hd : Lib.itoa (sumOf p) = Lib.itoa (sumOf x) := by
      refine List.ext_getElem? fun i => ?_
      have := h (x.length + 1 + i) (by omega)
      rw [at_mid, at_mid, if_neg (by omega), if_neg (by omega), if_neg (by omega), if_neg (by omega)] at this
      rw [show x.length + 1 + i - p.length - 1 = i by omega, show x.length + 1 + i - x.length - 1 = i by omega] at this
      exact this
    have hs : sumOf p = sumOf x := by
      have r1 := sumOf_range p
      have r2 := sumOf_range x
      exact itoa_inj _ _ (by omega) (by omega) hd
    have hk2 : k < p.length := by omega
    have e1 : x = x.take k ++ x[k] :: x.drop (k + 1) := by
      conv => lhs; rw [← List.take_append_drop k x]
      rw [List.drop_eq_getElem_cons hk]
    have e2 : p = p.take k ++ p[k] :: p.drop (k + 1) := by
      conv => lhs; rw [← List.take_append_drop k p]
      rw [List.drop_eq_getElem_cons hk2]
    have hat : ∀ j, j < x.length → j ≠ k → p[j]? = x[j]? := fun j hj hne => by
      have := h j hne
      rw [at_mid, at_mid, if_pos (by omega), if_pos hj] at this
      exact this
    have t1 : p.take k = x.take k := by
      refine List.ext_getElem? fun i => ?_
      rw [List.getElem?_take, List.getElem?_take]
      split
      · exact hat i (by omega) (by omega)
      · rfl
    have t2 : p.drop (k + 1) = x.drop (k + 1) := by
      refine List.ext_getElem? fun i => ?_
      rw [List.getElem?_drop, List.getElem?_drop]
      by_cases hi : k + 1 + i < x.length
      · exact hat _ hi (by omega)
      · rw [List.getElem?_eq_none (by omega), List.getElem?_eq_none (by omega)]
    rw [at_mid, at_mid, if_pos hk2, if_pos hk]
    rw [List.getElem?_eq_getElem hk2, List.getElem?_eq_getElem hk]
    refine Classical.byContradiction fun hne => ?_
    have hne' : p[k] ≠ x[k] := fun e => hne (by rw [e])
    rw [e2, e1, t1, t2] at hs
    exact sum_differs _ _ _ _ hne' hs
  · by_cases hk2 : k = x.length
    · rw [at_mid p _ k, if_neg (by omega), if_pos (by omega), at_mid x _ k, if_neg (by omega), if_pos hk2]
    · have hpx : p = x := by
        refine List.ext_getElem? fun i => ?_
        by_cases hi : i < x.length
        · have := h i (by omega)
          rw [at_mid, at_mid, if_pos (by omega), if_pos hi] at this
          exact this
        · rw [List.getElem?_eq_none (by omega), List.getElem?_eq_none (by omega)]
      rw [hpx]

/-- One changed byte of a sealed text is told. -/
theorem verify_changed (x t : ByteArray) (k : Nat) (hc : canSeal x) (ho : ∀ j, j ≠ k → t.data.toList[j]? = (sealList x.data.toList)[j]?) (hk : t.data.toList[k]? ≠ (sealList x.data.toList)[k]?) : verB t = false := by
  refine decide_eq_false fun ⟨_, h⟩ => hk ?_
  have h35 : (35 : UInt8) ∉ x.data.toList := (stands_not _ _).1 hc.2.1
  have hp35 := head_not 35 t.data.toList
  have hs : sealList (headOf t.data.toList) = t.data.toList := by
    have h' := h
    unfold sealOf at h'
    rw [list_of_mk, pre_list] at h'
    exact h'
  have ho' : ∀ j, j ≠ k → (sealList (headOf t.data.toList))[j]? = (sealList x.data.toList)[j]? := fun j hj => by rw [hs]; exact ho j hj
  have := seal_apart x.data.toList (headOf t.data.toList) k h35 hp35 ho'
  rw [hs] at this
  exact this
end Go.Proofs.YtbjahiebajgfeaaDoor.num
