/-
  Racks and their texts: plain mathematics.
-/
import Derived.Test.YtalngdccjoafhabTextI
namespace Go.Proofs.Ytalngdccjoafhab.base
set_option linter.unusedVariables false
set_option linter.unusedSimpArgs false

def rdB (b : UInt8) : Int := if b = 46 then 0 else (b.toNat : Int) - 96
def sgnB (b : UInt8) : Int := if b = 46 then 0 else if 97 ≤ b.toNat ∧ b.toNat ≤ 101 then (b.toNat : Int) - 96 else -1
def rdT (p : List UInt8) : List Int := p.map rdB
def atR (l : List UInt8) (j : Nat) : UInt8 := l.getD (j / 4 * 5 + j % 4) 0
def getR (l : List UInt8) : List Int := [rdB (atR l 0), rdB (atR l 1), rdB (atR l 2), rdB (atR l 3), rdB (atR l 4), rdB (atR l 5), rdB (atR l 6), rdB (atR l 7), rdB (atR l 8), rdB (atR l 9), rdB (atR l 10), rdB (atR l 11), rdB (atR l 12), rdB (atR l 13), rdB (atR l 14), rdB (atR l 15), rdB (atR l 16), rdB (atR l 17), rdB (atR l 18), rdB (atR l 19), rdB (atR l 20), rdB (atR l 21), rdB (atR l 22), rdB (atR l 23)]
/-- There is a rack of this text. -/
def okR (l : List UInt8) : Bool := decide (l.length = 29) && vR (getR l) && decide (textL (getR l) = l)
def parseA (l : List UInt8) : List Int := if okR l = true then getR l else z24
theorem parseA_len (l : List UInt8) : (parseA l).length = 24 := by unfold parseA; split <;> rfl
theorem getR_len (l : List UInt8) : (getR l).length = 24 := rfl

theorem rd_chr {z : Int} (h : 0 ≤ z ∧ z ≤ 5) : rdB (chr z) = z := by
  rcases six_cases h.1 h.2 with rfl | rfl | rfl | rfl | rfl | rfl <;> rfl
theorem sgn_chr {z : Int} (h : 0 ≤ z ∧ z ≤ 5) : sgnB (chr z) = z := by
  rcases six_cases h.1 h.2 with rfl | rfl | rfl | rfl | rfl | rfl <;> rfl
theorem chr_rd {b : UInt8} (h : 0 ≤ sgnB b) : chr (rdB b) = b := by
  unfold sgnB at h
  unfold rdB
  by_cases h0 : b = 46
  · rw [if_pos h0, h0]; rfl
  · rw [if_neg h0] at h ⊢
    by_cases h1 : 97 ≤ b.toNat ∧ b.toNat ≤ 101
    · have : b.toNat = 97 ∨ b.toNat = 98 ∨ b.toNat = 99 ∨ b.toNat = 100 ∨ b.toNat = 101 := by omega
      apply UInt8.toNat_inj.1
      rcases this with e | e | e | e | e <;> rw [e] <;> rfl
    · rw [if_neg h1] at h; omega
theorem sgn_rd {b : UInt8} (h : 0 ≤ sgnB b) : sgnB b = rdB b := by
  unfold sgnB at h ⊢
  unfold rdB
  by_cases h0 : b = 46
  · rw [if_pos h0, if_pos h0]
  · rw [if_neg h0] at h ⊢
    rw [if_neg h0]
    by_cases h1 : 97 ≤ b.toNat ∧ b.toNat ≤ 101
    · rw [if_pos h1]
    · rw [if_neg h1] at h; omega
theorem vR_at {ns : List Int} (h : ns.length = 24) (hv : vR ns = true) (j : Nat) (hj : j < 24) : 0 ≤ ns.getD j 0 ∧ ns.getD j 0 ≤ 5 := by
  have := known_at (vR_tub hv (j / 4) (by omega)) (j % 4) (by rw [tub_len ns _ h (by omega)]; omega)
  rw [tub_getD ns _ _ (by omega), Nat.div_add_mod' j 4] at this
  exact this
theorem cut24 {ns : List Int} (h : ns.length = 24) : ∃ a0 a1 a2 a3 a4 a5 a6 a7 a8 a9 a10 a11 a12 a13 a14 a15 a16 a17 a18 a19 a20 a21 a22 a23, ns = [a0, a1, a2, a3, a4, a5, a6, a7, a8, a9, a10, a11, a12, a13, a14, a15, a16, a17, a18, a19, a20, a21, a22, a23] := by
  match ns, h with
  | [a0, a1, a2, a3, a4, a5, a6, a7, a8, a9, a10, a11, a12, a13, a14, a15, a16, a17, a18, a19, a20, a21, a22, a23], _ => exact ⟨a0, a1, a2, a3, a4, a5, a6, a7, a8, a9, a10, a11, a12, a13, a14, a15, a16, a17, a18, a19, a20, a21, a22, a23, rfl⟩
theorem cut29 {l : List UInt8} (h : l.length = 29) : ∃ b0 b1 b2 b3 b4 b5 b6 b7 b8 b9 b10 b11 b12 b13 b14 b15 b16 b17 b18 b19 b20 b21 b22 b23 b24 b25 b26 b27 b28, l = [b0, b1, b2, b3, b4, b5, b6, b7, b8, b9, b10, b11, b12, b13, b14, b15, b16, b17, b18, b19, b20, b21, b22, b23, b24, b25, b26, b27, b28] := by
  match l, h with
  | [b0, b1, b2, b3, b4, b5, b6, b7, b8, b9, b10, b11, b12, b13, b14, b15, b16, b17, b18, b19, b20, b21, b22, b23, b24, b25, b26, b27, b28], _ => exact ⟨b0, b1, b2, b3, b4, b5, b6, b7, b8, b9, b10, b11, b12, b13, b14, b15, b16, b17, b18, b19, b20, b21, b22, b23, b24, b25, b26, b27, b28, rfl⟩
set_option maxRecDepth 10000 in
set_option maxHeartbeats 1000000 in
/-- A text is that of one rack alone. -/
theorem text_get {ns : List Int} (h : ns.length = 24) (hv : vR ns = true) : (textL ns).length = 29 ∧ getR (textL ns) = ns := by
  have hk := vR_at h hv
  obtain ⟨a0, a1, a2, a3, a4, a5, a6, a7, a8, a9, a10, a11, a12, a13, a14, a15, a16, a17, a18, a19, a20, a21, a22, a23, rfl⟩ := cut24 h
  have k0 : 0 ≤ a0 ∧ a0 ≤ 5 := hk 0 (by omega)
  have k1 : 0 ≤ a1 ∧ a1 ≤ 5 := hk 1 (by omega)
  have k2 : 0 ≤ a2 ∧ a2 ≤ 5 := hk 2 (by omega)
  have k3 : 0 ≤ a3 ∧ a3 ≤ 5 := hk 3 (by omega)
  have k4 : 0 ≤ a4 ∧ a4 ≤ 5 := hk 4 (by omega)
  have k5 : 0 ≤ a5 ∧ a5 ≤ 5 := hk 5 (by omega)
  have k6 : 0 ≤ a6 ∧ a6 ≤ 5 := hk 6 (by omega)
  have k7 : 0 ≤ a7 ∧ a7 ≤ 5 := hk 7 (by omega)
  have k8 : 0 ≤ a8 ∧ a8 ≤ 5 := hk 8 (by omega)
  have k9 : 0 ≤ a9 ∧ a9 ≤ 5 := hk 9 (by omega)
  have k10 : 0 ≤ a10 ∧ a10 ≤ 5 := hk 10 (by omega)
  have k11 : 0 ≤ a11 ∧ a11 ≤ 5 := hk 11 (by omega)
  have k12 : 0 ≤ a12 ∧ a12 ≤ 5 := hk 12 (by omega)
  have k13 : 0 ≤ a13 ∧ a13 ≤ 5 := hk 13 (by omega)
  have k14 : 0 ≤ a14 ∧ a14 ≤ 5 := hk 14 (by omega)
  have k15 : 0 ≤ a15 ∧ a15 ≤ 5 := hk 15 (by omega)
  have k16 : 0 ≤ a16 ∧ a16 ≤ 5 := hk 16 (by omega)
  have k17 : 0 ≤ a17 ∧ a17 ≤ 5 := hk 17 (by omega)
  have k18 : 0 ≤ a18 ∧ a18 ≤ 5 := hk 18 (by omega)
  have k19 : 0 ≤ a19 ∧ a19 ≤ 5 := hk 19 (by omega)
  have k20 : 0 ≤ a20 ∧ a20 ≤ 5 := hk 20 (by omega)
  have k21 : 0 ≤ a21 ∧ a21 ≤ 5 := hk 21 (by omega)
  have k22 : 0 ≤ a22 ∧ a22 ≤ 5 := hk 22 (by omega)
  have k23 : 0 ≤ a23 ∧ a23 ≤ 5 := hk 23 (by omega)
  clear hk
  have eT : textL [a0, a1, a2, a3, a4, a5, a6, a7, a8, a9, a10, a11, a12, a13, a14, a15, a16, a17, a18, a19, a20, a21, a22, a23] = [chr a0, chr a1, chr a2, chr a3, 47, chr a4, chr a5, chr a6, chr a7, 47, chr a8, chr a9, chr a10, chr a11, 47, chr a12, chr a13, chr a14, chr a15, 47, chr a16, chr a17, chr a18, chr a19, 47, chr a20, chr a21, chr a22, chr a23] := by kernel_rfl
  have eG : getR [chr a0, chr a1, chr a2, chr a3, 47, chr a4, chr a5, chr a6, chr a7, 47, chr a8, chr a9, chr a10, chr a11, 47, chr a12, chr a13, chr a14, chr a15, 47, chr a16, chr a17, chr a18, chr a19, 47, chr a20, chr a21, chr a22, chr a23] = [rdB (chr a0), rdB (chr a1), rdB (chr a2), rdB (chr a3), rdB (chr a4), rdB (chr a5), rdB (chr a6), rdB (chr a7), rdB (chr a8), rdB (chr a9), rdB (chr a10), rdB (chr a11), rdB (chr a12), rdB (chr a13), rdB (chr a14), rdB (chr a15), rdB (chr a16), rdB (chr a17), rdB (chr a18), rdB (chr a19), rdB (chr a20), rdB (chr a21), rdB (chr a22), rdB (chr a23)] := by kernel_rfl
  rw [eT, eG]
  refine ⟨rfl, ?_⟩
  rw [rd_chr k0, rd_chr k1, rd_chr k2, rd_chr k3, rd_chr k4, rd_chr k5, rd_chr k6, rd_chr k7, rd_chr k8, rd_chr k9, rd_chr k10, rd_chr k11, rd_chr k12, rd_chr k13, rd_chr k14, rd_chr k15, rd_chr k16, rd_chr k17, rd_chr k18, rd_chr k19, rd_chr k20, rd_chr k21, rd_chr k22, rd_chr k23]
theorem okR_of {ns : List Int} {l : List UInt8} (h : ns.length = 24) (hv : vR ns = true) (e : textL ns = l) : okR l = true ∧ getR l = ns := by
  subst e
  obtain ⟨h1, h2⟩ := text_get h hv
  refine ⟨?_, h2⟩
  unfold okR
  rw [h1, h2, hv]; simp
theorem ok_parts {l : List UInt8} (h : okR l = true) : l.length = 29 ∧ vR (getR l) = true ∧ textL (getR l) = l := by
  unfold okR at h
  simp only [Bool.and_eq_true, decide_eq_true_eq] at h
  exact ⟨h.1.1, h.1.2, h.2⟩
/-! the parts of a text -/
theorem text_flat (ns : List Int) : textL ns = tubB (tub ns 0) ++ 47 :: (tubB (tub ns 1) ++ 47 :: (tubB (tub ns 2) ++ 47 :: (tubB (tub ns 3) ++ 47 :: (tubB (tub ns 4) ++ 47 :: tubB (tub ns 5))))) := by
  simp [textL, preT, sepB]
theorem text_split {ns : List Int} (hv : vR ns = true) : splitL 47 (textL ns) = [tubB (tub ns 0), tubB (tub ns 1), tubB (tub ns 2), tubB (tub ns 3), tubB (tub ns 4), tubB (tub ns 5)] := by
  have hn := fun i hi => tubB_ne (vR_tub hv i hi)
  rw [text_flat, splitL_at _ _ _ (hn 0 (by omega)), splitL_at _ _ _ (hn 1 (by omega)), splitL_at _ _ _ (hn 2 (by omega)), splitL_at _ _ _ (hn 3 (by omega)), splitL_at _ _ _ (hn 4 (by omega)), splitL_last _ _ (hn 5 (by omega))]
/-- The rack that the first parts make. -/
def rdR (ps : List (List UInt8)) : Nat → List Int
  | 0 => z24
  | k + 1 => setTub (rdR ps k) k (rdT (ps.getD k []))
theorem rdT_len (p : List UInt8) : (rdT p).length = p.length := List.length_map _
theorem rdR_len (ps : List (List UInt8)) : ∀ k, k ≤ 6 → (∀ j, j < k → (ps.getD j []).length = 4) → (rdR ps k).length = 24
  | 0, _, _ => rfl
  | k + 1, hk, h => setTub_len _ _ _ (rdR_len ps k (by omega) (fun j hj => h j (by omega))) (by omega) (by rw [rdT_len]; exact h k (by omega))
set_option maxRecDepth 10000 in
set_option maxHeartbeats 1000000 in
theorem rdR_text {ns : List Int} (h : ns.length = 24) (hv : vR ns = true) : rdR [tubB (tub ns 0), tubB (tub ns 1), tubB (tub ns 2), tubB (tub ns 3), tubB (tub ns 4), tubB (tub ns 5)] 6 = ns := by
  have hk := vR_at h hv
  obtain ⟨a0, a1, a2, a3, a4, a5, a6, a7, a8, a9, a10, a11, a12, a13, a14, a15, a16, a17, a18, a19, a20, a21, a22, a23, rfl⟩ := cut24 h
  have k0 : 0 ≤ a0 ∧ a0 ≤ 5 := hk 0 (by omega)
  have k1 : 0 ≤ a1 ∧ a1 ≤ 5 := hk 1 (by omega)
  have k2 : 0 ≤ a2 ∧ a2 ≤ 5 := hk 2 (by omega)
  have k3 : 0 ≤ a3 ∧ a3 ≤ 5 := hk 3 (by omega)
  have k4 : 0 ≤ a4 ∧ a4 ≤ 5 := hk 4 (by omega)
  have k5 : 0 ≤ a5 ∧ a5 ≤ 5 := hk 5 (by omega)
  have k6 : 0 ≤ a6 ∧ a6 ≤ 5 := hk 6 (by omega)
  have k7 : 0 ≤ a7 ∧ a7 ≤ 5 := hk 7 (by omega)
  have k8 : 0 ≤ a8 ∧ a8 ≤ 5 := hk 8 (by omega)
  have k9 : 0 ≤ a9 ∧ a9 ≤ 5 := hk 9 (by omega)
  have k10 : 0 ≤ a10 ∧ a10 ≤ 5 := hk 10 (by omega)
  have k11 : 0 ≤ a11 ∧ a11 ≤ 5 := hk 11 (by omega)
  have k12 : 0 ≤ a12 ∧ a12 ≤ 5 := hk 12 (by omega)
  have k13 : 0 ≤ a13 ∧ a13 ≤ 5 := hk 13 (by omega)
  have k14 : 0 ≤ a14 ∧ a14 ≤ 5 := hk 14 (by omega)
  have k15 : 0 ≤ a15 ∧ a15 ≤ 5 := hk 15 (by omega)
  have k16 : 0 ≤ a16 ∧ a16 ≤ 5 := hk 16 (by omega)
  have k17 : 0 ≤ a17 ∧ a17 ≤ 5 := hk 17 (by omega)
  have k18 : 0 ≤ a18 ∧ a18 ≤ 5 := hk 18 (by omega)
  have k19 : 0 ≤ a19 ∧ a19 ≤ 5 := hk 19 (by omega)
  have k20 : 0 ≤ a20 ∧ a20 ≤ 5 := hk 20 (by omega)
  have k21 : 0 ≤ a21 ∧ a21 ≤ 5 := hk 21 (by omega)
  have k22 : 0 ≤ a22 ∧ a22 ≤ 5 := hk 22 (by omega)
  have k23 : 0 ≤ a23 ∧ a23 ≤ 5 := hk 23 (by omega)
  clear hk
  have eG : rdR [tubB (tub [a0, a1, a2, a3, a4, a5, a6, a7, a8, a9, a10, a11, a12, a13, a14, a15, a16, a17, a18, a19, a20, a21, a22, a23] 0), tubB (tub [a0, a1, a2, a3, a4, a5, a6, a7, a8, a9, a10, a11, a12, a13, a14, a15, a16, a17, a18, a19, a20, a21, a22, a23] 1), tubB (tub [a0, a1, a2, a3, a4, a5, a6, a7, a8, a9, a10, a11, a12, a13, a14, a15, a16, a17, a18, a19, a20, a21, a22, a23] 2), tubB (tub [a0, a1, a2, a3, a4, a5, a6, a7, a8, a9, a10, a11, a12, a13, a14, a15, a16, a17, a18, a19, a20, a21, a22, a23] 3), tubB (tub [a0, a1, a2, a3, a4, a5, a6, a7, a8, a9, a10, a11, a12, a13, a14, a15, a16, a17, a18, a19, a20, a21, a22, a23] 4), tubB (tub [a0, a1, a2, a3, a4, a5, a6, a7, a8, a9, a10, a11, a12, a13, a14, a15, a16, a17, a18, a19, a20, a21, a22, a23] 5)] 6 = [rdB (chr a0), rdB (chr a1), rdB (chr a2), rdB (chr a3), rdB (chr a4), rdB (chr a5), rdB (chr a6), rdB (chr a7), rdB (chr a8), rdB (chr a9), rdB (chr a10), rdB (chr a11), rdB (chr a12), rdB (chr a13), rdB (chr a14), rdB (chr a15), rdB (chr a16), rdB (chr a17), rdB (chr a18), rdB (chr a19), rdB (chr a20), rdB (chr a21), rdB (chr a22), rdB (chr a23)] := by kernel_rfl
  rw [eG, rd_chr k0, rd_chr k1, rd_chr k2, rd_chr k3, rd_chr k4, rd_chr k5, rd_chr k6, rd_chr k7, rd_chr k8, rd_chr k9, rd_chr k10, rd_chr k11, rd_chr k12, rd_chr k13, rd_chr k14, rd_chr k15, rd_chr k16, rd_chr k17, rd_chr k18, rd_chr k19, rd_chr k20, rd_chr k21, rd_chr k22, rd_chr k23]
/-- What the program finds is a rack of the text just if there is one. -/
theorem parse_yes {l : List UInt8} (h : okR l = true) : (splitL 47 l).length = 6 ∧ (∀ k, k < 6 → ((splitL 47 l).getD k []).length = 4) ∧ rdR (splitL 47 l) 6 = getR l := by
  obtain ⟨h1, h2, h3⟩ := ok_parts h
  have hs := text_split h2
  rw [h3] at hs
  rw [hs]
  refine ⟨rfl, fun k hk => ?_, rdR_text (getR_len l) h2⟩
  have ht := fun i hi => (tubB_len (tub (getR l) i)).trans (tub_len (getR l) i (getR_len l) hi)
  match k, hk with
  | 0, _ => exact ht 0 (by omega)
  | 1, _ => exact ht 1 (by omega)
  | 2, _ => exact ht 2 (by omega)
  | 3, _ => exact ht 3 (by omega)
  | 4, _ => exact ht 4 (by omega)
  | 5, _ => exact ht 5 (by omega)
theorem parse_end {l : List UInt8} (h4 : ∀ k, k < 6 → ((splitL 47 l).getD k []).length = 4) : okR l = (vR (rdR (splitL 47 l) 6) && decide (textL (rdR (splitL 47 l) 6) = l)) ∧ (okR l = true → rdR (splitL 47 l) 6 = getR l) := by
  refine ⟨?_, fun h => (parse_yes h).2.2⟩
  cases hv : vR (rdR (splitL 47 l) 6) with
  | false =>
    cases ho : okR l with
    | false => rfl
    | true =>
      rw [(parse_yes ho).2.2, (ok_parts ho).2.1] at hv; cases hv
  | true =>
    by_cases he : textL (rdR (splitL 47 l) 6) = l
    · rw [(okR_of (rdR_len _ 6 (by omega) h4) hv he).1]; simp [he]
    · cases ho : okR l with
      | false => simp [he]
      | true => exact absurd (by rw [(parse_yes ho).2.2]; exact (ok_parts ho).2.2) he
theorem parse_no {l : List UInt8} (h : okR l = false) : parseA l = z24 := by unfold parseA; rw [if_neg (by rw [h]; decide)]
theorem parse_is {l : List UInt8} (h : okR l = true) : parseA l = getR l := by unfold parseA; rw [if_pos h]
/-! the model's way -/
def okAt (l : List UInt8) (i : Nat) : Bool := if i % 5 = 4 then decide (l.getD i 0 = 47) else decide (0 ≤ sgnB (l.getD i 0))
def upR (l : List UInt8) : Nat → List Int
  | 0 => z24
  | i + 1 => if i % 5 = 4 then upR l i else (upR l i).set (i / 5 * 4 + i % 5) (sgnB (l.getD i 0))
theorem upR_len (l : List UInt8) : ∀ i, (upR l i).length = 24
  | 0 => rfl
  | i + 1 => by
    unfold upR
    split
    · exact upR_len l i
    · rw [List.length_set]; exact upR_len l i
set_option maxRecDepth 10000 in
set_option maxHeartbeats 1000000 in
theorem ok_all {l : List UInt8} (h : okR l = true) (i : Nat) (hi : i < 29) : okAt l i = true := by
  obtain ⟨h1, h2, h3⟩ := ok_parts h
  have hk := vR_at (getR_len l) h2
  have h24 := getR_len l
  rw [← h3]
  generalize getR l = ns at *
  obtain ⟨a0, a1, a2, a3, a4, a5, a6, a7, a8, a9, a10, a11, a12, a13, a14, a15, a16, a17, a18, a19, a20, a21, a22, a23, rfl⟩ := cut24 h24
  have k0 : 0 ≤ a0 ∧ a0 ≤ 5 := hk 0 (by omega)
  have k1 : 0 ≤ a1 ∧ a1 ≤ 5 := hk 1 (by omega)
  have k2 : 0 ≤ a2 ∧ a2 ≤ 5 := hk 2 (by omega)
  have k3 : 0 ≤ a3 ∧ a3 ≤ 5 := hk 3 (by omega)
  have k4 : 0 ≤ a4 ∧ a4 ≤ 5 := hk 4 (by omega)
  have k5 : 0 ≤ a5 ∧ a5 ≤ 5 := hk 5 (by omega)
  have k6 : 0 ≤ a6 ∧ a6 ≤ 5 := hk 6 (by omega)
  have k7 : 0 ≤ a7 ∧ a7 ≤ 5 := hk 7 (by omega)
  have k8 : 0 ≤ a8 ∧ a8 ≤ 5 := hk 8 (by omega)
  have k9 : 0 ≤ a9 ∧ a9 ≤ 5 := hk 9 (by omega)
  have k10 : 0 ≤ a10 ∧ a10 ≤ 5 := hk 10 (by omega)
  have k11 : 0 ≤ a11 ∧ a11 ≤ 5 := hk 11 (by omega)
  have k12 : 0 ≤ a12 ∧ a12 ≤ 5 := hk 12 (by omega)
  have k13 : 0 ≤ a13 ∧ a13 ≤ 5 := hk 13 (by omega)
  have k14 : 0 ≤ a14 ∧ a14 ≤ 5 := hk 14 (by omega)
  have k15 : 0 ≤ a15 ∧ a15 ≤ 5 := hk 15 (by omega)
  have k16 : 0 ≤ a16 ∧ a16 ≤ 5 := hk 16 (by omega)
  have k17 : 0 ≤ a17 ∧ a17 ≤ 5 := hk 17 (by omega)
  have k18 : 0 ≤ a18 ∧ a18 ≤ 5 := hk 18 (by omega)
  have k19 : 0 ≤ a19 ∧ a19 ≤ 5 := hk 19 (by omega)
  have k20 : 0 ≤ a20 ∧ a20 ≤ 5 := hk 20 (by omega)
  have k21 : 0 ≤ a21 ∧ a21 ≤ 5 := hk 21 (by omega)
  have k22 : 0 ≤ a22 ∧ a22 ≤ 5 := hk 22 (by omega)
  have k23 : 0 ≤ a23 ∧ a23 ≤ 5 := hk 23 (by omega)
  have hs := fun z (hz : 0 ≤ z ∧ z ≤ 5) => show decide (0 ≤ sgnB (chr z)) = true by rw [sgn_chr hz]; simpa using hz.1
  have eT : textL [a0, a1, a2, a3, a4, a5, a6, a7, a8, a9, a10, a11, a12, a13, a14, a15, a16, a17, a18, a19, a20, a21, a22, a23] = [chr a0, chr a1, chr a2, chr a3, 47, chr a4, chr a5, chr a6, chr a7, 47, chr a8, chr a9, chr a10, chr a11, 47, chr a12, chr a13, chr a14, chr a15, 47, chr a16, chr a17, chr a18, chr a19, 47, chr a20, chr a21, chr a22, chr a23] := by kernel_rfl
  rw [eT]
  clear hk eT h1 h2 h3 h24 h
  have hii : i = 0 ∨ i = 1 ∨ i = 2 ∨ i = 3 ∨ i = 4 ∨ i = 5 ∨ i = 6 ∨ i = 7 ∨ i = 8 ∨ i = 9 ∨ i = 10 ∨ i = 11 ∨ i = 12 ∨ i = 13 ∨ i = 14 ∨ i = 15 ∨ i = 16 ∨ i = 17 ∨ i = 18 ∨ i = 19 ∨ i = 20 ∨ i = 21 ∨ i = 22 ∨ i = 23 ∨ i = 24 ∨ i = 25 ∨ i = 26 ∨ i = 27 ∨ i = 28 := by omega
  clear hi
  rcases hii with rfl | rfl | rfl | rfl | rfl | rfl | rfl | rfl | rfl | rfl | rfl | rfl | rfl | rfl | rfl | rfl | rfl | rfl | rfl | rfl | rfl | rfl | rfl | rfl | rfl | rfl | rfl | rfl | rfl
  · exact (by kernel_rfl : okAt [chr a0, chr a1, chr a2, chr a3, 47, chr a4, chr a5, chr a6, chr a7, 47, chr a8, chr a9, chr a10, chr a11, 47, chr a12, chr a13, chr a14, chr a15, 47, chr a16, chr a17, chr a18, chr a19, 47, chr a20, chr a21, chr a22, chr a23] 0 = decide (0 ≤ sgnB (chr a0))).trans (hs _ k0)
  · exact (by kernel_rfl : okAt [chr a0, chr a1, chr a2, chr a3, 47, chr a4, chr a5, chr a6, chr a7, 47, chr a8, chr a9, chr a10, chr a11, 47, chr a12, chr a13, chr a14, chr a15, 47, chr a16, chr a17, chr a18, chr a19, 47, chr a20, chr a21, chr a22, chr a23] 1 = decide (0 ≤ sgnB (chr a1))).trans (hs _ k1)
  · exact (by kernel_rfl : okAt [chr a0, chr a1, chr a2, chr a3, 47, chr a4, chr a5, chr a6, chr a7, 47, chr a8, chr a9, chr a10, chr a11, 47, chr a12, chr a13, chr a14, chr a15, 47, chr a16, chr a17, chr a18, chr a19, 47, chr a20, chr a21, chr a22, chr a23] 2 = decide (0 ≤ sgnB (chr a2))).trans (hs _ k2)
  · exact (by kernel_rfl : okAt [chr a0, chr a1, chr a2, chr a3, 47, chr a4, chr a5, chr a6, chr a7, 47, chr a8, chr a9, chr a10, chr a11, 47, chr a12, chr a13, chr a14, chr a15, 47, chr a16, chr a17, chr a18, chr a19, 47, chr a20, chr a21, chr a22, chr a23] 3 = decide (0 ≤ sgnB (chr a3))).trans (hs _ k3)
  · exact (by kernel_rfl : okAt [chr a0, chr a1, chr a2, chr a3, 47, chr a4, chr a5, chr a6, chr a7, 47, chr a8, chr a9, chr a10, chr a11, 47, chr a12, chr a13, chr a14, chr a15, 47, chr a16, chr a17, chr a18, chr a19, 47, chr a20, chr a21, chr a22, chr a23] 4 = true)
  · exact (by kernel_rfl : okAt [chr a0, chr a1, chr a2, chr a3, 47, chr a4, chr a5, chr a6, chr a7, 47, chr a8, chr a9, chr a10, chr a11, 47, chr a12, chr a13, chr a14, chr a15, 47, chr a16, chr a17, chr a18, chr a19, 47, chr a20, chr a21, chr a22, chr a23] 5 = decide (0 ≤ sgnB (chr a4))).trans (hs _ k4)
  · exact (by kernel_rfl : okAt [chr a0, chr a1, chr a2, chr a3, 47, chr a4, chr a5, chr a6, chr a7, 47, chr a8, chr a9, chr a10, chr a11, 47, chr a12, chr a13, chr a14, chr a15, 47, chr a16, chr a17, chr a18, chr a19, 47, chr a20, chr a21, chr a22, chr a23] 6 = decide (0 ≤ sgnB (chr a5))).trans (hs _ k5)
  · exact (by kernel_rfl : okAt [chr a0, chr a1, chr a2, chr a3, 47, chr a4, chr a5, chr a6, chr a7, 47, chr a8, chr a9, chr a10, chr a11, 47, chr a12, chr a13, chr a14, chr a15, 47, chr a16, chr a17, chr a18, chr a19, 47, chr a20, chr a21, chr a22, chr a23] 7 = decide (0 ≤ sgnB (chr a6))).trans (hs _ k6)
  · exact (by kernel_rfl : okAt [chr a0, chr a1, chr a2, chr a3, 47, chr a4, chr a5, chr a6, chr a7, 47, chr a8, chr a9, chr a10, chr a11, 47, chr a12, chr a13, chr a14, chr a15, 47, chr a16, chr a17, chr a18, chr a19, 47, chr a20, chr a21, chr a22, chr a23] 8 = decide (0 ≤ sgnB (chr a7))).trans (hs _ k7)
  · exact (by kernel_rfl : okAt [chr a0, chr a1, chr a2, chr a3, 47, chr a4, chr a5, chr a6, chr a7, 47, chr a8, chr a9, chr a10, chr a11, 47, chr a12, chr a13, chr a14, chr a15, 47, chr a16, chr a17, chr a18, chr a19, 47, chr a20, chr a21, chr a22, chr a23] 9 = true)
  · exact (by kernel_rfl : okAt [chr a0, chr a1, chr a2, chr a3, 47, chr a4, chr a5, chr a6, chr a7, 47, chr a8, chr a9, chr a10, chr a11, 47, chr a12, chr a13, chr a14, chr a15, 47, chr a16, chr a17, chr a18, chr a19, 47, chr a20, chr a21, chr a22, chr a23] 10 = decide (0 ≤ sgnB (chr a8))).trans (hs _ k8)
  · exact (by kernel_rfl : okAt [chr a0, chr a1, chr a2, chr a3, 47, chr a4, chr a5, chr a6, chr a7, 47, chr a8, chr a9, chr a10, chr a11, 47, chr a12, chr a13, chr a14, chr a15, 47, chr a16, chr a17, chr a18, chr a19, 47, chr a20, chr a21, chr a22, chr a23] 11 = decide (0 ≤ sgnB (chr a9))).trans (hs _ k9)
  · exact (by kernel_rfl : okAt [chr a0, chr a1, chr a2, chr a3, 47, chr a4, chr a5, chr a6, chr a7, 47, chr a8, chr a9, chr a10, chr a11, 47, chr a12, chr a13, chr a14, chr a15, 47, chr a16, chr a17, chr a18, chr a19, 47, chr a20, chr a21, chr a22, chr a23] 12 = decide (0 ≤ sgnB (chr a10))).trans (hs _ k10)
  · exact (by kernel_rfl : okAt [chr a0, chr a1, chr a2, chr a3, 47, chr a4, chr a5, chr a6, chr a7, 47, chr a8, chr a9, chr a10, chr a11, 47, chr a12, chr a13, chr a14, chr a15, 47, chr a16, chr a17, chr a18, chr a19, 47, chr a20, chr a21, chr a22, chr a23] 13 = decide (0 ≤ sgnB (chr a11))).trans (hs _ k11)
  · exact (by kernel_rfl : okAt [chr a0, chr a1, chr a2, chr a3, 47, chr a4, chr a5, chr a6, chr a7, 47, chr a8, chr a9, chr a10, chr a11, 47, chr a12, chr a13, chr a14, chr a15, 47, chr a16, chr a17, chr a18, chr a19, 47, chr a20, chr a21, chr a22, chr a23] 14 = true)
  · exact (by kernel_rfl : okAt [chr a0, chr a1, chr a2, chr a3, 47, chr a4, chr a5, chr a6, chr a7, 47, chr a8, chr a9, chr a10, chr a11, 47, chr a12, chr a13, chr a14, chr a15, 47, chr a16, chr a17, chr a18, chr a19, 47, chr a20, chr a21, chr a22, chr a23] 15 = decide (0 ≤ sgnB (chr a12))).trans (hs _ k12)
  · exact (by kernel_rfl : okAt [chr a0, chr a1, chr a2, chr a3, 47, chr a4, chr a5, chr a6, chr a7, 47, chr a8, chr a9, chr a10, chr a11, 47, chr a12, chr a13, chr a14, chr a15, 47, chr a16, chr a17, chr a18, chr a19, 47, chr a20, chr a21, chr a22, chr a23] 16 = decide (0 ≤ sgnB (chr a13))).trans (hs _ k13)
  · exact (by kernel_rfl : okAt [chr a0, chr a1, chr a2, chr a3, 47, chr a4, chr a5, chr a6, chr a7, 47, chr a8, chr a9, chr a10, chr a11, 47, chr a12, chr a13, chr a14, chr a15, 47, chr a16, chr a17, chr a18, chr a19, 47, chr a20, chr a21, chr a22, chr a23] 17 = decide (0 ≤ sgnB (chr a14))).trans (hs _ k14)
  · exact (by kernel_rfl : okAt [chr a0, chr a1, chr a2, chr a3, 47, chr a4, chr a5, chr a6, chr a7, 47, chr a8, chr a9, chr a10, chr a11, 47, chr a12, chr a13, chr a14, chr a15, 47, chr a16, chr a17, chr a18, chr a19, 47, chr a20, chr a21, chr a22, chr a23] 18 = decide (0 ≤ sgnB (chr a15))).trans (hs _ k15)
  · exact (by kernel_rfl : okAt [chr a0, chr a1, chr a2, chr a3, 47, chr a4, chr a5, chr a6, chr a7, 47, chr a8, chr a9, chr a10, chr a11, 47, chr a12, chr a13, chr a14, chr a15, 47, chr a16, chr a17, chr a18, chr a19, 47, chr a20, chr a21, chr a22, chr a23] 19 = true)
  · exact (by kernel_rfl : okAt [chr a0, chr a1, chr a2, chr a3, 47, chr a4, chr a5, chr a6, chr a7, 47, chr a8, chr a9, chr a10, chr a11, 47, chr a12, chr a13, chr a14, chr a15, 47, chr a16, chr a17, chr a18, chr a19, 47, chr a20, chr a21, chr a22, chr a23] 20 = decide (0 ≤ sgnB (chr a16))).trans (hs _ k16)
  · exact (by kernel_rfl : okAt [chr a0, chr a1, chr a2, chr a3, 47, chr a4, chr a5, chr a6, chr a7, 47, chr a8, chr a9, chr a10, chr a11, 47, chr a12, chr a13, chr a14, chr a15, 47, chr a16, chr a17, chr a18, chr a19, 47, chr a20, chr a21, chr a22, chr a23] 21 = decide (0 ≤ sgnB (chr a17))).trans (hs _ k17)
  · exact (by kernel_rfl : okAt [chr a0, chr a1, chr a2, chr a3, 47, chr a4, chr a5, chr a6, chr a7, 47, chr a8, chr a9, chr a10, chr a11, 47, chr a12, chr a13, chr a14, chr a15, 47, chr a16, chr a17, chr a18, chr a19, 47, chr a20, chr a21, chr a22, chr a23] 22 = decide (0 ≤ sgnB (chr a18))).trans (hs _ k18)
  · exact (by kernel_rfl : okAt [chr a0, chr a1, chr a2, chr a3, 47, chr a4, chr a5, chr a6, chr a7, 47, chr a8, chr a9, chr a10, chr a11, 47, chr a12, chr a13, chr a14, chr a15, 47, chr a16, chr a17, chr a18, chr a19, 47, chr a20, chr a21, chr a22, chr a23] 23 = decide (0 ≤ sgnB (chr a19))).trans (hs _ k19)
  · exact (by kernel_rfl : okAt [chr a0, chr a1, chr a2, chr a3, 47, chr a4, chr a5, chr a6, chr a7, 47, chr a8, chr a9, chr a10, chr a11, 47, chr a12, chr a13, chr a14, chr a15, 47, chr a16, chr a17, chr a18, chr a19, 47, chr a20, chr a21, chr a22, chr a23] 24 = true)
  · exact (by kernel_rfl : okAt [chr a0, chr a1, chr a2, chr a3, 47, chr a4, chr a5, chr a6, chr a7, 47, chr a8, chr a9, chr a10, chr a11, 47, chr a12, chr a13, chr a14, chr a15, 47, chr a16, chr a17, chr a18, chr a19, 47, chr a20, chr a21, chr a22, chr a23] 25 = decide (0 ≤ sgnB (chr a20))).trans (hs _ k20)
  · exact (by kernel_rfl : okAt [chr a0, chr a1, chr a2, chr a3, 47, chr a4, chr a5, chr a6, chr a7, 47, chr a8, chr a9, chr a10, chr a11, 47, chr a12, chr a13, chr a14, chr a15, 47, chr a16, chr a17, chr a18, chr a19, 47, chr a20, chr a21, chr a22, chr a23] 26 = decide (0 ≤ sgnB (chr a21))).trans (hs _ k21)
  · exact (by kernel_rfl : okAt [chr a0, chr a1, chr a2, chr a3, 47, chr a4, chr a5, chr a6, chr a7, 47, chr a8, chr a9, chr a10, chr a11, 47, chr a12, chr a13, chr a14, chr a15, 47, chr a16, chr a17, chr a18, chr a19, 47, chr a20, chr a21, chr a22, chr a23] 27 = decide (0 ≤ sgnB (chr a22))).trans (hs _ k22)
  · exact (by kernel_rfl : okAt [chr a0, chr a1, chr a2, chr a3, 47, chr a4, chr a5, chr a6, chr a7, 47, chr a8, chr a9, chr a10, chr a11, 47, chr a12, chr a13, chr a14, chr a15, 47, chr a16, chr a17, chr a18, chr a19, 47, chr a20, chr a21, chr a22, chr a23] 28 = decide (0 ≤ sgnB (chr a23))).trans (hs _ k23)
set_option maxRecDepth 10000 in
set_option maxHeartbeats 1000000 in
theorem ok_up {l : List UInt8} (hl : l.length = 29) (h : ∀ i, i < 29 → okAt l i = true) : upR l 29 = getR l ∧ okR l = vR (getR l) := by
  obtain ⟨b0, b1, b2, b3, b4, b5, b6, b7, b8, b9, b10, b11, b12, b13, b14, b15, b16, b17, b18, b19, b20, b21, b22, b23, b24, b25, b26, b27, b28, rfl⟩ := cut29 hl
  have q0 : 0 ≤ sgnB b0 := of_decide_eq_true ((by kernel_rfl : decide (0 ≤ sgnB b0) = okAt [b0, b1, b2, b3, b4, b5, b6, b7, b8, b9, b10, b11, b12, b13, b14, b15, b16, b17, b18, b19, b20, b21, b22, b23, b24, b25, b26, b27, b28] 0).trans (h 0 (by omega)))
  have q1 : 0 ≤ sgnB b1 := of_decide_eq_true ((by kernel_rfl : decide (0 ≤ sgnB b1) = okAt [b0, b1, b2, b3, b4, b5, b6, b7, b8, b9, b10, b11, b12, b13, b14, b15, b16, b17, b18, b19, b20, b21, b22, b23, b24, b25, b26, b27, b28] 1).trans (h 1 (by omega)))
  have q2 : 0 ≤ sgnB b2 := of_decide_eq_true ((by kernel_rfl : decide (0 ≤ sgnB b2) = okAt [b0, b1, b2, b3, b4, b5, b6, b7, b8, b9, b10, b11, b12, b13, b14, b15, b16, b17, b18, b19, b20, b21, b22, b23, b24, b25, b26, b27, b28] 2).trans (h 2 (by omega)))
  have q3 : 0 ≤ sgnB b3 := of_decide_eq_true ((by kernel_rfl : decide (0 ≤ sgnB b3) = okAt [b0, b1, b2, b3, b4, b5, b6, b7, b8, b9, b10, b11, b12, b13, b14, b15, b16, b17, b18, b19, b20, b21, b22, b23, b24, b25, b26, b27, b28] 3).trans (h 3 (by omega)))
  have q4 : b4 = 47 := of_decide_eq_true ((by kernel_rfl : decide (b4 = 47) = okAt [b0, b1, b2, b3, b4, b5, b6, b7, b8, b9, b10, b11, b12, b13, b14, b15, b16, b17, b18, b19, b20, b21, b22, b23, b24, b25, b26, b27, b28] 4).trans (h 4 (by omega)))
  have q5 : 0 ≤ sgnB b5 := of_decide_eq_true ((by kernel_rfl : decide (0 ≤ sgnB b5) = okAt [b0, b1, b2, b3, b4, b5, b6, b7, b8, b9, b10, b11, b12, b13, b14, b15, b16, b17, b18, b19, b20, b21, b22, b23, b24, b25, b26, b27, b28] 5).trans (h 5 (by omega)))
  have q6 : 0 ≤ sgnB b6 := of_decide_eq_true ((by kernel_rfl : decide (0 ≤ sgnB b6) = okAt [b0, b1, b2, b3, b4, b5, b6, b7, b8, b9, b10, b11, b12, b13, b14, b15, b16, b17, b18, b19, b20, b21, b22, b23, b24, b25, b26, b27, b28] 6).trans (h 6 (by omega)))
  have q7 : 0 ≤ sgnB b7 := of_decide_eq_true ((by kernel_rfl : decide (0 ≤ sgnB b7) = okAt [b0, b1, b2, b3, b4, b5, b6, b7, b8, b9, b10, b11, b12, b13, b14, b15, b16, b17, b18, b19, b20, b21, b22, b23, b24, b25, b26, b27, b28] 7).trans (h 7 (by omega)))
  have q8 : 0 ≤ sgnB b8 := of_decide_eq_true ((by kernel_rfl : decide (0 ≤ sgnB b8) = okAt [b0, b1, b2, b3, b4, b5, b6, b7, b8, b9, b10, b11, b12, b13, b14, b15, b16, b17, b18, b19, b20, b21, b22, b23, b24, b25, b26, b27, b28] 8).trans (h 8 (by omega)))
  have q9 : b9 = 47 := of_decide_eq_true ((by kernel_rfl : decide (b9 = 47) = okAt [b0, b1, b2, b3, b4, b5, b6, b7, b8, b9, b10, b11, b12, b13, b14, b15, b16, b17, b18, b19, b20, b21, b22, b23, b24, b25, b26, b27, b28] 9).trans (h 9 (by omega)))
  have q10 : 0 ≤ sgnB b10 := of_decide_eq_true ((by kernel_rfl : decide (0 ≤ sgnB b10) = okAt [b0, b1, b2, b3, b4, b5, b6, b7, b8, b9, b10, b11, b12, b13, b14, b15, b16, b17, b18, b19, b20, b21, b22, b23, b24, b25, b26, b27, b28] 10).trans (h 10 (by omega)))
  have q11 : 0 ≤ sgnB b11 := of_decide_eq_true ((by kernel_rfl : decide (0 ≤ sgnB b11) = okAt [b0, b1, b2, b3, b4, b5, b6, b7, b8, b9, b10, b11, b12, b13, b14, b15, b16, b17, b18, b19, b20, b21, b22, b23, b24, b25, b26, b27, b28] 11).trans (h 11 (by omega)))
  have q12 : 0 ≤ sgnB b12 := of_decide_eq_true ((by kernel_rfl : decide (0 ≤ sgnB b12) = okAt [b0, b1, b2, b3, b4, b5, b6, b7, b8, b9, b10, b11, b12, b13, b14, b15, b16, b17, b18, b19, b20, b21, b22, b23, b24, b25, b26, b27, b28] 12).trans (h 12 (by omega)))
  have q13 : 0 ≤ sgnB b13 := of_decide_eq_true ((by kernel_rfl : decide (0 ≤ sgnB b13) = okAt [b0, b1, b2, b3, b4, b5, b6, b7, b8, b9, b10, b11, b12, b13, b14, b15, b16, b17, b18, b19, b20, b21, b22, b23, b24, b25, b26, b27, b28] 13).trans (h 13 (by omega)))
  have q14 : b14 = 47 := of_decide_eq_true ((by kernel_rfl : decide (b14 = 47) = okAt [b0, b1, b2, b3, b4, b5, b6, b7, b8, b9, b10, b11, b12, b13, b14, b15, b16, b17, b18, b19, b20, b21, b22, b23, b24, b25, b26, b27, b28] 14).trans (h 14 (by omega)))
  have q15 : 0 ≤ sgnB b15 := of_decide_eq_true ((by kernel_rfl : decide (0 ≤ sgnB b15) = okAt [b0, b1, b2, b3, b4, b5, b6, b7, b8, b9, b10, b11, b12, b13, b14, b15, b16, b17, b18, b19, b20, b21, b22, b23, b24, b25, b26, b27, b28] 15).trans (h 15 (by omega)))
  have q16 : 0 ≤ sgnB b16 := of_decide_eq_true ((by kernel_rfl : decide (0 ≤ sgnB b16) = okAt [b0, b1, b2, b3, b4, b5, b6, b7, b8, b9, b10, b11, b12, b13, b14, b15, b16, b17, b18, b19, b20, b21, b22, b23, b24, b25, b26, b27, b28] 16).trans (h 16 (by omega)))
  have q17 : 0 ≤ sgnB b17 := of_decide_eq_true ((by kernel_rfl : decide (0 ≤ sgnB b17) = okAt [b0, b1, b2, b3, b4, b5, b6, b7, b8, b9, b10, b11, b12, b13, b14, b15, b16, b17, b18, b19, b20, b21, b22, b23, b24, b25, b26, b27, b28] 17).trans (h 17 (by omega)))
  have q18 : 0 ≤ sgnB b18 := of_decide_eq_true ((by kernel_rfl : decide (0 ≤ sgnB b18) = okAt [b0, b1, b2, b3, b4, b5, b6, b7, b8, b9, b10, b11, b12, b13, b14, b15, b16, b17, b18, b19, b20, b21, b22, b23, b24, b25, b26, b27, b28] 18).trans (h 18 (by omega)))
  have q19 : b19 = 47 := of_decide_eq_true ((by kernel_rfl : decide (b19 = 47) = okAt [b0, b1, b2, b3, b4, b5, b6, b7, b8, b9, b10, b11, b12, b13, b14, b15, b16, b17, b18, b19, b20, b21, b22, b23, b24, b25, b26, b27, b28] 19).trans (h 19 (by omega)))
  have q20 : 0 ≤ sgnB b20 := of_decide_eq_true ((by kernel_rfl : decide (0 ≤ sgnB b20) = okAt [b0, b1, b2, b3, b4, b5, b6, b7, b8, b9, b10, b11, b12, b13, b14, b15, b16, b17, b18, b19, b20, b21, b22, b23, b24, b25, b26, b27, b28] 20).trans (h 20 (by omega)))
  have q21 : 0 ≤ sgnB b21 := of_decide_eq_true ((by kernel_rfl : decide (0 ≤ sgnB b21) = okAt [b0, b1, b2, b3, b4, b5, b6, b7, b8, b9, b10, b11, b12, b13, b14, b15, b16, b17, b18, b19, b20, b21, b22, b23, b24, b25, b26, b27, b28] 21).trans (h 21 (by omega)))
  have q22 : 0 ≤ sgnB b22 := of_decide_eq_true ((by kernel_rfl : decide (0 ≤ sgnB b22) = okAt [b0, b1, b2, b3, b4, b5, b6, b7, b8, b9, b10, b11, b12, b13, b14, b15, b16, b17, b18, b19, b20, b21, b22, b23, b24, b25, b26, b27, b28] 22).trans (h 22 (by omega)))
  have q23 : 0 ≤ sgnB b23 := of_decide_eq_true ((by kernel_rfl : decide (0 ≤ sgnB b23) = okAt [b0, b1, b2, b3, b4, b5, b6, b7, b8, b9, b10, b11, b12, b13, b14, b15, b16, b17, b18, b19, b20, b21, b22, b23, b24, b25, b26, b27, b28] 23).trans (h 23 (by omega)))
  have q24 : b24 = 47 := of_decide_eq_true ((by kernel_rfl : decide (b24 = 47) = okAt [b0, b1, b2, b3, b4, b5, b6, b7, b8, b9, b10, b11, b12, b13, b14, b15, b16, b17, b18, b19, b20, b21, b22, b23, b24, b25, b26, b27, b28] 24).trans (h 24 (by omega)))
  have q25 : 0 ≤ sgnB b25 := of_decide_eq_true ((by kernel_rfl : decide (0 ≤ sgnB b25) = okAt [b0, b1, b2, b3, b4, b5, b6, b7, b8, b9, b10, b11, b12, b13, b14, b15, b16, b17, b18, b19, b20, b21, b22, b23, b24, b25, b26, b27, b28] 25).trans (h 25 (by omega)))
  have q26 : 0 ≤ sgnB b26 := of_decide_eq_true ((by kernel_rfl : decide (0 ≤ sgnB b26) = okAt [b0, b1, b2, b3, b4, b5, b6, b7, b8, b9, b10, b11, b12, b13, b14, b15, b16, b17, b18, b19, b20, b21, b22, b23, b24, b25, b26, b27, b28] 26).trans (h 26 (by omega)))
  have q27 : 0 ≤ sgnB b27 := of_decide_eq_true ((by kernel_rfl : decide (0 ≤ sgnB b27) = okAt [b0, b1, b2, b3, b4, b5, b6, b7, b8, b9, b10, b11, b12, b13, b14, b15, b16, b17, b18, b19, b20, b21, b22, b23, b24, b25, b26, b27, b28] 27).trans (h 27 (by omega)))
  have q28 : 0 ≤ sgnB b28 := of_decide_eq_true ((by kernel_rfl : decide (0 ≤ sgnB b28) = okAt [b0, b1, b2, b3, b4, b5, b6, b7, b8, b9, b10, b11, b12, b13, b14, b15, b16, b17, b18, b19, b20, b21, b22, b23, b24, b25, b26, b27, b28] 28).trans (h 28 (by omega)))
  have e1 : upR [b0, b1, b2, b3, b4, b5, b6, b7, b8, b9, b10, b11, b12, b13, b14, b15, b16, b17, b18, b19, b20, b21, b22, b23, b24, b25, b26, b27, b28] 29 = [sgnB b0, sgnB b1, sgnB b2, sgnB b3, sgnB b5, sgnB b6, sgnB b7, sgnB b8, sgnB b10, sgnB b11, sgnB b12, sgnB b13, sgnB b15, sgnB b16, sgnB b17, sgnB b18, sgnB b20, sgnB b21, sgnB b22, sgnB b23, sgnB b25, sgnB b26, sgnB b27, sgnB b28] := by kernel_rfl
  have e2 : getR [b0, b1, b2, b3, b4, b5, b6, b7, b8, b9, b10, b11, b12, b13, b14, b15, b16, b17, b18, b19, b20, b21, b22, b23, b24, b25, b26, b27, b28] = [rdB b0, rdB b1, rdB b2, rdB b3, rdB b5, rdB b6, rdB b7, rdB b8, rdB b10, rdB b11, rdB b12, rdB b13, rdB b15, rdB b16, rdB b17, rdB b18, rdB b20, rdB b21, rdB b22, rdB b23, rdB b25, rdB b26, rdB b27, rdB b28] := by kernel_rfl
  refine ⟨by rw [e1, e2, sgn_rd q0, sgn_rd q1, sgn_rd q2, sgn_rd q3, sgn_rd q5, sgn_rd q6, sgn_rd q7, sgn_rd q8, sgn_rd q10, sgn_rd q11, sgn_rd q12, sgn_rd q13, sgn_rd q15, sgn_rd q16, sgn_rd q17, sgn_rd q18, sgn_rd q20, sgn_rd q21, sgn_rd q22, sgn_rd q23, sgn_rd q25, sgn_rd q26, sgn_rd q27, sgn_rd q28], ?_⟩
  unfold okR
  have e3 : textL (getR [b0, b1, b2, b3, b4, b5, b6, b7, b8, b9, b10, b11, b12, b13, b14, b15, b16, b17, b18, b19, b20, b21, b22, b23, b24, b25, b26, b27, b28]) = [chr (rdB b0), chr (rdB b1), chr (rdB b2), chr (rdB b3), 47, chr (rdB b5), chr (rdB b6), chr (rdB b7), chr (rdB b8), 47, chr (rdB b10), chr (rdB b11), chr (rdB b12), chr (rdB b13), 47, chr (rdB b15), chr (rdB b16), chr (rdB b17), chr (rdB b18), 47, chr (rdB b20), chr (rdB b21), chr (rdB b22), chr (rdB b23), 47, chr (rdB b25), chr (rdB b26), chr (rdB b27), chr (rdB b28)] := by kernel_rfl
  rw [e3, chr_rd q0, chr_rd q1, chr_rd q2, chr_rd q3, chr_rd q5, chr_rd q6, chr_rd q7, chr_rd q8, chr_rd q10, chr_rd q11, chr_rd q12, chr_rd q13, chr_rd q15, chr_rd q16, chr_rd q17, chr_rd q18, chr_rd q20, chr_rd q21, chr_rd q22, chr_rd q23, chr_rd q25, chr_rd q26, chr_rd q27, chr_rd q28, q4, q9, q14, q19, q24]
  simp
theorem up_noR {l : List UInt8} (i : Nat) (hi : i < 29) (h : okAt l i = false) : okR l = false := by
  cases ho : okR l with
  | false => rfl
  | true => rw [ok_all ho i hi] at h; cases h
end Go.Proofs.Ytalngdccjoafhab.base
