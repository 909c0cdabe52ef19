/-
  Which of two racks comes first: plain mathematics, and the model's side, walked.
-/
import Derived.Test.YtemiljokdedidacDoors
import Derived.Test.YtemiljokdedidacRackTo
namespace Go.Proofs.Ytemiljokdedidac.base
open Go.ChangeShapes Go.WideShapes Go.ChangeAt Go.RowKit
set_option linter.unusedVariables false
set_option linter.unusedSimpArgs false

/-- The first of two lists of numbers comes first. -/
def ltL : List Int → List Int → Bool
  | x :: xs, y :: ys => if x = y then ltL xs ys else decide (x < y)
  | _, _ => false
theorem ltL_same : ∀ a : List Int, ltL a a = false
  | [] => rfl
  | x :: xs => by rw [ltL, if_pos rfl]; exact ltL_same xs
theorem ltL_at : ∀ (k : Nat) (a b : List Int), k < a.length → k < b.length → (∀ j, j < k → a.getD j 0 = b.getD j 0) → a.getD k 0 ≠ b.getD k 0 → ltL a b = decide (a.getD k 0 < b.getD k 0)
  | 0, x :: xs, y :: ys, _, _, _, h => by
    simp only [List.getD_cons_zero] at h ⊢
    rw [ltL, if_neg h]
  | k + 1, x :: xs, y :: ys, ha, hb, he, h => by
    have e0 := he 0 (by omega)
    simp only [List.getD_cons_zero] at e0
    simp only [List.getD_cons_succ] at h ⊢
    rw [ltL, if_pos e0]
    exact ltL_at k xs ys (by simpa using ha) (by simpa using hb) (fun j hj => by have := he (j + 1) (by omega); simpa using this) h
  | _, [], _, ha, _, _, _ => by simp at ha
  | _, _ :: _, [], _, hb, _, _ => by simp at hb
theorem getD_ext {a b : List Int} {n : Nat} (ha : a.length = n) (hb : b.length = n) (h : ∀ j, j < n → a.getD j 0 = b.getD j 0) : a = b := by
  refine List.ext_getElem (by rw [ha, hb]) fun i h1 h2 => ?_
  have := h i (by omega)
  rwa [List.getD_eq_getElem?_getD, List.getD_eq_getElem?_getD, List.getElem?_eq_getElem h1, List.getElem?_eq_getElem h2] at this
/-- Lists that are different differ at a first place. -/
theorem first_diff {a b : List Int} {n : Nat} (ha : a.length = n) (hb : b.length = n) (h : a ≠ b) : ∃ k, k < n ∧ (∀ j, j < k → a.getD j 0 = b.getD j 0) ∧ a.getD k 0 ≠ b.getD k 0 := by
  suffices ∀ m, m ≤ n → (∀ j, j < m → a.getD j 0 = b.getD j 0) ∨ ∃ k, k < m ∧ (∀ j, j < k → a.getD j 0 = b.getD j 0) ∧ a.getD k 0 ≠ b.getD k 0 by
    rcases this n (Nat.le_refl _) with hs | ⟨k, hk, h1, h2⟩
    · exact absurd (getD_ext ha hb hs) h
    · exact ⟨k, hk, h1, h2⟩
  intro m
  induction m with
  | zero => intro _; exact .inl (fun j hj => by omega)
  | succ m ih =>
    intro hm
    rcases ih (by omega) with hs | ⟨k, hk, h1, h2⟩
    · by_cases e : a.getD m 0 = b.getD m 0
      · exact .inl (fun j hj => by
          by_cases hjm : j = m
          · subst hjm; exact e
          · exact hs j (by omega))
      · exact .inr ⟨m, by omega, hs, e⟩
    · exact .inr ⟨k, by omega, h1, h2⟩
/-- Racks are ordered as their first different tubes are. -/
theorem ltL_tub {a b : List Int} (ha : a.length = 24) (hb : b.length = 24) (p : Nat) (hp : p < 6) (he : ∀ q, q < p → tub a q = tub b q) (h : tub a p ≠ tub b p) : ltL a b = ltL (tub a p) (tub b p) := by
  obtain ⟨k, hk, h1, h2⟩ := first_diff (tub_len a p ha hp) (tub_len b p hb hp) h
  rw [ltL_at k (tub a p) (tub b p) (by rw [tub_len a p ha hp]; exact hk) (by rw [tub_len b p hb hp]; exact hk) h1 h2]
  rw [tub_getD a p k hk, tub_getD b p k hk] at h2 ⊢
  refine ltL_at (p * 4 + k) a b (by omega) (by omega) (fun j hj => ?_) h2
  by_cases hj4 : j < p * 4
  · have e := he (j / 4) (by omega)
    have : (tub a (j / 4)).getD (j % 4) 0 = (tub b (j / 4)).getD (j % 4) 0 := by rw [e]
    rw [tub_getD a _ _ (by omega), tub_getD b _ _ (by omega)] at this
    rwa [show j / 4 * 4 + j % 4 = j by omega] at this
  · have := h1 (j - p * 4) (by omega)
    rw [tub_getD a p _ (by omega), tub_getD b p _ (by omega)] at this
    rwa [show p * 4 + (j - p * 4) = j by omega] at this
/-- What is told of two racks. -/
def lessOk (ns ms : List Int) : Bool := vR ns && vR ms
def lessA (ns ms : List Int) : Bool := lessOk ns ms && ltL ns ms

set_option maxHeartbeats 800000 in
theorem l2Before_any (ns ms : List Int) (w : World) (h24 : ns.length = 24) (m24 : ms.length = 24) :
    Calls Try.prog 120 #[row ns, row ms] w fun e w' => e = .returned (.bool (ltL ns ms)) ∧ Kept w w' := by
  have HB := Lib.hid (((kept_refl w).alloc (.cells (ints ns).toArray 42)).alloc (.cells (ints ms).toArray 42))
  have H := (Has.box w 42 h24 (by omega)).alloc (.cells (ints ms).toArray 42)
  have G := (Has.box (w.alloc (.cells (ints ns).toArray 42)) 42 m24 (by omega)).at (size1 _ _)
  rw [row_ints, row_ints]
  go_enter Try.func120, Try.ntmps120
  go_wp2_with fail
  have HL := Lib.hid h24
  have ML := Lib.hid m24
  clear h24 m24
  generalize ((w.alloc (.cells (ints ns).toArray 42)).alloc (.cells (ints ms).toArray 42)) = W at *
  go_loopg [5, 6] 6 (fun gk i kk wr => ∃ p : Nat, gk = 6 - p ∧ p ≤ 6 ∧ i = .int .i64 p ∧ Has wr w.heap.size ns 24 ∧ Has wr (w.heap.size + 1) ms 24 ∧ Hid (∀ j, j < p * 4 → ns.getD j 0 = ms.getD j 0) ∧ Hid (Kept w wr))
  case atStart => exact ⟨0, rfl, by omega, rfl, H, G, Lib.hid (fun j hj => by omega), HB⟩
  case round =>
    obtain ⟨p, rfl, hp, rfl, GH, GY, GE, GB⟩ := hrel
    by_cases hp6 : p < 6
    · have hpi : (p : Int) < 6 := by omega
      go_wp2_with fail
      go_loopg [6] 4 (fun gk kk wr => ∃ q : Nat, gk = 4 - q ∧ q ≤ 4 ∧ kk = .int .i64 q ∧ Has wr w.heap.size ns 24 ∧ Has wr (w.heap.size + 1) ms 24 ∧ Hid (∀ j, j < p * 4 + q → ns.getD j 0 = ms.getD j 0) ∧ Hid (Kept w wr))
      case atStart => exact ⟨0, rfl, by omega, rfl, GH, GY, GE, GB⟩
      case round =>
        obtain ⟨q, rfl, hq, rfl, KH, KY, KE, KB⟩ := hrel
        by_cases hq4 : q < 4
        · have hqi : (q : Int) < 4 := by omega
          have c1 := KH.cell (p * 4 + q) (by omega)
          have c2 := KY.cell (p * 4 + q) (by omega)
          by_cases e : ns.getD (p * 4 + q) 0 = ms.getD (p * 4 + q) 0
          · have E2 := Lib.hid (show ∀ j, j < p * 4 + (q + 1) → ns.getD j 0 = ms.getD j 0 from fun j hj => by
              by_cases hjk : j = p * 4 + q
              · subst hjk; exact e
              · exact KE.out j (by omega))
            rw [← e] at c2
            clear e
            generalize ns.getD (p * 4 + q) 0 = x at *
            go_wp2_with fail
            go_quiet (fail)
            have G3 := KH.drewN nq
            have G4 := KY.drewN nq
            have GB2 := Lib.hid (KB.out.drewN nq)
            go_wp2_with fail
            go_roundg (4 - (q + 1))
            case rel => exact ⟨q + 1, rfl, by omega, by go_num, G3, G4, E2, GB2⟩
            case measure => omega
          · have R := Lib.hid (ltL_at (p * 4 + q) ns ms (by rw [HL.out]; omega) (by rw [ML.out]; omega) KE.out e)
            have e1 : (ns.getD (p * 4 + q) 0 == ms.getD (p * 4 + q) 0) = false := by simpa using e
            have e2 : (ns.getD (p * 4 + q) 0 != ms.getD (p * 4 + q) 0) = true := by simpa using e
            clear e
            generalize ns.getD (p * 4 + q) 0 = x at *
            generalize ms.getD (p * 4 + q) 0 = y at *
            go_wp2_with fail
            go_quiet (fail)
            have d1 := (KH.drewN nq)
            have GB2 := Lib.hid (KB.out.drewN nq)
            have c3 : (wr.drewN nq).cell? ⟨w.heap.size, p * 4 + q, none⟩ = some (.int .i64 x) := by simpa using c1
            have c4 : (wr.drewN nq).cell? ⟨w.heap.size + 1, p * 4 + q, none⟩ = some (.int .i64 y) := by simpa using c2
            go_wp2_with fail
            go_quiet (fail)
            have GB3 := Lib.hid (GB2.out.drewN nq)
            go_wp2_with fail
            go_ret
            exact ⟨ret_bool R.out.symm, GB3.out⟩
        · obtain rfl : q = 4 := by omega
          have E2 := Lib.hid (show ∀ j, j < (p + 1) * 4 → ns.getD j 0 = ms.getD j 0 from fun j hj => KE.out j (by omega))
          go_wp2_with fail
          go_roundg (6 - (p + 1))
          case rel => exact ⟨p + 1, rfl, by omega, by go_num, KH, KY, E2, KB⟩
          case measure => omega
    · obtain rfl : p = 6 := by omega
      have hs : ns = ms := getD_ext HL.out ML.out (fun j hj => GE.out j (by omega))
      subst hs
      have R := Lib.hid (ltL_same ns)
      go_wp2_with fail
      go_ret
      exact ⟨ret_bool R.out.symm, GB.out⟩

end Go.Proofs.Ytemiljokdedidac.base
