/-
  A rack is put to its place, on the model's side, walked.
-/
import Derived.Test.YtemiljokdedidacRkIns
import Derived.Test.YtemiljokdedidacLess
import Derived.Test.YtemiljokdedidacGridZ
import Derived.Test.YtemiljokdedidacRackOps
import Derived.Test.YtemiljokdedidacEqRZ
import Derived.Deep.Cut
import Derived.Deep.CutRange
import Derived.Deep.RegionHeld3
import Derived.Maps.AppendAt
namespace Go.Proofs.Ytemiljokdedidac.base
open Go.ChangeShapes Go.WideShapes Go.ChangeAt Go.RowKit
set_option linter.unusedVariables false
set_option linter.unusedSimpArgs false

section
variable {P : Program} {o : Oper} {a : Act} {w : World} {K : Act → World → Prop} {Q : Exit → Act → World → Prop}
/-- Several items more, out of a block that is known. -/
theorem wp_append_many (s x : Operand) (tt : TypeId) (ho : o.op = .call { callee := .builtin .append, args := #[s, x], argTypes := #[tt, tt] })
    (base : Nat) (t : TypeId) (m bytes : Nat) (ht : P.underlying tt = some (.slice t)) (hi : (P.info? t).map (fun i => (i.zero.map fun z => z.cells.size, i.size, i.bytes)) = some (some m, m, bytes)) (hm : 0 < m) (hby : bytes ≤ 1000)
    (v : Value) (n : Nat) (ls : List (List Int)) (hls : ls.length = n) (hs : a.eval s = v) (G : Gr w base t m v ls) (ad : Addr) (k c : Nat) (hx : a.eval x = .slice (some ad) k c) (ys : List (List Int)) (hk : ys.length = k) (hyl : ∀ l ∈ ys, l.length = m)
    (hc : ∀ j u, (ints ys.flatten)[j]? = some u → w.cell? (ad.add j) = some u) (hbase : base ≤ w.heap.size) (hn : n + k ≤ 100000)
    (h : ∀ v' w', Gr w' base t m v' (ls ++ ys) → w.grownBy w' v.ownBlock → (v'.ownBlock = v.ownBlock ∨ v'.ownBlock = some w.heap.size) → K (a.put o.dst v') w') : Oper.wp P o a w K Q := by
  subst hls
  obtain ⟨i, z, hi0, hz, hzs, h3, h4⟩ := info_of hi
  have hb : (ls.length + k) * bytes ≤ 140737488355328 := by
    have := Nat.mul_le_mul (show ls.length + k ≤ 100000 by omega) hby
    omega
  obtain ⟨v', w', hr, h5, h6, _, h8⟩ := run_append_own_at (P := P) w base tt o.type t i z m bytes ht hi0 hz h3 h4 hzs hm v ls.length (ints ls.flatten) G.row ad k c (ints ys.flatten) (by rw [ints_len, flat_len ys hyl, hk]) hc (ints_one _) (by unfold maxLen; omega) hb hbase
  unfold Oper.wp execOp
  simp only [ho, resolve, invoke, builtin, Sem.run_bind, Sem.run_pure, Result.andThen_ok, List.map_toArray, List.map_cons, List.map_nil, hs, hx, hr]
  refine h v' w' ⟨?_, ?_⟩ h6 h8
  · have e : ints (ls ++ ys).flatten = ints ls.flatten ++ ints ys.flatten := by
      rw [List.flatten_append]; unfold ints; rw [List.map_append]
    rw [List.length_append, hk, e]; exact h5
  · intro l hl
    rcases List.mem_append.1 hl with h9 | h9
    · exact G.lens l h9
    · exact hyl l h9
end
theorem Gr.part {w : World} {b m g cap n : Nat} {t : TypeId} {ls : List (List Int)} (h : Gr w b t m (.slice (some ⟨g, 0, Option.none⟩) n cap) ls) (hn : n = ls.length) (o : Nat) (ys : List (List Int)) (hy : ∀ k, k < ys.length → o + k < n ∧ ys.getD k [] = ls.getD (o + k) []) (hyl : ∀ l ∈ ys, l.length = m) :
    ∀ j u, (ints ys.flatten)[j]? = some u → w.cell? ((⟨g, o * m, Option.none⟩ : Addr).add j) = some u := by
  intro j u hu
  have hfl := flat_len ys hyl
  have hj : j < ys.length * m := by
    rcases Nat.lt_or_ge j (ys.length * m) with h1 | h1
    · exact h1
    · rw [List.getElem?_eq_none (by rw [ints_len, hfl]; exact h1)] at hu; cases hu
  have hm : 0 < m := by
    rcases Nat.eq_zero_or_pos m with h0 | h0
    · subst h0; simp at hj
    · exact h0
  have h1 : j / m < ys.length := Nat.div_lt_of_lt_mul (by rw [Nat.mul_comm]; exact hj)
  have h2 : j % m < m := Nat.mod_lt _ hm
  obtain ⟨h3, h4⟩ := hy _ h1
  rw [ints_get _ _ (by rw [hfl]; exact hj)] at hu
  have h5 := flat_get ys hyl (j / m) (j % m) h1 h2
  rw [Nat.div_add_mod'] at h5
  have h6 := h.cell hn (o + j / m) (j % m) h3 h2
  have h7 : (o + j / m) * m + j % m = o * m + j := by
    rw [Nat.add_mul, Nat.add_assoc, Nat.div_add_mod']
  rw [h7] at h6
  have h8 : (⟨g, o * m, Option.none⟩ : Addr).add j = ⟨g, o * m + j, Option.none⟩ := by unfold Addr.add; split <;> simp_all
  rw [h8, h6, ← hu, h5, h4]

theorem ltL_lexP : ∀ a b : List Int, ltL a b = lexB a b
  | [], [] => rfl
  | [], _ :: _ => rfl
  | _ :: _, [] => rfl
  | x :: xs, y :: ys => by rw [ltL, lexB, ltL_lexP xs ys]
theorem rkIns_same {r : List Int} : ∀ {l : List (List Int)} {n : Nat}, n < l.length → (∀ j, j < n → lexB (l.getD j []) r = true) → l.getD n [] = r → rkIns r l = l
  | [], n, h, _, _ => by simp at h
  | x :: l, 0, _, _, h => by
    rw [List.getD_cons_zero] at h
    rw [rkIns, h, lexB_irr, if_neg (by simp), if_pos rfl]
  | x :: l, n + 1, h, h1, h2 => by
    have h0 := h1 0 (by omega)
    rw [List.getD_cons_zero] at h0
    rw [rkIns, if_pos h0, rkIns_same (n := n) (by simpa using h) (fun j hj => by have := h1 (j + 1) (by omega); rwa [List.getD_cons_succ] at this) (by rwa [List.getD_cons_succ] at h2)]
theorem rkIns_at {r : List Int} : ∀ {l : List (List Int)} {n : Nat}, n ≤ l.length → (∀ j, j < n → lexB (l.getD j []) r = true) → (n < l.length → lexB (l.getD n []) r = false ∧ l.getD n [] ≠ r) → rkIns r l = l.take n ++ [r] ++ l.drop n
  | [], n, h, _, _ => by
    obtain rfl : n = 0 := by simpa using h
    rfl
  | x :: l, 0, _, _, h => by
    obtain ⟨h1, h2⟩ := h (by simp)
    rw [List.getD_cons_zero] at h1 h2
    rw [rkIns, h1, if_neg (by simp), if_neg h2]; rfl
  | x :: l, n + 1, h, h1, h2 => by
    have h0 := h1 0 (by omega)
    rw [List.getD_cons_zero] at h0
    rw [rkIns, if_pos h0, rkIns_at (n := n) (by simpa using h) (fun j hj => by have := h1 (j + 1) (by omega); rwa [List.getD_cons_succ] at this) (fun hn => by have := h2 (by simpa using hn); rwa [List.getD_cons_succ] at this)]
    rfl

def PutPost (b : Nat) (L : List (List Int)) (r : List Int) (w : World) (e : Ending) (w' : World) : Prop := ∃ g cap : Nat, e = .returned (.slice (some ⟨g, 0, none⟩) (rkIns r L).length cap) ∧ Gr w' b 42 24 (.slice (some ⟨g, 0, none⟩) (rkIns r L).length cap) (rkIns r L) ∧ Kept w w'

set_option maxHeartbeats 3200000 in
set_option maxRecDepth 100000 in
theorem l5Put_any (L : List (List Int)) (r : List Int) (b g N cap : Nat) (w : World) (hr : r.length = 24) (hN : N = L.length) (hN1 : N ≤ 1000) (hb : b ≤ w.heap.size) (G : Gr w b 42 24 (.slice (some ⟨g, 0, none⟩) N cap) L) :
    Calls Try.prog 100 #[.slice (some ⟨g, 0, none⟩) N cap, row r] w (PutPost b L r w) := by
  have HB := Lib.hid ((kept_refl w).alloc (.cells (ints r).toArray 42))
  have H := Has.box w 42 hr (by omega)
  have HG := Lib.hid (G.alloc (.cells (ints r).toArray 42))
  have HGL := Lib.hid ((G.own g rfl).2)
  have hcap : N ≤ cap ∧ cap ≤ maxLen := by
    rcases G.row.2 with ⟨h0, _⟩ | ⟨g', cap', cur, hv, _, _, h1, h2, _⟩
    · cases h0
    · injection hv with _ _ e3
      subst e3
      rw [hN]; exact ⟨h1, h2⟩
  have hir : (Try.prog.info? 42).map (·.size) = some (ints r).length := by rw [ints_len, hr]; kernel_rfl
  have EM : Hid (Try.prog.eqGuardType Try.prog.depth 42 = false) := Lib.hid (by kernel_rfl)
  have HNL := Lib.hid hN
  have HRL := Lib.hid hr
  clear G hN hr
  rw [row_ints]
  go_enter Try.func100, Try.ntmps100
  go_wp2_with fail
  generalize w.alloc (.cells (ints r).toArray 42) = W at *
  have V0 : Hid (∀ j, j < 0 → lexB (L.getD j []) r = true) := Lib.hid (fun j h => by omega)
  go_loopg [5] N (fun gk i wr => ∃ n : Nat, gk = N - n ∧ n ≤ N ∧ i = .int .i64 n ∧ Has wr w.heap.size r 24 ∧ Hid (Gr wr b 42 24 (.slice (some ⟨g, 0, none⟩) N cap) L) ∧ Hid (∀ j, j < n → lexB (L.getD j []) r = true) ∧ Hid (Kept w wr))
  case atStart => exact ⟨0, rfl, by omega, rfl, H, HG, V0, HB⟩
  case round =>
    obtain ⟨n, rfl, hn, rfl, KH, KG, KV, KB⟩ := hrel
    by_cases hnN : n < N
    · have hni : (n : Int) < (N : Int) := by omega
      have hn0 : (0 : Int) ≤ (n : Int) := by omega
      have hnL : n < L.length := by rw [← HNL.out]; exact hnN
      have hx24 := KG.out.item hnL
      have C0 := Lib.hid (fun (w' : World) (h : Gr w' b 42 24 (.slice (some ⟨g, 0, none⟩) N cap) L) => h.range HNL.out n hnN)
      have ES := Lib.hid (fun h => rkIns_same (r := r) hnL KV.out h)
      have EA := Lib.hid (fun h1 h2 => rkIns_at (r := r) (n := n) (Nat.le_of_lt hnL) KV.out (fun _ => ⟨h1, h2⟩))
      have EV := Lib.hid (fun (h1 : lexB (L.getD n []) r = true) => (show ∀ j, j < n + 1 → lexB (L.getD j []) r = true from fun j hj => by
        rcases Nat.lt_succ_iff_lt_or_eq.1 hj with h2 | h2
        · exact KV.out j h2
        · rw [h2]; exact h1))
      generalize L.getD n [] = x at *
      have hix : (Try.prog.info? 42).map (·.size) = some (ints x).length := by rw [ints_len, hx24]; kernel_rfl
      have EQ := Lib.hid (eqRackT x r hx24 HRL.out)
      go_wp2_with fail
      refine wp_region_held_drew (S := fun w' => Has w' w.heap.size r 24 ∧ Gr w' b 42 24 (.slice (some ⟨g, 0, none⟩) N cap) L ∧ Kept w w') (by kernel_rfl) ⟨KH.drew, KG.out.drew, KB.out.drewN 1⟩ (fun hHeld => ?_)
      (refine wpAnyH_take (i := 0) (v := ?_) rfl (by kernel_rfl) (by kernel_rfl) (by kernel_rfl) (fun _ _ _ h => h) (Or.inl ⟨by rfl, ?_⟩) hHeld ?_; rotate_left; (· (intro w' hSw; go_simp; try with_reducible rfl)); (try simp only [List.getElem_toArray, List.getElem_cons_zero, List.getElem_cons_succ, Act.put, List.setIfInBounds_toArray, List.set_cons_zero, List.set_cons_succ])); (refine wpAnyH_take (i := 1) (v := ?_) rfl (by kernel_rfl) (by kernel_rfl) (by kernel_rfl) (fun _ _ _ h => h) (Or.inl ⟨by rfl, ?_⟩) hHeld ?_; rotate_left; (· (intro w' hSw; go_simp; try with_reducible rfl)); (try simp only [List.getElem_toArray, List.getElem_cons_zero, List.getElem_cons_succ, Act.put, List.setIfInBounds_toArray, List.set_cons_zero, List.set_cons_succ]))
      (refine wpAnyH_ready (rs := [2]) (by kernel_rfl) (by simp) ?_; refine AllReadyH.cons (o := _) rfl (fun K hK => ?_) AllReadyH.nil; (simp only [List.getElem_toArray, List.getElem_cons_zero, List.getElem_cons_succ, Region.wanted, if_true]))
      go_simp
      (try simp only [List.getElem_toArray, List.getElem_cons_zero, List.getElem_cons_succ, Act.put, List.setIfInBounds_toArray, List.set_cons_zero, List.set_cons_succ])
      refine hK.out _ _ hHeld (fun hHeld => ?_)
      clear hK K
      (refine wpAnyH_take (i := 3) (v := ?_) rfl (by kernel_rfl) (by kernel_rfl) (by kernel_rfl) (fun _ _ _ h => h) (Or.inl ⟨by rfl, ?_⟩) hHeld ?_; rotate_left; (· (intro w' hSw; go_simp; try with_reducible rfl)); (try simp only [List.getElem_toArray, List.getElem_cons_zero, List.getElem_cons_succ, Act.put, List.setIfInBounds_toArray, List.set_cons_zero, List.set_cons_succ])); (refine wpAnyH_take (i := 4) (v := ?_) rfl (by kernel_rfl) (by kernel_rfl) (by kernel_rfl) (fun _ _ _ h => h) (Or.inl ⟨by rfl, ?_⟩) hHeld ?_; rotate_left; (· (intro w' hSw; go_simp; try with_reducible rfl)); (try simp only [List.getElem_toArray, List.getElem_cons_zero, List.getElem_cons_succ, Act.put, List.setIfInBounds_toArray, List.set_cons_zero, List.set_cons_succ])); (refine wpAnyH_take (i := 5) (v := ?_) rfl (by kernel_rfl) (by kernel_rfl) (by kernel_rfl) (fun _ _ _ h => h) (Or.inl ⟨by rfl, ?_⟩) hHeld ?_; rotate_left; (· (intro w' hSw; go_simp; try with_reducible rfl)); (try simp only [List.getElem_toArray, List.getElem_cons_zero, List.getElem_cons_succ, Act.put, List.setIfInBounds_toArray, List.set_cons_zero, List.set_cons_succ])); (refine wpAnyH_take (i := 6) (v := ?_) rfl (by kernel_rfl) (by kernel_rfl) (by kernel_rfl) (fun _ _ _ h => h) (Or.inl ⟨by rfl, ?_⟩) hHeld ?_; rotate_left; (· (intro w' hSw; go_simp; try with_reducible rfl)); (try simp only [List.getElem_toArray, List.getElem_cons_zero, List.getElem_cons_succ, Act.put, List.setIfInBounds_toArray, List.set_cons_zero, List.set_cons_succ])); (refine wpAnyH_take (i := 7) (v := ?_) rfl (by kernel_rfl) (by kernel_rfl) (by kernel_rfl) (fun _ _ _ h => h) (Or.inl ⟨by rfl, ?_⟩) hHeld ?_; rotate_left; (· (intro w' hSw; go_simp; try with_reducible rfl)); (try simp only [List.getElem_toArray, List.getElem_cons_zero, List.getElem_cons_succ, Act.put, List.setIfInBounds_toArray, List.set_cons_zero, List.set_cons_succ]))
      (refine wpAnyH_take (i := 8) (v := _) rfl (by kernel_rfl) (by kernel_rfl) (by kernel_rfl) (fun _ _ _ h => h) (yieldsIf_load_mid (by rfl) 42 _ rfl _ _ rfl (ints x) _ (fun w' hSw => C0.out w' hSw.2.1) Try.underlying42 rfl (hix)) hHeld ?_; (try simp only [List.getElem_toArray, List.getElem_cons_zero, List.getElem_cons_succ, Act.put, List.setIfInBounds_toArray, List.set_cons_zero, List.set_cons_succ]))
      (refine wpAnyH_take (i := 9) (v := _) rfl (by kernel_rfl) (by kernel_rfl) (by kernel_rfl) (fun _ _ _ h => h) (yieldsIf_load_mid (by rfl) 42 _ rfl _ _ rfl (ints r) _ (fun w' hSw => hSw.1.holds.range) Try.underlying42 rfl (hir)) hHeld ?_; (try simp only [List.getElem_toArray, List.getElem_cons_zero, List.getElem_cons_succ, Act.put, List.setIfInBounds_toArray, List.set_cons_zero, List.set_cons_succ]))
      (refine wpAnyH_ready (rs := [10]) (by kernel_rfl) (by simp) ?_; refine AllReadyH.cons (o := _) rfl (fun K hK => ?_) AllReadyH.nil; (simp only [List.getElem_toArray, List.getElem_cons_zero, List.getElem_cons_succ, Region.wanted, if_true]))
      go_simp
      refine (l2Before_any x r _ hx24 HRL.out).mono ?_
      rintro e w2 ⟨rfl, b2⟩
      rw [ltL_lexP]
      dsimp only
      (try simp only [List.getElem_toArray, List.getElem_cons_zero, List.getElem_cons_succ, Act.put, List.setIfInBounds_toArray, List.set_cons_zero, List.set_cons_succ])
      refine hK.out _ _ ⟨hHeld.1.below b2, hHeld.2.1.below b2, hHeld.2.2.call b2⟩ (fun hHeld => ?_)
      clear hK K b2
      (refine wpAnyH_take (i := 11) (v := ?_) rfl (by kernel_rfl) (by kernel_rfl) (by kernel_rfl) (fun _ _ _ h => h) (Or.inl ⟨by rfl, ?_⟩) hHeld ?_; rotate_left; (· (intro w' hSw; go_simp; try with_reducible rfl)); (try simp only [List.getElem_toArray, List.getElem_cons_zero, List.getElem_cons_succ, Act.put, List.setIfInBounds_toArray, List.set_cons_zero, List.set_cons_succ]))
      refine wpAnyH_done (by kernel_rfl) ?_ _
      replace KH := hHeld.1
      replace KG := Lib.hid hHeld.2.1
      replace KB := Lib.hid hHeld.2.2
      clear hHeld
      by_cases hl : lexB x r = true
      · have E2 := Lib.hid (EV.out hl)
        rw [hl]
        clear hl
        go_wp2_with fail
        go_roundg (N - (n + 1))
        case rel => exact ⟨n + 1, rfl, by omega, by go_num, KH, KG, E2, KB⟩
        case measure => omega
      · have hf : lexB x r = false := by simpa using hl
        have HF := Lib.hid hf
        rw [hf]
        clear hl hf
        -- END1
        have nN : n ≤ N := hn
        have hnc : n ≤ cap := by omega
        have TP := Lib.hid (fun (w' : World) (h : Gr w' b 42 24 (.slice (some ⟨g, 0, none⟩) N cap) L) => (show ∀ j u, (ints (L.take n).flatten)[j]? = some u → w'.cell? ((⟨g, 0, none⟩ : Addr).add j) = some u from by
          have := h.part HNL.out 0 (L.take n) (fun k hk => by
            have hkn : k < n := by rw [List.length_take] at hk; omega
            refine ⟨by omega, ?_⟩
            rw [List.getD_eq_getElem?_getD, List.getD_eq_getElem?_getD, List.getElem?_take, if_pos hkn, Nat.zero_add]) (fun l hl => h.lens l (List.mem_of_mem_take hl))
          rwa [Nat.zero_mul] at this))
        have TD0 := fun (w' : World) (h : Gr w' b 42 24 (.slice (some ⟨g, 0, none⟩) N cap) L) => h.part HNL.out n (L.drop n) (fun k hk => by
          rw [List.length_drop, ← HNL.out] at hk
          refine ⟨by omega, ?_⟩
          rw [List.getD_eq_getElem?_getD, List.getD_eq_getElem?_getD, List.getElem?_drop]) (fun l hl => h.lens l (List.mem_of_mem_drop hl))
        obtain ⟨ad2, hAD, hTD⟩ : ∃ ad2 : Addr, (if cap = n then some (⟨g, 0, none⟩ : Addr) else some ⟨g, n * 24, none⟩) = some ad2 ∧ ∀ w' : World, Gr w' b 42 24 (.slice (some ⟨g, 0, none⟩) N cap) L → ∀ j u, (ints (L.drop n).flatten)[j]? = some u → w'.cell? (ad2.add j) = some u := by
          by_cases hcn : cap = n
          · refine ⟨⟨g, 0, none⟩, by rw [if_pos hcn], fun w' h j u hu => ?_⟩
            rw [List.drop_of_length_le (by rw [← HNL.out]; omega)] at hu
            simp [ints] at hu
          · exact ⟨⟨g, n * 24, none⟩, by rw [if_neg hcn], TD0⟩
        have HAD := Lib.hid hAD
        have TD := Lib.hid hTD
        clear TD0 hAD hTD
        go_wp2_with fail
        refine wp_region_held_drew (S := fun w' => Has w' w.heap.size r 24 ∧ Gr w' b 42 24 (.slice (some ⟨g, 0, none⟩) N cap) L ∧ Kept w w') (by kernel_rfl) ⟨KH.drew, KG.out.drew, KB.out.drewN 1⟩ (fun hHeld => ?_)
        (refine wpAnyH_take (i := 0) (v := ?_) rfl (by kernel_rfl) (by kernel_rfl) (by kernel_rfl) (fun _ _ _ h => h) (Or.inl ⟨by rfl, ?_⟩) hHeld ?_; rotate_left; (· (intro w' hSw; go_simp; try with_reducible rfl)); (try simp only [List.getElem_toArray, List.getElem_cons_zero, List.getElem_cons_succ, Act.put, List.setIfInBounds_toArray, List.set_cons_zero, List.set_cons_succ])); (refine wpAnyH_take (i := 1) (v := ?_) rfl (by kernel_rfl) (by kernel_rfl) (by kernel_rfl) (fun _ _ _ h => h) (Or.inl ⟨by rfl, ?_⟩) hHeld ?_; rotate_left; (· (intro w' hSw; go_simp; try with_reducible rfl)); (try simp only [List.getElem_toArray, List.getElem_cons_zero, List.getElem_cons_succ, Act.put, List.setIfInBounds_toArray, List.set_cons_zero, List.set_cons_succ]))
        (refine wpAnyH_ready (rs := [2]) (by kernel_rfl) (by simp) ?_; refine AllReadyH.cons (o := _) rfl (fun K hK => ?_) AllReadyH.nil; (simp only [List.getElem_toArray, List.getElem_cons_zero, List.getElem_cons_succ, Region.wanted, if_true]))
        go_simp
        (try simp only [List.getElem_toArray, List.getElem_cons_zero, List.getElem_cons_succ, Act.put, List.setIfInBounds_toArray, List.set_cons_zero, List.set_cons_succ])
        refine hK.out _ _ hHeld (fun hHeld => ?_)
        clear hK K
        (refine wpAnyH_take (i := 3) (v := ?_) rfl (by kernel_rfl) (by kernel_rfl) (by kernel_rfl) (fun _ _ _ h => h) (Or.inl ⟨by rfl, ?_⟩) hHeld ?_; rotate_left; (· (intro w' hSw; go_simp; try with_reducible rfl)); (try simp only [List.getElem_toArray, List.getElem_cons_zero, List.getElem_cons_succ, Act.put, List.setIfInBounds_toArray, List.set_cons_zero, List.set_cons_succ])); (refine wpAnyH_take (i := 4) (v := ?_) rfl (by kernel_rfl) (by kernel_rfl) (by kernel_rfl) (fun _ _ _ h => h) (Or.inl ⟨by rfl, ?_⟩) hHeld ?_; rotate_left; (· (intro w' hSw; go_simp; try with_reducible rfl)); (try simp only [List.getElem_toArray, List.getElem_cons_zero, List.getElem_cons_succ, Act.put, List.setIfInBounds_toArray, List.set_cons_zero, List.set_cons_succ])); (refine wpAnyH_take (i := 5) (v := ?_) rfl (by kernel_rfl) (by kernel_rfl) (by kernel_rfl) (fun _ _ _ h => h) (Or.inl ⟨by rfl, ?_⟩) hHeld ?_; rotate_left; (· (intro w' hSw; go_simp; try with_reducible rfl)); (try simp only [List.getElem_toArray, List.getElem_cons_zero, List.getElem_cons_succ, Act.put, List.setIfInBounds_toArray, List.set_cons_zero, List.set_cons_succ])); (refine wpAnyH_take (i := 6) (v := ?_) rfl (by kernel_rfl) (by kernel_rfl) (by kernel_rfl) (fun _ _ _ h => h) (Or.inl ⟨by rfl, ?_⟩) hHeld ?_; rotate_left; (· (intro w' hSw; go_simp; try with_reducible rfl)); (try simp only [List.getElem_toArray, List.getElem_cons_zero, List.getElem_cons_succ, Act.put, List.setIfInBounds_toArray, List.set_cons_zero, List.set_cons_succ])); (refine wpAnyH_take (i := 7) (v := ?_) rfl (by kernel_rfl) (by kernel_rfl) (by kernel_rfl) (fun _ _ _ h => h) (Or.inl ⟨by rfl, ?_⟩) hHeld ?_; rotate_left; (· (intro w' hSw; go_simp; try with_reducible rfl)); (try simp only [List.getElem_toArray, List.getElem_cons_zero, List.getElem_cons_succ, Act.put, List.setIfInBounds_toArray, List.set_cons_zero, List.set_cons_succ]))
        (refine wpAnyH_take (i := 8) (v := _) rfl (by kernel_rfl) (by kernel_rfl) (by kernel_rfl) (fun _ _ _ h => h) (yieldsIf_load_mid (by rfl) 42 _ rfl _ _ rfl (ints x) _ (fun w' hSw => C0.out w' hSw.2.1) Try.underlying42 rfl (hix)) hHeld ?_; (try simp only [List.getElem_toArray, List.getElem_cons_zero, List.getElem_cons_succ, Act.put, List.setIfInBounds_toArray, List.set_cons_zero, List.set_cons_succ]))
        (refine wpAnyH_take (i := 9) (v := _) rfl (by kernel_rfl) (by kernel_rfl) (by kernel_rfl) (fun _ _ _ h => h) (yieldsIf_load_mid (by rfl) 42 _ rfl _ _ rfl (ints r) _ (fun w' hSw => hSw.1.holds.range) Try.underlying42 rfl (hir)) hHeld ?_; (try simp only [List.getElem_toArray, List.getElem_cons_zero, List.getElem_cons_succ, Act.put, List.setIfInBounds_toArray, List.set_cons_zero, List.set_cons_succ]))
        refine wpAnyH_take (i := 10) (v := .bool (decide (x = r))) rfl (by kernel_rfl) (by kernel_rfl) (by kernel_rfl) (fun _ _ _ h => h) (Or.inl ⟨by rfl, fun w' hSw => eql_run _ _ _ _ _ _ rfl _ _ rfl rfl EM.out EQ.out⟩) hHeld ?_
        (try simp only [List.getElem_toArray, List.getElem_cons_zero, List.getElem_cons_succ, Act.put, List.setIfInBounds_toArray, List.set_cons_zero, List.set_cons_succ])
        by_cases hxr : x = r
        · have E1 := Lib.hid (ES.out hxr)
          rw [decide_eq_true hxr]
          clear hxr
          (refine wpAnyH_take (i := 11) (v := ?_) rfl (by kernel_rfl) (by kernel_rfl) (by kernel_rfl) (fun _ _ _ h => h) (Or.inl ⟨by rfl, ?_⟩) hHeld ?_; rotate_left; (· (intro w' hSw; go_simp; try with_reducible rfl)); (try simp only [List.getElem_toArray, List.getElem_cons_zero, List.getElem_cons_succ, Act.put, List.setIfInBounds_toArray, List.set_cons_zero, List.set_cons_succ]))
          refine wpAnyH_done (by kernel_rfl) ?_ _
          have GR := Lib.hid hHeld.2.1
          have KR := Lib.hid hHeld.2.2
          clear hHeld KH KG KB
          go_wp2_with fail
          go_ret
          exact ⟨g, cap, by rw [E1.out, ← HNL.out]; rfl, by rw [E1.out, ← HNL.out]; exact GR.out, KR.out⟩
        · have EI := Lib.hid (EA.out HF.out hxr)
          rw [decide_eq_false hxr]
          clear hxr
          (refine wpAnyH_take (i := 11) (v := ?_) rfl (by kernel_rfl) (by kernel_rfl) (by kernel_rfl) (fun _ _ _ h => h) (Or.inl ⟨by rfl, ?_⟩) hHeld ?_; rotate_left; (· (intro w' hSw; go_simp; try with_reducible rfl)); (try simp only [List.getElem_toArray, List.getElem_cons_zero, List.getElem_cons_succ, Act.put, List.setIfInBounds_toArray, List.set_cons_zero, List.set_cons_succ]))
          refine wpAnyH_done (by kernel_rfl) ?_ _
          replace KH := hHeld.1
          replace KG := Lib.hid hHeld.2.1
          replace KB := Lib.hid hHeld.2.2
          clear hHeld
          go_wp2_with fail
          have DA := KH.drew
          have DG := Lib.hid KG.out.drew
          have DK : Hid (Kept w w2.drew.drew) := Lib.hid (KB.out.drewN 1)
          refine wp_region_held_drew (S := fun w' => Has w' w.heap.size r 24) (by kernel_rfl) DA (fun hHeld => ?_)
          clear KH KG KB
          generalize w2.drew.drew = WD at *
          (refine wpAnyH_take (i := 1) (v := ?_) rfl (by kernel_rfl) (by kernel_rfl) (by kernel_rfl) (fun _ _ _ h => h) (Or.inl ⟨by rfl, ?_⟩) hHeld ?_; rotate_left; (· (intro w' hSw; go_simp; try with_reducible rfl)); (try simp only [List.getElem_toArray, List.getElem_cons_zero, List.getElem_cons_succ, Act.put, List.setIfInBounds_toArray, List.set_cons_zero, List.set_cons_succ])); (refine wpAnyH_take (i := 2) (v := ?_) rfl (by kernel_rfl) (by kernel_rfl) (by kernel_rfl) (fun _ _ _ h => h) (Or.inl ⟨by rfl, ?_⟩) hHeld ?_; rotate_left; (· (intro w' hSw; go_simp; try with_reducible rfl)); (try simp only [List.getElem_toArray, List.getElem_cons_zero, List.getElem_cons_succ, Act.put, List.setIfInBounds_toArray, List.set_cons_zero, List.set_cons_succ])); (refine wpAnyH_take (i := 8) (v := ?_) rfl (by kernel_rfl) (by kernel_rfl) (by kernel_rfl) (fun _ _ _ h => h) (Or.inl ⟨by rfl, ?_⟩) hHeld ?_; rotate_left; (· (intro w' hSw; go_simp; try with_reducible rfl)); (try simp only [List.getElem_toArray, List.getElem_cons_zero, List.getElem_cons_succ, Act.put, List.setIfInBounds_toArray, List.set_cons_zero, List.set_cons_succ])); (refine wpAnyH_take (i := 9) (v := ?_) rfl (by kernel_rfl) (by kernel_rfl) (by kernel_rfl) (fun _ _ _ h => h) (Or.inl ⟨by rfl, ?_⟩) hHeld ?_; rotate_left; (· (intro w' hSw; go_simp; try with_reducible rfl)); (try simp only [List.getElem_toArray, List.getElem_cons_zero, List.getElem_cons_succ, Act.put, List.setIfInBounds_toArray, List.set_cons_zero, List.set_cons_succ]))
          (refine wpAnyH_take (i := 5) (v := _) rfl (by kernel_rfl) (by kernel_rfl) (by kernel_rfl) (fun _ _ _ h => h) (yieldsIf_load_mid (by rfl) 42 _ rfl _ _ rfl (ints r) _ (fun w' hSw => hSw.holds.range) Try.underlying42 rfl (hir)) hHeld ?_; (try simp only [List.getElem_toArray, List.getElem_cons_zero, List.getElem_cons_succ, Act.put, List.setIfInBounds_toArray, List.set_cons_zero, List.set_cons_succ]))
          refine wpAnyH_take (i := 3) (v := .slice (some ⟨g, 0, none⟩) n cap) rfl (by kernel_rfl) (by kernel_rfl) (by kernel_rfl) (fun _ _ _ h => h) (Or.inl ⟨by rfl, ?_⟩) hHeld ?_
          · intro w' hSw
            clear hSw
            go_simp
            try with_reducible rfl
          (try simp only [List.getElem_toArray, List.getElem_cons_zero, List.getElem_cons_succ, Act.put, List.setIfInBounds_toArray, List.set_cons_zero, List.set_cons_succ])
          refine wpAnyH_take (i := 10) (v := .slice (some ad2) (N - n) (cap - n)) rfl (by kernel_rfl) (by kernel_rfl) (by kernel_rfl) (fun _ _ _ h => h) (Or.inl ⟨by rfl, ?_⟩) hHeld ?_
          · intro w' hSw
            clear hSw
            have hAD2 := HAD.out
            go_simp
            try with_reducible rfl
          (try simp only [List.getElem_toArray, List.getElem_cons_zero, List.getElem_cons_succ, Act.put, List.setIfInBounds_toArray, List.set_cons_zero, List.set_cons_succ])
          refine wpAnyH_ready (rs := [0, 6]) (by kernel_rfl) (by simp) ?_
          refine AllReadyH.cons (o := _) rfl (fun K hK => ?_) (AllReadyH.cons (o := _) rfl (fun K hK => ?_) AllReadyH.nil)
          · (simp only [List.getElem_toArray, List.getElem_cons_zero, List.getElem_cons_succ, Region.wanted, if_true])
            go_simp
            have hb0 := DK.out.size
            have hA0 := DA.lt
            have EN := Gr.none WD (w.heap.size + 1) 42 24 (by omega)
            replace DA := DA.alloc (.cells #[] 42)
            replace DG := Lib.hid (DG.out.alloc (.cells #[] 42))
            replace DK := Lib.hid (DK.out.alloc (.cells #[] 42))
            have E := Lib.hid EN
            clear EN
            have he0 : w.heap.size + 1 ≤ WD.heap.size := by omega
            generalize WD.heap.size = e0 at *
            generalize WD.alloc (.cells #[] 42) = WDa at *
            (try simp only [List.getElem_toArray, List.getElem_cons_zero, List.getElem_cons_succ, Act.put, List.setIfInBounds_toArray, List.set_cons_zero, List.set_cons_succ])
            refine hK.out _ _ DA (fun hHeld => ?_)
            clear hK K
            refine wpAnyH_ready (rs := [4, 6]) (by kernel_rfl) (by simp) ?_
            refine AllReadyH.cons (o := _) rfl (fun K hK => ?_) (AllReadyH.cons (o := _) rfl (fun K hK => ?_) AllReadyH.nil)
            · (simp only [List.getElem_toArray, List.getElem_cons_zero, List.getElem_cons_succ, Region.wanted, if_true])
              have hb4 := E.out.own e0 rfl
              have hsz4 := DK.out.size
              refine wp_append_many _ _ 88 rfl (w.heap.size + 1) 42 24 192 Try.underlying88 (by kernel_rfl) (by omega) (by omega) _ 0 [] rfl rfl E.out ⟨g, 0, none⟩ n cap rfl (L.take n) (by rw [List.length_take, ← HNL.out]; omega) (fun l hl => DG.out.lens l (List.mem_of_mem_take hl)) (TP.out _ DG.out) (by omega) (by omega) ?_
              intro v1 u1 F1 hg1 hl1
              have hDA := DA
              replace DA := DA.grownNo hg1 (fun e => by have e := Option.some.inj (show some w.heap.size = some e0 from e); omega)
              replace DG := Lib.hid (DG.out.kept hg1 (fun z hz e => by have hz := Option.some.inj (show some g = some z from hz); have e := Option.some.inj (show some e0 = some z from e); have := HGL.out; omega))
              replace DK : Hid (Kept w u1) := Lib.hid (DK.out.grown hg1 DK.out.size (fun j hj => by have hj := Option.some.inj (show some e0 = some j from hj); omega))
              have F := Lib.hid F1
              clear F1 hl1 hg1 E hDA
              (try simp only [List.getElem_toArray, List.getElem_cons_zero, List.getElem_cons_succ, Act.put, List.setIfInBounds_toArray, List.set_cons_zero, List.set_cons_succ])
              refine hK.out _ _ DA (fun hHeld => ?_)
              clear hK K
              (refine wpAnyH_ready (rs := [6]) (by kernel_rfl) (by simp) ?_; refine AllReadyH.cons (o := _) rfl (fun K hK => ?_) AllReadyH.nil; (simp only [List.getElem_toArray, List.getElem_cons_zero, List.getElem_cons_succ, Region.wanted, if_true]))
              refine wp_slice1 88 42 _ rfl 24 192 Try.underlying88 (by kernel_rfl) (by omega) (by omega) r rfl HRL.out ?_
              have hA6 := DA.lt
              have SBN := Has.box u1 42 HRL.out (by omega)
              have hF6 := fun z hz => (F.out.own z hz).2
              replace DA := DA.alloc (.cells (ints r).toArray 42)
              replace DG := Lib.hid (DG.out.alloc (.cells (ints r).toArray 42))
              replace DK := Lib.hid (DK.out.alloc (.cells (ints r).toArray 42))
              replace F := Lib.hid (F.out.alloc (.cells (ints r).toArray 42))
              have SB := SBN
              clear SBN
              have hs6 : w.heap.size + 1 ≤ u1.heap.size := by omega
              have hsf : Hid (∀ z, v1.ownBlock = some z → z ≠ u1.heap.size) := Lib.hid (fun z hz => by have := hF6 z hz; omega)
              clear hF6
              generalize u1.heap.size = sb at *
              generalize u1.alloc (.cells (ints r).toArray 42) = u1b at *
              (try simp only [List.getElem_toArray, List.getElem_cons_zero, List.getElem_cons_succ, Act.put, List.setIfInBounds_toArray, List.set_cons_zero, List.set_cons_succ])
              refine hK.out _ _ DA (fun hHeld => ?_)
              clear hK K
              (refine wpAnyH_ready (rs := [7]) (by kernel_rfl) (by simp) ?_; refine AllReadyH.cons (o := _) rfl (fun K hK => ?_) AllReadyH.nil; (simp only [List.getElem_toArray, List.getElem_cons_zero, List.getElem_cons_succ, Region.wanted, if_true]))
              have hb7 := fun z hz => (F.out.own z hz).1
              have hsz7 := DK.out.size
              have hA7 := DA.lt
              refine wp_append_many _ _ 88 rfl (w.heap.size + 1) 42 24 192 Try.underlying88 (by kernel_rfl) (by omega) (by omega) _ n ([] ++ L.take n) (by rw [List.nil_append, List.length_take, ← HNL.out]; omega) rfl F.out ⟨sb, 0, none⟩ 1 1 rfl [r] rfl (fun l hl => by rw [List.mem_singleton.1 hl]; exact HRL.out) (by rw [List.flatten_singleton]; exact has_news SB) (by omega) (by omega) ?_
              intro v2 u2 F2 hg2 hl2
              replace DA := DA.grownNo hg2 (fun e => by have := hb7 _ e.symm; omega)
              replace DG := Lib.hid (DG.out.kept hg2 (fun z hz e => by have hz := Option.some.inj (show some g = some z from hz); have := hb7 _ e; have := HGL.out; omega))
              replace DK : Hid (Kept w u2) := Lib.hid (DK.out.grown hg2 DK.out.size (fun j hj => by have := hb7 _ hj; omega))
              replace F := Lib.hid F2
              clear F2 hg2 hl2 SB hsf hb7
              (try simp only [List.getElem_toArray, List.getElem_cons_zero, List.getElem_cons_succ, Act.put, List.setIfInBounds_toArray, List.set_cons_zero, List.set_cons_succ])
              refine hK.out _ _ DA (fun hHeld => ?_)
              clear hK K
              (refine wpAnyH_ready (rs := [11]) (by kernel_rfl) (by simp) ?_; refine AllReadyH.cons (o := _) rfl (fun K hK => ?_) AllReadyH.nil; (simp only [List.getElem_toArray, List.getElem_cons_zero, List.getElem_cons_succ, Region.wanted, if_true]))
              have hb8 := fun z hz => (F.out.own z hz).1
              have hsz8 := DK.out.size
              have hA8 := DA.lt
              refine wp_append_many _ _ 88 rfl (w.heap.size + 1) 42 24 192 Try.underlying88 (by kernel_rfl) (by omega) (by omega) _ (n + 1) ([] ++ L.take n ++ [r]) (by rw [List.nil_append, List.length_append, List.length_take, ← HNL.out]; simp <;> omega) rfl F.out ad2 (N - n) (cap - n) rfl (L.drop n) (by rw [List.length_drop, ← HNL.out]) (fun l hl => DG.out.lens l (List.mem_of_mem_drop hl)) (TD.out _ DG.out) (by omega) (by omega) ?_
              intro v3 u3 F3 hg3 hl3
              replace DA := DA.grownNo hg3 (fun e => by have := hb8 _ e.symm; omega)
              replace DK : Hid (Kept w u3) := Lib.hid (DK.out.grown hg3 DK.out.size (fun j hj => by have := hb8 _ hj; omega))
              replace F := Lib.hid F3
              clear F3 hg3 hl3 hb8
              (try simp only [List.getElem_toArray, List.getElem_cons_zero, List.getElem_cons_succ, Act.put, List.setIfInBounds_toArray, List.set_cons_zero, List.set_cons_succ])
              refine hK.out _ _ DA (fun hHeld => ?_)
              clear hK K
              (refine wpAnyH_take (i := 12) (v := ?_) rfl (by kernel_rfl) (by kernel_rfl) (by kernel_rfl) (fun _ _ _ h => h) (Or.inl ⟨by rfl, ?_⟩) hHeld ?_; rotate_left; (· (intro w' hSw; go_simp; try with_reducible rfl)); (try simp only [List.getElem_toArray, List.getElem_cons_zero, List.getElem_cons_succ, Act.put, List.setIfInBounds_toArray, List.set_cons_zero, List.set_cons_succ]))
              refine wpAnyH_done (by kernel_rfl) ?_ _
              clear hHeld DG DA
              have EE := Lib.hid (show [] ++ L.take n ++ [r] ++ L.drop n = rkIns r L by rw [EI.out]; rfl)
              have FF := Lib.hid (F.out.as EE.out)
              obtain ⟨g', cap', hv3, _, _⟩ := FF.out.form (by rw [EI.out, List.length_append, List.length_append]; simp; omega)
              subst hv3
              clear F EE
              go_wp2_with fail
              go_ret
              exact ⟨g', cap', rfl, FF.out.mono (by omega), DK.out⟩
            · (simp only [List.getElem_toArray, List.getElem_cons_zero, List.getElem_cons_succ, Region.wanted, if_true])
              refine wp_slice1 88 42 _ rfl 24 192 Try.underlying88 (by kernel_rfl) (by omega) (by omega) r rfl HRL.out ?_
              have hA6 := DA.lt
              have SBN := Has.box WDa 42 HRL.out (by omega)
              have hE6 := (E.out.own e0 rfl).2
              replace DA := DA.alloc (.cells (ints r).toArray 42)
              replace DG := Lib.hid (DG.out.alloc (.cells (ints r).toArray 42))
              replace DK := Lib.hid (DK.out.alloc (.cells (ints r).toArray 42))
              replace E := Lib.hid (E.out.alloc (.cells (ints r).toArray 42))
              have SB := SBN
              clear SBN
              have hs6 : w.heap.size + 1 ≤ WDa.heap.size := by omega
              have hsb : WDa.heap.size ≠ e0 := by omega
              have hs7 : WDa.heap.size < (WDa.alloc (.cells (ints r).toArray 42)).heap.size := by rw [size1]; omega
              generalize WDa.heap.size = sb at *
              generalize WDa.alloc (.cells (ints r).toArray 42) = WDab at *
              (try simp only [List.getElem_toArray, List.getElem_cons_zero, List.getElem_cons_succ, Act.put, List.setIfInBounds_toArray, List.set_cons_zero, List.set_cons_succ])
              refine hK.out _ _ DA (fun hHeld => ?_)
              clear hK K
              (refine wpAnyH_ready (rs := [4]) (by kernel_rfl) (by simp) ?_; refine AllReadyH.cons (o := _) rfl (fun K hK => ?_) AllReadyH.nil; (simp only [List.getElem_toArray, List.getElem_cons_zero, List.getElem_cons_succ, Region.wanted, if_true]))
              have hb4 := E.out.own e0 rfl
              have hsz4 := DK.out.size
              have SBL := Lib.hid SB.lt
              refine wp_append_many _ _ 88 rfl (w.heap.size + 1) 42 24 192 Try.underlying88 (by kernel_rfl) (by omega) (by omega) _ 0 [] rfl rfl E.out ⟨g, 0, none⟩ n cap rfl (L.take n) (by rw [List.length_take, ← HNL.out]; omega) (fun l hl => DG.out.lens l (List.mem_of_mem_take hl)) (TP.out _ DG.out) (by omega) (by omega) ?_
              intro v1 u1 F1 hg1 hl1
              have hDA := DA
              replace DA := DA.grownNo hg1 (fun e => by have e := Option.some.inj (show some w.heap.size = some e0 from e); omega)
              replace DG := Lib.hid (DG.out.kept hg1 (fun z hz e => by have hz := Option.some.inj (show some g = some z from hz); have e := Option.some.inj (show some e0 = some z from e); have := HGL.out; omega))
              replace DK : Hid (Kept w u1) := Lib.hid (DK.out.grown hg1 DK.out.size (fun j hj => by have hj := Option.some.inj (show some e0 = some j from hj); omega))
              have F := Lib.hid F1
              replace SB := SB.grownNo hg1 (fun e => by have e := Option.some.inj (show some sb = some e0 from e); omega)
              have hsf : Hid (∀ z, v1.ownBlock = some z → z ≠ sb) := Lib.hid (fun z hz => by rcases hl1 with h | h; (· rw [h] at hz; have hz := Option.some.inj (show some e0 = some z from hz); omega); (· rw [h] at hz; have hz := Option.some.inj hz; have := SBL.out; omega))
              clear F1 hl1 hg1 E hDA
              (try simp only [List.getElem_toArray, List.getElem_cons_zero, List.getElem_cons_succ, Act.put, List.setIfInBounds_toArray, List.set_cons_zero, List.set_cons_succ])
              refine hK.out _ _ DA (fun hHeld => ?_)
              clear hK K
              (refine wpAnyH_ready (rs := [7]) (by kernel_rfl) (by simp) ?_; refine AllReadyH.cons (o := _) rfl (fun K hK => ?_) AllReadyH.nil; (simp only [List.getElem_toArray, List.getElem_cons_zero, List.getElem_cons_succ, Region.wanted, if_true]))
              have hb7 := fun z hz => (F.out.own z hz).1
              have hsz7 := DK.out.size
              have hA7 := DA.lt
              refine wp_append_many _ _ 88 rfl (w.heap.size + 1) 42 24 192 Try.underlying88 (by kernel_rfl) (by omega) (by omega) _ n ([] ++ L.take n) (by rw [List.nil_append, List.length_take, ← HNL.out]; omega) rfl F.out ⟨sb, 0, none⟩ 1 1 rfl [r] rfl (fun l hl => by rw [List.mem_singleton.1 hl]; exact HRL.out) (by rw [List.flatten_singleton]; exact has_news SB) (by omega) (by omega) ?_
              intro v2 u2 F2 hg2 hl2
              replace DA := DA.grownNo hg2 (fun e => by have := hb7 _ e.symm; omega)
              replace DG := Lib.hid (DG.out.kept hg2 (fun z hz e => by have hz := Option.some.inj (show some g = some z from hz); have := hb7 _ e; have := HGL.out; omega))
              replace DK : Hid (Kept w u2) := Lib.hid (DK.out.grown hg2 DK.out.size (fun j hj => by have := hb7 _ hj; omega))
              replace F := Lib.hid F2
              clear F2 hg2 hl2 SB hsf hb7
              (try simp only [List.getElem_toArray, List.getElem_cons_zero, List.getElem_cons_succ, Act.put, List.setIfInBounds_toArray, List.set_cons_zero, List.set_cons_succ])
              refine hK.out _ _ DA (fun hHeld => ?_)
              clear hK K
              (refine wpAnyH_ready (rs := [11]) (by kernel_rfl) (by simp) ?_; refine AllReadyH.cons (o := _) rfl (fun K hK => ?_) AllReadyH.nil; (simp only [List.getElem_toArray, List.getElem_cons_zero, List.getElem_cons_succ, Region.wanted, if_true]))
              have hb8 := fun z hz => (F.out.own z hz).1
              have hsz8 := DK.out.size
              have hA8 := DA.lt
              refine wp_append_many _ _ 88 rfl (w.heap.size + 1) 42 24 192 Try.underlying88 (by kernel_rfl) (by omega) (by omega) _ (n + 1) ([] ++ L.take n ++ [r]) (by rw [List.nil_append, List.length_append, List.length_take, ← HNL.out]; simp <;> omega) rfl F.out ad2 (N - n) (cap - n) rfl (L.drop n) (by rw [List.length_drop, ← HNL.out]) (fun l hl => DG.out.lens l (List.mem_of_mem_drop hl)) (TD.out _ DG.out) (by omega) (by omega) ?_
              intro v3 u3 F3 hg3 hl3
              replace DA := DA.grownNo hg3 (fun e => by have := hb8 _ e.symm; omega)
              replace DK : Hid (Kept w u3) := Lib.hid (DK.out.grown hg3 DK.out.size (fun j hj => by have := hb8 _ hj; omega))
              replace F := Lib.hid F3
              clear F3 hg3 hl3 hb8
              (try simp only [List.getElem_toArray, List.getElem_cons_zero, List.getElem_cons_succ, Act.put, List.setIfInBounds_toArray, List.set_cons_zero, List.set_cons_succ])
              refine hK.out _ _ DA (fun hHeld => ?_)
              clear hK K
              (refine wpAnyH_take (i := 12) (v := ?_) rfl (by kernel_rfl) (by kernel_rfl) (by kernel_rfl) (fun _ _ _ h => h) (Or.inl ⟨by rfl, ?_⟩) hHeld ?_; rotate_left; (· (intro w' hSw; go_simp; try with_reducible rfl)); (try simp only [List.getElem_toArray, List.getElem_cons_zero, List.getElem_cons_succ, Act.put, List.setIfInBounds_toArray, List.set_cons_zero, List.set_cons_succ]))
              refine wpAnyH_done (by kernel_rfl) ?_ _
              clear hHeld DG DA
              have EE := Lib.hid (show [] ++ L.take n ++ [r] ++ L.drop n = rkIns r L by rw [EI.out]; rfl)
              have FF := Lib.hid (F.out.as EE.out)
              obtain ⟨g', cap', hv3, _, _⟩ := FF.out.form (by rw [EI.out, List.length_append, List.length_append]; simp; omega)
              subst hv3
              clear F EE
              go_wp2_with fail
              go_ret
              exact ⟨g', cap', rfl, FF.out.mono (by omega), DK.out⟩
          · (simp only [List.getElem_toArray, List.getElem_cons_zero, List.getElem_cons_succ, Region.wanted, if_true])
            refine wp_slice1 88 42 _ rfl 24 192 Try.underlying88 (by kernel_rfl) (by omega) (by omega) r rfl HRL.out ?_
            have hA6 := DA.lt
            have SBN := Has.box WD 42 HRL.out (by omega)
            replace DA := DA.alloc (.cells (ints r).toArray 42)
            replace DG := Lib.hid (DG.out.alloc (.cells (ints r).toArray 42))
            replace DK := Lib.hid (DK.out.alloc (.cells (ints r).toArray 42))
            have SB := SBN
            clear SBN
            have hs6 : w.heap.size + 1 ≤ WD.heap.size := by omega
            have hs7 : WD.heap.size < (WD.alloc (.cells (ints r).toArray 42)).heap.size := by rw [size1]; omega
            generalize WD.heap.size = sb at *
            generalize WD.alloc (.cells (ints r).toArray 42) = WDb at *
            (try simp only [List.getElem_toArray, List.getElem_cons_zero, List.getElem_cons_succ, Act.put, List.setIfInBounds_toArray, List.set_cons_zero, List.set_cons_succ])
            refine hK.out _ _ DA (fun hHeld => ?_)
            clear hK K
            (refine wpAnyH_ready (rs := [0]) (by kernel_rfl) (by simp) ?_; refine AllReadyH.cons (o := _) rfl (fun K hK => ?_) AllReadyH.nil; (simp only [List.getElem_toArray, List.getElem_cons_zero, List.getElem_cons_succ, Region.wanted, if_true]))
            go_simp
            have hb0 := DK.out.size
            have hA0 := DA.lt
            have EN := Gr.none WDb (w.heap.size + 1) 42 24 (by omega)
            replace DA := DA.alloc (.cells #[] 42)
            replace DG := Lib.hid (DG.out.alloc (.cells #[] 42))
            replace DK := Lib.hid (DK.out.alloc (.cells #[] 42))
            replace SB := SB.alloc (.cells #[] 42)
            have E := Lib.hid EN
            clear EN
            have he0 : w.heap.size + 1 ≤ WDb.heap.size := by omega
            have hsb : sb ≠ WDb.heap.size := by omega
            generalize WDb.heap.size = e0 at *
            generalize WDb.alloc (.cells #[] 42) = WDba at *
            (try simp only [List.getElem_toArray, List.getElem_cons_zero, List.getElem_cons_succ, Act.put, List.setIfInBounds_toArray, List.set_cons_zero, List.set_cons_succ])
            refine hK.out _ _ DA (fun hHeld => ?_)
            clear hK K
            (refine wpAnyH_ready (rs := [4]) (by kernel_rfl) (by simp) ?_; refine AllReadyH.cons (o := _) rfl (fun K hK => ?_) AllReadyH.nil; (simp only [List.getElem_toArray, List.getElem_cons_zero, List.getElem_cons_succ, Region.wanted, if_true]))
            have hb4 := E.out.own e0 rfl
            have hsz4 := DK.out.size
            have SBL := Lib.hid SB.lt
            refine wp_append_many _ _ 88 rfl (w.heap.size + 1) 42 24 192 Try.underlying88 (by kernel_rfl) (by omega) (by omega) _ 0 [] rfl rfl E.out ⟨g, 0, none⟩ n cap rfl (L.take n) (by rw [List.length_take, ← HNL.out]; omega) (fun l hl => DG.out.lens l (List.mem_of_mem_take hl)) (TP.out _ DG.out) (by omega) (by omega) ?_
            intro v1 u1 F1 hg1 hl1
            have hDA := DA
            replace DA := DA.grownNo hg1 (fun e => by have e := Option.some.inj (show some w.heap.size = some e0 from e); omega)
            replace DG := Lib.hid (DG.out.kept hg1 (fun z hz e => by have hz := Option.some.inj (show some g = some z from hz); have e := Option.some.inj (show some e0 = some z from e); have := HGL.out; omega))
            replace DK : Hid (Kept w u1) := Lib.hid (DK.out.grown hg1 DK.out.size (fun j hj => by have hj := Option.some.inj (show some e0 = some j from hj); omega))
            have F := Lib.hid F1
            replace SB := SB.grownNo hg1 (fun e => by have e := Option.some.inj (show some sb = some e0 from e); omega)
            have hsf : Hid (∀ z, v1.ownBlock = some z → z ≠ sb) := Lib.hid (fun z hz => by rcases hl1 with h | h; (· rw [h] at hz; have hz := Option.some.inj (show some e0 = some z from hz); omega); (· rw [h] at hz; have hz := Option.some.inj hz; have := SBL.out; omega))
            clear F1 hl1 hg1 E hDA
            (try simp only [List.getElem_toArray, List.getElem_cons_zero, List.getElem_cons_succ, Act.put, List.setIfInBounds_toArray, List.set_cons_zero, List.set_cons_succ])
            refine hK.out _ _ DA (fun hHeld => ?_)
            clear hK K
            (refine wpAnyH_ready (rs := [7]) (by kernel_rfl) (by simp) ?_; refine AllReadyH.cons (o := _) rfl (fun K hK => ?_) AllReadyH.nil; (simp only [List.getElem_toArray, List.getElem_cons_zero, List.getElem_cons_succ, Region.wanted, if_true]))
            have hb7 := fun z hz => (F.out.own z hz).1
            have hsz7 := DK.out.size
            have hA7 := DA.lt
            refine wp_append_many _ _ 88 rfl (w.heap.size + 1) 42 24 192 Try.underlying88 (by kernel_rfl) (by omega) (by omega) _ n ([] ++ L.take n) (by rw [List.nil_append, List.length_take, ← HNL.out]; omega) rfl F.out ⟨sb, 0, none⟩ 1 1 rfl [r] rfl (fun l hl => by rw [List.mem_singleton.1 hl]; exact HRL.out) (by rw [List.flatten_singleton]; exact has_news SB) (by omega) (by omega) ?_
            intro v2 u2 F2 hg2 hl2
            replace DA := DA.grownNo hg2 (fun e => by have := hb7 _ e.symm; omega)
            replace DG := Lib.hid (DG.out.kept hg2 (fun z hz e => by have hz := Option.some.inj (show some g = some z from hz); have := hb7 _ e; have := HGL.out; omega))
            replace DK : Hid (Kept w u2) := Lib.hid (DK.out.grown hg2 DK.out.size (fun j hj => by have := hb7 _ hj; omega))
            replace F := Lib.hid F2
            clear F2 hg2 hl2 SB hsf hb7
            (try simp only [List.getElem_toArray, List.getElem_cons_zero, List.getElem_cons_succ, Act.put, List.setIfInBounds_toArray, List.set_cons_zero, List.set_cons_succ])
            refine hK.out _ _ DA (fun hHeld => ?_)
            clear hK K
            (refine wpAnyH_ready (rs := [11]) (by kernel_rfl) (by simp) ?_; refine AllReadyH.cons (o := _) rfl (fun K hK => ?_) AllReadyH.nil; (simp only [List.getElem_toArray, List.getElem_cons_zero, List.getElem_cons_succ, Region.wanted, if_true]))
            have hb8 := fun z hz => (F.out.own z hz).1
            have hsz8 := DK.out.size
            have hA8 := DA.lt
            refine wp_append_many _ _ 88 rfl (w.heap.size + 1) 42 24 192 Try.underlying88 (by kernel_rfl) (by omega) (by omega) _ (n + 1) ([] ++ L.take n ++ [r]) (by rw [List.nil_append, List.length_append, List.length_take, ← HNL.out]; simp <;> omega) rfl F.out ad2 (N - n) (cap - n) rfl (L.drop n) (by rw [List.length_drop, ← HNL.out]) (fun l hl => DG.out.lens l (List.mem_of_mem_drop hl)) (TD.out _ DG.out) (by omega) (by omega) ?_
            intro v3 u3 F3 hg3 hl3
            replace DA := DA.grownNo hg3 (fun e => by have := hb8 _ e.symm; omega)
            replace DK : Hid (Kept w u3) := Lib.hid (DK.out.grown hg3 DK.out.size (fun j hj => by have := hb8 _ hj; omega))
            replace F := Lib.hid F3
            clear F3 hg3 hl3 hb8
            (try simp only [List.getElem_toArray, List.getElem_cons_zero, List.getElem_cons_succ, Act.put, List.setIfInBounds_toArray, List.set_cons_zero, List.set_cons_succ])
            refine hK.out _ _ DA (fun hHeld => ?_)
            clear hK K
            (refine wpAnyH_take (i := 12) (v := ?_) rfl (by kernel_rfl) (by kernel_rfl) (by kernel_rfl) (fun _ _ _ h => h) (Or.inl ⟨by rfl, ?_⟩) hHeld ?_; rotate_left; (· (intro w' hSw; go_simp; try with_reducible rfl)); (try simp only [List.getElem_toArray, List.getElem_cons_zero, List.getElem_cons_succ, Act.put, List.setIfInBounds_toArray, List.set_cons_zero, List.set_cons_succ]))
            refine wpAnyH_done (by kernel_rfl) ?_ _
            clear hHeld DG DA
            have EE := Lib.hid (show [] ++ L.take n ++ [r] ++ L.drop n = rkIns r L by rw [EI.out]; rfl)
            have FF := Lib.hid (F.out.as EE.out)
            obtain ⟨g', cap', hv3, _, _⟩ := FF.out.form (by rw [EI.out, List.length_append, List.length_append]; simp; omega)
            subst hv3
            clear F EE
            go_wp2_with fail
            go_ret
            exact ⟨g', cap', rfl, FF.out.mono (by omega), DK.out⟩
    · obtain rfl : n = N := by omega
      have EI := Lib.hid (rkIns_at (r := r) (n := n) (by rw [← HNL.out]; omega) KV.out (fun h => by rw [← HNL.out] at h; omega))
      have nN : n ≤ n := hn
      have hnc : n ≤ cap := by omega
      have TP := Lib.hid (fun (w' : World) (h : Gr w' b 42 24 (.slice (some ⟨g, 0, none⟩) n cap) L) => (show ∀ j u, (ints (L.take n).flatten)[j]? = some u → w'.cell? ((⟨g, 0, none⟩ : Addr).add j) = some u from by
        have := h.part HNL.out 0 (L.take n) (fun k hk => by
          have hkn : k < n := by rw [List.length_take] at hk; omega
          refine ⟨by omega, ?_⟩
          rw [List.getD_eq_getElem?_getD, List.getD_eq_getElem?_getD, List.getElem?_take, if_pos hkn, Nat.zero_add]) (fun l hl => h.lens l (List.mem_of_mem_take hl))
        rwa [Nat.zero_mul] at this))
      have TD0 := fun (w' : World) (h : Gr w' b 42 24 (.slice (some ⟨g, 0, none⟩) n cap) L) => h.part HNL.out n (L.drop n) (fun k hk => by
        rw [List.length_drop, ← HNL.out] at hk
        refine ⟨by omega, ?_⟩
        rw [List.getD_eq_getElem?_getD, List.getD_eq_getElem?_getD, List.getElem?_drop]) (fun l hl => h.lens l (List.mem_of_mem_drop hl))
      obtain ⟨ad2, hAD, hTD⟩ : ∃ ad2 : Addr, (if cap = n then some (⟨g, 0, none⟩ : Addr) else some ⟨g, n * 24, none⟩) = some ad2 ∧ ∀ w' : World, Gr w' b 42 24 (.slice (some ⟨g, 0, none⟩) n cap) L → ∀ j u, (ints (L.drop n).flatten)[j]? = some u → w'.cell? (ad2.add j) = some u := by
        by_cases hcn : cap = n
        · refine ⟨⟨g, 0, none⟩, by rw [if_pos hcn], fun w' h j u hu => ?_⟩
          rw [List.drop_of_length_le (by rw [← HNL.out]; omega)] at hu
          simp [ints] at hu
        · exact ⟨⟨g, n * 24, none⟩, by rw [if_neg hcn], TD0⟩
      have HAD := Lib.hid hAD
      have TD := Lib.hid hTD
      clear TD0 hAD hTD
      go_wp2_with fail
      refine wp_region_held_drew (S := fun w' => Has w' w.heap.size r 24 ∧ Gr w' b 42 24 (.slice (some ⟨g, 0, none⟩) n cap) L ∧ Kept w w') (by kernel_rfl) ⟨KH.drew, KG.out.drew, KB.out.drewN 1⟩ (fun hHeld => ?_)
      (refine wpAnyH_take (i := 0) (v := ?_) rfl (by kernel_rfl) (by kernel_rfl) (by kernel_rfl) (fun _ _ _ h => h) (Or.inl ⟨by rfl, ?_⟩) hHeld ?_; rotate_left; (· (intro w' hSw; go_simp; try with_reducible rfl)); (try simp only [List.getElem_toArray, List.getElem_cons_zero, List.getElem_cons_succ, Act.put, List.setIfInBounds_toArray, List.set_cons_zero, List.set_cons_succ])); (refine wpAnyH_take (i := 1) (v := ?_) rfl (by kernel_rfl) (by kernel_rfl) (by kernel_rfl) (fun _ _ _ h => h) (Or.inl ⟨by rfl, ?_⟩) hHeld ?_; rotate_left; (· (intro w' hSw; go_simp; try with_reducible rfl)); (try simp only [List.getElem_toArray, List.getElem_cons_zero, List.getElem_cons_succ, Act.put, List.setIfInBounds_toArray, List.set_cons_zero, List.set_cons_succ]))
      (refine wpAnyH_ready (rs := [2]) (by kernel_rfl) (by simp) ?_; refine AllReadyH.cons (o := _) rfl (fun K hK => ?_) AllReadyH.nil; (simp only [List.getElem_toArray, List.getElem_cons_zero, List.getElem_cons_succ, Region.wanted, if_true]))
      go_simp
      (try simp only [List.getElem_toArray, List.getElem_cons_zero, List.getElem_cons_succ, Act.put, List.setIfInBounds_toArray, List.set_cons_zero, List.set_cons_succ])
      refine hK.out _ _ hHeld (fun hHeld => ?_)
      clear hK K
      (refine wpAnyH_take (i := 3) (v := ?_) rfl (by kernel_rfl) (by kernel_rfl) (by kernel_rfl) (fun _ _ _ h => h) (Or.inl ⟨by rfl, ?_⟩) hHeld ?_; rotate_left; (· (intro w' hSw; go_simp; try with_reducible rfl)); (try simp only [List.getElem_toArray, List.getElem_cons_zero, List.getElem_cons_succ, Act.put, List.setIfInBounds_toArray, List.set_cons_zero, List.set_cons_succ])); (refine wpAnyH_take (i := 4) (v := ?_) rfl (by kernel_rfl) (by kernel_rfl) (by kernel_rfl) (fun _ _ _ h => h) (Or.inl ⟨by rfl, ?_⟩) hHeld ?_; rotate_left; (· (intro w' hSw; go_simp; try with_reducible rfl)); (try simp only [List.getElem_toArray, List.getElem_cons_zero, List.getElem_cons_succ, Act.put, List.setIfInBounds_toArray, List.set_cons_zero, List.set_cons_succ]))
      (refine wpAnyH_take (i := 5) (v := undef) rfl (by kernel_rfl) (by kernel_rfl) (by kernel_rfl) (fun _ _ _ h => h) (Or.inr ⟨by rfl, rfl⟩) hHeld ?_; (try simp only [List.getElem_toArray, List.getElem_cons_zero, List.getElem_cons_succ, Act.put, List.setIfInBounds_toArray, List.set_cons_zero, List.set_cons_succ])); (refine wpAnyH_take (i := 6) (v := undef) rfl (by kernel_rfl) (by kernel_rfl) (by kernel_rfl) (fun _ _ _ h => h) (Or.inr ⟨by rfl, rfl⟩) hHeld ?_; (try simp only [List.getElem_toArray, List.getElem_cons_zero, List.getElem_cons_succ, Act.put, List.setIfInBounds_toArray, List.set_cons_zero, List.set_cons_succ])); (refine wpAnyH_take (i := 7) (v := undef) rfl (by kernel_rfl) (by kernel_rfl) (by kernel_rfl) (fun _ _ _ h => h) (Or.inr ⟨by rfl, rfl⟩) hHeld ?_; (try simp only [List.getElem_toArray, List.getElem_cons_zero, List.getElem_cons_succ, Act.put, List.setIfInBounds_toArray, List.set_cons_zero, List.set_cons_succ])); (refine wpAnyH_take (i := 8) (v := undef) rfl (by kernel_rfl) (by kernel_rfl) (by kernel_rfl) (fun _ _ _ h => h) (Or.inr ⟨by rfl, rfl⟩) hHeld ?_; (try simp only [List.getElem_toArray, List.getElem_cons_zero, List.getElem_cons_succ, Act.put, List.setIfInBounds_toArray, List.set_cons_zero, List.set_cons_succ])); (refine wpAnyH_take (i := 9) (v := undef) rfl (by kernel_rfl) (by kernel_rfl) (by kernel_rfl) (fun _ _ _ h => h) (Or.inr ⟨by rfl, rfl⟩) hHeld ?_; (try simp only [List.getElem_toArray, List.getElem_cons_zero, List.getElem_cons_succ, Act.put, List.setIfInBounds_toArray, List.set_cons_zero, List.set_cons_succ])); (refine wpAnyH_take (i := 10) (v := undef) rfl (by kernel_rfl) (by kernel_rfl) (by kernel_rfl) (fun _ _ _ h => h) (Or.inr ⟨by rfl, rfl⟩) hHeld ?_; (try simp only [List.getElem_toArray, List.getElem_cons_zero, List.getElem_cons_succ, Act.put, List.setIfInBounds_toArray, List.set_cons_zero, List.set_cons_succ]))
      (refine wpAnyH_take (i := 11) (v := ?_) rfl (by kernel_rfl) (by kernel_rfl) (by kernel_rfl) (fun _ _ _ h => h) (Or.inl ⟨by rfl, ?_⟩) hHeld ?_; rotate_left; (· (intro w' hSw; go_simp; try with_reducible rfl)); (try simp only [List.getElem_toArray, List.getElem_cons_zero, List.getElem_cons_succ, Act.put, List.setIfInBounds_toArray, List.set_cons_zero, List.set_cons_succ]))
      refine wpAnyH_done (by kernel_rfl) ?_ _
      replace KH := hHeld.1
      replace KG := Lib.hid hHeld.2.1
      replace KB := Lib.hid hHeld.2.2
      clear hHeld
      go_wp2_with fail
      refine wp_region_held_drew (S := fun w' => Has w' w.heap.size r 24 ∧ Gr w' b 42 24 (.slice (some ⟨g, 0, none⟩) n cap) L ∧ Kept w w') (by kernel_rfl) ⟨KH.drew, KG.out.drew, KB.out.drewN 1⟩ (fun hHeld => ?_)
      (refine wpAnyH_take (i := 0) (v := ?_) rfl (by kernel_rfl) (by kernel_rfl) (by kernel_rfl) (fun _ _ _ h => h) (Or.inl ⟨by rfl, ?_⟩) hHeld ?_; rotate_left; (· (intro w' hSw; go_simp; try with_reducible rfl)); (try simp only [List.getElem_toArray, List.getElem_cons_zero, List.getElem_cons_succ, Act.put, List.setIfInBounds_toArray, List.set_cons_zero, List.set_cons_succ])); (refine wpAnyH_take (i := 1) (v := ?_) rfl (by kernel_rfl) (by kernel_rfl) (by kernel_rfl) (fun _ _ _ h => h) (Or.inl ⟨by rfl, ?_⟩) hHeld ?_; rotate_left; (· (intro w' hSw; go_simp; try with_reducible rfl)); (try simp only [List.getElem_toArray, List.getElem_cons_zero, List.getElem_cons_succ, Act.put, List.setIfInBounds_toArray, List.set_cons_zero, List.set_cons_succ]))
      (refine wpAnyH_ready (rs := [2]) (by kernel_rfl) (by simp) ?_; refine AllReadyH.cons (o := _) rfl (fun K hK => ?_) AllReadyH.nil; (simp only [List.getElem_toArray, List.getElem_cons_zero, List.getElem_cons_succ, Region.wanted, if_true]))
      go_simp
      (try simp only [List.getElem_toArray, List.getElem_cons_zero, List.getElem_cons_succ, Act.put, List.setIfInBounds_toArray, List.set_cons_zero, List.set_cons_succ])
      refine hK.out _ _ hHeld (fun hHeld => ?_)
      clear hK K
      (refine wpAnyH_take (i := 3) (v := ?_) rfl (by kernel_rfl) (by kernel_rfl) (by kernel_rfl) (fun _ _ _ h => h) (Or.inl ⟨by rfl, ?_⟩) hHeld ?_; rotate_left; (· (intro w' hSw; go_simp; try with_reducible rfl)); (try simp only [List.getElem_toArray, List.getElem_cons_zero, List.getElem_cons_succ, Act.put, List.setIfInBounds_toArray, List.set_cons_zero, List.set_cons_succ])); (refine wpAnyH_take (i := 4) (v := ?_) rfl (by kernel_rfl) (by kernel_rfl) (by kernel_rfl) (fun _ _ _ h => h) (Or.inl ⟨by rfl, ?_⟩) hHeld ?_; rotate_left; (· (intro w' hSw; go_simp; try with_reducible rfl)); (try simp only [List.getElem_toArray, List.getElem_cons_zero, List.getElem_cons_succ, Act.put, List.setIfInBounds_toArray, List.set_cons_zero, List.set_cons_succ]))
      (refine wpAnyH_take (i := 5) (v := undef) rfl (by kernel_rfl) (by kernel_rfl) (by kernel_rfl) (fun _ _ _ h => h) (Or.inr ⟨by rfl, rfl⟩) hHeld ?_; (try simp only [List.getElem_toArray, List.getElem_cons_zero, List.getElem_cons_succ, Act.put, List.setIfInBounds_toArray, List.set_cons_zero, List.set_cons_succ])); (refine wpAnyH_take (i := 6) (v := undef) rfl (by kernel_rfl) (by kernel_rfl) (by kernel_rfl) (fun _ _ _ h => h) (Or.inr ⟨by rfl, rfl⟩) hHeld ?_; (try simp only [List.getElem_toArray, List.getElem_cons_zero, List.getElem_cons_succ, Act.put, List.setIfInBounds_toArray, List.set_cons_zero, List.set_cons_succ])); (refine wpAnyH_take (i := 7) (v := undef) rfl (by kernel_rfl) (by kernel_rfl) (by kernel_rfl) (fun _ _ _ h => h) (Or.inr ⟨by rfl, rfl⟩) hHeld ?_; (try simp only [List.getElem_toArray, List.getElem_cons_zero, List.getElem_cons_succ, Act.put, List.setIfInBounds_toArray, List.set_cons_zero, List.set_cons_succ])); (refine wpAnyH_take (i := 8) (v := undef) rfl (by kernel_rfl) (by kernel_rfl) (by kernel_rfl) (fun _ _ _ h => h) (Or.inr ⟨by rfl, rfl⟩) hHeld ?_; (try simp only [List.getElem_toArray, List.getElem_cons_zero, List.getElem_cons_succ, Act.put, List.setIfInBounds_toArray, List.set_cons_zero, List.set_cons_succ])); (refine wpAnyH_take (i := 9) (v := undef) rfl (by kernel_rfl) (by kernel_rfl) (by kernel_rfl) (fun _ _ _ h => h) (Or.inr ⟨by rfl, rfl⟩) hHeld ?_; (try simp only [List.getElem_toArray, List.getElem_cons_zero, List.getElem_cons_succ, Act.put, List.setIfInBounds_toArray, List.set_cons_zero, List.set_cons_succ])); (refine wpAnyH_take (i := 10) (v := undef) rfl (by kernel_rfl) (by kernel_rfl) (by kernel_rfl) (fun _ _ _ h => h) (Or.inr ⟨by rfl, rfl⟩) hHeld ?_; (try simp only [List.getElem_toArray, List.getElem_cons_zero, List.getElem_cons_succ, Act.put, List.setIfInBounds_toArray, List.set_cons_zero, List.set_cons_succ]))
      (refine wpAnyH_take (i := 11) (v := ?_) rfl (by kernel_rfl) (by kernel_rfl) (by kernel_rfl) (fun _ _ _ h => h) (Or.inl ⟨by rfl, ?_⟩) hHeld ?_; rotate_left; (· (intro w' hSw; go_simp; try with_reducible rfl)); (try simp only [List.getElem_toArray, List.getElem_cons_zero, List.getElem_cons_succ, Act.put, List.setIfInBounds_toArray, List.set_cons_zero, List.set_cons_succ]))
      refine wpAnyH_done (by kernel_rfl) ?_ _
      replace KH := hHeld.1
      replace KG := Lib.hid hHeld.2.1
      replace KB := Lib.hid hHeld.2.2
      clear hHeld
      go_wp2_with fail
      have DA := KH.drew
      have DG := Lib.hid KG.out.drew
      have DK : Hid (Kept w wr.drew.drew.drew) := Lib.hid (KB.out.drewN 1)
      refine wp_region_held_drew (S := fun w' => Has w' w.heap.size r 24) (by kernel_rfl) DA (fun hHeld => ?_)
      clear KH KG KB
      generalize wr.drew.drew.drew = WD at *
      (refine wpAnyH_take (i := 1) (v := ?_) rfl (by kernel_rfl) (by kernel_rfl) (by kernel_rfl) (fun _ _ _ h => h) (Or.inl ⟨by rfl, ?_⟩) hHeld ?_; rotate_left; (· (intro w' hSw; go_simp; try with_reducible rfl)); (try simp only [List.getElem_toArray, List.getElem_cons_zero, List.getElem_cons_succ, Act.put, List.setIfInBounds_toArray, List.set_cons_zero, List.set_cons_succ])); (refine wpAnyH_take (i := 2) (v := ?_) rfl (by kernel_rfl) (by kernel_rfl) (by kernel_rfl) (fun _ _ _ h => h) (Or.inl ⟨by rfl, ?_⟩) hHeld ?_; rotate_left; (· (intro w' hSw; go_simp; try with_reducible rfl)); (try simp only [List.getElem_toArray, List.getElem_cons_zero, List.getElem_cons_succ, Act.put, List.setIfInBounds_toArray, List.set_cons_zero, List.set_cons_succ])); (refine wpAnyH_take (i := 8) (v := ?_) rfl (by kernel_rfl) (by kernel_rfl) (by kernel_rfl) (fun _ _ _ h => h) (Or.inl ⟨by rfl, ?_⟩) hHeld ?_; rotate_left; (· (intro w' hSw; go_simp; try with_reducible rfl)); (try simp only [List.getElem_toArray, List.getElem_cons_zero, List.getElem_cons_succ, Act.put, List.setIfInBounds_toArray, List.set_cons_zero, List.set_cons_succ])); (refine wpAnyH_take (i := 9) (v := ?_) rfl (by kernel_rfl) (by kernel_rfl) (by kernel_rfl) (fun _ _ _ h => h) (Or.inl ⟨by rfl, ?_⟩) hHeld ?_; rotate_left; (· (intro w' hSw; go_simp; try with_reducible rfl)); (try simp only [List.getElem_toArray, List.getElem_cons_zero, List.getElem_cons_succ, Act.put, List.setIfInBounds_toArray, List.set_cons_zero, List.set_cons_succ]))
      (refine wpAnyH_take (i := 5) (v := _) rfl (by kernel_rfl) (by kernel_rfl) (by kernel_rfl) (fun _ _ _ h => h) (yieldsIf_load_mid (by rfl) 42 _ rfl _ _ rfl (ints r) _ (fun w' hSw => hSw.holds.range) Try.underlying42 rfl (hir)) hHeld ?_; (try simp only [List.getElem_toArray, List.getElem_cons_zero, List.getElem_cons_succ, Act.put, List.setIfInBounds_toArray, List.set_cons_zero, List.set_cons_succ]))
      refine wpAnyH_take (i := 3) (v := .slice (some ⟨g, 0, none⟩) n cap) rfl (by kernel_rfl) (by kernel_rfl) (by kernel_rfl) (fun _ _ _ h => h) (Or.inl ⟨by rfl, ?_⟩) hHeld ?_
      · intro w' hSw
        clear hSw
        go_simp
        try with_reducible rfl
      (try simp only [List.getElem_toArray, List.getElem_cons_zero, List.getElem_cons_succ, Act.put, List.setIfInBounds_toArray, List.set_cons_zero, List.set_cons_succ])
      refine wpAnyH_take (i := 10) (v := .slice (some ad2) 0 (cap - n)) rfl (by kernel_rfl) (by kernel_rfl) (by kernel_rfl) (fun _ _ _ h => h) (Or.inl ⟨by rfl, ?_⟩) hHeld ?_
      · intro w' hSw
        clear hSw
        have hAD2 := HAD.out
        go_simp
        try with_reducible rfl
      (try simp only [List.getElem_toArray, List.getElem_cons_zero, List.getElem_cons_succ, Act.put, List.setIfInBounds_toArray, List.set_cons_zero, List.set_cons_succ])
      refine wpAnyH_ready (rs := [0, 6]) (by kernel_rfl) (by simp) ?_
      refine AllReadyH.cons (o := _) rfl (fun K hK => ?_) (AllReadyH.cons (o := _) rfl (fun K hK => ?_) AllReadyH.nil)
      · (simp only [List.getElem_toArray, List.getElem_cons_zero, List.getElem_cons_succ, Region.wanted, if_true])
        go_simp
        have hb0 := DK.out.size
        have hA0 := DA.lt
        have EN := Gr.none WD (w.heap.size + 1) 42 24 (by omega)
        replace DA := DA.alloc (.cells #[] 42)
        replace DG := Lib.hid (DG.out.alloc (.cells #[] 42))
        replace DK := Lib.hid (DK.out.alloc (.cells #[] 42))
        have E := Lib.hid EN
        clear EN
        have he0 : w.heap.size + 1 ≤ WD.heap.size := by omega
        generalize WD.heap.size = e0 at *
        generalize WD.alloc (.cells #[] 42) = WDa at *
        (try simp only [List.getElem_toArray, List.getElem_cons_zero, List.getElem_cons_succ, Act.put, List.setIfInBounds_toArray, List.set_cons_zero, List.set_cons_succ])
        refine hK.out _ _ DA (fun hHeld => ?_)
        clear hK K
        refine wpAnyH_ready (rs := [4, 6]) (by kernel_rfl) (by simp) ?_
        refine AllReadyH.cons (o := _) rfl (fun K hK => ?_) (AllReadyH.cons (o := _) rfl (fun K hK => ?_) AllReadyH.nil)
        · (simp only [List.getElem_toArray, List.getElem_cons_zero, List.getElem_cons_succ, Region.wanted, if_true])
          have hb4 := E.out.own e0 rfl
          have hsz4 := DK.out.size
          refine wp_append_many _ _ 88 rfl (w.heap.size + 1) 42 24 192 Try.underlying88 (by kernel_rfl) (by omega) (by omega) _ 0 [] rfl rfl E.out ⟨g, 0, none⟩ n cap rfl (L.take n) (by rw [List.length_take, ← HNL.out]; omega) (fun l hl => DG.out.lens l (List.mem_of_mem_take hl)) (TP.out _ DG.out) (by omega) (by omega) ?_
          intro v1 u1 F1 hg1 hl1
          have hDA := DA
          replace DA := DA.grownNo hg1 (fun e => by have e := Option.some.inj (show some w.heap.size = some e0 from e); omega)
          replace DG := Lib.hid (DG.out.kept hg1 (fun z hz e => by have hz := Option.some.inj (show some g = some z from hz); have e := Option.some.inj (show some e0 = some z from e); have := HGL.out; omega))
          replace DK : Hid (Kept w u1) := Lib.hid (DK.out.grown hg1 DK.out.size (fun j hj => by have hj := Option.some.inj (show some e0 = some j from hj); omega))
          have F := Lib.hid F1
          clear F1 hl1 hg1 E hDA
          (try simp only [List.getElem_toArray, List.getElem_cons_zero, List.getElem_cons_succ, Act.put, List.setIfInBounds_toArray, List.set_cons_zero, List.set_cons_succ])
          refine hK.out _ _ DA (fun hHeld => ?_)
          clear hK K
          (refine wpAnyH_ready (rs := [6]) (by kernel_rfl) (by simp) ?_; refine AllReadyH.cons (o := _) rfl (fun K hK => ?_) AllReadyH.nil; (simp only [List.getElem_toArray, List.getElem_cons_zero, List.getElem_cons_succ, Region.wanted, if_true]))
          refine wp_slice1 88 42 _ rfl 24 192 Try.underlying88 (by kernel_rfl) (by omega) (by omega) r rfl HRL.out ?_
          have hA6 := DA.lt
          have SBN := Has.box u1 42 HRL.out (by omega)
          have hF6 := fun z hz => (F.out.own z hz).2
          replace DA := DA.alloc (.cells (ints r).toArray 42)
          replace DG := Lib.hid (DG.out.alloc (.cells (ints r).toArray 42))
          replace DK := Lib.hid (DK.out.alloc (.cells (ints r).toArray 42))
          replace F := Lib.hid (F.out.alloc (.cells (ints r).toArray 42))
          have SB := SBN
          clear SBN
          have hs6 : w.heap.size + 1 ≤ u1.heap.size := by omega
          have hsf : Hid (∀ z, v1.ownBlock = some z → z ≠ u1.heap.size) := Lib.hid (fun z hz => by have := hF6 z hz; omega)
          clear hF6
          generalize u1.heap.size = sb at *
          generalize u1.alloc (.cells (ints r).toArray 42) = u1b at *
          (try simp only [List.getElem_toArray, List.getElem_cons_zero, List.getElem_cons_succ, Act.put, List.setIfInBounds_toArray, List.set_cons_zero, List.set_cons_succ])
          refine hK.out _ _ DA (fun hHeld => ?_)
          clear hK K
          (refine wpAnyH_ready (rs := [7]) (by kernel_rfl) (by simp) ?_; refine AllReadyH.cons (o := _) rfl (fun K hK => ?_) AllReadyH.nil; (simp only [List.getElem_toArray, List.getElem_cons_zero, List.getElem_cons_succ, Region.wanted, if_true]))
          have hb7 := fun z hz => (F.out.own z hz).1
          have hsz7 := DK.out.size
          have hA7 := DA.lt
          refine wp_append_many _ _ 88 rfl (w.heap.size + 1) 42 24 192 Try.underlying88 (by kernel_rfl) (by omega) (by omega) _ n ([] ++ L.take n) (by rw [List.nil_append, List.length_take, ← HNL.out]; omega) rfl F.out ⟨sb, 0, none⟩ 1 1 rfl [r] rfl (fun l hl => by rw [List.mem_singleton.1 hl]; exact HRL.out) (by rw [List.flatten_singleton]; exact has_news SB) (by omega) (by omega) ?_
          intro v2 u2 F2 hg2 hl2
          replace DA := DA.grownNo hg2 (fun e => by have := hb7 _ e.symm; omega)
          replace DG := Lib.hid (DG.out.kept hg2 (fun z hz e => by have hz := Option.some.inj (show some g = some z from hz); have := hb7 _ e; have := HGL.out; omega))
          replace DK : Hid (Kept w u2) := Lib.hid (DK.out.grown hg2 DK.out.size (fun j hj => by have := hb7 _ hj; omega))
          replace F := Lib.hid F2
          clear F2 hg2 hl2 SB hsf hb7
          (try simp only [List.getElem_toArray, List.getElem_cons_zero, List.getElem_cons_succ, Act.put, List.setIfInBounds_toArray, List.set_cons_zero, List.set_cons_succ])
          refine hK.out _ _ DA (fun hHeld => ?_)
          clear hK K
          (refine wpAnyH_ready (rs := [11]) (by kernel_rfl) (by simp) ?_; refine AllReadyH.cons (o := _) rfl (fun K hK => ?_) AllReadyH.nil; (simp only [List.getElem_toArray, List.getElem_cons_zero, List.getElem_cons_succ, Region.wanted, if_true]))
          have hb8 := fun z hz => (F.out.own z hz).1
          have hsz8 := DK.out.size
          have hA8 := DA.lt
          refine wp_append_many _ _ 88 rfl (w.heap.size + 1) 42 24 192 Try.underlying88 (by kernel_rfl) (by omega) (by omega) _ (n + 1) ([] ++ L.take n ++ [r]) (by rw [List.nil_append, List.length_append, List.length_take, ← HNL.out]; simp <;> omega) rfl F.out ad2 0 (cap - n) rfl (L.drop n) (by rw [List.length_drop, ← HNL.out, Nat.sub_self]) (fun l hl => DG.out.lens l (List.mem_of_mem_drop hl)) (TD.out _ DG.out) (by omega) (by omega) ?_
          intro v3 u3 F3 hg3 hl3
          replace DA := DA.grownNo hg3 (fun e => by have := hb8 _ e.symm; omega)
          replace DK : Hid (Kept w u3) := Lib.hid (DK.out.grown hg3 DK.out.size (fun j hj => by have := hb8 _ hj; omega))
          replace F := Lib.hid F3
          clear F3 hg3 hl3 hb8
          (try simp only [List.getElem_toArray, List.getElem_cons_zero, List.getElem_cons_succ, Act.put, List.setIfInBounds_toArray, List.set_cons_zero, List.set_cons_succ])
          refine hK.out _ _ DA (fun hHeld => ?_)
          clear hK K
          (refine wpAnyH_take (i := 12) (v := ?_) rfl (by kernel_rfl) (by kernel_rfl) (by kernel_rfl) (fun _ _ _ h => h) (Or.inl ⟨by rfl, ?_⟩) hHeld ?_; rotate_left; (· (intro w' hSw; go_simp; try with_reducible rfl)); (try simp only [List.getElem_toArray, List.getElem_cons_zero, List.getElem_cons_succ, Act.put, List.setIfInBounds_toArray, List.set_cons_zero, List.set_cons_succ]))
          refine wpAnyH_done (by kernel_rfl) ?_ _
          clear hHeld DG DA
          have EE := Lib.hid (show [] ++ L.take n ++ [r] ++ L.drop n = rkIns r L by rw [EI.out]; rfl)
          have FF := Lib.hid (F.out.as EE.out)
          obtain ⟨g', cap', hv3, _, _⟩ := FF.out.form (by rw [EI.out, List.length_append, List.length_append]; simp; omega)
          subst hv3
          clear F EE
          go_wp2_with fail
          go_ret
          exact ⟨g', cap', rfl, FF.out.mono (by omega), DK.out⟩
        · (simp only [List.getElem_toArray, List.getElem_cons_zero, List.getElem_cons_succ, Region.wanted, if_true])
          refine wp_slice1 88 42 _ rfl 24 192 Try.underlying88 (by kernel_rfl) (by omega) (by omega) r rfl HRL.out ?_
          have hA6 := DA.lt
          have SBN := Has.box WDa 42 HRL.out (by omega)
          have hE6 := (E.out.own e0 rfl).2
          replace DA := DA.alloc (.cells (ints r).toArray 42)
          replace DG := Lib.hid (DG.out.alloc (.cells (ints r).toArray 42))
          replace DK := Lib.hid (DK.out.alloc (.cells (ints r).toArray 42))
          replace E := Lib.hid (E.out.alloc (.cells (ints r).toArray 42))
          have SB := SBN
          clear SBN
          have hs6 : w.heap.size + 1 ≤ WDa.heap.size := by omega
          have hsb : WDa.heap.size ≠ e0 := by omega
          have hs7 : WDa.heap.size < (WDa.alloc (.cells (ints r).toArray 42)).heap.size := by rw [size1]; omega
          generalize WDa.heap.size = sb at *
          generalize WDa.alloc (.cells (ints r).toArray 42) = WDab at *
          (try simp only [List.getElem_toArray, List.getElem_cons_zero, List.getElem_cons_succ, Act.put, List.setIfInBounds_toArray, List.set_cons_zero, List.set_cons_succ])
          refine hK.out _ _ DA (fun hHeld => ?_)
          clear hK K
          (refine wpAnyH_ready (rs := [4]) (by kernel_rfl) (by simp) ?_; refine AllReadyH.cons (o := _) rfl (fun K hK => ?_) AllReadyH.nil; (simp only [List.getElem_toArray, List.getElem_cons_zero, List.getElem_cons_succ, Region.wanted, if_true]))
          have hb4 := E.out.own e0 rfl
          have hsz4 := DK.out.size
          have SBL := Lib.hid SB.lt
          refine wp_append_many _ _ 88 rfl (w.heap.size + 1) 42 24 192 Try.underlying88 (by kernel_rfl) (by omega) (by omega) _ 0 [] rfl rfl E.out ⟨g, 0, none⟩ n cap rfl (L.take n) (by rw [List.length_take, ← HNL.out]; omega) (fun l hl => DG.out.lens l (List.mem_of_mem_take hl)) (TP.out _ DG.out) (by omega) (by omega) ?_
          intro v1 u1 F1 hg1 hl1
          have hDA := DA
          replace DA := DA.grownNo hg1 (fun e => by have e := Option.some.inj (show some w.heap.size = some e0 from e); omega)
          replace DG := Lib.hid (DG.out.kept hg1 (fun z hz e => by have hz := Option.some.inj (show some g = some z from hz); have e := Option.some.inj (show some e0 = some z from e); have := HGL.out; omega))
          replace DK : Hid (Kept w u1) := Lib.hid (DK.out.grown hg1 DK.out.size (fun j hj => by have hj := Option.some.inj (show some e0 = some j from hj); omega))
          have F := Lib.hid F1
          replace SB := SB.grownNo hg1 (fun e => by have e := Option.some.inj (show some sb = some e0 from e); omega)
          have hsf : Hid (∀ z, v1.ownBlock = some z → z ≠ sb) := Lib.hid (fun z hz => by rcases hl1 with h | h; (· rw [h] at hz; have hz := Option.some.inj (show some e0 = some z from hz); omega); (· rw [h] at hz; have hz := Option.some.inj hz; have := SBL.out; omega))
          clear F1 hl1 hg1 E hDA
          (try simp only [List.getElem_toArray, List.getElem_cons_zero, List.getElem_cons_succ, Act.put, List.setIfInBounds_toArray, List.set_cons_zero, List.set_cons_succ])
          refine hK.out _ _ DA (fun hHeld => ?_)
          clear hK K
          (refine wpAnyH_ready (rs := [7]) (by kernel_rfl) (by simp) ?_; refine AllReadyH.cons (o := _) rfl (fun K hK => ?_) AllReadyH.nil; (simp only [List.getElem_toArray, List.getElem_cons_zero, List.getElem_cons_succ, Region.wanted, if_true]))
          have hb7 := fun z hz => (F.out.own z hz).1
          have hsz7 := DK.out.size
          have hA7 := DA.lt
          refine wp_append_many _ _ 88 rfl (w.heap.size + 1) 42 24 192 Try.underlying88 (by kernel_rfl) (by omega) (by omega) _ n ([] ++ L.take n) (by rw [List.nil_append, List.length_take, ← HNL.out]; omega) rfl F.out ⟨sb, 0, none⟩ 1 1 rfl [r] rfl (fun l hl => by rw [List.mem_singleton.1 hl]; exact HRL.out) (by rw [List.flatten_singleton]; exact has_news SB) (by omega) (by omega) ?_
          intro v2 u2 F2 hg2 hl2
          replace DA := DA.grownNo hg2 (fun e => by have := hb7 _ e.symm; omega)
          replace DG := Lib.hid (DG.out.kept hg2 (fun z hz e => by have hz := Option.some.inj (show some g = some z from hz); have := hb7 _ e; have := HGL.out; omega))
          replace DK : Hid (Kept w u2) := Lib.hid (DK.out.grown hg2 DK.out.size (fun j hj => by have := hb7 _ hj; omega))
          replace F := Lib.hid F2
          clear F2 hg2 hl2 SB hsf hb7
          (try simp only [List.getElem_toArray, List.getElem_cons_zero, List.getElem_cons_succ, Act.put, List.setIfInBounds_toArray, List.set_cons_zero, List.set_cons_succ])
          refine hK.out _ _ DA (fun hHeld => ?_)
          clear hK K
          (refine wpAnyH_ready (rs := [11]) (by kernel_rfl) (by simp) ?_; refine AllReadyH.cons (o := _) rfl (fun K hK => ?_) AllReadyH.nil; (simp only [List.getElem_toArray, List.getElem_cons_zero, List.getElem_cons_succ, Region.wanted, if_true]))
          have hb8 := fun z hz => (F.out.own z hz).1
          have hsz8 := DK.out.size
          have hA8 := DA.lt
          refine wp_append_many _ _ 88 rfl (w.heap.size + 1) 42 24 192 Try.underlying88 (by kernel_rfl) (by omega) (by omega) _ (n + 1) ([] ++ L.take n ++ [r]) (by rw [List.nil_append, List.length_append, List.length_take, ← HNL.out]; simp <;> omega) rfl F.out ad2 0 (cap - n) rfl (L.drop n) (by rw [List.length_drop, ← HNL.out, Nat.sub_self]) (fun l hl => DG.out.lens l (List.mem_of_mem_drop hl)) (TD.out _ DG.out) (by omega) (by omega) ?_
          intro v3 u3 F3 hg3 hl3
          replace DA := DA.grownNo hg3 (fun e => by have := hb8 _ e.symm; omega)
          replace DK : Hid (Kept w u3) := Lib.hid (DK.out.grown hg3 DK.out.size (fun j hj => by have := hb8 _ hj; omega))
          replace F := Lib.hid F3
          clear F3 hg3 hl3 hb8
          (try simp only [List.getElem_toArray, List.getElem_cons_zero, List.getElem_cons_succ, Act.put, List.setIfInBounds_toArray, List.set_cons_zero, List.set_cons_succ])
          refine hK.out _ _ DA (fun hHeld => ?_)
          clear hK K
          (refine wpAnyH_take (i := 12) (v := ?_) rfl (by kernel_rfl) (by kernel_rfl) (by kernel_rfl) (fun _ _ _ h => h) (Or.inl ⟨by rfl, ?_⟩) hHeld ?_; rotate_left; (· (intro w' hSw; go_simp; try with_reducible rfl)); (try simp only [List.getElem_toArray, List.getElem_cons_zero, List.getElem_cons_succ, Act.put, List.setIfInBounds_toArray, List.set_cons_zero, List.set_cons_succ]))
          refine wpAnyH_done (by kernel_rfl) ?_ _
          clear hHeld DG DA
          have EE := Lib.hid (show [] ++ L.take n ++ [r] ++ L.drop n = rkIns r L by rw [EI.out]; rfl)
          have FF := Lib.hid (F.out.as EE.out)
          obtain ⟨g', cap', hv3, _, _⟩ := FF.out.form (by rw [EI.out, List.length_append, List.length_append]; simp; omega)
          subst hv3
          clear F EE
          go_wp2_with fail
          go_ret
          exact ⟨g', cap', rfl, FF.out.mono (by omega), DK.out⟩
      · (simp only [List.getElem_toArray, List.getElem_cons_zero, List.getElem_cons_succ, Region.wanted, if_true])
        refine wp_slice1 88 42 _ rfl 24 192 Try.underlying88 (by kernel_rfl) (by omega) (by omega) r rfl HRL.out ?_
        have hA6 := DA.lt
        have SBN := Has.box WD 42 HRL.out (by omega)
        replace DA := DA.alloc (.cells (ints r).toArray 42)
        replace DG := Lib.hid (DG.out.alloc (.cells (ints r).toArray 42))
        replace DK := Lib.hid (DK.out.alloc (.cells (ints r).toArray 42))
        have SB := SBN
        clear SBN
        have hs6 : w.heap.size + 1 ≤ WD.heap.size := by omega
        have hs7 : WD.heap.size < (WD.alloc (.cells (ints r).toArray 42)).heap.size := by rw [size1]; omega
        generalize WD.heap.size = sb at *
        generalize WD.alloc (.cells (ints r).toArray 42) = WDb at *
        (try simp only [List.getElem_toArray, List.getElem_cons_zero, List.getElem_cons_succ, Act.put, List.setIfInBounds_toArray, List.set_cons_zero, List.set_cons_succ])
        refine hK.out _ _ DA (fun hHeld => ?_)
        clear hK K
        (refine wpAnyH_ready (rs := [0]) (by kernel_rfl) (by simp) ?_; refine AllReadyH.cons (o := _) rfl (fun K hK => ?_) AllReadyH.nil; (simp only [List.getElem_toArray, List.getElem_cons_zero, List.getElem_cons_succ, Region.wanted, if_true]))
        go_simp
        have hb0 := DK.out.size
        have hA0 := DA.lt
        have EN := Gr.none WDb (w.heap.size + 1) 42 24 (by omega)
        replace DA := DA.alloc (.cells #[] 42)
        replace DG := Lib.hid (DG.out.alloc (.cells #[] 42))
        replace DK := Lib.hid (DK.out.alloc (.cells #[] 42))
        replace SB := SB.alloc (.cells #[] 42)
        have E := Lib.hid EN
        clear EN
        have he0 : w.heap.size + 1 ≤ WDb.heap.size := by omega
        have hsb : sb ≠ WDb.heap.size := by omega
        generalize WDb.heap.size = e0 at *
        generalize WDb.alloc (.cells #[] 42) = WDba at *
        (try simp only [List.getElem_toArray, List.getElem_cons_zero, List.getElem_cons_succ, Act.put, List.setIfInBounds_toArray, List.set_cons_zero, List.set_cons_succ])
        refine hK.out _ _ DA (fun hHeld => ?_)
        clear hK K
        (refine wpAnyH_ready (rs := [4]) (by kernel_rfl) (by simp) ?_; refine AllReadyH.cons (o := _) rfl (fun K hK => ?_) AllReadyH.nil; (simp only [List.getElem_toArray, List.getElem_cons_zero, List.getElem_cons_succ, Region.wanted, if_true]))
        have hb4 := E.out.own e0 rfl
        have hsz4 := DK.out.size
        have SBL := Lib.hid SB.lt
        refine wp_append_many _ _ 88 rfl (w.heap.size + 1) 42 24 192 Try.underlying88 (by kernel_rfl) (by omega) (by omega) _ 0 [] rfl rfl E.out ⟨g, 0, none⟩ n cap rfl (L.take n) (by rw [List.length_take, ← HNL.out]; omega) (fun l hl => DG.out.lens l (List.mem_of_mem_take hl)) (TP.out _ DG.out) (by omega) (by omega) ?_
        intro v1 u1 F1 hg1 hl1
        have hDA := DA
        replace DA := DA.grownNo hg1 (fun e => by have e := Option.some.inj (show some w.heap.size = some e0 from e); omega)
        replace DG := Lib.hid (DG.out.kept hg1 (fun z hz e => by have hz := Option.some.inj (show some g = some z from hz); have e := Option.some.inj (show some e0 = some z from e); have := HGL.out; omega))
        replace DK : Hid (Kept w u1) := Lib.hid (DK.out.grown hg1 DK.out.size (fun j hj => by have hj := Option.some.inj (show some e0 = some j from hj); omega))
        have F := Lib.hid F1
        replace SB := SB.grownNo hg1 (fun e => by have e := Option.some.inj (show some sb = some e0 from e); omega)
        have hsf : Hid (∀ z, v1.ownBlock = some z → z ≠ sb) := Lib.hid (fun z hz => by rcases hl1 with h | h; (· rw [h] at hz; have hz := Option.some.inj (show some e0 = some z from hz); omega); (· rw [h] at hz; have hz := Option.some.inj hz; have := SBL.out; omega))
        clear F1 hl1 hg1 E hDA
        (try simp only [List.getElem_toArray, List.getElem_cons_zero, List.getElem_cons_succ, Act.put, List.setIfInBounds_toArray, List.set_cons_zero, List.set_cons_succ])
        refine hK.out _ _ DA (fun hHeld => ?_)
        clear hK K
        (refine wpAnyH_ready (rs := [7]) (by kernel_rfl) (by simp) ?_; refine AllReadyH.cons (o := _) rfl (fun K hK => ?_) AllReadyH.nil; (simp only [List.getElem_toArray, List.getElem_cons_zero, List.getElem_cons_succ, Region.wanted, if_true]))
        have hb7 := fun z hz => (F.out.own z hz).1
        have hsz7 := DK.out.size
        have hA7 := DA.lt
        refine wp_append_many _ _ 88 rfl (w.heap.size + 1) 42 24 192 Try.underlying88 (by kernel_rfl) (by omega) (by omega) _ n ([] ++ L.take n) (by rw [List.nil_append, List.length_take, ← HNL.out]; omega) rfl F.out ⟨sb, 0, none⟩ 1 1 rfl [r] rfl (fun l hl => by rw [List.mem_singleton.1 hl]; exact HRL.out) (by rw [List.flatten_singleton]; exact has_news SB) (by omega) (by omega) ?_
        intro v2 u2 F2 hg2 hl2
        replace DA := DA.grownNo hg2 (fun e => by have := hb7 _ e.symm; omega)
        replace DG := Lib.hid (DG.out.kept hg2 (fun z hz e => by have hz := Option.some.inj (show some g = some z from hz); have := hb7 _ e; have := HGL.out; omega))
        replace DK : Hid (Kept w u2) := Lib.hid (DK.out.grown hg2 DK.out.size (fun j hj => by have := hb7 _ hj; omega))
        replace F := Lib.hid F2
        clear F2 hg2 hl2 SB hsf hb7
        (try simp only [List.getElem_toArray, List.getElem_cons_zero, List.getElem_cons_succ, Act.put, List.setIfInBounds_toArray, List.set_cons_zero, List.set_cons_succ])
        refine hK.out _ _ DA (fun hHeld => ?_)
        clear hK K
        (refine wpAnyH_ready (rs := [11]) (by kernel_rfl) (by simp) ?_; refine AllReadyH.cons (o := _) rfl (fun K hK => ?_) AllReadyH.nil; (simp only [List.getElem_toArray, List.getElem_cons_zero, List.getElem_cons_succ, Region.wanted, if_true]))
        have hb8 := fun z hz => (F.out.own z hz).1
        have hsz8 := DK.out.size
        have hA8 := DA.lt
        refine wp_append_many _ _ 88 rfl (w.heap.size + 1) 42 24 192 Try.underlying88 (by kernel_rfl) (by omega) (by omega) _ (n + 1) ([] ++ L.take n ++ [r]) (by rw [List.nil_append, List.length_append, List.length_take, ← HNL.out]; simp <;> omega) rfl F.out ad2 0 (cap - n) rfl (L.drop n) (by rw [List.length_drop, ← HNL.out, Nat.sub_self]) (fun l hl => DG.out.lens l (List.mem_of_mem_drop hl)) (TD.out _ DG.out) (by omega) (by omega) ?_
        intro v3 u3 F3 hg3 hl3
        replace DA := DA.grownNo hg3 (fun e => by have := hb8 _ e.symm; omega)
        replace DK : Hid (Kept w u3) := Lib.hid (DK.out.grown hg3 DK.out.size (fun j hj => by have := hb8 _ hj; omega))
        replace F := Lib.hid F3
        clear F3 hg3 hl3 hb8
        (try simp only [List.getElem_toArray, List.getElem_cons_zero, List.getElem_cons_succ, Act.put, List.setIfInBounds_toArray, List.set_cons_zero, List.set_cons_succ])
        refine hK.out _ _ DA (fun hHeld => ?_)
        clear hK K
        (refine wpAnyH_take (i := 12) (v := ?_) rfl (by kernel_rfl) (by kernel_rfl) (by kernel_rfl) (fun _ _ _ h => h) (Or.inl ⟨by rfl, ?_⟩) hHeld ?_; rotate_left; (· (intro w' hSw; go_simp; try with_reducible rfl)); (try simp only [List.getElem_toArray, List.getElem_cons_zero, List.getElem_cons_succ, Act.put, List.setIfInBounds_toArray, List.set_cons_zero, List.set_cons_succ]))
        refine wpAnyH_done (by kernel_rfl) ?_ _
        clear hHeld DG DA
        have EE := Lib.hid (show [] ++ L.take n ++ [r] ++ L.drop n = rkIns r L by rw [EI.out]; rfl)
        have FF := Lib.hid (F.out.as EE.out)
        obtain ⟨g', cap', hv3, _, _⟩ := FF.out.form (by rw [EI.out, List.length_append, List.length_append]; simp; omega)
        subst hv3
        clear F EE
        go_wp2_with fail
        go_ret
        exact ⟨g', cap', rfl, FF.out.mono (by omega), DK.out⟩
end Go.Proofs.Ytemiljokdedidac.base
