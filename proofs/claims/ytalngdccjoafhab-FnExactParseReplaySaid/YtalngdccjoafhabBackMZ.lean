/-
  Pouring back, in plain mathematics.
-/
/-
  Layers moved from one tube to another, on the program's side, walked.
-/
/-
  The program's pour, walked.
-/
import Derived.Test.YtalngdccjoafhabPourMZ
import Derived.Test.YtalngdccjoafhabCan2Z

section
namespace Go.Proofs.Ytalngdccjoafhab.base
set_option linter.unusedVariables false
set_option linter.unusedSimpArgs false

/-- The rack behind moving m layers from p to q. -/
def moveT (ns : List Int) (p q m : Nat) : List Int := two ns p q (fromK (tub ns p) m) (toK (tub ns q) (topC (tub ns p)) m)
theorem pourT_move (ns : List Int) (p q : Nat) : pourT ns p q = moveT ns p q (canN (tub ns p) (tub ns q)) := rfl
structure MoveOk (ns : List Int) (p q m : Nat) : Prop where
  len : ns.length = 24
  v : vR ns = true
  hp : p < 6
  hq : q < 6
  ne : p ≠ q
  h0 : 0 < m
  hm : m ≤ lay (tub ns p)
  hq4 : m + lay (tub ns q) ≤ 4
section
variable {ns : List Int} {p q m : Nat}
theorem MoveOk.color (h : MoveOk ns p q m) : 1 ≤ topC (tub ns p) ∧ topC (tub ns p) ≤ 5 := by
  have F := tubeFacts (tub_len ns p h.len h.hp) (vR_tub h.v p h.hp)
  have h1 := h.h0; have h2 := h.hm; have h3 := F.none; have h4 := F.noneC; have h5 := F.c0; have h6 := F.c5
  have h7 : topC (tub ns p) ≠ 0 := fun e => by have := h3.2 (h4.1 e); omega
  omega
theorem MoveOk.fromF (h : MoveOk ns p q m) : lay (fromK (tub ns p) m) = lay (tub ns p) - m ∧ vT (fromK (tub ns p) m) = true ∧ (fromK (tub ns p) m).length = 4 :=
  fromK_facts (tub_len ns p h.len h.hp) (vR_tub h.v p h.hp) m h.hm
theorem MoveOk.toF (h : MoveOk ns p q m) : lay (toK (tub ns q) (topC (tub ns p)) m) = lay (tub ns q) + m ∧ vT (toK (tub ns q) (topC (tub ns p)) m) = true ∧ (toK (tub ns q) (topC (tub ns p)) m).length = 4 :=
  toK_facts (tub_len ns q h.len h.hq) (vR_tub h.v q h.hq) _ h.color m h.hq4
theorem MoveOk.len24 (h : MoveOk ns p q m) : (moveT ns p q m).length = 24 := two_len h.len h.hp h.hq h.fromF.2.2 h.toF.2.2
theorem MoveOk.tubP (h : MoveOk ns p q m) : tub (moveT ns p q m) p = fromK (tub ns p) m := two_p h.len h.hp h.hq h.fromF.2.2 h.toF.2.2 h.ne
theorem MoveOk.tubQ (h : MoveOk ns p q m) : tub (moveT ns p q m) q = toK (tub ns q) (topC (tub ns p)) m := two_q h.len h.hp h.hq h.fromF.2.2 h.toF.2.2
theorem MoveOk.tubO (h : MoveOk ns p q m) (o : Nat) (ho : o < 6) (h1 : o ≠ p) (h2 : o ≠ q) : tub (moveT ns p q m) o = tub ns o := two_o h.len h.hp h.hq h.fromF.2.2 h.toF.2.2 o ho h1 h2
theorem MoveOk.valid (h : MoveOk ns p q m) : vR (moveT ns p q m) = true := vR_of fun o ho => by
  by_cases e1 : o = p
  · subst e1; rw [h.tubP]; exact h.fromF.2.1
  · by_cases e2 : o = q
    · subst e2; rw [h.tubQ]; exact h.toF.2.1
    · rw [h.tubO o ho e1 e2]; exact vR_tub h.v o ho
theorem MoveOk.layP (h : MoveOk ns p q m) : lay (tub (moveT ns p q m) p) = lay (tub ns p) - m := by rw [h.tubP]; exact h.fromF.1
theorem MoveOk.layQ (h : MoveOk ns p q m) : lay (tub (moveT ns p q m) q) = lay (tub ns q) + m := by rw [h.tubQ]; exact h.toF.1
end
theorem pour_moveOk {ns : List Int} {p q : Nat} (h24 : ns.length = 24) (hv : vR ns = true) (hp : p < 6) (hq : q < 6) (hne : p ≠ q) (hpos : 0 < canN (tub ns p) (tub ns q)) : MoveOk ns p q (canN (tub ns p) (tub ns q)) := by
  have hC := canN_le (tub_len ns p h24 hp) (tub_len ns q h24 hq) (vR_tub hv p hp) (vR_tub hv q hq)
  exact ⟨h24, hv, hp, hq, hne, hpos, hC.1, hC.2.1⟩

/-- A source (i, j, m): what can be put back, what is behind, and whether it is possible. -/
def putOk (ns : List Int) (i j m : Int) : Bool := twoOk ns i j && decide (1 ≤ m) && decide (m ≤ min ((topN (tub ns j.toNat) : Nat) : Int) (4 - ((lay (tub ns i.toNat) : Nat) : Int)))
def putR (ns : List Int) (i j m : Int) : List Int := if putOk ns i j m = true then moveT ns j.toNat i.toNat m.toNat else z24
def backOk (ns : List Int) (i j m : Int) : Bool := putOk ns i j m && (pourOk (putR ns i j m) i j && decide (pourR (putR ns i j m) i j = ns))
def backR (ns : List Int) (i j m : Int) : List Int := if backOk ns i j m = true then putR ns i j m else z24
theorem putOk_of {ns : List Int} {i j m : Int} (h24 : ns.length = 24) (h : putOk ns i j m = true) : ∃ p q k : Nat, i = (p : Int) ∧ j = (q : Int) ∧ m = (k : Int) ∧ MoveOk ns q p k ∧ k ≤ topN (tub ns q) := by
  unfold putOk at h
  simp only [Bool.and_eq_true] at h
  obtain ⟨⟨h1, h2⟩, h3⟩ := h
  obtain ⟨hv, p, q, rfl, rfl, hp, hq, hne⟩ := twoOk_of h1
  have a2 := of_decide_eq_true h2
  have a3 := of_decide_eq_true h3
  have FQ := tubeFacts (tub_len ns q h24 hq) (vR_tub hv q hq)
  have FP := tubeFacts (tub_len ns p h24 hp) (vR_tub hv p hp)
  have b1 := FQ.topN
  have b2 := FP.lay4
  simp only [Int.toNat_natCast] at a3
  have a4 : m ≤ ((topN (tub ns q) : Nat) : Int) := by omega
  have a5 : m ≤ 4 - ((lay (tub ns p) : Nat) : Int) := by omega
  exact ⟨p, q, m.toNat, rfl, rfl, by omega, ⟨h24, hv, hq, hp, Ne.symm hne, by omega, by omega, by omega⟩, by omega⟩
theorem putR_len {ns : List Int} (h24 : ns.length = 24) (i j m : Int) : (putR ns i j m).length = 24 := by
  unfold putR
  split
  next h =>
    obtain ⟨p, q, k, rfl, rfl, rfl, M, _⟩ := putOk_of h24 h
    simpa using M.len24
  · rfl
theorem backR_len {ns : List Int} (h24 : ns.length = 24) (i j m : Int) : (backR ns i j m).length = 24 := by
  unfold backR
  split
  · exact putR_len h24 i j m
  · rfl
theorem back_putOk {ns : List Int} {i j m : Int} (h : backOk ns i j m = true) : putOk ns i j m = true := by
  unfold backOk at h
  simp only [Bool.and_eq_true] at h
  exact h.1
theorem back_putR {ns : List Int} {i j m : Int} (h : backOk ns i j m = true) : backR ns i j m = putR ns i j m := by unfold backR; rw [if_pos h]
theorem putR_yes {ns : List Int} {p q k : Nat} (h : putOk ns (p : Int) (q : Int) (k : Int) = true) : putR ns (p : Int) (q : Int) (k : Int) = moveT ns q p k := by
  unfold putR; rw [if_pos h]; simp
theorem backR_valid {ns : List Int} {i j m : Int} (h24 : ns.length = 24) (h : backOk ns i j m = true) : vR (backR ns i j m) = true := by
  rw [back_putR h]
  have h1 := back_putOk h
  obtain ⟨p, q, k, rfl, rfl, rfl, M, _⟩ := putOk_of h24 h1
  rw [putR_yes h1]; exact M.valid
/-- The model's way of telling whether a source is possible. -/
theorem back_iff {ns : List Int} {p q k : Nat} (h24 : ns.length = 24) (h : putOk ns (p : Int) (q : Int) (k : Int) = true) :
    backOk ns (p : Int) (q : Int) (k : Int) = (decide (0 < canN (tub (moveT ns q p k) p) (tub (moveT ns q p k) q)) && decide (pourT (moveT ns q p k) p q = ns)) ∧
    (backOk ns (p : Int) (q : Int) (k : Int) = true → canN (tub (moveT ns q p k) p) (tub (moveT ns q p k) q) = k) := by
  obtain ⟨p', q', k', e1, e2, e3, M, _⟩ := putOk_of h24 h
  obtain rfl : p = p' := by omega
  obtain rfl : q = q' := by omega
  obtain rfl : k = k' := by omega
  have V := M.valid
  have L := M.len24
  have hT := twoOk_yes V M.hq M.hp (Ne.symm M.ne)
  have e4 : backOk ns (p : Int) (q : Int) (k : Int) = (decide (0 < canN (tub (moveT ns q p k) p) (tub (moveT ns q p k) q)) && decide (pourT (moveT ns q p k) p q = ns)) := by
    unfold backOk
    rw [h, Bool.true_and, putR_yes h]
    by_cases hc : 0 < canN (tub (moveT ns q p k) p) (tub (moveT ns q p k) q)
    · have hO : pourOk (moveT ns q p k) (p : Int) (q : Int) = true := by unfold pourOk; rw [hT]; simpa using hc
      rw [hO, decide_eq_true hc]
      unfold pourR
      rw [if_pos hO]; simp
    · have hO : pourOk (moveT ns q p k) (p : Int) (q : Int) = false := by unfold pourOk; rw [hT]; simpa using hc
      rw [hO, decide_eq_false hc]; rfl
  refine ⟨e4, fun hb => ?_⟩
  rw [e4] at hb
  simp only [Bool.and_eq_true, decide_eq_true_eq] at hb
  obtain ⟨hc, hr⟩ := hb
  have P := pour_moveOk L V M.hq M.hp (Ne.symm M.ne) hc
  have l1 := P.layQ
  rw [← pourT_move, hr, M.layP] at l1
  have := M.hm
  omega
/-- No rack is twice among those before. -/
theorem back_inj {ns : List Int} {i j m i' j' m' : Int} (h24 : ns.length = 24) (h : backOk ns i j m = true) (h' : backOk ns i' j' m' = true) (e : backR ns i j m = backR ns i' j' m') : i = i' ∧ j = j' ∧ m = m' := by
  rw [back_putR h, back_putR h'] at e
  have h1 := back_putOk h
  have h2 := back_putOk h'
  obtain ⟨p, q, k, rfl, rfl, rfl, M, _⟩ := putOk_of h24 h1
  obtain ⟨p', q', k', rfl, rfl, rfl, M', _⟩ := putOk_of h24 h2
  rw [putR_yes h1, putR_yes h2] at e
  have a1 := M.layP
  have a2 := M.layQ
  have b1 := M'.layP
  have b2 := M'.layQ
  have hk := M.h0
  have hk' := M'.h0
  have hm := M.hm
  have hm' := M'.hm
  have eq : q = q' := by
    apply Classical.byContradiction
    intro hne
    by_cases e2 : q = p'
    · subst e2
      rw [e] at a1; omega
    · have := M'.tubO q M.hp hne e2
      rw [e, this] at a1; omega
  subst eq
  have ek : k = k' := by rw [e] at a1; omega
  subst ek
  have ep : p = p' := by
    apply Classical.byContradiction
    intro hne
    by_cases e2 : p = q
    · exact M.ne e2.symm
    · have := M'.tubO p M.hq e2 hne
      rw [e, this] at a2; omega
  subst ep
  exact ⟨rfl, rfl, rfl⟩
end Go.Proofs.Ytalngdccjoafhab.base
end

section
namespace Go.Proofs.Ytalngdccjoafhab.base
open Go.ChangeShapes Go.WideShapes Go.ChangeAt Go.RowKit
set_option linter.unusedVariables false
set_option linter.unusedSimpArgs false

set_option maxHeartbeats 6400000 in
set_option maxRecDepth 100000 in
theorem move_any (ns : List Int) (p q m : Nat) (w : World) (M : MoveOk ns p q m) :
    Calls Try.prog 93 #[row ns, .int .i64 (p : Nat), .int .i64 (q : Nat), .int .i64 (m : Nat)] w fun e w' => e = .returned (.agg (ints (moveT ns p q m)).toArray) ∧ Kept w w' := by
  have h24 := M.len
  have hp := M.hp
  have hq := M.hq
  have HB := Lib.hid (((kept_refl w).alloc (.cells (ints ns).toArray 30)).alloc (.cells #[.int .i64 0, .int .i64 0, .int .i64 0, .int .i64 0, .int .i64 0, .int .i64 0, .int .i64 0, .int .i64 0, .int .i64 0, .int .i64 0, .int .i64 0, .int .i64 0, .int .i64 0, .int .i64 0, .int .i64 0, .int .i64 0, .int .i64 0, .int .i64 0, .int .i64 0, .int .i64 0, .int .i64 0, .int .i64 0, .int .i64 0, .int .i64 0] 30))
  have H := (Has.box w 30 h24 (by omega)).alloc (.cells #[.int .i64 0, .int .i64 0, .int .i64 0, .int .i64 0, .int .i64 0, .int .i64 0, .int .i64 0, .int .i64 0, .int .i64 0, .int .i64 0, .int .i64 0, .int .i64 0, .int .i64 0, .int .i64 0, .int .i64 0, .int .i64 0, .int .i64 0, .int .i64 0, .int .i64 0, .int .i64 0, .int .i64 0, .int .i64 0, .int .i64 0, .int .i64 0] 30)
  have Z := (Has.zero24 (w.alloc (.cells (ints ns).toArray 30)) 30).at (size1 _ _)
  have sA := tub_len ns p h24 hp
  have sB := tub_len ns q h24 hq
  have vp := vR_tub M.v p hp
  have vq := vR_tub M.v q hq
  have hpi : (p : Int) < 6 := by omega
  have hp0 : (0 : Int) ≤ (p : Int) := by omega
  have hqi : (q : Int) < 6 := by omega
  have hq0 : (0 : Int) ≤ (q : Int) := by omega
  have l1 : (ints (tub ns p)).length = 4 := by rw [ints_len]; exact sA
  have l2 : (ints (tub ns q)).length = 4 := by rw [ints_len]; exact sB
  have hi1 : (Try.prog.info? 22).map (·.size) = some (ints (tub ns p)).length := by rw [l1]; kernel_rfl
  have hi2 : (Try.prog.info? 22).map (·.size) = some (ints (tub ns q)).length := by rw [l2]; kernel_rfl
  have HM := Lib.hid M
  clear M
  rw [row_ints]
  go_enter Try.func93, Try.ntmps93
  go_wp2_with fail
  generalize hW : ((w.alloc (.cells (ints ns).toArray 30)).alloc (.cells #[.int .i64 0, .int .i64 0, .int .i64 0, .int .i64 0, .int .i64 0, .int .i64 0, .int .i64 0, .int .i64 0, .int .i64 0, .int .i64 0, .int .i64 0, .int .i64 0, .int .i64 0, .int .i64 0, .int .i64 0, .int .i64 0, .int .i64 0, .int .i64 0, .int .i64 0, .int .i64 0, .int .i64 0, .int .i64 0, .int .i64 0, .int .i64 0] 30)) = W at *
  have hWs : W.heap.size = w.heap.size + 1 + 1 := by rw [← hW]; simp
  clear hW
  refine wp_region_held_drew (S := fun w' => Has w' w.heap.size ns 24) (by kernel_rfl) H.drew (fun hHeld => ?_)
  (refine wpAnyH_take (i := 0) (v := ?_) rfl (by kernel_rfl) (by kernel_rfl) (by kernel_rfl) (fun _ _ _ h => h) (Or.inl ⟨by rfl, ?_⟩) hHeld ?_; rotate_left; (· (intro w' hSw; go_simp; try with_reducible rfl)); (try simp only [List.getElem_toArray, List.getElem_cons_zero, List.getElem_cons_succ, Act.put, List.setIfInBounds_toArray, List.set_cons_zero, List.set_cons_succ])); (refine wpAnyH_take (i := 1) (v := ?_) rfl (by kernel_rfl) (by kernel_rfl) (by kernel_rfl) (fun _ _ _ h => h) (Or.inl ⟨by rfl, ?_⟩) hHeld ?_; rotate_left; (· (intro w' hSw; go_simp; try with_reducible rfl)); (try simp only [List.getElem_toArray, List.getElem_cons_zero, List.getElem_cons_succ, Act.put, List.setIfInBounds_toArray, List.set_cons_zero, List.set_cons_succ])); (refine wpAnyH_take (i := 2) (v := ?_) rfl (by kernel_rfl) (by kernel_rfl) (by kernel_rfl) (fun _ _ _ h => h) (Or.inl ⟨by rfl, ?_⟩) hHeld ?_; rotate_left; (· (intro w' hSw; go_simp; try with_reducible rfl)); (try simp only [List.getElem_toArray, List.getElem_cons_zero, List.getElem_cons_succ, Act.put, List.setIfInBounds_toArray, List.set_cons_zero, List.set_cons_succ])); (refine wpAnyH_take (i := 4) (v := ?_) rfl (by kernel_rfl) (by kernel_rfl) (by kernel_rfl) (fun _ _ _ h => h) (Or.inl ⟨by rfl, ?_⟩) hHeld ?_; rotate_left; (· (intro w' hSw; go_simp; try with_reducible rfl)); (try simp only [List.getElem_toArray, List.getElem_cons_zero, List.getElem_cons_succ, Act.put, List.setIfInBounds_toArray, List.set_cons_zero, List.set_cons_succ])); (refine wpAnyH_take (i := 5) (v := ?_) rfl (by kernel_rfl) (by kernel_rfl) (by kernel_rfl) (fun _ _ _ h => h) (Or.inl ⟨by rfl, ?_⟩) hHeld ?_; rotate_left; (· (intro w' hSw; go_simp; try with_reducible rfl)); (try simp only [List.getElem_toArray, List.getElem_cons_zero, List.getElem_cons_succ, Act.put, List.setIfInBounds_toArray, List.set_cons_zero, List.set_cons_succ])); (refine wpAnyH_take (i := 6) (v := ?_) rfl (by kernel_rfl) (by kernel_rfl) (by kernel_rfl) (fun _ _ _ h => h) (Or.inl ⟨by rfl, ?_⟩) hHeld ?_; rotate_left; (· (intro w' hSw; go_simp; try with_reducible rfl)); (try simp only [List.getElem_toArray, List.getElem_cons_zero, List.getElem_cons_succ, Act.put, List.setIfInBounds_toArray, List.set_cons_zero, List.set_cons_succ]))
  (refine wpAnyH_take (i := 3) (v := _) rfl (by kernel_rfl) (by kernel_rfl) (by kernel_rfl) (fun _ _ _ h => h) (yieldsIf_load_mid (by rfl) 22 _ rfl _ _ rfl (ints (tub ns p)) _ (fun w' hSw => hSw.holds.sub (p * 4) 4) Try.underlying22 rfl (hi1)) hHeld ?_; (try simp only [List.getElem_toArray, List.getElem_cons_zero, List.getElem_cons_succ, Act.put, List.setIfInBounds_toArray, List.set_cons_zero, List.set_cons_succ]))
  (refine wpAnyH_take (i := 7) (v := _) rfl (by kernel_rfl) (by kernel_rfl) (by kernel_rfl) (fun _ _ _ h => h) (yieldsIf_load_mid (by rfl) 22 _ rfl _ _ rfl (ints (tub ns q)) _ (fun w' hSw => hSw.holds.sub (q * 4) 4) Try.underlying22 rfl (hi2)) hHeld ?_; (try simp only [List.getElem_toArray, List.getElem_cons_zero, List.getElem_cons_succ, Act.put, List.setIfInBounds_toArray, List.set_cons_zero, List.set_cons_succ]))
  refine wpAnyH_ready (rs := [8, 9]) (by kernel_rfl) (by simp) ?_
  refine AllReadyH.cons (o := _) rfl (fun K hK => ?_) (AllReadyH.cons (o := _) rfl (fun K hK => ?_) AllReadyH.nil)
  · (simp only [List.getElem_toArray, List.getElem_cons_zero, List.getElem_cons_succ, Region.wanted, if_true])
    go_simp
    (try simp only [List.getElem_toArray, List.getElem_cons_zero, List.getElem_cons_succ, Act.put, List.setIfInBounds_toArray, List.set_cons_zero, List.set_cons_succ])
    refine hK.out _ _ (hHeld.alloc _) (fun hHeld => ?_)
    clear hK K
    (refine wpAnyH_ready (rs := [9]) (by kernel_rfl) (by simp) ?_; refine AllReadyH.cons (o := _) rfl (fun K hK => ?_) AllReadyH.nil; (simp only [List.getElem_toArray, List.getElem_cons_zero, List.getElem_cons_succ, Region.wanted, if_true]))
    go_simp
    (try simp only [List.getElem_toArray, List.getElem_cons_zero, List.getElem_cons_succ, Act.put, List.setIfInBounds_toArray, List.set_cons_zero, List.set_cons_succ])
    refine hK.out _ _ (hHeld.alloc _) (fun hHeld => ?_)
    clear hK K
    have F0 : Has ((W.alloc (.cells #[.int .i64 0, .int .i64 0, .int .i64 0, .int .i64 0] 112)).alloc (.cells #[.int .i64 0, .int .i64 0, .int .i64 0, .int .i64 0] 112)).drew (w.heap.size + 1 + 1) [0, 0, 0, 0] 4 := (((Has.zero W 112).alloc (.cells #[.int .i64 0, .int .i64 0, .int .i64 0, .int .i64 0] 112)).drew).at hWs
    have T0 : Has ((W.alloc (.cells #[.int .i64 0, .int .i64 0, .int .i64 0, .int .i64 0] 112)).alloc (.cells #[.int .i64 0, .int .i64 0, .int .i64 0, .int .i64 0] 112)).drew (w.heap.size + 1 + 1 + 1) [0, 0, 0, 0] 4 := ((Has.zero2 W (.cells #[.int .i64 0, .int .i64 0, .int .i64 0, .int .i64 0] 112) 112).drew).at (by rw [hWs])
    have H0 := (((H.alloc (.cells #[.int .i64 0, .int .i64 0, .int .i64 0, .int .i64 0] 112)).alloc (.cells #[.int .i64 0, .int .i64 0, .int .i64 0, .int .i64 0] 112))).drew
    have Y0 := (((Z.alloc (.cells #[.int .i64 0, .int .i64 0, .int .i64 0, .int .i64 0] 112)).alloc (.cells #[.int .i64 0, .int .i64 0, .int .i64 0, .int .i64 0] 112))).drew
    have K0 := (((HB.out.alloc (.cells #[.int .i64 0, .int .i64 0, .int .i64 0, .int .i64 0] 112)).alloc (.cells #[.int .i64 0, .int .i64 0, .int .i64 0, .int .i64 0] 112))).drewN 1
    have hws := HB.out.size
    have F1 := F0.putAll (tub ns p) sA
    have T1 := T0.putOther (b' := w.heap.size + 1 + 1) 0 (ints (tub ns p)) (by omega)
    have H1 := H0.putOther (b' := w.heap.size + 1 + 1) 0 (ints (tub ns p)) (by omega)
    have Y1 := Y0.putOther (b' := w.heap.size + 1 + 1) 0 (ints (tub ns p)) (by omega)
    have K1 := K0.puts (b := w.heap.size + 1 + 1) (by omega) 0 (ints (tub ns p))
    have T2 := Lib.hid (T1.putAll (tub ns q) sB)
    have F2 := Lib.hid (F1.putOther (b' := w.heap.size + 1 + 1 + 1) 0 (ints (tub ns q)) (by omega))
    have H2 := Lib.hid (H1.putOther (b' := w.heap.size + 1 + 1 + 1) 0 (ints (tub ns q)) (by omega))
    have Y2 := Lib.hid (Y1.putOther (b' := w.heap.size + 1 + 1 + 1) 0 (ints (tub ns q)) (by omega))
    have K2 := Lib.hid (K1.puts (b := w.heap.size + 1 + 1 + 1) (by omega) 0 (ints (tub ns q)))
    have ti : (Try.prog.info? 112).map (·.size) = some 4 := by kernel_rfl
    have ft := F0.there
    have tt := T1.there
    clear H1 Y1 K1 T1 F1 F0 H0 Y0 K0
    (refine wpAnyH_ready (rs := [10]) (by kernel_rfl) (by simp) ?_; refine AllReadyH.cons (o := _) rfl (fun K hK => ?_) AllReadyH.nil; (simp only [List.getElem_toArray, List.getElem_cons_zero, List.getElem_cons_succ, Region.wanted, if_true]); refine wp_store_mid _ _ _ rfl _ _ (ints (tub ns p)).toArray rfl rfl (by simpa [ints_len, sA] using ft) (by simpa [ints_len, sA] using ti) (all_oneCell_toArray (ints_one _)) ?_; (try simp only [List.getElem_toArray, List.getElem_cons_zero, List.getElem_cons_succ, Act.put, List.setIfInBounds_toArray, List.set_cons_zero, List.set_cons_succ, List.toList_toArray]); refine hK.out _ _ (hHeld.putOther _ _ (by omega)) (fun hHeld => ?_); clear hK K)
    (refine wpAnyH_ready (rs := [11]) (by kernel_rfl) (by simp) ?_; refine AllReadyH.cons (o := _) rfl (fun K hK => ?_) AllReadyH.nil; (simp only [List.getElem_toArray, List.getElem_cons_zero, List.getElem_cons_succ, Region.wanted, if_true]); refine wp_store_mid _ _ _ rfl _ _ (ints (tub ns q)).toArray rfl rfl (by simpa [ints_len, sB] using tt) (by simpa [ints_len, sB] using ti) (all_oneCell_toArray (ints_one _)) ?_; (try simp only [List.getElem_toArray, List.getElem_cons_zero, List.getElem_cons_succ, Act.put, List.setIfInBounds_toArray, List.set_cons_zero, List.set_cons_succ, List.toList_toArray]); refine hK.out _ _ (hHeld.putOther _ _ (by omega)) (fun hHeld => ?_); clear hK K)
    refine wpAnyH_done (by kernel_rfl) ?_ _
    clear hHeld ft tt H HB Z T0
    obtain ⟨FB, hFB⟩ : ∃ FB, FB = w.heap.size + 1 + 1 := ⟨_, rfl⟩
    obtain ⟨TB, hTB⟩ : ∃ TB, TB = w.heap.size + 1 + 1 + 1 := ⟨_, rfl⟩
    go_wp2_with (first | (refine load_has rfl 112 _ rfl _ rfl ?_ 4 ?_ _ Try.underlying112 rfl ?_ ?_; rotate_left; (· (repeat (first | (with_reducible assumption) | ((with_reducible refine Has.box _ _ ?_ ?_) <;> (first | assumption | decide)) | (with_reducible refine Has.alloc ?_ _) | ((with_reducible refine Has.putOther ?_ _ _ ?_); rotate_left; omega; skip) | ((with_reducible refine Has.below ?_ ?_); rotate_left; assumption)))); (· kernel_rfl)) | (refine load_has rfl 112 _ rfl _ rfl ?_ 4 ?_ _ Try.underlying112 rfl ?_ ?_; rotate_left; (· exact F2.out); (· kernel_rfl)))
    refine (top_any (tub ns p) _ sA vp).mono ?_
    rintro e w3 ⟨rfl, b3⟩
    have F5 := F2.out.below b3
    have F6 := T2.out.below b3
    have H4 := H2.out.below b3
    have Z4 := Y2.out.below b3
    have HB4 := Lib.hid (K2.out.call b3)
    clear F2 T2 H2 Y2 K2 b3
    rw [← hFB] at F5
    rw [← hTB] at F6
    have hFT : FB ≠ TB := by omega
    have hF0 : w.heap.size + 1 + 1 ≤ FB := by omega
    have hT0 : w.heap.size + 1 + 1 ≤ TB := by omega
    rw [← hTB, ← hFB]
    clear hFB hTB hWs
    have FP := Lib.hid (fun k hk => fromK_facts sA vp k hk)
    have FQ := Lib.hid (fun k hk => toK_facts sB vq (topC (tub ns p)) HM.out.color k hk)
    have HC := Lib.hid (And.intro HM.out.hm HM.out.hq4)
    go_wp2_with fail
    go_loopw [27] (fun z wr => ∃ k : Nat, k ≤ m ∧ z = .int .i64 k ∧ Has wr FB (fromK (tub ns p) k) 4 ∧ Has wr TB (toK (tub ns q) (topC (tub ns p)) k) 4 ∧ Has wr w.heap.size ns 24 ∧ Has wr (w.heap.size + 1) z24 24 ∧ Hid (Kept w wr)) (fun z _ => m - (intOf z).toNat)
    case atStart => exact ⟨0, by omega, rfl, F5, F6, H4, Z4, HB4⟩
    case round =>
      obtain ⟨k, hk, rfl, G9, G10, GH, GZ, GB⟩ := hrel
      clear F5 F6 H4 Z4 HB4
      by_cases h : k < m
      · have hki : (k : Int) < (m : Int) := by omega
        have fA := FP.out k (by have := HC.out; omega)
        have fB := FQ.out k (by have := HC.out; omega)
        have hlA : 0 < lay (fromK (tub ns p) k) := by have := HC.out; omega
        have hlB : lay (toK (tub ns q) (topC (tub ns p)) k) < 4 := by have := HC.out; omega
        have tA : (takeT (fromK (tub ns p) k)).length = 4 := by unfold takeT; rw [List.length_set]; exact fA.2.2
        have tB : (putT (toK (tub ns q) (topC (tub ns p)) k) (topC (tub ns p))).length = 4 := by unfold putT; rw [List.length_set]; exact fB.2.2
        have hiZ : (Try.prog.info? 112).map (·.size) = some 4 := by kernel_rfl
        have hiA : (Try.prog.info? 112).map (·.size) = some (ints (fromK (tub ns p) k)).length := by rw [ints_len, fA.2.2]; exact hiZ
        have hiB : (Try.prog.info? 112).map (·.size) = some (ints (toK (tub ns q) (topC (tub ns p)) k)).length := by rw [ints_len, fB.2.2]; exact hiZ
        have G9 := G9.drew
        have G10 := G10.drew
        have GH := GH.drew
        have GZ := GZ.drew
        have GB := GB.out.drewN 1
        go_wp2_with fail
        refine wp_region_held_drew (S := fun w' => True) (by kernel_rfl) trivial (fun hHeld => ?_)
        (refine wpAnyH_take (i := 3) (v := ?_) rfl (by kernel_rfl) (by kernel_rfl) (by kernel_rfl) (fun _ _ _ h => h) (Or.inl ⟨by rfl, ?_⟩) hHeld ?_; rotate_left; (· (intro w' hSw; go_simp; try with_reducible rfl)); (try simp only [List.getElem_toArray, List.getElem_cons_zero, List.getElem_cons_succ, Act.put, List.setIfInBounds_toArray, List.set_cons_zero, List.set_cons_succ]))
        refine wpAnyH_ready (rs := [0, 2]) (by kernel_rfl) (by simp) ?_
        refine AllReadyH.cons (o := _) rfl (fun K hK => ?_) (AllReadyH.cons (o := _) rfl (fun K hK => ?_) AllReadyH.nil)
        · (simp only [List.getElem_toArray, List.getElem_cons_zero, List.getElem_cons_succ, Region.wanted, if_true])
          refine wp_load_mid _ _ rfl _ _ rfl (ints (fromK (tub ns p) k)) _ G9.holds.range Try.underlying112 rfl hiA ?_
          (try simp only [List.getElem_toArray, List.getElem_cons_zero, List.getElem_cons_succ, Act.put, List.setIfInBounds_toArray, List.set_cons_zero, List.set_cons_succ])
          refine hK.out _ _ trivial (fun hHeld => ?_)
          clear hK K
          refine wpAnyH_ready (rs := [1, 2]) (by kernel_rfl) (by simp) ?_
          refine AllReadyH.cons (o := _) rfl (fun K hK => ?_) (AllReadyH.cons (o := _) rfl (fun K hK => ?_) AllReadyH.nil)
          · (simp only [List.getElem_toArray, List.getElem_cons_zero, List.getElem_cons_succ, Region.wanted, if_true])
            go_simp
            refine (take_any (fromK (tub ns p) k) _ fA.2.2 fA.2.1 hlA).mono ?_
            rintro e u1 ⟨rfl, d1⟩
            have G9 := G9.below d1
            have G10 := G10.below d1
            have GH := GH.below d1
            have GZ := GZ.below d1
            have GB := GB.call d1
            clear d1
            dsimp only
            (try simp only [List.getElem_toArray, List.getElem_cons_zero, List.getElem_cons_succ, Act.put, List.setIfInBounds_toArray, List.set_cons_zero, List.set_cons_succ])
            refine hK.out _ _ trivial (fun hHeld => ?_)
            clear hK K
            (refine wpAnyH_ready (rs := [2]) (by kernel_rfl) (by simp) ?_; refine AllReadyH.cons (o := _) rfl (fun K hK => ?_) AllReadyH.nil; (simp only [List.getElem_toArray, List.getElem_cons_zero, List.getElem_cons_succ, Region.wanted, if_true]))
            refine wp_load_mid _ _ rfl _ _ rfl (ints (toK (tub ns q) (topC (tub ns p)) k)) _ G10.holds.range Try.underlying112 rfl hiB ?_
            (try simp only [List.getElem_toArray, List.getElem_cons_zero, List.getElem_cons_succ, Act.put, List.setIfInBounds_toArray, List.set_cons_zero, List.set_cons_succ])
            refine hK.out _ _ trivial (fun hHeld => ?_)
            clear hK K
            (refine wpAnyH_ready (rs := [4]) (by kernel_rfl) (by simp) ?_; refine AllReadyH.cons (o := _) rfl (fun K hK => ?_) AllReadyH.nil; (simp only [List.getElem_toArray, List.getElem_cons_zero, List.getElem_cons_succ, Region.wanted, if_true]))
            go_simp
            refine (put_any (toK (tub ns q) (topC (tub ns p)) k) (topC (tub ns p)) _ fB.2.2 fB.2.1 hlB).mono ?_
            rintro e u2 ⟨rfl, d2⟩
            have G9 := G9.below d2
            have G10 := G10.below d2
            have GH := GH.below d2
            have GZ := GZ.below d2
            have GB := GB.call d2
            clear d2
            dsimp only
            (try simp only [List.getElem_toArray, List.getElem_cons_zero, List.getElem_cons_succ, Act.put, List.setIfInBounds_toArray, List.set_cons_zero, List.set_cons_succ])
            refine hK.out _ _ trivial (fun hHeld => ?_)
            clear hK K
            (refine wpAnyH_ready (rs := [5]) (by kernel_rfl) (by simp) ?_; refine AllReadyH.cons (o := _) rfl (fun K hK => ?_) AllReadyH.nil; (simp only [List.getElem_toArray, List.getElem_cons_zero, List.getElem_cons_succ, Region.wanted, if_true]))
            refine wp_store_mid _ _ _ rfl _ _ (ints (takeT (fromK (tub ns p) k))).toArray rfl rfl (by simpa [ints_len, tA] using G9.there) (by simpa [ints_len, tA] using hiZ) (all_oneCell_toArray (ints_one _)) ?_
            (try simp only [List.getElem_toArray, List.getElem_cons_zero, List.getElem_cons_succ, Act.put, List.setIfInBounds_toArray, List.set_cons_zero, List.set_cons_succ, List.toList_toArray])
            have G10 := G10.putOther (b' := FB) 0 (ints (takeT (fromK (tub ns p) k))) (by omega)
            have GH := GH.putOther (b' := FB) 0 (ints (takeT (fromK (tub ns p) k))) (by omega)
            have GZ := GZ.putOther (b' := FB) 0 (ints (takeT (fromK (tub ns p) k))) (by omega)
            have GB := GB.puts (b := FB) (by omega) 0 (ints (takeT (fromK (tub ns p) k)))
            have G9 := G9.putAll (takeT (fromK (tub ns p) k)) tA
            refine hK.out _ _ trivial (fun hHeld => ?_)
            clear hK K
            (refine wpAnyH_ready (rs := [6]) (by kernel_rfl) (by simp) ?_; refine AllReadyH.cons (o := _) rfl (fun K hK => ?_) AllReadyH.nil; (simp only [List.getElem_toArray, List.getElem_cons_zero, List.getElem_cons_succ, Region.wanted, if_true]))
            refine wp_store_mid _ _ _ rfl _ _ (ints (putT (toK (tub ns q) (topC (tub ns p)) k) (topC (tub ns p)))).toArray rfl rfl (by simpa [ints_len, tB] using G10.there) (by simpa [ints_len, tB] using hiZ) (all_oneCell_toArray (ints_one _)) ?_
            (try simp only [List.getElem_toArray, List.getElem_cons_zero, List.getElem_cons_succ, Act.put, List.setIfInBounds_toArray, List.set_cons_zero, List.set_cons_succ, List.toList_toArray])
            have G9 := G9.putOther (b' := TB) 0 (ints (putT (toK (tub ns q) (topC (tub ns p)) k) (topC (tub ns p)))) (by omega)
            have GH := GH.putOther (b' := TB) 0 (ints (putT (toK (tub ns q) (topC (tub ns p)) k) (topC (tub ns p)))) (by omega)
            have GZ := GZ.putOther (b' := TB) 0 (ints (putT (toK (tub ns q) (topC (tub ns p)) k) (topC (tub ns p)))) (by omega)
            have GB := GB.puts (b := TB) (by omega) 0 (ints (putT (toK (tub ns q) (topC (tub ns p)) k) (topC (tub ns p))))
            have G10 := G10.putAll (putT (toK (tub ns q) (topC (tub ns p)) k) (topC (tub ns p))) tB
            refine hK.out _ _ trivial (fun hHeld => ?_)
            clear hK K
            refine wpAnyH_done (by kernel_rfl) ?_ _
            have R9 := Lib.hid G9
            have R10 := Lib.hid G10
            have RH := Lib.hid GH
            have RZ := Lib.hid GZ
            have RB := Lib.hid GB
            clear G9 G10 GH GZ GB hHeld hiA hiB hiZ
            go_wp2_with fail
            go_roundw
            case rel => exact ⟨k + 1, by omega, by go_num, R9.out, R10.out, RH.out, RZ.out, RB⟩
            case measure => simp [intOf]; omega
          · (simp only [List.getElem_toArray, List.getElem_cons_zero, List.getElem_cons_succ, Region.wanted, if_true])
            refine wp_load_mid _ _ rfl _ _ rfl (ints (toK (tub ns q) (topC (tub ns p)) k)) _ G10.holds.range Try.underlying112 rfl hiB ?_
            (try simp only [List.getElem_toArray, List.getElem_cons_zero, List.getElem_cons_succ, Act.put, List.setIfInBounds_toArray, List.set_cons_zero, List.set_cons_succ])
            refine hK.out _ _ trivial (fun hHeld => ?_)
            clear hK K
            (refine wpAnyH_ready (rs := [1]) (by kernel_rfl) (by simp) ?_; refine AllReadyH.cons (o := _) rfl (fun K hK => ?_) AllReadyH.nil; (simp only [List.getElem_toArray, List.getElem_cons_zero, List.getElem_cons_succ, Region.wanted, if_true]))
            go_simp
            refine (take_any (fromK (tub ns p) k) _ fA.2.2 fA.2.1 hlA).mono ?_
            rintro e u3 ⟨rfl, d3⟩
            have G9 := G9.below d3
            have G10 := G10.below d3
            have GH := GH.below d3
            have GZ := GZ.below d3
            have GB := GB.call d3
            clear d3
            dsimp only
            (try simp only [List.getElem_toArray, List.getElem_cons_zero, List.getElem_cons_succ, Act.put, List.setIfInBounds_toArray, List.set_cons_zero, List.set_cons_succ])
            refine hK.out _ _ trivial (fun hHeld => ?_)
            clear hK K
            (refine wpAnyH_ready (rs := [4]) (by kernel_rfl) (by simp) ?_; refine AllReadyH.cons (o := _) rfl (fun K hK => ?_) AllReadyH.nil; (simp only [List.getElem_toArray, List.getElem_cons_zero, List.getElem_cons_succ, Region.wanted, if_true]))
            go_simp
            refine (put_any (toK (tub ns q) (topC (tub ns p)) k) (topC (tub ns p)) _ fB.2.2 fB.2.1 hlB).mono ?_
            rintro e u4 ⟨rfl, d4⟩
            have G9 := G9.below d4
            have G10 := G10.below d4
            have GH := GH.below d4
            have GZ := GZ.below d4
            have GB := GB.call d4
            clear d4
            dsimp only
            (try simp only [List.getElem_toArray, List.getElem_cons_zero, List.getElem_cons_succ, Act.put, List.setIfInBounds_toArray, List.set_cons_zero, List.set_cons_succ])
            refine hK.out _ _ trivial (fun hHeld => ?_)
            clear hK K
            (refine wpAnyH_ready (rs := [5]) (by kernel_rfl) (by simp) ?_; refine AllReadyH.cons (o := _) rfl (fun K hK => ?_) AllReadyH.nil; (simp only [List.getElem_toArray, List.getElem_cons_zero, List.getElem_cons_succ, Region.wanted, if_true]))
            refine wp_store_mid _ _ _ rfl _ _ (ints (takeT (fromK (tub ns p) k))).toArray rfl rfl (by simpa [ints_len, tA] using G9.there) (by simpa [ints_len, tA] using hiZ) (all_oneCell_toArray (ints_one _)) ?_
            (try simp only [List.getElem_toArray, List.getElem_cons_zero, List.getElem_cons_succ, Act.put, List.setIfInBounds_toArray, List.set_cons_zero, List.set_cons_succ, List.toList_toArray])
            have G10 := G10.putOther (b' := FB) 0 (ints (takeT (fromK (tub ns p) k))) (by omega)
            have GH := GH.putOther (b' := FB) 0 (ints (takeT (fromK (tub ns p) k))) (by omega)
            have GZ := GZ.putOther (b' := FB) 0 (ints (takeT (fromK (tub ns p) k))) (by omega)
            have GB := GB.puts (b := FB) (by omega) 0 (ints (takeT (fromK (tub ns p) k)))
            have G9 := G9.putAll (takeT (fromK (tub ns p) k)) tA
            refine hK.out _ _ trivial (fun hHeld => ?_)
            clear hK K
            (refine wpAnyH_ready (rs := [6]) (by kernel_rfl) (by simp) ?_; refine AllReadyH.cons (o := _) rfl (fun K hK => ?_) AllReadyH.nil; (simp only [List.getElem_toArray, List.getElem_cons_zero, List.getElem_cons_succ, Region.wanted, if_true]))
            refine wp_store_mid _ _ _ rfl _ _ (ints (putT (toK (tub ns q) (topC (tub ns p)) k) (topC (tub ns p)))).toArray rfl rfl (by simpa [ints_len, tB] using G10.there) (by simpa [ints_len, tB] using hiZ) (all_oneCell_toArray (ints_one _)) ?_
            (try simp only [List.getElem_toArray, List.getElem_cons_zero, List.getElem_cons_succ, Act.put, List.setIfInBounds_toArray, List.set_cons_zero, List.set_cons_succ, List.toList_toArray])
            have G9 := G9.putOther (b' := TB) 0 (ints (putT (toK (tub ns q) (topC (tub ns p)) k) (topC (tub ns p)))) (by omega)
            have GH := GH.putOther (b' := TB) 0 (ints (putT (toK (tub ns q) (topC (tub ns p)) k) (topC (tub ns p)))) (by omega)
            have GZ := GZ.putOther (b' := TB) 0 (ints (putT (toK (tub ns q) (topC (tub ns p)) k) (topC (tub ns p)))) (by omega)
            have GB := GB.puts (b := TB) (by omega) 0 (ints (putT (toK (tub ns q) (topC (tub ns p)) k) (topC (tub ns p))))
            have G10 := G10.putAll (putT (toK (tub ns q) (topC (tub ns p)) k) (topC (tub ns p))) tB
            refine hK.out _ _ trivial (fun hHeld => ?_)
            clear hK K
            refine wpAnyH_done (by kernel_rfl) ?_ _
            have R9 := Lib.hid G9
            have R10 := Lib.hid G10
            have RH := Lib.hid GH
            have RZ := Lib.hid GZ
            have RB := Lib.hid GB
            clear G9 G10 GH GZ GB hHeld hiA hiB hiZ
            go_wp2_with fail
            go_roundw
            case rel => exact ⟨k + 1, by omega, by go_num, R9.out, R10.out, RH.out, RZ.out, RB⟩
            case measure => simp [intOf]; omega
        · (simp only [List.getElem_toArray, List.getElem_cons_zero, List.getElem_cons_succ, Region.wanted, if_true])
          refine wp_load_mid _ _ rfl _ _ rfl (ints (toK (tub ns q) (topC (tub ns p)) k)) _ G10.holds.range Try.underlying112 rfl hiB ?_
          (try simp only [List.getElem_toArray, List.getElem_cons_zero, List.getElem_cons_succ, Act.put, List.setIfInBounds_toArray, List.set_cons_zero, List.set_cons_succ])
          refine hK.out _ _ trivial (fun hHeld => ?_)
          clear hK K
          (refine wpAnyH_ready (rs := [0]) (by kernel_rfl) (by simp) ?_; refine AllReadyH.cons (o := _) rfl (fun K hK => ?_) AllReadyH.nil; (simp only [List.getElem_toArray, List.getElem_cons_zero, List.getElem_cons_succ, Region.wanted, if_true]))
          refine wp_load_mid _ _ rfl _ _ rfl (ints (fromK (tub ns p) k)) _ G9.holds.range Try.underlying112 rfl hiA ?_
          (try simp only [List.getElem_toArray, List.getElem_cons_zero, List.getElem_cons_succ, Act.put, List.setIfInBounds_toArray, List.set_cons_zero, List.set_cons_succ])
          refine hK.out _ _ trivial (fun hHeld => ?_)
          clear hK K
          (refine wpAnyH_ready (rs := [1]) (by kernel_rfl) (by simp) ?_; refine AllReadyH.cons (o := _) rfl (fun K hK => ?_) AllReadyH.nil; (simp only [List.getElem_toArray, List.getElem_cons_zero, List.getElem_cons_succ, Region.wanted, if_true]))
          go_simp
          refine (take_any (fromK (tub ns p) k) _ fA.2.2 fA.2.1 hlA).mono ?_
          rintro e u5 ⟨rfl, d5⟩
          have G9 := G9.below d5
          have G10 := G10.below d5
          have GH := GH.below d5
          have GZ := GZ.below d5
          have GB := GB.call d5
          clear d5
          dsimp only
          (try simp only [List.getElem_toArray, List.getElem_cons_zero, List.getElem_cons_succ, Act.put, List.setIfInBounds_toArray, List.set_cons_zero, List.set_cons_succ])
          refine hK.out _ _ trivial (fun hHeld => ?_)
          clear hK K
          (refine wpAnyH_ready (rs := [4]) (by kernel_rfl) (by simp) ?_; refine AllReadyH.cons (o := _) rfl (fun K hK => ?_) AllReadyH.nil; (simp only [List.getElem_toArray, List.getElem_cons_zero, List.getElem_cons_succ, Region.wanted, if_true]))
          go_simp
          refine (put_any (toK (tub ns q) (topC (tub ns p)) k) (topC (tub ns p)) _ fB.2.2 fB.2.1 hlB).mono ?_
          rintro e u6 ⟨rfl, d6⟩
          have G9 := G9.below d6
          have G10 := G10.below d6
          have GH := GH.below d6
          have GZ := GZ.below d6
          have GB := GB.call d6
          clear d6
          dsimp only
          (try simp only [List.getElem_toArray, List.getElem_cons_zero, List.getElem_cons_succ, Act.put, List.setIfInBounds_toArray, List.set_cons_zero, List.set_cons_succ])
          refine hK.out _ _ trivial (fun hHeld => ?_)
          clear hK K
          (refine wpAnyH_ready (rs := [5]) (by kernel_rfl) (by simp) ?_; refine AllReadyH.cons (o := _) rfl (fun K hK => ?_) AllReadyH.nil; (simp only [List.getElem_toArray, List.getElem_cons_zero, List.getElem_cons_succ, Region.wanted, if_true]))
          refine wp_store_mid _ _ _ rfl _ _ (ints (takeT (fromK (tub ns p) k))).toArray rfl rfl (by simpa [ints_len, tA] using G9.there) (by simpa [ints_len, tA] using hiZ) (all_oneCell_toArray (ints_one _)) ?_
          (try simp only [List.getElem_toArray, List.getElem_cons_zero, List.getElem_cons_succ, Act.put, List.setIfInBounds_toArray, List.set_cons_zero, List.set_cons_succ, List.toList_toArray])
          have G10 := G10.putOther (b' := FB) 0 (ints (takeT (fromK (tub ns p) k))) (by omega)
          have GH := GH.putOther (b' := FB) 0 (ints (takeT (fromK (tub ns p) k))) (by omega)
          have GZ := GZ.putOther (b' := FB) 0 (ints (takeT (fromK (tub ns p) k))) (by omega)
          have GB := GB.puts (b := FB) (by omega) 0 (ints (takeT (fromK (tub ns p) k)))
          have G9 := G9.putAll (takeT (fromK (tub ns p) k)) tA
          refine hK.out _ _ trivial (fun hHeld => ?_)
          clear hK K
          (refine wpAnyH_ready (rs := [6]) (by kernel_rfl) (by simp) ?_; refine AllReadyH.cons (o := _) rfl (fun K hK => ?_) AllReadyH.nil; (simp only [List.getElem_toArray, List.getElem_cons_zero, List.getElem_cons_succ, Region.wanted, if_true]))
          refine wp_store_mid _ _ _ rfl _ _ (ints (putT (toK (tub ns q) (topC (tub ns p)) k) (topC (tub ns p)))).toArray rfl rfl (by simpa [ints_len, tB] using G10.there) (by simpa [ints_len, tB] using hiZ) (all_oneCell_toArray (ints_one _)) ?_
          (try simp only [List.getElem_toArray, List.getElem_cons_zero, List.getElem_cons_succ, Act.put, List.setIfInBounds_toArray, List.set_cons_zero, List.set_cons_succ, List.toList_toArray])
          have G9 := G9.putOther (b' := TB) 0 (ints (putT (toK (tub ns q) (topC (tub ns p)) k) (topC (tub ns p)))) (by omega)
          have GH := GH.putOther (b' := TB) 0 (ints (putT (toK (tub ns q) (topC (tub ns p)) k) (topC (tub ns p)))) (by omega)
          have GZ := GZ.putOther (b' := TB) 0 (ints (putT (toK (tub ns q) (topC (tub ns p)) k) (topC (tub ns p)))) (by omega)
          have GB := GB.puts (b := TB) (by omega) 0 (ints (putT (toK (tub ns q) (topC (tub ns p)) k) (topC (tub ns p))))
          have G10 := G10.putAll (putT (toK (tub ns q) (topC (tub ns p)) k) (topC (tub ns p))) tB
          refine hK.out _ _ trivial (fun hHeld => ?_)
          clear hK K
          refine wpAnyH_done (by kernel_rfl) ?_ _
          have R9 := Lib.hid G9
          have R10 := Lib.hid G10
          have RH := Lib.hid GH
          have RZ := Lib.hid GZ
          have RB := Lib.hid GB
          clear G9 G10 GH GZ GB hHeld hiA hiB hiZ
          go_wp2_with fail
          go_roundw
          case rel => exact ⟨k + 1, by omega, by go_num, R9.out, R10.out, RH.out, RZ.out, RB⟩
          case measure => simp [intOf]; omega
      · obtain rfl : k = m := by omega
        have fA := FP.out k (by have := HC.out; omega)
        have fB := FQ.out k (by have := HC.out; omega)
        have hiZ : (Try.prog.info? 112).map (·.size) = some 4 := by kernel_rfl
        have hiY : (Try.prog.info? 22).map (·.size) = some 4 := by kernel_rfl
        have hiA : (Try.prog.info? 112).map (·.size) = some (ints (fromK (tub ns p) k)).length := by rw [ints_len, fA.2.2]; exact hiZ
        have hiB : (Try.prog.info? 112).map (·.size) = some (ints (toK (tub ns q) (topC (tub ns p)) k)).length := by rw [ints_len, fB.2.2]; exact hiZ
        have G11 := GH.drew.putTub p hp (fromK (tub ns p) k) fA.2.2
        have G12 := G11.putTub q hq (toK (tub ns q) (topC (tub ns p)) k) fB.2.2
        have hl := G12.len
        have t1 := GH.drew.holds.thereSub (p * 4) 4 (by rw [ints_len, GH.len]; omega)
        have t2 := G11.holds.thereSub (q * 4) 4 (by rw [ints_len, G11.len]; omega)
        have Y1 := (GZ.drew.putOther (b' := w.heap.size) (p * 4) (ints (fromK (tub ns p) k)) (by omega)).putOther (b' := w.heap.size) (q * 4) (ints (toK (tub ns q) (topC (tub ns p)) k)) (by omega)
        have S1 := Lib.hid (Y1.putAll _ hl)
        have S2 := Lib.hid ((((GB.out.drewN 1).puts (b := w.heap.size) (Nat.le_refl _) (p * 4) (ints (fromK (tub ns p) k))).puts (b := w.heap.size) (Nat.le_refl _) (q * 4) (ints (toK (tub ns q) (topC (tub ns p)) k))).puts (b := w.heap.size + 1) (by omega) 0 (ints (moveT ns p q k)))
        have hE : two ns p q (fromK (tub ns p) k) (toK (tub ns q) (topC (tub ns p)) k) = moveT ns p q k := rfl
        have S3 := Lib.hid (show Has _ (w.heap.size + 1) (moveT ns p q k) 24 from S1.out)
        clear S1
        go_wp2_with fail
        refine wp_region_held_drew (S := fun w' => Has w' FB (fromK (tub ns p) k) 4 ∧ Has w' TB (toK (tub ns q) (topC (tub ns p)) k) 4) (by kernel_rfl) ⟨G9.drew, G10.drew⟩ (fun hHeld => ?_)
        (refine wpAnyH_take (i := 0) (v := ?_) rfl (by kernel_rfl) (by kernel_rfl) (by kernel_rfl) (fun _ _ _ h => h) (Or.inl ⟨by rfl, ?_⟩) hHeld ?_; rotate_left; (· (intro w' hSw; go_simp; try with_reducible rfl)); (try simp only [List.getElem_toArray, List.getElem_cons_zero, List.getElem_cons_succ, Act.put, List.setIfInBounds_toArray, List.set_cons_zero, List.set_cons_succ])); (refine wpAnyH_take (i := 1) (v := ?_) rfl (by kernel_rfl) (by kernel_rfl) (by kernel_rfl) (fun _ _ _ h => h) (Or.inl ⟨by rfl, ?_⟩) hHeld ?_; rotate_left; (· (intro w' hSw; go_simp; try with_reducible rfl)); (try simp only [List.getElem_toArray, List.getElem_cons_zero, List.getElem_cons_succ, Act.put, List.setIfInBounds_toArray, List.set_cons_zero, List.set_cons_succ])); (refine wpAnyH_take (i := 4) (v := ?_) rfl (by kernel_rfl) (by kernel_rfl) (by kernel_rfl) (fun _ _ _ h => h) (Or.inl ⟨by rfl, ?_⟩) hHeld ?_; rotate_left; (· (intro w' hSw; go_simp; try with_reducible rfl)); (try simp only [List.getElem_toArray, List.getElem_cons_zero, List.getElem_cons_succ, Act.put, List.setIfInBounds_toArray, List.set_cons_zero, List.set_cons_succ])); (refine wpAnyH_take (i := 7) (v := ?_) rfl (by kernel_rfl) (by kernel_rfl) (by kernel_rfl) (fun _ _ _ h => h) (Or.inl ⟨by rfl, ?_⟩) hHeld ?_; rotate_left; (· (intro w' hSw; go_simp; try with_reducible rfl)); (try simp only [List.getElem_toArray, List.getElem_cons_zero, List.getElem_cons_succ, Act.put, List.setIfInBounds_toArray, List.set_cons_zero, List.set_cons_succ]))
        (refine wpAnyH_take (i := 2) (v := _) rfl (by kernel_rfl) (by kernel_rfl) (by kernel_rfl) (fun _ _ _ h => h) (yieldsIf_load_mid (by rfl) 112 _ rfl _ _ rfl (ints (fromK (tub ns p) k)) _ (fun w' hSw => hSw.1.holds.range) Try.underlying112 rfl (hiA)) hHeld ?_; (try simp only [List.getElem_toArray, List.getElem_cons_zero, List.getElem_cons_succ, Act.put, List.setIfInBounds_toArray, List.set_cons_zero, List.set_cons_succ]))
        (refine wpAnyH_take (i := 3) (v := _) rfl (by kernel_rfl) (by kernel_rfl) (by kernel_rfl) (fun _ _ _ h => h) (yieldsIf_load_mid (by rfl) 112 _ rfl _ _ rfl (ints (toK (tub ns q) (topC (tub ns p)) k)) _ (fun w' hSw => hSw.2.holds.range) Try.underlying112 rfl (hiB)) hHeld ?_; (try simp only [List.getElem_toArray, List.getElem_cons_zero, List.getElem_cons_succ, Act.put, List.setIfInBounds_toArray, List.set_cons_zero, List.set_cons_succ]))
        (refine wpAnyH_take (i := 5) (v := ?_) rfl (by kernel_rfl) (by kernel_rfl) (by kernel_rfl) (fun _ _ _ h => h) (Or.inl ⟨by rfl, ?_⟩) hHeld ?_; rotate_left; (· (intro w' hSw; go_simp; try with_reducible rfl)); (try simp only [List.getElem_toArray, List.getElem_cons_zero, List.getElem_cons_succ, Act.put, List.setIfInBounds_toArray, List.set_cons_zero, List.set_cons_succ]))
        (refine wpAnyH_ready (rs := [6]) (by kernel_rfl) (by simp) ?_; refine AllReadyH.cons (o := _) rfl (fun K hK => ?_) AllReadyH.nil; (simp only [List.getElem_toArray, List.getElem_cons_zero, List.getElem_cons_succ, Region.wanted, if_true]); refine wp_store_mid _ _ _ rfl _ _ (ints (fromK (tub ns p) k)).toArray rfl rfl (by simpa [ints_len, fA.2.2] using t1) (by simpa [ints_len, fA.2.2] using hiY) (all_oneCell_toArray (ints_one _)) ?_; (try simp only [List.getElem_toArray, List.getElem_cons_zero, List.getElem_cons_succ, Act.put, List.setIfInBounds_toArray, List.set_cons_zero, List.set_cons_succ, List.toList_toArray]); refine hK.out _ _ (⟨hHeld.1.putOther _ _ (by omega), hHeld.2.putOther _ _ (by omega)⟩) (fun hHeld => ?_); clear hK K)
        (refine wpAnyH_take (i := 8) (v := ?_) rfl (by kernel_rfl) (by kernel_rfl) (by kernel_rfl) (fun _ _ _ h => h) (Or.inl ⟨by rfl, ?_⟩) hHeld ?_; rotate_left; (· (intro w' hSw; go_simp; try with_reducible rfl)); (try simp only [List.getElem_toArray, List.getElem_cons_zero, List.getElem_cons_succ, Act.put, List.setIfInBounds_toArray, List.set_cons_zero, List.set_cons_succ]))
        (refine wpAnyH_ready (rs := [9]) (by kernel_rfl) (by simp) ?_; refine AllReadyH.cons (o := _) rfl (fun K hK => ?_) AllReadyH.nil; (simp only [List.getElem_toArray, List.getElem_cons_zero, List.getElem_cons_succ, Region.wanted, if_true]); refine wp_store_mid _ _ _ rfl _ _ (ints (toK (tub ns q) (topC (tub ns p)) k)).toArray rfl rfl (by simpa [ints_len, fB.2.2] using t2) (by simpa [ints_len, fB.2.2] using hiY) (all_oneCell_toArray (ints_one _)) ?_; (try simp only [List.getElem_toArray, List.getElem_cons_zero, List.getElem_cons_succ, Act.put, List.setIfInBounds_toArray, List.set_cons_zero, List.set_cons_succ, List.toList_toArray]); refine hK.out _ _ (⟨hHeld.1.putOther _ _ (by omega), hHeld.2.putOther _ _ (by omega)⟩) (fun hHeld => ?_); clear hK K)
        refine wpAnyH_done (by kernel_rfl) ?_ _
        clear G9 G10 GH GZ GB hHeld hiA hiB hiZ hiY G11 t1 t2
        go_wp2_with (first | (refine load_has rfl 30 _ rfl _ rfl ?_ 24 ?_ _ Try.underlying30 rfl ?_ ?_; rotate_left; (· (repeat (first | (with_reducible assumption) | ((with_reducible refine Has.box _ _ ?_ ?_) <;> (first | assumption | decide)) | (with_reducible refine Has.alloc ?_ _) | ((with_reducible refine Has.putOther ?_ _ _ ?_); rotate_left; omega; skip) | ((with_reducible refine Has.below ?_ ?_); rotate_left; assumption)))); (· kernel_rfl)) | (refine store_at rfl 30 _ _ rfl _ _ rfl rfl ?_ 24 ?_ ?_ ?_ ?_; rotate_left; (· (repeat (first | (with_reducible assumption) | ((with_reducible refine Has.box _ _ ?_ ?_) <;> (first | assumption | decide)) | (with_reducible refine Has.alloc ?_ _) | ((with_reducible refine Has.putOther ?_ _ _ ?_); rotate_left; omega; skip) | ((with_reducible refine Has.below ?_ ?_); rotate_left; assumption)))); (· (first | assumption | rfl)); (· kernel_rfl)))
        exact bodyPost_ret (v := .agg (ints (moveT ns p q k)).toArray) (res_has (P := Try.prog) rfl _ _ (w.heap.size + 1) (moveT ns p q k) 24 _ rfl S3.out Try.underlying30 rfl (by kernel_rfl)) rfl ⟨rfl, S2.out⟩
  · (simp only [List.getElem_toArray, List.getElem_cons_zero, List.getElem_cons_succ, Region.wanted, if_true])
    go_simp
    (try simp only [List.getElem_toArray, List.getElem_cons_zero, List.getElem_cons_succ, Act.put, List.setIfInBounds_toArray, List.set_cons_zero, List.set_cons_succ])
    refine hK.out _ _ (hHeld.alloc _) (fun hHeld => ?_)
    clear hK K
    (refine wpAnyH_ready (rs := [8]) (by kernel_rfl) (by simp) ?_; refine AllReadyH.cons (o := _) rfl (fun K hK => ?_) AllReadyH.nil; (simp only [List.getElem_toArray, List.getElem_cons_zero, List.getElem_cons_succ, Region.wanted, if_true]))
    go_simp
    (try simp only [List.getElem_toArray, List.getElem_cons_zero, List.getElem_cons_succ, Act.put, List.setIfInBounds_toArray, List.set_cons_zero, List.set_cons_succ])
    refine hK.out _ _ (hHeld.alloc _) (fun hHeld => ?_)
    clear hK K
    have T0 : Has ((W.alloc (.cells #[.int .i64 0, .int .i64 0, .int .i64 0, .int .i64 0] 112)).alloc (.cells #[.int .i64 0, .int .i64 0, .int .i64 0, .int .i64 0] 112)).drew (w.heap.size + 1 + 1) [0, 0, 0, 0] 4 := (((Has.zero W 112).alloc (.cells #[.int .i64 0, .int .i64 0, .int .i64 0, .int .i64 0] 112)).drew).at hWs
    have F0 : Has ((W.alloc (.cells #[.int .i64 0, .int .i64 0, .int .i64 0, .int .i64 0] 112)).alloc (.cells #[.int .i64 0, .int .i64 0, .int .i64 0, .int .i64 0] 112)).drew (w.heap.size + 1 + 1 + 1) [0, 0, 0, 0] 4 := ((Has.zero2 W (.cells #[.int .i64 0, .int .i64 0, .int .i64 0, .int .i64 0] 112) 112).drew).at (by rw [hWs])
    have H0 := (((H.alloc (.cells #[.int .i64 0, .int .i64 0, .int .i64 0, .int .i64 0] 112)).alloc (.cells #[.int .i64 0, .int .i64 0, .int .i64 0, .int .i64 0] 112))).drew
    have Y0 := (((Z.alloc (.cells #[.int .i64 0, .int .i64 0, .int .i64 0, .int .i64 0] 112)).alloc (.cells #[.int .i64 0, .int .i64 0, .int .i64 0, .int .i64 0] 112))).drew
    have K0 := (((HB.out.alloc (.cells #[.int .i64 0, .int .i64 0, .int .i64 0, .int .i64 0] 112)).alloc (.cells #[.int .i64 0, .int .i64 0, .int .i64 0, .int .i64 0] 112))).drewN 1
    have hws := HB.out.size
    have F1 := F0.putAll (tub ns p) sA
    have T1 := T0.putOther (b' := w.heap.size + 1 + 1 + 1) 0 (ints (tub ns p)) (by omega)
    have H1 := H0.putOther (b' := w.heap.size + 1 + 1 + 1) 0 (ints (tub ns p)) (by omega)
    have Y1 := Y0.putOther (b' := w.heap.size + 1 + 1 + 1) 0 (ints (tub ns p)) (by omega)
    have K1 := K0.puts (b := w.heap.size + 1 + 1 + 1) (by omega) 0 (ints (tub ns p))
    have T2 := Lib.hid (T1.putAll (tub ns q) sB)
    have F2 := Lib.hid (F1.putOther (b' := w.heap.size + 1 + 1) 0 (ints (tub ns q)) (by omega))
    have H2 := Lib.hid (H1.putOther (b' := w.heap.size + 1 + 1) 0 (ints (tub ns q)) (by omega))
    have Y2 := Lib.hid (Y1.putOther (b' := w.heap.size + 1 + 1) 0 (ints (tub ns q)) (by omega))
    have K2 := Lib.hid (K1.puts (b := w.heap.size + 1 + 1) (by omega) 0 (ints (tub ns q)))
    have ti : (Try.prog.info? 112).map (·.size) = some 4 := by kernel_rfl
    have ft := F0.there
    have tt := T1.there
    clear H1 Y1 K1 T1 F1 F0 H0 Y0 K0
    (refine wpAnyH_ready (rs := [10]) (by kernel_rfl) (by simp) ?_; refine AllReadyH.cons (o := _) rfl (fun K hK => ?_) AllReadyH.nil; (simp only [List.getElem_toArray, List.getElem_cons_zero, List.getElem_cons_succ, Region.wanted, if_true]); refine wp_store_mid _ _ _ rfl _ _ (ints (tub ns p)).toArray rfl rfl (by simpa [ints_len, sA] using ft) (by simpa [ints_len, sA] using ti) (all_oneCell_toArray (ints_one _)) ?_; (try simp only [List.getElem_toArray, List.getElem_cons_zero, List.getElem_cons_succ, Act.put, List.setIfInBounds_toArray, List.set_cons_zero, List.set_cons_succ, List.toList_toArray]); refine hK.out _ _ (hHeld.putOther _ _ (by omega)) (fun hHeld => ?_); clear hK K)
    (refine wpAnyH_ready (rs := [11]) (by kernel_rfl) (by simp) ?_; refine AllReadyH.cons (o := _) rfl (fun K hK => ?_) AllReadyH.nil; (simp only [List.getElem_toArray, List.getElem_cons_zero, List.getElem_cons_succ, Region.wanted, if_true]); refine wp_store_mid _ _ _ rfl _ _ (ints (tub ns q)).toArray rfl rfl (by simpa [ints_len, sB] using tt) (by simpa [ints_len, sB] using ti) (all_oneCell_toArray (ints_one _)) ?_; (try simp only [List.getElem_toArray, List.getElem_cons_zero, List.getElem_cons_succ, Act.put, List.setIfInBounds_toArray, List.set_cons_zero, List.set_cons_succ, List.toList_toArray]); refine hK.out _ _ (hHeld.putOther _ _ (by omega)) (fun hHeld => ?_); clear hK K)
    refine wpAnyH_done (by kernel_rfl) ?_ _
    clear hHeld ft tt H HB Z T0
    obtain ⟨FB, hFB⟩ : ∃ FB, FB = w.heap.size + 1 + 1 + 1 := ⟨_, rfl⟩
    obtain ⟨TB, hTB⟩ : ∃ TB, TB = w.heap.size + 1 + 1 := ⟨_, rfl⟩
    go_wp2_with (first | (refine load_has rfl 112 _ rfl _ rfl ?_ 4 ?_ _ Try.underlying112 rfl ?_ ?_; rotate_left; (· (repeat (first | (with_reducible assumption) | ((with_reducible refine Has.box _ _ ?_ ?_) <;> (first | assumption | decide)) | (with_reducible refine Has.alloc ?_ _) | ((with_reducible refine Has.putOther ?_ _ _ ?_); rotate_left; omega; skip) | ((with_reducible refine Has.below ?_ ?_); rotate_left; assumption)))); (· kernel_rfl)) | (refine load_has rfl 112 _ rfl _ rfl ?_ 4 ?_ _ Try.underlying112 rfl ?_ ?_; rotate_left; (· exact F2.out); (· kernel_rfl)))
    refine (top_any (tub ns p) _ sA vp).mono ?_
    rintro e w3 ⟨rfl, b3⟩
    have F5 := F2.out.below b3
    have F6 := T2.out.below b3
    have H4 := H2.out.below b3
    have Z4 := Y2.out.below b3
    have HB4 := Lib.hid (K2.out.call b3)
    clear F2 T2 H2 Y2 K2 b3
    rw [← hFB] at F5
    rw [← hTB] at F6
    have hFT : FB ≠ TB := by omega
    have hF0 : w.heap.size + 1 + 1 ≤ FB := by omega
    have hT0 : w.heap.size + 1 + 1 ≤ TB := by omega
    rw [← hFB, ← hTB]
    clear hFB hTB hWs
    have FP := Lib.hid (fun k hk => fromK_facts sA vp k hk)
    have FQ := Lib.hid (fun k hk => toK_facts sB vq (topC (tub ns p)) HM.out.color k hk)
    have HC := Lib.hid (And.intro HM.out.hm HM.out.hq4)
    go_wp2_with fail
    go_loopw [27] (fun z wr => ∃ k : Nat, k ≤ m ∧ z = .int .i64 k ∧ Has wr FB (fromK (tub ns p) k) 4 ∧ Has wr TB (toK (tub ns q) (topC (tub ns p)) k) 4 ∧ Has wr w.heap.size ns 24 ∧ Has wr (w.heap.size + 1) z24 24 ∧ Hid (Kept w wr)) (fun z _ => m - (intOf z).toNat)
    case atStart => exact ⟨0, by omega, rfl, F5, F6, H4, Z4, HB4⟩
    case round =>
      obtain ⟨k, hk, rfl, G9, G10, GH, GZ, GB⟩ := hrel
      clear F5 F6 H4 Z4 HB4
      by_cases h : k < m
      · have hki : (k : Int) < (m : Int) := by omega
        have fA := FP.out k (by have := HC.out; omega)
        have fB := FQ.out k (by have := HC.out; omega)
        have hlA : 0 < lay (fromK (tub ns p) k) := by have := HC.out; omega
        have hlB : lay (toK (tub ns q) (topC (tub ns p)) k) < 4 := by have := HC.out; omega
        have tA : (takeT (fromK (tub ns p) k)).length = 4 := by unfold takeT; rw [List.length_set]; exact fA.2.2
        have tB : (putT (toK (tub ns q) (topC (tub ns p)) k) (topC (tub ns p))).length = 4 := by unfold putT; rw [List.length_set]; exact fB.2.2
        have hiZ : (Try.prog.info? 112).map (·.size) = some 4 := by kernel_rfl
        have hiA : (Try.prog.info? 112).map (·.size) = some (ints (fromK (tub ns p) k)).length := by rw [ints_len, fA.2.2]; exact hiZ
        have hiB : (Try.prog.info? 112).map (·.size) = some (ints (toK (tub ns q) (topC (tub ns p)) k)).length := by rw [ints_len, fB.2.2]; exact hiZ
        have G9 := G9.drew
        have G10 := G10.drew
        have GH := GH.drew
        have GZ := GZ.drew
        have GB := GB.out.drewN 1
        go_wp2_with fail
        refine wp_region_held_drew (S := fun w' => True) (by kernel_rfl) trivial (fun hHeld => ?_)
        (refine wpAnyH_take (i := 3) (v := ?_) rfl (by kernel_rfl) (by kernel_rfl) (by kernel_rfl) (fun _ _ _ h => h) (Or.inl ⟨by rfl, ?_⟩) hHeld ?_; rotate_left; (· (intro w' hSw; go_simp; try with_reducible rfl)); (try simp only [List.getElem_toArray, List.getElem_cons_zero, List.getElem_cons_succ, Act.put, List.setIfInBounds_toArray, List.set_cons_zero, List.set_cons_succ]))
        refine wpAnyH_ready (rs := [0, 2]) (by kernel_rfl) (by simp) ?_
        refine AllReadyH.cons (o := _) rfl (fun K hK => ?_) (AllReadyH.cons (o := _) rfl (fun K hK => ?_) AllReadyH.nil)
        · (simp only [List.getElem_toArray, List.getElem_cons_zero, List.getElem_cons_succ, Region.wanted, if_true])
          refine wp_load_mid _ _ rfl _ _ rfl (ints (fromK (tub ns p) k)) _ G9.holds.range Try.underlying112 rfl hiA ?_
          (try simp only [List.getElem_toArray, List.getElem_cons_zero, List.getElem_cons_succ, Act.put, List.setIfInBounds_toArray, List.set_cons_zero, List.set_cons_succ])
          refine hK.out _ _ trivial (fun hHeld => ?_)
          clear hK K
          refine wpAnyH_ready (rs := [1, 2]) (by kernel_rfl) (by simp) ?_
          refine AllReadyH.cons (o := _) rfl (fun K hK => ?_) (AllReadyH.cons (o := _) rfl (fun K hK => ?_) AllReadyH.nil)
          · (simp only [List.getElem_toArray, List.getElem_cons_zero, List.getElem_cons_succ, Region.wanted, if_true])
            go_simp
            refine (take_any (fromK (tub ns p) k) _ fA.2.2 fA.2.1 hlA).mono ?_
            rintro e u7 ⟨rfl, d7⟩
            have G9 := G9.below d7
            have G10 := G10.below d7
            have GH := GH.below d7
            have GZ := GZ.below d7
            have GB := GB.call d7
            clear d7
            dsimp only
            (try simp only [List.getElem_toArray, List.getElem_cons_zero, List.getElem_cons_succ, Act.put, List.setIfInBounds_toArray, List.set_cons_zero, List.set_cons_succ])
            refine hK.out _ _ trivial (fun hHeld => ?_)
            clear hK K
            (refine wpAnyH_ready (rs := [2]) (by kernel_rfl) (by simp) ?_; refine AllReadyH.cons (o := _) rfl (fun K hK => ?_) AllReadyH.nil; (simp only [List.getElem_toArray, List.getElem_cons_zero, List.getElem_cons_succ, Region.wanted, if_true]))
            refine wp_load_mid _ _ rfl _ _ rfl (ints (toK (tub ns q) (topC (tub ns p)) k)) _ G10.holds.range Try.underlying112 rfl hiB ?_
            (try simp only [List.getElem_toArray, List.getElem_cons_zero, List.getElem_cons_succ, Act.put, List.setIfInBounds_toArray, List.set_cons_zero, List.set_cons_succ])
            refine hK.out _ _ trivial (fun hHeld => ?_)
            clear hK K
            (refine wpAnyH_ready (rs := [4]) (by kernel_rfl) (by simp) ?_; refine AllReadyH.cons (o := _) rfl (fun K hK => ?_) AllReadyH.nil; (simp only [List.getElem_toArray, List.getElem_cons_zero, List.getElem_cons_succ, Region.wanted, if_true]))
            go_simp
            refine (put_any (toK (tub ns q) (topC (tub ns p)) k) (topC (tub ns p)) _ fB.2.2 fB.2.1 hlB).mono ?_
            rintro e u8 ⟨rfl, d8⟩
            have G9 := G9.below d8
            have G10 := G10.below d8
            have GH := GH.below d8
            have GZ := GZ.below d8
            have GB := GB.call d8
            clear d8
            dsimp only
            (try simp only [List.getElem_toArray, List.getElem_cons_zero, List.getElem_cons_succ, Act.put, List.setIfInBounds_toArray, List.set_cons_zero, List.set_cons_succ])
            refine hK.out _ _ trivial (fun hHeld => ?_)
            clear hK K
            (refine wpAnyH_ready (rs := [5]) (by kernel_rfl) (by simp) ?_; refine AllReadyH.cons (o := _) rfl (fun K hK => ?_) AllReadyH.nil; (simp only [List.getElem_toArray, List.getElem_cons_zero, List.getElem_cons_succ, Region.wanted, if_true]))
            refine wp_store_mid _ _ _ rfl _ _ (ints (takeT (fromK (tub ns p) k))).toArray rfl rfl (by simpa [ints_len, tA] using G9.there) (by simpa [ints_len, tA] using hiZ) (all_oneCell_toArray (ints_one _)) ?_
            (try simp only [List.getElem_toArray, List.getElem_cons_zero, List.getElem_cons_succ, Act.put, List.setIfInBounds_toArray, List.set_cons_zero, List.set_cons_succ, List.toList_toArray])
            have G10 := G10.putOther (b' := FB) 0 (ints (takeT (fromK (tub ns p) k))) (by omega)
            have GH := GH.putOther (b' := FB) 0 (ints (takeT (fromK (tub ns p) k))) (by omega)
            have GZ := GZ.putOther (b' := FB) 0 (ints (takeT (fromK (tub ns p) k))) (by omega)
            have GB := GB.puts (b := FB) (by omega) 0 (ints (takeT (fromK (tub ns p) k)))
            have G9 := G9.putAll (takeT (fromK (tub ns p) k)) tA
            refine hK.out _ _ trivial (fun hHeld => ?_)
            clear hK K
            (refine wpAnyH_ready (rs := [6]) (by kernel_rfl) (by simp) ?_; refine AllReadyH.cons (o := _) rfl (fun K hK => ?_) AllReadyH.nil; (simp only [List.getElem_toArray, List.getElem_cons_zero, List.getElem_cons_succ, Region.wanted, if_true]))
            refine wp_store_mid _ _ _ rfl _ _ (ints (putT (toK (tub ns q) (topC (tub ns p)) k) (topC (tub ns p)))).toArray rfl rfl (by simpa [ints_len, tB] using G10.there) (by simpa [ints_len, tB] using hiZ) (all_oneCell_toArray (ints_one _)) ?_
            (try simp only [List.getElem_toArray, List.getElem_cons_zero, List.getElem_cons_succ, Act.put, List.setIfInBounds_toArray, List.set_cons_zero, List.set_cons_succ, List.toList_toArray])
            have G9 := G9.putOther (b' := TB) 0 (ints (putT (toK (tub ns q) (topC (tub ns p)) k) (topC (tub ns p)))) (by omega)
            have GH := GH.putOther (b' := TB) 0 (ints (putT (toK (tub ns q) (topC (tub ns p)) k) (topC (tub ns p)))) (by omega)
            have GZ := GZ.putOther (b' := TB) 0 (ints (putT (toK (tub ns q) (topC (tub ns p)) k) (topC (tub ns p)))) (by omega)
            have GB := GB.puts (b := TB) (by omega) 0 (ints (putT (toK (tub ns q) (topC (tub ns p)) k) (topC (tub ns p))))
            have G10 := G10.putAll (putT (toK (tub ns q) (topC (tub ns p)) k) (topC (tub ns p))) tB
            refine hK.out _ _ trivial (fun hHeld => ?_)
            clear hK K
            refine wpAnyH_done (by kernel_rfl) ?_ _
            have R9 := Lib.hid G9
            have R10 := Lib.hid G10
            have RH := Lib.hid GH
            have RZ := Lib.hid GZ
            have RB := Lib.hid GB
            clear G9 G10 GH GZ GB hHeld hiA hiB hiZ
            go_wp2_with fail
            go_roundw
            case rel => exact ⟨k + 1, by omega, by go_num, R9.out, R10.out, RH.out, RZ.out, RB⟩
            case measure => simp [intOf]; omega
          · (simp only [List.getElem_toArray, List.getElem_cons_zero, List.getElem_cons_succ, Region.wanted, if_true])
            refine wp_load_mid _ _ rfl _ _ rfl (ints (toK (tub ns q) (topC (tub ns p)) k)) _ G10.holds.range Try.underlying112 rfl hiB ?_
            (try simp only [List.getElem_toArray, List.getElem_cons_zero, List.getElem_cons_succ, Act.put, List.setIfInBounds_toArray, List.set_cons_zero, List.set_cons_succ])
            refine hK.out _ _ trivial (fun hHeld => ?_)
            clear hK K
            (refine wpAnyH_ready (rs := [1]) (by kernel_rfl) (by simp) ?_; refine AllReadyH.cons (o := _) rfl (fun K hK => ?_) AllReadyH.nil; (simp only [List.getElem_toArray, List.getElem_cons_zero, List.getElem_cons_succ, Region.wanted, if_true]))
            go_simp
            refine (take_any (fromK (tub ns p) k) _ fA.2.2 fA.2.1 hlA).mono ?_
            rintro e u9 ⟨rfl, d9⟩
            have G9 := G9.below d9
            have G10 := G10.below d9
            have GH := GH.below d9
            have GZ := GZ.below d9
            have GB := GB.call d9
            clear d9
            dsimp only
            (try simp only [List.getElem_toArray, List.getElem_cons_zero, List.getElem_cons_succ, Act.put, List.setIfInBounds_toArray, List.set_cons_zero, List.set_cons_succ])
            refine hK.out _ _ trivial (fun hHeld => ?_)
            clear hK K
            (refine wpAnyH_ready (rs := [4]) (by kernel_rfl) (by simp) ?_; refine AllReadyH.cons (o := _) rfl (fun K hK => ?_) AllReadyH.nil; (simp only [List.getElem_toArray, List.getElem_cons_zero, List.getElem_cons_succ, Region.wanted, if_true]))
            go_simp
            refine (put_any (toK (tub ns q) (topC (tub ns p)) k) (topC (tub ns p)) _ fB.2.2 fB.2.1 hlB).mono ?_
            rintro e u10 ⟨rfl, d10⟩
            have G9 := G9.below d10
            have G10 := G10.below d10
            have GH := GH.below d10
            have GZ := GZ.below d10
            have GB := GB.call d10
            clear d10
            dsimp only
            (try simp only [List.getElem_toArray, List.getElem_cons_zero, List.getElem_cons_succ, Act.put, List.setIfInBounds_toArray, List.set_cons_zero, List.set_cons_succ])
            refine hK.out _ _ trivial (fun hHeld => ?_)
            clear hK K
            (refine wpAnyH_ready (rs := [5]) (by kernel_rfl) (by simp) ?_; refine AllReadyH.cons (o := _) rfl (fun K hK => ?_) AllReadyH.nil; (simp only [List.getElem_toArray, List.getElem_cons_zero, List.getElem_cons_succ, Region.wanted, if_true]))
            refine wp_store_mid _ _ _ rfl _ _ (ints (takeT (fromK (tub ns p) k))).toArray rfl rfl (by simpa [ints_len, tA] using G9.there) (by simpa [ints_len, tA] using hiZ) (all_oneCell_toArray (ints_one _)) ?_
            (try simp only [List.getElem_toArray, List.getElem_cons_zero, List.getElem_cons_succ, Act.put, List.setIfInBounds_toArray, List.set_cons_zero, List.set_cons_succ, List.toList_toArray])
            have G10 := G10.putOther (b' := FB) 0 (ints (takeT (fromK (tub ns p) k))) (by omega)
            have GH := GH.putOther (b' := FB) 0 (ints (takeT (fromK (tub ns p) k))) (by omega)
            have GZ := GZ.putOther (b' := FB) 0 (ints (takeT (fromK (tub ns p) k))) (by omega)
            have GB := GB.puts (b := FB) (by omega) 0 (ints (takeT (fromK (tub ns p) k)))
            have G9 := G9.putAll (takeT (fromK (tub ns p) k)) tA
            refine hK.out _ _ trivial (fun hHeld => ?_)
            clear hK K
            (refine wpAnyH_ready (rs := [6]) (by kernel_rfl) (by simp) ?_; refine AllReadyH.cons (o := _) rfl (fun K hK => ?_) AllReadyH.nil; (simp only [List.getElem_toArray, List.getElem_cons_zero, List.getElem_cons_succ, Region.wanted, if_true]))
            refine wp_store_mid _ _ _ rfl _ _ (ints (putT (toK (tub ns q) (topC (tub ns p)) k) (topC (tub ns p)))).toArray rfl rfl (by simpa [ints_len, tB] using G10.there) (by simpa [ints_len, tB] using hiZ) (all_oneCell_toArray (ints_one _)) ?_
            (try simp only [List.getElem_toArray, List.getElem_cons_zero, List.getElem_cons_succ, Act.put, List.setIfInBounds_toArray, List.set_cons_zero, List.set_cons_succ, List.toList_toArray])
            have G9 := G9.putOther (b' := TB) 0 (ints (putT (toK (tub ns q) (topC (tub ns p)) k) (topC (tub ns p)))) (by omega)
            have GH := GH.putOther (b' := TB) 0 (ints (putT (toK (tub ns q) (topC (tub ns p)) k) (topC (tub ns p)))) (by omega)
            have GZ := GZ.putOther (b' := TB) 0 (ints (putT (toK (tub ns q) (topC (tub ns p)) k) (topC (tub ns p)))) (by omega)
            have GB := GB.puts (b := TB) (by omega) 0 (ints (putT (toK (tub ns q) (topC (tub ns p)) k) (topC (tub ns p))))
            have G10 := G10.putAll (putT (toK (tub ns q) (topC (tub ns p)) k) (topC (tub ns p))) tB
            refine hK.out _ _ trivial (fun hHeld => ?_)
            clear hK K
            refine wpAnyH_done (by kernel_rfl) ?_ _
            have R9 := Lib.hid G9
            have R10 := Lib.hid G10
            have RH := Lib.hid GH
            have RZ := Lib.hid GZ
            have RB := Lib.hid GB
            clear G9 G10 GH GZ GB hHeld hiA hiB hiZ
            go_wp2_with fail
            go_roundw
            case rel => exact ⟨k + 1, by omega, by go_num, R9.out, R10.out, RH.out, RZ.out, RB⟩
            case measure => simp [intOf]; omega
        · (simp only [List.getElem_toArray, List.getElem_cons_zero, List.getElem_cons_succ, Region.wanted, if_true])
          refine wp_load_mid _ _ rfl _ _ rfl (ints (toK (tub ns q) (topC (tub ns p)) k)) _ G10.holds.range Try.underlying112 rfl hiB ?_
          (try simp only [List.getElem_toArray, List.getElem_cons_zero, List.getElem_cons_succ, Act.put, List.setIfInBounds_toArray, List.set_cons_zero, List.set_cons_succ])
          refine hK.out _ _ trivial (fun hHeld => ?_)
          clear hK K
          (refine wpAnyH_ready (rs := [0]) (by kernel_rfl) (by simp) ?_; refine AllReadyH.cons (o := _) rfl (fun K hK => ?_) AllReadyH.nil; (simp only [List.getElem_toArray, List.getElem_cons_zero, List.getElem_cons_succ, Region.wanted, if_true]))
          refine wp_load_mid _ _ rfl _ _ rfl (ints (fromK (tub ns p) k)) _ G9.holds.range Try.underlying112 rfl hiA ?_
          (try simp only [List.getElem_toArray, List.getElem_cons_zero, List.getElem_cons_succ, Act.put, List.setIfInBounds_toArray, List.set_cons_zero, List.set_cons_succ])
          refine hK.out _ _ trivial (fun hHeld => ?_)
          clear hK K
          (refine wpAnyH_ready (rs := [1]) (by kernel_rfl) (by simp) ?_; refine AllReadyH.cons (o := _) rfl (fun K hK => ?_) AllReadyH.nil; (simp only [List.getElem_toArray, List.getElem_cons_zero, List.getElem_cons_succ, Region.wanted, if_true]))
          go_simp
          refine (take_any (fromK (tub ns p) k) _ fA.2.2 fA.2.1 hlA).mono ?_
          rintro e u11 ⟨rfl, d11⟩
          have G9 := G9.below d11
          have G10 := G10.below d11
          have GH := GH.below d11
          have GZ := GZ.below d11
          have GB := GB.call d11
          clear d11
          dsimp only
          (try simp only [List.getElem_toArray, List.getElem_cons_zero, List.getElem_cons_succ, Act.put, List.setIfInBounds_toArray, List.set_cons_zero, List.set_cons_succ])
          refine hK.out _ _ trivial (fun hHeld => ?_)
          clear hK K
          (refine wpAnyH_ready (rs := [4]) (by kernel_rfl) (by simp) ?_; refine AllReadyH.cons (o := _) rfl (fun K hK => ?_) AllReadyH.nil; (simp only [List.getElem_toArray, List.getElem_cons_zero, List.getElem_cons_succ, Region.wanted, if_true]))
          go_simp
          refine (put_any (toK (tub ns q) (topC (tub ns p)) k) (topC (tub ns p)) _ fB.2.2 fB.2.1 hlB).mono ?_
          rintro e u12 ⟨rfl, d12⟩
          have G9 := G9.below d12
          have G10 := G10.below d12
          have GH := GH.below d12
          have GZ := GZ.below d12
          have GB := GB.call d12
          clear d12
          dsimp only
          (try simp only [List.getElem_toArray, List.getElem_cons_zero, List.getElem_cons_succ, Act.put, List.setIfInBounds_toArray, List.set_cons_zero, List.set_cons_succ])
          refine hK.out _ _ trivial (fun hHeld => ?_)
          clear hK K
          (refine wpAnyH_ready (rs := [5]) (by kernel_rfl) (by simp) ?_; refine AllReadyH.cons (o := _) rfl (fun K hK => ?_) AllReadyH.nil; (simp only [List.getElem_toArray, List.getElem_cons_zero, List.getElem_cons_succ, Region.wanted, if_true]))
          refine wp_store_mid _ _ _ rfl _ _ (ints (takeT (fromK (tub ns p) k))).toArray rfl rfl (by simpa [ints_len, tA] using G9.there) (by simpa [ints_len, tA] using hiZ) (all_oneCell_toArray (ints_one _)) ?_
          (try simp only [List.getElem_toArray, List.getElem_cons_zero, List.getElem_cons_succ, Act.put, List.setIfInBounds_toArray, List.set_cons_zero, List.set_cons_succ, List.toList_toArray])
          have G10 := G10.putOther (b' := FB) 0 (ints (takeT (fromK (tub ns p) k))) (by omega)
          have GH := GH.putOther (b' := FB) 0 (ints (takeT (fromK (tub ns p) k))) (by omega)
          have GZ := GZ.putOther (b' := FB) 0 (ints (takeT (fromK (tub ns p) k))) (by omega)
          have GB := GB.puts (b := FB) (by omega) 0 (ints (takeT (fromK (tub ns p) k)))
          have G9 := G9.putAll (takeT (fromK (tub ns p) k)) tA
          refine hK.out _ _ trivial (fun hHeld => ?_)
          clear hK K
          (refine wpAnyH_ready (rs := [6]) (by kernel_rfl) (by simp) ?_; refine AllReadyH.cons (o := _) rfl (fun K hK => ?_) AllReadyH.nil; (simp only [List.getElem_toArray, List.getElem_cons_zero, List.getElem_cons_succ, Region.wanted, if_true]))
          refine wp_store_mid _ _ _ rfl _ _ (ints (putT (toK (tub ns q) (topC (tub ns p)) k) (topC (tub ns p)))).toArray rfl rfl (by simpa [ints_len, tB] using G10.there) (by simpa [ints_len, tB] using hiZ) (all_oneCell_toArray (ints_one _)) ?_
          (try simp only [List.getElem_toArray, List.getElem_cons_zero, List.getElem_cons_succ, Act.put, List.setIfInBounds_toArray, List.set_cons_zero, List.set_cons_succ, List.toList_toArray])
          have G9 := G9.putOther (b' := TB) 0 (ints (putT (toK (tub ns q) (topC (tub ns p)) k) (topC (tub ns p)))) (by omega)
          have GH := GH.putOther (b' := TB) 0 (ints (putT (toK (tub ns q) (topC (tub ns p)) k) (topC (tub ns p)))) (by omega)
          have GZ := GZ.putOther (b' := TB) 0 (ints (putT (toK (tub ns q) (topC (tub ns p)) k) (topC (tub ns p)))) (by omega)
          have GB := GB.puts (b := TB) (by omega) 0 (ints (putT (toK (tub ns q) (topC (tub ns p)) k) (topC (tub ns p))))
          have G10 := G10.putAll (putT (toK (tub ns q) (topC (tub ns p)) k) (topC (tub ns p))) tB
          refine hK.out _ _ trivial (fun hHeld => ?_)
          clear hK K
          refine wpAnyH_done (by kernel_rfl) ?_ _
          have R9 := Lib.hid G9
          have R10 := Lib.hid G10
          have RH := Lib.hid GH
          have RZ := Lib.hid GZ
          have RB := Lib.hid GB
          clear G9 G10 GH GZ GB hHeld hiA hiB hiZ
          go_wp2_with fail
          go_roundw
          case rel => exact ⟨k + 1, by omega, by go_num, R9.out, R10.out, RH.out, RZ.out, RB⟩
          case measure => simp [intOf]; omega
      · obtain rfl : k = m := by omega
        have fA := FP.out k (by have := HC.out; omega)
        have fB := FQ.out k (by have := HC.out; omega)
        have hiZ : (Try.prog.info? 112).map (·.size) = some 4 := by kernel_rfl
        have hiY : (Try.prog.info? 22).map (·.size) = some 4 := by kernel_rfl
        have hiA : (Try.prog.info? 112).map (·.size) = some (ints (fromK (tub ns p) k)).length := by rw [ints_len, fA.2.2]; exact hiZ
        have hiB : (Try.prog.info? 112).map (·.size) = some (ints (toK (tub ns q) (topC (tub ns p)) k)).length := by rw [ints_len, fB.2.2]; exact hiZ
        have G11 := GH.drew.putTub p hp (fromK (tub ns p) k) fA.2.2
        have G12 := G11.putTub q hq (toK (tub ns q) (topC (tub ns p)) k) fB.2.2
        have hl := G12.len
        have t1 := GH.drew.holds.thereSub (p * 4) 4 (by rw [ints_len, GH.len]; omega)
        have t2 := G11.holds.thereSub (q * 4) 4 (by rw [ints_len, G11.len]; omega)
        have Y1 := (GZ.drew.putOther (b' := w.heap.size) (p * 4) (ints (fromK (tub ns p) k)) (by omega)).putOther (b' := w.heap.size) (q * 4) (ints (toK (tub ns q) (topC (tub ns p)) k)) (by omega)
        have S1 := Lib.hid (Y1.putAll _ hl)
        have S2 := Lib.hid ((((GB.out.drewN 1).puts (b := w.heap.size) (Nat.le_refl _) (p * 4) (ints (fromK (tub ns p) k))).puts (b := w.heap.size) (Nat.le_refl _) (q * 4) (ints (toK (tub ns q) (topC (tub ns p)) k))).puts (b := w.heap.size + 1) (by omega) 0 (ints (moveT ns p q k)))
        have hE : two ns p q (fromK (tub ns p) k) (toK (tub ns q) (topC (tub ns p)) k) = moveT ns p q k := rfl
        have S3 := Lib.hid (show Has _ (w.heap.size + 1) (moveT ns p q k) 24 from S1.out)
        clear S1
        go_wp2_with fail
        refine wp_region_held_drew (S := fun w' => Has w' FB (fromK (tub ns p) k) 4 ∧ Has w' TB (toK (tub ns q) (topC (tub ns p)) k) 4) (by kernel_rfl) ⟨G9.drew, G10.drew⟩ (fun hHeld => ?_)
        (refine wpAnyH_take (i := 0) (v := ?_) rfl (by kernel_rfl) (by kernel_rfl) (by kernel_rfl) (fun _ _ _ h => h) (Or.inl ⟨by rfl, ?_⟩) hHeld ?_; rotate_left; (· (intro w' hSw; go_simp; try with_reducible rfl)); (try simp only [List.getElem_toArray, List.getElem_cons_zero, List.getElem_cons_succ, Act.put, List.setIfInBounds_toArray, List.set_cons_zero, List.set_cons_succ])); (refine wpAnyH_take (i := 1) (v := ?_) rfl (by kernel_rfl) (by kernel_rfl) (by kernel_rfl) (fun _ _ _ h => h) (Or.inl ⟨by rfl, ?_⟩) hHeld ?_; rotate_left; (· (intro w' hSw; go_simp; try with_reducible rfl)); (try simp only [List.getElem_toArray, List.getElem_cons_zero, List.getElem_cons_succ, Act.put, List.setIfInBounds_toArray, List.set_cons_zero, List.set_cons_succ])); (refine wpAnyH_take (i := 4) (v := ?_) rfl (by kernel_rfl) (by kernel_rfl) (by kernel_rfl) (fun _ _ _ h => h) (Or.inl ⟨by rfl, ?_⟩) hHeld ?_; rotate_left; (· (intro w' hSw; go_simp; try with_reducible rfl)); (try simp only [List.getElem_toArray, List.getElem_cons_zero, List.getElem_cons_succ, Act.put, List.setIfInBounds_toArray, List.set_cons_zero, List.set_cons_succ])); (refine wpAnyH_take (i := 7) (v := ?_) rfl (by kernel_rfl) (by kernel_rfl) (by kernel_rfl) (fun _ _ _ h => h) (Or.inl ⟨by rfl, ?_⟩) hHeld ?_; rotate_left; (· (intro w' hSw; go_simp; try with_reducible rfl)); (try simp only [List.getElem_toArray, List.getElem_cons_zero, List.getElem_cons_succ, Act.put, List.setIfInBounds_toArray, List.set_cons_zero, List.set_cons_succ]))
        (refine wpAnyH_take (i := 2) (v := _) rfl (by kernel_rfl) (by kernel_rfl) (by kernel_rfl) (fun _ _ _ h => h) (yieldsIf_load_mid (by rfl) 112 _ rfl _ _ rfl (ints (fromK (tub ns p) k)) _ (fun w' hSw => hSw.1.holds.range) Try.underlying112 rfl (hiA)) hHeld ?_; (try simp only [List.getElem_toArray, List.getElem_cons_zero, List.getElem_cons_succ, Act.put, List.setIfInBounds_toArray, List.set_cons_zero, List.set_cons_succ]))
        (refine wpAnyH_take (i := 3) (v := _) rfl (by kernel_rfl) (by kernel_rfl) (by kernel_rfl) (fun _ _ _ h => h) (yieldsIf_load_mid (by rfl) 112 _ rfl _ _ rfl (ints (toK (tub ns q) (topC (tub ns p)) k)) _ (fun w' hSw => hSw.2.holds.range) Try.underlying112 rfl (hiB)) hHeld ?_; (try simp only [List.getElem_toArray, List.getElem_cons_zero, List.getElem_cons_succ, Act.put, List.setIfInBounds_toArray, List.set_cons_zero, List.set_cons_succ]))
        (refine wpAnyH_take (i := 5) (v := ?_) rfl (by kernel_rfl) (by kernel_rfl) (by kernel_rfl) (fun _ _ _ h => h) (Or.inl ⟨by rfl, ?_⟩) hHeld ?_; rotate_left; (· (intro w' hSw; go_simp; try with_reducible rfl)); (try simp only [List.getElem_toArray, List.getElem_cons_zero, List.getElem_cons_succ, Act.put, List.setIfInBounds_toArray, List.set_cons_zero, List.set_cons_succ]))
        (refine wpAnyH_ready (rs := [6]) (by kernel_rfl) (by simp) ?_; refine AllReadyH.cons (o := _) rfl (fun K hK => ?_) AllReadyH.nil; (simp only [List.getElem_toArray, List.getElem_cons_zero, List.getElem_cons_succ, Region.wanted, if_true]); refine wp_store_mid _ _ _ rfl _ _ (ints (fromK (tub ns p) k)).toArray rfl rfl (by simpa [ints_len, fA.2.2] using t1) (by simpa [ints_len, fA.2.2] using hiY) (all_oneCell_toArray (ints_one _)) ?_; (try simp only [List.getElem_toArray, List.getElem_cons_zero, List.getElem_cons_succ, Act.put, List.setIfInBounds_toArray, List.set_cons_zero, List.set_cons_succ, List.toList_toArray]); refine hK.out _ _ (⟨hHeld.1.putOther _ _ (by omega), hHeld.2.putOther _ _ (by omega)⟩) (fun hHeld => ?_); clear hK K)
        (refine wpAnyH_take (i := 8) (v := ?_) rfl (by kernel_rfl) (by kernel_rfl) (by kernel_rfl) (fun _ _ _ h => h) (Or.inl ⟨by rfl, ?_⟩) hHeld ?_; rotate_left; (· (intro w' hSw; go_simp; try with_reducible rfl)); (try simp only [List.getElem_toArray, List.getElem_cons_zero, List.getElem_cons_succ, Act.put, List.setIfInBounds_toArray, List.set_cons_zero, List.set_cons_succ]))
        (refine wpAnyH_ready (rs := [9]) (by kernel_rfl) (by simp) ?_; refine AllReadyH.cons (o := _) rfl (fun K hK => ?_) AllReadyH.nil; (simp only [List.getElem_toArray, List.getElem_cons_zero, List.getElem_cons_succ, Region.wanted, if_true]); refine wp_store_mid _ _ _ rfl _ _ (ints (toK (tub ns q) (topC (tub ns p)) k)).toArray rfl rfl (by simpa [ints_len, fB.2.2] using t2) (by simpa [ints_len, fB.2.2] using hiY) (all_oneCell_toArray (ints_one _)) ?_; (try simp only [List.getElem_toArray, List.getElem_cons_zero, List.getElem_cons_succ, Act.put, List.setIfInBounds_toArray, List.set_cons_zero, List.set_cons_succ, List.toList_toArray]); refine hK.out _ _ (⟨hHeld.1.putOther _ _ (by omega), hHeld.2.putOther _ _ (by omega)⟩) (fun hHeld => ?_); clear hK K)
        refine wpAnyH_done (by kernel_rfl) ?_ _
        clear G9 G10 GH GZ GB hHeld hiA hiB hiZ hiY G11 t1 t2
        go_wp2_with (first | (refine load_has rfl 30 _ rfl _ rfl ?_ 24 ?_ _ Try.underlying30 rfl ?_ ?_; rotate_left; (· (repeat (first | (with_reducible assumption) | ((with_reducible refine Has.box _ _ ?_ ?_) <;> (first | assumption | decide)) | (with_reducible refine Has.alloc ?_ _) | ((with_reducible refine Has.putOther ?_ _ _ ?_); rotate_left; omega; skip) | ((with_reducible refine Has.below ?_ ?_); rotate_left; assumption)))); (· kernel_rfl)) | (refine store_at rfl 30 _ _ rfl _ _ rfl rfl ?_ 24 ?_ ?_ ?_ ?_; rotate_left; (· (repeat (first | (with_reducible assumption) | ((with_reducible refine Has.box _ _ ?_ ?_) <;> (first | assumption | decide)) | (with_reducible refine Has.alloc ?_ _) | ((with_reducible refine Has.putOther ?_ _ _ ?_); rotate_left; omega; skip) | ((with_reducible refine Has.below ?_ ?_); rotate_left; assumption)))); (· (first | assumption | rfl)); (· kernel_rfl)))
        exact bodyPost_ret (v := .agg (ints (moveT ns p q k)).toArray) (res_has (P := Try.prog) rfl _ _ (w.heap.size + 1) (moveT ns p q k) 24 _ rfl S3.out Try.underlying30 rfl (by kernel_rfl)) rfl ⟨rfl, S2.out⟩
end Go.Proofs.Ytalngdccjoafhab.base
end

section
namespace Go.Proofs.Ytalngdccjoafhab.base
open Go.ChangeShapes Go.WideShapes Go.ChangeAt Go.RowKit
set_option linter.unusedVariables false
set_option linter.unusedSimpArgs false

theorem toA_p {ns : List Int} {p q : Nat} (h : twoOk ns (p : Int) (q : Int) = true) : toA ns (p : Int) (q : Int) (p : Int) = tub ns p ∧ toA ns (p : Int) (q : Int) (q : Int) = tub ns q := by
  unfold toA; rw [if_pos h, if_pos h]; simp

set_option maxHeartbeats 6400000 in
set_option maxRecDepth 100000 in
theorem implPour (ns : List Int) (i j : Int) (w : World) (h24 : ns.length = 24) :
    Calls Try.prog 67 #[row ns, .int .i64 i, .int .i64 j] w fun e w' => e = .returned (.tuple #[.agg (ints (pourR ns i j)).toArray, .int .i64 (pourA ns i j), .bool (pourOk ns i j)]) ∧ Kept w w' := by
  have HB := Lib.hid (((kept_refl w).alloc (.cells (ints ns).toArray 30)).alloc (.cells #[.int .i64 0, .int .i64 0, .int .i64 0, .int .i64 0, .int .i64 0, .int .i64 0, .int .i64 0, .int .i64 0, .int .i64 0, .int .i64 0, .int .i64 0, .int .i64 0, .int .i64 0, .int .i64 0, .int .i64 0, .int .i64 0, .int .i64 0, .int .i64 0, .int .i64 0, .int .i64 0, .int .i64 0, .int .i64 0, .int .i64 0, .int .i64 0] 30))
  have H := (Has.box w 30 h24 (by omega)).alloc (.cells #[.int .i64 0, .int .i64 0, .int .i64 0, .int .i64 0, .int .i64 0, .int .i64 0, .int .i64 0, .int .i64 0, .int .i64 0, .int .i64 0, .int .i64 0, .int .i64 0, .int .i64 0, .int .i64 0, .int .i64 0, .int .i64 0, .int .i64 0, .int .i64 0, .int .i64 0, .int .i64 0, .int .i64 0, .int .i64 0, .int .i64 0, .int .i64 0] 30)
  have Z := (Has.zero24 (w.alloc (.cells (ints ns).toArray 30)) 30).at (size1 _ _)
  have hz : z24.length = 24 := rfl
  rw [row_ints]
  go_enter Try.func67, Try.ntmps67
  go_wp2_with (refine load_has rfl 30 _ rfl _ rfl ?_ 24 ?_ _ Try.underlying30 rfl ?_ ?_; rotate_left; (· (repeat (first | (with_reducible assumption) | ((with_reducible refine Has.box _ _ ?_ ?_) <;> (first | assumption | decide)) | (with_reducible refine Has.alloc ?_ _) | ((with_reducible refine Has.putOther ?_ _ _ ?_); rotate_left; omega; skip) | ((with_reducible refine Has.below ?_ ?_); rotate_left; assumption)))); (· kernel_rfl))
  refine (twoTubes_any ns i j _ h24).mono ?_
  rintro e w1 ⟨rfl, b1⟩
  have sA := toA_len h24 i j i (.inl rfl)
  have sB := toA_len h24 i j j (.inr rfl)
  have K1 := HB.out.call b1
  have hs1 : w.heap.size + 1 < w1.heap.size := (Z.below b1).lt
  obtain ⟨z1, z2, F1, F2, K2⟩ := twoNew w w1 K1 112 (toA ns i j i) (toA ns i j j) sA sB
  have H2 := ((((H.below b1).alloc (.cells #[.int .i64 0, .int .i64 0, .int .i64 0, .int .i64 0] 112)).alloc (.cells #[.int .i64 0, .int .i64 0, .int .i64 0, .int .i64 0] 112)).putOther (b' := w1.heap.size) 0 (ints (toA ns i j i)) (by omega)).putOther (b' := w1.heap.size + 1) 0 (ints (toA ns i j j)) (by omega)
  have Z2 := ((((Z.below b1).alloc (.cells #[.int .i64 0, .int .i64 0, .int .i64 0, .int .i64 0] 112)).alloc (.cells #[.int .i64 0, .int .i64 0, .int .i64 0, .int .i64 0] 112)).putOther (b' := w1.heap.size) 0 (ints (toA ns i j i)) (by omega)).putOther (b' := w1.heap.size + 1) 0 (ints (toA ns i j j)) (by omega)
  clear H Z HB b1 K1
  by_cases hR : twoOk ns i j = true
  · obtain ⟨hv, p, q, rfl, rfl, hp, hq, hne⟩ := twoOk_of hR
    rw [(toA_p hR).1, (toA_p hR).2] at *
    rw [hR]
    have HR := Lib.hid hR
    have vp := vR_tub hv p hp
    have vq := vR_tub hv q hq
    have hpi : (p : Int) < 6 := by omega
    have hp0 : (0 : Int) ≤ (p : Int) := by omega
    have hqi : (q : Int) < 6 := by omega
    have hq0 : (0 : Int) ≤ (q : Int) := by omega
    have HO := Lib.hid (show pourOk ns (p : Int) (q : Int) = decide (0 < canN (tub ns p) (tub ns q)) by unfold pourOk; rw [hR, Bool.true_and]; simp)
    have HV := Lib.hid hv
    have HB2 := Lib.hid K2
    clear hR hv K2
    go_wp2_with (first | (refine store_at rfl 112 _ _ rfl _ _ rfl rfl ?_ 4 ?_ ?_ ?_ ?_; rotate_left; (· (repeat (first | (with_reducible assumption) | ((with_reducible refine Has.box _ _ ?_ ?_) <;> (first | assumption | decide)) | (with_reducible refine Has.alloc ?_ _) | ((with_reducible refine Has.putOther ?_ _ _ ?_); rotate_left; omega; skip) | ((with_reducible refine Has.below ?_ ?_); rotate_left; assumption)))); (· (first | assumption | rfl)); (· kernel_rfl)) | (refine load_has rfl 112 _ rfl _ rfl ?_ 4 ?_ _ Try.underlying112 rfl ?_ ?_; rotate_left; (· (repeat (first | (with_reducible assumption) | ((with_reducible refine Has.box _ _ ?_ ?_) <;> (first | assumption | decide)) | (with_reducible refine Has.alloc ?_ _) | ((with_reducible refine Has.putOther ?_ _ _ ?_); rotate_left; omega; skip) | ((with_reducible refine Has.below ?_ ?_); rotate_left; assumption)))); (· kernel_rfl)))
    refine (pourable_any (tub ns p) (tub ns q) _ sA sB vp vq).mono ?_
    rintro e w2 ⟨rfl, b2⟩
    have F3 := F1.below b2
    have F4 := F2.below b2
    have H3 := H2.below b2
    have Z3 := Z2.below b2
    have HB3 := Lib.hid (HB2.out.call b2)
    clear z1 z2 F1 F2 H2 Z2 HB2 b2
    by_cases hm : canN (tub ns p) (tub ns q) = 0
    · have O := Lib.hid (show pourOk ns (p : Int) (q : Int) = false by rw [HO.out, hm]; rfl)
      rw [hm]
      have S1 := Lib.hid (Z3.putAll z24 rfl)
      have S2 := Lib.hid (HB3.out.puts (b := w.heap.size + 1) (by omega) 0 (ints z24))
      clear hm
      go_wp2_with (first | (refine build_law rfl 30 rfl _ buildRack ?_) | (refine store_at rfl 112 _ _ rfl _ _ rfl rfl ?_ 4 ?_ ?_ ?_ ?_; rotate_left; (· (repeat (first | (with_reducible assumption) | ((with_reducible refine Has.box _ _ ?_ ?_) <;> (first | assumption | decide)) | (with_reducible refine Has.alloc ?_ _) | ((with_reducible refine Has.putOther ?_ _ _ ?_); rotate_left; omega; skip) | ((with_reducible refine Has.below ?_ ?_); rotate_left; assumption)))); (· (first | assumption | rfl)); (· kernel_rfl)) | (refine load_has rfl 112 _ rfl _ rfl ?_ 4 ?_ _ Try.underlying112 rfl ?_ ?_; rotate_left; (· (repeat (first | (with_reducible assumption) | ((with_reducible refine Has.box _ _ ?_ ?_) <;> (first | assumption | decide)) | (with_reducible refine Has.alloc ?_ _) | ((with_reducible refine Has.putOther ?_ _ _ ?_); rotate_left; omega; skip) | ((with_reducible refine Has.below ?_ ?_); rotate_left; assumption)))); (· kernel_rfl)) | (refine store_at rfl 30 _ _ rfl _ _ rfl rfl ?_ 24 ?_ ?_ ?_ ?_; rotate_left; (· (repeat (first | (with_reducible assumption) | ((with_reducible refine Has.box _ _ ?_ ?_) <;> (first | assumption | decide)) | (with_reducible refine Has.alloc ?_ _) | ((with_reducible refine Has.putOther ?_ _ _ ?_); rotate_left; omega; skip) | ((with_reducible refine Has.below ?_ ?_); rotate_left; assumption)))); (· (first | assumption | rfl)); (· kernel_rfl)))
      exact bodyPost_ret (res_has2 rfl _ _ (w.heap.size + 1) z24 24 _ (.int .i64 0) (.bool false) rfl rfl rfl S1.out Try.underlying30 rfl (by kernel_rfl)) rfl ⟨by unfold pourR pourA; rw [O.out]; rfl, S2.out⟩
    · have hpos : 0 < canN (tub ns p) (tub ns q) := by omega
      have O := Lib.hid (show pourOk ns (p : Int) (q : Int) = true by rw [HO.out, decide_eq_true hpos])
      have V := Lib.hid (show pourR ns (p : Int) (q : Int) = pourT ns p q by unfold pourR; rw [if_pos O.out]; simp)
      have VA := Lib.hid (show pourA ns (p : Int) (q : Int) = (canN (tub ns p) (tub ns q) : Nat) by unfold pourA; rw [if_pos O.out]; simp)
      have MO := pour_moveOk h24 HV.out hp hq hne hpos
      have n0 : (((canN (tub ns p) (tub ns q) : Nat) : Int) == 0) = false := by simp; omega
      have hT := MO.len24
      clear hm
      go_wp2_with (refine load_has rfl 30 _ rfl _ rfl ?_ 24 ?_ _ Try.underlying30 rfl ?_ ?_; rotate_left; (· (repeat (first | (with_reducible assumption) | ((with_reducible refine Has.box _ _ ?_ ?_) <;> (first | assumption | decide)) | (with_reducible refine Has.alloc ?_ _) | ((with_reducible refine Has.putOther ?_ _ _ ?_); rotate_left; omega; skip) | ((with_reducible refine Has.below ?_ ?_); rotate_left; assumption)))); (· kernel_rfl))
      refine (move_any ns p q _ _ MO).mono ?_
      rintro e w3 ⟨rfl, b3⟩
      rw [← pourT_move] at hT ⊢
      have Z4 := Z3.below b3
      have S1 := Lib.hid (Z4.putAll (pourT ns p q) hT)
      have S2 := Lib.hid ((HB3.out.call b3).puts (b := w.heap.size + 1) (by omega) 0 (ints (pourT ns p q)))
      clear F3 F4 H3 Z3 HB3 b3 MO
      go_wp2_with (refine store_at rfl 30 _ _ rfl _ _ rfl rfl ?_ 24 ?_ ?_ ?_ ?_; rotate_left; (· (repeat (first | (with_reducible assumption) | ((with_reducible refine Has.box _ _ ?_ ?_) <;> (first | assumption | decide)) | (with_reducible refine Has.alloc ?_ _) | ((with_reducible refine Has.putOther ?_ _ _ ?_); rotate_left; omega; skip) | ((with_reducible refine Has.below ?_ ?_); rotate_left; assumption)))); (· (first | assumption | rfl)); (· kernel_rfl))
      exact bodyPost_ret (res_has2 rfl _ _ (w.heap.size + 1) _ 24 _ (.int .i64 (canN (tub ns p) (tub ns q) : Nat)) (.bool true) rfl rfl rfl S1.out Try.underlying30 rfl (by kernel_rfl)) rfl ⟨by rw [V.out, VA.out, O.out], S2.out⟩
  · have hf : twoOk ns i j = false := by simpa using hR
    have O := Lib.hid (pourOk_not hf)
    rw [hf]
    have S1 := Lib.hid (Z2.putAll z24 rfl)
    have S2 := Lib.hid (K2.puts (b := w.heap.size + 1) (by omega) 0 (ints z24))
    clear hf hR K2 H2
    generalize toA ns i j i = A at *
    generalize toA ns i j j = B at *
    go_wp2_with (first | (refine build_law rfl 30 rfl _ buildRack ?_) | (refine store_at rfl 112 _ _ rfl _ _ rfl rfl ?_ 4 ?_ ?_ ?_ ?_; rotate_left; (· (repeat (first | (with_reducible assumption) | ((with_reducible refine Has.box _ _ ?_ ?_) <;> (first | assumption | decide)) | (with_reducible refine Has.alloc ?_ _) | ((with_reducible refine Has.putOther ?_ _ _ ?_); rotate_left; omega; skip) | ((with_reducible refine Has.below ?_ ?_); rotate_left; assumption)))); (· (first | assumption | rfl)); (· kernel_rfl)) | (refine load_has rfl 112 _ rfl _ rfl ?_ 4 ?_ _ Try.underlying112 rfl ?_ ?_; rotate_left; (· (repeat (first | (with_reducible assumption) | ((with_reducible refine Has.box _ _ ?_ ?_) <;> (first | assumption | decide)) | (with_reducible refine Has.alloc ?_ _) | ((with_reducible refine Has.putOther ?_ _ _ ?_); rotate_left; omega; skip) | ((with_reducible refine Has.below ?_ ?_); rotate_left; assumption)))); (· kernel_rfl)) | (refine store_at rfl 30 _ _ rfl _ _ rfl rfl ?_ 24 ?_ ?_ ?_ ?_; rotate_left; (· (repeat (first | (with_reducible assumption) | ((with_reducible refine Has.box _ _ ?_ ?_) <;> (first | assumption | decide)) | (with_reducible refine Has.alloc ?_ _) | ((with_reducible refine Has.putOther ?_ _ _ ?_); rotate_left; omega; skip) | ((with_reducible refine Has.below ?_ ?_); rotate_left; assumption)))); (· (first | assumption | rfl)); (· kernel_rfl)))
    exact bodyPost_ret (res_has2 rfl _ _ (w.heap.size + 1) z24 24 _ (.int .i64 0) (.bool false) rfl rfl rfl S1.out Try.underlying30 rfl (by kernel_rfl)) rfl ⟨by unfold pourR pourA; rw [O.out]; rfl, S2.out⟩
end Go.Proofs.Ytalngdccjoafhab.base
end
