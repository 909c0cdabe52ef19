/-
  Games on the program's side, walked: the value of a rack from those behind one turn.
-/
/-
  Games on the program's side, walked: the values behind one turn, and the value of a game.
-/
import Derived.Test.YtnldnjnnjfbhnabGmG
import Derived.Test.YtnldnjnnjfbhnabGmR

section
namespace Go.Proofs.Ytnldnjnnjfbhnab.base
open Go.ChangeShapes Go.WideShapes Go.ChangeAt Go.RowKit
set_option linter.unusedVariables false
set_option linter.unusedSimpArgs false

section
variable {P : Program} {ops : Array Oper} {rest : List Oper} {op : Oper} {a : Act} {w : World} {Q : Exit → Act → World → Prop}
theorem slice_loG (hw : Region.wanted op (yielded ops a.tmps) = true) (T : TypeId) (x y : Operand) (ho : op.op = .slice T x (some y) none none) (u p v : Value) (hx : a.eval x = u) (hy : a.eval y = p)
    (hq : (Instr.sliceAt T u (some p) none none).run P w = .ok v w)
    (h : wpList P ops Q rest (a.put op.dst v) w) : wpList P ops Q (op :: rest) a w :=
  wpList_wanted hw fun _ hK => by
    unfold Oper.wp execOp
    simp only [ho, hx, hy, Option.map_some, Option.map_none, Sem.run_bind, hq, Result.andThen_ok, Sem.run_pure]
    exact hK _ _ h
end
theorem elemG : Try.prog.underlying 83 = some (.slice (Try.prog.elem 83)) := by kernel_rfl
theorem sizeG (w : World) : (sizeOf (Try.prog.elem 83)).run Try.prog w = .ok 26 w := by kernel_rfl
theorem run_loG (g len cap : Nat) (hq : 1 ≤ len) : ∃ o2, (cap = 1 ∨ o2 = 26) ∧ ∀ w : World, (Instr.sliceAt 83 (.slice (some ⟨g, 0, none⟩) len cap) (some (.int .i64 1)) none none).run Try.prog w = .ok (.slice (some ⟨g, o2, none⟩) (len - 1) (cap - 1)) w := by
  by_cases h : cap = 1
  · refine ⟨0, Or.inl h, fun w => ?_⟩
    rw [run_sliceAt_slice w 83 _ _ _ _ elemG, run_slice_l w 83 (some ⟨g, 0, none⟩) len cap elemG .i64 (1 : Int) (by omega) (by omega), sizeG]
    simp only [Result.andThen_ok, sliced, Option.map_some]
    have e : cap = Int.toNat 1 := by rw [h]; rfl
    rw [if_pos e]; rfl
  · refine ⟨26, Or.inr rfl, fun w => ?_⟩
    rw [run_sliceAt_slice w 83 _ _ _ _ elemG, run_slice_l w 83 (some ⟨g, 0, none⟩) len cap elemG .i64 (1 : Int) (by omega) (by omega), sizeG]
    simp only [Result.andThen_ok, sliced, Option.map_some]
    have e : ¬ cap = Int.toNat 1 := by intro hh; exact h (by rw [hh]; rfl)
    rw [if_neg e]; rfl
theorem Gr.room {w : World} {b n g cap m : Nat} {t : TypeId} {ls : List (List Int)} (h : Gr w b t m (.slice (some ⟨g, 0, Option.none⟩) n cap) ls) : n ≤ cap ∧ cap ≤ maxLen := by
  rcases h.row.2 with ⟨h0, _⟩ | ⟨g', cap', cur, hv, _, _, hc, hm, _⟩
  · cases h0
  · injection hv with _ e2 e3; omega

set_option maxHeartbeats 3200000 in
set_option maxRecDepth 100000 in
theorem best_any (F : Nat) (no : Int) (pt : List Int → Nat → Int) (PF : Pts F pt) (gm : Gam pt no) (ns : List Int) (G : GR ns) (mb : Nat) (K : List (List Int)) (V : List Int → Int) (w : World) (M : VM w mb K V) :
    Calls Try.prog 58 #[.agg (gmC F no).toArray, row ns, .map (some mb)] w fun e w' => e = .returned (.int .i64 (gbest pt no V ns)) ∧ Kept w w' := by
  have h24 := G.1
  have HB := Lib.hid (((kept_refl w).alloc (.cells (gmC F no).toArray 54)).alloc (.cells (ints ns).toArray 27))
  have BG := (Bk.box w (gmC F no) 54).alloc (.cells (ints ns).toArray 27)
  have H := (Has.box (w.alloc (.cells (gmC F no).toArray 54)) 27 h24 (by omega)).at (size1 _ _)
  have MM := Lib.hid ((M.alloc (.cells (gmC F no).toArray 54)).alloc (.cells (ints ns).toArray 27))
  have KT := Lib.hid (fun W => turnsOf_any ns W G)
  have KW := Lib.hid (fun k hk W (hm : VM W mb K V) => worth_any F no pt PF gm ns k G hk mb K V W hm)
  have T26 := Lib.hid (fun k => trn_len h24 k)
  have VB := Lib.hid (show ∀ k, -18 ≤ pt ns k - V (nxR ns k) ∧ pt ns k - V (nxR ns k) ≤ 18 from fun k => by have := gm.pt6 ns k; have := M.le (nxR ns k); omega)
  have EB : Hid (gbest pt no V ns = if usefNA ns = 0 then no else mxU (fun k => pt ns k - V (nxR ns k)) (usefNA ns - 1)) := Lib.hid rfl
  have N30 := use30 ns
  have hi1 : (Try.prog.info? 54).map (·.size) = some (gmC F no).length := by rw [gmC_len]; kernel_rfl
  have hi2 : (Try.prog.info? 27).map (·.size) = some (ints ns).length := by rw [ints_len, h24]; kernel_rfl
  have c1 := BG.cell 1 (v := .int .i64 no) rfl
  obtain ⟨f, hf⟩ : ∃ f, (fun k => pt ns k - V (nxR ns k)) = f := ⟨_, rfl⟩
  have HF := Lib.hid (show ∀ k, pt ns k - V (nxR ns k) = f k from fun k => by rw [← hf])
  rw [hf] at EB
  rw [row_ints]
  clear M PF gm hf G h24
  go_enter Try.func58, Try.ntmps58
  go_wp2_with (refine load_has rfl 27 _ rfl _ rfl ?_ 24 ?_ _ Try.underlying27 rfl ?_ ?_; rotate_left; (· (repeat (first | (with_reducible assumption) | ((with_reducible refine Has.box _ _ ?_ ?_) <;> (first | assumption | decide)) | (with_reducible refine Has.alloc ?_ _) | ((with_reducible refine Has.putOther ?_ _ _ ?_); rotate_left; omega; skip) | ((with_reducible refine Has.below ?_ ?_); rotate_left; assumption)))); (· kernel_rfl))
  refine (KT.out _).mono ?_
  rintro e w1 ⟨v, rfl, q1, b1⟩
  obtain ⟨a0, cap0, rfl⟩ := q1.shape
  rw [trL_len] at q1 ⊢
  replace BG := BG.below b1
  replace H := H.below b1
  replace HB := Lib.hid (HB.out.call b1)
  replace MM := Lib.hid (MM.out.below b1)
  have GT := Lib.hid (q1.mono (b' := 0) (Nat.zero_le _))
  replace c1 := BG.cell 1 (v := .int .i64 no) rfl
  clear q1 b1 KT
  obtain ⟨N, hN⟩ : ∃ N, usefNA ns = N := ⟨_, rfl⟩
  have HN := Lib.hid hN
  rw [hN] at GT EB N30 KW ⊢
  clear hN
  by_cases h0 : N = 0
  · subst h0
    have E := Lib.hid (show gbest pt no V ns = no by rw [EB.out, if_pos rfl])
    go_wp2_with fail
    go_ret
    exact ⟨by rw [E.out]; rfl, HB.out⟩
  have n0 : ((N : Int) == 0) = false := by simp; omega
  have E := Lib.hid (show gbest pt no V ns = mxU f (N - 1) by rw [EB.out, if_neg h0])
  have Np : 0 < N := by omega
  obtain ⟨g, cap, he, _, hgl⟩ := GT.out.form (by rw [trL_len]; omega)
  rw [trL_len] at he
  injection he with e1 _ e3
  subst e1
  subst e3
  have hroom := GT.out.room
  obtain ⟨o2, ho2, RL⟩ := run_loG g N cap0 (by omega)
  have HO := Lib.hid (show 1 < N → o2 = 26 from fun h => by rcases ho2 with h1 | h1 <;> omega)
  clear EB ho2
  have RG0 := Lib.hid (fun W (h : Gr W 0 69 26 (.slice (some ⟨g, 0, none⟩) N cap0) (trL ns N)) => by
    have := h.range (trL_len ns N).symm 0 Np
    rw [trL_get ns Np] at this
    exact this)
  have l260 := T26.out 0
  have KW0 := Lib.hid (fun W hm => KW.out 0 Np W hm)
  rw [HF.out 0] at KW0
  obtain ⟨t0, ht0⟩ : ∃ t0, trn ns 0 = t0 := ⟨_, rfl⟩
  rw [ht0] at RG0 l260 KW0
  clear ht0
  have hit : (Try.prog.info? 69).map (·.size) = some (ints t0).length := by rw [ints_len, l260]; kernel_rfl
  go_wp2_with fail
  refine wp_region_held_drew (S := fun w' => Bk w' w.heap.size (gmC F no) 54 ∧ Has w' (w.heap.size + 1) ns 24 ∧ Gr w' 0 69 26 (.slice (some ⟨g, 0, none⟩) N cap0) (trL ns N)) (by kernel_rfl) ⟨BG, H.drew, GT.out.drew⟩ (fun hHeld => ?_)
  replace HB := Lib.hid (keptDrew8G HB.out)
  replace MM := Lib.hid MM.out.drew
  replace BG := hHeld.1
  replace H := hHeld.2.1
  replace GT := Lib.hid hHeld.2.2
  generalize w1.drew = W1 at *
  (refine wpAnyH_take (i := 1) (v := ?_) rfl (by kernel_rfl) (by kernel_rfl) (by kernel_rfl) (fun _ _ _ h => h) (Or.inl ⟨by rfl, ?_⟩) hHeld ?_; rotate_left; (· (intro w' hSw; go_simp; try with_reducible rfl)); (try simp only [List.getElem_toArray, List.getElem_cons_zero, List.getElem_cons_succ, Act.put, List.setIfInBounds_toArray, List.set_cons_zero, List.set_cons_succ])); (refine wpAnyH_take (i := 2) (v := ?_) rfl (by kernel_rfl) (by kernel_rfl) (by kernel_rfl) (fun _ _ _ h => h) (Or.inl ⟨by rfl, ?_⟩) hHeld ?_; rotate_left; (· (intro w' hSw; go_simp; try with_reducible rfl)); (try simp only [List.getElem_toArray, List.getElem_cons_zero, List.getElem_cons_succ, Act.put, List.setIfInBounds_toArray, List.set_cons_zero, List.set_cons_succ])); (refine wpAnyH_take (i := 5) (v := ?_) rfl (by kernel_rfl) (by kernel_rfl) (by kernel_rfl) (fun _ _ _ h => h) (Or.inl ⟨by rfl, ?_⟩) hHeld ?_; rotate_left; (· (intro w' hSw; go_simp; try with_reducible rfl)); (try simp only [List.getElem_toArray, List.getElem_cons_zero, List.getElem_cons_succ, Act.put, List.setIfInBounds_toArray, List.set_cons_zero, List.set_cons_succ]))
  (refine wpAnyH_take (i := 0) (v := _) rfl (by kernel_rfl) (by kernel_rfl) (by kernel_rfl) (fun _ _ _ h => h) (yieldsIf_load_mid (by rfl) 54 _ rfl _ _ rfl (gmC F no) _ (fun w' hSw => hSw.1.range) Try.underlying54 rfl (hi1)) hHeld ?_; (try simp only [List.getElem_toArray, List.getElem_cons_zero, List.getElem_cons_succ, Act.put, List.setIfInBounds_toArray, List.set_cons_zero, List.set_cons_succ]))
  refine wpAnyH_take (i := 3) (v := .agg (ints t0).toArray) rfl (by kernel_rfl) (by kernel_rfl) (by kernel_rfl) (fun _ _ _ h => h) (yieldsIf_load_mid (by rfl) 69 _ rfl g (0 * 26) rfl (ints t0) _ (fun w' hSw => RG0.out w' hSw.2.2) Try.underlying69 rfl (hit)) hHeld ?_
  (try simp only [List.getElem_toArray, List.getElem_cons_zero, List.getElem_cons_succ, Act.put, List.setIfInBounds_toArray, List.set_cons_zero, List.set_cons_succ])
  (refine wpAnyH_take (i := 4) (v := _) rfl (by kernel_rfl) (by kernel_rfl) (by kernel_rfl) (fun _ _ _ h => h) (yieldsIf_load_mid (by rfl) 27 _ rfl _ _ rfl (ints ns) _ (fun w' hSw => hSw.2.1.holds.range) Try.underlying27 rfl (hi2)) hHeld ?_; (try simp only [List.getElem_toArray, List.getElem_cons_zero, List.getElem_cons_succ, Act.put, List.setIfInBounds_toArray, List.set_cons_zero, List.set_cons_succ]))
  (refine wpAnyH_ready (rs := [6]) (by kernel_rfl) (by simp) ?_; refine AllReadyH.cons (o := _) rfl (fun K hK => ?_) AllReadyH.nil; (simp only [List.getElem_toArray, List.getElem_cons_zero, List.getElem_cons_succ, Region.wanted, if_true]))
  go_simp
  refine (KW0.out _ MM.out).mono ?_
  rintro e w2 ⟨rfl, b2⟩
  dsimp only
  (try simp only [List.getElem_toArray, List.getElem_cons_zero, List.getElem_cons_succ, Act.put, List.setIfInBounds_toArray, List.set_cons_zero, List.set_cons_succ])
  refine hK.out _ _ ⟨hHeld.1.below b2, hHeld.2.1.below b2, hHeld.2.2.below b2⟩ (fun hHeld => ?_)
  clear hK K
  (refine wpAnyH_take (i := 7) (v := ?_) rfl (by kernel_rfl) (by kernel_rfl) (by kernel_rfl) (fun _ _ _ h => h) (Or.inl ⟨by rfl, ?_⟩) hHeld ?_; rotate_left; (· (intro w' hSw; go_simp; try with_reducible rfl)); (try simp only [List.getElem_toArray, List.getElem_cons_zero, List.getElem_cons_succ, Act.put, List.setIfInBounds_toArray, List.set_cons_zero, List.set_cons_succ]))
  refine wpAnyH_done (by kernel_rfl) ?_ _
  replace BG := BG.below b2
  replace H := H.below b2
  replace GT := Lib.hid (GT.out.below b2)
  replace HB := Lib.hid (HB.out.call b2)
  replace MM := Lib.hid (MM.out.below b2)
  clear hHeld b2 RG0 KW0 hit c1
  have F0 : Hid (f 0 = mxU f 0) := Lib.hid rfl
  rw [F0.out]
  go_wp2_with (refine slice_loG rfl 83 _ _ rfl (.slice (some ⟨g, 0, none⟩) N cap0) (.int .i64 1) _ rfl rfl (RL _) ?_)
  go_loopw [8, 28] (fun m i wr => ∃ k : Nat, k ≤ N - 1 ∧ i = .int .i64 k ∧ m = .int .i64 (mxU f k) ∧ Bk wr w.heap.size (gmC F no) 54 ∧ Has wr (w.heap.size + 1) ns 24 ∧ Hid (Gr wr 0 69 26 (.slice (some ⟨g, 0, none⟩) N cap0) (trL ns N)) ∧ Hid (VM wr mb K V) ∧ Hid (Kept w wr)) (fun _ z _ => N - 1 - (intOf z).toNat)
  case atStart => exact ⟨0, by omega, rfl, rfl, BG, H, GT, MM, HB⟩
  case round =>
    clear BG H GT MM HB hgl hroom
    obtain ⟨k, hk, rfl, rfl, BG, H, GT, MM, GB⟩ := hrel
    by_cases hkN : k < N - 1
    · have hki : (k : Int) < ((N - 1 : Nat) : Int) := by omega
      have hk0 : (0 : Int) ≤ (k : Int) := by omega
      have ho := HO.out (by omega)
      subst ho
      have RG := Lib.hid (GT.out.range (trL_len ns N).symm (k + 1) (by omega))
      rw [trL_get ns (by omega), show (k + 1) * 26 = 26 + k * 26 by omega] at RG
      have l26 := T26.out (k + 1)
      have KWk := Lib.hid (fun W hm => KW.out (k + 1) (by omega) W hm)
      have EM : mxU f (k + 1) = max (mxU f k) (f (k + 1)) := rfl
      rw [HF.out (k + 1)] at KWk
      obtain ⟨t, ht⟩ : ∃ t, trn ns (k + 1) = t := ⟨_, rfl⟩
      rw [ht] at RG l26 KWk
      clear ht
      have b3 := VB.out (k + 1)
      rw [HF.out (k + 1)] at b3
      have b4 := mxU_in (g := f) (a := -18) (b := 18) k (fun j _ => by rw [← HF.out j]; exact VB.out j)
      have HM := Lib.hid EM
      have l26i : (ints t).length = 26 := by rw [ints_len]; exact l26
      have HX := Has.box wr 69 l26 (by omega)
      have hbl := BG.lt
      have hhl := H.lt
      replace BG := BG.alloc (.cells (ints t).toArray 69)
      replace H := H.alloc (.cells (ints t).toArray 69)
      replace GT := Lib.hid (GT.out.alloc (.cells (ints t).toArray 69))
      replace MM := Lib.hid (MM.out.alloc (.cells (ints t).toArray 69))
      replace GB := Lib.hid (GB.out.alloc (.cells (ints t).toArray 69))
      clear EM
      go_upto_region 8 with (first | (refine wpList_load_mid rfl 69 _ rfl g (26 + k * 26) rfl (ints t) _ RG.out Try.underlying69 rfl (by rw [l26i]; kernel_rfl) ?_) | (refine store_new rfl 69 _ _ rfl _ _ _ rfl _ rfl _ rfl rfl ?_ ?_ ?_; (· (first | assumption | rfl)); (· kernel_rfl)))
      generalize wr.alloc (.cells (ints t).toArray 69) = W2 at *
      clear RG
      go_wp2_with (first | (refine load_bk rfl 54 _ rfl _ rfl _ _ BG _ Try.underlying54 rfl ?_ ?_; (· kernel_rfl)) | (refine load_has rfl 69 _ rfl _ rfl ?_ 26 ?_ _ Try.underlying69 rfl ?_ ?_; rotate_left; (· (repeat (first | (with_reducible assumption) | ((with_reducible refine Has.box _ _ ?_ ?_) <;> (first | assumption | decide)) | (with_reducible refine Has.alloc ?_ _) | ((with_reducible refine Has.putOther ?_ _ _ ?_); rotate_left; omega; skip) | ((with_reducible refine Has.below ?_ ?_); rotate_left; assumption)))); (· kernel_rfl)) | (refine load_has rfl 27 _ rfl _ rfl ?_ 24 ?_ _ Try.underlying27 rfl ?_ ?_; rotate_left; (· (repeat (first | (with_reducible assumption) | ((with_reducible refine Has.box _ _ ?_ ?_) <;> (first | assumption | decide)) | (with_reducible refine Has.alloc ?_ _) | ((with_reducible refine Has.putOther ?_ _ _ ?_); rotate_left; omega; skip) | ((with_reducible refine Has.below ?_ ?_); rotate_left; assumption)))); (· kernel_rfl)))
      refine (KWk.out _ MM.out).mono ?_
      rintro e w5 ⟨rfl, b5⟩
      replace BG := BG.below b5
      replace H := H.below b5
      replace GT := Lib.hid (GT.out.below b5)
      replace MM := Lib.hid (MM.out.below b5)
      replace GB := Lib.hid (GB.out.call b5)
      clear b5 HX KWk
      go_wp2_with fail
      go_roundw
      case rel => exact ⟨k + 1, by omega, by go_num, by rw [HM.out]; exact congrArg (Value.int IntKind.i64) (by split <;> omega), BG, H, GT, MM, GB⟩
      case measure => simp [intOf]; omega
    · obtain rfl : k = N - 1 := by omega
      go_wp2_with fail
      go_ret
      exact ⟨by rw [E.out]; rfl, GB.out⟩
end Go.Proofs.Ytnldnjnnjfbhnab.base
end

section
namespace Go.Proofs.Ytnldnjnnjfbhnab.base
open Go.ChangeShapes Go.WideShapes Go.ChangeAt Go.RowKit Go.Maps
set_option linter.unusedVariables false
set_option linter.unusedSimpArgs false

section
variable {P : Program} {w : World} {o : Oper} {a : Act} {C : Act → World → Prop} {Q : Exit → Act → World → Prop}
theorem wp_updateV (m x v : Operand) (t : TypeId) (hop : o.op = Op.mapUpdate t m x v) (K e : TypeId) (KL : Keyed P K) (ht : P.underlying t = some (.map K e))
    (b n L : Nat) (f : List Int → Option Value) (hown : OwnV P w K b n L f) (hn : n < maxLen) (hm : a.eval m = .map (some b)) (key val : Value) (hx : a.eval x = key) (hv : a.eval v = val) (r : List Int) (hr : KeyRow L r) (hkey : keyOf P K key = some (keyL r))
    (h : ∀ w', OwnV P w' K b (if (f r).isSome then n else n + 1) L (mapPut f r val) → w.grownBy w' (some b) → C (a.put o.dst undef) w') : Oper.wp P o a w C Q := by
  obtain ⟨w', hrun, r1, r2⟩ := hown.store (val := val) KL ht hn hr hkey
  unfold Oper.wp
  simp only [execOp, hop, hm, hx, hv, hrun, Result.andThen, Sem.run_bind, Result.andThen_ok, Sem.run_pure]
  exact h w' r1 r2
end
theorem kG_succ (r : List Int) (n j : Nat) : kG r n (j + 1) = lvG r (n - (j + 1)) := rfl
theorem vG_succ (pt : List Int → Nat → Int) (no : Int) (r : List Int) (n j : Nat) : vG pt no r n (j + 1) = nxV pt no (vG pt no r n j) (lvG r (n - (j + 1))) := rfl

set_option maxHeartbeats 6400000 in
set_option maxRecDepth 100000 in
theorem valuesBehind_any (F : Nat) (no : Int) (pt : List Int → Nat → Int) (PF : Pts F pt) (gm : Gam pt no) (r : List Int) (N m : Nat) (w : World) (G : GR r) (hN : N = m + 1) (hm : m ≤ 2) :
    Calls Try.prog 59 #[.agg (gmC F no).toArray, row r, .int .i64 (N : Nat)] w fun e w' => ∃ vb : Nat, e = .returned (.map (some vb)) ∧ VM w' vb (kG r N m) (vG pt no r N m) ∧ w.heap.size ≤ vb ∧ Kept w w' := by
  have hmm := @run_makeMap Try.prog
  have h24 := G.1
  have HB := Lib.hid (((kept_refl w).alloc (.cells (gmC F no).toArray 54)).alloc (.cells (ints r).toArray 27))
  have BG := (Bk.box w (gmC F no) 54).alloc (.cells (ints r).toArray 27)
  have H := (Has.box (w.alloc (.cells (gmC F no).toArray 54)) 27 h24 (by omega)).at (size1 _ _)
  have KR := Lib.hid (fun W => racksBehind_any r m W G hm)
  have KB := Lib.hid (fun x gx mb K V W hM => best_any F no pt PF gm x gx mb K V W hM)
  have LG := Lib.hid (fun k => lvG_good G k)
  have LN := Lib.hid (fun k => lvG_nodup r k)
  have L9 := Lib.hid (fun k (hk : k ≤ 2) => lvG_900 r k hk)
  have VO := Lib.hid (fun j => vG_out pt no r N j)
  have VI := Lib.hid (fun j => vG_in gm r N j)
  have hi1 : (Try.prog.info? 54).map (·.size) = some (gmC F no).length := by rw [gmC_len]; kernel_rfl
  have HI1 := Lib.hid hi1
  have w1' : IntKind.i64.wrap ((N : Int) - 1) = ((m : Nat) : Int) := by rw [IntWalk.i64_in _ (by omega)]; omega
  have HNM := Lib.hid hN
  have hN1 : 1 ≤ N := by omega
  have hN3 : N ≤ 3 := by omega
  rw [row_ints]
  clear G PF gm hi1 hN
  go_enter Try.func59, Try.ntmps59
  go_wp2_with (refine load_has rfl 27 _ rfl _ rfl ?_ 24 ?_ _ Try.underlying27 rfl ?_ ?_; rotate_left; (· (repeat (first | (with_reducible assumption) | ((with_reducible refine Has.box _ _ ?_ ?_) <;> (first | assumption | decide)) | (with_reducible refine Has.alloc ?_ _) | ((with_reducible refine Has.putOther ?_ _ _ ?_); rotate_left; omega; skip) | ((with_reducible refine Has.below ?_ ?_); rotate_left; assumption)))); (· kernel_rfl))
  refine (KR.out _).mono ?_
  rintro e w1 ⟨lv, vs, c, rfl, q1, b1⟩
  have hs1 := b1.size
  simp only [size1] at hs1 q1
  replace BG := (BG.below b1).alloc (.map #[] 0)
  replace HB := Lib.hid ((HB.out.call b1).alloc (.map #[] 0))
  have LV := Lib.hid (q1.alloc (.map #[] 0))
  have M0 := OwnV.made w1 Try.prog 27 24
  have MM : Hid (VM (w1.alloc (.map #[] 0)) w1.heap.size (kG r N 0) (vG pt no r N 0)) := Lib.hid ⟨M0.as (fun l _ => by unfold valF kG; simp), fun l _ => rfl, fun l => by show (-12 : Int) ≤ 0 ∧ (0 : Int) ≤ 12; omega⟩
  rw [← HNM.out] at LV
  clear q1 b1 M0 H w1' KR
  go_wp2_with fail
  clear hmm
  obtain ⟨vb0, hvb0⟩ : ∃ vb0, w1.heap.size = vb0 := ⟨_, rfl⟩
  rw [hvb0] at MM hs1 ⊢
  generalize w1.alloc (.map #[] 0) = W1 at *
  clear hvb0
  have hvb : w.heap.size ≤ vb0 := by omega
  clear hs1
  go_loopw [8, 9] (fun mp i wr => ∃ k j vb : Nat, Hid (k = j + 1) ∧ 1 ≤ k ∧ k ≤ N ∧ i = .int .i64 k ∧ mp = .map (some vb) ∧ w.heap.size ≤ vb ∧ Hid (VM wr vb (kG r N j) (vG pt no r N j)) ∧ Bk wr w.heap.size (gmC F no) 54 ∧ Hid (Lv wr (w.heap.size + 1 + 1) c lv N vs r) ∧ Hid (Kept w wr)) (fun _ z _ => N - (intOf z).toNat)
  case atStart => exact ⟨1, 0, vb0, Lib.hid rfl, by omega, by omega, rfl, rfl, hvb, MM, BG, LV, HB⟩
  case round =>
    clear MM BG LV HB hvb
    obtain ⟨k, j, vb, hkj, hk1, hkN, rfl, rfl, hvb, MM, BG, LV, GB⟩ := hrel
    obtain ⟨W0, hW0⟩ : ∃ W0, W0 = wr := ⟨wr, rfl⟩
    subst hW0
    by_cases hlt : k < N
    · have hki : (k : Int) < (N : Int) := by omega
      have hmm := @run_makeMap Try.prog
      have hd : IntKind.i64.wrap ((N : Int) - (k : Int)) = ((N - k : Nat) : Int) := by rw [IntWalk.i64_in _ (by omega)]; omega
      obtain ⟨g, lcap, rfl, hgb, hgl⟩ := LV.out.form (by omega)
      have GLk := LV.out.lev (N - k) (by omega)
      have cK := LV.out.cell (N - k) (by omega)
      obtain ⟨ak, capk, hak⟩ := GLk.shape
      rw [hak] at GLk cK
      have gL := LG.out (N - k)
      have nL := LN.out (N - k)
      have lL := L9.out (N - k) (by omega)
      have EK : Hid (kG r N k = lvG r (N - k)) := Lib.hid (by rw [hkj.out]; rfl)
      have EV : Hid (vG pt no r N k = nxV pt no (vG pt no r N j) (lvG r (N - k))) := Lib.hid (by rw [hkj.out]; rfl)
      have VIk := Lib.hid (show ∀ l, -12 ≤ vG pt no r N k l ∧ vG pt no r N k l ≤ 12 from fun l => by have := VI.out k l; omega)
      have VOk := Lib.hid (VO.out k)
      obtain ⟨V, hV⟩ : ∃ V, vG pt no r N j = V := ⟨_, rfl⟩
      obtain ⟨Kj, hKj⟩ : ∃ Kj, kG r N j = Kj := ⟨_, rfl⟩
      rw [hV] at EV
      rw [hV, hKj] at MM
      obtain ⟨L, hL⟩ : ∃ L, lvG r (N - k) = L := ⟨_, rfl⟩
      rw [hL] at GLk cK gL nL lL EK EV
      obtain ⟨M, hM⟩ : ∃ M, L.length = M := ⟨_, rfl⟩
      have HM := Lib.hid hM
      rw [hM] at GLk cK lL
      have HGL := Lib.hid gL
      have HNL := Lib.hid nL
      have LK := Lib.hid (fun W (hW : Kept W0 W) => GLk.below hW)
      have BK := Lib.hid (fun W (hW : Kept W0 W) => BG.below hW)
      have MK := Lib.hid (fun W (hW : Kept W0 W) => MM.out.below hW)
      obtain ⟨D, hD⟩ : ∃ D, N - k = D := ⟨_, rfl⟩
      rw [hD] at cK hd
      have hDN : D < N := by omega
      have cK2 : (W0.alloc (.map #[] 0)).cell? ⟨g, D, none⟩ = some (.slice ak M capk) := by
        rw [World.cell?_of_block (w := W0) ((World.grownBy_alloc W0 (.map #[] 0) none).block g hgl (by simp))]; exact cK
      have M0 : Hid (OwnV Try.prog (W0.alloc (.map #[] 0)) 27 W0.heap.size (L.take 0).length 24 (valF (L.take 0) (vI pt no V L 0))) := Lib.hid ((OwnV.made W0 Try.prog 27 24).as (fun l _ => by unfold valF; simp))
      have K0 := Lib.hid ((kept_refl W0).alloc (.map #[] 0))
      have hDi : (0 : Int) ≤ (D : Int) := by omega
      have hDi2 : (D : Int) < (N : Int) := by omega
      have hgs := GB.out.size
      clear hV hKj hL hM gL nL GLk cK hak hgl hgb hD
      go_wp2_with fail
      clear hmm cK2 hd
      obtain ⟨nb, hnb⟩ : ∃ nb, W0.heap.size = nb := ⟨_, rfl⟩
      rw [hnb] at M0 hgs ⊢
      have HNB := Lib.hid hnb
      clear hnb
      go_loopw [31] (fun z wr => ∃ i : Nat, i ≤ M ∧ z = .int .i64 i ∧ Hid (OwnV Try.prog wr 27 nb (L.take i).length 24 (valF (L.take i) (vI pt no V L i))) ∧ Hid (Kept W0 wr)) (fun z _ => M - (intOf z).toNat)
      case atStart => exact ⟨0, by omega, rfl, M0, K0⟩
      case round =>
        clear M0 K0
        obtain ⟨i, hi', rfl, GM, GK⟩ := hrel
        by_cases hiM : i < M
        · have hii : (i : Int) < (M : Int) := by omega
          have hi0 : (0 : Int) ≤ (i : Int) := by omega
          have GX := LK.out wr GK.out
          obtain ⟨gl, cl, he, _, hgl⟩ := GX.form (by rw [HM.out]; omega)
          rw [HM.out] at he
          injection he with e1 _ e3
          subst e1
          subst e3
          have RG := Lib.hid (GX.range HM.out.symm i hiM)
          have gx := HGL.out _ (getG (L := L) (i := i) (by rw [HM.out]; exact hiM))
          have hp := valF_put pt no V HNL.out (i := i) (by rw [HM.out]; exact hiM)
          have tl : (L.take i).length ≤ 900 := by rw [List.length_take]; omega
          obtain ⟨x, hx⟩ : ∃ x, L.getD i [] = x := ⟨_, rfl⟩
          rw [hx] at RG gx hp
          have HP := Lib.hid hp
          clear GX hx hp
          have x24 := gx.1
          have ROW := Lib.hid (rack_row8G gx.1 gx.2)
          have KEY := Lib.hid (rack_key8G ROW.out)
          have hi24 : (Try.prog.info? 27).map (·.size) = some (ints x).length := by rw [ints_len, x24]; kernel_rfl
          have HI24 := Lib.hid hi24
          have HXB := Has.box wr 27 x24 (by omega)
          have hgk := GK.out.size
          rw [HNB.out] at hgk
          replace GM := Lib.hid (GM.out.alloc (.cells (ints x).toArray 27))
          replace GK := Lib.hid (GK.out.alloc (.cells (ints x).toArray 27))
          have KX := Lib.hid (fun W hM => KB.out x gx vb Kj V W hM)
          have hml := GM.out.lt
          clear gx hi24 hgl
          go_wp2_with (first | (refine wpList_load_mid rfl 27 _ rfl gl (i * 24) rfl (ints x) _ RG.out Try.underlying27 rfl HI24.out ?_) | (refine store_new rfl 27 _ _ rfl _ _ _ rfl _ rfl _ rfl rfl ?_ ?_ ?_; (· (first | assumption | rfl)); (· kernel_rfl)))
          obtain ⟨xb, hxb⟩ : ∃ xb, wr.heap.size = xb := ⟨_, rfl⟩
          rw [hxb] at HXB hgk ⊢
          generalize wr.alloc (.cells (ints x).toArray 27) = W2 at *
          clear RG hxb
          have hnx : nb ≠ xb := by
            intro e
            subst e
            have h1 := GM.out
            obtain ⟨D0, ⟨es, ck, hb, _⟩, _⟩ := h1
            have h2 := HXB.cell 0 (by omega)
            rw [World.cell?] at h2
            simp [hb] at h2
          have BG2 := BK.out W2 GK.out
          have hbl : w.heap.size < nb := by have := BG.lt; rw [HNB.out] at this; exact this
          refine wp_region_held_drew (S := fun w' => Has w' xb x 24 ∧ Bk w' w.heap.size (gmC F no) 54) (by kernel_rfl) ⟨HXB.drew, BG2.drew⟩ (fun hHeld => ?_)
          have GMd : Hid (OwnV Try.prog W2.drew 27 nb (L.take i).length 24 (valF (L.take i) (vI pt no V L i))) := Lib.hid (GM.out.block rfl)
          have GKd : Hid (Kept W0 W2.drew) := Lib.hid (keptDrew8G GK.out)
          clear GM GK HXB BG2
          generalize W2.drew = WD at *
          (refine wpAnyH_take (i := 0) (v := ?_) rfl (by kernel_rfl) (by kernel_rfl) (by kernel_rfl) (fun _ _ _ h => h) (Or.inl ⟨by rfl, ?_⟩) hHeld ?_; rotate_left; (· (intro w' hSw; go_simp; try with_reducible rfl)); (try simp only [List.getElem_toArray, List.getElem_cons_zero, List.getElem_cons_succ, Act.put, List.setIfInBounds_toArray, List.set_cons_zero, List.set_cons_succ])); (refine wpAnyH_take (i := 4) (v := ?_) rfl (by kernel_rfl) (by kernel_rfl) (by kernel_rfl) (fun _ _ _ h => h) (Or.inl ⟨by rfl, ?_⟩) hHeld ?_; rotate_left; (· (intro w' hSw; go_simp; try with_reducible rfl)); (try simp only [List.getElem_toArray, List.getElem_cons_zero, List.getElem_cons_succ, Act.put, List.setIfInBounds_toArray, List.set_cons_zero, List.set_cons_succ]))
          (refine wpAnyH_take (i := 1) (v := _) rfl (by kernel_rfl) (by kernel_rfl) (by kernel_rfl) (fun _ _ _ h => h) (yieldsIf_load_mid (by rfl) 27 _ rfl _ _ rfl (ints x) _ (fun w' hSw => hSw.1.holds.range) Try.underlying27 rfl (HI24.out)) hHeld ?_; (try simp only [List.getElem_toArray, List.getElem_cons_zero, List.getElem_cons_succ, Act.put, List.setIfInBounds_toArray, List.set_cons_zero, List.set_cons_succ]))
          (refine wpAnyH_take (i := 2) (v := _) rfl (by kernel_rfl) (by kernel_rfl) (by kernel_rfl) (fun _ _ _ h => h) (yieldsIf_load_mid (by rfl) 54 _ rfl _ _ rfl (gmC F no) _ (fun w' hSw => hSw.2.range) Try.underlying54 rfl (HI1.out)) hHeld ?_; (try simp only [List.getElem_toArray, List.getElem_cons_zero, List.getElem_cons_succ, Act.put, List.setIfInBounds_toArray, List.set_cons_zero, List.set_cons_succ]))
          (refine wpAnyH_take (i := 3) (v := _) rfl (by kernel_rfl) (by kernel_rfl) (by kernel_rfl) (fun _ _ _ h => h) (yieldsIf_load_mid (by rfl) 27 _ rfl _ _ rfl (ints x) _ (fun w' hSw => hSw.1.holds.range) Try.underlying27 rfl (HI24.out)) hHeld ?_; (try simp only [List.getElem_toArray, List.getElem_cons_zero, List.getElem_cons_succ, Act.put, List.setIfInBounds_toArray, List.set_cons_zero, List.set_cons_succ]))
          (refine wpAnyH_ready (rs := [5]) (by kernel_rfl) (by simp) ?_; refine AllReadyH.cons (o := _) rfl (fun K hK => ?_) AllReadyH.nil; (simp only [List.getElem_toArray, List.getElem_cons_zero, List.getElem_cons_succ, Region.wanted, if_true]))
          go_simp
          refine (KX.out _ (MK.out _ GKd.out)).mono ?_
          rintro e w5 ⟨rfl, b5⟩
          dsimp only
          (try simp only [List.getElem_toArray, List.getElem_cons_zero, List.getElem_cons_succ, Act.put, List.setIfInBounds_toArray, List.set_cons_zero, List.set_cons_succ])
          have hH2 : Has w5 xb x 24 ∧ Bk w5 w.heap.size (gmC F no) 54 := ⟨hHeld.1.below b5, hHeld.2.below b5⟩
          refine hK.out _ _ hH2 (fun hHeld => ?_)
          clear hK K
          have GM5 := Lib.hid (GMd.out.below b5)
          have GK5 := Lib.hid (GKd.out.call b5)
          clear b5 GMd GKd KX
          (refine wpAnyH_ready (rs := [6]) (by kernel_rfl) (by simp) ?_; refine AllReadyH.cons (o := _) rfl (fun K hK => ?_) AllReadyH.nil; (simp only [List.getElem_toArray, List.getElem_cons_zero, List.getElem_cons_succ, Region.wanted, if_true]))
          refine wp_updateV _ _ _ 92 rfl 27 3 rackKeyed8G Try.underlying92 nb (L.take i).length 24 _ GM5.out (by unfold maxLen; omega) rfl (.agg (ints x).toArray) (.int .i64 (gbest pt no V x)) rfl rfl x ROW.out KEY.out ?_
          intro w6 hM hgM
          (try simp only [List.getElem_toArray, List.getElem_cons_zero, List.getElem_cons_succ, Act.put, List.setIfInBounds_toArray, List.set_cons_zero, List.set_cons_succ])
          refine hK.out _ _ ⟨hH2.1.grownNo hgM (fun e => hnx (Option.some.inj e).symm), hH2.2.grown hgM (fun e => by have := Option.some.inj e; omega)⟩ (fun hHeld => ?_)
          clear hK K
          rw [HP.out.1] at hM
          have GM6 := Lib.hid (hM.as (fun l _ => HP.out.2 l))
          have GK6 : Hid (Kept W0 w6) := Lib.hid (GK5.out.grown hgM GK5.out.size (fun j hj => by have := Option.some.inj hj; rw [HNB.out]; omega))
          refine wpAnyH_done (by kernel_rfl) ?_ _
          clear hHeld hH2 hM hgM GM5 GK5 HP
          go_wp2_with fail
          go_roundw
          case rel => exact ⟨i + 1, by omega, by go_num, GM6, GK6⟩
          case measure => simp [intOf]; omega
        · obtain rfl : i = M := by omega
          have ET : Hid (L.take i = L) := Lib.hid (List.take_of_length_le (by rw [HM.out]; omega))
          have MM2 : Hid (VM wr nb (kG r N k) (vG pt no r N k)) := Lib.hid (by
            have h1 := GM.out
            unfold vI at h1
            rw [ET.out] at h1
            refine ⟨by rw [EK.out, EV.out]; exact h1, ?_, VIk.out⟩
            intro l hl
            exact VOk.out l hl)
          have BG2 := BK.out wr GK.out
          have LV2 := Lib.hid (LV.out.below GK.out)
          have GB2 : Hid (Kept w wr) := Lib.hid (GB.out.call GK.out)
          clear GM GK
          go_wp2_with fail
          go_roundw
          case rel => exact ⟨k + 1, k, nb, Lib.hid rfl, by omega, by omega, by go_num, rfl, hgs, MM2, BG2, LV2, GB2⟩
          case measure => simp [intOf]; omega
    · obtain rfl : k = N := by omega
      have EJ : Hid (j = m) := Lib.hid (by have := hkj.out; have := HNM.out; omega)
      go_wp2_with fail
      go_ret
      exact ⟨vb, rfl, by rw [← EJ.out]; exact MM.out, hvb, GB.out⟩

/-- The value of the game of n turns, as it is told. -/
def gvA (pt : List Int → Nat → Int) (no : Int) (r : List Int) (n : Int) : Int := if gmOk r n = true then gval pt no n.toNat r else 0
theorem gmOk_of {r : List Int} {n : Int} (h : gmOk r n = true) : vR r = true ∧ 0 ≤ n ∧ n ≤ 3 := by
  unfold gmOk at h
  rw [Bool.and_eq_true_iff, decide_eq_true_eq] at h
  exact h

set_option maxHeartbeats 3200000 in
set_option maxRecDepth 100000 in
theorem value_any (F : Nat) (no : Int) (pt : List Int → Nat → Int) (PF : Pts F pt) (gm : Gam pt no) (r : List Int) (n : Int) (w : World) (h24 : r.length = 24) :
    Calls Try.prog 29 #[.agg (gmC F no).toArray, row r, .int .i64 n] w fun e w' => e = .returned (.tuple #[.int .i64 (gvA pt no r n), .bool (gmOk r n)]) ∧ Kept w w' := by
  have HB := Lib.hid (((kept_refl w).alloc (.cells (gmC F no).toArray 54)).alloc (.cells (ints r).toArray 27))
  have BG := (Bk.box w (gmC F no) 54).alloc (.cells (ints r).toArray 27)
  have H := (Has.box (w.alloc (.cells (gmC F no).toArray 54)) 27 h24 (by omega)).at (size1 _ _)
  have hi1 : (Try.prog.info? 54).map (·.size) = some (gmC F no).length := by rw [gmC_len]; kernel_rfl
  have hi2 : (Try.prog.info? 27).map (·.size) = some (ints r).length := by rw [ints_len, h24]; kernel_rfl
  have EV : Hid (gvA pt no r n = if gmOk r n = true then gval pt no n.toNat r else 0) := Lib.hid rfl
  rw [row_ints]
  go_enter Try.func29, Try.ntmps29
  go_wp2_with (refine load_has rfl 27 _ rfl _ rfl ?_ 24 ?_ _ Try.underlying27 rfl ?_ ?_; rotate_left; (· (repeat (first | (with_reducible assumption) | ((with_reducible refine Has.box _ _ ?_ ?_) <;> (first | assumption | decide)) | (with_reducible refine Has.alloc ?_ _) | ((with_reducible refine Has.putOther ?_ _ _ ?_); rotate_left; omega; skip) | ((with_reducible refine Has.below ?_ ?_); rotate_left; assumption)))); (· kernel_rfl))
  refine (isGame_any r n _ h24).mono ?_
  rintro e w1 ⟨rfl, b1⟩
  replace BG := BG.below b1
  replace H := H.below b1
  replace HB := Lib.hid (HB.out.call b1)
  clear b1
  cases hok : gmOk r n with
  | false =>
    have E := Lib.hid (show gvA pt no r n = 0 ∧ gmOk r n = false from ⟨by rw [EV.out, if_neg (by rw [hok]; simp)], hok⟩)
    clear hok
    go_wp2_with fail
    go_ret2
    exact ⟨by rw [E.out.1, E.out.2]; rfl, HB.out⟩
  | true =>
    obtain ⟨hv, h0, h3⟩ := gmOk_of hok
    have E := Lib.hid (show gvA pt no r n = gval pt no n.toNat r ∧ gmOk r n = true from ⟨by rw [EV.out, if_pos hok], hok⟩)
    have G : GR r := ⟨h24, hv⟩
    obtain ⟨N, hNn⟩ : ∃ N : Nat, n = (N : Int) := ⟨n.toNat, by omega⟩
    subst hNn
    rw [Int.toNat_natCast] at E
    clear hok hv
    rcases Nat.eq_zero_or_pos N with hz | hz
    · subst hz
      go_wp2_with fail
      go_ret2
      exact ⟨by rw [E.out.1, E.out.2]; rfl, HB.out⟩
    obtain ⟨m, hm⟩ : ∃ m, N = m + 1 := ⟨N - 1, by omega⟩
    have n0 : ((N : Int) == 0) = false := by simp; omega
    have KV := Lib.hid (fun W => valuesBehind_any F no pt PF gm r N m W G hm (by omega))
    have KB := Lib.hid (fun mb K V W hM => best_any F no pt PF gm r G mb K V W hM)
    have VB := Lib.hid (show gbest pt no (vG pt no r N m) r = gval pt no N r by rw [hm]; exact (vG_best pt no r m).1)
    clear hm G PF gm
    go_wp2_with fail
    refine wp_region_held_drew (S := fun w' => Bk w' w.heap.size (gmC F no) 54 ∧ Has w' (w.heap.size + 1) r 24) (by kernel_rfl) ⟨BG.drew, H.drew⟩ (fun hHeld => ?_)
    replace HB := Lib.hid (keptDrew8G HB.out)
    clear BG H
    generalize w1.drew = W1 at *
    (refine wpAnyH_take (i := 0) (v := _) rfl (by kernel_rfl) (by kernel_rfl) (by kernel_rfl) (fun _ _ _ h => h) (yieldsIf_load_mid (by rfl) 54 _ rfl _ _ rfl (gmC F no) _ (fun w' hSw => hSw.1.range) Try.underlying54 rfl (hi1)) hHeld ?_; (try simp only [List.getElem_toArray, List.getElem_cons_zero, List.getElem_cons_succ, Act.put, List.setIfInBounds_toArray, List.set_cons_zero, List.set_cons_succ]))
    (refine wpAnyH_take (i := 1) (v := _) rfl (by kernel_rfl) (by kernel_rfl) (by kernel_rfl) (fun _ _ _ h => h) (yieldsIf_load_mid (by rfl) 27 _ rfl _ _ rfl (ints r) _ (fun w' hSw => hSw.2.holds.range) Try.underlying27 rfl (hi2)) hHeld ?_; (try simp only [List.getElem_toArray, List.getElem_cons_zero, List.getElem_cons_succ, Act.put, List.setIfInBounds_toArray, List.set_cons_zero, List.set_cons_succ]))
    (refine wpAnyH_take (i := 2) (v := _) rfl (by kernel_rfl) (by kernel_rfl) (by kernel_rfl) (fun _ _ _ h => h) (yieldsIf_load_mid (by rfl) 54 _ rfl _ _ rfl (gmC F no) _ (fun w' hSw => hSw.1.range) Try.underlying54 rfl (hi1)) hHeld ?_; (try simp only [List.getElem_toArray, List.getElem_cons_zero, List.getElem_cons_succ, Act.put, List.setIfInBounds_toArray, List.set_cons_zero, List.set_cons_succ]))
    (refine wpAnyH_take (i := 3) (v := _) rfl (by kernel_rfl) (by kernel_rfl) (by kernel_rfl) (fun _ _ _ h => h) (yieldsIf_load_mid (by rfl) 27 _ rfl _ _ rfl (ints r) _ (fun w' hSw => hSw.2.holds.range) Try.underlying27 rfl (hi2)) hHeld ?_; (try simp only [List.getElem_toArray, List.getElem_cons_zero, List.getElem_cons_succ, Act.put, List.setIfInBounds_toArray, List.set_cons_zero, List.set_cons_succ]))
    (refine wpAnyH_take (i := 4) (v := ?_) rfl (by kernel_rfl) (by kernel_rfl) (by kernel_rfl) (fun _ _ _ h => h) (Or.inl ⟨by rfl, ?_⟩) hHeld ?_; rotate_left; (· (intro w' hSw; go_simp; try with_reducible rfl)); (try simp only [List.getElem_toArray, List.getElem_cons_zero, List.getElem_cons_succ, Act.put, List.setIfInBounds_toArray, List.set_cons_zero, List.set_cons_succ]))
    (refine wpAnyH_ready (rs := [5]) (by kernel_rfl) (by simp) ?_; refine AllReadyH.cons (o := _) rfl (fun K hK => ?_) AllReadyH.nil; (simp only [List.getElem_toArray, List.getElem_cons_zero, List.getElem_cons_succ, Region.wanted, if_true]))
    go_simp
    refine (KV.out _).mono ?_
    rintro e w2 ⟨vb, rfl, hM, hvb, b2⟩
    dsimp only
    (try simp only [List.getElem_toArray, List.getElem_cons_zero, List.getElem_cons_succ, Act.put, List.setIfInBounds_toArray, List.set_cons_zero, List.set_cons_succ])
    have hH2 : Bk w2 w.heap.size (gmC F no) 54 ∧ Has w2 (w.heap.size + 1) r 24 := ⟨hHeld.1.below b2, hHeld.2.below b2⟩
    refine hK.out _ _ hH2 (fun hHeld => ?_)
    clear hK K
    replace HB := Lib.hid (HB.out.call b2)
    (refine wpAnyH_ready (rs := [6]) (by kernel_rfl) (by simp) ?_; refine AllReadyH.cons (o := _) rfl (fun K hK => ?_) AllReadyH.nil; (simp only [List.getElem_toArray, List.getElem_cons_zero, List.getElem_cons_succ, Region.wanted, if_true]))
    go_simp
    refine (KB.out vb _ _ _ hM).mono ?_
    rintro e w3 ⟨rfl, b3⟩
    rw [VB.out]
    dsimp only
    (try simp only [List.getElem_toArray, List.getElem_cons_zero, List.getElem_cons_succ, Act.put, List.setIfInBounds_toArray, List.set_cons_zero, List.set_cons_succ])
    refine hK.out _ _ ⟨hH2.1.below b3, hH2.2.below b3⟩ (fun hHeld => ?_)
    clear hK K
    replace HB := Lib.hid (HB.out.call b3)
    (refine wpAnyH_take (i := 7) (v := ?_) rfl (by kernel_rfl) (by kernel_rfl) (by kernel_rfl) (fun _ _ _ h => h) (Or.inl ⟨by rfl, ?_⟩) hHeld ?_; rotate_left; (· (intro w' hSw; go_simp; try with_reducible rfl)); (try simp only [List.getElem_toArray, List.getElem_cons_zero, List.getElem_cons_succ, Act.put, List.setIfInBounds_toArray, List.set_cons_zero, List.set_cons_succ])); (refine wpAnyH_take (i := 8) (v := ?_) rfl (by kernel_rfl) (by kernel_rfl) (by kernel_rfl) (fun _ _ _ h => h) (Or.inl ⟨by rfl, ?_⟩) hHeld ?_; rotate_left; (· (intro w' hSw; go_simp; try with_reducible rfl)); (try simp only [List.getElem_toArray, List.getElem_cons_zero, List.getElem_cons_succ, Act.put, List.setIfInBounds_toArray, List.set_cons_zero, List.set_cons_succ]))
    refine wpAnyH_done (by kernel_rfl) ?_ _
    go_wp2_with fail
    go_ret2
    exact ⟨by rw [E.out.1, E.out.2]; rfl, HB.out⟩
end Go.Proofs.Ytnldnjnnjfbhnab.base
end
