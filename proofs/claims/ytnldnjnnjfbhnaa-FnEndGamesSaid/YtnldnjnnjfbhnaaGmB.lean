/-
  Games on the program's side, walked: the value of a rack from those behind one turn.
-/
import Derived.Test.YtnldnjnnjfbhnaaGmG
namespace Go.Proofs.Ytnldnjnnjfbhnaa.base
open Go.ChangeShapes Go.WideShapes Go.ChangeAt Go.RowKit
set_option linter.unusedVariables false
set_option linter.unusedSimpArgs false

section
variable {P : Program} {ops : Array Oper} {rest : List Oper} {op : Oper} {a : Act} {w : World} {Q : Exit → Act → World → Prop}
theorem slice_loG (hw : Region.wanted op (yielded ops a.tmps) = true) (T : TypeId) (x y : Operand) (ho : op.op = .slice T x (some y) none none) (u p v : Value) (hx : a.eval x = u) (hy : a.eval y = p)
    (hq : (Instr.sliceAt T u (some p) none none).run P w = .ok v w)
    (h : wpList P ops Q rest (a.put op.dst v) w) : wpList P ops Q (op :: rest) a w :=
  wpList_wanted hw fun _ hK => by
    unfold Oper.wp execOp
    simp only [ho, hx, hy, Option.map_some, Option.map_none, Sem.run_bind, hq, Result.andThen_ok, Sem.run_pure]
    exact hK _ _ h
end
theorem elemG : Try.prog.underlying 64 = some (.slice (Try.prog.elem 64)) := by kernel_rfl
theorem sizeG (w : World) : (sizeOf (Try.prog.elem 64)).run Try.prog w = .ok 26 w := by kernel_rfl
theorem run_loG (g len cap : Nat) (hq : 1 ≤ len) : ∃ o2, (cap = 1 ∨ o2 = 26) ∧ ∀ w : World, (Instr.sliceAt 64 (.slice (some ⟨g, 0, none⟩) len cap) (some (.int .i64 1)) none none).run Try.prog w = .ok (.slice (some ⟨g, o2, none⟩) (len - 1) (cap - 1)) w := by
  by_cases h : cap = 1
  · refine ⟨0, Or.inl h, fun w => ?_⟩
    rw [run_sliceAt_slice w 64 _ _ _ _ elemG, run_slice_l w 64 (some ⟨g, 0, none⟩) len cap elemG .i64 (1 : Int) (by omega) (by omega), sizeG]
    simp only [Result.andThen_ok, sliced, Option.map_some]
    have e : cap = Int.toNat 1 := by rw [h]; rfl
    rw [if_pos e]; rfl
  · refine ⟨26, Or.inr rfl, fun w => ?_⟩
    rw [run_sliceAt_slice w 64 _ _ _ _ elemG, run_slice_l w 64 (some ⟨g, 0, none⟩) len cap elemG .i64 (1 : Int) (by omega) (by omega), sizeG]
    simp only [Result.andThen_ok, sliced, Option.map_some]
    have e : ¬ cap = Int.toNat 1 := by intro hh; exact h (by rw [hh]; rfl)
    rw [if_neg e]; rfl
theorem Gr.room {w : World} {b n g cap m : Nat} {t : TypeId} {ls : List (List Int)} (h : Gr w b t m (.slice (some ⟨g, 0, Option.none⟩) n cap) ls) : n ≤ cap ∧ cap ≤ maxLen := by
  rcases h.row.2 with ⟨h0, _⟩ | ⟨g', cap', cur, hv, _, _, hc, hm, _⟩
  · cases h0
  · injection hv with _ e2 e3; omega

set_option maxHeartbeats 3200000 in
set_option maxRecDepth 100000 in
theorem best_any (F : Nat) (no : Int) (pt : List Int → Nat → Int) (PF : Pts F pt) (gm : Gam pt no) (ns : List Int) (G : GR ns) (mb : Nat) (K : List (List Int)) (V : List Int → Int) (w : World) (M : VM w mb K V) :
    Calls Try.prog 41 #[.agg (gmC F no).toArray, row ns, .map (some mb)] w fun e w' => e = .returned (.int .i64 (gbest pt no V ns)) ∧ Kept w w' := by
  have h24 := G.1
  have HB := Lib.hid (((kept_refl w).alloc (.cells (gmC F no).toArray 55)).alloc (.cells (ints ns).toArray 27))
  have BG := (Bk.box w (gmC F no) 55).alloc (.cells (ints ns).toArray 27)
  have H := (Has.box (w.alloc (.cells (gmC F no).toArray 55)) 27 h24 (by omega)).at (size1 _ _)
  have MM := Lib.hid ((M.alloc (.cells (gmC F no).toArray 55)).alloc (.cells (ints ns).toArray 27))
  have KT := Lib.hid (fun W => turnsOf_any ns W G)
  have KW := Lib.hid (fun k hk W (hm : VM W mb K V) => worth_any F no pt PF gm ns k G hk mb K V W hm)
  have T26 := Lib.hid (fun k => trn_len h24 k)
  have VB := Lib.hid (show ∀ k, -18 ≤ pt ns k - V (nxR ns k) ∧ pt ns k - V (nxR ns k) ≤ 18 from fun k => by have := gm.pt6 ns k; have := M.le (nxR ns k); omega)
  have EB : Hid (gbest pt no V ns = if usefNA ns = 0 then no else mxU (fun k => pt ns k - V (nxR ns k)) (usefNA ns - 1)) := Lib.hid rfl
  have N30 := use30 ns
  have hi1 : (Try.prog.info? 55).map (·.size) = some (gmC F no).length := by rw [gmC_len]; kernel_rfl
  have hi2 : (Try.prog.info? 27).map (·.size) = some (ints ns).length := by rw [ints_len, h24]; kernel_rfl
  have c1 := BG.cell 1 (v := .int .i64 no) rfl
  obtain ⟨f, hf⟩ : ∃ f, (fun k => pt ns k - V (nxR ns k)) = f := ⟨_, rfl⟩
  have HF := Lib.hid (show ∀ k, pt ns k - V (nxR ns k) = f k from fun k => by rw [← hf])
  rw [hf] at EB
  rw [row_ints]
  clear M PF gm hf G h24
  go_enter Try.func41, Try.ntmps41
  go_wp2_with (refine load_has rfl 27 _ rfl _ rfl ?_ 24 ?_ _ Try.underlying27 rfl ?_ ?_; rotate_left; (· (repeat (first | (with_reducible assumption) | ((with_reducible refine Has.box _ _ ?_ ?_) <;> (first | assumption | decide)) | (with_reducible refine Has.alloc ?_ _) | ((with_reducible refine Has.putOther ?_ _ _ ?_); rotate_left; omega; skip) | ((with_reducible refine Has.below ?_ ?_); rotate_left; assumption)))); (· kernel_rfl))
  refine (KT.out _).mono ?_
  rintro e w1 ⟨v, rfl, q1, b1⟩
  obtain ⟨a0, cap0, rfl⟩ := q1.shape
  rw [trL_len] at q1 ⊢
  replace BG := BG.below b1
  replace H := H.below b1
  replace HB := Lib.hid (HB.out.call b1)
  replace MM := Lib.hid (MM.out.below b1)
  have GT := Lib.hid (q1.mono (b' := 0) (Nat.zero_le _))
  replace c1 := BG.cell 1 (v := .int .i64 no) rfl
  clear q1 b1 KT
  obtain ⟨N, hN⟩ : ∃ N, usefNA ns = N := ⟨_, rfl⟩
  have HN := Lib.hid hN
  rw [hN] at GT EB N30 KW ⊢
  clear hN
  by_cases h0 : N = 0
  · subst h0
    have E := Lib.hid (show gbest pt no V ns = no by rw [EB.out, if_pos rfl])
    go_wp2_with fail
    go_ret
    exact ⟨by rw [E.out]; rfl, HB.out⟩
  have n0 : ((N : Int) == 0) = false := by simp; omega
  have E := Lib.hid (show gbest pt no V ns = mxU f (N - 1) by rw [EB.out, if_neg h0])
  have Np : 0 < N := by omega
  obtain ⟨g, cap, he, _, hgl⟩ := GT.out.form (by rw [trL_len]; omega)
  rw [trL_len] at he
  injection he with e1 _ e3
  subst e1
  subst e3
  have hroom := GT.out.room
  obtain ⟨o2, ho2, RL⟩ := run_loG g N cap0 (by omega)
  have HO := Lib.hid (show 1 < N → o2 = 26 from fun h => by rcases ho2 with h1 | h1 <;> omega)
  clear EB ho2
  have RG0 := Lib.hid (fun W (h : Gr W 0 67 26 (.slice (some ⟨g, 0, none⟩) N cap0) (trL ns N)) => by
    have := h.range (trL_len ns N).symm 0 Np
    rw [trL_get ns Np] at this
    exact this)
  have l260 := T26.out 0
  have KW0 := Lib.hid (fun W hm => KW.out 0 Np W hm)
  rw [HF.out 0] at KW0
  obtain ⟨t0, ht0⟩ : ∃ t0, trn ns 0 = t0 := ⟨_, rfl⟩
  rw [ht0] at RG0 l260 KW0
  clear ht0
  have hit : (Try.prog.info? 67).map (·.size) = some (ints t0).length := by rw [ints_len, l260]; kernel_rfl
  go_wp2_with fail
  refine wp_region_held_drew (S := fun w' => Bk w' w.heap.size (gmC F no) 55 ∧ Has w' (w.heap.size + 1) ns 24 ∧ Gr w' 0 67 26 (.slice (some ⟨g, 0, none⟩) N cap0) (trL ns N)) (by kernel_rfl) ⟨BG, H.drew, GT.out.drew⟩ (fun hHeld => ?_)
  replace HB := Lib.hid (keptDrew8G HB.out)
  replace MM := Lib.hid MM.out.drew
  replace BG := hHeld.1
  replace H := hHeld.2.1
  replace GT := Lib.hid hHeld.2.2
  generalize w1.drew = W1 at *
  (refine wpAnyH_take (i := 1) (v := ?_) rfl (by kernel_rfl) (by kernel_rfl) (by kernel_rfl) (fun _ _ _ h => h) (Or.inl ⟨by rfl, ?_⟩) hHeld ?_; rotate_left; (· (intro w' hSw; go_simp; try with_reducible rfl)); (try simp only [List.getElem_toArray, List.getElem_cons_zero, List.getElem_cons_succ, Act.put, List.setIfInBounds_toArray, List.set_cons_zero, List.set_cons_succ])); (refine wpAnyH_take (i := 2) (v := ?_) rfl (by kernel_rfl) (by kernel_rfl) (by kernel_rfl) (fun _ _ _ h => h) (Or.inl ⟨by rfl, ?_⟩) hHeld ?_; rotate_left; (· (intro w' hSw; go_simp; try with_reducible rfl)); (try simp only [List.getElem_toArray, List.getElem_cons_zero, List.getElem_cons_succ, Act.put, List.setIfInBounds_toArray, List.set_cons_zero, List.set_cons_succ])); (refine wpAnyH_take (i := 5) (v := ?_) rfl (by kernel_rfl) (by kernel_rfl) (by kernel_rfl) (fun _ _ _ h => h) (Or.inl ⟨by rfl, ?_⟩) hHeld ?_; rotate_left; (· (intro w' hSw; go_simp; try with_reducible rfl)); (try simp only [List.getElem_toArray, List.getElem_cons_zero, List.getElem_cons_succ, Act.put, List.setIfInBounds_toArray, List.set_cons_zero, List.set_cons_succ]))
  (refine wpAnyH_take (i := 0) (v := _) rfl (by kernel_rfl) (by kernel_rfl) (by kernel_rfl) (fun _ _ _ h => h) (yieldsIf_load_mid (by rfl) 55 _ rfl _ _ rfl (gmC F no) _ (fun w' hSw => hSw.1.range) Try.underlying55 rfl (hi1)) hHeld ?_; (try simp only [List.getElem_toArray, List.getElem_cons_zero, List.getElem_cons_succ, Act.put, List.setIfInBounds_toArray, List.set_cons_zero, List.set_cons_succ]))
  refine wpAnyH_take (i := 3) (v := .agg (ints t0).toArray) rfl (by kernel_rfl) (by kernel_rfl) (by kernel_rfl) (fun _ _ _ h => h) (yieldsIf_load_mid (by rfl) 67 _ rfl g (0 * 26) rfl (ints t0) _ (fun w' hSw => RG0.out w' hSw.2.2) Try.underlying67 rfl (hit)) hHeld ?_
  (try simp only [List.getElem_toArray, List.getElem_cons_zero, List.getElem_cons_succ, Act.put, List.setIfInBounds_toArray, List.set_cons_zero, List.set_cons_succ])
  (refine wpAnyH_take (i := 4) (v := _) rfl (by kernel_rfl) (by kernel_rfl) (by kernel_rfl) (fun _ _ _ h => h) (yieldsIf_load_mid (by rfl) 27 _ rfl _ _ rfl (ints ns) _ (fun w' hSw => hSw.2.1.holds.range) Try.underlying27 rfl (hi2)) hHeld ?_; (try simp only [List.getElem_toArray, List.getElem_cons_zero, List.getElem_cons_succ, Act.put, List.setIfInBounds_toArray, List.set_cons_zero, List.set_cons_succ]))
  (refine wpAnyH_ready (rs := [6]) (by kernel_rfl) (by simp) ?_; refine AllReadyH.cons (o := _) rfl (fun K hK => ?_) AllReadyH.nil; (simp only [List.getElem_toArray, List.getElem_cons_zero, List.getElem_cons_succ, Region.wanted, if_true]))
  go_simp
  refine (KW0.out _ MM.out).mono ?_
  rintro e w2 ⟨rfl, b2⟩
  dsimp only
  (try simp only [List.getElem_toArray, List.getElem_cons_zero, List.getElem_cons_succ, Act.put, List.setIfInBounds_toArray, List.set_cons_zero, List.set_cons_succ])
  refine hK.out _ _ ⟨hHeld.1.below b2, hHeld.2.1.below b2, hHeld.2.2.below b2⟩ (fun hHeld => ?_)
  clear hK K
  (refine wpAnyH_take (i := 7) (v := ?_) rfl (by kernel_rfl) (by kernel_rfl) (by kernel_rfl) (fun _ _ _ h => h) (Or.inl ⟨by rfl, ?_⟩) hHeld ?_; rotate_left; (· (intro w' hSw; go_simp; try with_reducible rfl)); (try simp only [List.getElem_toArray, List.getElem_cons_zero, List.getElem_cons_succ, Act.put, List.setIfInBounds_toArray, List.set_cons_zero, List.set_cons_succ]))
  refine wpAnyH_done (by kernel_rfl) ?_ _
  replace BG := BG.below b2
  replace H := H.below b2
  replace GT := Lib.hid (GT.out.below b2)
  replace HB := Lib.hid (HB.out.call b2)
  replace MM := Lib.hid (MM.out.below b2)
  clear hHeld b2 RG0 KW0 hit c1
  have F0 : Hid (f 0 = mxU f 0) := Lib.hid rfl
  rw [F0.out]
  go_wp2_with (refine slice_loG rfl 64 _ _ rfl (.slice (some ⟨g, 0, none⟩) N cap0) (.int .i64 1) _ rfl rfl (RL _) ?_)
  go_loopw [8, 28] (fun m i wr => ∃ k : Nat, k ≤ N - 1 ∧ i = .int .i64 k ∧ m = .int .i64 (mxU f k) ∧ Bk wr w.heap.size (gmC F no) 55 ∧ Has wr (w.heap.size + 1) ns 24 ∧ Hid (Gr wr 0 67 26 (.slice (some ⟨g, 0, none⟩) N cap0) (trL ns N)) ∧ Hid (VM wr mb K V) ∧ Hid (Kept w wr)) (fun _ z _ => N - 1 - (intOf z).toNat)
  case atStart => exact ⟨0, by omega, rfl, rfl, BG, H, GT, MM, HB⟩
  case round =>
    clear BG H GT MM HB hgl hroom
    obtain ⟨k, hk, rfl, rfl, BG, H, GT, MM, GB⟩ := hrel
    by_cases hkN : k < N - 1
    · have hki : (k : Int) < ((N - 1 : Nat) : Int) := by omega
      have hk0 : (0 : Int) ≤ (k : Int) := by omega
      have ho := HO.out (by omega)
      subst ho
      have RG := Lib.hid (GT.out.range (trL_len ns N).symm (k + 1) (by omega))
      rw [trL_get ns (by omega), show (k + 1) * 26 = 26 + k * 26 by omega] at RG
      have l26 := T26.out (k + 1)
      have KWk := Lib.hid (fun W hm => KW.out (k + 1) (by omega) W hm)
      have EM : mxU f (k + 1) = max (mxU f k) (f (k + 1)) := rfl
      rw [HF.out (k + 1)] at KWk
      obtain ⟨t, ht⟩ : ∃ t, trn ns (k + 1) = t := ⟨_, rfl⟩
      rw [ht] at RG l26 KWk
      clear ht
      have b3 := VB.out (k + 1)
      rw [HF.out (k + 1)] at b3
      have b4 := mxU_in (g := f) (a := -18) (b := 18) k (fun j _ => by rw [← HF.out j]; exact VB.out j)
      have HM := Lib.hid EM
      have l26i : (ints t).length = 26 := by rw [ints_len]; exact l26
      have HX := Has.box wr 67 l26 (by omega)
      have hbl := BG.lt
      have hhl := H.lt
      replace BG := BG.alloc (.cells (ints t).toArray 67)
      replace H := H.alloc (.cells (ints t).toArray 67)
      replace GT := Lib.hid (GT.out.alloc (.cells (ints t).toArray 67))
      replace MM := Lib.hid (MM.out.alloc (.cells (ints t).toArray 67))
      replace GB := Lib.hid (GB.out.alloc (.cells (ints t).toArray 67))
      clear EM
      go_upto_region 8 with (first | (refine wpList_load_mid rfl 67 _ rfl g (26 + k * 26) rfl (ints t) _ RG.out Try.underlying67 rfl (by rw [l26i]; kernel_rfl) ?_) | (refine store_new rfl 67 _ _ rfl _ _ _ rfl _ rfl _ rfl rfl ?_ ?_ ?_; (· (first | assumption | rfl)); (· kernel_rfl)))
      generalize wr.alloc (.cells (ints t).toArray 67) = W2 at *
      clear RG
      go_wp2_with (first | (refine load_bk rfl 55 _ rfl _ rfl _ _ BG _ Try.underlying55 rfl ?_ ?_; (· kernel_rfl)) | (refine load_has rfl 67 _ rfl _ rfl ?_ 26 ?_ _ Try.underlying67 rfl ?_ ?_; rotate_left; (· (repeat (first | (with_reducible assumption) | ((with_reducible refine Has.box _ _ ?_ ?_) <;> (first | assumption | decide)) | (with_reducible refine Has.alloc ?_ _) | ((with_reducible refine Has.putOther ?_ _ _ ?_); rotate_left; omega; skip) | ((with_reducible refine Has.below ?_ ?_); rotate_left; assumption)))); (· kernel_rfl)) | (refine load_has rfl 27 _ rfl _ rfl ?_ 24 ?_ _ Try.underlying27 rfl ?_ ?_; rotate_left; (· (repeat (first | (with_reducible assumption) | ((with_reducible refine Has.box _ _ ?_ ?_) <;> (first | assumption | decide)) | (with_reducible refine Has.alloc ?_ _) | ((with_reducible refine Has.putOther ?_ _ _ ?_); rotate_left; omega; skip) | ((with_reducible refine Has.below ?_ ?_); rotate_left; assumption)))); (· kernel_rfl)))
      refine (KWk.out _ MM.out).mono ?_
      rintro e w5 ⟨rfl, b5⟩
      replace BG := BG.below b5
      replace H := H.below b5
      replace GT := Lib.hid (GT.out.below b5)
      replace MM := Lib.hid (MM.out.below b5)
      replace GB := Lib.hid (GB.out.call b5)
      clear b5 HX KWk
      go_wp2_with fail
      go_roundw
      case rel => exact ⟨k + 1, by omega, by go_num, by rw [HM.out]; exact congrArg (Value.int IntKind.i64) (by split <;> omega), BG, H, GT, MM, GB⟩
      case measure => simp [intOf]; omega
    · obtain rfl : k = N - 1 := by omega
      go_wp2_with fail
      go_ret
      exact ⟨by rw [E.out]; rfl, GB.out⟩
end Go.Proofs.Ytnldnjnnjfbhnaa.base
