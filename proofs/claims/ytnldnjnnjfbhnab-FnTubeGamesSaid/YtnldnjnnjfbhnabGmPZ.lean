/-
  What a turn gets in the game for tubes, walked.
-/
/-
  PlayParty on the program's side, walked.
-/
import Derived.Test.YtnldnjnnjfbhnabGmWZ
import Derived.Test.YtnldnjnnjfbhnabPpMZ


section
namespace Go.Proofs.Ytnldnjnnjfbhnab.base
open Go.ChangeShapes Go.WideShapes Go.ChangeAt Go.RowKit
set_option linter.unusedVariables false
set_option linter.unusedSimpArgs false

theorem build2P (w : World) : (Instr.build 36 #[]).run Try.prog w = .ok (.agg (ints [0, 0]).toArray) w := by kernel_rfl
theorem res_has4 {P : Program} {fn : Func} {p p' q q' : Tmp} {T T' : TypeId} (h : fn.results = #[.cell p T, .cell p' T', .tmp q, .tmp q']) (tmps : Array Value) (w : World) (b b' : Nat) (ns ms : List Int) (n n' : Nat) (d d' : TypeDesc) (v v' : Value)
    (hp : tmps.getD p undef = .pointer (some ⟨b, 0, none⟩)) (hp' : tmps.getD p' undef = .pointer (some ⟨b', 0, none⟩)) (hq : tmps.getD q undef = v) (hq' : tmps.getD q' undef = v') (H : Has w b ns n) (H' : Has w b' ms n') (hu : P.underlying T = some d) (hd : d.isRow = true) (hi : (P.info? T).map (·.size) = some n) (hu' : P.underlying T' = some d') (hd' : d'.isRow = true) (hi' : (P.info? T').map (·.size) = some n') :
    (results fn tmps).run P w = .ok (.tuple #[.agg (ints ns).toArray, .agg (ints ms).toArray, v, v']) w := by
  have e1 : tmps[p]?.getD undef = .pointer (some ⟨b, 0, none⟩) := by simpa using hp
  have e2 : tmps[p']?.getD undef = .pointer (some ⟨b', 0, none⟩) := by simpa using hp'
  have e3 : tmps[q]?.getD undef = v := by simpa using hq
  have e4 : tmps[q']?.getD undef = v' := by simpa using hq'
  have l1 := run_loadVar_mid (P := P) w b 0 T (ints ns) d H.holds.range hu hd (by rw [ints_len, H.len]; exact hi)
  have l2 := run_loadVar_mid (P := P) w b' 0 T' (ints ms) d' H'.holds.range hu' hd' (by rw [ints_len, H'.len]; exact hi')
  simp [results, h, e1, e2, e3, e4, asAddr, l1, l2]
set_option maxHeartbeats 400000 in
theorem arePathG_any (ns : List Int) (a : Option Addr) (n cap : Nat) (w : World) (h24 : ns.length = 24) (hn : n ≤ 1048576) :
    Calls Try.prog 39 #[row ns, .slice a n cap] w fun e w' => e = .returned (.bool (pathOkG ns n)) ∧ Kept w w' := by
  have HB := Lib.hid ((kept_refl w).alloc (.cells (ints ns).toArray 27))
  have H := Has.box w 27 h24 (by omega)
  rw [row_ints]
  go_enter Try.func39, Try.ntmps39
  go_wp2_with (refine load_has rfl 27 _ rfl _ rfl ?_ 24 ?_ _ Try.underlying27 rfl ?_ ?_; rotate_left; (· (repeat (first | (with_reducible assumption) | ((with_reducible refine Has.box _ _ ?_ ?_) <;> (first | assumption | decide)) | (with_reducible refine Has.alloc ?_ _) | ((with_reducible refine Has.putOther ?_ _ _ ?_); rotate_left; omega; skip) | ((with_reducible refine Has.below ?_ ?_); rotate_left; assumption)))); (· kernel_rfl))
  refine (isRack_any ns _ h24).mono ?_
  rintro e w1 ⟨rfl, b1⟩
  have HB1 := Lib.hid (HB.out.call b1)
  clear H HB b1
  by_cases hv : vR ns = true
  · have E : Hid (pathOkG ns n = decide ((n : Int) ≤ 60)) := Lib.hid (by unfold pathOkG; rw [hv, Bool.true_and, decide_eq_decide]; omega)
    rw [hv]
    clear hv
    go_wp2_with fail
    go_ret
    exact ⟨ret_bool E.out.symm, HB1.out⟩
  · have hf : vR ns = false := by simpa using hv
    have E : Hid (pathOkG ns n = false) := Lib.hid (by unfold pathOkG; rw [hf]; rfl)
    rw [hf]
    clear hf hv
    go_wp2_with fail
    go_ret
    exact ⟨ret_bool E.out.symm, HB1.out⟩

theorem exec_build0 {P : Program} {ev : Operand → Value} {op : Oper} {w : World} {T : TypeId} {r : Value} (ho : op.op = .build T #[]) (hq : (Instr.build T #[]).run P w = .ok r w) : Sem.run P (execOp ev op) w = .ok (.value r) w := by
  unfold execOp
  simp only [ho, Sem.run_bind, List.map_toArray, List.map_nil, hq, Result.andThen_ok, Sem.run_pure]
theorem pathG_of {ns : List Int} {n : Nat} (h : pathOkG ns n = true) : vR ns = true ∧ n ≤ 60 := by
  unfold pathOkG at h
  rw [Bool.and_eq_true_iff, decide_eq_true_eq] at h
  exact h
theorem Rw.ownltP {w : World} {b n : Nat} {v : Value} {fs : List Int} (h : Rw w b v n fs) (hn : 0 < n) : ∀ k, v.ownBlock = some k → k < w.heap.size := fun k hk => (h.ownlt hn k hk).2
theorem Rw.setOtherP {w : World} {b n : Nat} {v : Value} {fs : List Int} (h : Rw w b v n fs) (c k : Nat) (x : Value) (hne : 0 < n → ∀ z, v.ownBlock = some z → z ≠ c) : Rw (w.setCell ⟨c, k, none⟩ x) b v n fs :=
  h.puts c k [x] (fun hn e => hne hn c e rfl)

set_option maxHeartbeats 6400000 in
set_option maxRecDepth 100000 in
theorem implParty (ns fs : List Int) (v : Value) (n b : Nat) (w : World) (h24 : ns.length = 24) (hn : n ≤ 1048576) (h : Rw w b v n fs) :
    Calls Try.prog 16 #[row ns, v] w fun e w' => e = .returned (.tuple #[row (ppRA ns fs n), row (ppPA ns fs n), .int .i64 (ppNA ns fs n : Nat), .bool (pathOkG ns n)]) ∧ Kept w w' := by
  have R0 := Lib.hid ((((((h.mono (b' := 0) (Nat.zero_le _)).alloc (.cells (ints ns).toArray 27)).alloc (.cells #[.int .i64 0, .int .i64 0, .int .i64 0, .int .i64 0, .int .i64 0, .int .i64 0, .int .i64 0, .int .i64 0, .int .i64 0, .int .i64 0, .int .i64 0, .int .i64 0, .int .i64 0, .int .i64 0, .int .i64 0, .int .i64 0, .int .i64 0, .int .i64 0, .int .i64 0, .int .i64 0, .int .i64 0, .int .i64 0, .int .i64 0, .int .i64 0] 27)).alloc (.cells #[.int .i64 0, .int .i64 0] 36)).alloc (.cells (ints [0, 0]).toArray 36)))
  have OW0 := Lib.hid (fun (hn : 0 < n) z hz => (Rw.ownltP h hn z hz))
  have HB := Lib.hid (((((kept_refl w).alloc (.cells (ints ns).toArray 27)).alloc (.cells #[.int .i64 0, .int .i64 0, .int .i64 0, .int .i64 0, .int .i64 0, .int .i64 0, .int .i64 0, .int .i64 0, .int .i64 0, .int .i64 0, .int .i64 0, .int .i64 0, .int .i64 0, .int .i64 0, .int .i64 0, .int .i64 0, .int .i64 0, .int .i64 0, .int .i64 0, .int .i64 0, .int .i64 0, .int .i64 0, .int .i64 0, .int .i64 0] 27)).alloc (.cells #[.int .i64 0, .int .i64 0] 36)).alloc (.cells (ints [0, 0]).toArray 36))
  have H := (((Has.box w 27 h24 (by omega)).alloc (.cells #[.int .i64 0, .int .i64 0, .int .i64 0, .int .i64 0, .int .i64 0, .int .i64 0, .int .i64 0, .int .i64 0, .int .i64 0, .int .i64 0, .int .i64 0, .int .i64 0, .int .i64 0, .int .i64 0, .int .i64 0, .int .i64 0, .int .i64 0, .int .i64 0, .int .i64 0, .int .i64 0, .int .i64 0, .int .i64 0, .int .i64 0, .int .i64 0] 27)).alloc (.cells #[.int .i64 0, .int .i64 0] 36)).alloc (.cells (ints [0, 0]).toArray 36)
  have Z := (((Has.zero24 (w.alloc (.cells (ints ns).toArray 27)) 27).at (size1 _ _)).alloc (.cells #[.int .i64 0, .int .i64 0] 36)).alloc (.cells (ints [0, 0]).toArray 36)
  have Y := ((Has.box (ns := [0, 0]) (n := 2) ((w.alloc (.cells (ints ns).toArray 27)).alloc (.cells #[.int .i64 0, .int .i64 0, .int .i64 0, .int .i64 0, .int .i64 0, .int .i64 0, .int .i64 0, .int .i64 0, .int .i64 0, .int .i64 0, .int .i64 0, .int .i64 0, .int .i64 0, .int .i64 0, .int .i64 0, .int .i64 0, .int .i64 0, .int .i64 0, .int .i64 0, .int .i64 0, .int .i64 0, .int .i64 0, .int .i64 0, .int .i64 0] 27)) 36 rfl (by omega)).at (c := w.heap.size + 1 + 1) (by simp)).alloc (.cells (ints [0, 0]).toArray 36)
  have PT := (Has.box (ns := [0, 0]) (n := 2) (((w.alloc (.cells (ints ns).toArray 27)).alloc (.cells #[.int .i64 0, .int .i64 0, .int .i64 0, .int .i64 0, .int .i64 0, .int .i64 0, .int .i64 0, .int .i64 0, .int .i64 0, .int .i64 0, .int .i64 0, .int .i64 0, .int .i64 0, .int .i64 0, .int .i64 0, .int .i64 0, .int .i64 0, .int .i64 0, .int .i64 0, .int .i64 0, .int .i64 0, .int .i64 0, .int .i64 0, .int .i64 0] 27)).alloc (.cells #[.int .i64 0, .int .i64 0] 36)) 36 rfl (by omega)).at (c := w.heap.size + 1 + 1 + 1) (by simp)
  obtain ⟨a, cap, rfl⟩ := h.shape
  have hi0 : (Try.prog.info? 27).map (·.size) = some 24 := by kernel_rfl
  have hiP : (Try.prog.info? 36).map (·.size) = some 2 := by kernel_rfl
  have ERA : Hid (ppRA ns fs n = if pathOkG ns n = true then ppR ns fs (ppN ns fs n) else z24) := Lib.hid rfl
  have EPA : Hid (ppPA ns fs n = if pathOkG ns n = true then ppP ns fs (ppN ns fs n) else [0, 0]) := Lib.hid rfl
  have ENA : Hid (ppNA ns fs n = if pathOkG ns n = true then ppN ns fs n else 0) := Lib.hid rfl
  rw [row_ints, row_ints, row_ints]
  clear h
  go_enter Try.func16, Try.ntmps16
  go_wp2_with (first | (refine load_has rfl 27 _ rfl _ rfl ?_ 24 ?_ _ Try.underlying27 rfl ?_ ?_; rotate_left; (· (repeat (first | (with_reducible assumption) | ((with_reducible refine Has.box _ _ ?_ ?_) <;> (first | assumption | decide)) | (with_reducible refine Has.alloc ?_ _) | ((with_reducible refine Has.putOther ?_ _ _ ?_); rotate_left; omega; skip) | ((with_reducible refine Has.below ?_ ?_); rotate_left; assumption)))); (· kernel_rfl)) | (refine build_law rfl 36 rfl _ build2P ?_) | (refine store_new rfl 36 _ _ rfl _ _ _ rfl _ (by simp) [0, 0] rfl rfl ?_ ?_ ?_; (· (first | assumption | rfl)); (· kernel_rfl)))
  refine (arePathG_any ns a n cap _ h24 hn).mono ?_
  rintro e w1 ⟨rfl, b1⟩
  replace H := H.below b1
  replace Z := Z.below b1
  replace Y := Y.below b1
  replace PT := PT.below b1
  replace R0 := Lib.hid (R0.out.below b1)
  replace HB := Lib.hid (HB.out.call b1)
  clear b1
  cases hok : pathOkG ns n with
  | false =>
    have EO := Lib.hid hok
    obtain ⟨ZZ, hZZ⟩ : ∃ ZZ : List Int, ZZ = z24 := ⟨_, rfl⟩
    obtain ⟨QQ, hQQ⟩ : ∃ QQ : List Int, QQ = [0, 0] := ⟨_, rfl⟩
    have E := Lib.hid (show ppRA ns fs n = ZZ ∧ ppPA ns fs n = QQ ∧ ppNA ns fs n = 0 from ⟨by rw [ERA.out, if_neg (by rw [hok]; simp), hZZ], by rw [EPA.out, if_neg (by rw [hok]; simp), hQQ], by rw [ENA.out, if_neg (by rw [hok]; simp)]⟩)
    have ZL : ZZ.length = 24 := by rw [hZZ]; rfl
    have QL : QQ.length = 2 := by rw [hQQ]; rfl
    have BZ := Lib.hid (show ∀ W, (Instr.build 27 #[]).run Try.prog W = .ok (.agg (ints ZZ).toArray) W from fun W => by rw [hZZ]; exact buildRack W)
    have l24 : (ints ZZ).length = 24 := by rw [ints_len]; exact ZL
    have l02 : (ints QQ).length = 2 := by rw [ints_len]; exact QL
    have hiQ : (Try.prog.info? 36).map (·.size) = some (ints QQ).length := by rw [l02]; exact hiP
    rw [← hQQ] at PT
    clear hok hZZ hQQ
    go_wp2_with fail
    refine wp_region_held_drew (S := fun w' => Has w' (w.heap.size + 1 + 1 + 1) QQ 2) (by kernel_rfl) PT.drew (fun hHeld => ?_)
    replace Z := Z.drew
    replace Y := Y.drew
    replace HB := Lib.hid (keptDrew8G HB.out)
    clear H PT
    generalize World.drew _ = WF at *
    refine wpAnyH_take (i := 0) (v := .agg (ints ZZ).toArray) rfl (by kernel_rfl) (by kernel_rfl) (by kernel_rfl) (fun _ _ _ h => h) (Or.inl ⟨by rfl, ?_⟩) hHeld ?_
    · intro w' hSw
      exact exec_build0 rfl (BZ.out w')
    (try simp only [List.getElem_toArray, List.getElem_cons_zero, List.getElem_cons_succ, Act.put, List.setIfInBounds_toArray, List.set_cons_zero, List.set_cons_succ])
    (refine wpAnyH_take (i := 1) (v := _) rfl (by kernel_rfl) (by kernel_rfl) (by kernel_rfl) (fun _ _ _ h => h) (yieldsIf_load_mid (by rfl) 36 _ rfl _ _ rfl (ints QQ) _ (fun w' hSw => hSw.holds.range) Try.underlying36 rfl (hiQ)) hHeld ?_; (try simp only [List.getElem_toArray, List.getElem_cons_zero, List.getElem_cons_succ, Act.put, List.setIfInBounds_toArray, List.set_cons_zero, List.set_cons_succ]))
    (refine wpAnyH_ready (rs := [2]) (by kernel_rfl) (by simp) ?_; refine AllReadyH.cons (o := _) rfl (fun K hK => ?_) AllReadyH.nil; (simp only [List.getElem_toArray, List.getElem_cons_zero, List.getElem_cons_succ, Region.wanted, if_true]))
    refine wp_store_mid _ _ _ rfl _ _ (ints ZZ).toArray rfl rfl (by simpa [l24] using Z.there) (by simpa [l24] using hi0) (all_oneCell_toArray (ints_one _)) ?_
    (try simp only [List.getElem_toArray, List.getElem_cons_zero, List.getElem_cons_succ, Act.put, List.setIfInBounds_toArray, List.set_cons_zero, List.set_cons_succ, List.toList_toArray])
    refine hK.out _ _ (hHeld.putOther _ _ (by omega)) (fun hHeld => ?_)
    clear hK K
    have Z2 := Z.putAll ZZ ZL
    have Y2 := Y.putOther (b' := w.heap.size + 1) 0 (ints ZZ) (by omega)
    have HB2 := Lib.hid (HB.out.puts (b := w.heap.size + 1) (by omega) 0 (ints ZZ))
    (refine wpAnyH_ready (rs := [3]) (by kernel_rfl) (by simp) ?_; refine AllReadyH.cons (o := _) rfl (fun K hK => ?_) AllReadyH.nil; (simp only [List.getElem_toArray, List.getElem_cons_zero, List.getElem_cons_succ, Region.wanted, if_true]))
    refine wp_store_mid _ _ _ rfl _ _ (ints QQ).toArray rfl rfl (by simpa [l02] using Y2.there) (by simpa [l02] using hiP) (all_oneCell_toArray (ints_one _)) ?_
    (try simp only [List.getElem_toArray, List.getElem_cons_zero, List.getElem_cons_succ, Act.put, List.setIfInBounds_toArray, List.set_cons_zero, List.set_cons_succ, List.toList_toArray])
    refine hK.out _ _ (hHeld.putOther _ _ (by omega)) (fun hHeld => ?_)
    clear hK K
    have S1 := Lib.hid (Z2.putOther (b' := w.heap.size + 1 + 1) 0 (ints QQ) (by omega))
    have S2 := Lib.hid (Y2.putAll QQ QL)
    have S3 := Lib.hid (HB2.out.puts (b := w.heap.size + 1 + 1) (by omega) 0 (ints QQ))
    (refine wpAnyH_take (i := 4) (v := ?_) rfl (by kernel_rfl) (by kernel_rfl) (by kernel_rfl) (fun _ _ _ h => h) (Or.inl ⟨by rfl, ?_⟩) hHeld ?_; rotate_left; (· (intro w' hSw; go_simp; try with_reducible rfl)); (try simp only [List.getElem_toArray, List.getElem_cons_zero, List.getElem_cons_succ, Act.put, List.setIfInBounds_toArray, List.set_cons_zero, List.set_cons_succ])); (refine wpAnyH_take (i := 5) (v := ?_) rfl (by kernel_rfl) (by kernel_rfl) (by kernel_rfl) (fun _ _ _ h => h) (Or.inl ⟨by rfl, ?_⟩) hHeld ?_; rotate_left; (· (intro w' hSw; go_simp; try with_reducible rfl)); (try simp only [List.getElem_toArray, List.getElem_cons_zero, List.getElem_cons_succ, Act.put, List.setIfInBounds_toArray, List.set_cons_zero, List.set_cons_succ]))
    refine wpAnyH_done (by kernel_rfl) ?_ _
    clear hHeld Z Y Z2 Y2 HB HB2
    go_wp2_with fail
    exact bodyPost_ret (res_has4 rfl _ _ (w.heap.size + 1) (w.heap.size + 1 + 1) ZZ QQ 24 2 _ _ (.int .i64 0) (.bool false) rfl rfl rfl rfl S1.out S2.out Try.underlying27 rfl (by kernel_rfl) Try.underlying36 rfl (by kernel_rfl)) rfl ⟨by rw [E.out.1, E.out.2.1, E.out.2.2, EO.out]; rfl, S3.out⟩
  | true =>
    obtain ⟨hv, h60⟩ := pathG_of hok
    have EO := Lib.hid hok
    have G : GR ns := ⟨h24, hv⟩
    have GD := Lib.hid (fun k hk => pp_good fs G k hk)
    have N0 : Hid (ppN ns fs 0 = 0) := Lib.hid rfl
    have KT := Lib.hid (fun x p q W (hx : x.length = 24) => turnBy_any x p q W hx)
    have KP := Lib.hid (fun p q t x W (ht : GR t) (hx : GR x) => points_any p q t x W ht.1 hx.1 ht.2 hx.2)
    clear hok hv G h24
    go_wp2_with fail
    go_loopw [9, 23] (fun m i wr => ∃ k : Nat, k ≤ n ∧ i = .int .i64 k ∧ m = .int .i64 k ∧ Hid (ppN ns fs k = k) ∧ Has wr w.heap.size (ppR ns fs k) 24 ∧ Has wr (w.heap.size + 1 + 1 + 1) (ppP ns fs k) 2 ∧ Has wr (w.heap.size + 1) z24 24 ∧ Has wr (w.heap.size + 1 + 1) [0, 0] 2 ∧ Hid (Rw wr 0 (.slice a n cap) n fs) ∧ Hid (Kept w wr)) (fun _ z _ => n - (intOf z).toNat)
    case atStart => exact ⟨0, by omega, rfl, rfl, N0, H, PT, Z, Y, R0, HB⟩
    case round =>
      clear H PT Z Y R0 HB
      obtain ⟨k, hk, rfl, rfl, KN, H, PT, Z, Y, R0, HB⟩ := hrel
      have gk := GD.out k KN.out
      by_cases hkn : k < n
      · have hki : (k : Int) < (n : Int) := by omega
        have hk0 : (0 : Int) ≤ (k : Int) := by omega
        obtain ⟨g, gc, he, _, hgl⟩ := R0.out.form (by omega)
        injection he with e1 _ e3
        subst e1
        subst e3
        have RG := Lib.hid (range_two (R0.out.cell (k * 2) (by omega)) (R0.out.cell (k * 2 + 1) (by omega)))
        have STOP := Lib.hid (fun h => ppN_stop (ns := ns) (fs := fs) KN.out h n hk)
        have STEP := Lib.hid (fun h => ppN_step (ns := ns) (fs := fs) KN.out h)
        have ET : Hid (ppT ns fs k = tbOk (ppR ns fs k) (fs.getD (k * 2) 0) (fs.getD (k * 2 + 1) 0)) := Lib.hid rfl
        have ER : Hid (ppR ns fs (k + 1) = pourR (ppR ns fs k) (fs.getD (k * 2) 0) (fs.getD (k * 2 + 1) 0)) := Lib.hid rfl
        have EP : Hid (ppP ns fs (k + 1) = (ppP ns fs k).set (k % 2) ((ppP ns fs k).getD (k % 2) 0 + ((cmN (ppR ns fs (k + 1)) : Int) - (cmN (ppR ns fs k) : Int)))) := Lib.hid rfl
        obtain ⟨x, hx⟩ : ∃ x, fs.getD (k * 2) 0 = x := ⟨_, rfl⟩
        obtain ⟨y, hy⟩ : ∃ y, fs.getD (k * 2 + 1) 0 = y := ⟨_, rfl⟩
        rw [hx, hy] at RG ET ER
        clear hx hy
        have KTk := Lib.hid (fun W => KT.out (ppR ns fs k) x y W gk.1)
        have l26 := tbR_len gk.1 x y
        have ETB : Hid (tbR (ppR ns fs k) x y = if tbOk (ppR ns fs k) x y = true then x :: y :: pourR (ppR ns fs k) x y else z26) := Lib.hid rfl
        have HX := Has.box (ns := [x, y]) (n := 2) wr 36 rfl (by omega)
        have hl0 := PT.lt
        replace H := H.alloc (.cells (ints [x, y]).toArray 36)
        replace PT := PT.alloc (.cells (ints [x, y]).toArray 36)
        replace Z := Z.alloc (.cells (ints [x, y]).toArray 36)
        replace Y := Y.alloc (.cells (ints [x, y]).toArray 36)
        replace R0 := Lib.hid (R0.out.alloc (.cells (ints [x, y]).toArray 36))
        replace HB := Lib.hid (HB.out.alloc (.cells (ints [x, y]).toArray 36))
        go_wp2_with (first | (refine wpList_load_mid rfl 36 _ rfl g (k * 2) rfl (ints [x, y]) _ RG.out Try.underlying36 rfl (by kernel_rfl) ?_) | (refine store_new rfl 36 _ _ rfl _ _ _ rfl _ rfl _ rfl rfl ?_ ?_ ?_; (· (first | assumption | rfl)); (· kernel_rfl)) | (refine load_has rfl 27 _ rfl _ rfl ?_ 24 ?_ _ Try.underlying27 rfl ?_ ?_; rotate_left; (· (repeat (first | (with_reducible assumption) | ((with_reducible refine Has.box _ _ ?_ ?_) <;> (first | assumption | decide)) | (with_reducible refine Has.alloc ?_ _) | ((with_reducible refine Has.putOther ?_ _ _ ?_); rotate_left; omega; skip) | ((with_reducible refine Has.below ?_ ?_); rotate_left; assumption)))); (· kernel_rfl)) | (refine load_has rfl 36 _ rfl _ rfl ?_ 2 ?_ _ Try.underlying36 rfl ?_ ?_; rotate_left; (· (repeat (first | (with_reducible assumption) | ((with_reducible refine Has.box _ _ ?_ ?_) <;> (first | assumption | decide)) | (with_reducible refine Has.alloc ?_ _) | ((with_reducible refine Has.putOther ?_ _ _ ?_); rotate_left; omega; skip) | ((with_reducible refine Has.below ?_ ?_); rotate_left; assumption)))); (· kernel_rfl)))
        refine (KTk.out _).mono ?_
        rintro e w2 ⟨rfl, b2⟩
        rw [row_ints]
        have TB := Has.box w2 69 l26 (by omega)
        have hl2 := b2.size
        replace H := (H.below b2).alloc (.cells (ints (tbR (ppR ns fs k) x y)).toArray 69)
        replace PT := (PT.below b2).alloc (.cells (ints (tbR (ppR ns fs k) x y)).toArray 69)
        replace Z := (Z.below b2).alloc (.cells (ints (tbR (ppR ns fs k) x y)).toArray 69)
        replace Y := (Y.below b2).alloc (.cells (ints (tbR (ppR ns fs k) x y)).toArray 69)
        replace R0 := Lib.hid ((R0.out.below b2).alloc (.cells (ints (tbR (ppR ns fs k) x y)).toArray 69))
        replace HB := Lib.hid ((HB.out.call b2).alloc (.cells (ints (tbR (ppR ns fs k) x y)).toArray 69))
        rw [size1] at hl2
        clear b2 KTk HX RG hgl
        cases htb : tbOk (ppR ns fs k) x y with
        | false =>
          have E := Lib.hid (show ppRA ns fs n = ppR ns fs k ∧ ppPA ns fs n = ppP ns fs k ∧ ppNA ns fs n = k from by
            have h1 := STOP.out (by rw [ET.out]; exact htb)
            exact ⟨by rw [ERA.out, if_pos EO.out, h1], by rw [EPA.out, if_pos EO.out, h1], by rw [ENA.out, if_pos EO.out, h1]⟩)
          have r24 := gk.1
          clear htb STOP STEP ET ER EP ETB TB hl2 hl0 gk KT KP
          generalize tbR (ppR ns fs k) x y = TT at *
          go_upto_region 9 with (refine store_new rfl 69 _ _ rfl _ _ _ rfl _ rfl _ rfl rfl ?_ ?_ ?_; (· (first | assumption | rfl)); (· kernel_rfl))
          generalize w2.alloc (.cells (ints TT).toArray 69) = W3 at *
          go_wp2_with fail
          obtain ⟨RR, hRR⟩ : ∃ RR, ppR ns fs k = RR := ⟨_, rfl⟩
          rw [hRR] at H r24 E
          clear hRR
          have RL := r24
          have PL := ppP_len ns fs k
          have hiR : (Try.prog.info? 27).map (·.size) = some (ints RR).length := by rw [ints_len, RL]; exact hi0
          have hiQ : (Try.prog.info? 36).map (·.size) = some (ints (ppP ns fs k)).length := by rw [ints_len, PL]; exact hiP
          have l24 : (ints RR).length = 24 := by rw [ints_len]; exact RL
          have l02 : (ints (ppP ns fs k)).length = 2 := by rw [ints_len]; exact PL
          refine wp_region_held_drew (S := fun w' => Has w' w.heap.size RR 24 ∧ Has w' (w.heap.size + 1 + 1 + 1) (ppP ns fs k) 2) (by kernel_rfl) ⟨H.drew, PT.drew⟩ (fun hHeld => ?_)
          replace Z := Z.drew
          replace Y := Y.drew
          replace HB := Lib.hid (keptDrew8G HB.out)
          clear H PT
          generalize World.drew _ = WF at *
          (refine wpAnyH_take (i := 2) (v := ?_) rfl (by kernel_rfl) (by kernel_rfl) (by kernel_rfl) (fun _ _ _ h => h) (Or.inl ⟨by rfl, ?_⟩) hHeld ?_; rotate_left; (· (intro w' hSw; go_simp; try with_reducible rfl)); (try simp only [List.getElem_toArray, List.getElem_cons_zero, List.getElem_cons_succ, Act.put, List.setIfInBounds_toArray, List.set_cons_zero, List.set_cons_succ]))
          (refine wpAnyH_take (i := 0) (v := _) rfl (by kernel_rfl) (by kernel_rfl) (by kernel_rfl) (fun _ _ _ h => h) (yieldsIf_load_mid (by rfl) 27 _ rfl _ _ rfl (ints RR) _ (fun w' hSw => hSw.1.holds.range) Try.underlying27 rfl (hiR)) hHeld ?_; (try simp only [List.getElem_toArray, List.getElem_cons_zero, List.getElem_cons_succ, Act.put, List.setIfInBounds_toArray, List.set_cons_zero, List.set_cons_succ]))
          (refine wpAnyH_take (i := 1) (v := _) rfl (by kernel_rfl) (by kernel_rfl) (by kernel_rfl) (fun _ _ _ h => h) (yieldsIf_load_mid (by rfl) 36 _ rfl _ _ rfl (ints (ppP ns fs k)) _ (fun w' hSw => hSw.2.holds.range) Try.underlying36 rfl (hiQ)) hHeld ?_; (try simp only [List.getElem_toArray, List.getElem_cons_zero, List.getElem_cons_succ, Act.put, List.setIfInBounds_toArray, List.set_cons_zero, List.set_cons_succ]))
          (refine wpAnyH_ready (rs := [3]) (by kernel_rfl) (by simp) ?_; refine AllReadyH.cons (o := _) rfl (fun K hK => ?_) AllReadyH.nil; (simp only [List.getElem_toArray, List.getElem_cons_zero, List.getElem_cons_succ, Region.wanted, if_true]))
          refine wp_store_mid _ _ _ rfl _ _ (ints RR).toArray rfl rfl (by simpa [l24] using Z.there) (by simpa [l24] using hi0) (all_oneCell_toArray (ints_one _)) ?_
          (try simp only [List.getElem_toArray, List.getElem_cons_zero, List.getElem_cons_succ, Act.put, List.setIfInBounds_toArray, List.set_cons_zero, List.set_cons_succ, List.toList_toArray])
          refine hK.out _ _ ⟨hHeld.1.putOther _ _ (by omega), hHeld.2.putOther _ _ (by omega)⟩ (fun hHeld => ?_)
          clear hK K
          have Z2 := Z.putAll RR RL
          have Y2 := Y.putOther (b' := w.heap.size + 1) 0 (ints RR) (by omega)
          have HB2 := Lib.hid (HB.out.puts (b := w.heap.size + 1) (by omega) 0 (ints RR))
          (refine wpAnyH_ready (rs := [4]) (by kernel_rfl) (by simp) ?_; refine AllReadyH.cons (o := _) rfl (fun K hK => ?_) AllReadyH.nil; (simp only [List.getElem_toArray, List.getElem_cons_zero, List.getElem_cons_succ, Region.wanted, if_true]))
          refine wp_store_mid _ _ _ rfl _ _ (ints (ppP ns fs k)).toArray rfl rfl (by simpa [l02] using Y2.there) (by simpa [l02] using hiP) (all_oneCell_toArray (ints_one _)) ?_
          (try simp only [List.getElem_toArray, List.getElem_cons_zero, List.getElem_cons_succ, Act.put, List.setIfInBounds_toArray, List.set_cons_zero, List.set_cons_succ, List.toList_toArray])
          refine hK.out _ _ ⟨hHeld.1.putOther _ _ (by omega), hHeld.2.putOther _ _ (by omega)⟩ (fun hHeld => ?_)
          clear hK K
          have S1 := Lib.hid (Z2.putOther (b' := w.heap.size + 1 + 1) 0 (ints (ppP ns fs k)) (by omega))
          have S2 := Lib.hid (Y2.putAll (ppP ns fs k) PL)
          have S3 := Lib.hid (HB2.out.puts (b := w.heap.size + 1 + 1) (by omega) 0 (ints (ppP ns fs k)))
          (refine wpAnyH_take (i := 5) (v := ?_) rfl (by kernel_rfl) (by kernel_rfl) (by kernel_rfl) (fun _ _ _ h => h) (Or.inl ⟨by rfl, ?_⟩) hHeld ?_; rotate_left; (· (intro w' hSw; go_simp; try with_reducible rfl)); (try simp only [List.getElem_toArray, List.getElem_cons_zero, List.getElem_cons_succ, Act.put, List.setIfInBounds_toArray, List.set_cons_zero, List.set_cons_succ])); (refine wpAnyH_take (i := 6) (v := ?_) rfl (by kernel_rfl) (by kernel_rfl) (by kernel_rfl) (fun _ _ _ h => h) (Or.inl ⟨by rfl, ?_⟩) hHeld ?_; rotate_left; (· (intro w' hSw; go_simp; try with_reducible rfl)); (try simp only [List.getElem_toArray, List.getElem_cons_zero, List.getElem_cons_succ, Act.put, List.setIfInBounds_toArray, List.set_cons_zero, List.set_cons_succ]))
          refine wpAnyH_done (by kernel_rfl) ?_ _
          clear hHeld Z Y Z2 Y2 HB HB2
          go_wp2_with fail
          exact bodyPost_ret (res_has4 rfl _ _ (w.heap.size + 1) (w.heap.size + 1 + 1) RR (ppP ns fs k) 24 2 _ _ (.int .i64 (k : Nat)) (.bool true) rfl rfl rfl rfl S1.out S2.out Try.underlying27 rfl (by kernel_rfl) Try.underlying36 rfl (by kernel_rfl)) rfl ⟨by rw [E.out.1, E.out.2.1, E.out.2.2, EO.out], S3.out⟩
        | true =>
          have KN2 := Lib.hid (STEP.out (by rw [ET.out]; exact htb))
          have gk2 := GD.out (k + 1) KN2.out
          rw [ETB.out, if_pos htb, ← ER.out] at TB l26 H PT Z Y R0 HB ⊢
          obtain ⟨t, ht⟩ : ∃ t, ppR ns fs (k + 1) = t := ⟨_, rfl⟩
          have HT0 := Lib.hid ht
          rw [ht] at TB l26 H PT Z Y R0 HB gk2 EP ⊢
          have EW := trn_rack x y t gk2.1
          have pin := ppP_in ns fs k (k % 2)
          have c1 := cmN_le t
          have c2 := cmN_le (ppR ns fs k)
          have KPk := Lib.hid (fun W => KP.out x y t (ppR ns fs k) W gk2 gk)
          have p2 := ppP_len ns fs k
          obtain ⟨Q, hQ⟩ : ∃ Q, ppP ns fs k = Q := ⟨_, rfl⟩
          rw [hQ] at PT pin EP p2
          obtain ⟨R, hR⟩ : ∃ R, ppR ns fs k = R := ⟨_, rfl⟩
          rw [hR] at H KPk EP c2 gk
          have tm : Int.tmod (k : Int) 2 = ((k % 2 : Nat) : Int) := by rw [Int.tmod_eq_emod_of_nonneg (by omega)]; omega
          have pr2 : k % 2 < 2 := Nat.mod_lt _ (by omega)
          obtain ⟨pr, hpr⟩ : ∃ pr, k % 2 = pr := ⟨_, rfl⟩
          rw [hpr] at tm pr2 pin EP
          have pri : (pr : Int) < 2 := by omega
          have pr0 : (0 : Int) ≤ (pr : Int) := by omega
          have hiT : (Try.prog.info? 69).map (·.size) = some (ints (x :: y :: t)).length := by rw [ints_len, l26]; kernel_rfl
          have hiR : (Try.prog.info? 27).map (·.size) = some (ints R).length := by rw [ints_len, gk.1]; exact hi0
          have t24 := gk2.1
          have r24 := gk.1
          clear htb STOP STEP ET ER ETB ht hQ hR hpr gk gk2
          go_upto_region 9 with (refine store_new rfl 69 _ _ rfl _ _ _ rfl _ rfl _ rfl rfl ?_ ?_ ?_; (· (first | assumption | rfl)); (· kernel_rfl))
          obtain ⟨tb, htb⟩ : ∃ tb, w2.heap.size = tb := ⟨_, rfl⟩
          rw [htb] at TB hl2 ⊢
          generalize w2.alloc (.cells (ints (x :: y :: t)).toArray 69) = W3 at *
          clear htb
          go_wp2_with fail
          obtain ⟨qv, hqv⟩ : ∃ qv, Q.getD pr 0 = qv := ⟨_, rfl⟩
          have HQV := Lib.hid hqv
          rw [hqv] at pin EP
          have wp : IntKind.i64.wrap (qv + ((cmN t : Int) - (cmN R : Int))) = qv + ((cmN t : Int) - (cmN R : Int)) := IntWalk.i64_in _ (by omega)
          clear hqv
          refine wp_region_held_drew (S := fun w' => Has w' w.heap.size R 24 ∧ (∃ zs, Has w' (w.heap.size + 1 + 1 + 1) zs 2) ∧ Has w' tb (x :: y :: t) 26) (by kernel_rfl) ⟨H.drew, ⟨_, PT.drew⟩, TB.drew⟩ (fun hHeld => ?_)
          replace PT := PT.drew
          replace H := H.drew
          replace TB := TB.drew
          replace Z := Z.drew
          replace Y := Y.drew
          replace R0 := Lib.hid (R0.out.drew)
          replace HB := Lib.hid (keptDrew8G HB.out)
          generalize W3.drew = WD at *
          (refine wpAnyH_take (i := 0) (v := ?_) rfl (by kernel_rfl) (by kernel_rfl) (by kernel_rfl) (fun _ _ _ h => h) (Or.inl ⟨by rfl, ?_⟩) hHeld ?_; rotate_left; (· (intro w' hSw; go_simp; try with_reducible rfl)); (try simp only [List.getElem_toArray, List.getElem_cons_zero, List.getElem_cons_succ, Act.put, List.setIfInBounds_toArray, List.set_cons_zero, List.set_cons_succ])); (refine wpAnyH_take (i := 1) (v := ?_) rfl (by kernel_rfl) (by kernel_rfl) (by kernel_rfl) (fun _ _ _ h => h) (Or.inl ⟨by rfl, ?_⟩) hHeld ?_; rotate_left; (· (intro w' hSw; go_simp; try with_reducible rfl)); (try simp only [List.getElem_toArray, List.getElem_cons_zero, List.getElem_cons_succ, Act.put, List.setIfInBounds_toArray, List.set_cons_zero, List.set_cons_succ])); (refine wpAnyH_take (i := 2) (v := ?_) rfl (by kernel_rfl) (by kernel_rfl) (by kernel_rfl) (fun _ _ _ h => h) (Or.inl ⟨by rfl, ?_⟩) hHeld ?_; rotate_left; (· (intro w' hSw; go_simp; try with_reducible rfl)); (try simp only [List.getElem_toArray, List.getElem_cons_zero, List.getElem_cons_succ, Act.put, List.setIfInBounds_toArray, List.set_cons_zero, List.set_cons_succ]))
          (refine wpAnyH_take (i := 4) (v := _) rfl (by kernel_rfl) (by kernel_rfl) (by kernel_rfl) (fun _ _ _ h => h) (yieldsIf_load_mid (by rfl) 69 _ rfl _ _ rfl (ints (x :: y :: t)) _ (fun w' hSw => hSw.2.2.holds.range) Try.underlying69 rfl (hiT)) hHeld ?_; (try simp only [List.getElem_toArray, List.getElem_cons_zero, List.getElem_cons_succ, Act.put, List.setIfInBounds_toArray, List.set_cons_zero, List.set_cons_succ]))
          (refine wpAnyH_take (i := 5) (v := _) rfl (by kernel_rfl) (by kernel_rfl) (by kernel_rfl) (fun _ _ _ h => h) (yieldsIf_load_mid (by rfl) 27 _ rfl _ _ rfl (ints R) _ (fun w' hSw => hSw.1.holds.range) Try.underlying27 rfl (hiR)) hHeld ?_; (try simp only [List.getElem_toArray, List.getElem_cons_zero, List.getElem_cons_succ, Act.put, List.setIfInBounds_toArray, List.set_cons_zero, List.set_cons_succ]))
          refine wpAnyH_ready (rs := [3, 6]) (by kernel_rfl) (by simp) ?_
          refine AllReadyH.cons (o := _) rfl (fun K hK => ?loadFirst) (AllReadyH.cons (o := _) rfl (fun K hK => ?callFirst) AllReadyH.nil)
          case' loadFirst =>
            (simp only [List.getElem_toArray, List.getElem_cons_zero, List.getElem_cons_succ, Region.wanted, if_true])
            have cc := PT.cellXg (k := pr) (x := qv) (by omega) HQV.out
            go_simp
            clear cc
            (try simp only [List.getElem_toArray, List.getElem_cons_zero, List.getElem_cons_succ, Act.put, List.setIfInBounds_toArray, List.set_cons_zero, List.set_cons_succ])
            refine hK.out _ _ hHeld (fun hHeld => ?_)
            clear hK K
            (refine wpAnyH_ready (rs := [6]) (by kernel_rfl) (by simp) ?_; refine AllReadyH.cons (o := _) rfl (fun K hK => ?_) AllReadyH.nil; (simp only [List.getElem_toArray, List.getElem_cons_zero, List.getElem_cons_succ, Region.wanted, if_true]))
            go_simp
            refine (KPk.out _).mono ?_
            rintro e w5 ⟨rfl, b5⟩
            dsimp only
            (try simp only [List.getElem_toArray, List.getElem_cons_zero, List.getElem_cons_succ, Act.put, List.setIfInBounds_toArray, List.set_cons_zero, List.set_cons_succ])
            refine hK.out _ _ ⟨hHeld.1.below b5, hHeld.2.1.elim (fun zs h => ⟨zs, h.below b5⟩), hHeld.2.2.below b5⟩ (fun hHeld => ?_)
            clear hK K
            replace PT := PT.below b5
            replace H := H.below b5
            replace TB := TB.below b5
            replace Z := Z.below b5
            replace Y := Y.below b5
            replace R0 := Lib.hid (R0.out.below b5)
            replace HB := Lib.hid (HB.out.call b5)
            clear b5
          case' callFirst =>
            (simp only [List.getElem_toArray, List.getElem_cons_zero, List.getElem_cons_succ, Region.wanted, if_true])
            go_simp
            refine (KPk.out _).mono ?_
            rintro e w5 ⟨rfl, b5⟩
            dsimp only
            (try simp only [List.getElem_toArray, List.getElem_cons_zero, List.getElem_cons_succ, Act.put, List.setIfInBounds_toArray, List.set_cons_zero, List.set_cons_succ])
            refine hK.out _ _ ⟨hHeld.1.below b5, hHeld.2.1.elim (fun zs h => ⟨zs, h.below b5⟩), hHeld.2.2.below b5⟩ (fun hHeld => ?_)
            clear hK K
            replace PT := PT.below b5
            replace H := H.below b5
            replace TB := TB.below b5
            replace Z := Z.below b5
            replace Y := Y.below b5
            replace R0 := Lib.hid (R0.out.below b5)
            replace HB := Lib.hid (HB.out.call b5)
            clear b5
            (refine wpAnyH_ready (rs := [3]) (by kernel_rfl) (by simp) ?_; refine AllReadyH.cons (o := _) rfl (fun K hK => ?_) AllReadyH.nil; (simp only [List.getElem_toArray, List.getElem_cons_zero, List.getElem_cons_succ, Region.wanted, if_true]))
            have cc := PT.cellXg (k := pr) (x := qv) (by omega) HQV.out
            go_simp
            clear cc
            (try simp only [List.getElem_toArray, List.getElem_cons_zero, List.getElem_cons_succ, Act.put, List.setIfInBounds_toArray, List.set_cons_zero, List.set_cons_succ])
            refine hK.out _ _ hHeld (fun hHeld => ?_)
            clear hK K
          all_goals
            (refine wpAnyH_take (i := 7) (v := ?_) rfl (by kernel_rfl) (by kernel_rfl) (by kernel_rfl) (fun _ _ _ h => h) (Or.inl ⟨by rfl, ?_⟩) hHeld ?_; rotate_left; (· (intro w' hSw; go_simp; try with_reducible rfl)); (try simp only [List.getElem_toArray, List.getElem_cons_zero, List.getElem_cons_succ, Act.put, List.setIfInBounds_toArray, List.set_cons_zero, List.set_cons_succ])); (refine wpAnyH_take (i := 8) (v := ?_) rfl (by kernel_rfl) (by kernel_rfl) (by kernel_rfl) (fun _ _ _ h => h) (Or.inl ⟨by rfl, ?_⟩) hHeld ?_; rotate_left; (· (intro w' hSw; go_simp; try with_reducible rfl)); (try simp only [List.getElem_toArray, List.getElem_cons_zero, List.getElem_cons_succ, Act.put, List.setIfInBounds_toArray, List.set_cons_zero, List.set_cons_succ]))
            (refine wpAnyH_ready (rs := [9]) (by kernel_rfl) (by simp) ?_; refine AllReadyH.cons (o := _) rfl (fun K hK => ?_) AllReadyH.nil; (simp only [List.getElem_toArray, List.getElem_cons_zero, List.getElem_cons_succ, Region.wanted, if_true]))
            have cc := PT.cellXg (k := pr) (x := qv) (by omega) HQV.out
            have ff := PT.free pr (by omega)
            go_simp
            clear cc ff
            (try simp only [List.getElem_toArray, List.getElem_cons_zero, List.getElem_cons_succ, Act.put, List.setIfInBounds_toArray, List.set_cons_zero, List.set_cons_succ])
            have hw3 : w.heap.size ≠ w.heap.size + 1 + 1 + 1 := by omega
            refine hK.out _ _ ⟨hHeld.1.setOther _ _ (by omega), ⟨_, PT.set pr _ (by omega)⟩, hHeld.2.2.setOther _ _ (by omega)⟩ (fun hHeld => ?_)
            clear hK K
            refine wpAnyH_done (by kernel_rfl) ?_ _
            have PT2 := PT.set pr (qv + ((cmN t : Int) - (cmN R : Int))) (by omega)
            rw [← EP.out] at PT2
            have H2 := H.setOther (b' := w.heap.size + 1 + 1 + 1) pr (.int .i64 (qv + ((cmN t : Int) - (cmN R : Int)))) (by omega)
            have TB2 := TB.setOther (b' := w.heap.size + 1 + 1 + 1) pr (.int .i64 (qv + ((cmN t : Int) - (cmN R : Int)))) (by omega)
            have Z2 := Z.setOther (b' := w.heap.size + 1 + 1 + 1) pr (.int .i64 (qv + ((cmN t : Int) - (cmN R : Int)))) (by omega)
            have Y2 := Y.setOther (b' := w.heap.size + 1 + 1 + 1) pr (.int .i64 (qv + ((cmN t : Int) - (cmN R : Int)))) (by omega)
            have HB2 := Lib.hid (HB.out.set (b := w.heap.size + 1 + 1 + 1) (by omega) pr (.int .i64 (qv + ((cmN t : Int) - (cmN R : Int)))))
            have R2 := Lib.hid (Rw.setOtherP R0.out (w.heap.size + 1 + 1 + 1) pr (.int .i64 (qv + ((cmN t : Int) - (cmN R : Int)))) (fun hn z hz => by have := OW0.out hn z hz; omega))
            clear hHeld PT H TB Z Y R0 HB
            generalize World.setCell _ _ _ = W7 at *
            have S1 := H2.putAll t t24
            have P7 := PT2.putOther (b' := w.heap.size) 0 (ints t) (by omega)
            have Z7 := Z2.putOther (b' := w.heap.size) 0 (ints t) (by omega)
            have Y7 := Y2.putOther (b' := w.heap.size) 0 (ints t) (by omega)
            have R7 := Lib.hid (R2.out.puts w.heap.size 0 (ints t) (fun hn e => by have := OW0.out hn _ e; omega))
            have K7 := Lib.hid (HB2.out.puts (b := w.heap.size) (Nat.le_refl _) 0 (ints t))
            go_wp2_with (first | (refine load_sub rfl 27 _ rfl tb 2 24 _ rfl ?_ _ 26 TB2 _ EW t24 _ Try.underlying27 rfl ?_ ?_; (· (first | rfl | omega)); (· kernel_rfl)) | (refine store_at rfl 27 _ _ rfl _ t rfl rfl R 24 H2 t24 ?_ ?_; (· kernel_rfl)))
            go_roundw
            case rel => exact ⟨k + 1, by omega, by go_num, by go_num, KN2, by rw [HT0.out]; exact S1, P7, Z7, Y7, R7, K7⟩
            case measure => simp [intOf]; omega
      · obtain rfl : k = n := by omega
        have E := Lib.hid (show ppRA ns fs k = ppR ns fs k ∧ ppPA ns fs k = ppP ns fs k ∧ ppNA ns fs k = k from
          ⟨by rw [ERA.out, if_pos EO.out, KN.out], by rw [EPA.out, if_pos EO.out, KN.out], by rw [ENA.out, if_pos EO.out, KN.out]⟩)
        have r24 := gk.1
        clear gk
        go_wp2_with fail
        obtain ⟨RR, hRR⟩ : ∃ RR, ppR ns fs k = RR := ⟨_, rfl⟩
        rw [hRR] at H r24 E
        clear hRR
        have RL := r24
        have PL := ppP_len ns fs k
        have hiR : (Try.prog.info? 27).map (·.size) = some (ints RR).length := by rw [ints_len, RL]; exact hi0
        have hiQ : (Try.prog.info? 36).map (·.size) = some (ints (ppP ns fs k)).length := by rw [ints_len, PL]; exact hiP
        have l24 : (ints RR).length = 24 := by rw [ints_len]; exact RL
        have l02 : (ints (ppP ns fs k)).length = 2 := by rw [ints_len]; exact PL
        refine wp_region_held_drew (S := fun w' => Has w' w.heap.size RR 24 ∧ Has w' (w.heap.size + 1 + 1 + 1) (ppP ns fs k) 2) (by kernel_rfl) ⟨H.drew, PT.drew⟩ (fun hHeld => ?_)
        replace Z := Z.drew
        replace Y := Y.drew
        replace HB := Lib.hid (keptDrew8G HB.out)
        clear H PT
        generalize World.drew _ = WF at *
        (refine wpAnyH_take (i := 2) (v := ?_) rfl (by kernel_rfl) (by kernel_rfl) (by kernel_rfl) (fun _ _ _ h => h) (Or.inl ⟨by rfl, ?_⟩) hHeld ?_; rotate_left; (· (intro w' hSw; go_simp; try with_reducible rfl)); (try simp only [List.getElem_toArray, List.getElem_cons_zero, List.getElem_cons_succ, Act.put, List.setIfInBounds_toArray, List.set_cons_zero, List.set_cons_succ]))
        (refine wpAnyH_take (i := 0) (v := _) rfl (by kernel_rfl) (by kernel_rfl) (by kernel_rfl) (fun _ _ _ h => h) (yieldsIf_load_mid (by rfl) 27 _ rfl _ _ rfl (ints RR) _ (fun w' hSw => hSw.1.holds.range) Try.underlying27 rfl (hiR)) hHeld ?_; (try simp only [List.getElem_toArray, List.getElem_cons_zero, List.getElem_cons_succ, Act.put, List.setIfInBounds_toArray, List.set_cons_zero, List.set_cons_succ]))
        (refine wpAnyH_take (i := 1) (v := _) rfl (by kernel_rfl) (by kernel_rfl) (by kernel_rfl) (fun _ _ _ h => h) (yieldsIf_load_mid (by rfl) 36 _ rfl _ _ rfl (ints (ppP ns fs k)) _ (fun w' hSw => hSw.2.holds.range) Try.underlying36 rfl (hiQ)) hHeld ?_; (try simp only [List.getElem_toArray, List.getElem_cons_zero, List.getElem_cons_succ, Act.put, List.setIfInBounds_toArray, List.set_cons_zero, List.set_cons_succ]))
        (refine wpAnyH_ready (rs := [3]) (by kernel_rfl) (by simp) ?_; refine AllReadyH.cons (o := _) rfl (fun K hK => ?_) AllReadyH.nil; (simp only [List.getElem_toArray, List.getElem_cons_zero, List.getElem_cons_succ, Region.wanted, if_true]))
        refine wp_store_mid _ _ _ rfl _ _ (ints RR).toArray rfl rfl (by simpa [l24] using Z.there) (by simpa [l24] using hi0) (all_oneCell_toArray (ints_one _)) ?_
        (try simp only [List.getElem_toArray, List.getElem_cons_zero, List.getElem_cons_succ, Act.put, List.setIfInBounds_toArray, List.set_cons_zero, List.set_cons_succ, List.toList_toArray])
        refine hK.out _ _ ⟨hHeld.1.putOther _ _ (by omega), hHeld.2.putOther _ _ (by omega)⟩ (fun hHeld => ?_)
        clear hK K
        have Z2 := Z.putAll RR RL
        have Y2 := Y.putOther (b' := w.heap.size + 1) 0 (ints RR) (by omega)
        have HB2 := Lib.hid (HB.out.puts (b := w.heap.size + 1) (by omega) 0 (ints RR))
        (refine wpAnyH_ready (rs := [4]) (by kernel_rfl) (by simp) ?_; refine AllReadyH.cons (o := _) rfl (fun K hK => ?_) AllReadyH.nil; (simp only [List.getElem_toArray, List.getElem_cons_zero, List.getElem_cons_succ, Region.wanted, if_true]))
        refine wp_store_mid _ _ _ rfl _ _ (ints (ppP ns fs k)).toArray rfl rfl (by simpa [l02] using Y2.there) (by simpa [l02] using hiP) (all_oneCell_toArray (ints_one _)) ?_
        (try simp only [List.getElem_toArray, List.getElem_cons_zero, List.getElem_cons_succ, Act.put, List.setIfInBounds_toArray, List.set_cons_zero, List.set_cons_succ, List.toList_toArray])
        refine hK.out _ _ ⟨hHeld.1.putOther _ _ (by omega), hHeld.2.putOther _ _ (by omega)⟩ (fun hHeld => ?_)
        clear hK K
        have S1 := Lib.hid (Z2.putOther (b' := w.heap.size + 1 + 1) 0 (ints (ppP ns fs k)) (by omega))
        have S2 := Lib.hid (Y2.putAll (ppP ns fs k) PL)
        have S3 := Lib.hid (HB2.out.puts (b := w.heap.size + 1 + 1) (by omega) 0 (ints (ppP ns fs k)))
        (refine wpAnyH_take (i := 5) (v := ?_) rfl (by kernel_rfl) (by kernel_rfl) (by kernel_rfl) (fun _ _ _ h => h) (Or.inl ⟨by rfl, ?_⟩) hHeld ?_; rotate_left; (· (intro w' hSw; go_simp; try with_reducible rfl)); (try simp only [List.getElem_toArray, List.getElem_cons_zero, List.getElem_cons_succ, Act.put, List.setIfInBounds_toArray, List.set_cons_zero, List.set_cons_succ])); (refine wpAnyH_take (i := 6) (v := ?_) rfl (by kernel_rfl) (by kernel_rfl) (by kernel_rfl) (fun _ _ _ h => h) (Or.inl ⟨by rfl, ?_⟩) hHeld ?_; rotate_left; (· (intro w' hSw; go_simp; try with_reducible rfl)); (try simp only [List.getElem_toArray, List.getElem_cons_zero, List.getElem_cons_succ, Act.put, List.setIfInBounds_toArray, List.set_cons_zero, List.set_cons_succ]))
        refine wpAnyH_done (by kernel_rfl) ?_ _
        clear hHeld Z Y Z2 Y2 HB HB2
        go_wp2_with fail
        exact bodyPost_ret (res_has4 rfl _ _ (w.heap.size + 1) (w.heap.size + 1 + 1) RR (ppP ns fs k) 24 2 _ _ (.int .i64 (k : Nat)) (.bool true) rfl rfl rfl rfl S1.out S2.out Try.underlying27 rfl (by kernel_rfl) Try.underlying36 rfl (by kernel_rfl)) rfl ⟨by rw [E.out.1, E.out.2.1, E.out.2.2, EO.out], S3.out⟩
end Go.Proofs.Ytnldnjnnjfbhnab.base
end
