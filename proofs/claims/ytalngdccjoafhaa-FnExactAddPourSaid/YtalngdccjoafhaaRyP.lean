/-
  One pour more behind a replay, walked on both sides.
-/
import Derived.Test.YtalngdccjoafhaaRyEZ
import Derived.Test.YtalngdccjoafhaaGridZ
namespace Go.Proofs.Ytalngdccjoafhaa.base
open Go.ChangeShapes Go.WideShapes Go.ChangeAt Go.RowKit
set_option linter.unusedVariables false
set_option linter.unusedSimpArgs false

theorem apN_le (ns fs : List Int) (n : Nat) (x y : Int) : orN (apOk ns fs n x y) (n + 1) ≤ 60 := by
  cases h : apOk ns fs n x y with
  | false => exact Nat.zero_le _
  | true =>
    unfold apOk at h
    have := rp_le h
    unfold orN
    rw [if_pos rfl]; omega
theorem slice1Y {P : Program} {ops : Array Oper} {rest : List Oper} {o : Oper} {a : Act} {w : World} {Q : Exit → Act → World → Prop} (hg : o.guard = none) (tt t : TypeId) (x : Operand) (ho : o.op = .buildSlice tt 1 #[(0, x)]) (ht : P.underlying tt = some (.slice t)) (hi : (P.info? t).map (fun i => (i.zero.map fun z => z.cells.size, i.size, i.bytes)) = some (some 2, 2, 16))
    (ns : List Int) (hx : a.eval x = .agg (ints ns).toArray) (hl : ns.length = 2) (h : wpList P ops Q rest (a.put o.dst (.slice (some ⟨w.heap.size, 0, none⟩) 1 1)) (w.alloc (.cells (ints ns).toArray t))) : wpList P ops Q (o :: rest) a w :=
  wpList_slice1 hg tt t x ho 2 16 ht hi (by omega) (by omega) ns hx hl h

set_option maxHeartbeats 3200000 in
set_option maxRecDepth 100000 in
theorem implAdd (ns fs : List Int) (v : Value) (n b : Nat) (x y : Int) (w : World) (h24 : ns.length = 24) (hn : n ≤ 1048576) (h : Rw w b v n fs) :
    Calls Try.prog 20 #[rpV ns v, .agg (ints [x, y]).toArray] w (RepPost (apOk ns fs n x y) ns (n + 1) (fs ++ [x, y]) w) := by
  have EA := Lib.hid (apOk_eq (ns := ns) h.flat x y)
  have RY := ((Ry.box (v := v) w 33 h24).alloc (.cells (ints [x, y]).toArray 41)).alloc (.cells z25.toArray 33)
  have PQ := ((Has.box (ns := [x, y]) (n := 2) (w.alloc (.cells (rpC ns v).toArray 33)) 41 rfl (by omega)).at (size1 _ _)).alloc (.cells z25.toArray 33)
  have Z := (Ry.zero ((w.alloc (.cells (rpC ns v).toArray 33)).alloc (.cells (ints [x, y]).toArray 41)) 33).at (q := w.heap.size + 1 + 1) (by simp)
  have HB := Lib.hid ((((kept_refl w).alloc (.cells (rpC ns v).toArray 33)).alloc (.cells (ints [x, y]).toArray 41)).alloc (.cells z25.toArray 33))
  have HR := Lib.hid (((h.alloc (.cells (rpC ns v).toArray 33)).alloc (.cells (ints [x, y]).toArray 41)).alloc (.cells z25.toArray 33))
  have hsz : (((w.alloc (.cells (rpC ns v).toArray 33)).alloc (.cells (ints [x, y]).toArray 41)).alloc (.cells z25.toArray 33)).heap.size = w.heap.size + 3 := by simp
  clear h
  unfold rpV
  go_enter Try.func20, Try.ntmps20
  go_upto_region 1 with fail
  try rw [cells25C]
  generalize (((w.alloc (.cells (rpC ns v).toArray 33)).alloc (.cells (ints [x, y]).toArray 41)).alloc (.cells z25.toArray 33)) = W at *
  have hW := hsz
  clear hsz
  go_wp2_with (refine guardY (isLdY 33) ?_ ?_; (· rfl); refine load_ry rfl 33 _ rfl w.heap.size rfl _ _ _ RY _ Try.underlying33 rfl ?_ ?_; (· kernel_rfl))
  refine (implIsReplay ns fs v n b _ h24 hn HR.out).mono ?_
  rintro e w1 ⟨rfl, b1⟩
  have hws : w.heap.size + 3 ≤ w1.heap.size := by have := b1.size; omega
  replace RY := RY.below b1
  replace PQ := PQ.below b1
  replace Z := Z.below b1
  replace HB := Lib.hid (HB.out.call b1)
  replace HR := Lib.hid (HR.out.below b1)
  clear b1 hW
  cases hok : rpOk ns fs n with
  | false =>
    have E : Hid (apOk ns fs n x y = false) := Lib.hid (by rw [EA.out, hok]; rfl)
    have S1 := Lib.hid (Z.putAll z24 (.slice none 0 0) rfl)
    have S2 := Lib.hid (HB.out.puts (b := w.heap.size + 1 + 1) (by omega) 0 (rpC z24 (.slice none 0 0)))
    clear hok EA
    go_wp2_with (first | (refine guardY (isBdY 33) ?_ ?_; (· rfl); refine build_law rfl 33 rfl _ buildRpZ ?_) | (refine guardY (isStY 33) ?_ ?_; (· rfl); refine store_ry rfl 33 _ _ rfl (w.heap.size + 1 + 1) rfl z24 (.slice none 0 0) rfl _ _ _ Z rfl rfl ?_ ?_; (· kernel_rfl)))
    exact bodyPost_ret (res_ry1 rfl _ _ (w.heap.size + 1 + 1) z24 _ _ _ (.bool false) rfl rfl S1.out Try.underlying33 rfl (by kernel_rfl)) rfl ⟨.slice none 0 0, by rw [E.out]; rfl, by rw [E.out]; exact Rw.nil _ _, S2.out⟩
  | true =>
    have n60 := rp_le hok
    clear hok EA
    go_wp2_with (refine guardY (isLdY 33) ?_ ?_; (· rfl); refine load_ry rfl 33 _ rfl w.heap.size rfl _ _ _ RY _ Try.underlying33 rfl ?_ ?_; (· kernel_rfl))
    refine (copied_any ns fs v n b _ h24 hn HR.out).mono ?_
    rintro e w2 ⟨g, rfl, q2, b2⟩
    have ow := World.ownsRow.lt q2 g rfl
    have hg0 : w.heap.size + 3 ≤ g := by omega
    have hg1 : g < w2.heap.size := ow.2
    have RC := Ry.box (v := .slice (some ⟨g, 0, none⟩) n n) w2 33 h24
    have Q : Hid (Prs (w2.alloc (.cells (rpC ns (.slice (some ⟨g, 0, none⟩) n n)).toArray 33)) w1.heap.size (.slice (some ⟨g, 0, none⟩) n n) n fs) := Lib.hid (World.ownsRow.alloc q2 _)
    replace PQ := (PQ.below b2).alloc (.cells (rpC ns (.slice (some ⟨g, 0, none⟩) n n)).toArray 33)
    replace Z := (Z.below b2).alloc (.cells (rpC ns (.slice (some ⟨g, 0, none⟩) n n)).toArray 33)
    replace HB := Lib.hid ((HB.out.call b2).alloc (.cells (rpC ns (.slice (some ⟨g, 0, none⟩) n n)).toArray 33))
    have hlt := RC.lt
    have hsw : w1.heap.size ≤ (w2.alloc (.cells (rpC ns (.slice (some ⟨g, 0, none⟩) n n)).toArray 33)).heap.size := by rw [size1]; have := b2.size; omega
    clear q2 b2 RY HR ow
    go_upto_region 4 with (refine guardY (isStY 33) ?_ ?_; (· rfl); refine store_newry rfl 33 _ _ rfl w2 _ _ rfl _ rfl ns (.slice (some ⟨g, 0, none⟩) n n) rfl rfl rfl h24 rfl ?_ ?_; (· kernel_rfl))
    obtain ⟨c, hc⟩ : ∃ c, w2.heap.size = c := ⟨_, rfl⟩
    rw [hc] at RC hg1 hlt ⊢
    generalize w2.alloc (.cells (rpC ns (.slice (some ⟨g, 0, none⟩) n n)).toArray 33) = W2 at *
    clear hc
    have c24 := RC.pours
    have RC2 := RC.alloc (.cells (ints [x, y]).toArray 41)
    have f24 := RC2.free 24
    have Q2 : Hid (Prs (W2.alloc (.cells (ints [x, y]).toArray 41)) w1.heap.size (.slice (some ⟨g, 0, none⟩) n n) n fs) := Lib.hid (World.ownsRow.alloc Q.out _)
    have hne1 : c ≠ g := by omega
    have hne2 : w.heap.size + 1 + 1 ≠ g := by omega
    go_upto_region 5 with (first | (refine guardY (isLdY 41) ?_ ?_; (· rfl); refine load_has rfl 41 _ rfl (w.heap.size + 1) rfl [x, y] 2 PQ _ Try.underlying41 rfl ?_ ?_; (· kernel_rfl)) | (refine slice1Y rfl 26 41 _ rfl Try.underlying26 (by kernel_rfl) [x, y] rfl rfl ?_) | (at_builtin; refine wpList_append_prs rfl _ _ rfl w1.heap.size _ n fs rfl Q2.out (some ⟨W2.heap.size, 0, none⟩) 1 1 rfl [x, y] rfl (from_new W2 x y _) (by rw [size1]; omega) (by omega) ?_; intro v' w5 hP hgrow hlie; obtain ⟨va, vc, rfl⟩ := hP.rw.shape; have RC3 := RC2.grown hgrow (fun e => hne1 (Option.some.inj e)); have c24' := RC3.pours; have f24' := RC3.free 24))
    have own5 := Lib.hid (fun z hz => (World.ownsRow.lt hP z hz).1)
    have P5 := hP.rw
    have Z5 := (Z.alloc (.cells (ints [x, y]).toArray 41)).grown hgrow (fun e => hne2 (Option.some.inj e))
    have B5 : Hid (Kept w w5) := Lib.hid ((HB.out.alloc (.cells (ints [x, y]).toArray 41)).grown hgrow (by have := HB.out.size; rw [size1]; omega) (fun z hz => by have := Option.some.inj (show some g = some z from hz); omega))
    have ne5 := Lib.hid (show ∀ z, (Value.slice va (n + 1) vc).ownBlock = some z → z ≠ c from fun z hz => by
      rcases hlie with h3 | h3
      · have h4 := h3.symm.trans hz
        have := Option.some.inj (show some g = some z from h4); omega
      · have h4 := h3.symm.trans hz
        have := Option.some.inj h4; rw [size1] at this; omega)
    clear hP hgrow hlie Q2 Q RC RC2 PQ Z HB c24 f24 c24' f24'
    have R6 := RC3.setPours (.slice va (n + 1) vc)
    have Z6 := Z5.setOther (q := c) 24 (.slice va (n + 1) vc) (by omega)
    have B6 := Lib.hid (B5.out.set (b := c) (by omega) 24 (.slice va (n + 1) vc))
    have P6 : Hid (Rw (w5.setCell ⟨c, 24, none⟩ (.slice va (n + 1) vc)) w1.heap.size (.slice va (n + 1) vc) (n + 1) (fs ++ [x, y])) := Lib.hid (P5.puts c 24 [.slice va (n + 1) vc] (fun _ e => ne5.out c e rfl))
    clear P5 RC3 Z5 B5
    generalize World.setCell w5 ⟨c, 24, none⟩ (.slice va (n + 1) vc) = W6 at *
    go_wp2_with (refine guardY (isLdY 33) ?_ ?_; (· rfl); refine load_ry rfl 33 _ rfl c rfl _ _ _ R6 _ Try.underlying33 rfl ?_ ?_; (· kernel_rfl))
    refine (implIsReplay ns (fs ++ [x, y]) (.slice va (n + 1) vc) (n + 1) _ _ h24 (by omega) P6.out).mono ?_
    rintro e w7 ⟨rfl, b7⟩
    replace R6 := R6.below b7
    replace Z6 := Z6.below b7
    replace B6 := Lib.hid (B6.out.call b7)
    replace P6 := Lib.hid (P6.out.below b7)
    clear b7
    cases hap : rpOk ns (fs ++ [x, y]) (n + 1) with
    | false =>
      have E : Hid (apOk ns fs n x y = false) := Lib.hid hap
      have S1 := Lib.hid (Z6.putAll z24 (.slice none 0 0) rfl)
      have S2 := Lib.hid (B6.out.puts (b := w.heap.size + 1 + 1) (by omega) 0 (rpC z24 (.slice none 0 0)))
      clear hap
      go_wp2_with (first | (refine guardY (isBdY 33) ?_ ?_; (· rfl); refine build_law rfl 33 rfl _ buildRpZ ?_) | (refine guardY (isStY 33) ?_ ?_; (· rfl); refine store_ry rfl 33 _ _ rfl (w.heap.size + 1 + 1) rfl z24 (.slice none 0 0) rfl _ _ _ Z6 rfl rfl ?_ ?_; (· kernel_rfl)))
      exact bodyPost_ret (res_ry1 rfl _ _ (w.heap.size + 1 + 1) z24 _ _ _ (.bool false) rfl rfl S1.out Try.underlying33 rfl (by kernel_rfl)) rfl ⟨.slice none 0 0, by rw [E.out]; rfl, by rw [E.out]; exact Rw.nil _ _, S2.out⟩
    | true =>
      have E : Hid (apOk ns fs n x y = true) := Lib.hid hap
      have S1 := Lib.hid (Z6.putAll ns (.slice va (n + 1) vc) h24)
      have S2 := Lib.hid (B6.out.puts (b := w.heap.size + 1 + 1) (by omega) 0 (rpC ns (.slice va (n + 1) vc)))
      have S3 := Lib.hid (Rw.mono (P6.out.puts (w.heap.size + 1 + 1) 0 (rpC ns (.slice va (n + 1) vc)) (fun _ e => by have := own5.out _ e; omega)) (show w.heap.size ≤ w1.heap.size by omega))
      clear hap
      go_wp2_with (first | (refine guardY (isLdY 33) ?_ ?_; (· rfl); refine load_ry rfl 33 _ rfl c rfl _ _ _ R6 _ Try.underlying33 rfl ?_ ?_; (· kernel_rfl)) | (refine guardY (isStY 33) ?_ ?_; (· rfl); refine store_ry rfl 33 _ _ rfl (w.heap.size + 1 + 1) rfl ns (.slice va (n + 1) vc) rfl _ _ _ Z6 h24 rfl ?_ ?_; (· kernel_rfl)))
      exact bodyPost_ret (res_ry1 rfl _ _ (w.heap.size + 1 + 1) ns _ _ _ (.bool true) rfl rfl S1.out Try.underlying33 rfl (by kernel_rfl)) rfl ⟨_, by rw [E.out]; rfl, by rw [E.out]; exact S3.out, S2.out⟩

set_option maxHeartbeats 3200000 in
set_option maxRecDepth 100000 in
theorem specAdd (ns fs : List Int) (v : Value) (n b : Nat) (x y : Int) (w : World) (h24 : ns.length = 24) (hn : n ≤ 1048576) (h : Rw w b v n fs) :
    Calls Try.prog 18 #[rpV ns v, .agg (ints [x, y]).toArray] w (RepPost (apOk ns fs n x y) ns (n + 1) (fs ++ [x, y]) w) := by
  obtain ⟨a, cap, rfl⟩ := h.shape
  have FL := Lib.hid h.flat
  have hi00 : (Try.prog.info? 31).map (·.size) = some 24 := by kernel_rfl
  have EA := Lib.hid (apOk_eq (ns := ns) h.flat x y)
  have RY := ((Ry.box (v := .slice a n cap) w 33 h24).alloc (.cells (ints [x, y]).toArray 41)).alloc (.cells z25.toArray 33)
  have PQ := ((Has.box (ns := [x, y]) (n := 2) (w.alloc (.cells (rpC ns (.slice a n cap)).toArray 33)) 41 rfl (by omega)).at (size1 _ _)).alloc (.cells z25.toArray 33)
  have Z := (Ry.zero ((w.alloc (.cells (rpC ns (.slice a n cap)).toArray 33)).alloc (.cells (ints [x, y]).toArray 41)) 33).at (q := w.heap.size + 1 + 1) (by simp)
  have HB := Lib.hid ((((kept_refl w).alloc (.cells (rpC ns (.slice a n cap)).toArray 33)).alloc (.cells (ints [x, y]).toArray 41)).alloc (.cells z25.toArray 33))
  have HR := Lib.hid (((h.alloc (.cells (rpC ns (.slice a n cap)).toArray 33)).alloc (.cells (ints [x, y]).toArray 41)).alloc (.cells z25.toArray 33))
  have hsz : (((w.alloc (.cells (rpC ns (.slice a n cap)).toArray 33)).alloc (.cells (ints [x, y]).toArray 41)).alloc (.cells z25.toArray 33)).heap.size = w.heap.size + 3 := by simp
  clear h
  unfold rpV
  go_enter Try.func18, Try.ntmps18
  go_upto_region 1 with fail
  try rw [cells25C]
  generalize (((w.alloc (.cells (rpC ns (.slice a n cap)).toArray 33)).alloc (.cells (ints [x, y]).toArray 41)).alloc (.cells z25.toArray 33)) = W at *
  have hW := hsz
  clear hsz
  go_wp2_with (refine guardY (isLdY 33) ?_ ?_; (· rfl); refine load_ry rfl 33 _ rfl w.heap.size rfl _ _ _ RY _ Try.underlying33 rfl ?_ ?_; (· kernel_rfl))
  refine (l11Racks_any ns fs (.slice a n cap) n b _ h24 hn HR.out).mono ?_
  rintro e w1 ⟨u, rfl, q1, b1⟩
  have hws : w.heap.size + 3 ≤ w1.heap.size := by have := b1.size; omega
  replace RY := RY.below b1
  replace PQ := PQ.below b1
  replace Z := Z.below b1
  replace HB := Lib.hid (HB.out.call b1)
  replace HR := Lib.hid (HR.out.below b1)
  have HL := Lib.hid (doR_len h24 fs)
  clear b1 hW
  cases hok : rpOk ns fs n with
  | false =>
    have E : Hid (apOk ns fs n x y = false) := Lib.hid (by rw [EA.out, hok]; rfl)
    clear hok EA q1
    go_wp2_with fail
    refine wp_region_held_drew (S := fun w' => Kept w1 w') (by kernel_rfl) ((kept_refl w1).drewN 1) (fun hHeld => ?_)
    (refine wpAnyH_take (i := 0) (v := ?_) rfl (by kernel_rfl) (by kernel_rfl) (by kernel_rfl) (fun _ _ _ h => h) (Or.inl ⟨by rfl, ?_⟩) hHeld ?_; rotate_left; (· (intro w' hSw; go_simp; try with_reducible rfl)); (try simp only [List.getElem_toArray, List.getElem_cons_zero, List.getElem_cons_succ, Act.put, List.setIfInBounds_toArray, List.set_cons_zero, List.set_cons_succ])); (refine wpAnyH_take (i := 1) (v := ?_) rfl (by kernel_rfl) (by kernel_rfl) (by kernel_rfl) (fun _ _ _ h => h) (Or.inl ⟨by rfl, ?_⟩) hHeld ?_; rotate_left; (· (intro w' hSw; go_simp; try with_reducible rfl)); (try simp only [List.getElem_toArray, List.getElem_cons_zero, List.getElem_cons_succ, Act.put, List.setIfInBounds_toArray, List.set_cons_zero, List.set_cons_succ])); (refine wpAnyH_take (i := 2) (v := ?_) rfl (by kernel_rfl) (by kernel_rfl) (by kernel_rfl) (fun _ _ _ h => h) (Or.inl ⟨by rfl, ?_⟩) hHeld ?_; rotate_left; (· (intro w' hSw; go_simp; try with_reducible rfl)); (try simp only [List.getElem_toArray, List.getElem_cons_zero, List.getElem_cons_succ, Act.put, List.setIfInBounds_toArray, List.set_cons_zero, List.set_cons_succ]))
    (refine wpAnyH_take (i := 3) (v := undef) rfl (by kernel_rfl) (by kernel_rfl) (by kernel_rfl) (fun _ _ _ h => h) (Or.inr ⟨by rfl, rfl⟩) hHeld ?_; (try simp only [List.getElem_toArray, List.getElem_cons_zero, List.getElem_cons_succ, Act.put, List.setIfInBounds_toArray, List.set_cons_zero, List.set_cons_succ])); (refine wpAnyH_take (i := 4) (v := undef) rfl (by kernel_rfl) (by kernel_rfl) (by kernel_rfl) (fun _ _ _ h => h) (Or.inr ⟨by rfl, rfl⟩) hHeld ?_; (try simp only [List.getElem_toArray, List.getElem_cons_zero, List.getElem_cons_succ, Act.put, List.setIfInBounds_toArray, List.set_cons_zero, List.set_cons_succ])); (refine wpAnyH_take (i := 5) (v := undef) rfl (by kernel_rfl) (by kernel_rfl) (by kernel_rfl) (fun _ _ _ h => h) (Or.inr ⟨by rfl, rfl⟩) hHeld ?_; (try simp only [List.getElem_toArray, List.getElem_cons_zero, List.getElem_cons_succ, Act.put, List.setIfInBounds_toArray, List.set_cons_zero, List.set_cons_succ])); (refine wpAnyH_take (i := 6) (v := undef) rfl (by kernel_rfl) (by kernel_rfl) (by kernel_rfl) (fun _ _ _ h => h) (Or.inr ⟨by rfl, rfl⟩) hHeld ?_; (try simp only [List.getElem_toArray, List.getElem_cons_zero, List.getElem_cons_succ, Act.put, List.setIfInBounds_toArray, List.set_cons_zero, List.set_cons_succ]))
    (refine wpAnyH_take (i := 7) (v := ?_) rfl (by kernel_rfl) (by kernel_rfl) (by kernel_rfl) (fun _ _ _ h => h) (Or.inl ⟨by rfl, ?_⟩) hHeld ?_; rotate_left; (· (intro w' hSw; go_simp; try with_reducible rfl)); (try simp only [List.getElem_toArray, List.getElem_cons_zero, List.getElem_cons_succ, Act.put, List.setIfInBounds_toArray, List.set_cons_zero, List.set_cons_succ])); (refine wpAnyH_take (i := 8) (v := ?_) rfl (by kernel_rfl) (by kernel_rfl) (by kernel_rfl) (fun _ _ _ h => h) (Or.inl ⟨by rfl, ?_⟩) hHeld ?_; rotate_left; (· (intro w' hSw; go_simp; try with_reducible rfl)); (try simp only [List.getElem_toArray, List.getElem_cons_zero, List.getElem_cons_succ, Act.put, List.setIfInBounds_toArray, List.set_cons_zero, List.set_cons_succ]))
    (refine wpAnyH_take (i := 9) (v := undef) rfl (by kernel_rfl) (by kernel_rfl) (by kernel_rfl) (fun _ _ _ h => h) (Or.inr ⟨by rfl, rfl⟩) hHeld ?_; (try simp only [List.getElem_toArray, List.getElem_cons_zero, List.getElem_cons_succ, Act.put, List.setIfInBounds_toArray, List.set_cons_zero, List.set_cons_succ])); (refine wpAnyH_take (i := 10) (v := undef) rfl (by kernel_rfl) (by kernel_rfl) (by kernel_rfl) (fun _ _ _ h => h) (Or.inr ⟨by rfl, rfl⟩) hHeld ?_; (try simp only [List.getElem_toArray, List.getElem_cons_zero, List.getElem_cons_succ, Act.put, List.setIfInBounds_toArray, List.set_cons_zero, List.set_cons_succ])); (refine wpAnyH_take (i := 11) (v := undef) rfl (by kernel_rfl) (by kernel_rfl) (by kernel_rfl) (fun _ _ _ h => h) (Or.inr ⟨by rfl, rfl⟩) hHeld ?_; (try simp only [List.getElem_toArray, List.getElem_cons_zero, List.getElem_cons_succ, Act.put, List.setIfInBounds_toArray, List.set_cons_zero, List.set_cons_succ])); (refine wpAnyH_take (i := 12) (v := undef) rfl (by kernel_rfl) (by kernel_rfl) (by kernel_rfl) (fun _ _ _ h => h) (Or.inr ⟨by rfl, rfl⟩) hHeld ?_; (try simp only [List.getElem_toArray, List.getElem_cons_zero, List.getElem_cons_succ, Act.put, List.setIfInBounds_toArray, List.set_cons_zero, List.set_cons_succ])); (refine wpAnyH_take (i := 13) (v := undef) rfl (by kernel_rfl) (by kernel_rfl) (by kernel_rfl) (fun _ _ _ h => h) (Or.inr ⟨by rfl, rfl⟩) hHeld ?_; (try simp only [List.getElem_toArray, List.getElem_cons_zero, List.getElem_cons_succ, Act.put, List.setIfInBounds_toArray, List.set_cons_zero, List.set_cons_succ])); (refine wpAnyH_take (i := 14) (v := undef) rfl (by kernel_rfl) (by kernel_rfl) (by kernel_rfl) (fun _ _ _ h => h) (Or.inr ⟨by rfl, rfl⟩) hHeld ?_; (try simp only [List.getElem_toArray, List.getElem_cons_zero, List.getElem_cons_succ, Act.put, List.setIfInBounds_toArray, List.set_cons_zero, List.set_cons_succ])); (refine wpAnyH_take (i := 15) (v := undef) rfl (by kernel_rfl) (by kernel_rfl) (by kernel_rfl) (fun _ _ _ h => h) (Or.inr ⟨by rfl, rfl⟩) hHeld ?_; (try simp only [List.getElem_toArray, List.getElem_cons_zero, List.getElem_cons_succ, Act.put, List.setIfInBounds_toArray, List.set_cons_zero, List.set_cons_succ])); (refine wpAnyH_take (i := 16) (v := undef) rfl (by kernel_rfl) (by kernel_rfl) (by kernel_rfl) (fun _ _ _ h => h) (Or.inr ⟨by rfl, rfl⟩) hHeld ?_; (try simp only [List.getElem_toArray, List.getElem_cons_zero, List.getElem_cons_succ, Act.put, List.setIfInBounds_toArray, List.set_cons_zero, List.set_cons_succ])); (refine wpAnyH_take (i := 17) (v := undef) rfl (by kernel_rfl) (by kernel_rfl) (by kernel_rfl) (fun _ _ _ h => h) (Or.inr ⟨by rfl, rfl⟩) hHeld ?_; (try simp only [List.getElem_toArray, List.getElem_cons_zero, List.getElem_cons_succ, Act.put, List.setIfInBounds_toArray, List.set_cons_zero, List.set_cons_succ]))
    (refine wpAnyH_take (i := 18) (v := ?_) rfl (by kernel_rfl) (by kernel_rfl) (by kernel_rfl) (fun _ _ _ h => h) (Or.inl ⟨by rfl, ?_⟩) hHeld ?_; rotate_left; (· (intro w' hSw; go_simp; try with_reducible rfl)); (try simp only [List.getElem_toArray, List.getElem_cons_zero, List.getElem_cons_succ, Act.put, List.setIfInBounds_toArray, List.set_cons_zero, List.set_cons_succ]))
    refine wpAnyH_done (by kernel_rfl) ?_ _
    replace RY := RY.below hHeld
    replace PQ := PQ.below hHeld
    replace Z := Z.below hHeld
    replace HB := Lib.hid (HB.out.call hHeld)
    replace HR := Lib.hid (HR.out.below hHeld)
    clear hHeld
    have S1 := Lib.hid (Z.putAll z24 (.slice none 0 0) rfl)
    have S2 := Lib.hid (HB.out.puts (b := w.heap.size + 1 + 1) (by omega) 0 (rpC z24 (.slice none 0 0)))
    go_wp2_with (first | (refine guardY (isBdY 33) ?_ ?_; (· rfl); refine build_law rfl 33 rfl _ buildRpZ ?_) | (refine guardY (isStY 33) ?_ ?_; (· rfl); refine store_ry rfl 33 _ _ rfl (w.heap.size + 1 + 1) rfl z24 (.slice none 0 0) rfl _ _ _ Z rfl rfl ?_ ?_; (· kernel_rfl)))
    exact bodyPost_ret (res_ry1 rfl _ _ (w.heap.size + 1 + 1) z24 _ _ _ (.bool false) rfl rfl S1.out Try.underlying33 rfl (by kernel_rfl)) rfl ⟨.slice none 0 0, by rw [E.out]; rfl, by rw [E.out]; exact Rw.nil _ _, S2.out⟩
  | true =>
    have n60 := rp_le hok
    have EA2 : Hid (apOk ns fs n x y = (decide (n < 60) && pourOk (doR ns fs n) x y)) := Lib.hid (by rw [EA.out, hok, Bool.true_and])
    have VV := Lib.hid (do_valid h24 (rp_do hok))
    rw [rk_yes hok] at q1
    have hl := rks_len ns fs n
    obtain ⟨gg, cc, rfl, hg0', hg1'⟩ := q1.form (by rw [hl]; omega)
    rw [hl] at q1 ⊢
    have gru := Lib.hid (fun w' (hw : Kept w1 w') => (q1.below hw).range (rks_len ns fs n).symm n (by omega))
    rw [rks_get ns fs n n (Nat.le_refl _)] at gru
    have hR := HL.out n
    obtain ⟨R, hRR⟩ : ∃ R, doR ns fs n = R := ⟨_, rfl⟩
    rw [hRR] at gru hR EA2 VV
    have hi1 : (Try.prog.info? 31).map (·.size) = some (ints R).length := by rw [ints_len, hR]; exact hi00
    have hi2 : (Try.prog.info? 41).map (·.size) = some (ints [x, y]).length := by kernel_rfl
    have C24 := Lib.hid (fun w' (hw : Kept w1 w') => (RY.below hw).pours)
    have CP := Lib.hid (fun w' (hw : Kept w1 w') => (PQ.below hw).holds.range)
    clear hok EA q1 hRR hl HL
    by_cases h60 : n < 60
    rotate_left
    · have E : Hid (apOk ns fs n x y = false) := Lib.hid (by rw [EA2.out, decide_eq_false h60]; rfl)
      have hge : (60 : Int) ≤ (n : Int) := by omega
      clear h60
      go_wp2_with fail
      refine wp_region_held_drew (S := fun w' => Kept w1 w') (by kernel_rfl) ((kept_refl w1).drewN 1) (fun hHeld => ?_)
      (refine wpAnyH_take (i := 0) (v := ?_) rfl (by kernel_rfl) (by kernel_rfl) (by kernel_rfl) (fun _ _ _ h => h) (Or.inl ⟨by rfl, ?_⟩) hHeld ?_; rotate_left; (· (intro w' hSw; go_simp; try with_reducible rfl)); (try simp only [List.getElem_toArray, List.getElem_cons_zero, List.getElem_cons_succ, Act.put, List.setIfInBounds_toArray, List.set_cons_zero, List.set_cons_succ])); (refine wpAnyH_take (i := 1) (v := ?_) rfl (by kernel_rfl) (by kernel_rfl) (by kernel_rfl) (fun _ _ _ h => h) (Or.inl ⟨by rfl, ?_⟩) hHeld ?_; rotate_left; (· (intro w' hSw; go_simp; try with_reducible rfl)); (try simp only [List.getElem_toArray, List.getElem_cons_zero, List.getElem_cons_succ, Act.put, List.setIfInBounds_toArray, List.set_cons_zero, List.set_cons_succ])); (refine wpAnyH_take (i := 2) (v := ?_) rfl (by kernel_rfl) (by kernel_rfl) (by kernel_rfl) (fun _ _ _ h => h) (Or.inl ⟨by rfl, ?_⟩) hHeld ?_; rotate_left; (· (intro w' hSw; go_simp; try with_reducible rfl)); (try simp only [List.getElem_toArray, List.getElem_cons_zero, List.getElem_cons_succ, Act.put, List.setIfInBounds_toArray, List.set_cons_zero, List.set_cons_succ])); (refine wpAnyH_take (i := 3) (v := ?_) rfl (by kernel_rfl) (by kernel_rfl) (by kernel_rfl) (fun _ _ _ h => h) (Or.inl ⟨by rfl, ?_⟩) hHeld ?_; rotate_left; (· (intro w' hSw; go_simp; try with_reducible rfl)); (try simp only [List.getElem_toArray, List.getElem_cons_zero, List.getElem_cons_succ, Act.put, List.setIfInBounds_toArray, List.set_cons_zero, List.set_cons_succ]))
      (refine wpAnyH_take (i := 4) (v := .slice a n cap) rfl (by kernel_rfl) (by kernel_rfl) (by kernel_rfl) (fun _ _ _ h => h) (Or.inl ⟨by rfl, ?_⟩) hHeld ?_; (· (intro w' hSw; have q := C24.out w' hSw; clear hSw; go_simp; try with_reducible rfl)); (try simp only [List.getElem_toArray, List.getElem_cons_zero, List.getElem_cons_succ, Act.put, List.setIfInBounds_toArray, List.set_cons_zero, List.set_cons_succ]))
      (refine wpAnyH_take (i := 5) (v := ?_) rfl (by kernel_rfl) (by kernel_rfl) (by kernel_rfl) (fun _ _ _ h => h) (Or.inl ⟨by rfl, ?_⟩) hHeld ?_; rotate_left; (· (intro w' hSw; go_simp; try with_reducible rfl)); (try simp only [List.getElem_toArray, List.getElem_cons_zero, List.getElem_cons_succ, Act.put, List.setIfInBounds_toArray, List.set_cons_zero, List.set_cons_succ])); (refine wpAnyH_take (i := 6) (v := ?_) rfl (by kernel_rfl) (by kernel_rfl) (by kernel_rfl) (fun _ _ _ h => h) (Or.inl ⟨by rfl, ?_⟩) hHeld ?_; rotate_left; (· (intro w' hSw; go_simp; try with_reducible rfl)); (try simp only [List.getElem_toArray, List.getElem_cons_zero, List.getElem_cons_succ, Act.put, List.setIfInBounds_toArray, List.set_cons_zero, List.set_cons_succ])); (refine wpAnyH_take (i := 7) (v := ?_) rfl (by kernel_rfl) (by kernel_rfl) (by kernel_rfl) (fun _ _ _ h => h) (Or.inl ⟨by rfl, ?_⟩) hHeld ?_; rotate_left; (· (intro w' hSw; go_simp; try with_reducible rfl)); (try simp only [List.getElem_toArray, List.getElem_cons_zero, List.getElem_cons_succ, Act.put, List.setIfInBounds_toArray, List.set_cons_zero, List.set_cons_succ])); (refine wpAnyH_take (i := 8) (v := ?_) rfl (by kernel_rfl) (by kernel_rfl) (by kernel_rfl) (fun _ _ _ h => h) (Or.inl ⟨by rfl, ?_⟩) hHeld ?_; rotate_left; (· (intro w' hSw; go_simp; try with_reducible rfl)); (try simp only [List.getElem_toArray, List.getElem_cons_zero, List.getElem_cons_succ, Act.put, List.setIfInBounds_toArray, List.set_cons_zero, List.set_cons_succ]))
      (refine wpAnyH_take (i := 9) (v := undef) rfl (by kernel_rfl) (by kernel_rfl) (by kernel_rfl) (fun _ _ _ h => h) (Or.inr ⟨by rfl, rfl⟩) hHeld ?_; (try simp only [List.getElem_toArray, List.getElem_cons_zero, List.getElem_cons_succ, Act.put, List.setIfInBounds_toArray, List.set_cons_zero, List.set_cons_succ])); (refine wpAnyH_take (i := 10) (v := undef) rfl (by kernel_rfl) (by kernel_rfl) (by kernel_rfl) (fun _ _ _ h => h) (Or.inr ⟨by rfl, rfl⟩) hHeld ?_; (try simp only [List.getElem_toArray, List.getElem_cons_zero, List.getElem_cons_succ, Act.put, List.setIfInBounds_toArray, List.set_cons_zero, List.set_cons_succ])); (refine wpAnyH_take (i := 11) (v := undef) rfl (by kernel_rfl) (by kernel_rfl) (by kernel_rfl) (fun _ _ _ h => h) (Or.inr ⟨by rfl, rfl⟩) hHeld ?_; (try simp only [List.getElem_toArray, List.getElem_cons_zero, List.getElem_cons_succ, Act.put, List.setIfInBounds_toArray, List.set_cons_zero, List.set_cons_succ])); (refine wpAnyH_take (i := 12) (v := undef) rfl (by kernel_rfl) (by kernel_rfl) (by kernel_rfl) (fun _ _ _ h => h) (Or.inr ⟨by rfl, rfl⟩) hHeld ?_; (try simp only [List.getElem_toArray, List.getElem_cons_zero, List.getElem_cons_succ, Act.put, List.setIfInBounds_toArray, List.set_cons_zero, List.set_cons_succ])); (refine wpAnyH_take (i := 13) (v := undef) rfl (by kernel_rfl) (by kernel_rfl) (by kernel_rfl) (fun _ _ _ h => h) (Or.inr ⟨by rfl, rfl⟩) hHeld ?_; (try simp only [List.getElem_toArray, List.getElem_cons_zero, List.getElem_cons_succ, Act.put, List.setIfInBounds_toArray, List.set_cons_zero, List.set_cons_succ])); (refine wpAnyH_take (i := 14) (v := undef) rfl (by kernel_rfl) (by kernel_rfl) (by kernel_rfl) (fun _ _ _ h => h) (Or.inr ⟨by rfl, rfl⟩) hHeld ?_; (try simp only [List.getElem_toArray, List.getElem_cons_zero, List.getElem_cons_succ, Act.put, List.setIfInBounds_toArray, List.set_cons_zero, List.set_cons_succ])); (refine wpAnyH_take (i := 15) (v := undef) rfl (by kernel_rfl) (by kernel_rfl) (by kernel_rfl) (fun _ _ _ h => h) (Or.inr ⟨by rfl, rfl⟩) hHeld ?_; (try simp only [List.getElem_toArray, List.getElem_cons_zero, List.getElem_cons_succ, Act.put, List.setIfInBounds_toArray, List.set_cons_zero, List.set_cons_succ])); (refine wpAnyH_take (i := 16) (v := undef) rfl (by kernel_rfl) (by kernel_rfl) (by kernel_rfl) (fun _ _ _ h => h) (Or.inr ⟨by rfl, rfl⟩) hHeld ?_; (try simp only [List.getElem_toArray, List.getElem_cons_zero, List.getElem_cons_succ, Act.put, List.setIfInBounds_toArray, List.set_cons_zero, List.set_cons_succ])); (refine wpAnyH_take (i := 17) (v := undef) rfl (by kernel_rfl) (by kernel_rfl) (by kernel_rfl) (fun _ _ _ h => h) (Or.inr ⟨by rfl, rfl⟩) hHeld ?_; (try simp only [List.getElem_toArray, List.getElem_cons_zero, List.getElem_cons_succ, Act.put, List.setIfInBounds_toArray, List.set_cons_zero, List.set_cons_succ]))
      (refine wpAnyH_take (i := 18) (v := ?_) rfl (by kernel_rfl) (by kernel_rfl) (by kernel_rfl) (fun _ _ _ h => h) (Or.inl ⟨by rfl, ?_⟩) hHeld ?_; rotate_left; (· (intro w' hSw; go_simp; try with_reducible rfl)); (try simp only [List.getElem_toArray, List.getElem_cons_zero, List.getElem_cons_succ, Act.put, List.setIfInBounds_toArray, List.set_cons_zero, List.set_cons_succ]))
      refine wpAnyH_done (by kernel_rfl) ?_ _
      replace RY := RY.below hHeld
      replace PQ := PQ.below hHeld
      replace Z := Z.below hHeld
      replace HB := Lib.hid (HB.out.call hHeld)
      replace HR := Lib.hid (HR.out.below hHeld)
      clear hHeld
      have S1 := Lib.hid (Z.putAll z24 (.slice none 0 0) rfl)
      have S2 := Lib.hid (HB.out.puts (b := w.heap.size + 1 + 1) (by omega) 0 (rpC z24 (.slice none 0 0)))
      go_wp2_with (first | (refine guardY (isBdY 33) ?_ ?_; (· rfl); refine build_law rfl 33 rfl _ buildRpZ ?_) | (refine guardY (isStY 33) ?_ ?_; (· rfl); refine store_ry rfl 33 _ _ rfl (w.heap.size + 1 + 1) rfl z24 (.slice none 0 0) rfl _ _ _ Z rfl rfl ?_ ?_; (· kernel_rfl)))
      exact bodyPost_ret (res_ry1 rfl _ _ (w.heap.size + 1 + 1) z24 _ _ _ (.bool false) rfl rfl S1.out Try.underlying33 rfl (by kernel_rfl)) rfl ⟨.slice none 0 0, by rw [E.out]; rfl, by rw [E.out]; exact Rw.nil _ _, S2.out⟩
    have hlt60 : decide ((60 : Int) ≤ (n : Int)) = false := by simp; omega
    have hlt60n : ¬ (60 : Int) ≤ (n : Int) := by omega
    have wr1 : IntKind.i64.wrap ((n : Int) + 1 - 1) = (n : Int) := by rw [IntWalk.i64_in _ (by omega)]; omega
    have wr2 : (n : Int) + 1 - 1 = (n : Int) := by omega
    have wr3 : IntKind.i64.wrap (n : Int) = (n : Int) := IntWalk.i64_in _ (by omega)
    have k1 : (n : Int) < (n : Int) + 1 := by omega
    have k4 : (0 : Int) ≤ (n : Int) := by omega
    have HRL := Lib.hid hR
    go_wp2_with fail
    refine wp_region_held_drew (S := fun w' => Kept w1 w') (by kernel_rfl) ((kept_refl w1).drewN 1) (fun hHeld => ?_)
    (refine wpAnyH_take (i := 0) (v := ?_) rfl (by kernel_rfl) (by kernel_rfl) (by kernel_rfl) (fun _ _ _ h => h) (Or.inl ⟨by rfl, ?_⟩) hHeld ?_; rotate_left; (· (intro w' hSw; go_simp; try with_reducible rfl)); (try simp only [List.getElem_toArray, List.getElem_cons_zero, List.getElem_cons_succ, Act.put, List.setIfInBounds_toArray, List.set_cons_zero, List.set_cons_succ])); (refine wpAnyH_take (i := 1) (v := ?_) rfl (by kernel_rfl) (by kernel_rfl) (by kernel_rfl) (fun _ _ _ h => h) (Or.inl ⟨by rfl, ?_⟩) hHeld ?_; rotate_left; (· (intro w' hSw; go_simp; try with_reducible rfl)); (try simp only [List.getElem_toArray, List.getElem_cons_zero, List.getElem_cons_succ, Act.put, List.setIfInBounds_toArray, List.set_cons_zero, List.set_cons_succ])); (refine wpAnyH_take (i := 2) (v := ?_) rfl (by kernel_rfl) (by kernel_rfl) (by kernel_rfl) (fun _ _ _ h => h) (Or.inl ⟨by rfl, ?_⟩) hHeld ?_; rotate_left; (· (intro w' hSw; go_simp; try with_reducible rfl)); (try simp only [List.getElem_toArray, List.getElem_cons_zero, List.getElem_cons_succ, Act.put, List.setIfInBounds_toArray, List.set_cons_zero, List.set_cons_succ])); (refine wpAnyH_take (i := 3) (v := ?_) rfl (by kernel_rfl) (by kernel_rfl) (by kernel_rfl) (fun _ _ _ h => h) (Or.inl ⟨by rfl, ?_⟩) hHeld ?_; rotate_left; (· (intro w' hSw; go_simp; try with_reducible rfl)); (try simp only [List.getElem_toArray, List.getElem_cons_zero, List.getElem_cons_succ, Act.put, List.setIfInBounds_toArray, List.set_cons_zero, List.set_cons_succ]))
    (refine wpAnyH_take (i := 4) (v := .slice a n cap) rfl (by kernel_rfl) (by kernel_rfl) (by kernel_rfl) (fun _ _ _ h => h) (Or.inl ⟨by rfl, ?_⟩) hHeld ?_; (· (intro w' hSw; have q := C24.out w' hSw; clear hSw; go_simp; try with_reducible rfl)); (try simp only [List.getElem_toArray, List.getElem_cons_zero, List.getElem_cons_succ, Act.put, List.setIfInBounds_toArray, List.set_cons_zero, List.set_cons_succ]))
    (refine wpAnyH_take (i := 5) (v := ?_) rfl (by kernel_rfl) (by kernel_rfl) (by kernel_rfl) (fun _ _ _ h => h) (Or.inl ⟨by rfl, ?_⟩) hHeld ?_; rotate_left; (· (intro w' hSw; go_simp; try with_reducible rfl)); (try simp only [List.getElem_toArray, List.getElem_cons_zero, List.getElem_cons_succ, Act.put, List.setIfInBounds_toArray, List.set_cons_zero, List.set_cons_succ])); (refine wpAnyH_take (i := 6) (v := ?_) rfl (by kernel_rfl) (by kernel_rfl) (by kernel_rfl) (fun _ _ _ h => h) (Or.inl ⟨by rfl, ?_⟩) hHeld ?_; rotate_left; (· (intro w' hSw; go_simp; try with_reducible rfl)); (try simp only [List.getElem_toArray, List.getElem_cons_zero, List.getElem_cons_succ, Act.put, List.setIfInBounds_toArray, List.set_cons_zero, List.set_cons_succ])); (refine wpAnyH_take (i := 7) (v := ?_) rfl (by kernel_rfl) (by kernel_rfl) (by kernel_rfl) (fun _ _ _ h => h) (Or.inl ⟨by rfl, ?_⟩) hHeld ?_; rotate_left; (· (intro w' hSw; go_simp; try with_reducible rfl)); (try simp only [List.getElem_toArray, List.getElem_cons_zero, List.getElem_cons_succ, Act.put, List.setIfInBounds_toArray, List.set_cons_zero, List.set_cons_succ])); (refine wpAnyH_take (i := 8) (v := ?_) rfl (by kernel_rfl) (by kernel_rfl) (by kernel_rfl) (fun _ _ _ h => h) (Or.inl ⟨by rfl, ?_⟩) hHeld ?_; rotate_left; (· (intro w' hSw; go_simp; try with_reducible rfl)); (try simp only [List.getElem_toArray, List.getElem_cons_zero, List.getElem_cons_succ, Act.put, List.setIfInBounds_toArray, List.set_cons_zero, List.set_cons_succ])); (refine wpAnyH_take (i := 9) (v := ?_) rfl (by kernel_rfl) (by kernel_rfl) (by kernel_rfl) (fun _ _ _ h => h) (Or.inl ⟨by rfl, ?_⟩) hHeld ?_; rotate_left; (· (intro w' hSw; go_simp; try with_reducible rfl)); (try simp only [List.getElem_toArray, List.getElem_cons_zero, List.getElem_cons_succ, Act.put, List.setIfInBounds_toArray, List.set_cons_zero, List.set_cons_succ])); (refine wpAnyH_take (i := 10) (v := ?_) rfl (by kernel_rfl) (by kernel_rfl) (by kernel_rfl) (fun _ _ _ h => h) (Or.inl ⟨by rfl, ?_⟩) hHeld ?_; rotate_left; (· (intro w' hSw; go_simp; try with_reducible rfl)); (try simp only [List.getElem_toArray, List.getElem_cons_zero, List.getElem_cons_succ, Act.put, List.setIfInBounds_toArray, List.set_cons_zero, List.set_cons_succ])); (refine wpAnyH_take (i := 11) (v := ?_) rfl (by kernel_rfl) (by kernel_rfl) (by kernel_rfl) (fun _ _ _ h => h) (Or.inl ⟨by rfl, ?_⟩) hHeld ?_; rotate_left; (· (intro w' hSw; go_simp; try with_reducible rfl)); (try simp only [List.getElem_toArray, List.getElem_cons_zero, List.getElem_cons_succ, Act.put, List.setIfInBounds_toArray, List.set_cons_zero, List.set_cons_succ])); (refine wpAnyH_take (i := 12) (v := ?_) rfl (by kernel_rfl) (by kernel_rfl) (by kernel_rfl) (fun _ _ _ h => h) (Or.inl ⟨by rfl, ?_⟩) hHeld ?_; rotate_left; (· (intro w' hSw; go_simp; try with_reducible rfl)); (try simp only [List.getElem_toArray, List.getElem_cons_zero, List.getElem_cons_succ, Act.put, List.setIfInBounds_toArray, List.set_cons_zero, List.set_cons_succ])); (refine wpAnyH_take (i := 13) (v := ?_) rfl (by kernel_rfl) (by kernel_rfl) (by kernel_rfl) (fun _ _ _ h => h) (Or.inl ⟨by rfl, ?_⟩) hHeld ?_; rotate_left; (· (intro w' hSw; go_simp; try with_reducible rfl)); (try simp only [List.getElem_toArray, List.getElem_cons_zero, List.getElem_cons_succ, Act.put, List.setIfInBounds_toArray, List.set_cons_zero, List.set_cons_succ]))
    (refine wpAnyH_take (i := 14) (v := _) rfl (by kernel_rfl) (by kernel_rfl) (by kernel_rfl) (fun _ _ _ h => h) (yieldsIf_load_mid (by rfl) 31 _ rfl _ _ rfl (ints R) _ (fun w' hSw => gru.out w' hSw) Try.underlying31 rfl (hi1)) hHeld ?_; (try simp only [List.getElem_toArray, List.getElem_cons_zero, List.getElem_cons_succ, Act.put, List.setIfInBounds_toArray, List.set_cons_zero, List.set_cons_succ]))
    (refine wpAnyH_take (i := 15) (v := _) rfl (by kernel_rfl) (by kernel_rfl) (by kernel_rfl) (fun _ _ _ h => h) (yieldsIf_load_mid (by rfl) 41 _ rfl _ _ rfl (ints [x, y]) _ (fun w' hSw => CP.out w' hSw) Try.underlying41 rfl (hi2)) hHeld ?_; (try simp only [List.getElem_toArray, List.getElem_cons_zero, List.getElem_cons_succ, Act.put, List.setIfInBounds_toArray, List.set_cons_zero, List.set_cons_succ]))
    (refine wpAnyH_ready (rs := [16]) (by kernel_rfl) (by simp) ?_; refine AllReadyH.cons (o := _) rfl (fun K hK => ?_) AllReadyH.nil; (simp only [List.getElem_toArray, List.getElem_cons_zero, List.getElem_cons_succ, Region.wanted, if_true]))
    go_simp
    refine (l6Can_any R x y _ HRL.out VV.out).mono ?_
    rintro e wc ⟨rfl, bc⟩
    dsimp only
    (try simp only [List.getElem_toArray, List.getElem_cons_zero, List.getElem_cons_succ, Act.put, List.setIfInBounds_toArray, List.set_cons_zero, List.set_cons_succ])
    have KC := Kept.call hHeld bc
    refine hK.out _ _ KC (fun hHeld => ?_)
    clear hK K bc KC
    (refine wpAnyH_take (i := 17) (v := ?_) rfl (by kernel_rfl) (by kernel_rfl) (by kernel_rfl) (fun _ _ _ h => h) (Or.inl ⟨by rfl, ?_⟩) hHeld ?_; rotate_left; (· (intro w' hSw; go_simp; try with_reducible rfl)); (try simp only [List.getElem_toArray, List.getElem_cons_zero, List.getElem_cons_succ, Act.put, List.setIfInBounds_toArray, List.set_cons_zero, List.set_cons_succ])); (refine wpAnyH_take (i := 18) (v := ?_) rfl (by kernel_rfl) (by kernel_rfl) (by kernel_rfl) (fun _ _ _ h => h) (Or.inl ⟨by rfl, ?_⟩) hHeld ?_; rotate_left; (· (intro w' hSw; go_simp; try with_reducible rfl)); (try simp only [List.getElem_toArray, List.getElem_cons_zero, List.getElem_cons_succ, Act.put, List.setIfInBounds_toArray, List.set_cons_zero, List.set_cons_succ]))
    refine wpAnyH_done (by kernel_rfl) ?_ _
    replace RY := RY.below hHeld
    replace PQ := PQ.below hHeld
    replace Z := Z.below hHeld
    replace HB := Lib.hid (HB.out.call hHeld)
    replace HR := Lib.hid (HR.out.below hHeld)
    clear hHeld
    clear gru C24 CP hi1 hi2 hlt60 hlt60n wr1 wr2 wr3 k1 k4
    cases hap : pourOk R x y with
    | false =>
      have E : Hid (apOk ns fs n x y = false) := Lib.hid (by rw [EA2.out, hap, Bool.and_false])
      clear hap
      have S1 := Lib.hid (Z.putAll z24 (.slice none 0 0) rfl)
      have S2 := Lib.hid (HB.out.puts (b := w.heap.size + 1 + 1) (by omega) 0 (rpC z24 (.slice none 0 0)))
      go_wp2_with (first | (refine guardY (isBdY 33) ?_ ?_; (· rfl); refine build_law rfl 33 rfl _ buildRpZ ?_) | (refine guardY (isStY 33) ?_ ?_; (· rfl); refine store_ry rfl 33 _ _ rfl (w.heap.size + 1 + 1) rfl z24 (.slice none 0 0) rfl _ _ _ Z rfl rfl ?_ ?_; (· kernel_rfl)))
      exact bodyPost_ret (res_ry1 rfl _ _ (w.heap.size + 1 + 1) z24 _ _ _ (.bool false) rfl rfl S1.out Try.underlying33 rfl (by kernel_rfl)) rfl ⟨.slice none 0 0, by rw [E.out]; rfl, by rw [E.out]; exact Rw.nil _ _, S2.out⟩
    | true =>
      have E : Hid (apOk ns fs n x y = true) := Lib.hid (by rw [EA2.out, hap, decide_eq_true h60]; rfl)
      have ET : Hid (fs.take (n * 2) = fs) := Lib.hid (List.take_of_length_le (by rw [FL.out]; omega))
      have hws2 : w.heap.size + 3 ≤ wc.heap.size := by have := HB.out.size; have := RY.lt; have := Z.lt; omega
      have c24 := RY.pours
      clear hap
      go_wp2_with (refine guardY (isLdY 33) ?_ ?_; (· rfl); refine load_ry rfl 33 _ rfl w.heap.size rfl _ _ _ RY _ Try.underlying33 rfl ?_ ?_; (· kernel_rfl))
      refine (l11CutG_any ns fs (.slice a n cap) n b n _ h24 hn HR.out (Nat.le_refl _)).mono ?_
      rintro e w2 ⟨g, gc2, rfl, q2, b2⟩
      rw [ET.out] at q2
      have ow := World.ownsRow.lt q2 g rfl
      have hg0 : w.heap.size + 3 ≤ g := by omega
      have hg1 : g < w2.heap.size := ow.2
      have RC := Ry.box (v := .slice (some ⟨g, 0, none⟩) n gc2) w2 33 h24
      have Q : Hid (Prs (w2.alloc (.cells (rpC ns (.slice (some ⟨g, 0, none⟩) n gc2)).toArray 33)) wc.heap.size (.slice (some ⟨g, 0, none⟩) n gc2) n fs) := Lib.hid (World.ownsRow.alloc q2 _)
      replace PQ := (PQ.below b2).alloc (.cells (rpC ns (.slice (some ⟨g, 0, none⟩) n gc2)).toArray 33)
      replace Z := (Z.below b2).alloc (.cells (rpC ns (.slice (some ⟨g, 0, none⟩) n gc2)).toArray 33)
      replace HB := Lib.hid ((HB.out.call b2).alloc (.cells (rpC ns (.slice (some ⟨g, 0, none⟩) n gc2)).toArray 33))
      have hlt := RC.lt
      have hsw : wc.heap.size ≤ (w2.alloc (.cells (rpC ns (.slice (some ⟨g, 0, none⟩) n gc2)).toArray 33)).heap.size := by rw [size1]; have := b2.size; omega
      clear q2 b2 RY HR ow c24
      go_upto_region 5 with (refine guardY (isStY 33) ?_ ?_; (· rfl); refine store_newry rfl 33 _ _ rfl w2 _ _ rfl _ rfl ns (.slice (some ⟨g, 0, none⟩) n gc2) rfl rfl rfl h24 rfl ?_ ?_; (· kernel_rfl))
      obtain ⟨c, hc⟩ : ∃ c, w2.heap.size = c := ⟨_, rfl⟩
      rw [hc] at RC hg1 hlt ⊢
      generalize w2.alloc (.cells (rpC ns (.slice (some ⟨g, 0, none⟩) n gc2)).toArray 33) = W2 at *
      clear hc
      have c24 := RC.pours
      have RC2 := RC.alloc (.cells (ints [x, y]).toArray 41)
      have f24 := RC2.free 24
      have Q2 : Hid (Prs (W2.alloc (.cells (ints [x, y]).toArray 41)) wc.heap.size (.slice (some ⟨g, 0, none⟩) n gc2) n fs) := Lib.hid (World.ownsRow.alloc Q.out _)
      have hne1 : c ≠ g := by omega
      have hne2 : w.heap.size + 1 + 1 ≠ g := by omega
      go_upto_region 6 with (first | (refine guardY (isLdY 41) ?_ ?_; (· rfl); refine load_has rfl 41 _ rfl (w.heap.size + 1) rfl [x, y] 2 PQ _ Try.underlying41 rfl ?_ ?_; (· kernel_rfl)) | (refine slice1Y rfl 26 41 _ rfl Try.underlying26 (by kernel_rfl) [x, y] rfl rfl ?_) | (at_builtin; refine wpList_append_prs rfl _ _ rfl wc.heap.size _ n fs rfl Q2.out (some ⟨W2.heap.size, 0, none⟩) 1 1 rfl [x, y] rfl (from_new W2 x y _) (by rw [size1]; omega) (by omega) ?_; intro v' w5 hP hgrow hlie; obtain ⟨va, vc, rfl⟩ := hP.rw.shape; have RC3 := RC2.grown hgrow (fun e => hne1 (Option.some.inj e)); have c24' := RC3.pours; have f24' := RC3.free 24))
      have own5 := Lib.hid (fun z hz => (World.ownsRow.lt hP z hz).1)
      have P5 := hP.rw
      have Z5 := (Z.alloc (.cells (ints [x, y]).toArray 41)).grown hgrow (fun e => hne2 (Option.some.inj e))
      have B5 : Hid (Kept w w5) := Lib.hid ((HB.out.alloc (.cells (ints [x, y]).toArray 41)).grown hgrow (by have := HB.out.size; rw [size1]; omega) (fun z hz => by have := Option.some.inj (show some g = some z from hz); omega))
      have ne5 := Lib.hid (show ∀ z, (Value.slice va (n + 1) vc).ownBlock = some z → z ≠ c from fun z hz => by
        rcases hlie with h3 | h3
        · have h4 := h3.symm.trans hz
          have := Option.some.inj (show some g = some z from h4); omega
        · have h4 := h3.symm.trans hz
          have := Option.some.inj h4; rw [size1] at this; omega)
      clear hP hgrow hlie Q2 Q RC RC2 PQ Z HB c24 f24 c24' f24'
      have R6 := RC3.setPours (.slice va (n + 1) vc)
      have Z6 := Z5.setOther (q := c) 24 (.slice va (n + 1) vc) (by omega)
      have B6 := Lib.hid (B5.out.set (b := c) (by omega) 24 (.slice va (n + 1) vc))
      have P6 : Hid (Rw (w5.setCell ⟨c, 24, none⟩ (.slice va (n + 1) vc)) wc.heap.size (.slice va (n + 1) vc) (n + 1) (fs ++ [x, y])) := Lib.hid (P5.puts c 24 [.slice va (n + 1) vc] (fun _ e => ne5.out c e rfl))
      clear P5 RC3 Z5 B5
      generalize World.setCell w5 ⟨c, 24, none⟩ (.slice va (n + 1) vc) = W6 at *
      have S1 := Lib.hid (Z6.putAll ns (.slice va (n + 1) vc) h24)
      have S2 := Lib.hid (B6.out.puts (b := w.heap.size + 1 + 1) (by omega) 0 (rpC ns (.slice va (n + 1) vc)))
      have S3 := Lib.hid (Rw.mono (P6.out.puts (w.heap.size + 1 + 1) 0 (rpC ns (.slice va (n + 1) vc)) (fun _ e => by have := own5.out _ e; omega)) (show w.heap.size ≤ wc.heap.size by omega))
      go_wp2_with (first | (refine guardY (isLdY 33) ?_ ?_; (· rfl); refine load_ry rfl 33 _ rfl c rfl _ _ _ R6 _ Try.underlying33 rfl ?_ ?_; (· kernel_rfl)) | (refine guardY (isStY 33) ?_ ?_; (· rfl); refine store_ry rfl 33 _ _ rfl (w.heap.size + 1 + 1) rfl ns (.slice va (n + 1) vc) rfl _ _ _ Z6 h24 rfl ?_ ?_; (· kernel_rfl)))
      exact bodyPost_ret (res_ry1 rfl _ _ (w.heap.size + 1 + 1) ns _ _ _ (.bool true) rfl rfl S1.out Try.underlying33 rfl (by kernel_rfl)) rfl ⟨_, by rw [E.out]; rfl, by rw [E.out]; exact S3.out, S2.out⟩
end Go.Proofs.Ytalngdccjoafhaa.base
