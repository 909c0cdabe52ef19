/-
  The exact law of AddPour, walked.
-/
import Derived.Test.YtalngdccjoafhaaRyB
import Derived.Test.YtalngdccjoafhaaRyP
import Derived.Test.YtalngdccjoafhaaSwapZ
namespace Go.Proofs.Ytalngdccjoafhaa.base
open Go.ChangeShapes Go.WideShapes Go.ChangeAt Go.RowKit
set_option linter.unusedVariables false
set_option linter.unusedSimpArgs false

theorem Ry.there25 {w : World} {p : Nat} {ns : List Int} {v : Value} {T : TypeId} (h : Ry w p ns v T) : w.there p 0 25 := fun j hj => h.1.there j (by rw [rpC_len h.2]; exact hj)
theorem Has.grownAp {w w' : World} {c : Nat} {ns : List Int} {m : Nat} (H : Has w c ns m) {r : Option Nat} (hg : w.grownBy w' r) (hr : some c ≠ r) : Has w' c ns m := by
  have hb := hg.block c H.lt hr
  refine ⟨⟨fun j v hv => (World.cell?_of_block (a := ⟨c, 0 + j, Option.none⟩) hb).trans (H.holds.range j v hv), fun j hj => ?_⟩, H.len, H.pos⟩
  have := H.holds.there j hj
  rw [World.cell?_of_block (w' := w') (w := w) (a := ⟨c, 0 + j, Option.none⟩) hb, World.frozen?_of_block (w' := w') (w := w) (a := ⟨c, 0 + j, Option.none⟩) hb]
  exact this

set_option maxHeartbeats 6400000 in
set_option maxRecDepth 100000 in
theorem lawAddPour (ns : List Int) (a : Option Addr) (len cap : Nat) (zs : List Int) (ps : List Int) (w : World) (h0 : ns.length = 24 ∧ ∀ n ∈ ns, (Lit.int .i64 n).wf = true) (hp : IsPairs w a len zs) (hps : ps.length = 2 ∧ ∀ n ∈ ps, (Lit.int .i64 n).wf = true) :
    Calls Try.prog 5 #[.agg (rpC ns (.slice a len cap)).toArray, row ps] w fun e w' => e = .returned (.bool true) ∧ Kept w w' := by
  have h24 := h0.1
  clear h0
  obtain ⟨x, y, rfl⟩ := len2 hps.1
  clear hps
  have hml := hp.1
  rw [row_ints]
  have H := (Ry.box (v := .slice a len cap) w 28 h24).alloc (.cells (ints [x, y]).toArray 41)
  have PQ := (Has.box (ns := [x, y]) (n := 2) (w.alloc (.cells (rpC ns (.slice a len cap)).toArray 28)) 41 rfl (by omega)).at (c := w.heap.size + 1) (size1 _ _)
  have HB := Lib.hid (((kept_refl w).alloc (.cells (rpC ns (.slice a len cap)).toArray 28)).alloc (.cells (ints [x, y]).toArray 41))
  have HP := Lib.hid hp
  clear hp
  go_enter Try.func5, Try.ntmps5
  go_wp2_with (refine guardY (isLdY 28) ?_ ?_; (· rfl); refine load_ry rfl 28 _ rfl w.heap.size rfl _ _ _ H _ Try.underlying28 rfl ?_ ?_; (· kernel_rfl))
  refine (szReplay_any ns a len cap _ h24 hml).mono ?_
  rintro e w0 ⟨⟨r, rfl, hr⟩, b0⟩
  replace H := H.below b0
  replace PQ := PQ.below b0
  replace HB := Lib.hid (HB.out.call b0)
  clear b0
  by_cases hneg : r < 0
  · clear hr
    go_wp2_with fail
    go_ret
    exact ⟨rfl, HB.out⟩
  have hlen : len ≤ 1048576 := by omega
  have hneg2 : decide (r < 0) = false := by simpa using hneg
  clear hr
  have KS := Lib.hid (fun v W (q : Rw W 0 v len zs) => specAdd ns zs v len 0 x y W h24 hlen q)
  have KI := Lib.hid (fun v W (q : Rw W 0 v len zs) => implAdd ns zs v len 0 x y W h24 hlen q)
  unfold RepPost at KS KI
  have hRR := orR_len h24 (apOk ns zs len x y)
  have hNN := apN_le ns zs len x y
  obtain ⟨RR, eRR⟩ : ∃ tt, orR (apOk ns zs len x y) ns = tt := ⟨_, rfl⟩
  rw [eRR] at KS KI hRR
  obtain ⟨NN, eNN⟩ : ∃ tt, orN (apOk ns zs len x y) (len + 1) = tt := ⟨_, rfl⟩
  rw [eNN] at KS KI hNN
  obtain ⟨FF, eFF⟩ : ∃ tt, orF (apOk ns zs len x y) (zs ++ [x, y]) = tt := ⟨_, rfl⟩
  rw [eFF] at KS KI
  obtain ⟨OK, eOK⟩ : ∃ tt, apOk ns zs len x y = tt := ⟨_, rfl⟩
  rw [eOK] at KS KI
  clear eRR eNN eFF eOK
  have hiH : (Try.prog.info? 28).map (·.size) = some (rpC ns (.slice a len cap)).length := by rw [rpC_len h24]; kernel_rfl
  have hiP : (Try.prog.info? 41).map (·.size) = some (ints [x, y]).length := by kernel_rfl
  have hi25 : (Try.prog.info? 33).map (·.size) = some 25 := by kernel_rfl
  have lR : ∀ v : Value, (rpC RR v).length = 25 := rpC_len hRR
  go_wp2_with fail
  have hs00 := PQ.lt
  (try simp only [Act.put])
  go_cut [6, 7] from 21 to 28 (fun s6 s7 wx => ∃ (c E : Nat) (ua : Option Addr) (uc : Nat), s6 = .pointer (some ⟨c, 0, none⟩) ∧ s7 = .bool OK ∧ wx.heap.size = E ∧ w0.heap.size ≤ c ∧ c < wx.heap.size ∧ Ry wx c RR (.slice ua NN uc) 33 ∧ Hid (Rw wx 0 (.slice ua NN uc) NN FF) ∧ Hid (0 < NN → ∀ z, (Value.slice ua NN uc).ownBlock = some z → w0.heap.size ≤ z ∧ z < wx.heap.size ∧ z ≠ c) ∧ Ry wx w.heap.size ns (.slice a len cap) 28 ∧ Has wx (w.heap.size + 1) [x, y] 2 ∧ Hid (Kept w wx))
  case first =>
    refine wp_region_held_drew (S := fun w' => Kept w0 w') (by kernel_rfl) ((kept_refl w0).drewN 1) (fun hHeld => ?_)
    (refine wpAnyH_take (i := 0) (v := _) rfl (by kernel_rfl) (by kernel_rfl) (by kernel_rfl) (fun _ _ _ h => h) (yieldsIf_load_mid (by rfl) 28 _ rfl _ _ rfl (rpC ns (.slice a len cap)) _ (fun w' hSw => (H.below hSw).1.range) Try.underlying28 rfl (hiH)) hHeld ?_; (try simp only [List.getElem_toArray, List.getElem_cons_zero, List.getElem_cons_succ, Act.put, List.setIfInBounds_toArray, List.set_cons_zero, List.set_cons_succ]))
    (refine wpAnyH_take (i := 2) (v := _) rfl (by kernel_rfl) (by kernel_rfl) (by kernel_rfl) (fun _ _ _ h => h) (yieldsIf_load_mid (by rfl) 41 _ rfl _ _ rfl (ints [x, y]) _ (fun w' hSw => (PQ.below hSw).holds.range) Try.underlying41 rfl (hiP)) hHeld ?_; (try simp only [List.getElem_toArray, List.getElem_cons_zero, List.getElem_cons_succ, Act.put, List.setIfInBounds_toArray, List.set_cons_zero, List.set_cons_succ]))
    have hHeld : Kept w0 w0.drew := (kept_refl w0).drewN 1
    refine wpAnyH_ready (rs := [1, 8]) (by kernel_rfl) (by simp) ?_
    refine AllReadyH.cons (o := _) rfl (fun K hK => ?_) (AllReadyH.cons (o := _) rfl (fun K hK => ?_) AllReadyH.nil)
    · (simp only [List.getElem_toArray, List.getElem_cons_zero, List.getElem_cons_succ, Region.wanted, if_true])
      go_simp
      refine (toReplay_any ns a len cap zs _ h24 (HP.out.below (HB.out.call hHeld)) hlen).mono ?_
      rintro e wq101 ⟨v1, rfl, q1, bb⟩
      dsimp only
      (try simp only [List.getElem_toArray, List.getElem_cons_zero, List.getElem_cons_succ, Act.put, List.setIfInBounds_toArray, List.set_cons_zero, List.set_cons_succ])
      have Q1 := Lib.hid (q1.rw.mono (b' := 0) (Nat.zero_le _))
      clear q1
      have KN := Kept.call hHeld bb
      refine hK.out _ _ KN (fun hHeld => ?_)
      clear hK K hHeld bb
      have hHeld := KN
      clear KN
      refine wpAnyH_ready (rs := [3, 8]) (by kernel_rfl) (by simp) ?_
      refine AllReadyH.cons (o := _) rfl (fun K hK => ?_) (AllReadyH.cons (o := _) rfl (fun K hK => ?_) AllReadyH.nil)
      · (simp only [List.getElem_toArray, List.getElem_cons_zero, List.getElem_cons_succ, Region.wanted, if_true])
        go_simp
        refine (toA2_any [x, y] _ rfl).mono ?_
        rintro e wq102 ⟨rfl, bb⟩
        dsimp only
        (try simp only [List.getElem_toArray, List.getElem_cons_zero, List.getElem_cons_succ, Act.put, List.setIfInBounds_toArray, List.set_cons_zero, List.set_cons_succ])
        replace Q1 := Lib.hid (Q1.out.below bb)
        have KN := Kept.call hHeld bb
        refine hK.out _ _ KN (fun hHeld => ?_)
        clear hK K hHeld bb
        have hHeld := KN
        clear KN
        refine wpAnyH_ready (rs := [4, 8]) (by kernel_rfl) (by simp) ?_
        refine AllReadyH.cons (o := _) rfl (fun K hK => ?_) (AllReadyH.cons (o := _) rfl (fun K hK => ?_) AllReadyH.nil)
        · (simp only [List.getElem_toArray, List.getElem_cons_zero, List.getElem_cons_succ, Region.wanted, if_true])
          go_simp
          refine (KS.out _ _ Q1.out).mono ?_
          rintro e wq103 ⟨u2, rfl, q2, bb⟩
          obtain ⟨ua2, uc2, rfl⟩ := q2.shape
          dsimp only
          (try simp only [List.getElem_toArray, List.getElem_cons_zero, List.getElem_cons_succ, Act.put, List.setIfInBounds_toArray, List.set_cons_zero, List.set_cons_succ])
          have own := Lib.hid (fun h0 z hz => (show w0.heap.size ≤ z ∧ z < wq103.heap.size from by have h1 := q2.ownlt h0 z hz; have h2 := hHeld.size; omega))
          have U := Lib.hid q2
          clear q2
          have KN := Kept.call hHeld bb
          refine hK.out _ _ KN (fun hHeld => ?_)
          clear hK K hHeld bb
          have hHeld := KN
          clear KN
          (refine wpAnyH_take (i := 5) (v := ?_) rfl (by kernel_rfl) (by kernel_rfl) (by kernel_rfl) (fun _ _ _ h => h) (Or.inl ⟨by rfl, ?_⟩) hHeld ?_; rotate_left; (· (intro w' hSw; go_simp; try with_reducible rfl)); (try simp only [List.getElem_toArray, List.getElem_cons_zero, List.getElem_cons_succ, Act.put, List.setIfInBounds_toArray, List.set_cons_zero, List.set_cons_succ])); (refine wpAnyH_take (i := 6) (v := ?_) rfl (by kernel_rfl) (by kernel_rfl) (by kernel_rfl) (fun _ _ _ h => h) (Or.inl ⟨by rfl, ?_⟩) hHeld ?_; rotate_left; (· (intro w' hSw; go_simp; try with_reducible rfl)); (try simp only [List.getElem_toArray, List.getElem_cons_zero, List.getElem_cons_succ, Act.put, List.setIfInBounds_toArray, List.set_cons_zero, List.set_cons_succ])); (refine wpAnyH_take (i := 7) (v := ?_) rfl (by kernel_rfl) (by kernel_rfl) (by kernel_rfl) (fun _ _ _ h => h) (Or.inl ⟨by rfl, ?_⟩) hHeld ?_; rotate_left; (· (intro w' hSw; go_simp; try with_reducible rfl)); (try simp only [List.getElem_toArray, List.getElem_cons_zero, List.getElem_cons_succ, Act.put, List.setIfInBounds_toArray, List.set_cons_zero, List.set_cons_succ]))
          (refine wpAnyH_ready (rs := [8]) (by kernel_rfl) (by simp) ?_; refine AllReadyH.cons (o := _) rfl (fun K hK => ?_) AllReadyH.nil; (simp only [List.getElem_toArray, List.getElem_cons_zero, List.getElem_cons_succ, Region.wanted, if_true]))
          go_simp
          (try rw [cells25C])
          have Z : Ry (wq103.alloc (.cells z25.toArray 33)) (wq103.heap.size) z24 (.slice none 0 0) 33 := Ry.zero wq103 33
          have hW : w0.heap.size ≤ wq103.heap.size := hHeld.size
          have KN : Kept w0 (wq103.alloc (.cells z25.toArray 33)) := Kept.alloc hHeld (.cells z25.toArray 33)
          refine hK.out _ _ KN (fun hHeld => ?_)
          clear hK K hHeld
          have hHeld := KN
          clear KN
          replace U := Lib.hid (U.out.alloc (.cells z25.toArray 33))
          replace own := Lib.hid (fun h0 z hz => (show w0.heap.size ≤ z ∧ z < (wq103.alloc (.cells z25.toArray 33)).heap.size ∧ z ≠ wq103.heap.size from by rw [size1]; have := own.out h0 z hz; omega))
          obtain ⟨cc, hcc⟩ : ∃ s, wq103.heap.size = s := ⟨_, rfl⟩
          rw [hcc] at Z hW own ⊢
          generalize wq103.alloc (.cells z25.toArray 33) = wq104 at *
          clear hcc
          (refine wpAnyH_ready (rs := [9]) (by kernel_rfl) (by simp) ?_; refine AllReadyH.cons (o := _) rfl (fun K hK => ?_) AllReadyH.nil; (simp only [List.getElem_toArray, List.getElem_cons_zero, List.getElem_cons_succ, Region.wanted, if_true]))
          refine wp_store_mid _ _ _ rfl _ _ (rpC RR (.slice ua2 NN uc2)).toArray rfl rfl (by simpa [lR] using Z.there25) (by simpa [lR] using hi25) (all_oneCell_toArray (rpC_one RR rfl)) ?_
          (try simp only [List.getElem_toArray, List.getElem_cons_zero, List.getElem_cons_succ, Act.put, List.setIfInBounds_toArray, List.set_cons_zero, List.set_cons_succ, List.toList_toArray])
          have KN := hHeld.puts (b := cc) hW 0 (rpC RR (.slice ua2 NN uc2))
          refine hK.out _ _ KN (fun hHeld => ?_)
          clear hK K hHeld
          have hHeld := KN
          clear KN
          (refine wpAnyH_take (i := 10) (v := ?_) rfl (by kernel_rfl) (by kernel_rfl) (by kernel_rfl) (fun _ _ _ h => h) (Or.inl ⟨by rfl, ?_⟩) hHeld ?_; rotate_left; (· (intro w' hSw; go_simp; try with_reducible rfl)); (try simp only [List.getElem_toArray, List.getElem_cons_zero, List.getElem_cons_succ, Act.put, List.setIfInBounds_toArray, List.set_cons_zero, List.set_cons_succ]))
          refine wpAnyH_done (by kernel_rfl) ?_ _
          have R := Z.putAll RR (.slice ua2 NN uc2) hRR
          have U9 := Lib.hid (U.out.puts cc 0 (rpC RR (.slice ua2 NN uc2)) (fun h0 e => (own.out h0 cc e).2.2 rfl))
          have own9 : Hid (0 < NN → ∀ z, (Value.slice ua2 NN uc2).ownBlock = some z → w0.heap.size ≤ z ∧ z < (wq104.setCells cc 0 (rpC RR (.slice ua2 NN uc2))).heap.size ∧ z ≠ cc) := Lib.hid (fun h0 z hz => by rw [size_setCells]; exact own.out h0 z hz)
          have H9 := H.below hHeld
          have PQ9 := PQ.below hHeld
          have HB9 := Lib.hid (HB.out.call hHeld)
          clear U own Z hHeld
          go_wp2_with fail
          go_meet
          case rel => exact ⟨cc, _, ua2, uc2, rfl, rfl, rfl, hW, R.lt, R, Lib.hid (U9.out.mono (b' := 0) (Nat.zero_le _)), own9, H9, PQ9, HB9⟩
        · (simp only [List.getElem_toArray, List.getElem_cons_zero, List.getElem_cons_succ, Region.wanted, if_true])
          go_simp
          (try rw [cells25C])
          have Z : Ry (wq102.alloc (.cells z25.toArray 33)) (wq102.heap.size) z24 (.slice none 0 0) 33 := Ry.zero wq102 33
          have hW : w0.heap.size ≤ wq102.heap.size := hHeld.size
          have KN : Kept w0 (wq102.alloc (.cells z25.toArray 33)) := Kept.alloc hHeld (.cells z25.toArray 33)
          refine hK.out _ _ KN (fun hHeld => ?_)
          clear hK K hHeld
          have hHeld := KN
          clear KN
          replace Q1 : Hid (Rw (wq102.alloc (.cells z25.toArray 33)) 0 v1 len zs) := Lib.hid (Q1.out.alloc (.cells z25.toArray 33))
          obtain ⟨cc, hcc⟩ : ∃ s, wq102.heap.size = s := ⟨_, rfl⟩
          rw [hcc] at Z hW ⊢
          generalize wq102.alloc (.cells z25.toArray 33) = wq105 at *
          clear hcc
          (refine wpAnyH_ready (rs := [4]) (by kernel_rfl) (by simp) ?_; refine AllReadyH.cons (o := _) rfl (fun K hK => ?_) AllReadyH.nil; (simp only [List.getElem_toArray, List.getElem_cons_zero, List.getElem_cons_succ, Region.wanted, if_true]))
          go_simp
          have hzl := Z.lt
          refine (KS.out _ _ Q1.out).mono ?_
          rintro e wq106 ⟨u2, rfl, q2, bb⟩
          obtain ⟨ua2, uc2, rfl⟩ := q2.shape
          dsimp only
          (try simp only [List.getElem_toArray, List.getElem_cons_zero, List.getElem_cons_succ, Act.put, List.setIfInBounds_toArray, List.set_cons_zero, List.set_cons_succ])
          have own := Lib.hid (fun h0 z hz => (show w0.heap.size ≤ z ∧ z < wq106.heap.size ∧ z ≠ cc from by have h1 := q2.ownlt h0 z hz; have h2 := hHeld.size; omega))
          have U := Lib.hid q2
          clear q2
          clear hzl
          have KN := Kept.call hHeld bb
          replace Z := Z.below bb
          refine hK.out _ _ KN (fun hHeld => ?_)
          clear hK K hHeld bb
          have hHeld := KN
          clear KN
          (refine wpAnyH_take (i := 5) (v := ?_) rfl (by kernel_rfl) (by kernel_rfl) (by kernel_rfl) (fun _ _ _ h => h) (Or.inl ⟨by rfl, ?_⟩) hHeld ?_; rotate_left; (· (intro w' hSw; go_simp; try with_reducible rfl)); (try simp only [List.getElem_toArray, List.getElem_cons_zero, List.getElem_cons_succ, Act.put, List.setIfInBounds_toArray, List.set_cons_zero, List.set_cons_succ])); (refine wpAnyH_take (i := 6) (v := ?_) rfl (by kernel_rfl) (by kernel_rfl) (by kernel_rfl) (fun _ _ _ h => h) (Or.inl ⟨by rfl, ?_⟩) hHeld ?_; rotate_left; (· (intro w' hSw; go_simp; try with_reducible rfl)); (try simp only [List.getElem_toArray, List.getElem_cons_zero, List.getElem_cons_succ, Act.put, List.setIfInBounds_toArray, List.set_cons_zero, List.set_cons_succ])); (refine wpAnyH_take (i := 7) (v := ?_) rfl (by kernel_rfl) (by kernel_rfl) (by kernel_rfl) (fun _ _ _ h => h) (Or.inl ⟨by rfl, ?_⟩) hHeld ?_; rotate_left; (· (intro w' hSw; go_simp; try with_reducible rfl)); (try simp only [List.getElem_toArray, List.getElem_cons_zero, List.getElem_cons_succ, Act.put, List.setIfInBounds_toArray, List.set_cons_zero, List.set_cons_succ]))
          (refine wpAnyH_ready (rs := [9]) (by kernel_rfl) (by simp) ?_; refine AllReadyH.cons (o := _) rfl (fun K hK => ?_) AllReadyH.nil; (simp only [List.getElem_toArray, List.getElem_cons_zero, List.getElem_cons_succ, Region.wanted, if_true]))
          refine wp_store_mid _ _ _ rfl _ _ (rpC RR (.slice ua2 NN uc2)).toArray rfl rfl (by simpa [lR] using Z.there25) (by simpa [lR] using hi25) (all_oneCell_toArray (rpC_one RR rfl)) ?_
          (try simp only [List.getElem_toArray, List.getElem_cons_zero, List.getElem_cons_succ, Act.put, List.setIfInBounds_toArray, List.set_cons_zero, List.set_cons_succ, List.toList_toArray])
          have KN := hHeld.puts (b := cc) hW 0 (rpC RR (.slice ua2 NN uc2))
          refine hK.out _ _ KN (fun hHeld => ?_)
          clear hK K hHeld
          have hHeld := KN
          clear KN
          (refine wpAnyH_take (i := 10) (v := ?_) rfl (by kernel_rfl) (by kernel_rfl) (by kernel_rfl) (fun _ _ _ h => h) (Or.inl ⟨by rfl, ?_⟩) hHeld ?_; rotate_left; (· (intro w' hSw; go_simp; try with_reducible rfl)); (try simp only [List.getElem_toArray, List.getElem_cons_zero, List.getElem_cons_succ, Act.put, List.setIfInBounds_toArray, List.set_cons_zero, List.set_cons_succ]))
          refine wpAnyH_done (by kernel_rfl) ?_ _
          have R := Z.putAll RR (.slice ua2 NN uc2) hRR
          have U9 := Lib.hid (U.out.puts cc 0 (rpC RR (.slice ua2 NN uc2)) (fun h0 e => (own.out h0 cc e).2.2 rfl))
          have own9 : Hid (0 < NN → ∀ z, (Value.slice ua2 NN uc2).ownBlock = some z → w0.heap.size ≤ z ∧ z < (wq106.setCells cc 0 (rpC RR (.slice ua2 NN uc2))).heap.size ∧ z ≠ cc) := Lib.hid (fun h0 z hz => by rw [size_setCells]; exact own.out h0 z hz)
          have H9 := H.below hHeld
          have PQ9 := PQ.below hHeld
          have HB9 := Lib.hid (HB.out.call hHeld)
          clear U own Z hHeld
          go_wp2_with fail
          go_meet
          case rel => exact ⟨cc, _, ua2, uc2, rfl, rfl, rfl, hW, R.lt, R, Lib.hid (U9.out.mono (b' := 0) (Nat.zero_le _)), own9, H9, PQ9, HB9⟩
      · (simp only [List.getElem_toArray, List.getElem_cons_zero, List.getElem_cons_succ, Region.wanted, if_true])
        go_simp
        (try rw [cells25C])
        have Z : Ry (wq101.alloc (.cells z25.toArray 33)) (wq101.heap.size) z24 (.slice none 0 0) 33 := Ry.zero wq101 33
        have hW : w0.heap.size ≤ wq101.heap.size := hHeld.size
        have KN : Kept w0 (wq101.alloc (.cells z25.toArray 33)) := Kept.alloc hHeld (.cells z25.toArray 33)
        refine hK.out _ _ KN (fun hHeld => ?_)
        clear hK K hHeld
        have hHeld := KN
        clear KN
        replace Q1 : Hid (Rw (wq101.alloc (.cells z25.toArray 33)) 0 v1 len zs) := Lib.hid (Q1.out.alloc (.cells z25.toArray 33))
        obtain ⟨cc, hcc⟩ : ∃ s, wq101.heap.size = s := ⟨_, rfl⟩
        rw [hcc] at Z hW ⊢
        generalize wq101.alloc (.cells z25.toArray 33) = wq107 at *
        clear hcc
        (refine wpAnyH_ready (rs := [3]) (by kernel_rfl) (by simp) ?_; refine AllReadyH.cons (o := _) rfl (fun K hK => ?_) AllReadyH.nil; (simp only [List.getElem_toArray, List.getElem_cons_zero, List.getElem_cons_succ, Region.wanted, if_true]))
        go_simp
        refine (toA2_any [x, y] _ rfl).mono ?_
        rintro e wq108 ⟨rfl, bb⟩
        dsimp only
        (try simp only [List.getElem_toArray, List.getElem_cons_zero, List.getElem_cons_succ, Act.put, List.setIfInBounds_toArray, List.set_cons_zero, List.set_cons_succ])
        replace Q1 := Lib.hid (Q1.out.below bb)
        have KN := Kept.call hHeld bb
        replace Z := Z.below bb
        refine hK.out _ _ KN (fun hHeld => ?_)
        clear hK K hHeld bb
        have hHeld := KN
        clear KN
        (refine wpAnyH_ready (rs := [4]) (by kernel_rfl) (by simp) ?_; refine AllReadyH.cons (o := _) rfl (fun K hK => ?_) AllReadyH.nil; (simp only [List.getElem_toArray, List.getElem_cons_zero, List.getElem_cons_succ, Region.wanted, if_true]))
        go_simp
        have hzl := Z.lt
        refine (KS.out _ _ Q1.out).mono ?_
        rintro e wq109 ⟨u2, rfl, q2, bb⟩
        obtain ⟨ua2, uc2, rfl⟩ := q2.shape
        dsimp only
        (try simp only [List.getElem_toArray, List.getElem_cons_zero, List.getElem_cons_succ, Act.put, List.setIfInBounds_toArray, List.set_cons_zero, List.set_cons_succ])
        have own := Lib.hid (fun h0 z hz => (show w0.heap.size ≤ z ∧ z < wq109.heap.size ∧ z ≠ cc from by have h1 := q2.ownlt h0 z hz; have h2 := hHeld.size; omega))
        have U := Lib.hid q2
        clear q2
        clear hzl
        have KN := Kept.call hHeld bb
        replace Z := Z.below bb
        refine hK.out _ _ KN (fun hHeld => ?_)
        clear hK K hHeld bb
        have hHeld := KN
        clear KN
        (refine wpAnyH_take (i := 5) (v := ?_) rfl (by kernel_rfl) (by kernel_rfl) (by kernel_rfl) (fun _ _ _ h => h) (Or.inl ⟨by rfl, ?_⟩) hHeld ?_; rotate_left; (· (intro w' hSw; go_simp; try with_reducible rfl)); (try simp only [List.getElem_toArray, List.getElem_cons_zero, List.getElem_cons_succ, Act.put, List.setIfInBounds_toArray, List.set_cons_zero, List.set_cons_succ])); (refine wpAnyH_take (i := 6) (v := ?_) rfl (by kernel_rfl) (by kernel_rfl) (by kernel_rfl) (fun _ _ _ h => h) (Or.inl ⟨by rfl, ?_⟩) hHeld ?_; rotate_left; (· (intro w' hSw; go_simp; try with_reducible rfl)); (try simp only [List.getElem_toArray, List.getElem_cons_zero, List.getElem_cons_succ, Act.put, List.setIfInBounds_toArray, List.set_cons_zero, List.set_cons_succ])); (refine wpAnyH_take (i := 7) (v := ?_) rfl (by kernel_rfl) (by kernel_rfl) (by kernel_rfl) (fun _ _ _ h => h) (Or.inl ⟨by rfl, ?_⟩) hHeld ?_; rotate_left; (· (intro w' hSw; go_simp; try with_reducible rfl)); (try simp only [List.getElem_toArray, List.getElem_cons_zero, List.getElem_cons_succ, Act.put, List.setIfInBounds_toArray, List.set_cons_zero, List.set_cons_succ]))
        (refine wpAnyH_ready (rs := [9]) (by kernel_rfl) (by simp) ?_; refine AllReadyH.cons (o := _) rfl (fun K hK => ?_) AllReadyH.nil; (simp only [List.getElem_toArray, List.getElem_cons_zero, List.getElem_cons_succ, Region.wanted, if_true]))
        refine wp_store_mid _ _ _ rfl _ _ (rpC RR (.slice ua2 NN uc2)).toArray rfl rfl (by simpa [lR] using Z.there25) (by simpa [lR] using hi25) (all_oneCell_toArray (rpC_one RR rfl)) ?_
        (try simp only [List.getElem_toArray, List.getElem_cons_zero, List.getElem_cons_succ, Act.put, List.setIfInBounds_toArray, List.set_cons_zero, List.set_cons_succ, List.toList_toArray])
        have KN := hHeld.puts (b := cc) hW 0 (rpC RR (.slice ua2 NN uc2))
        refine hK.out _ _ KN (fun hHeld => ?_)
        clear hK K hHeld
        have hHeld := KN
        clear KN
        (refine wpAnyH_take (i := 10) (v := ?_) rfl (by kernel_rfl) (by kernel_rfl) (by kernel_rfl) (fun _ _ _ h => h) (Or.inl ⟨by rfl, ?_⟩) hHeld ?_; rotate_left; (· (intro w' hSw; go_simp; try with_reducible rfl)); (try simp only [List.getElem_toArray, List.getElem_cons_zero, List.getElem_cons_succ, Act.put, List.setIfInBounds_toArray, List.set_cons_zero, List.set_cons_succ]))
        refine wpAnyH_done (by kernel_rfl) ?_ _
        have R := Z.putAll RR (.slice ua2 NN uc2) hRR
        have U9 := Lib.hid (U.out.puts cc 0 (rpC RR (.slice ua2 NN uc2)) (fun h0 e => (own.out h0 cc e).2.2 rfl))
        have own9 : Hid (0 < NN → ∀ z, (Value.slice ua2 NN uc2).ownBlock = some z → w0.heap.size ≤ z ∧ z < (wq109.setCells cc 0 (rpC RR (.slice ua2 NN uc2))).heap.size ∧ z ≠ cc) := Lib.hid (fun h0 z hz => by rw [size_setCells]; exact own.out h0 z hz)
        have H9 := H.below hHeld
        have PQ9 := PQ.below hHeld
        have HB9 := Lib.hid (HB.out.call hHeld)
        clear U own Z hHeld
        go_wp2_with fail
        go_meet
        case rel => exact ⟨cc, _, ua2, uc2, rfl, rfl, rfl, hW, R.lt, R, Lib.hid (U9.out.mono (b' := 0) (Nat.zero_le _)), own9, H9, PQ9, HB9⟩
    · (simp only [List.getElem_toArray, List.getElem_cons_zero, List.getElem_cons_succ, Region.wanted, if_true])
      go_simp
      (try rw [cells25C])
      have Z : Ry ((w0.alloc (.cells z25.toArray 33)).drew) (w0.heap.size) z24 (.slice none 0 0) 33 := Ry.zero w0.drew 33
      have hW : w0.heap.size ≤ w0.heap.size := hHeld.size
      have KN : Kept w0 ((w0.alloc (.cells z25.toArray 33)).drew) := Kept.alloc hHeld (.cells z25.toArray 33)
      refine hK.out _ _ KN (fun hHeld => ?_)
      clear hK K hHeld
      have hHeld := KN
      clear KN
      obtain ⟨cc, hcc⟩ : ∃ s, w0.heap.size = s := ⟨_, rfl⟩
      rw [hcc] at Z ⊢
      generalize (w0.alloc (.cells z25.toArray 33)).drew = wq110 at *
      replace hW : w0.heap.size ≤ cc := Nat.le_of_eq hcc
      clear hcc
      (refine wpAnyH_ready (rs := [1]) (by kernel_rfl) (by simp) ?_; refine AllReadyH.cons (o := _) rfl (fun K hK => ?_) AllReadyH.nil; (simp only [List.getElem_toArray, List.getElem_cons_zero, List.getElem_cons_succ, Region.wanted, if_true]))
      go_simp
      refine (toReplay_any ns a len cap zs _ h24 (HP.out.below (HB.out.call hHeld)) hlen).mono ?_
      rintro e wq111 ⟨v1, rfl, q1, bb⟩
      dsimp only
      (try simp only [List.getElem_toArray, List.getElem_cons_zero, List.getElem_cons_succ, Act.put, List.setIfInBounds_toArray, List.set_cons_zero, List.set_cons_succ])
      have Q1 := Lib.hid (q1.rw.mono (b' := 0) (Nat.zero_le _))
      clear q1
      have KN := Kept.call hHeld bb
      replace Z := Z.below bb
      refine hK.out _ _ KN (fun hHeld => ?_)
      clear hK K hHeld bb
      have hHeld := KN
      clear KN
      (refine wpAnyH_ready (rs := [3]) (by kernel_rfl) (by simp) ?_; refine AllReadyH.cons (o := _) rfl (fun K hK => ?_) AllReadyH.nil; (simp only [List.getElem_toArray, List.getElem_cons_zero, List.getElem_cons_succ, Region.wanted, if_true]))
      go_simp
      refine (toA2_any [x, y] _ rfl).mono ?_
      rintro e wq112 ⟨rfl, bb⟩
      dsimp only
      (try simp only [List.getElem_toArray, List.getElem_cons_zero, List.getElem_cons_succ, Act.put, List.setIfInBounds_toArray, List.set_cons_zero, List.set_cons_succ])
      replace Q1 := Lib.hid (Q1.out.below bb)
      have KN := Kept.call hHeld bb
      replace Z := Z.below bb
      refine hK.out _ _ KN (fun hHeld => ?_)
      clear hK K hHeld bb
      have hHeld := KN
      clear KN
      (refine wpAnyH_ready (rs := [4]) (by kernel_rfl) (by simp) ?_; refine AllReadyH.cons (o := _) rfl (fun K hK => ?_) AllReadyH.nil; (simp only [List.getElem_toArray, List.getElem_cons_zero, List.getElem_cons_succ, Region.wanted, if_true]))
      go_simp
      have hzl := Z.lt
      refine (KS.out _ _ Q1.out).mono ?_
      rintro e wq113 ⟨u2, rfl, q2, bb⟩
      obtain ⟨ua2, uc2, rfl⟩ := q2.shape
      dsimp only
      (try simp only [List.getElem_toArray, List.getElem_cons_zero, List.getElem_cons_succ, Act.put, List.setIfInBounds_toArray, List.set_cons_zero, List.set_cons_succ])
      have own := Lib.hid (fun h0 z hz => (show w0.heap.size ≤ z ∧ z < wq113.heap.size ∧ z ≠ cc from by have h1 := q2.ownlt h0 z hz; have h2 := hHeld.size; omega))
      have U := Lib.hid q2
      clear q2
      clear hzl
      have KN := Kept.call hHeld bb
      replace Z := Z.below bb
      refine hK.out _ _ KN (fun hHeld => ?_)
      clear hK K hHeld bb
      have hHeld := KN
      clear KN
      (refine wpAnyH_take (i := 5) (v := ?_) rfl (by kernel_rfl) (by kernel_rfl) (by kernel_rfl) (fun _ _ _ h => h) (Or.inl ⟨by rfl, ?_⟩) hHeld ?_; rotate_left; (· (intro w' hSw; go_simp; try with_reducible rfl)); (try simp only [List.getElem_toArray, List.getElem_cons_zero, List.getElem_cons_succ, Act.put, List.setIfInBounds_toArray, List.set_cons_zero, List.set_cons_succ])); (refine wpAnyH_take (i := 6) (v := ?_) rfl (by kernel_rfl) (by kernel_rfl) (by kernel_rfl) (fun _ _ _ h => h) (Or.inl ⟨by rfl, ?_⟩) hHeld ?_; rotate_left; (· (intro w' hSw; go_simp; try with_reducible rfl)); (try simp only [List.getElem_toArray, List.getElem_cons_zero, List.getElem_cons_succ, Act.put, List.setIfInBounds_toArray, List.set_cons_zero, List.set_cons_succ])); (refine wpAnyH_take (i := 7) (v := ?_) rfl (by kernel_rfl) (by kernel_rfl) (by kernel_rfl) (fun _ _ _ h => h) (Or.inl ⟨by rfl, ?_⟩) hHeld ?_; rotate_left; (· (intro w' hSw; go_simp; try with_reducible rfl)); (try simp only [List.getElem_toArray, List.getElem_cons_zero, List.getElem_cons_succ, Act.put, List.setIfInBounds_toArray, List.set_cons_zero, List.set_cons_succ]))
      (refine wpAnyH_ready (rs := [9]) (by kernel_rfl) (by simp) ?_; refine AllReadyH.cons (o := _) rfl (fun K hK => ?_) AllReadyH.nil; (simp only [List.getElem_toArray, List.getElem_cons_zero, List.getElem_cons_succ, Region.wanted, if_true]))
      refine wp_store_mid _ _ _ rfl _ _ (rpC RR (.slice ua2 NN uc2)).toArray rfl rfl (by simpa [lR] using Z.there25) (by simpa [lR] using hi25) (all_oneCell_toArray (rpC_one RR rfl)) ?_
      (try simp only [List.getElem_toArray, List.getElem_cons_zero, List.getElem_cons_succ, Act.put, List.setIfInBounds_toArray, List.set_cons_zero, List.set_cons_succ, List.toList_toArray])
      have KN := hHeld.puts (b := cc) hW 0 (rpC RR (.slice ua2 NN uc2))
      refine hK.out _ _ KN (fun hHeld => ?_)
      clear hK K hHeld
      have hHeld := KN
      clear KN
      (refine wpAnyH_take (i := 10) (v := ?_) rfl (by kernel_rfl) (by kernel_rfl) (by kernel_rfl) (fun _ _ _ h => h) (Or.inl ⟨by rfl, ?_⟩) hHeld ?_; rotate_left; (· (intro w' hSw; go_simp; try with_reducible rfl)); (try simp only [List.getElem_toArray, List.getElem_cons_zero, List.getElem_cons_succ, Act.put, List.setIfInBounds_toArray, List.set_cons_zero, List.set_cons_succ]))
      refine wpAnyH_done (by kernel_rfl) ?_ _
      have R := Z.putAll RR (.slice ua2 NN uc2) hRR
      have U9 := Lib.hid (U.out.puts cc 0 (rpC RR (.slice ua2 NN uc2)) (fun h0 e => (own.out h0 cc e).2.2 rfl))
      have own9 : Hid (0 < NN → ∀ z, (Value.slice ua2 NN uc2).ownBlock = some z → w0.heap.size ≤ z ∧ z < (wq113.setCells cc 0 (rpC RR (.slice ua2 NN uc2))).heap.size ∧ z ≠ cc) := Lib.hid (fun h0 z hz => by rw [size_setCells]; exact own.out h0 z hz)
      have H9 := H.below hHeld
      have PQ9 := PQ.below hHeld
      have HB9 := Lib.hid (HB.out.call hHeld)
      clear U own Z hHeld
      go_wp2_with fail
      go_meet
      case rel => exact ⟨cc, _, ua2, uc2, rfl, rfl, rfl, hW, R.lt, R, Lib.hid (U9.out.mono (b' := 0) (Nat.zero_le _)), own9, H9, PQ9, HB9⟩
  clear H PQ HB KS
  obtain ⟨A2, E2, ua2, uc2, rfl, rfl, hE2, hA2, hA2E, RO, U2, own2, H, PQ, HB⟩ := hcut
  rw [hE2] at hA2E own2
  have hw0 : w.heap.size + 1 < A2 := by have := hs00; omega
  go_wp2_with (refine guardY (isLdY 28) ?_ ?_; (· rfl); refine load_ry rfl 28 _ rfl w.heap.size rfl _ _ _ H _ Try.underlying28 rfl ?_ ?_; (· kernel_rfl))
  refine (toReplay_any ns a len cap zs _ h24 (HP.out.below HB.out) hlen).mono ?_
  rintro e w3 ⟨v3, rfl, q3, b3⟩
  replace H := H.below b3
  replace PQ := PQ.below b3
  replace RO := RO.below b3
  replace U2 := Lib.hid (U2.out.below b3)
  replace HB := Lib.hid (HB.out.call b3)
  have own3 := Lib.hid (fun z hz => (show E2 ≤ z ∧ z < w3.heap.size from by have := World.ownsRow.lt q3 z hz; omega))
  have hs3 : E2 ≤ w3.heap.size := by have := b3.size; omega
  have Q3 := Lib.hid q3.rw
  obtain ⟨va3, vc3, rfl⟩ := q3.rw.shape
  clear q3 b3
  have X := Ry.box (v := .slice va3 len vc3) w3 33 h24
  replace H := H.alloc (.cells (rpC ns (.slice va3 len vc3)).toArray 33)
  replace PQ := PQ.alloc (.cells (rpC ns (.slice va3 len vc3)).toArray 33)
  replace RO := RO.alloc (.cells (rpC ns (.slice va3 len vc3)).toArray 33)
  replace U2 := Lib.hid (U2.out.alloc (.cells (rpC ns (.slice va3 len vc3)).toArray 33))
  replace Q3 := Lib.hid (Q3.out.alloc (.cells (rpC ns (.slice va3 len vc3)).toArray 33))
  replace HB := Lib.hid (HB.out.alloc (.cells (rpC ns (.slice va3 len vc3)).toArray 33))
  go_upto_region 7 with (refine guardY (isStY 33) ?_ ?_; (· rfl); refine store_newry rfl 33 _ _ rfl w3 _ _ rfl _ rfl ns (.slice va3 len vc3) rfl rfl rfl h24 rfl ?_ ?_; (· kernel_rfl))
  have hlt3 := X.lt
  obtain ⟨A3, hA3⟩ : ∃ s, w3.heap.size = s := ⟨_, rfl⟩
  rw [hA3] at X hlt3 own3 hs3 ⊢
  generalize w3.alloc (.cells (rpC ns (.slice va3 len vc3)).toArray 33) = W3 at *
  clear hA3
  have hiX : (Try.prog.info? 33).map (·.size) = some (rpC ns (.slice va3 len vc3)).length := by rw [rpC_len h24]; kernel_rfl
  replace Q3 : Hid (Rw W3 E2 (.slice va3 len vc3) len zs) := Lib.hid (by rw [← hE2]; exact Q3.out)
  (try simp only [Act.put])
  go_cut [9, 10] from 31 to 37 (fun s9 s10 wx => ∃ (c E : Nat) (ua : Option Addr) (uc : Nat), s9 = .pointer (some ⟨c, 0, none⟩) ∧ s10 = .bool OK ∧ wx.heap.size = E ∧ W3.heap.size ≤ c ∧ c < wx.heap.size ∧ Ry wx c RR (.slice ua NN uc) 33 ∧ Hid (Rw wx 0 (.slice ua NN uc) NN FF) ∧ Hid (0 < NN → ∀ z, (Value.slice ua NN uc).ownBlock = some z → W3.heap.size ≤ z ∧ z < wx.heap.size ∧ z ≠ c) ∧ Ry wx w.heap.size ns (.slice a len cap) 28 ∧ Has wx (w.heap.size + 1) [x, y] 2 ∧ Ry wx A2 RR (.slice ua2 NN uc2) 33 ∧ Ry wx A3 ns (.slice va3 len vc3) 33 ∧ Hid (Rw wx 0 (.slice ua2 NN uc2) NN FF) ∧ Hid (Rw wx E2 (.slice va3 len vc3) len zs) ∧ Hid (Kept w wx))
  case first =>
    refine wp_region_held_drew (S := fun w' => Kept W3 w') (by kernel_rfl) ((kept_refl W3).drewN 1) (fun hHeld => ?_)
    (refine wpAnyH_take (i := 0) (v := _) rfl (by kernel_rfl) (by kernel_rfl) (by kernel_rfl) (fun _ _ _ h => h) (yieldsIf_load_mid (by rfl) 33 _ rfl _ _ rfl (rpC ns (.slice va3 len vc3)) _ (fun w' hSw => (X.below hSw).1.range) Try.underlying33 rfl (hiX)) hHeld ?_; (try simp only [List.getElem_toArray, List.getElem_cons_zero, List.getElem_cons_succ, Act.put, List.setIfInBounds_toArray, List.set_cons_zero, List.set_cons_succ]))
    (refine wpAnyH_take (i := 1) (v := _) rfl (by kernel_rfl) (by kernel_rfl) (by kernel_rfl) (fun _ _ _ h => h) (yieldsIf_load_mid (by rfl) 41 _ rfl _ _ rfl (ints [x, y]) _ (fun w' hSw => (PQ.below hSw).holds.range) Try.underlying41 rfl (hiP)) hHeld ?_; (try simp only [List.getElem_toArray, List.getElem_cons_zero, List.getElem_cons_succ, Act.put, List.setIfInBounds_toArray, List.set_cons_zero, List.set_cons_succ]))
    have hHeld : Kept W3 W3.drew := (kept_refl W3).drewN 1
    refine wpAnyH_ready (rs := [2, 7]) (by kernel_rfl) (by simp) ?_
    refine AllReadyH.cons (o := _) rfl (fun K hK => ?_) (AllReadyH.cons (o := _) rfl (fun K hK => ?_) AllReadyH.nil)
    · (simp only [List.getElem_toArray, List.getElem_cons_zero, List.getElem_cons_succ, Region.wanted, if_true])
      go_simp
      refine (toA2_any [x, y] _ rfl).mono ?_
      rintro e wq114 ⟨rfl, bb⟩
      dsimp only
      (try simp only [List.getElem_toArray, List.getElem_cons_zero, List.getElem_cons_succ, Act.put, List.setIfInBounds_toArray, List.set_cons_zero, List.set_cons_succ])
      have KN := Kept.call hHeld bb
      refine hK.out _ _ KN (fun hHeld => ?_)
      clear hK K hHeld bb
      have hHeld := KN
      clear KN
      refine wpAnyH_ready (rs := [3, 7]) (by kernel_rfl) (by simp) ?_
      refine AllReadyH.cons (o := _) rfl (fun K hK => ?_) (AllReadyH.cons (o := _) rfl (fun K hK => ?_) AllReadyH.nil)
      · (simp only [List.getElem_toArray, List.getElem_cons_zero, List.getElem_cons_succ, Region.wanted, if_true])
        go_simp
        refine (KI.out _ _ ((Q3.out.below hHeld).mono (b' := 0) (Nat.zero_le _))).mono ?_
        rintro e wq115 ⟨u2, rfl, q2, bb⟩
        obtain ⟨ua2, uc2, rfl⟩ := q2.shape
        dsimp only
        (try simp only [List.getElem_toArray, List.getElem_cons_zero, List.getElem_cons_succ, Act.put, List.setIfInBounds_toArray, List.set_cons_zero, List.set_cons_succ])
        have own := Lib.hid (fun h0 z hz => (show W3.heap.size ≤ z ∧ z < wq115.heap.size from by have h1 := q2.ownlt h0 z hz; have h2 := hHeld.size; omega))
        have U := Lib.hid q2
        clear q2
        have KN := Kept.call hHeld bb
        refine hK.out _ _ KN (fun hHeld => ?_)
        clear hK K hHeld bb
        have hHeld := KN
        clear KN
        (refine wpAnyH_take (i := 4) (v := ?_) rfl (by kernel_rfl) (by kernel_rfl) (by kernel_rfl) (fun _ _ _ h => h) (Or.inl ⟨by rfl, ?_⟩) hHeld ?_; rotate_left; (· (intro w' hSw; go_simp; try with_reducible rfl)); (try simp only [List.getElem_toArray, List.getElem_cons_zero, List.getElem_cons_succ, Act.put, List.setIfInBounds_toArray, List.set_cons_zero, List.set_cons_succ])); (refine wpAnyH_take (i := 5) (v := ?_) rfl (by kernel_rfl) (by kernel_rfl) (by kernel_rfl) (fun _ _ _ h => h) (Or.inl ⟨by rfl, ?_⟩) hHeld ?_; rotate_left; (· (intro w' hSw; go_simp; try with_reducible rfl)); (try simp only [List.getElem_toArray, List.getElem_cons_zero, List.getElem_cons_succ, Act.put, List.setIfInBounds_toArray, List.set_cons_zero, List.set_cons_succ])); (refine wpAnyH_take (i := 6) (v := ?_) rfl (by kernel_rfl) (by kernel_rfl) (by kernel_rfl) (fun _ _ _ h => h) (Or.inl ⟨by rfl, ?_⟩) hHeld ?_; rotate_left; (· (intro w' hSw; go_simp; try with_reducible rfl)); (try simp only [List.getElem_toArray, List.getElem_cons_zero, List.getElem_cons_succ, Act.put, List.setIfInBounds_toArray, List.set_cons_zero, List.set_cons_succ]))
        (refine wpAnyH_ready (rs := [7]) (by kernel_rfl) (by simp) ?_; refine AllReadyH.cons (o := _) rfl (fun K hK => ?_) AllReadyH.nil; (simp only [List.getElem_toArray, List.getElem_cons_zero, List.getElem_cons_succ, Region.wanted, if_true]))
        go_simp
        (try rw [cells25C])
        have Z : Ry (wq115.alloc (.cells z25.toArray 33)) (wq115.heap.size) z24 (.slice none 0 0) 33 := Ry.zero wq115 33
        have hW : W3.heap.size ≤ wq115.heap.size := hHeld.size
        have KN : Kept W3 (wq115.alloc (.cells z25.toArray 33)) := Kept.alloc hHeld (.cells z25.toArray 33)
        refine hK.out _ _ KN (fun hHeld => ?_)
        clear hK K hHeld
        have hHeld := KN
        clear KN
        replace U := Lib.hid (U.out.alloc (.cells z25.toArray 33))
        replace own := Lib.hid (fun h0 z hz => (show W3.heap.size ≤ z ∧ z < (wq115.alloc (.cells z25.toArray 33)).heap.size ∧ z ≠ wq115.heap.size from by rw [size1]; have := own.out h0 z hz; omega))
        obtain ⟨cc, hcc⟩ : ∃ s, wq115.heap.size = s := ⟨_, rfl⟩
        rw [hcc] at Z hW own ⊢
        generalize wq115.alloc (.cells z25.toArray 33) = wq116 at *
        clear hcc
        (refine wpAnyH_ready (rs := [8]) (by kernel_rfl) (by simp) ?_; refine AllReadyH.cons (o := _) rfl (fun K hK => ?_) AllReadyH.nil; (simp only [List.getElem_toArray, List.getElem_cons_zero, List.getElem_cons_succ, Region.wanted, if_true]))
        refine wp_store_mid _ _ _ rfl _ _ (rpC RR (.slice ua2 NN uc2)).toArray rfl rfl (by simpa [lR] using Z.there25) (by simpa [lR] using hi25) (all_oneCell_toArray (rpC_one RR rfl)) ?_
        (try simp only [List.getElem_toArray, List.getElem_cons_zero, List.getElem_cons_succ, Act.put, List.setIfInBounds_toArray, List.set_cons_zero, List.set_cons_succ, List.toList_toArray])
        have KN := hHeld.puts (b := cc) hW 0 (rpC RR (.slice ua2 NN uc2))
        refine hK.out _ _ KN (fun hHeld => ?_)
        clear hK K hHeld
        have hHeld := KN
        clear KN
        (refine wpAnyH_take (i := 9) (v := ?_) rfl (by kernel_rfl) (by kernel_rfl) (by kernel_rfl) (fun _ _ _ h => h) (Or.inl ⟨by rfl, ?_⟩) hHeld ?_; rotate_left; (· (intro w' hSw; go_simp; try with_reducible rfl)); (try simp only [List.getElem_toArray, List.getElem_cons_zero, List.getElem_cons_succ, Act.put, List.setIfInBounds_toArray, List.set_cons_zero, List.set_cons_succ]))
        refine wpAnyH_done (by kernel_rfl) ?_ _
        have R := Z.putAll RR (.slice ua2 NN uc2) hRR
        have U9 := Lib.hid (U.out.puts cc 0 (rpC RR (.slice ua2 NN uc2)) (fun h0 e => (own.out h0 cc e).2.2 rfl))
        have own9 : Hid (0 < NN → ∀ z, (Value.slice ua2 NN uc2).ownBlock = some z → W3.heap.size ≤ z ∧ z < (wq116.setCells cc 0 (rpC RR (.slice ua2 NN uc2))).heap.size ∧ z ≠ cc) := Lib.hid (fun h0 z hz => by rw [size_setCells]; exact own.out h0 z hz)
        have H9 := H.below hHeld
        have PQ9 := PQ.below hHeld
        have RO9 := RO.below hHeld
        have X9 := X.below hHeld
        have U29 := Lib.hid (U2.out.below hHeld)
        have Q39 := Lib.hid (Q3.out.below hHeld)
        have HB9 := Lib.hid (HB.out.call hHeld)
        clear U own Z hHeld
        go_wp2_with fail
        go_meet
        case rel => exact ⟨cc, _, ua2, uc2, rfl, rfl, rfl, hW, R.lt, R, Lib.hid (U9.out.mono (b' := 0) (Nat.zero_le _)), own9, H9, PQ9, RO9, X9, U29, Q39, HB9⟩
      · (simp only [List.getElem_toArray, List.getElem_cons_zero, List.getElem_cons_succ, Region.wanted, if_true])
        go_simp
        (try rw [cells25C])
        have Z : Ry (wq114.alloc (.cells z25.toArray 33)) (wq114.heap.size) z24 (.slice none 0 0) 33 := Ry.zero wq114 33
        have hW : W3.heap.size ≤ wq114.heap.size := hHeld.size
        have KN : Kept W3 (wq114.alloc (.cells z25.toArray 33)) := Kept.alloc hHeld (.cells z25.toArray 33)
        refine hK.out _ _ KN (fun hHeld => ?_)
        clear hK K hHeld
        have hHeld := KN
        clear KN
        obtain ⟨cc, hcc⟩ : ∃ s, wq114.heap.size = s := ⟨_, rfl⟩
        rw [hcc] at Z hW ⊢
        generalize wq114.alloc (.cells z25.toArray 33) = wq117 at *
        clear hcc
        (refine wpAnyH_ready (rs := [3]) (by kernel_rfl) (by simp) ?_; refine AllReadyH.cons (o := _) rfl (fun K hK => ?_) AllReadyH.nil; (simp only [List.getElem_toArray, List.getElem_cons_zero, List.getElem_cons_succ, Region.wanted, if_true]))
        go_simp
        have hzl := Z.lt
        refine (KI.out _ _ ((Q3.out.below hHeld).mono (b' := 0) (Nat.zero_le _))).mono ?_
        rintro e wq118 ⟨u2, rfl, q2, bb⟩
        obtain ⟨ua2, uc2, rfl⟩ := q2.shape
        dsimp only
        (try simp only [List.getElem_toArray, List.getElem_cons_zero, List.getElem_cons_succ, Act.put, List.setIfInBounds_toArray, List.set_cons_zero, List.set_cons_succ])
        have own := Lib.hid (fun h0 z hz => (show W3.heap.size ≤ z ∧ z < wq118.heap.size ∧ z ≠ cc from by have h1 := q2.ownlt h0 z hz; have h2 := hHeld.size; omega))
        have U := Lib.hid q2
        clear q2
        clear hzl
        have KN := Kept.call hHeld bb
        replace Z := Z.below bb
        refine hK.out _ _ KN (fun hHeld => ?_)
        clear hK K hHeld bb
        have hHeld := KN
        clear KN
        (refine wpAnyH_take (i := 4) (v := ?_) rfl (by kernel_rfl) (by kernel_rfl) (by kernel_rfl) (fun _ _ _ h => h) (Or.inl ⟨by rfl, ?_⟩) hHeld ?_; rotate_left; (· (intro w' hSw; go_simp; try with_reducible rfl)); (try simp only [List.getElem_toArray, List.getElem_cons_zero, List.getElem_cons_succ, Act.put, List.setIfInBounds_toArray, List.set_cons_zero, List.set_cons_succ])); (refine wpAnyH_take (i := 5) (v := ?_) rfl (by kernel_rfl) (by kernel_rfl) (by kernel_rfl) (fun _ _ _ h => h) (Or.inl ⟨by rfl, ?_⟩) hHeld ?_; rotate_left; (· (intro w' hSw; go_simp; try with_reducible rfl)); (try simp only [List.getElem_toArray, List.getElem_cons_zero, List.getElem_cons_succ, Act.put, List.setIfInBounds_toArray, List.set_cons_zero, List.set_cons_succ])); (refine wpAnyH_take (i := 6) (v := ?_) rfl (by kernel_rfl) (by kernel_rfl) (by kernel_rfl) (fun _ _ _ h => h) (Or.inl ⟨by rfl, ?_⟩) hHeld ?_; rotate_left; (· (intro w' hSw; go_simp; try with_reducible rfl)); (try simp only [List.getElem_toArray, List.getElem_cons_zero, List.getElem_cons_succ, Act.put, List.setIfInBounds_toArray, List.set_cons_zero, List.set_cons_succ]))
        (refine wpAnyH_ready (rs := [8]) (by kernel_rfl) (by simp) ?_; refine AllReadyH.cons (o := _) rfl (fun K hK => ?_) AllReadyH.nil; (simp only [List.getElem_toArray, List.getElem_cons_zero, List.getElem_cons_succ, Region.wanted, if_true]))
        refine wp_store_mid _ _ _ rfl _ _ (rpC RR (.slice ua2 NN uc2)).toArray rfl rfl (by simpa [lR] using Z.there25) (by simpa [lR] using hi25) (all_oneCell_toArray (rpC_one RR rfl)) ?_
        (try simp only [List.getElem_toArray, List.getElem_cons_zero, List.getElem_cons_succ, Act.put, List.setIfInBounds_toArray, List.set_cons_zero, List.set_cons_succ, List.toList_toArray])
        have KN := hHeld.puts (b := cc) hW 0 (rpC RR (.slice ua2 NN uc2))
        refine hK.out _ _ KN (fun hHeld => ?_)
        clear hK K hHeld
        have hHeld := KN
        clear KN
        (refine wpAnyH_take (i := 9) (v := ?_) rfl (by kernel_rfl) (by kernel_rfl) (by kernel_rfl) (fun _ _ _ h => h) (Or.inl ⟨by rfl, ?_⟩) hHeld ?_; rotate_left; (· (intro w' hSw; go_simp; try with_reducible rfl)); (try simp only [List.getElem_toArray, List.getElem_cons_zero, List.getElem_cons_succ, Act.put, List.setIfInBounds_toArray, List.set_cons_zero, List.set_cons_succ]))
        refine wpAnyH_done (by kernel_rfl) ?_ _
        have R := Z.putAll RR (.slice ua2 NN uc2) hRR
        have U9 := Lib.hid (U.out.puts cc 0 (rpC RR (.slice ua2 NN uc2)) (fun h0 e => (own.out h0 cc e).2.2 rfl))
        have own9 : Hid (0 < NN → ∀ z, (Value.slice ua2 NN uc2).ownBlock = some z → W3.heap.size ≤ z ∧ z < (wq118.setCells cc 0 (rpC RR (.slice ua2 NN uc2))).heap.size ∧ z ≠ cc) := Lib.hid (fun h0 z hz => by rw [size_setCells]; exact own.out h0 z hz)
        have H9 := H.below hHeld
        have PQ9 := PQ.below hHeld
        have RO9 := RO.below hHeld
        have X9 := X.below hHeld
        have U29 := Lib.hid (U2.out.below hHeld)
        have Q39 := Lib.hid (Q3.out.below hHeld)
        have HB9 := Lib.hid (HB.out.call hHeld)
        clear U own Z hHeld
        go_wp2_with fail
        go_meet
        case rel => exact ⟨cc, _, ua2, uc2, rfl, rfl, rfl, hW, R.lt, R, Lib.hid (U9.out.mono (b' := 0) (Nat.zero_le _)), own9, H9, PQ9, RO9, X9, U29, Q39, HB9⟩
    · (simp only [List.getElem_toArray, List.getElem_cons_zero, List.getElem_cons_succ, Region.wanted, if_true])
      go_simp
      (try rw [cells25C])
      have Z : Ry ((W3.alloc (.cells z25.toArray 33)).drew) (W3.heap.size) z24 (.slice none 0 0) 33 := Ry.zero W3.drew 33
      have hW : W3.heap.size ≤ W3.heap.size := hHeld.size
      have KN : Kept W3 ((W3.alloc (.cells z25.toArray 33)).drew) := Kept.alloc hHeld (.cells z25.toArray 33)
      refine hK.out _ _ KN (fun hHeld => ?_)
      clear hK K hHeld
      have hHeld := KN
      clear KN
      obtain ⟨cc, hcc⟩ : ∃ s, W3.heap.size = s := ⟨_, rfl⟩
      rw [hcc] at Z ⊢
      generalize (W3.alloc (.cells z25.toArray 33)).drew = wq119 at *
      replace hW : W3.heap.size ≤ cc := Nat.le_of_eq hcc
      clear hcc
      (refine wpAnyH_ready (rs := [2]) (by kernel_rfl) (by simp) ?_; refine AllReadyH.cons (o := _) rfl (fun K hK => ?_) AllReadyH.nil; (simp only [List.getElem_toArray, List.getElem_cons_zero, List.getElem_cons_succ, Region.wanted, if_true]))
      go_simp
      refine (toA2_any [x, y] _ rfl).mono ?_
      rintro e wq120 ⟨rfl, bb⟩
      dsimp only
      (try simp only [List.getElem_toArray, List.getElem_cons_zero, List.getElem_cons_succ, Act.put, List.setIfInBounds_toArray, List.set_cons_zero, List.set_cons_succ])
      have KN := Kept.call hHeld bb
      replace Z := Z.below bb
      refine hK.out _ _ KN (fun hHeld => ?_)
      clear hK K hHeld bb
      have hHeld := KN
      clear KN
      (refine wpAnyH_ready (rs := [3]) (by kernel_rfl) (by simp) ?_; refine AllReadyH.cons (o := _) rfl (fun K hK => ?_) AllReadyH.nil; (simp only [List.getElem_toArray, List.getElem_cons_zero, List.getElem_cons_succ, Region.wanted, if_true]))
      go_simp
      have hzl := Z.lt
      refine (KI.out _ _ ((Q3.out.below hHeld).mono (b' := 0) (Nat.zero_le _))).mono ?_
      rintro e wq121 ⟨u2, rfl, q2, bb⟩
      obtain ⟨ua2, uc2, rfl⟩ := q2.shape
      dsimp only
      (try simp only [List.getElem_toArray, List.getElem_cons_zero, List.getElem_cons_succ, Act.put, List.setIfInBounds_toArray, List.set_cons_zero, List.set_cons_succ])
      have own := Lib.hid (fun h0 z hz => (show W3.heap.size ≤ z ∧ z < wq121.heap.size ∧ z ≠ cc from by have h1 := q2.ownlt h0 z hz; have h2 := hHeld.size; omega))
      have U := Lib.hid q2
      clear q2
      clear hzl
      have KN := Kept.call hHeld bb
      replace Z := Z.below bb
      refine hK.out _ _ KN (fun hHeld => ?_)
      clear hK K hHeld bb
      have hHeld := KN
      clear KN
      (refine wpAnyH_take (i := 4) (v := ?_) rfl (by kernel_rfl) (by kernel_rfl) (by kernel_rfl) (fun _ _ _ h => h) (Or.inl ⟨by rfl, ?_⟩) hHeld ?_; rotate_left; (· (intro w' hSw; go_simp; try with_reducible rfl)); (try simp only [List.getElem_toArray, List.getElem_cons_zero, List.getElem_cons_succ, Act.put, List.setIfInBounds_toArray, List.set_cons_zero, List.set_cons_succ])); (refine wpAnyH_take (i := 5) (v := ?_) rfl (by kernel_rfl) (by kernel_rfl) (by kernel_rfl) (fun _ _ _ h => h) (Or.inl ⟨by rfl, ?_⟩) hHeld ?_; rotate_left; (· (intro w' hSw; go_simp; try with_reducible rfl)); (try simp only [List.getElem_toArray, List.getElem_cons_zero, List.getElem_cons_succ, Act.put, List.setIfInBounds_toArray, List.set_cons_zero, List.set_cons_succ])); (refine wpAnyH_take (i := 6) (v := ?_) rfl (by kernel_rfl) (by kernel_rfl) (by kernel_rfl) (fun _ _ _ h => h) (Or.inl ⟨by rfl, ?_⟩) hHeld ?_; rotate_left; (· (intro w' hSw; go_simp; try with_reducible rfl)); (try simp only [List.getElem_toArray, List.getElem_cons_zero, List.getElem_cons_succ, Act.put, List.setIfInBounds_toArray, List.set_cons_zero, List.set_cons_succ]))
      (refine wpAnyH_ready (rs := [8]) (by kernel_rfl) (by simp) ?_; refine AllReadyH.cons (o := _) rfl (fun K hK => ?_) AllReadyH.nil; (simp only [List.getElem_toArray, List.getElem_cons_zero, List.getElem_cons_succ, Region.wanted, if_true]))
      refine wp_store_mid _ _ _ rfl _ _ (rpC RR (.slice ua2 NN uc2)).toArray rfl rfl (by simpa [lR] using Z.there25) (by simpa [lR] using hi25) (all_oneCell_toArray (rpC_one RR rfl)) ?_
      (try simp only [List.getElem_toArray, List.getElem_cons_zero, List.getElem_cons_succ, Act.put, List.setIfInBounds_toArray, List.set_cons_zero, List.set_cons_succ, List.toList_toArray])
      have KN := hHeld.puts (b := cc) hW 0 (rpC RR (.slice ua2 NN uc2))
      refine hK.out _ _ KN (fun hHeld => ?_)
      clear hK K hHeld
      have hHeld := KN
      clear KN
      (refine wpAnyH_take (i := 9) (v := ?_) rfl (by kernel_rfl) (by kernel_rfl) (by kernel_rfl) (fun _ _ _ h => h) (Or.inl ⟨by rfl, ?_⟩) hHeld ?_; rotate_left; (· (intro w' hSw; go_simp; try with_reducible rfl)); (try simp only [List.getElem_toArray, List.getElem_cons_zero, List.getElem_cons_succ, Act.put, List.setIfInBounds_toArray, List.set_cons_zero, List.set_cons_succ]))
      refine wpAnyH_done (by kernel_rfl) ?_ _
      have R := Z.putAll RR (.slice ua2 NN uc2) hRR
      have U9 := Lib.hid (U.out.puts cc 0 (rpC RR (.slice ua2 NN uc2)) (fun h0 e => (own.out h0 cc e).2.2 rfl))
      have own9 : Hid (0 < NN → ∀ z, (Value.slice ua2 NN uc2).ownBlock = some z → W3.heap.size ≤ z ∧ z < (wq121.setCells cc 0 (rpC RR (.slice ua2 NN uc2))).heap.size ∧ z ≠ cc) := Lib.hid (fun h0 z hz => by rw [size_setCells]; exact own.out h0 z hz)
      have H9 := H.below hHeld
      have PQ9 := PQ.below hHeld
      have RO9 := RO.below hHeld
      have X9 := X.below hHeld
      have U29 := Lib.hid (U2.out.below hHeld)
      have Q39 := Lib.hid (Q3.out.below hHeld)
      have HB9 := Lib.hid (HB.out.call hHeld)
      clear U own Z hHeld
      go_wp2_with fail
      go_meet
      case rel => exact ⟨cc, _, ua2, uc2, rfl, rfl, rfl, hW, R.lt, R, Lib.hid (U9.out.mono (b' := 0) (Nat.zero_le _)), own9, H9, PQ9, RO9, X9, U29, Q39, HB9⟩
  clear H PQ HB RO X U2 Q3
  obtain ⟨A4, E4, ua4, uc4, rfl, rfl, hE4, hA4, hA4E, G, U4, own4, H, PQ, RO, X, U2, Q3, HB⟩ := hcut
  rw [hE4] at hA4E own4
  have hA34 : A3 < A4 := by omega
  replace own4 := Lib.hid (fun h0 z hz => (show A3 < z ∧ z < E4 ∧ z ≠ A4 from by have := own4.out h0 z hz; omega))
  go_wp2_with (first | (refine guardY (isLdY 33) ?_ ?_; (· rfl); refine load_ry rfl 33 _ rfl A4 rfl _ _ _ G _ Try.underlying33 rfl ?_ ?_; (· kernel_rfl)) | (refine guardY (isLdY 33) ?_ ?_; (· rfl); refine load_ry rfl 33 _ rfl A2 rfl _ _ _ RO _ Try.underlying33 rfl ?_ ?_; (· kernel_rfl)))
  refine (eqReplay_same RR FF _ _ _ _ NN _ hRR (by omega) U4.out U2.out).mono ?_
  rintro e w5 ⟨rfl, b5⟩
  replace H := H.below b5
  replace RO := RO.below b5
  replace X := X.below b5
  replace G := G.below b5
  replace PQ := PQ.below b5
  replace U2 := Lib.hid (U2.out.below b5)
  replace Q3 := Lib.hid (Q3.out.below b5)
  replace U4 := Lib.hid (U4.out.below b5)
  replace HB := Lib.hid (HB.out.call b5)
  clear b5
  go_wp2_with fail
  refine wp_region_held_drew (S := fun w' => Kept w5 w') (by kernel_rfl) ((kept_refl w5).drewN 1) (fun hHeld => ?_)
  (refine wpAnyH_take (i := 0) (v := _) rfl (by kernel_rfl) (by kernel_rfl) (by kernel_rfl) (fun _ _ _ h => h) (yieldsIf_load_mid (by rfl) 33 _ rfl _ _ rfl (rpC ns (.slice va3 len vc3)) _ (fun w' hSw => (X.below hSw).1.range) Try.underlying33 rfl (hiX)) hHeld ?_; (try simp only [List.getElem_toArray, List.getElem_cons_zero, List.getElem_cons_succ, Act.put, List.setIfInBounds_toArray, List.set_cons_zero, List.set_cons_succ]))
  (refine wpAnyH_take (i := 1) (v := _) rfl (by kernel_rfl) (by kernel_rfl) (by kernel_rfl) (fun _ _ _ h => h) (yieldsIf_load_mid (by rfl) 28 _ rfl _ _ rfl (rpC ns (.slice a len cap)) _ (fun w' hSw => (H.below hSw).1.range) Try.underlying28 rfl (hiH)) hHeld ?_; (try simp only [List.getElem_toArray, List.getElem_cons_zero, List.getElem_cons_succ, Act.put, List.setIfInBounds_toArray, List.set_cons_zero, List.set_cons_succ]))
  (refine wpAnyH_ready (rs := [2]) (by kernel_rfl) (by simp) ?_; refine AllReadyH.cons (o := _) rfl (fun K hK => ?_) AllReadyH.nil; (simp only [List.getElem_toArray, List.getElem_cons_zero, List.getElem_cons_succ, Region.wanted, if_true]))
  go_simp
  refine (toReplay_any ns a len cap zs _ h24 (HP.out.below (HB.out.call hHeld)) hlen).mono ?_
  rintro e w6 ⟨v6, rfl, q6, b6⟩
  dsimp only
  (try simp only [List.getElem_toArray, List.getElem_cons_zero, List.getElem_cons_succ, Act.put, List.setIfInBounds_toArray, List.set_cons_zero, List.set_cons_succ])
  have K6 := Kept.call hHeld b6
  have Q6 := Lib.hid q6.rw
  refine hK.out _ _ K6 (fun hHeld => ?_)
  clear hK K b6 q6 hHeld
  have hHeld := K6
  (refine wpAnyH_ready (rs := [3]) (by kernel_rfl) (by simp) ?_; refine AllReadyH.cons (o := _) rfl (fun K hK => ?_) AllReadyH.nil; (simp only [List.getElem_toArray, List.getElem_cons_zero, List.getElem_cons_succ, Region.wanted, if_true]))
  go_simp
  refine (eqReplay_same ns zs _ v6 _ _ len _ h24 hlen (Q3.out.below K6) Q6.out).mono ?_
  rintro e w7 ⟨rfl, b7⟩
  dsimp only
  (try simp only [List.getElem_toArray, List.getElem_cons_zero, List.getElem_cons_succ, Act.put, List.setIfInBounds_toArray, List.set_cons_zero, List.set_cons_succ])
  have K7 := Kept.call K6 b7
  refine hK.out _ _ K7 (fun hHeld => ?_)
  clear hK K b7 K6 Q6
  (refine wpAnyH_take (i := 4) (v := ?_) rfl (by kernel_rfl) (by kernel_rfl) (by kernel_rfl) (fun _ _ _ h => h) (Or.inl ⟨by rfl, ?_⟩) hHeld ?_; rotate_left; (· (intro w' hSw; go_simp; try with_reducible rfl)); (try simp only [List.getElem_toArray, List.getElem_cons_zero, List.getElem_cons_succ, Act.put, List.setIfInBounds_toArray, List.set_cons_zero, List.set_cons_succ]))
  refine wpAnyH_done (by kernel_rfl) ?_ _
  clear hHeld
  replace H := H.below K7
  replace RO := RO.below K7
  replace X := X.below K7
  replace G := G.below K7
  replace PQ := PQ.below K7
  replace U2 := Lib.hid (U2.out.below K7)
  replace Q3 := Lib.hid (Q3.out.below K7)
  replace U4 := Lib.hid (U4.out.below K7)
  replace HB := Lib.hid (HB.out.call K7)
  clear K7 hiX
  go_wp2_with (refine guardY (isLdY 33) ?_ ?_; (· rfl); refine load_ry rfl 33 _ rfl A3 rfl _ _ _ X _ Try.underlying33 rfl ?_ ?_; (· kernel_rfl))
  refine (markReplay_any ns zs _ _ len _ h24 hlen Q3.out).mono ?_
  rintro e w8 ⟨rfl, m1, ⟨r8, m2, m3⟩⟩
  obtain ⟨kk, hy, hy0⟩ : ∃ y : Int, y = ((1 + len * 2 : Nat) : Int) ∧ 0 ≤ y := ⟨_, rfl, by omega⟩
  have HY := Lib.hid hy
  rw [← HY.out]
  clear hy
  have k8 := Lib.hid (fun z hz => (show A2 < z ∧ E2 ≤ z ∧ z < A3 from by obtain ⟨x1, x2, x3⟩ := m3 z hz; have := own3.out z x2; omega))
  replace H := H.grown m2 (fun e => by have := k8.out _ e.symm; omega)
  replace RO := RO.grown m2 (fun e => by have := k8.out _ e.symm; omega)
  replace G := G.grown m2 (fun e => by have := k8.out _ e.symm; omega)
  replace PQ := PQ.grownAp m2 (fun e => by have := k8.out _ e.symm; omega)
  replace U2 := Lib.hid (U2.out.grownP m2 (fun h0 z hz => .inr (fun e => by have := k8.out z hz; have := own2.out h0 z e; omega)))
  replace U4 := Lib.hid (U4.out.grownP m2 (fun h0 z hz => .inr (fun e => by have := k8.out z hz; have := own4.out h0 z e; omega)))
  replace HB : Hid (Kept w w8) := Lib.hid (HB.out.grown m2 HB.out.size (fun z hz => by have := k8.out z hz; omega))
  clear m1 m2 m3 k8 X Q3
  have yl : decide (kk < 0) = false := by simp; omega
  go_wp2_with (first | (refine guardY (isLdY 33) ?_ ?_; (· rfl); refine load_ry rfl 33 _ rfl A4 rfl _ _ _ G _ Try.underlying33 rfl ?_ ?_; (· kernel_rfl)) | (refine guardY (isLdY 33) ?_ ?_; (· rfl); refine load_ry rfl 33 _ rfl A2 rfl _ _ _ RO _ Try.underlying33 rfl ?_ ?_; (· kernel_rfl)))
  refine (eqReplay_same RR FF _ _ _ _ NN _ hRR (by omega) U4.out U2.out).mono ?_
  rintro e w9 ⟨rfl, b9⟩
  replace H := H.below b9
  replace RO := RO.below b9
  replace G := G.below b9
  replace PQ := PQ.below b9
  replace U2 := Lib.hid (U2.out.below b9)
  replace U4 := Lib.hid (U4.out.below b9)
  replace HB := Lib.hid (HB.out.call b9)
  clear b9
  go_wp2_with (refine guardY (isLdY 33) ?_ ?_; (· rfl); refine load_ry rfl 33 _ rfl A4 rfl _ _ _ G _ Try.underlying33 rfl ?_ ?_; (· kernel_rfl))
  refine (markReplay_any RR FF _ _ NN _ hRR (by omega) U4.out).mono ?_
  rintro e w10 ⟨rfl, m1, ⟨r8, m2, m3⟩⟩
  obtain ⟨mm, hz, hz0⟩ : ∃ z : Int, z = ((1 + NN * 2 : Nat) : Int) ∧ 0 ≤ z := ⟨_, rfl, by omega⟩
  have HZ := Lib.hid hz
  rw [← HZ.out]
  clear hz
  have k8 := Lib.hid (fun z hz => (show A3 < z ∧ z < E4 ∧ z ≠ A4 from by obtain ⟨x1, x2, x3⟩ := m3 z hz; exact own4.out x3 z x2))
  replace H := H.grown m2 (fun e => by have := k8.out _ e.symm; omega)
  replace RO := RO.grown m2 (fun e => by have := k8.out _ e.symm; omega)
  replace G := G.grown m2 (fun e => by have := k8.out _ e.symm; omega)
  replace PQ := PQ.grownAp m2 (fun e => by have := k8.out _ e.symm; omega)
  replace U2 := Lib.hid (U2.out.grownP m2 (fun h0 z hz => .inr (fun e => by have := k8.out z hz; have := own2.out h0 z e; omega)))
  replace HB : Hid (Kept w w10) := Lib.hid (HB.out.grown m2 HB.out.size (fun z hz => by have := k8.out z hz; omega))
  have M4 := Lib.hid m1
  clear m1 m2 m3 k8 U4
  have zl : decide (mm < 0) = false := by simp; omega
  go_wp2_with (refine guardY (isLdY 33) ?_ ?_; (· rfl); refine load_ry rfl 33 _ rfl A4 rfl _ _ _ G _ Try.underlying33 rfl ?_ ?_; (· kernel_rfl))
  refine (heldReplay_any RR FF _ _ NN _ hRR (by omega) M4.out).mono ?_
  rintro e w11 ⟨rfl, b11⟩
  rw [← HZ.out]
  replace H := H.below b11
  replace RO := RO.below b11
  replace G := G.below b11
  replace PQ := PQ.below b11
  replace U2 := Lib.hid (U2.out.below b11)
  replace M4 := Lib.hid (M4.out.below b11)
  replace HB := Lib.hid (HB.out.call b11)
  clear b11
  go_wp2_with fail
  obtain ⟨MF, hMF⟩ : ∃ f, markF 1 (NN * 2) FF = f := ⟨_, rfl⟩
  rw [hMF] at M4
  (try simp only [Act.put])
  go_cut [14, 15] from 79 to 86 (fun s14 s15 wx => ∃ (c E : Nat) (ua : Option Addr) (uc : Nat), s14 = .pointer (some ⟨c, 0, none⟩) ∧ s15 = .bool OK ∧ wx.heap.size = E ∧ w11.heap.size ≤ c ∧ c < wx.heap.size ∧ Ry wx c RR (.slice ua NN uc) 33 ∧ Hid (Rw wx 0 (.slice ua NN uc) NN FF) ∧ Hid (0 < NN → ∀ z, (Value.slice ua NN uc).ownBlock = some z → w11.heap.size ≤ z ∧ z < wx.heap.size ∧ z ≠ c) ∧ Ry wx A2 RR (.slice ua2 NN uc2) 33 ∧ Ry wx A4 RR (.slice ua4 NN uc4) 33 ∧ Hid (Rw wx 0 (.slice ua2 NN uc2) NN FF) ∧ Hid (Rw wx 0 (.slice ua4 NN uc4) NN MF) ∧ Hid (Kept w wx))
  case first =>
    refine wp_region_held_drew (S := fun w' => Kept w11 w') (by kernel_rfl) ((kept_refl w11).drewN 1) (fun hHeld => ?_)
    (refine wpAnyH_take (i := 0) (v := _) rfl (by kernel_rfl) (by kernel_rfl) (by kernel_rfl) (fun _ _ _ h => h) (yieldsIf_load_mid (by rfl) 28 _ rfl _ _ rfl (rpC ns (.slice a len cap)) _ (fun w' hSw => (H.below hSw).1.range) Try.underlying28 rfl (hiH)) hHeld ?_; (try simp only [List.getElem_toArray, List.getElem_cons_zero, List.getElem_cons_succ, Act.put, List.setIfInBounds_toArray, List.set_cons_zero, List.set_cons_succ]))
    (refine wpAnyH_take (i := 2) (v := _) rfl (by kernel_rfl) (by kernel_rfl) (by kernel_rfl) (fun _ _ _ h => h) (yieldsIf_load_mid (by rfl) 41 _ rfl _ _ rfl (ints [x, y]) _ (fun w' hSw => (PQ.below hSw).holds.range) Try.underlying41 rfl (hiP)) hHeld ?_; (try simp only [List.getElem_toArray, List.getElem_cons_zero, List.getElem_cons_succ, Act.put, List.setIfInBounds_toArray, List.set_cons_zero, List.set_cons_succ]))
    have hHeld : Kept w11 w11.drew := (kept_refl w11).drewN 1
    refine wpAnyH_ready (rs := [1, 8]) (by kernel_rfl) (by simp) ?_
    refine AllReadyH.cons (o := _) rfl (fun K hK => ?_) (AllReadyH.cons (o := _) rfl (fun K hK => ?_) AllReadyH.nil)
    · (simp only [List.getElem_toArray, List.getElem_cons_zero, List.getElem_cons_succ, Region.wanted, if_true])
      go_simp
      refine (toReplay_any ns a len cap zs _ h24 (HP.out.below (HB.out.call hHeld)) hlen).mono ?_
      rintro e wq122 ⟨v1, rfl, q1, bb⟩
      dsimp only
      (try simp only [List.getElem_toArray, List.getElem_cons_zero, List.getElem_cons_succ, Act.put, List.setIfInBounds_toArray, List.set_cons_zero, List.set_cons_succ])
      have Q1 := Lib.hid (q1.rw.mono (b' := 0) (Nat.zero_le _))
      clear q1
      have KN := Kept.call hHeld bb
      refine hK.out _ _ KN (fun hHeld => ?_)
      clear hK K hHeld bb
      have hHeld := KN
      clear KN
      refine wpAnyH_ready (rs := [3, 8]) (by kernel_rfl) (by simp) ?_
      refine AllReadyH.cons (o := _) rfl (fun K hK => ?_) (AllReadyH.cons (o := _) rfl (fun K hK => ?_) AllReadyH.nil)
      · (simp only [List.getElem_toArray, List.getElem_cons_zero, List.getElem_cons_succ, Region.wanted, if_true])
        go_simp
        refine (toA2_any [x, y] _ rfl).mono ?_
        rintro e wq123 ⟨rfl, bb⟩
        dsimp only
        (try simp only [List.getElem_toArray, List.getElem_cons_zero, List.getElem_cons_succ, Act.put, List.setIfInBounds_toArray, List.set_cons_zero, List.set_cons_succ])
        replace Q1 := Lib.hid (Q1.out.below bb)
        have KN := Kept.call hHeld bb
        refine hK.out _ _ KN (fun hHeld => ?_)
        clear hK K hHeld bb
        have hHeld := KN
        clear KN
        refine wpAnyH_ready (rs := [4, 8]) (by kernel_rfl) (by simp) ?_
        refine AllReadyH.cons (o := _) rfl (fun K hK => ?_) (AllReadyH.cons (o := _) rfl (fun K hK => ?_) AllReadyH.nil)
        · (simp only [List.getElem_toArray, List.getElem_cons_zero, List.getElem_cons_succ, Region.wanted, if_true])
          go_simp
          refine (KI.out _ _ Q1.out).mono ?_
          rintro e wq124 ⟨u2, rfl, q2, bb⟩
          obtain ⟨ua2, uc2, rfl⟩ := q2.shape
          dsimp only
          (try simp only [List.getElem_toArray, List.getElem_cons_zero, List.getElem_cons_succ, Act.put, List.setIfInBounds_toArray, List.set_cons_zero, List.set_cons_succ])
          have own := Lib.hid (fun h0 z hz => (show w11.heap.size ≤ z ∧ z < wq124.heap.size from by have h1 := q2.ownlt h0 z hz; have h2 := hHeld.size; omega))
          have U := Lib.hid q2
          clear q2
          have KN := Kept.call hHeld bb
          refine hK.out _ _ KN (fun hHeld => ?_)
          clear hK K hHeld bb
          have hHeld := KN
          clear KN
          (refine wpAnyH_take (i := 5) (v := ?_) rfl (by kernel_rfl) (by kernel_rfl) (by kernel_rfl) (fun _ _ _ h => h) (Or.inl ⟨by rfl, ?_⟩) hHeld ?_; rotate_left; (· (intro w' hSw; go_simp; try with_reducible rfl)); (try simp only [List.getElem_toArray, List.getElem_cons_zero, List.getElem_cons_succ, Act.put, List.setIfInBounds_toArray, List.set_cons_zero, List.set_cons_succ])); (refine wpAnyH_take (i := 6) (v := ?_) rfl (by kernel_rfl) (by kernel_rfl) (by kernel_rfl) (fun _ _ _ h => h) (Or.inl ⟨by rfl, ?_⟩) hHeld ?_; rotate_left; (· (intro w' hSw; go_simp; try with_reducible rfl)); (try simp only [List.getElem_toArray, List.getElem_cons_zero, List.getElem_cons_succ, Act.put, List.setIfInBounds_toArray, List.set_cons_zero, List.set_cons_succ])); (refine wpAnyH_take (i := 7) (v := ?_) rfl (by kernel_rfl) (by kernel_rfl) (by kernel_rfl) (fun _ _ _ h => h) (Or.inl ⟨by rfl, ?_⟩) hHeld ?_; rotate_left; (· (intro w' hSw; go_simp; try with_reducible rfl)); (try simp only [List.getElem_toArray, List.getElem_cons_zero, List.getElem_cons_succ, Act.put, List.setIfInBounds_toArray, List.set_cons_zero, List.set_cons_succ]))
          (refine wpAnyH_ready (rs := [8]) (by kernel_rfl) (by simp) ?_; refine AllReadyH.cons (o := _) rfl (fun K hK => ?_) AllReadyH.nil; (simp only [List.getElem_toArray, List.getElem_cons_zero, List.getElem_cons_succ, Region.wanted, if_true]))
          go_simp
          (try rw [cells25C])
          have Z : Ry (wq124.alloc (.cells z25.toArray 33)) (wq124.heap.size) z24 (.slice none 0 0) 33 := Ry.zero wq124 33
          have hW : w11.heap.size ≤ wq124.heap.size := hHeld.size
          have KN : Kept w11 (wq124.alloc (.cells z25.toArray 33)) := Kept.alloc hHeld (.cells z25.toArray 33)
          refine hK.out _ _ KN (fun hHeld => ?_)
          clear hK K hHeld
          have hHeld := KN
          clear KN
          replace U := Lib.hid (U.out.alloc (.cells z25.toArray 33))
          replace own := Lib.hid (fun h0 z hz => (show w11.heap.size ≤ z ∧ z < (wq124.alloc (.cells z25.toArray 33)).heap.size ∧ z ≠ wq124.heap.size from by rw [size1]; have := own.out h0 z hz; omega))
          obtain ⟨cc, hcc⟩ : ∃ s, wq124.heap.size = s := ⟨_, rfl⟩
          rw [hcc] at Z hW own ⊢
          generalize wq124.alloc (.cells z25.toArray 33) = wq125 at *
          clear hcc
          (refine wpAnyH_ready (rs := [9]) (by kernel_rfl) (by simp) ?_; refine AllReadyH.cons (o := _) rfl (fun K hK => ?_) AllReadyH.nil; (simp only [List.getElem_toArray, List.getElem_cons_zero, List.getElem_cons_succ, Region.wanted, if_true]))
          refine wp_store_mid _ _ _ rfl _ _ (rpC RR (.slice ua2 NN uc2)).toArray rfl rfl (by simpa [lR] using Z.there25) (by simpa [lR] using hi25) (all_oneCell_toArray (rpC_one RR rfl)) ?_
          (try simp only [List.getElem_toArray, List.getElem_cons_zero, List.getElem_cons_succ, Act.put, List.setIfInBounds_toArray, List.set_cons_zero, List.set_cons_succ, List.toList_toArray])
          have KN := hHeld.puts (b := cc) hW 0 (rpC RR (.slice ua2 NN uc2))
          refine hK.out _ _ KN (fun hHeld => ?_)
          clear hK K hHeld
          have hHeld := KN
          clear KN
          (refine wpAnyH_take (i := 10) (v := ?_) rfl (by kernel_rfl) (by kernel_rfl) (by kernel_rfl) (fun _ _ _ h => h) (Or.inl ⟨by rfl, ?_⟩) hHeld ?_; rotate_left; (· (intro w' hSw; go_simp; try with_reducible rfl)); (try simp only [List.getElem_toArray, List.getElem_cons_zero, List.getElem_cons_succ, Act.put, List.setIfInBounds_toArray, List.set_cons_zero, List.set_cons_succ]))
          refine wpAnyH_done (by kernel_rfl) ?_ _
          have R := Z.putAll RR (.slice ua2 NN uc2) hRR
          have U9 := Lib.hid (U.out.puts cc 0 (rpC RR (.slice ua2 NN uc2)) (fun h0 e => (own.out h0 cc e).2.2 rfl))
          have own9 : Hid (0 < NN → ∀ z, (Value.slice ua2 NN uc2).ownBlock = some z → w11.heap.size ≤ z ∧ z < (wq125.setCells cc 0 (rpC RR (.slice ua2 NN uc2))).heap.size ∧ z ≠ cc) := Lib.hid (fun h0 z hz => by rw [size_setCells]; exact own.out h0 z hz)
          have RO9 := RO.below hHeld
          have G9 := G.below hHeld
          have U29 := Lib.hid (U2.out.below hHeld)
          have M49 := Lib.hid (M4.out.below hHeld)
          have HB9 := Lib.hid (HB.out.call hHeld)
          clear U own Z hHeld
          go_wp2_with fail
          go_meet
          case rel => exact ⟨cc, _, ua2, uc2, rfl, rfl, rfl, hW, R.lt, R, Lib.hid (U9.out.mono (b' := 0) (Nat.zero_le _)), own9, RO9, G9, U29, M49, HB9⟩
        · (simp only [List.getElem_toArray, List.getElem_cons_zero, List.getElem_cons_succ, Region.wanted, if_true])
          go_simp
          (try rw [cells25C])
          have Z : Ry (wq123.alloc (.cells z25.toArray 33)) (wq123.heap.size) z24 (.slice none 0 0) 33 := Ry.zero wq123 33
          have hW : w11.heap.size ≤ wq123.heap.size := hHeld.size
          have KN : Kept w11 (wq123.alloc (.cells z25.toArray 33)) := Kept.alloc hHeld (.cells z25.toArray 33)
          refine hK.out _ _ KN (fun hHeld => ?_)
          clear hK K hHeld
          have hHeld := KN
          clear KN
          replace Q1 : Hid (Rw (wq123.alloc (.cells z25.toArray 33)) 0 v1 len zs) := Lib.hid (Q1.out.alloc (.cells z25.toArray 33))
          obtain ⟨cc, hcc⟩ : ∃ s, wq123.heap.size = s := ⟨_, rfl⟩
          rw [hcc] at Z hW ⊢
          generalize wq123.alloc (.cells z25.toArray 33) = wq126 at *
          clear hcc
          (refine wpAnyH_ready (rs := [4]) (by kernel_rfl) (by simp) ?_; refine AllReadyH.cons (o := _) rfl (fun K hK => ?_) AllReadyH.nil; (simp only [List.getElem_toArray, List.getElem_cons_zero, List.getElem_cons_succ, Region.wanted, if_true]))
          go_simp
          have hzl := Z.lt
          refine (KI.out _ _ Q1.out).mono ?_
          rintro e wq127 ⟨u2, rfl, q2, bb⟩
          obtain ⟨ua2, uc2, rfl⟩ := q2.shape
          dsimp only
          (try simp only [List.getElem_toArray, List.getElem_cons_zero, List.getElem_cons_succ, Act.put, List.setIfInBounds_toArray, List.set_cons_zero, List.set_cons_succ])
          have own := Lib.hid (fun h0 z hz => (show w11.heap.size ≤ z ∧ z < wq127.heap.size ∧ z ≠ cc from by have h1 := q2.ownlt h0 z hz; have h2 := hHeld.size; omega))
          have U := Lib.hid q2
          clear q2
          clear hzl
          have KN := Kept.call hHeld bb
          replace Z := Z.below bb
          refine hK.out _ _ KN (fun hHeld => ?_)
          clear hK K hHeld bb
          have hHeld := KN
          clear KN
          (refine wpAnyH_take (i := 5) (v := ?_) rfl (by kernel_rfl) (by kernel_rfl) (by kernel_rfl) (fun _ _ _ h => h) (Or.inl ⟨by rfl, ?_⟩) hHeld ?_; rotate_left; (· (intro w' hSw; go_simp; try with_reducible rfl)); (try simp only [List.getElem_toArray, List.getElem_cons_zero, List.getElem_cons_succ, Act.put, List.setIfInBounds_toArray, List.set_cons_zero, List.set_cons_succ])); (refine wpAnyH_take (i := 6) (v := ?_) rfl (by kernel_rfl) (by kernel_rfl) (by kernel_rfl) (fun _ _ _ h => h) (Or.inl ⟨by rfl, ?_⟩) hHeld ?_; rotate_left; (· (intro w' hSw; go_simp; try with_reducible rfl)); (try simp only [List.getElem_toArray, List.getElem_cons_zero, List.getElem_cons_succ, Act.put, List.setIfInBounds_toArray, List.set_cons_zero, List.set_cons_succ])); (refine wpAnyH_take (i := 7) (v := ?_) rfl (by kernel_rfl) (by kernel_rfl) (by kernel_rfl) (fun _ _ _ h => h) (Or.inl ⟨by rfl, ?_⟩) hHeld ?_; rotate_left; (· (intro w' hSw; go_simp; try with_reducible rfl)); (try simp only [List.getElem_toArray, List.getElem_cons_zero, List.getElem_cons_succ, Act.put, List.setIfInBounds_toArray, List.set_cons_zero, List.set_cons_succ]))
          (refine wpAnyH_ready (rs := [9]) (by kernel_rfl) (by simp) ?_; refine AllReadyH.cons (o := _) rfl (fun K hK => ?_) AllReadyH.nil; (simp only [List.getElem_toArray, List.getElem_cons_zero, List.getElem_cons_succ, Region.wanted, if_true]))
          refine wp_store_mid _ _ _ rfl _ _ (rpC RR (.slice ua2 NN uc2)).toArray rfl rfl (by simpa [lR] using Z.there25) (by simpa [lR] using hi25) (all_oneCell_toArray (rpC_one RR rfl)) ?_
          (try simp only [List.getElem_toArray, List.getElem_cons_zero, List.getElem_cons_succ, Act.put, List.setIfInBounds_toArray, List.set_cons_zero, List.set_cons_succ, List.toList_toArray])
          have KN := hHeld.puts (b := cc) hW 0 (rpC RR (.slice ua2 NN uc2))
          refine hK.out _ _ KN (fun hHeld => ?_)
          clear hK K hHeld
          have hHeld := KN
          clear KN
          (refine wpAnyH_take (i := 10) (v := ?_) rfl (by kernel_rfl) (by kernel_rfl) (by kernel_rfl) (fun _ _ _ h => h) (Or.inl ⟨by rfl, ?_⟩) hHeld ?_; rotate_left; (· (intro w' hSw; go_simp; try with_reducible rfl)); (try simp only [List.getElem_toArray, List.getElem_cons_zero, List.getElem_cons_succ, Act.put, List.setIfInBounds_toArray, List.set_cons_zero, List.set_cons_succ]))
          refine wpAnyH_done (by kernel_rfl) ?_ _
          have R := Z.putAll RR (.slice ua2 NN uc2) hRR
          have U9 := Lib.hid (U.out.puts cc 0 (rpC RR (.slice ua2 NN uc2)) (fun h0 e => (own.out h0 cc e).2.2 rfl))
          have own9 : Hid (0 < NN → ∀ z, (Value.slice ua2 NN uc2).ownBlock = some z → w11.heap.size ≤ z ∧ z < (wq127.setCells cc 0 (rpC RR (.slice ua2 NN uc2))).heap.size ∧ z ≠ cc) := Lib.hid (fun h0 z hz => by rw [size_setCells]; exact own.out h0 z hz)
          have RO9 := RO.below hHeld
          have G9 := G.below hHeld
          have U29 := Lib.hid (U2.out.below hHeld)
          have M49 := Lib.hid (M4.out.below hHeld)
          have HB9 := Lib.hid (HB.out.call hHeld)
          clear U own Z hHeld
          go_wp2_with fail
          go_meet
          case rel => exact ⟨cc, _, ua2, uc2, rfl, rfl, rfl, hW, R.lt, R, Lib.hid (U9.out.mono (b' := 0) (Nat.zero_le _)), own9, RO9, G9, U29, M49, HB9⟩
      · (simp only [List.getElem_toArray, List.getElem_cons_zero, List.getElem_cons_succ, Region.wanted, if_true])
        go_simp
        (try rw [cells25C])
        have Z : Ry (wq122.alloc (.cells z25.toArray 33)) (wq122.heap.size) z24 (.slice none 0 0) 33 := Ry.zero wq122 33
        have hW : w11.heap.size ≤ wq122.heap.size := hHeld.size
        have KN : Kept w11 (wq122.alloc (.cells z25.toArray 33)) := Kept.alloc hHeld (.cells z25.toArray 33)
        refine hK.out _ _ KN (fun hHeld => ?_)
        clear hK K hHeld
        have hHeld := KN
        clear KN
        replace Q1 : Hid (Rw (wq122.alloc (.cells z25.toArray 33)) 0 v1 len zs) := Lib.hid (Q1.out.alloc (.cells z25.toArray 33))
        obtain ⟨cc, hcc⟩ : ∃ s, wq122.heap.size = s := ⟨_, rfl⟩
        rw [hcc] at Z hW ⊢
        generalize wq122.alloc (.cells z25.toArray 33) = wq128 at *
        clear hcc
        (refine wpAnyH_ready (rs := [3]) (by kernel_rfl) (by simp) ?_; refine AllReadyH.cons (o := _) rfl (fun K hK => ?_) AllReadyH.nil; (simp only [List.getElem_toArray, List.getElem_cons_zero, List.getElem_cons_succ, Region.wanted, if_true]))
        go_simp
        refine (toA2_any [x, y] _ rfl).mono ?_
        rintro e wq129 ⟨rfl, bb⟩
        dsimp only
        (try simp only [List.getElem_toArray, List.getElem_cons_zero, List.getElem_cons_succ, Act.put, List.setIfInBounds_toArray, List.set_cons_zero, List.set_cons_succ])
        replace Q1 := Lib.hid (Q1.out.below bb)
        have KN := Kept.call hHeld bb
        replace Z := Z.below bb
        refine hK.out _ _ KN (fun hHeld => ?_)
        clear hK K hHeld bb
        have hHeld := KN
        clear KN
        (refine wpAnyH_ready (rs := [4]) (by kernel_rfl) (by simp) ?_; refine AllReadyH.cons (o := _) rfl (fun K hK => ?_) AllReadyH.nil; (simp only [List.getElem_toArray, List.getElem_cons_zero, List.getElem_cons_succ, Region.wanted, if_true]))
        go_simp
        have hzl := Z.lt
        refine (KI.out _ _ Q1.out).mono ?_
        rintro e wq130 ⟨u2, rfl, q2, bb⟩
        obtain ⟨ua2, uc2, rfl⟩ := q2.shape
        dsimp only
        (try simp only [List.getElem_toArray, List.getElem_cons_zero, List.getElem_cons_succ, Act.put, List.setIfInBounds_toArray, List.set_cons_zero, List.set_cons_succ])
        have own := Lib.hid (fun h0 z hz => (show w11.heap.size ≤ z ∧ z < wq130.heap.size ∧ z ≠ cc from by have h1 := q2.ownlt h0 z hz; have h2 := hHeld.size; omega))
        have U := Lib.hid q2
        clear q2
        clear hzl
        have KN := Kept.call hHeld bb
        replace Z := Z.below bb
        refine hK.out _ _ KN (fun hHeld => ?_)
        clear hK K hHeld bb
        have hHeld := KN
        clear KN
        (refine wpAnyH_take (i := 5) (v := ?_) rfl (by kernel_rfl) (by kernel_rfl) (by kernel_rfl) (fun _ _ _ h => h) (Or.inl ⟨by rfl, ?_⟩) hHeld ?_; rotate_left; (· (intro w' hSw; go_simp; try with_reducible rfl)); (try simp only [List.getElem_toArray, List.getElem_cons_zero, List.getElem_cons_succ, Act.put, List.setIfInBounds_toArray, List.set_cons_zero, List.set_cons_succ])); (refine wpAnyH_take (i := 6) (v := ?_) rfl (by kernel_rfl) (by kernel_rfl) (by kernel_rfl) (fun _ _ _ h => h) (Or.inl ⟨by rfl, ?_⟩) hHeld ?_; rotate_left; (· (intro w' hSw; go_simp; try with_reducible rfl)); (try simp only [List.getElem_toArray, List.getElem_cons_zero, List.getElem_cons_succ, Act.put, List.setIfInBounds_toArray, List.set_cons_zero, List.set_cons_succ])); (refine wpAnyH_take (i := 7) (v := ?_) rfl (by kernel_rfl) (by kernel_rfl) (by kernel_rfl) (fun _ _ _ h => h) (Or.inl ⟨by rfl, ?_⟩) hHeld ?_; rotate_left; (· (intro w' hSw; go_simp; try with_reducible rfl)); (try simp only [List.getElem_toArray, List.getElem_cons_zero, List.getElem_cons_succ, Act.put, List.setIfInBounds_toArray, List.set_cons_zero, List.set_cons_succ]))
        (refine wpAnyH_ready (rs := [9]) (by kernel_rfl) (by simp) ?_; refine AllReadyH.cons (o := _) rfl (fun K hK => ?_) AllReadyH.nil; (simp only [List.getElem_toArray, List.getElem_cons_zero, List.getElem_cons_succ, Region.wanted, if_true]))
        refine wp_store_mid _ _ _ rfl _ _ (rpC RR (.slice ua2 NN uc2)).toArray rfl rfl (by simpa [lR] using Z.there25) (by simpa [lR] using hi25) (all_oneCell_toArray (rpC_one RR rfl)) ?_
        (try simp only [List.getElem_toArray, List.getElem_cons_zero, List.getElem_cons_succ, Act.put, List.setIfInBounds_toArray, List.set_cons_zero, List.set_cons_succ, List.toList_toArray])
        have KN := hHeld.puts (b := cc) hW 0 (rpC RR (.slice ua2 NN uc2))
        refine hK.out _ _ KN (fun hHeld => ?_)
        clear hK K hHeld
        have hHeld := KN
        clear KN
        (refine wpAnyH_take (i := 10) (v := ?_) rfl (by kernel_rfl) (by kernel_rfl) (by kernel_rfl) (fun _ _ _ h => h) (Or.inl ⟨by rfl, ?_⟩) hHeld ?_; rotate_left; (· (intro w' hSw; go_simp; try with_reducible rfl)); (try simp only [List.getElem_toArray, List.getElem_cons_zero, List.getElem_cons_succ, Act.put, List.setIfInBounds_toArray, List.set_cons_zero, List.set_cons_succ]))
        refine wpAnyH_done (by kernel_rfl) ?_ _
        have R := Z.putAll RR (.slice ua2 NN uc2) hRR
        have U9 := Lib.hid (U.out.puts cc 0 (rpC RR (.slice ua2 NN uc2)) (fun h0 e => (own.out h0 cc e).2.2 rfl))
        have own9 : Hid (0 < NN → ∀ z, (Value.slice ua2 NN uc2).ownBlock = some z → w11.heap.size ≤ z ∧ z < (wq130.setCells cc 0 (rpC RR (.slice ua2 NN uc2))).heap.size ∧ z ≠ cc) := Lib.hid (fun h0 z hz => by rw [size_setCells]; exact own.out h0 z hz)
        have RO9 := RO.below hHeld
        have G9 := G.below hHeld
        have U29 := Lib.hid (U2.out.below hHeld)
        have M49 := Lib.hid (M4.out.below hHeld)
        have HB9 := Lib.hid (HB.out.call hHeld)
        clear U own Z hHeld
        go_wp2_with fail
        go_meet
        case rel => exact ⟨cc, _, ua2, uc2, rfl, rfl, rfl, hW, R.lt, R, Lib.hid (U9.out.mono (b' := 0) (Nat.zero_le _)), own9, RO9, G9, U29, M49, HB9⟩
    · (simp only [List.getElem_toArray, List.getElem_cons_zero, List.getElem_cons_succ, Region.wanted, if_true])
      go_simp
      (try rw [cells25C])
      have Z : Ry ((w11.alloc (.cells z25.toArray 33)).drew) (w11.heap.size) z24 (.slice none 0 0) 33 := Ry.zero w11.drew 33
      have hW : w11.heap.size ≤ w11.heap.size := hHeld.size
      have KN : Kept w11 ((w11.alloc (.cells z25.toArray 33)).drew) := Kept.alloc hHeld (.cells z25.toArray 33)
      refine hK.out _ _ KN (fun hHeld => ?_)
      clear hK K hHeld
      have hHeld := KN
      clear KN
      obtain ⟨cc, hcc⟩ : ∃ s, w11.heap.size = s := ⟨_, rfl⟩
      rw [hcc] at Z ⊢
      generalize (w11.alloc (.cells z25.toArray 33)).drew = wq131 at *
      replace hW : w11.heap.size ≤ cc := Nat.le_of_eq hcc
      clear hcc
      (refine wpAnyH_ready (rs := [1]) (by kernel_rfl) (by simp) ?_; refine AllReadyH.cons (o := _) rfl (fun K hK => ?_) AllReadyH.nil; (simp only [List.getElem_toArray, List.getElem_cons_zero, List.getElem_cons_succ, Region.wanted, if_true]))
      go_simp
      refine (toReplay_any ns a len cap zs _ h24 (HP.out.below (HB.out.call hHeld)) hlen).mono ?_
      rintro e wq132 ⟨v1, rfl, q1, bb⟩
      dsimp only
      (try simp only [List.getElem_toArray, List.getElem_cons_zero, List.getElem_cons_succ, Act.put, List.setIfInBounds_toArray, List.set_cons_zero, List.set_cons_succ])
      have Q1 := Lib.hid (q1.rw.mono (b' := 0) (Nat.zero_le _))
      clear q1
      have KN := Kept.call hHeld bb
      replace Z := Z.below bb
      refine hK.out _ _ KN (fun hHeld => ?_)
      clear hK K hHeld bb
      have hHeld := KN
      clear KN
      (refine wpAnyH_ready (rs := [3]) (by kernel_rfl) (by simp) ?_; refine AllReadyH.cons (o := _) rfl (fun K hK => ?_) AllReadyH.nil; (simp only [List.getElem_toArray, List.getElem_cons_zero, List.getElem_cons_succ, Region.wanted, if_true]))
      go_simp
      refine (toA2_any [x, y] _ rfl).mono ?_
      rintro e wq133 ⟨rfl, bb⟩
      dsimp only
      (try simp only [List.getElem_toArray, List.getElem_cons_zero, List.getElem_cons_succ, Act.put, List.setIfInBounds_toArray, List.set_cons_zero, List.set_cons_succ])
      replace Q1 := Lib.hid (Q1.out.below bb)
      have KN := Kept.call hHeld bb
      replace Z := Z.below bb
      refine hK.out _ _ KN (fun hHeld => ?_)
      clear hK K hHeld bb
      have hHeld := KN
      clear KN
      (refine wpAnyH_ready (rs := [4]) (by kernel_rfl) (by simp) ?_; refine AllReadyH.cons (o := _) rfl (fun K hK => ?_) AllReadyH.nil; (simp only [List.getElem_toArray, List.getElem_cons_zero, List.getElem_cons_succ, Region.wanted, if_true]))
      go_simp
      have hzl := Z.lt
      refine (KI.out _ _ Q1.out).mono ?_
      rintro e wq134 ⟨u2, rfl, q2, bb⟩
      obtain ⟨ua2, uc2, rfl⟩ := q2.shape
      dsimp only
      (try simp only [List.getElem_toArray, List.getElem_cons_zero, List.getElem_cons_succ, Act.put, List.setIfInBounds_toArray, List.set_cons_zero, List.set_cons_succ])
      have own := Lib.hid (fun h0 z hz => (show w11.heap.size ≤ z ∧ z < wq134.heap.size ∧ z ≠ cc from by have h1 := q2.ownlt h0 z hz; have h2 := hHeld.size; omega))
      have U := Lib.hid q2
      clear q2
      clear hzl
      have KN := Kept.call hHeld bb
      replace Z := Z.below bb
      refine hK.out _ _ KN (fun hHeld => ?_)
      clear hK K hHeld bb
      have hHeld := KN
      clear KN
      (refine wpAnyH_take (i := 5) (v := ?_) rfl (by kernel_rfl) (by kernel_rfl) (by kernel_rfl) (fun _ _ _ h => h) (Or.inl ⟨by rfl, ?_⟩) hHeld ?_; rotate_left; (· (intro w' hSw; go_simp; try with_reducible rfl)); (try simp only [List.getElem_toArray, List.getElem_cons_zero, List.getElem_cons_succ, Act.put, List.setIfInBounds_toArray, List.set_cons_zero, List.set_cons_succ])); (refine wpAnyH_take (i := 6) (v := ?_) rfl (by kernel_rfl) (by kernel_rfl) (by kernel_rfl) (fun _ _ _ h => h) (Or.inl ⟨by rfl, ?_⟩) hHeld ?_; rotate_left; (· (intro w' hSw; go_simp; try with_reducible rfl)); (try simp only [List.getElem_toArray, List.getElem_cons_zero, List.getElem_cons_succ, Act.put, List.setIfInBounds_toArray, List.set_cons_zero, List.set_cons_succ])); (refine wpAnyH_take (i := 7) (v := ?_) rfl (by kernel_rfl) (by kernel_rfl) (by kernel_rfl) (fun _ _ _ h => h) (Or.inl ⟨by rfl, ?_⟩) hHeld ?_; rotate_left; (· (intro w' hSw; go_simp; try with_reducible rfl)); (try simp only [List.getElem_toArray, List.getElem_cons_zero, List.getElem_cons_succ, Act.put, List.setIfInBounds_toArray, List.set_cons_zero, List.set_cons_succ]))
      (refine wpAnyH_ready (rs := [9]) (by kernel_rfl) (by simp) ?_; refine AllReadyH.cons (o := _) rfl (fun K hK => ?_) AllReadyH.nil; (simp only [List.getElem_toArray, List.getElem_cons_zero, List.getElem_cons_succ, Region.wanted, if_true]))
      refine wp_store_mid _ _ _ rfl _ _ (rpC RR (.slice ua2 NN uc2)).toArray rfl rfl (by simpa [lR] using Z.there25) (by simpa [lR] using hi25) (all_oneCell_toArray (rpC_one RR rfl)) ?_
      (try simp only [List.getElem_toArray, List.getElem_cons_zero, List.getElem_cons_succ, Act.put, List.setIfInBounds_toArray, List.set_cons_zero, List.set_cons_succ, List.toList_toArray])
      have KN := hHeld.puts (b := cc) hW 0 (rpC RR (.slice ua2 NN uc2))
      refine hK.out _ _ KN (fun hHeld => ?_)
      clear hK K hHeld
      have hHeld := KN
      clear KN
      (refine wpAnyH_take (i := 10) (v := ?_) rfl (by kernel_rfl) (by kernel_rfl) (by kernel_rfl) (fun _ _ _ h => h) (Or.inl ⟨by rfl, ?_⟩) hHeld ?_; rotate_left; (· (intro w' hSw; go_simp; try with_reducible rfl)); (try simp only [List.getElem_toArray, List.getElem_cons_zero, List.getElem_cons_succ, Act.put, List.setIfInBounds_toArray, List.set_cons_zero, List.set_cons_succ]))
      refine wpAnyH_done (by kernel_rfl) ?_ _
      have R := Z.putAll RR (.slice ua2 NN uc2) hRR
      have U9 := Lib.hid (U.out.puts cc 0 (rpC RR (.slice ua2 NN uc2)) (fun h0 e => (own.out h0 cc e).2.2 rfl))
      have own9 : Hid (0 < NN → ∀ z, (Value.slice ua2 NN uc2).ownBlock = some z → w11.heap.size ≤ z ∧ z < (wq134.setCells cc 0 (rpC RR (.slice ua2 NN uc2))).heap.size ∧ z ≠ cc) := Lib.hid (fun h0 z hz => by rw [size_setCells]; exact own.out h0 z hz)
      have RO9 := RO.below hHeld
      have G9 := G.below hHeld
      have U29 := Lib.hid (U2.out.below hHeld)
      have M49 := Lib.hid (M4.out.below hHeld)
      have HB9 := Lib.hid (HB.out.call hHeld)
      clear U own Z hHeld
      go_wp2_with fail
      go_meet
      case rel => exact ⟨cc, _, ua2, uc2, rfl, rfl, rfl, hW, R.lt, R, Lib.hid (U9.out.mono (b' := 0) (Nat.zero_le _)), own9, RO9, G9, U29, M49, HB9⟩
  clear H PQ HB RO G U2 M4
  obtain ⟨A5, E5, ua5, uc5, rfl, rfl, hE5, hA5, hA5E, G5, U5, own5, RO, G, U2, M4, HB⟩ := hcut
  go_wp2_with (first | (refine guardY (isLdY 33) ?_ ?_; (· rfl); refine load_ry rfl 33 _ rfl A5 rfl _ _ _ G5 _ Try.underlying33 rfl ?_ ?_; (· kernel_rfl)) | (refine guardY (isLdY 33) ?_ ?_; (· rfl); refine load_ry rfl 33 _ rfl A2 rfl _ _ _ RO _ Try.underlying33 rfl ?_ ?_; (· kernel_rfl)))
  refine (eqReplay_same RR FF _ _ _ _ NN _ hRR (by omega) U5.out U2.out).mono ?_
  rintro e w14 ⟨rfl, b14⟩
  replace RO := RO.below b14
  replace G := G.below b14
  replace G5 := G5.below b14
  replace U2 := Lib.hid (U2.out.below b14)
  replace M4 := Lib.hid (M4.out.below b14)
  replace U5 := Lib.hid (U5.out.below b14)
  replace HB := Lib.hid (HB.out.call b14)
  clear b14
  rw [← hMF] at M4
  go_wp2_with (refine guardY (isLdY 33) ?_ ?_; (· rfl); refine load_ry rfl 33 _ rfl A4 rfl _ _ _ G _ Try.underlying33 rfl ?_ ?_; (· kernel_rfl))
  refine (heldReplay_any RR FF _ _ NN _ hRR (by omega) M4.out).mono ?_
  rintro e w15 ⟨rfl, b15⟩
  rw [← HZ.out]
  replace RO := RO.below b15
  replace G := G.below b15
  replace G5 := G5.below b15
  replace U2 := Lib.hid (U2.out.below b15)
  replace M4 := Lib.hid (M4.out.below b15)
  replace U5 := Lib.hid (U5.out.below b15)
  replace HB := Lib.hid (HB.out.call b15)
  clear b15
  go_wp2_with fail
  go_ret
  exact ⟨rfl, HB.out⟩
end Go.Proofs.Ytalngdccjoafhaa.base
