/-
  The number of ends of plays on the model's side, and its law, walked.
-/
import Derived.Test.YtemiljokdedidacPlySZ
import Derived.Test.YtemiljokdedidacRbP
namespace Go.Proofs.Ytemiljokdedidac.base
open Go.ChangeShapes Go.WideShapes Go.ChangeAt Go.RowKit
set_option linter.unusedVariables false
set_option linter.unusedSimpArgs false

/-- Racks in ascending order. -/
structure SRow (X : List (List Int)) : Prop where
  asc : X.Pairwise (fun a b => lexB a b = true)
  good : ∀ x ∈ X, GR x
theorem rkIns_oldX {r : List Int} : ∀ {l : List (List Int)}, r ∈ l → l.Pairwise (fun a b => lexB a b = true) → rkIns r l = l
  | [], h, _ => absurd h List.not_mem_nil
  | y :: l, h, hp => by
    rw [List.pairwise_cons] at hp
    rw [rkIns]
    rcases List.mem_cons.1 h with h1 | h1
    · subst h1
      rw [if_neg (by rw [lexB_irr]; simp), if_pos rfl]
    · rw [if_pos (hp.1 r h1), rkIns_oldX h1 hp.2]
theorem SRow.put {X : List (List Int)} {r : List Int} (h : SRow X) (g : GR r) : SRow (rkIns r X) ∧ ∀ y, y ∈ rkIns r X ↔ y ∈ X ∨ y = r := by
  by_cases hr : r ∈ X
  · rw [rkIns_oldX hr h.asc]
    exact ⟨h, fun y => ⟨.inl, fun e => e.elim id (fun e => e ▸ hr)⟩⟩
  · obtain ⟨h1, h2⟩ := rkIns_new g.1 (fun x hx => (h.good x hx).1) hr h.asc
    have hm : ∀ y, y ∈ rkIns r X ↔ y ∈ X ∨ y = r := fun y => by
      rw [h2.mem_iff, List.mem_cons]
      exact ⟨fun e => e.elim .inr .inl, fun e => e.elim .inr .inl⟩
    refine ⟨⟨h1, fun x hx => ?_⟩, hm⟩
    rcases (hm x).1 hx with e | e
    · exact h.good x e
    · rw [e]; exact g
theorem SRow.nodup {X : List (List Int)} (h : SRow X) : X.Nodup := h.asc.imp (fun {a b} hab e => by subst e; rw [lexB_irr] at hab; cases hab)
/-- The next racks of the first k. -/
structure NX (L : List (List Int)) (k : Nat) (X : List (List Int)) : Prop where
  row : SRow X
  mem : ∀ y, y ∈ X ↔ ∃ s ∈ L.take k, y ∈ nxL s
  len : X.length ≤ 30 * k
structure NI (X0 : List (List Int)) (s : List Int) (j : Nat) (X : List (List Int)) : Prop where
  row : SRow X
  mem : ∀ y, y ∈ X ↔ y ∈ X0 ∨ y ∈ nxK s j
  len : X.length ≤ X0.length + j
theorem NX.start (L : List (List Int)) : NX L 0 [] := ⟨⟨List.Pairwise.nil, fun x h => absurd h List.not_mem_nil⟩, fun y => by simp, by simp⟩
theorem NI.start {X : List (List Int)} (h : SRow X) (s : List Int) : NI X s 0 X := ⟨h, fun y => by simp [nxK], by omega⟩
theorem NI.step {X0 X : List (List Int)} {s : List Int} {j : Nat} (h : NI X0 s j X) (g : GR (nxR s j)) : NI X0 s (j + 1) (rkIns (nxR s j) X) := by
  obtain ⟨h1, h2⟩ := h.row.put g
  refine ⟨h1, fun y => ?_, ?_⟩
  · rw [h2, h.mem, nxK_step, List.mem_append, List.mem_singleton, or_assoc]
  · have := rkIns_le (nxR s j) X
    have := h.len
    omega
theorem take_mem9 {L : List (List Int)} {k : Nat} (hk : k < L.length) (P : List Int → Prop) : (∃ s ∈ L.take (k + 1), P s) ↔ (∃ s ∈ L.take k, P s) ∨ P (L.getD k []) := by
  rw [take_one hk]
  constructor
  · rintro ⟨s, hs, h⟩
    rcases List.mem_append.1 hs with h1 | h1
    · exact .inl ⟨s, h1, h⟩
    · rw [List.mem_singleton] at h1; subst h1; exact .inr h
  · rintro (⟨s, hs, h⟩ | h)
    · exact ⟨s, List.mem_append_left _ hs, h⟩
    · exact ⟨_, List.mem_append_right _ (List.mem_singleton.2 rfl), h⟩
theorem NX.next {L X0 X : List (List Int)} {k : Nat} (h : NX L k X0) (hk : k < L.length) (hz : usefNA (L.getD k []) ≠ 0) (n : NI X0 (L.getD k []) (usefNA (L.getD k [])) X) : NX L (k + 1) X := by
  refine ⟨n.row, fun y => ?_, ?_⟩
  · rw [n.mem, h.mem, take_mem9 hk, nxK_all hz]
  · have := n.len
    have := h.len
    have := use30 (L.getD k [])
    omega
theorem NX.stay {L X0 : List (List Int)} {k : Nat} (h : NX L k X0) (hk : k < L.length) (hz : usefNA (L.getD k []) = 0) (g : GR (L.getD k [])) : NX L (k + 1) (rkIns (L.getD k []) X0) := by
  obtain ⟨h1, h2⟩ := h.row.put g
  refine ⟨h1, fun y => ?_, ?_⟩
  · rw [h2, h.mem, take_mem9 hk, nxK_none hz, List.mem_singleton]
  · have := rkIns_le (L.getD k []) X0
    have := h.len
    omega
/-- The ends behind i pours, in a row. -/
structure EL (r : List Int) (i : Nat) (L : List (List Int)) : Prop where
  row : SRow L
  mem : ∀ y, y ∈ L ↔ endP i r y
  len : L.length ≤ 30 ^ i
theorem EL.start {r : List Int} (g : GR r) : EL r 0 [r] := ⟨⟨by simp, fun x h => by rw [List.mem_singleton] at h; subst h; exact g⟩, fun y => by simp [endP], by simp⟩
theorem EL.next {r : List Int} {i : Nat} {L X : List (List Int)} (h : EL r i L) (n : NX L L.length X) (hi : i < 2) : EL r (i + 1) X := by
  refine ⟨n.row, fun y => ?_, ?_⟩
  · rw [n.mem, List.take_length]
    have : i = 0 ∨ i = 1 := by omega
    rcases this with rfl | rfl
    · constructor
      · rintro ⟨s, hs, hy⟩
        have := (h.mem s).1 hs
        rw [show s = r from this] at hy
        exact hy
      · intro hy
        exact ⟨r, (h.mem r).2 rfl, hy⟩
    · constructor
      · rintro ⟨s, hs, hy⟩; exact ⟨s, (h.mem s).1 hs, hy⟩
      · rintro ⟨s, hs, hy⟩; exact ⟨s, (h.mem s).2 hs, hy⟩
  · have h1 := n.len
    have h2 := h.len
    rw [Nat.pow_succ]
    generalize 30 ^ i = B at *
    omega

set_option maxHeartbeats 6400000 in
set_option maxRecDepth 100000 in
theorem ends_any (r : List Int) (N : Nat) (hN2 : N ≤ 2) (G : GR r) (w : World) :
    Calls Try.prog 68 #[row r, .int .i64 (N : Nat)] w fun e w' => (∃ (g cap : Nat) (L : List (List Int)), e = .returned (.slice (some ⟨g, 0, none⟩) L.length cap) ∧ EL r N L) ∧ Kept w w' := by
  have h24 := G.1
  have H := Has.box w 42 h24 (by omega)
  have HB := Lib.hid ((kept_refl w).alloc (.cells (ints r).toArray 42))
  have E0 := Lib.hid (EL.start G)
  have KM := Lib.hid (fun s (gs : GR s) V => moves_any s V gs)
  rw [row_ints]
  go_enter Try.func68, Try.ntmps68
  have G0 : Hid (Gr ((w.alloc (.cells (ints r).toArray 42)).alloc (.cells (ints r).toArray 42)) 0 42 24 (.slice (some ⟨(w.alloc (.cells (ints r).toArray 42)).heap.size, 0, none⟩) 1 1) [r]) := Lib.hid (Gr.one9 (w.alloc (.cells (ints r).toArray 42)) 0 42 r h24 (Nat.zero_le _))
  have HB0 := Lib.hid (HB.out.alloc (.cells (ints r).toArray 42))
  go_wp2_with (first | (refine load_has rfl 42 _ rfl _ rfl ?_ 24 ?_ _ Try.underlying42 rfl ?_ ?_; rotate_left; (· (repeat (first | (with_reducible assumption) | ((with_reducible refine Has.box _ _ ?_ ?_) <;> (first | assumption | decide)) | (with_reducible refine Has.alloc ?_ _) | ((with_reducible refine Has.putOther ?_ _ _ ?_); rotate_left; omega; skip) | ((with_reducible refine Has.below ?_ ?_); rotate_left; assumption)))); (· kernel_rfl)) | (refine wpList_slice1 rfl 88 42 _ rfl 24 192 Try.underlying88 (by kernel_rfl) (by omega) (by omega) r rfl h24 ?_))
  generalize (w.alloc (.cells (ints r).toArray 42)).alloc (.cells (ints r).toArray 42) = W0 at *
  have hsz0 : (w.alloc (.cells (ints r).toArray 42)).heap.size = w.heap.size + 1 := size1 _ _
  rw [hsz0] at G0
  clear H HB hsz0
  go_loopw [5, 6] (fun v z wr => ∃ (i g cap : Nat) (L : List (List Int)), i ≤ N ∧ z = .int .i64 i ∧ v = .slice (some ⟨g, 0, none⟩) L.length cap ∧ Hid (Gr wr 0 42 24 (.slice (some ⟨g, 0, none⟩) L.length cap) L) ∧ Hid (EL r i L) ∧ Hid (Kept w wr)) (fun _ z _ => N - (intOf z).toNat)
  case atStart => exact ⟨0, w.heap.size + 1, 1, [r], by omega, rfl, rfl, G0, E0, HB0⟩
  case round =>
    clear G0 E0 HB0
    obtain ⟨i, g, cap, L, hi, rfl, rfl, GL, GE, GB⟩ := hrel
    by_cases hiN : i < N
    · have hii : (i : Int) < (N : Int) := by omega
      have l900 : L.length ≤ 30 := by
        have h1 := GE.out.len
        have : i = 0 ∨ i = 1 := by omega
        rcases this with rfl | rfl
        · have : (30 : Nat) ^ 0 = 1 := by decide
          omega
        · have : (30 : Nat) ^ 1 = 30 := by decide
          omega
      have LG := Lib.hid (fun s hs => GE.out.row.good s hs)
      have GN := Lib.hid (fun X (n : NX L L.length X) => GE.out.next n (by omega))
      obtain ⟨M, hM⟩ : ∃ M, L.length = M := ⟨_, rfl⟩
      have HM := Lib.hid hM
      rw [hM] at l900 GL ⊢
      have P0 := Lib.hid (Gr.none wr 0 42 24 (Nat.zero_le _))
      have N0 := Lib.hid (NX.start L)
      replace GL := Lib.hid (GL.out.alloc (.cells #[] 42))
      replace GB := Lib.hid (GB.out.alloc (.cells #[] 42))
      clear hM GE
      go_wp2_with fail
      obtain ⟨b0, hb0⟩ : ∃ b0, wr.heap.size = b0 := ⟨_, rfl⟩
      rw [hb0] at P0 ⊢
      generalize wr.alloc (.cells #[] 42) = W1 at *
      clear hb0
      go_loopw [7, 8] (fun v z wx => ∃ (k gx cx : Nat) (X : List (List Int)), k ≤ M ∧ z = .int .i64 k ∧ v = .slice (some ⟨gx, 0, none⟩) X.length cx ∧ Hid (Gr wx 0 42 24 (.slice (some ⟨gx, 0, none⟩) X.length cx) X) ∧ Hid (NX L k X) ∧ Hid (Gr wx 0 42 24 (.slice (some ⟨g, 0, none⟩) M cap) L) ∧ Hid (Kept w wx)) (fun _ z _ => M - (intOf z).toNat)
      case atStart => exact ⟨0, b0, 0, [], by omega, rfl, rfl, P0, N0, GL, GB⟩
      case round =>
        clear P0 N0 GL GB
        obtain ⟨k, gx, cx, X, hk, rfl, rfl, GX, NK, GL, GB⟩ := hrel
        by_cases hkM : k < M
        · have hki : (k : Int) < (M : Int) := by omega
          have hk0 : (0 : Int) ≤ (k : Int) := by omega
          have hkL : k < L.length := by rw [HM.out]; exact hkM
          have gs := LG.out _ (getD_in9 hkL)
          have RG := Lib.hid (GL.out.range HM.out.symm k hkM)
          have NS := Lib.hid (fun hz => NK.out.stay hkL hz gs)
          have NN := Lib.hid (fun hz X2 n => NK.out.next (X := X2) hkL hz n)
          have xl := NK.out.len
          have XR := Lib.hid NK.out.row
          obtain ⟨s, hs⟩ : ∃ s, L.getD k [] = s := ⟨_, rfl⟩
          rw [hs] at gs RG NS NN
          have HSK := Lib.hid hs
          clear hs hkL NK
          have s24 := gs.1
          have hi24 : (Try.prog.info? 42).map (·.size) = some (ints s).length := by rw [ints_len, s24]; kernel_rfl
          have HS24 := Lib.hid s24
          go_wp2_with (refine wpList_load_mid rfl 42 _ rfl g (k * 24) rfl (ints s) _ RG.out Try.underlying42 rfl hi24 ?_)
          refine (KM.out s gs _).mono ?_
          rintro e w3 ⟨v, rfl, q3, b3⟩
          obtain ⟨va, vc, rfl⟩ := q3.rw.shape
          have R3 := Lib.hid ((q3.mono (b' := 0) (Nat.zero_le _)).rw)
          replace GX := Lib.hid (GX.out.below b3)
          replace GL := Lib.hid (GL.out.below b3)
          replace GB := Lib.hid (GB.out.call b3)
          replace RG := Lib.hid (GL.out.range HM.out.symm k hkM)
          have N30 := use30 s
          clear b3 q3
          rw [HSK.out] at RG
          have K5 := Lib.hid (fun V (h : Gr V 0 42 24 (.slice (some ⟨gx, 0, none⟩) X.length cx) X) => l5Put_any X s 0 gx X.length cx V HS24.out rfl (by omega) (Nat.zero_le _) h)
          by_cases hz : usefNA s = 0
          · have NZ := Lib.hid (NS.out hz)
            rw [hz]
            clear hz R3 NS NN
            go_wp2_with (refine wpList_load_mid rfl 42 _ rfl g (k * 24) rfl (ints s) _ RG.out Try.underlying42 rfl hi24 ?_)
            refine (K5.out _ GX.out).mono ?_
            rintro e w5 ⟨g5, c5, rfl, q5, b5⟩
            have GX5 := Lib.hid q5
            replace GL := Lib.hid (GL.out.below b5)
            replace GB := Lib.hid (GB.out.call b5)
            clear q5 b5 K5 RG GX
            generalize rkIns s X = X5 at *
            go_wp2_with fail
            go_loopw [7, 10] (fun v z wx => v = .slice (some ⟨g5, 0, none⟩) X5.length c5 ∧ z = .int .i64 0 ∧ wx = w5) (fun _ _ _ => 1)
            case atStart => exact ⟨rfl, rfl, rfl⟩
            case round =>
              obtain ⟨rfl, rfl, rfl⟩ := hrel
              go_wp2_with fail
              go_roundw
              case rel => exact ⟨k + 1, g5, c5, X5, by omega, by go_num, rfl, GX5, NZ, GL, GB⟩
              case measure => simp [intOf]; omega
          · have n0 : ((usefNA s : Int) == 0) = false := by simp; omega
            have NXT := Lib.hid (fun X2 n => NN.out hz X2 n)
            have UN := Lib.hid (fun j hj => up_nat gs j hj)
            have NG := Lib.hid (fun j hj => nx_good gs j hj)
            have C24 := Lib.hid gs.1
            have CV := Lib.hid gs.2
            obtain ⟨n, hn⟩ : ∃ n, usefNA s = n := ⟨_, rfl⟩
            have HN := Lib.hid hn
            rw [hn] at n0 N30 NXT R3 ⊢
            obtain ⟨gg, gcap, he, _, _⟩ := R3.out.form (by omega)
            injection he with e1 _ e3
            subst e1
            subst e3
            have NI0 := Lib.hid (NI.start XR.out s)
            clear hn hz NS NN K5
            go_wp2_with fail
            go_loopw [7, 10] (fun v z wx => ∃ (j g2 c2 : Nat) (X2 : List (List Int)), j ≤ n ∧ z = .int .i64 j ∧ v = .slice (some ⟨g2, 0, none⟩) X2.length c2 ∧ Hid (Gr wx 0 42 24 (.slice (some ⟨g2, 0, none⟩) X2.length c2) X2) ∧ Hid (NI X s j X2) ∧ Hid (Gr wx 0 42 24 (.slice (some ⟨g, 0, none⟩) M cap) L) ∧ Hid (Rw wx 0 (.slice (some ⟨gg, 0, none⟩) n vc) n (usefFA s)) ∧ Hid (Kept w wx)) (fun _ z _ => n - (intOf z).toNat)
            case atStart => exact ⟨0, gx, cx, X, by omega, rfl, rfl, GX, NI0, GL, R3, GB⟩
            case round =>
              clear GX NI0 GL R3 GB RG
              obtain ⟨j, g2, c2, X2, hj, rfl, rfl, GX, NJ, GL, R3, GB⟩ := hrel
              by_cases hjn : j < n
              · have hji : (j : Int) < (n : Int) := by omega
                have hj0 : (0 : Int) ≤ (j : Int) := by omega
                obtain ⟨p, q, p6, q6, hne, hcn, hx, hy, hnx⟩ := UN.out j (by rw [HN.out]; exact hjn)
                have gx2 := NG.out j (by rw [HN.out]; exact hjn)
                have NJ2 := Lib.hid (NJ.out.step gx2)
                have x2l := NJ.out.len
                rw [hnx] at gx2 NJ2
                have C0 : Hid (∀ w', Kept wr w' → w'.cell? ⟨gg, j * 2, none⟩ = some (.int .i64 (p : Int))) := Lib.hid (fun w' hw => (R3.out.below hw).cellX (by omega) hx)
                have C1 : Hid (∀ w', Kept wr w' → w'.cell? ⟨gg, j * 2 + 1, none⟩ = some (.int .i64 (q : Int))) := Lib.hid (fun w' hw => (R3.out.below hw).cellX (by omega) hy)
                have LD0 : Hid (∀ w', Kept wr w' → w'.rangeAt g (k * 24) (ints s)) := Lib.hid (fun w' hw => by
                  have := (GL.out.below hw).range HM.out.symm k hkM
                  rwa [HSK.out] at this)
                have R24 := gx2.1
                have HNE := Lib.hid hne
                have HC := Lib.hid hcn
                obtain ⟨R, hR⟩ : ∃ R, pourT s p q = R := ⟨_, rfl⟩
                rw [hR] at gx2 R24 NJ2
                have HR := Lib.hid hR
                have l2 : (ints R).length = 24 := by rw [ints_len]; exact R24
                have hi0 : (Try.prog.info? 42).map (·.size) = some 24 := by kernel_rfl
                have hi1 := hi24
                have K6 := Lib.hid (fun V (h : Gr V 0 42 24 (.slice (some ⟨g2, 0, none⟩) X2.length c2) X2) => l5Put_any X2 R 0 g2 X2.length c2 V R24 rfl (by omega) (Nat.zero_le _) h)
                clear hx hy hnx hne hcn hR NJ
                go_wp2_with fail
                refine wp_region_held_drew (S := fun w' => Kept wr w') (by kernel_rfl) ?_ (fun hHeld => ?_)
                · exact (kept_refl wr).drewN 1
                (refine wpAnyH_take (i := 0) (v := ?_) rfl (by kernel_rfl) (by kernel_rfl) (by kernel_rfl) (fun _ _ _ h => h) (Or.inl ⟨by rfl, ?_⟩) hHeld ?_; rotate_left; (· (intro w' hSw; go_simp; try with_reducible rfl)); (try simp only [List.getElem_toArray, List.getElem_cons_zero, List.getElem_cons_succ, Act.put, List.setIfInBounds_toArray, List.set_cons_zero, List.set_cons_succ])); (refine wpAnyH_take (i := 1) (v := ?_) rfl (by kernel_rfl) (by kernel_rfl) (by kernel_rfl) (fun _ _ _ h => h) (Or.inl ⟨by rfl, ?_⟩) hHeld ?_; rotate_left; (· (intro w' hSw; go_simp; try with_reducible rfl)); (try simp only [List.getElem_toArray, List.getElem_cons_zero, List.getElem_cons_succ, Act.put, List.setIfInBounds_toArray, List.set_cons_zero, List.set_cons_succ])); (refine wpAnyH_take (i := 2) (v := ?_) rfl (by kernel_rfl) (by kernel_rfl) (by kernel_rfl) (fun _ _ _ h => h) (Or.inl ⟨by rfl, ?_⟩) hHeld ?_; rotate_left; (· (intro w' hSw; go_simp; try with_reducible rfl)); (try simp only [List.getElem_toArray, List.getElem_cons_zero, List.getElem_cons_succ, Act.put, List.setIfInBounds_toArray, List.set_cons_zero, List.set_cons_succ])); (refine wpAnyH_take (i := 4) (v := ?_) rfl (by kernel_rfl) (by kernel_rfl) (by kernel_rfl) (fun _ _ _ h => h) (Or.inl ⟨by rfl, ?_⟩) hHeld ?_; rotate_left; (· (intro w' hSw; go_simp; try with_reducible rfl)); (try simp only [List.getElem_toArray, List.getElem_cons_zero, List.getElem_cons_succ, Act.put, List.setIfInBounds_toArray, List.set_cons_zero, List.set_cons_succ])); (refine wpAnyH_take (i := 5) (v := ?_) rfl (by kernel_rfl) (by kernel_rfl) (by kernel_rfl) (fun _ _ _ h => h) (Or.inl ⟨by rfl, ?_⟩) hHeld ?_; rotate_left; (· (intro w' hSw; go_simp; try with_reducible rfl)); (try simp only [List.getElem_toArray, List.getElem_cons_zero, List.getElem_cons_succ, Act.put, List.setIfInBounds_toArray, List.set_cons_zero, List.set_cons_succ])); (refine wpAnyH_take (i := 6) (v := ?_) rfl (by kernel_rfl) (by kernel_rfl) (by kernel_rfl) (fun _ _ _ h => h) (Or.inl ⟨by rfl, ?_⟩) hHeld ?_; rotate_left; (· (intro w' hSw; go_simp; try with_reducible rfl)); (try simp only [List.getElem_toArray, List.getElem_cons_zero, List.getElem_cons_succ, Act.put, List.setIfInBounds_toArray, List.set_cons_zero, List.set_cons_succ])); (refine wpAnyH_take (i := 7) (v := ?_) rfl (by kernel_rfl) (by kernel_rfl) (by kernel_rfl) (fun _ _ _ h => h) (Or.inl ⟨by rfl, ?_⟩) hHeld ?_; rotate_left; (· (intro w' hSw; go_simp; try with_reducible rfl)); (try simp only [List.getElem_toArray, List.getElem_cons_zero, List.getElem_cons_succ, Act.put, List.setIfInBounds_toArray, List.set_cons_zero, List.set_cons_succ])); (refine wpAnyH_take (i := 9) (v := ?_) rfl (by kernel_rfl) (by kernel_rfl) (by kernel_rfl) (fun _ _ _ h => h) (Or.inl ⟨by rfl, ?_⟩) hHeld ?_; rotate_left; (· (intro w' hSw; go_simp; try with_reducible rfl)); (try simp only [List.getElem_toArray, List.getElem_cons_zero, List.getElem_cons_succ, Act.put, List.setIfInBounds_toArray, List.set_cons_zero, List.set_cons_succ])); (refine wpAnyH_take (i := 10) (v := ?_) rfl (by kernel_rfl) (by kernel_rfl) (by kernel_rfl) (fun _ _ _ h => h) (Or.inl ⟨by rfl, ?_⟩) hHeld ?_; rotate_left; (· (intro w' hSw; go_simp; try with_reducible rfl)); (try simp only [List.getElem_toArray, List.getElem_cons_zero, List.getElem_cons_succ, Act.put, List.setIfInBounds_toArray, List.set_cons_zero, List.set_cons_succ])); (refine wpAnyH_take (i := 11) (v := ?_) rfl (by kernel_rfl) (by kernel_rfl) (by kernel_rfl) (fun _ _ _ h => h) (Or.inl ⟨by rfl, ?_⟩) hHeld ?_; rotate_left; (· (intro w' hSw; go_simp; try with_reducible rfl)); (try simp only [List.getElem_toArray, List.getElem_cons_zero, List.getElem_cons_succ, Act.put, List.setIfInBounds_toArray, List.set_cons_zero, List.set_cons_succ])); (refine wpAnyH_take (i := 12) (v := ?_) rfl (by kernel_rfl) (by kernel_rfl) (by kernel_rfl) (fun _ _ _ h => h) (Or.inl ⟨by rfl, ?_⟩) hHeld ?_; rotate_left; (· (intro w' hSw; go_simp; try with_reducible rfl)); (try simp only [List.getElem_toArray, List.getElem_cons_zero, List.getElem_cons_succ, Act.put, List.setIfInBounds_toArray, List.set_cons_zero, List.set_cons_succ]))
                (refine wpAnyH_take (i := 3) (v := _) rfl (by kernel_rfl) (by kernel_rfl) (by kernel_rfl) (fun _ _ _ h => h) (yieldsIf_load_mid (by rfl) 42 _ rfl _ _ rfl (ints s) _ (fun w' hSw => LD0.out w' hSw) Try.underlying42 rfl (hi1)) hHeld ?_; (try simp only [List.getElem_toArray, List.getElem_cons_zero, List.getElem_cons_succ, Act.put, List.setIfInBounds_toArray, List.set_cons_zero, List.set_cons_succ]))
                refine wpAnyH_take (i := 8) (v := .int .i64 (p : Int)) rfl (by kernel_rfl) (by kernel_rfl) (by kernel_rfl) (fun _ _ _ h => h) (Or.inl ⟨by rfl, ?_⟩) hHeld ?_
                · intro w' hSw
                  have cc := C0.out w' hSw
                  go_simp
                (try simp only [List.getElem_toArray, List.getElem_cons_zero, List.getElem_cons_succ, Act.put, List.setIfInBounds_toArray, List.set_cons_zero, List.set_cons_succ])
                refine wpAnyH_take (i := 13) (v := .int .i64 (q : Int)) rfl (by kernel_rfl) (by kernel_rfl) (by kernel_rfl) (fun _ _ _ h => h) (Or.inl ⟨by rfl, ?_⟩) hHeld ?_
                · intro w' hSw
                  have cc := C1.out w' hSw
                  go_simp
                (try simp only [List.getElem_toArray, List.getElem_cons_zero, List.getElem_cons_succ, Act.put, List.setIfInBounds_toArray, List.set_cons_zero, List.set_cons_succ])
                refine wpAnyH_ready (rs := [14, 18]) (by kernel_rfl) (by simp) ?_
                refine AllReadyH.cons (o := _) rfl (fun K hK => ?callFirst) (AllReadyH.cons (o := _) rfl (fun K hK => ?makeFirst) AllReadyH.nil)
                case' callFirst =>
                  (simp only [List.getElem_toArray, List.getElem_cons_zero, List.getElem_cons_succ, Region.wanted, if_true])
                  go_simp
                  refine (l2Pour_any s p q _ C24.out CV.out p6 q6 HNE.out HC.out).mono ?_
                  rintro e wp2 ⟨rfl, bp2⟩
                  rw [HR.out]
                  dsimp only
                  (try simp only [List.getElem_toArray, List.getElem_cons_zero, List.getElem_cons_succ, Act.put, List.setIfInBounds_toArray, List.set_cons_zero, List.set_cons_succ])
                  have KW := Kept.call hHeld bp2
                  refine hK.out _ _ KW (fun hHeld => ?_)
                  clear hK K bp2
                  (refine wpAnyH_take (i := 15) (v := ?_) rfl (by kernel_rfl) (by kernel_rfl) (by kernel_rfl) (fun _ _ _ h => h) (Or.inl ⟨by rfl, ?_⟩) hHeld ?_; rotate_left; (· (intro w' hSw; go_simp; try with_reducible rfl)); (try simp only [List.getElem_toArray, List.getElem_cons_zero, List.getElem_cons_succ, Act.put, List.setIfInBounds_toArray, List.set_cons_zero, List.set_cons_succ])); (refine wpAnyH_take (i := 16) (v := ?_) rfl (by kernel_rfl) (by kernel_rfl) (by kernel_rfl) (fun _ _ _ h => h) (Or.inl ⟨by rfl, ?_⟩) hHeld ?_; rotate_left; (· (intro w' hSw; go_simp; try with_reducible rfl)); (try simp only [List.getElem_toArray, List.getElem_cons_zero, List.getElem_cons_succ, Act.put, List.setIfInBounds_toArray, List.set_cons_zero, List.set_cons_succ])); (refine wpAnyH_take (i := 17) (v := ?_) rfl (by kernel_rfl) (by kernel_rfl) (by kernel_rfl) (fun _ _ _ h => h) (Or.inl ⟨by rfl, ?_⟩) hHeld ?_; rotate_left; (· (intro w' hSw; go_simp; try with_reducible rfl)); (try simp only [List.getElem_toArray, List.getElem_cons_zero, List.getElem_cons_succ, Act.put, List.setIfInBounds_toArray, List.set_cons_zero, List.set_cons_succ]))
                  (refine wpAnyH_ready (rs := [18]) (by kernel_rfl) (by simp) ?_; refine AllReadyH.cons (o := _) rfl (fun K hK => ?_) AllReadyH.nil; (simp only [List.getElem_toArray, List.getElem_cons_zero, List.getElem_cons_succ, Region.wanted, if_true]))
                  go_simp
                  have F9 := Has.zero24 wp2 42
                  have h9 := KW.size
                  replace KW := KW.alloc (.cells #[.int .i64 0, .int .i64 0, .int .i64 0, .int .i64 0, .int .i64 0, .int .i64 0, .int .i64 0, .int .i64 0, .int .i64 0, .int .i64 0, .int .i64 0, .int .i64 0, .int .i64 0, .int .i64 0, .int .i64 0, .int .i64 0, .int .i64 0, .int .i64 0, .int .i64 0, .int .i64 0, .int .i64 0, .int .i64 0, .int .i64 0, .int .i64 0] 42)
                  refine hK.out _ _ KW (fun hHeld => ?_)
                  clear hK K
                  generalize wp2.alloc (.cells #[.int .i64 0, .int .i64 0, .int .i64 0, .int .i64 0, .int .i64 0, .int .i64 0, .int .i64 0, .int .i64 0, .int .i64 0, .int .i64 0, .int .i64 0, .int .i64 0, .int .i64 0, .int .i64 0, .int .i64 0, .int .i64 0, .int .i64 0, .int .i64 0, .int .i64 0, .int .i64 0, .int .i64 0, .int .i64 0, .int .i64 0, .int .i64 0] 42) = wp3 at *
                  generalize wp2.heap.size = b9 at *
                case' makeFirst =>
                  (simp only [List.getElem_toArray, List.getElem_cons_zero, List.getElem_cons_succ, Region.wanted, if_true])
                  go_simp
                  have F9 : Has _ wr.heap.size z24 24 := Has.zero24 wr.drew 42
                  have KW := Kept.alloc hHeld (.cells #[.int .i64 0, .int .i64 0, .int .i64 0, .int .i64 0, .int .i64 0, .int .i64 0, .int .i64 0, .int .i64 0, .int .i64 0, .int .i64 0, .int .i64 0, .int .i64 0, .int .i64 0, .int .i64 0, .int .i64 0, .int .i64 0, .int .i64 0, .int .i64 0, .int .i64 0, .int .i64 0, .int .i64 0, .int .i64 0, .int .i64 0, .int .i64 0] 42)
                  obtain ⟨b9, hb9⟩ : ∃ b : Nat, b = wr.heap.size := ⟨_, rfl⟩
                  have h9 : wr.heap.size ≤ b9 := by omega
                  rw [← hb9] at F9
                  refine hK.out _ _ KW (fun hHeld => ?_)
                  clear hK K
                  (refine wpAnyH_ready (rs := [14]) (by kernel_rfl) (by simp) ?_; refine AllReadyH.cons (o := _) rfl (fun K hK => ?_) AllReadyH.nil; (simp only [List.getElem_toArray, List.getElem_cons_zero, List.getElem_cons_succ, Region.wanted, if_true]))
                  go_simp
                  refine (l2Pour_any s p q _ C24.out CV.out p6 q6 HNE.out HC.out).mono ?_
                  rintro e wp3 ⟨rfl, bp2⟩
                  rw [HR.out]
                  dsimp only
                  (try simp only [List.getElem_toArray, List.getElem_cons_zero, List.getElem_cons_succ, Act.put, List.setIfInBounds_toArray, List.set_cons_zero, List.set_cons_succ])
                  replace F9 := F9.below bp2
                  replace KW := KW.call bp2
                  refine hK.out _ _ KW (fun hHeld => ?_)
                  clear hK K bp2
                  (refine wpAnyH_take (i := 15) (v := ?_) rfl (by kernel_rfl) (by kernel_rfl) (by kernel_rfl) (fun _ _ _ h => h) (Or.inl ⟨by rfl, ?_⟩) hHeld ?_; rotate_left; (· (intro w' hSw; go_simp; try with_reducible rfl)); (try simp only [List.getElem_toArray, List.getElem_cons_zero, List.getElem_cons_succ, Act.put, List.setIfInBounds_toArray, List.set_cons_zero, List.set_cons_succ])); (refine wpAnyH_take (i := 16) (v := ?_) rfl (by kernel_rfl) (by kernel_rfl) (by kernel_rfl) (fun _ _ _ h => h) (Or.inl ⟨by rfl, ?_⟩) hHeld ?_; rotate_left; (· (intro w' hSw; go_simp; try with_reducible rfl)); (try simp only [List.getElem_toArray, List.getElem_cons_zero, List.getElem_cons_succ, Act.put, List.setIfInBounds_toArray, List.set_cons_zero, List.set_cons_succ])); (refine wpAnyH_take (i := 17) (v := ?_) rfl (by kernel_rfl) (by kernel_rfl) (by kernel_rfl) (fun _ _ _ h => h) (Or.inl ⟨by rfl, ?_⟩) hHeld ?_; rotate_left; (· (intro w' hSw; go_simp; try with_reducible rfl)); (try simp only [List.getElem_toArray, List.getElem_cons_zero, List.getElem_cons_succ, Act.put, List.setIfInBounds_toArray, List.set_cons_zero, List.set_cons_succ]))
                  rw [← hb9]
                  clear hb9
                all_goals
                  (refine wpAnyH_ready (rs := [19]) (by kernel_rfl) (by simp) ?_; refine AllReadyH.cons (o := _) rfl (fun K hK => ?_) AllReadyH.nil; (simp only [List.getElem_toArray, List.getElem_cons_zero, List.getElem_cons_succ, Region.wanted, if_true]))
                  refine wp_store_mid _ _ _ rfl _ _ (ints R).toArray rfl rfl (by simpa [l2] using F9.there) (by simpa [l2] using hi0) (all_oneCell_toArray (ints_one _)) ?_
                  (try simp only [List.getElem_toArray, List.getElem_cons_zero, List.getElem_cons_succ, Act.put, List.setIfInBounds_toArray, List.set_cons_zero, List.set_cons_succ, List.toList_toArray])
                  replace F9 := F9.putAll R R24
                  replace KW := KW.puts (b := b9) h9 0 (ints R)
                  refine hK.out _ _ KW (fun hHeld => ?_)
                  clear hK K
                  (refine wpAnyH_take (i := 20) (v := ?_) rfl (by kernel_rfl) (by kernel_rfl) (by kernel_rfl) (fun _ _ _ h => h) (Or.inl ⟨by rfl, ?_⟩) hHeld ?_; rotate_left; (· (intro w' hSw; go_simp; try with_reducible rfl)); (try simp only [List.getElem_toArray, List.getElem_cons_zero, List.getElem_cons_succ, Act.put, List.setIfInBounds_toArray, List.set_cons_zero, List.set_cons_succ]))
                  refine wpAnyH_done (by kernel_rfl) ?_ _
                  clear hHeld
                  generalize wp3.setCells b9 0 (ints R) = wp4 at *
                  replace GX := Lib.hid (GX.out.below KW)
                  replace GL := Lib.hid (GL.out.below KW)
                  replace R3 := Lib.hid (R3.out.below KW)
                  replace GB := Lib.hid (GB.out.call KW)
                  clear KW C0 C1 h9 LD0
                  go_wp2_with (refine load_has rfl 42 _ rfl _ rfl ?_ 24 ?_ _ Try.underlying42 rfl ?_ ?_; rotate_left; (· (repeat (first | (with_reducible assumption) | ((with_reducible refine Has.box _ _ ?_ ?_) <;> (first | assumption | decide)) | (with_reducible refine Has.alloc ?_ _) | ((with_reducible refine Has.putOther ?_ _ _ ?_); rotate_left; omega; skip) | ((with_reducible refine Has.below ?_ ?_); rotate_left; assumption)))); (· kernel_rfl))
                  refine (K6.out _ GX.out).mono ?_
                  rintro e w6 ⟨g6, c6, rfl, q6', b6⟩
                  have GX6 := Lib.hid q6'
                  replace GL := Lib.hid (GL.out.below b6)
                  replace R3 := Lib.hid (R3.out.below b6)
                  replace GB := Lib.hid (GB.out.call b6)
                  clear q6' b6 K6 GX F9
                  generalize rkIns R X2 = X6 at *
                  go_wp2_with fail
                  go_roundw
                  case rel => exact ⟨j + 1, g6, c6, X6, by omega, by go_num, rfl, GX6, NJ2, GL, R3, GB⟩
                  case measure => simp [intOf]; omega
              · obtain rfl : j = n := by omega
                have NF := Lib.hid (NXT.out X2 NJ.out)
                go_wp2_with fail
                go_roundw
                case rel => exact ⟨k + 1, g2, c2, X2, by omega, by go_num, rfl, GX, NF, GL, GB⟩
                case measure => simp [intOf]; omega
        · obtain rfl : k = M := by omega
          have NF := Lib.hid (GN.out X (by rw [HM.out]; exact NK.out))
          go_wp2_with fail
          go_roundw
          case rel => exact ⟨i + 1, gx, cx, X, by omega, by go_num, rfl, GX, NF, GB⟩
          case measure => simp [intOf]; omega
    · obtain rfl : i = N := by omega
      go_wp2_with fail
      go_ret
      exact ⟨⟨g, cap, L, rfl, GE.out⟩, GB.out⟩

set_option maxHeartbeats 1600000 in
set_option maxRecDepth 100000 in
theorem specEnds (r : List Int) (n : Int) (w : World) (h24 : r.length = 24) :
    Calls Try.prog 28 #[row r, .int .i64 n] w (EndsPost r n w) := by
  have H := Has.box w 42 h24 (by omega)
  have HB := Lib.hid ((kept_refl w).alloc (.cells (ints r).toArray 42))
  have KG := Lib.hid (fun W => l9Good_any r n W h24)
  rw [row_ints]
  go_enter Try.func28, Try.ntmps28
  go_wp2_with (refine load_has rfl 42 _ rfl _ rfl ?_ 24 ?_ _ Try.underlying42 rfl ?_ ?_; rotate_left; (· (repeat (first | (with_reducible assumption) | ((with_reducible refine Has.box _ _ ?_ ?_) <;> (first | assumption | decide)) | (with_reducible refine Has.alloc ?_ _) | ((with_reducible refine Has.putOther ?_ _ _ ?_); rotate_left; omega; skip) | ((with_reducible refine Has.below ?_ ?_); rotate_left; assumption)))); (· kernel_rfl))
  refine (KG.out _).mono ?_
  rintro e w1 ⟨rfl, b1⟩
  replace H := H.below b1
  replace HB := Lib.hid (HB.out.call b1)
  clear b1
  cases hb : BhOk r n with
  | false =>
    have E := Lib.hid hb
    clear hb
    go_wp2_with fail
    go_ret2
    exact ⟨.inr ⟨E.out, rfl⟩, HB.out⟩
  | true =>
    obtain ⟨hv, n0, n2⟩ := bh_ok hb
    obtain ⟨N, rfl⟩ : ∃ N : Nat, n = (N : Int) := ⟨n.toNat, by omega⟩
    have E := Lib.hid hb
    have KE := Lib.hid (fun V => ends_any r N (by omega) ⟨h24, hv⟩ V)
    clear hb hv n0 n2
    go_wp2_with (refine load_has rfl 42 _ rfl _ rfl ?_ 24 ?_ _ Try.underlying42 rfl ?_ ?_; rotate_left; (· (repeat (first | (with_reducible assumption) | ((with_reducible refine Has.box _ _ ?_ ?_) <;> (first | assumption | decide)) | (with_reducible refine Has.alloc ?_ _) | ((with_reducible refine Has.putOther ?_ _ _ ?_); rotate_left; omega; skip) | ((with_reducible refine Has.below ?_ ?_); rotate_left; assumption)))); (· kernel_rfl))
    refine (KE.out _).mono ?_
    rintro e w2 ⟨⟨g, cap, L, rfl, EL⟩, b2⟩
    replace HB := Lib.hid (HB.out.call b2)
    have ELH := Lib.hid EL
    clear b2 EL
    go_wp2_with fail
    go_ret2
    exact ⟨.inl ⟨E.out, L, rfl, ELH.out.row.nodup, by rw [Int.toNat_natCast]; exact ELH.out.mem⟩, HB.out⟩

set_option maxHeartbeats 400000 in
theorem lawCountEnds (vs : List Int) (n : Int) (w : World) (h0 : vs.length = 24 ∧ ∀ n ∈ vs, (Lit.int .i64 n).wf = true) (fn : (Lit.int .i64 n).wf = true) :
    Calls Try.prog 9 #[row vs, .int .i64 n] w fun e w' => e = .returned (.bool true) ∧ Kept w w' := by
  obtain ⟨h, hw⟩ := h0
  have HB := Lib.hid ((kept_refl w).alloc (.cells (ints vs).toArray 40))
  have H := Has.box w 40 h (by omega)
  have KS := Lib.hid (fun _W => specEnds vs n _W h)
  have KI := Lib.hid (fun _W => implEnds vs n _W h)
  clear hw fn
  rw [row_ints]
  go_enter Try.func9, Try.ntmps9
  go_wp2_with (refine load_has rfl 40 _ rfl _ rfl ?_ 24 ?_ _ Try.underlying40 rfl ?_ ?_; rotate_left; (· (repeat (first | (with_reducible assumption) | ((with_reducible refine Has.box _ _ ?_ ?_) <;> (first | assumption | decide)) | (with_reducible refine Has.alloc ?_ _) | ((with_reducible refine Has.putOther ?_ _ _ ?_); rotate_left; omega; skip) | ((with_reducible refine Has.below ?_ ?_); rotate_left; assumption)))); (· kernel_rfl))
  refine (toRack_any vs _ h).mono ?_
  rintro e w1 ⟨rfl, b1⟩
  have H1 := H.below b1
  have HB1 := Lib.hid (HB.out.call b1)
  clear H HB b1
  go_wp2_with fail
  refine (KS.out _).mono ?_
  rintro e w2 ⟨hs, b2⟩
  have H2 := H1.below b2
  have HB2 := Lib.hid (HB1.out.call b2)
  clear H1 HB1 b2
  rcases hs with ⟨ok, A, rfl, na, ma⟩ | ⟨no, rfl⟩
  · go_wp2_with (refine load_has rfl 40 _ rfl _ rfl ?_ 24 ?_ _ Try.underlying40 rfl ?_ ?_; rotate_left; (· (repeat (first | (with_reducible assumption) | ((with_reducible refine Has.box _ _ ?_ ?_) <;> (first | assumption | decide)) | (with_reducible refine Has.alloc ?_ _) | ((with_reducible refine Has.putOther ?_ _ _ ?_); rotate_left; omega; skip) | ((with_reducible refine Has.below ?_ ?_); rotate_left; assumption)))); (· kernel_rfl))
    refine (toRack_any vs _ h).mono ?_
    rintro e w3 ⟨rfl, b3⟩
    have HB3 := Lib.hid (HB2.out.call b3)
    clear H2 HB2 b3
    go_wp2_with fail
    refine (KI.out _).mono ?_
    rintro e w4 ⟨hi, b4⟩
    have HB4 := Lib.hid (HB3.out.call b4)
    clear HB3 b4
    rcases hi with ⟨_, B, rfl, nb, mb⟩ | ⟨no, _⟩
    · have el : A.length = B.length := len_all na nb (fun x => by rw [ma, mb])
      rw [el]
      clear na ma nb mb el ok
      generalize B.length = z at *
      go_wp2_with fail
      go_ret
      exact ⟨rfl, HB4.out⟩
    · rw [ok] at no; cases no
  · go_wp2_with (refine load_has rfl 40 _ rfl _ rfl ?_ 24 ?_ _ Try.underlying40 rfl ?_ ?_; rotate_left; (· (repeat (first | (with_reducible assumption) | ((with_reducible refine Has.box _ _ ?_ ?_) <;> (first | assumption | decide)) | (with_reducible refine Has.alloc ?_ _) | ((with_reducible refine Has.putOther ?_ _ _ ?_); rotate_left; omega; skip) | ((with_reducible refine Has.below ?_ ?_); rotate_left; assumption)))); (· kernel_rfl))
    refine (toRack_any vs _ h).mono ?_
    rintro e w3 ⟨rfl, b3⟩
    have HB3 := Lib.hid (HB2.out.call b3)
    clear H2 HB2 b3
    go_wp2_with fail
    refine (KI.out _).mono ?_
    rintro e w4 ⟨hi, b4⟩
    have HB4 := Lib.hid (HB3.out.call b4)
    clear HB3 b4
    rcases hi with ⟨ok, B, rfl, nb, mb⟩ | ⟨_, rfl⟩
    · rw [no] at ok; cases ok
    · clear no
      go_wp2_with fail
      go_ret
      exact ⟨rfl, HB4.out⟩
end Go.Proofs.Ytemiljokdedidac.base
