/-
  Racks that one more pour leads to, on the model's side, walked.
-/
/-
  How many racks pours by a rule lead to, on the model's side, walked.
-/
import Derived.Test.YtglhinihhlmgeacRchMZ
import Derived.Test.YtglhinihhlmgeacFillZ
import Derived.Test.YtglhinihhlmgeacByS
import Derived.Test.YtglhinihhlmgeacRwZ
import Derived.Test.YtglhinihhlmgeacEqRZ
import Derived.Deep.Cut
import Derived.Deep.CutRange
import Derived.Test.YtglhinihhlmgeacRbhIZ

section
namespace Go.Proofs.Ytglhinihhlmgeac.base
open Go.ChangeShapes Go.WideShapes Go.ChangeAt Go.RowKit
set_option linter.unusedVariables false
set_option linter.unusedSimpArgs false

theorem mem_takeS (l : List (List Int)) (k : Nat) (x : List Int) (h : k < l.length) : x ∈ l.take (k + 1) ↔ x ∈ l.take k ∨ x = l.getD k [] := by
  rw [List.take_succ_eq_append_getElem h, List.mem_append, List.mem_singleton, List.getD_eq_getElem?_getD, List.getElem?_eq_getElem h]; rfl

set_option maxHeartbeats 6400000 in
set_option maxRecDepth 100000 in
theorem l8Next_any (ds : List Int) (x : Int) (L : List (List Int)) (lv : Value) (w : World) (h6 : ds.length = 6) (hrv : ruleV x = true) (gL : ∀ t ∈ L, GoodR ds t) (hL0 : 0 < L.length) (hL : L.length ≤ 1333) (G : Gr w 0 27 24 lv L) :
    Calls Try.prog 32 #[lv, row ds, .int .i64 x] w fun e w' => ∃ v : Value, e = .returned v ∧ Gr w' w.heap.size 27 24 v (growL ds x L L L.length) ∧ Kept w w' := by
  obtain ⟨g, cap0, hlv, _, hgl⟩ := G.form hL0
  subst hlv
  have XL := Lib.hid (fun z hz => (G.own z hz).2)
  have D0 := (Has.box w 28 h6 (by omega)).alloc (.cells #[] 27)
  have GL0 := (G.alloc (.cells (ints ds).toArray 28)).alloc (.cells #[] 27)
  have GN := Gr.none (w.alloc (.cells (ints ds).toArray 28)) (w.heap.size + 1) 27 24 (by simp)
  rw [size1] at GN
  have KB0 := ((kept_refl w).alloc (.cells (ints ds).toArray 28)).alloc (.cells #[] 27)
  have hiD : (Try.prog.info? 28).map (·.size) = some (ints ds).length := by rw [ints_len, h6]; kernel_rfl
  have HID := Lib.hid hiD
  obtain ⟨N, hN⟩ : ∃ N, L.length = N := ⟨_, rfl⟩
  have HN := Lib.hid hN
  have GI := Lib.hid (show ∀ j u, (ints L.flatten)[j]? = some u → ((w.alloc (.cells (ints ds).toArray 28)).alloc (.cells #[] 27)).cell? ((⟨g, 0, none⟩ : Addr).add j) = some u from gr_items8 GL0)
  have GLL := Lib.hid gL
  have LL := Lib.hid G.lens
  rw [hN] at hL0 hL XL GL0 ⊢
  have GL := Lib.hid GL0
  have H6 := Lib.hid h6
  have hwW : w.heap.size + 1 ≤ ((w.alloc (.cells (ints ds).toArray 28)).alloc (.cells #[] 27)).heap.size := by simp
  have HN' := Lib.hid HN.out
  clear G hN GL0 gL hiD h6 hgl
  rw [row_ints]
  go_enter Try.func32, Try.ntmps32
  go_wp2_with (at_builtin; refine wpList_plain rfl fun K' hK' => ?_; refine wp_append_many8 _ _ 61 rfl (w.heap.size + 1) 27 24 192 Try.underlying61 (by kernel_rfl) (by omega) (by omega) _ 0 [] rfl rfl GN ⟨g, 0, none⟩ N cap0 rfl L HN.out LL.out GI.out hwW (by omega) ?_; intro v1 w1 F1 hg1 hl1; refine hK' _ _ ?_)
  rw [List.nil_append] at F1
  have R0 : Hid (growL ds x L L 0 = L) := Lib.hid rfl
  have GB := Lib.hid (F1.as R0.out.symm)
  have D := D0.grownNo hg1 (fun e => by have e := Option.some.inj (show some w.heap.size = some (w.heap.size + 1) from e); omega)
  replace GL := Lib.hid (GL.out.kept hg1 (fun z hz e => by have e := Option.some.inj (show some (w.heap.size + 1) = some z from e); have := XL.out z hz; omega))
  have KB : Hid (Kept w w1) := Lib.hid (KB0.grown hg1 KB0.size (fun j hj => by have hj := Option.some.inj (show some (w.heap.size + 1) = some j from hj); omega))
  clear F1 hg1 hl1 D0 GN KB0 GI hwW R0
  go_wp2_with fail
  go_loopw [7, 8] (fun v z wr => ∃ i : Nat, i ≤ N ∧ z = .int .i64 i ∧ Has wr w.heap.size ds 6 ∧ Hid (Gr wr 0 27 24 (.slice (some ⟨g, 0, none⟩) N cap0) L) ∧ Hid (Gr wr (w.heap.size + 1) 27 24 v (growL ds x L L i)) ∧ Hid (Kept w wr)) (fun _ z _ => N - (intOf z).toNat)
  case atStart => exact ⟨0, by omega, rfl, D, GL, GB, KB⟩
  case round =>
    clear D GL GB KB
    obtain ⟨i, hi, rfl, D, GL, GB, KB⟩ := hrel
    by_cases hiN : i < N
    · have hii : (i : Int) < (N : Int) := by omega
      have hi0 : (0 : Int) ≤ (i : Int) := by omega
      have hiL : i < L.length := by rw [HN.out]; exact hiN
      have g0 := GLL.out _ (getD_inL hiL)
      have RR := Lib.hid (fun (V : World) (h : Gr V 0 27 24 (.slice (some ⟨g, 0, none⟩) N cap0) L) => h.range HN.out.symm i hiN)
      have EG := Lib.hid (show growL ds x L L (i + 1) = growR ds x (growL ds x L L i) (L.getD i []) (nbN ds x (L.getD i [])) from rfl)
      have gl := growL_len (ds := ds) (x := x) (S := L) (L := L) i
      rw [HN.out] at gl
      obtain ⟨r, hr⟩ : ∃ r, L.getD i [] = r := ⟨_, rfl⟩
      rw [hr] at g0 RR EG
      clear hr hiL
      obtain ⟨Si, hSi⟩ : ∃ Si, growL ds x L L i = Si := ⟨_, rfl⟩
      rw [hSi] at EG GB gl
      have hSu : Si.length ≤ 1333 + 36 * 1333 := by omega
      clear hSi gl
      have r24 := g0.len
      have G0 := Lib.hid g0
      have hi24 : (Try.prog.info? 27).map (·.size) = some (ints r).length := by rw [ints_len, r24]; kernel_rfl
      have HI24 := Lib.hid hi24
      clear g0 hi24
      replace D := D.drew
      replace GL := Lib.hid GL.out.drew
      replace GB := Lib.hid GB.out.drew
      replace KB := Lib.hid (keptDrew8 KB.out)
      go_wp2_with fail
      refine wp_region_held_drew (S := fun w' => Has w' w.heap.size ds 6 ∧ Gr w' 0 27 24 (.slice (some ⟨g, 0, none⟩) N cap0) L) (by kernel_rfl) ⟨D, GL.out⟩ (fun hHeld => ?_)
      generalize World.drew _ = V0 at *
      (refine wpAnyH_take (i := 0) (v := ?_) rfl (by kernel_rfl) (by kernel_rfl) (by kernel_rfl) (fun _ _ _ h => h) (Or.inl ⟨by rfl, ?_⟩) hHeld ?_; rotate_left; (· (intro w' hSw; go_simp; try with_reducible rfl)); (try simp only [List.getElem_toArray, List.getElem_cons_zero, List.getElem_cons_succ, Act.put, List.setIfInBounds_toArray, List.set_cons_zero, List.set_cons_succ])); (refine wpAnyH_take (i := 1) (v := ?_) rfl (by kernel_rfl) (by kernel_rfl) (by kernel_rfl) (fun _ _ _ h => h) (Or.inl ⟨by rfl, ?_⟩) hHeld ?_; rotate_left; (· (intro w' hSw; go_simp; try with_reducible rfl)); (try simp only [List.getElem_toArray, List.getElem_cons_zero, List.getElem_cons_succ, Act.put, List.setIfInBounds_toArray, List.set_cons_zero, List.set_cons_succ])); (refine wpAnyH_take (i := 2) (v := ?_) rfl (by kernel_rfl) (by kernel_rfl) (by kernel_rfl) (fun _ _ _ h => h) (Or.inl ⟨by rfl, ?_⟩) hHeld ?_; rotate_left; (· (intro w' hSw; go_simp; try with_reducible rfl)); (try simp only [List.getElem_toArray, List.getElem_cons_zero, List.getElem_cons_succ, Act.put, List.setIfInBounds_toArray, List.set_cons_zero, List.set_cons_succ]))
      (refine wpAnyH_take (i := 3) (v := _) rfl (by kernel_rfl) (by kernel_rfl) (by kernel_rfl) (fun _ _ _ h => h) (yieldsIf_load_mid (by rfl) 27 _ rfl _ _ rfl (ints r) _ (fun w' hSw => RR.out w' hSw.2) Try.underlying27 rfl (HI24.out)) hHeld ?_; (try simp only [List.getElem_toArray, List.getElem_cons_zero, List.getElem_cons_succ, Act.put, List.setIfInBounds_toArray, List.set_cons_zero, List.set_cons_succ]))
      (refine wpAnyH_take (i := 4) (v := _) rfl (by kernel_rfl) (by kernel_rfl) (by kernel_rfl) (fun _ _ _ h => h) (yieldsIf_load_mid (by rfl) 28 _ rfl _ _ rfl (ints ds) _ (fun w' hSw => hSw.1.holds.range) Try.underlying28 rfl (HID.out)) hHeld ?_; (try simp only [List.getElem_toArray, List.getElem_cons_zero, List.getElem_cons_succ, Act.put, List.setIfInBounds_toArray, List.set_cons_zero, List.set_cons_succ]))
      (refine wpAnyH_take (i := 5) (v := ?_) rfl (by kernel_rfl) (by kernel_rfl) (by kernel_rfl) (fun _ _ _ h => h) (Or.inl ⟨by rfl, ?_⟩) hHeld ?_; rotate_left; (· (intro w' hSw; go_simp; try with_reducible rfl)); (try simp only [List.getElem_toArray, List.getElem_cons_zero, List.getElem_cons_succ, Act.put, List.setIfInBounds_toArray, List.set_cons_zero, List.set_cons_succ]))
      (refine wpAnyH_ready (rs := [6]) (by kernel_rfl) (by simp) ?_; refine AllReadyH.cons (o := _) rfl (fun K hK => ?_) AllReadyH.nil; (simp only [List.getElem_toArray, List.getElem_cons_zero, List.getElem_cons_succ, Region.wanted, if_true]))
      go_simp
      refine (l8Pours_any r ds x _ r24 H6.out G0.out.fit hrv).mono ?_
      rintro e w5 ⟨pv, rfl, q5, b5⟩
      dsimp only
      (try simp only [List.getElem_toArray, List.getElem_cons_zero, List.getElem_cons_succ, Act.put, List.setIfInBounds_toArray, List.set_cons_zero, List.set_cons_succ])
      refine hK.out _ _ ⟨hHeld.1.below b5, hHeld.2.below b5⟩ (fun hHeld => ?_)
      clear hK K
      have OB := Lib.hid (fun z hz => (GB.out.own z hz).2)
      have hn36 := pN_le (byP r ds x) 36
      have NB := Lib.hid (fun j hj => nb_at (x := x) (j := j) G0.out hj)
      have EN : pN (byP r ds x) 36 = nbN ds x r := rfl
      rw [EN] at q5 hn36
      clear EN
      obtain ⟨F, hF⟩ : ∃ F, pF (byP r ds x) 36 = F := ⟨_, rfl⟩
      rw [hF] at q5 NB
      clear hF
      obtain ⟨n, hnn⟩ : ∃ n, nbN ds x r = n := ⟨_, rfl⟩
      rw [hnn] at q5 hn36 NB EG
      have HNN := Lib.hid hnn
      clear hnn
      obtain ⟨pa, pcap, hpv⟩ := q5.rw.shape
      subst hpv
      have hgs := KB.out.size
      have GP := Lib.hid (q5.rw.mono (b' := w.heap.size) hgs)
      have KN : Hid (0 < n → ∀ z, u7.ownBlock = some z → (Value.slice pa n pcap).ownBlock ≠ some z) := Lib.hid (fun hn z hz e => by
        have h1 := OB.out z hz
        have h2 := (q5.rw.ownlt hn z e).1
        omega)
      replace D := D.below b5
      replace GL := Lib.hid (GL.out.below b5)
      replace GB := Lib.hid (GB.out.below b5)
      replace KB := Lib.hid (KB.out.call b5)
      clear b5 q5 OB hgs
      (refine wpAnyH_take (i := 7) (v := ?_) rfl (by kernel_rfl) (by kernel_rfl) (by kernel_rfl) (fun _ _ _ h => h) (Or.inl ⟨by rfl, ?_⟩) hHeld ?_; rotate_left; (· (intro w' hSw; go_simp; try with_reducible rfl)); (try simp only [List.getElem_toArray, List.getElem_cons_zero, List.getElem_cons_succ, Act.put, List.setIfInBounds_toArray, List.set_cons_zero, List.set_cons_succ]))
      refine wpAnyH_done (by kernel_rfl) ?_ _
      clear hHeld
      have R0 : Hid (growR ds x Si r 0 = Si) := Lib.hid rfl
      rw [← R0.out] at GB
      go_wp2_with fail
      go_loopw [7, 10] (fun v z wx => ∃ j : Nat, j ≤ n ∧ z = .int .i64 j ∧ Has wx w.heap.size ds 6 ∧ Hid (Gr wx 0 27 24 (.slice (some ⟨g, 0, none⟩) N cap0) L) ∧ Hid (Gr wx (w.heap.size + 1) 27 24 v (growR ds x Si r j)) ∧ Hid (Rw wx w.heap.size (.slice pa n pcap) n F) ∧ Hid (Kept w wx) ∧ Hid (0 < n → ∀ z, v.ownBlock = some z → (Value.slice pa n pcap).ownBlock ≠ some z)) (fun _ z _ => n - (intOf z).toNat)
      case atStart => exact ⟨0, by omega, rfl, D, GL, GB, GP, KB, KN⟩
      case round =>
        clear D GL GB GP KB KN R0
        obtain ⟨j, hj, rfl, D, GL, GB, GP, KB, KN⟩ := hrel
        by_cases hjn : j < n
        · have hji : (j : Int) < (n : Int) := by omega
          have hj0 : (0 : Int) ≤ (j : Int) := by omega
          have hn0 : 0 < n := by omega
          obtain ⟨pg, pc2, hv', hg1, hg2⟩ := GP.out.form (by omega)
          injection hv' with ha _ hcap
          subst ha
          subst hcap
          obtain ⟨hp6, hq6, hpos, hx, hy⟩ := NB.out j hjn
          have GT := Lib.hid (nb_good (x := x) (j := j) G0.out (by rw [HNN.out]; exact hjn))
          have ES := Lib.hid (show growR ds x Si r (j + 1) = insL (growR ds x Si r j) (nbAt r ds x j) from rfl)
          have ET := Lib.hid (show nbAt r ds x j = moveT r (pAt r ds x j) (qAt r ds x j) (mvN r ds x (pAt r ds x j) (qAt r ds x j)) from rfl)
          have gr := growR_len (ds := ds) (x := x) (S := Si) (r := r) j
          obtain ⟨p, hpe⟩ : ∃ p, pAt r ds x j = p := ⟨_, rfl⟩
          obtain ⟨q, hqe⟩ : ∃ q, qAt r ds x j = q := ⟨_, rfl⟩
          rw [hpe, hqe] at hpos ET
          rw [hpe] at hp6 hx
          rw [hqe] at hq6 hy
          clear hpe hqe
          have MO := mv_moveOk r24 (G0.out.fit) hp6 hq6 hpos
          have hm4 := MO.hm
          have KM := Lib.hid (fun V => l8Move_any r p q (mvN r ds x p q) V MO (mvN_le r ds x p q))
          have KV := Lib.hid (fun V => l8Moves_any r ds x p q V r24 H6.out G0.out.fit hrv hp6 hq6)
          obtain ⟨m, hm⟩ : ∃ m, mvN r ds x p q = m := ⟨_, rfl⟩
          rw [hm] at KM KV ET hm4
          have hml4 : lay (tub r p) ≤ 4 := (tubeFacts (tub_len r p r24 hp6) (vR_tub (fit_of G0.out.fit).1 p hp6)).lay4
          clear hm MO hpos
          obtain ⟨t, ht⟩ : ∃ t, nbAt r ds x j = t := ⟨_, rfl⟩
          rw [ht] at GT ES ET
          rw [← ET.out] at KM
          have t24 := GT.out.len
          clear ht ET
          obtain ⟨Sj, hSj⟩ : ∃ Sj, growR ds x Si r j = Sj := ⟨_, rfl⟩
          rw [hSj] at ES GB gr
          have hSj2 : Sj.length ≤ 100000 - 10 := by omega
          clear hSj gr
          have hpi : (p : Int) < 6 := by omega
          have hqi : (q : Int) < 6 := by omega
          have HX := Lib.hid hx
          have HY := Lib.hid hy
          have NG : Hid (∀ z, u7.ownBlock = some z → z ≠ pg) := Lib.hid (fun z hz e => KN.out hn0 z hz (by rw [e]; rfl))
          clear hx hy hg1 hg2 KN
          replace D := D.drew
          replace GL := Lib.hid GL.out.drew
          replace GB := Lib.hid GB.out.drew
          replace GP := Lib.hid GP.out.drew
          replace KB := Lib.hid (keptDrew8 KB.out)
          have hit : (Try.prog.info? 27).map (·.size) = some (ints t).length := by rw [ints_len, t24]; kernel_rfl
          have HIT := Lib.hid hit
          have lt3 : (ints t).length = 24 := by rw [ints_len]; exact t24
          clear hit
          go_wp2_with fail
          refine wp_region_held_drew (S := fun w' => Rw w' w.heap.size (.slice (some ⟨pg, 0, none⟩) n pcap) n F) (by kernel_rfl) GP.out (fun hHeld => ?_)
          generalize World.drew _ = V1 at *
          (refine wpAnyH_take (i := 0) (v := ?_) rfl (by kernel_rfl) (by kernel_rfl) (by kernel_rfl) (fun _ _ _ h => h) (Or.inl ⟨by rfl, ?_⟩) hHeld ?_; rotate_left; (· (intro w' hSw; go_simp; try with_reducible rfl)); (try simp only [List.getElem_toArray, List.getElem_cons_zero, List.getElem_cons_succ, Act.put, List.setIfInBounds_toArray, List.set_cons_zero, List.set_cons_succ])); (refine wpAnyH_take (i := 1) (v := ?_) rfl (by kernel_rfl) (by kernel_rfl) (by kernel_rfl) (fun _ _ _ h => h) (Or.inl ⟨by rfl, ?_⟩) hHeld ?_; rotate_left; (· (intro w' hSw; go_simp; try with_reducible rfl)); (try simp only [List.getElem_toArray, List.getElem_cons_zero, List.getElem_cons_succ, Act.put, List.setIfInBounds_toArray, List.set_cons_zero, List.set_cons_succ])); (refine wpAnyH_take (i := 2) (v := ?_) rfl (by kernel_rfl) (by kernel_rfl) (by kernel_rfl) (fun _ _ _ h => h) (Or.inl ⟨by rfl, ?_⟩) hHeld ?_; rotate_left; (· (intro w' hSw; go_simp; try with_reducible rfl)); (try simp only [List.getElem_toArray, List.getElem_cons_zero, List.getElem_cons_succ, Act.put, List.setIfInBounds_toArray, List.set_cons_zero, List.set_cons_succ])); (refine wpAnyH_take (i := 3) (v := ?_) rfl (by kernel_rfl) (by kernel_rfl) (by kernel_rfl) (fun _ _ _ h => h) (Or.inl ⟨by rfl, ?_⟩) hHeld ?_; rotate_left; (· (intro w' hSw; go_simp; try with_reducible rfl)); (try simp only [List.getElem_toArray, List.getElem_cons_zero, List.getElem_cons_succ, Act.put, List.setIfInBounds_toArray, List.set_cons_zero, List.set_cons_succ]))
          (refine wpAnyH_take (i := 4) (v := .int .i64 (p : Int)) rfl (by kernel_rfl) (by kernel_rfl) (by kernel_rfl) (fun _ _ _ h => h) (Or.inl ⟨by rfl, ?_⟩) hHeld ?_; (· (intro w' hSw; have q := hSw.cellX (by omega) HX.out; clear hSw; go_simp; try with_reducible rfl)); (try simp only [List.getElem_toArray, List.getElem_cons_zero, List.getElem_cons_succ, Act.put, List.setIfInBounds_toArray, List.set_cons_zero, List.set_cons_succ]))
          (refine wpAnyH_take (i := 5) (v := ?_) rfl (by kernel_rfl) (by kernel_rfl) (by kernel_rfl) (fun _ _ _ h => h) (Or.inl ⟨by rfl, ?_⟩) hHeld ?_; rotate_left; (· (intro w' hSw; go_simp; try with_reducible rfl)); (try simp only [List.getElem_toArray, List.getElem_cons_zero, List.getElem_cons_succ, Act.put, List.setIfInBounds_toArray, List.set_cons_zero, List.set_cons_succ])); (refine wpAnyH_take (i := 6) (v := ?_) rfl (by kernel_rfl) (by kernel_rfl) (by kernel_rfl) (fun _ _ _ h => h) (Or.inl ⟨by rfl, ?_⟩) hHeld ?_; rotate_left; (· (intro w' hSw; go_simp; try with_reducible rfl)); (try simp only [List.getElem_toArray, List.getElem_cons_zero, List.getElem_cons_succ, Act.put, List.setIfInBounds_toArray, List.set_cons_zero, List.set_cons_succ])); (refine wpAnyH_take (i := 7) (v := ?_) rfl (by kernel_rfl) (by kernel_rfl) (by kernel_rfl) (fun _ _ _ h => h) (Or.inl ⟨by rfl, ?_⟩) hHeld ?_; rotate_left; (· (intro w' hSw; go_simp; try with_reducible rfl)); (try simp only [List.getElem_toArray, List.getElem_cons_zero, List.getElem_cons_succ, Act.put, List.setIfInBounds_toArray, List.set_cons_zero, List.set_cons_succ])); (refine wpAnyH_take (i := 8) (v := ?_) rfl (by kernel_rfl) (by kernel_rfl) (by kernel_rfl) (fun _ _ _ h => h) (Or.inl ⟨by rfl, ?_⟩) hHeld ?_; rotate_left; (· (intro w' hSw; go_simp; try with_reducible rfl)); (try simp only [List.getElem_toArray, List.getElem_cons_zero, List.getElem_cons_succ, Act.put, List.setIfInBounds_toArray, List.set_cons_zero, List.set_cons_succ]))
          (refine wpAnyH_take (i := 9) (v := .int .i64 (q : Int)) rfl (by kernel_rfl) (by kernel_rfl) (by kernel_rfl) (fun _ _ _ h => h) (Or.inl ⟨by rfl, ?_⟩) hHeld ?_; (· (intro w' hSw; have q := hSw.cellX (by omega) HY.out; clear hSw; go_simp; try with_reducible rfl)); (try simp only [List.getElem_toArray, List.getElem_cons_zero, List.getElem_cons_succ, Act.put, List.setIfInBounds_toArray, List.set_cons_zero, List.set_cons_succ]))
          (refine wpAnyH_take (i := 10) (v := ?_) rfl (by kernel_rfl) (by kernel_rfl) (by kernel_rfl) (fun _ _ _ h => h) (Or.inl ⟨by rfl, ?_⟩) hHeld ?_; rotate_left; (· (intro w' hSw; go_simp; try with_reducible rfl)); (try simp only [List.getElem_toArray, List.getElem_cons_zero, List.getElem_cons_succ, Act.put, List.setIfInBounds_toArray, List.set_cons_zero, List.set_cons_succ])); (refine wpAnyH_take (i := 11) (v := ?_) rfl (by kernel_rfl) (by kernel_rfl) (by kernel_rfl) (fun _ _ _ h => h) (Or.inl ⟨by rfl, ?_⟩) hHeld ?_; rotate_left; (· (intro w' hSw; go_simp; try with_reducible rfl)); (try simp only [List.getElem_toArray, List.getElem_cons_zero, List.getElem_cons_succ, Act.put, List.setIfInBounds_toArray, List.set_cons_zero, List.set_cons_succ]))
          refine wpAnyH_done (by kernel_rfl) ?_ _
          clear hHeld HX HY
          go_wp2_with fail
          go_cut [13, 14] from 48 to 63 (fun s13 s14 wx => ∃ cc : Nat, s13 = .pointer (some ⟨cc, 0, none⟩) ∧ s14 = .bool false ∧ Has wx cc t 24 ∧ Hid (w.heap.size ≤ cc) ∧ Has wx w.heap.size ds 6 ∧ Hid (Gr wx 0 27 24 (.slice (some ⟨g, 0, none⟩) N cap0) L) ∧ Hid (Gr wx (w.heap.size + 1) 27 24 u7 Sj) ∧ Hid (Rw wx w.heap.size (.slice (some ⟨pg, 0, none⟩) n pcap) n F) ∧ Hid (∀ z, u7.ownBlock = some z → z ≠ cc) ∧ Hid (Kept w wx))
          case first =>
            replace D := D.drew
            replace GL := Lib.hid GL.out.drew
            replace GB := Lib.hid GB.out.drew
            replace GP := Lib.hid GP.out.drew
            replace KB := Lib.hid (keptDrew8 KB.out)
            refine wp_region_held_drew (S := fun w' => Has w' w.heap.size ds 6 ∧ Gr w' 0 27 24 (.slice (some ⟨g, 0, none⟩) N cap0) L) (by kernel_rfl) ⟨D, GL.out⟩ (fun hHeld => ?_)
            generalize V1.drew = V2 at *
            have hr24 := r24
            (refine wpAnyH_take (i := 0) (v := ?_) rfl (by kernel_rfl) (by kernel_rfl) (by kernel_rfl) (fun _ _ _ h => h) (Or.inl ⟨by rfl, ?_⟩) hHeld ?_; rotate_left; (· (intro w' hSw; go_simp; try with_reducible rfl)); (try simp only [List.getElem_toArray, List.getElem_cons_zero, List.getElem_cons_succ, Act.put, List.setIfInBounds_toArray, List.set_cons_zero, List.set_cons_succ])); (refine wpAnyH_take (i := 1) (v := ?_) rfl (by kernel_rfl) (by kernel_rfl) (by kernel_rfl) (fun _ _ _ h => h) (Or.inl ⟨by rfl, ?_⟩) hHeld ?_; rotate_left; (· (intro w' hSw; go_simp; try with_reducible rfl)); (try simp only [List.getElem_toArray, List.getElem_cons_zero, List.getElem_cons_succ, Act.put, List.setIfInBounds_toArray, List.set_cons_zero, List.set_cons_succ])); (refine wpAnyH_take (i := 2) (v := ?_) rfl (by kernel_rfl) (by kernel_rfl) (by kernel_rfl) (fun _ _ _ h => h) (Or.inl ⟨by rfl, ?_⟩) hHeld ?_; rotate_left; (· (intro w' hSw; go_simp; try with_reducible rfl)); (try simp only [List.getElem_toArray, List.getElem_cons_zero, List.getElem_cons_succ, Act.put, List.setIfInBounds_toArray, List.set_cons_zero, List.set_cons_succ]))
            (refine wpAnyH_take (i := 3) (v := _) rfl (by kernel_rfl) (by kernel_rfl) (by kernel_rfl) (fun _ _ _ h => h) (yieldsIf_load_mid (by rfl) 27 _ rfl _ _ rfl (ints r) _ (fun w' hSw => RR.out w' hSw.2) Try.underlying27 rfl (HI24.out)) hHeld ?_; (try simp only [List.getElem_toArray, List.getElem_cons_zero, List.getElem_cons_succ, Act.put, List.setIfInBounds_toArray, List.set_cons_zero, List.set_cons_succ]))
            (refine wpAnyH_take (i := 4) (v := ?_) rfl (by kernel_rfl) (by kernel_rfl) (by kernel_rfl) (fun _ _ _ h => h) (Or.inl ⟨by rfl, ?_⟩) hHeld ?_; rotate_left; (· (intro w' hSw; go_simp; try with_reducible rfl)); (try simp only [List.getElem_toArray, List.getElem_cons_zero, List.getElem_cons_succ, Act.put, List.setIfInBounds_toArray, List.set_cons_zero, List.set_cons_succ])); (refine wpAnyH_take (i := 5) (v := ?_) rfl (by kernel_rfl) (by kernel_rfl) (by kernel_rfl) (fun _ _ _ h => h) (Or.inl ⟨by rfl, ?_⟩) hHeld ?_; rotate_left; (· (intro w' hSw; go_simp; try with_reducible rfl)); (try simp only [List.getElem_toArray, List.getElem_cons_zero, List.getElem_cons_succ, Act.put, List.setIfInBounds_toArray, List.set_cons_zero, List.set_cons_succ])); (refine wpAnyH_take (i := 6) (v := ?_) rfl (by kernel_rfl) (by kernel_rfl) (by kernel_rfl) (fun _ _ _ h => h) (Or.inl ⟨by rfl, ?_⟩) hHeld ?_; rotate_left; (· (intro w' hSw; go_simp; try with_reducible rfl)); (try simp only [List.getElem_toArray, List.getElem_cons_zero, List.getElem_cons_succ, Act.put, List.setIfInBounds_toArray, List.set_cons_zero, List.set_cons_succ])); (refine wpAnyH_take (i := 7) (v := ?_) rfl (by kernel_rfl) (by kernel_rfl) (by kernel_rfl) (fun _ _ _ h => h) (Or.inl ⟨by rfl, ?_⟩) hHeld ?_; rotate_left; (· (intro w' hSw; go_simp; try with_reducible rfl)); (try simp only [List.getElem_toArray, List.getElem_cons_zero, List.getElem_cons_succ, Act.put, List.setIfInBounds_toArray, List.set_cons_zero, List.set_cons_succ])); (refine wpAnyH_take (i := 8) (v := ?_) rfl (by kernel_rfl) (by kernel_rfl) (by kernel_rfl) (fun _ _ _ h => h) (Or.inl ⟨by rfl, ?_⟩) hHeld ?_; rotate_left; (· (intro w' hSw; go_simp; try with_reducible rfl)); (try simp only [List.getElem_toArray, List.getElem_cons_zero, List.getElem_cons_succ, Act.put, List.setIfInBounds_toArray, List.set_cons_zero, List.set_cons_succ]))
            (refine wpAnyH_take (i := 9) (v := _) rfl (by kernel_rfl) (by kernel_rfl) (by kernel_rfl) (fun _ _ _ h => h) (yieldsIf_load_mid (by rfl) 27 _ rfl _ _ rfl (ints r) _ (fun w' hSw => RR.out w' hSw.2) Try.underlying27 rfl (HI24.out)) hHeld ?_; (try simp only [List.getElem_toArray, List.getElem_cons_zero, List.getElem_cons_succ, Act.put, List.setIfInBounds_toArray, List.set_cons_zero, List.set_cons_succ]))
            (refine wpAnyH_take (i := 10) (v := _) rfl (by kernel_rfl) (by kernel_rfl) (by kernel_rfl) (fun _ _ _ h => h) (yieldsIf_load_mid (by rfl) 28 _ rfl _ _ rfl (ints ds) _ (fun w' hSw => hSw.1.holds.range) Try.underlying28 rfl (HID.out)) hHeld ?_; (try simp only [List.getElem_toArray, List.getElem_cons_zero, List.getElem_cons_succ, Act.put, List.setIfInBounds_toArray, List.set_cons_zero, List.set_cons_succ]))
            (refine wpAnyH_take (i := 11) (v := ?_) rfl (by kernel_rfl) (by kernel_rfl) (by kernel_rfl) (fun _ _ _ h => h) (Or.inl ⟨by rfl, ?_⟩) hHeld ?_; rotate_left; (· (intro w' hSw; go_simp; try with_reducible rfl)); (try simp only [List.getElem_toArray, List.getElem_cons_zero, List.getElem_cons_succ, Act.put, List.setIfInBounds_toArray, List.set_cons_zero, List.set_cons_succ])); (refine wpAnyH_take (i := 12) (v := ?_) rfl (by kernel_rfl) (by kernel_rfl) (by kernel_rfl) (fun _ _ _ h => h) (Or.inl ⟨by rfl, ?_⟩) hHeld ?_; rotate_left; (· (intro w' hSw; go_simp; try with_reducible rfl)); (try simp only [List.getElem_toArray, List.getElem_cons_zero, List.getElem_cons_succ, Act.put, List.setIfInBounds_toArray, List.set_cons_zero, List.set_cons_succ])); (refine wpAnyH_take (i := 13) (v := ?_) rfl (by kernel_rfl) (by kernel_rfl) (by kernel_rfl) (fun _ _ _ h => h) (Or.inl ⟨by rfl, ?_⟩) hHeld ?_; rotate_left; (· (intro w' hSw; go_simp; try with_reducible rfl)); (try simp only [List.getElem_toArray, List.getElem_cons_zero, List.getElem_cons_succ, Act.put, List.setIfInBounds_toArray, List.set_cons_zero, List.set_cons_succ]))
            refine wpAnyH_ready (rs := [14, 16]) (by kernel_rfl) (by simp) ?_
            refine AllReadyH.cons (o := _) rfl (fun K hK => ?_) (AllReadyH.cons (o := _) rfl (fun K hK => ?_) AllReadyH.nil)
            · (simp only [List.getElem_toArray, List.getElem_cons_zero, List.getElem_cons_succ, Region.wanted, if_true])
              go_simp
              refine (KV.out _).mono ?_
              rintro e wc1 ⟨rfl, bc1⟩
              dsimp only
              (try simp only [List.getElem_toArray, List.getElem_cons_zero, List.getElem_cons_succ, Act.put, List.setIfInBounds_toArray, List.set_cons_zero, List.set_cons_succ])
              refine hK.out _ _ ⟨hHeld.1.below bc1, hHeld.2.below bc1⟩ (fun hHeld => ?_)
              clear hK K
              replace D := D.below bc1
              replace GL := Lib.hid (GL.out.below bc1)
              replace GB := Lib.hid (GB.out.below bc1)
              replace GP := Lib.hid (GP.out.below bc1)
              replace KB := Lib.hid (KB.out.call bc1)
              clear bc1
              refine wpAnyH_ready (rs := [15, 16]) (by kernel_rfl) (by simp) ?_
              refine AllReadyH.cons (o := _) rfl (fun K hK => ?_) (AllReadyH.cons (o := _) rfl (fun K hK => ?_) AllReadyH.nil)
              · (simp only [List.getElem_toArray, List.getElem_cons_zero, List.getElem_cons_succ, Region.wanted, if_true])
                go_simp
                refine (KM.out _).mono ?_
                rintro e wc2 ⟨rfl, bc2⟩
                dsimp only
                (try simp only [List.getElem_toArray, List.getElem_cons_zero, List.getElem_cons_succ, Act.put, List.setIfInBounds_toArray, List.set_cons_zero, List.set_cons_succ])
                refine hK.out _ _ ⟨hHeld.1.below bc2, hHeld.2.below bc2⟩ (fun hHeld => ?_)
                clear hK K
                replace D := D.below bc2
                replace GL := Lib.hid (GL.out.below bc2)
                replace GB := Lib.hid (GB.out.below bc2)
                replace GP := Lib.hid (GP.out.below bc2)
                replace KB := Lib.hid (KB.out.call bc2)
                clear bc2
                (refine wpAnyH_ready (rs := [16]) (by kernel_rfl) (by simp) ?_; refine AllReadyH.cons (o := _) rfl (fun K hK => ?_) AllReadyH.nil; (simp only [List.getElem_toArray, List.getElem_cons_zero, List.getElem_cons_succ, Region.wanted, if_true]))
                go_simp
                refine hK.out _ _ ⟨hHeld.1.alloc _, hHeld.2.alloc _⟩ (fun hHeld => ?_)
                clear hK K
                have ltD := D.lt
                have ltG := KB.out.size
                have nL := Lib.hid (fun z hz => (GL.out.own z hz).2)
                have nB := Lib.hid (fun z hz => (GB.out.own z hz).2)
                have nP := Lib.hid (fun hn z hz => (GP.out.ownlt hn z hz).2)
                have nPg := (GP.out.lt hn0).2
                have nPw := (GP.out.lt hn0).1
                have Z : Has (wc2.alloc (.cells #[.int .i64 0, .int .i64 0, .int .i64 0, .int .i64 0, .int .i64 0, .int .i64 0, .int .i64 0, .int .i64 0, .int .i64 0, .int .i64 0, .int .i64 0, .int .i64 0, .int .i64 0, .int .i64 0, .int .i64 0, .int .i64 0, .int .i64 0, .int .i64 0, .int .i64 0, .int .i64 0, .int .i64 0, .int .i64 0, .int .i64 0, .int .i64 0] 27)) wc2.heap.size z24 24 := Has.box (ns := z24) wc2 27 rfl (by omega)
                replace D := D.alloc (.cells #[.int .i64 0, .int .i64 0, .int .i64 0, .int .i64 0, .int .i64 0, .int .i64 0, .int .i64 0, .int .i64 0, .int .i64 0, .int .i64 0, .int .i64 0, .int .i64 0, .int .i64 0, .int .i64 0, .int .i64 0, .int .i64 0, .int .i64 0, .int .i64 0, .int .i64 0, .int .i64 0, .int .i64 0, .int .i64 0, .int .i64 0, .int .i64 0] 27)
                replace GL := Lib.hid (GL.out.alloc (.cells #[.int .i64 0, .int .i64 0, .int .i64 0, .int .i64 0, .int .i64 0, .int .i64 0, .int .i64 0, .int .i64 0, .int .i64 0, .int .i64 0, .int .i64 0, .int .i64 0, .int .i64 0, .int .i64 0, .int .i64 0, .int .i64 0, .int .i64 0, .int .i64 0, .int .i64 0, .int .i64 0, .int .i64 0, .int .i64 0, .int .i64 0, .int .i64 0] 27))
                replace GB := Lib.hid (GB.out.alloc (.cells #[.int .i64 0, .int .i64 0, .int .i64 0, .int .i64 0, .int .i64 0, .int .i64 0, .int .i64 0, .int .i64 0, .int .i64 0, .int .i64 0, .int .i64 0, .int .i64 0, .int .i64 0, .int .i64 0, .int .i64 0, .int .i64 0, .int .i64 0, .int .i64 0, .int .i64 0, .int .i64 0, .int .i64 0, .int .i64 0, .int .i64 0, .int .i64 0] 27))
                replace GP := Lib.hid (GP.out.alloc (.cells #[.int .i64 0, .int .i64 0, .int .i64 0, .int .i64 0, .int .i64 0, .int .i64 0, .int .i64 0, .int .i64 0, .int .i64 0, .int .i64 0, .int .i64 0, .int .i64 0, .int .i64 0, .int .i64 0, .int .i64 0, .int .i64 0, .int .i64 0, .int .i64 0, .int .i64 0, .int .i64 0, .int .i64 0, .int .i64 0, .int .i64 0, .int .i64 0] 27))
                replace KB := Lib.hid (KB.out.alloc (.cells #[.int .i64 0, .int .i64 0, .int .i64 0, .int .i64 0, .int .i64 0, .int .i64 0, .int .i64 0, .int .i64 0, .int .i64 0, .int .i64 0, .int .i64 0, .int .i64 0, .int .i64 0, .int .i64 0, .int .i64 0, .int .i64 0, .int .i64 0, .int .i64 0, .int .i64 0, .int .i64 0, .int .i64 0, .int .i64 0, .int .i64 0, .int .i64 0] 27))
                generalize hcc : wc2.heap.size = cc at *
                clear hcc
                generalize wc2.alloc (.cells #[.int .i64 0, .int .i64 0, .int .i64 0, .int .i64 0, .int .i64 0, .int .i64 0, .int .i64 0, .int .i64 0, .int .i64 0, .int .i64 0, .int .i64 0, .int .i64 0, .int .i64 0, .int .i64 0, .int .i64 0, .int .i64 0, .int .i64 0, .int .i64 0, .int .i64 0, .int .i64 0, .int .i64 0, .int .i64 0, .int .i64 0, .int .i64 0] 27) = WA3 at *
                have nLc : ∀ z, (Value.slice (some ⟨g, 0, none⟩) N cap0).ownBlock = some z → z ≠ cc := fun z hz => by
                  have := nL.out z hz
                  omega
                (refine wpAnyH_ready (rs := [17]) (by kernel_rfl) (by simp) ?_; refine AllReadyH.cons (o := _) rfl (fun K hK => ?_) AllReadyH.nil; (simp only [List.getElem_toArray, List.getElem_cons_zero, List.getElem_cons_succ, Region.wanted, if_true]); refine wp_store_mid _ _ _ rfl _ _ (ints t).toArray rfl rfl (by simpa [lt3] using Z.there) (by simpa [lt3] using HIT.out) (all_oneCell_toArray (ints_one _)) ?_; (try simp only [List.getElem_toArray, List.getElem_cons_zero, List.getElem_cons_succ, Act.put, List.setIfInBounds_toArray, List.set_cons_zero, List.set_cons_succ, List.toList_toArray]); refine hK.out _ _ (⟨hHeld.1.putOther _ _ (by omega), hHeld.2.puts _ _ _ nLc⟩) (fun hHeld => ?_); clear hK K)
                (refine wpAnyH_take (i := 18) (v := ?_) rfl (by kernel_rfl) (by kernel_rfl) (by kernel_rfl) (fun _ _ _ h => h) (Or.inl ⟨by rfl, ?_⟩) hHeld ?_; rotate_left; (· (intro w' hSw; go_simp; try with_reducible rfl)); (try simp only [List.getElem_toArray, List.getElem_cons_zero, List.getElem_cons_succ, Act.put, List.setIfInBounds_toArray, List.set_cons_zero, List.set_cons_succ]))
                refine wpAnyH_done (by kernel_rfl) ?_ _
                have HT := Z.putAll t t24
                replace D := D.putOther (b' := cc) 0 (ints t) (by omega)
                replace GL := Lib.hid (GL.out.puts cc 0 (ints t) (fun z hz => by have := nL.out z hz; omega))
                replace GB := Lib.hid (GB.out.puts cc 0 (ints t) (fun z hz => by have := nB.out z hz; omega))
                replace GP := Lib.hid (GP.out.puts cc 0 (ints t) (fun hn e => by have := nP.out hn cc e; omega))
                replace KB := Lib.hid (KB.out.puts (b := cc) (by omega) 0 (ints t))
                have NC : Hid (∀ z, u7.ownBlock = some z → z ≠ cc) := Lib.hid (fun z hz => by have := nB.out z hz; omega)
                clear hHeld Z nL nB nP
                go_wp2_with fail
                go_meet
                case rel => exact ⟨cc, rfl, rfl, HT, Lib.hid (by omega), D, GL, GB, GP, NC, KB⟩
              · (simp only [List.getElem_toArray, List.getElem_cons_zero, List.getElem_cons_succ, Region.wanted, if_true])
                go_simp
                refine hK.out _ _ ⟨hHeld.1.alloc _, hHeld.2.alloc _⟩ (fun hHeld => ?_)
                clear hK K
                have ltD := D.lt
                have ltG := KB.out.size
                have nL := Lib.hid (fun z hz => (GL.out.own z hz).2)
                have nB := Lib.hid (fun z hz => (GB.out.own z hz).2)
                have nP := Lib.hid (fun hn z hz => (GP.out.ownlt hn z hz).2)
                have nPg := (GP.out.lt hn0).2
                have nPw := (GP.out.lt hn0).1
                have Z : Has (wc1.alloc (.cells #[.int .i64 0, .int .i64 0, .int .i64 0, .int .i64 0, .int .i64 0, .int .i64 0, .int .i64 0, .int .i64 0, .int .i64 0, .int .i64 0, .int .i64 0, .int .i64 0, .int .i64 0, .int .i64 0, .int .i64 0, .int .i64 0, .int .i64 0, .int .i64 0, .int .i64 0, .int .i64 0, .int .i64 0, .int .i64 0, .int .i64 0, .int .i64 0] 27)) wc1.heap.size z24 24 := Has.box (ns := z24) wc1 27 rfl (by omega)
                replace D := D.alloc (.cells #[.int .i64 0, .int .i64 0, .int .i64 0, .int .i64 0, .int .i64 0, .int .i64 0, .int .i64 0, .int .i64 0, .int .i64 0, .int .i64 0, .int .i64 0, .int .i64 0, .int .i64 0, .int .i64 0, .int .i64 0, .int .i64 0, .int .i64 0, .int .i64 0, .int .i64 0, .int .i64 0, .int .i64 0, .int .i64 0, .int .i64 0, .int .i64 0] 27)
                replace GL := Lib.hid (GL.out.alloc (.cells #[.int .i64 0, .int .i64 0, .int .i64 0, .int .i64 0, .int .i64 0, .int .i64 0, .int .i64 0, .int .i64 0, .int .i64 0, .int .i64 0, .int .i64 0, .int .i64 0, .int .i64 0, .int .i64 0, .int .i64 0, .int .i64 0, .int .i64 0, .int .i64 0, .int .i64 0, .int .i64 0, .int .i64 0, .int .i64 0, .int .i64 0, .int .i64 0] 27))
                replace GB := Lib.hid (GB.out.alloc (.cells #[.int .i64 0, .int .i64 0, .int .i64 0, .int .i64 0, .int .i64 0, .int .i64 0, .int .i64 0, .int .i64 0, .int .i64 0, .int .i64 0, .int .i64 0, .int .i64 0, .int .i64 0, .int .i64 0, .int .i64 0, .int .i64 0, .int .i64 0, .int .i64 0, .int .i64 0, .int .i64 0, .int .i64 0, .int .i64 0, .int .i64 0, .int .i64 0] 27))
                replace GP := Lib.hid (GP.out.alloc (.cells #[.int .i64 0, .int .i64 0, .int .i64 0, .int .i64 0, .int .i64 0, .int .i64 0, .int .i64 0, .int .i64 0, .int .i64 0, .int .i64 0, .int .i64 0, .int .i64 0, .int .i64 0, .int .i64 0, .int .i64 0, .int .i64 0, .int .i64 0, .int .i64 0, .int .i64 0, .int .i64 0, .int .i64 0, .int .i64 0, .int .i64 0, .int .i64 0] 27))
                replace KB := Lib.hid (KB.out.alloc (.cells #[.int .i64 0, .int .i64 0, .int .i64 0, .int .i64 0, .int .i64 0, .int .i64 0, .int .i64 0, .int .i64 0, .int .i64 0, .int .i64 0, .int .i64 0, .int .i64 0, .int .i64 0, .int .i64 0, .int .i64 0, .int .i64 0, .int .i64 0, .int .i64 0, .int .i64 0, .int .i64 0, .int .i64 0, .int .i64 0, .int .i64 0, .int .i64 0] 27))
                generalize hcc : wc1.heap.size = cc at *
                clear hcc
                generalize wc1.alloc (.cells #[.int .i64 0, .int .i64 0, .int .i64 0, .int .i64 0, .int .i64 0, .int .i64 0, .int .i64 0, .int .i64 0, .int .i64 0, .int .i64 0, .int .i64 0, .int .i64 0, .int .i64 0, .int .i64 0, .int .i64 0, .int .i64 0, .int .i64 0, .int .i64 0, .int .i64 0, .int .i64 0, .int .i64 0, .int .i64 0, .int .i64 0, .int .i64 0] 27) = WA4 at *
                (refine wpAnyH_ready (rs := [15]) (by kernel_rfl) (by simp) ?_; refine AllReadyH.cons (o := _) rfl (fun K hK => ?_) AllReadyH.nil; (simp only [List.getElem_toArray, List.getElem_cons_zero, List.getElem_cons_succ, Region.wanted, if_true]))
                go_simp
                refine (KM.out _).mono ?_
                rintro e wc5 ⟨rfl, bc5⟩
                dsimp only
                (try simp only [List.getElem_toArray, List.getElem_cons_zero, List.getElem_cons_succ, Act.put, List.setIfInBounds_toArray, List.set_cons_zero, List.set_cons_succ])
                refine hK.out _ _ ⟨hHeld.1.below bc5, hHeld.2.below bc5⟩ (fun hHeld => ?_)
                clear hK K
                replace D := D.below bc5
                replace GL := Lib.hid (GL.out.below bc5)
                replace GB := Lib.hid (GB.out.below bc5)
                replace GP := Lib.hid (GP.out.below bc5)
                replace KB := Lib.hid (KB.out.call bc5)
                replace Z := Z.below bc5
                clear bc5
                have nLc : ∀ z, (Value.slice (some ⟨g, 0, none⟩) N cap0).ownBlock = some z → z ≠ cc := fun z hz => by
                  have := nL.out z hz
                  omega
                (refine wpAnyH_ready (rs := [17]) (by kernel_rfl) (by simp) ?_; refine AllReadyH.cons (o := _) rfl (fun K hK => ?_) AllReadyH.nil; (simp only [List.getElem_toArray, List.getElem_cons_zero, List.getElem_cons_succ, Region.wanted, if_true]); refine wp_store_mid _ _ _ rfl _ _ (ints t).toArray rfl rfl (by simpa [lt3] using Z.there) (by simpa [lt3] using HIT.out) (all_oneCell_toArray (ints_one _)) ?_; (try simp only [List.getElem_toArray, List.getElem_cons_zero, List.getElem_cons_succ, Act.put, List.setIfInBounds_toArray, List.set_cons_zero, List.set_cons_succ, List.toList_toArray]); refine hK.out _ _ (⟨hHeld.1.putOther _ _ (by omega), hHeld.2.puts _ _ _ nLc⟩) (fun hHeld => ?_); clear hK K)
                (refine wpAnyH_take (i := 18) (v := ?_) rfl (by kernel_rfl) (by kernel_rfl) (by kernel_rfl) (fun _ _ _ h => h) (Or.inl ⟨by rfl, ?_⟩) hHeld ?_; rotate_left; (· (intro w' hSw; go_simp; try with_reducible rfl)); (try simp only [List.getElem_toArray, List.getElem_cons_zero, List.getElem_cons_succ, Act.put, List.setIfInBounds_toArray, List.set_cons_zero, List.set_cons_succ]))
                refine wpAnyH_done (by kernel_rfl) ?_ _
                have HT := Z.putAll t t24
                replace D := D.putOther (b' := cc) 0 (ints t) (by omega)
                replace GL := Lib.hid (GL.out.puts cc 0 (ints t) (fun z hz => by have := nL.out z hz; omega))
                replace GB := Lib.hid (GB.out.puts cc 0 (ints t) (fun z hz => by have := nB.out z hz; omega))
                replace GP := Lib.hid (GP.out.puts cc 0 (ints t) (fun hn e => by have := nP.out hn cc e; omega))
                replace KB := Lib.hid (KB.out.puts (b := cc) (by omega) 0 (ints t))
                have NC : Hid (∀ z, u7.ownBlock = some z → z ≠ cc) := Lib.hid (fun z hz => by have := nB.out z hz; omega)
                clear hHeld Z nL nB nP
                go_wp2_with fail
                go_meet
                case rel => exact ⟨cc, rfl, rfl, HT, Lib.hid (by omega), D, GL, GB, GP, NC, KB⟩
            · (simp only [List.getElem_toArray, List.getElem_cons_zero, List.getElem_cons_succ, Region.wanted, if_true])
              go_simp
              refine hK.out _ _ ⟨hHeld.1.alloc _, hHeld.2.alloc _⟩ (fun hHeld => ?_)
              clear hK K
              have ltD := D.lt
              have ltG := KB.out.size
              have nL := Lib.hid (fun z hz => (GL.out.own z hz).2)
              have nB := Lib.hid (fun z hz => (GB.out.own z hz).2)
              have nP := Lib.hid (fun hn z hz => (GP.out.ownlt hn z hz).2)
              have nPg := (GP.out.lt hn0).2
              have nPw := (GP.out.lt hn0).1
              have Z : Has (V2.alloc (.cells #[.int .i64 0, .int .i64 0, .int .i64 0, .int .i64 0, .int .i64 0, .int .i64 0, .int .i64 0, .int .i64 0, .int .i64 0, .int .i64 0, .int .i64 0, .int .i64 0, .int .i64 0, .int .i64 0, .int .i64 0, .int .i64 0, .int .i64 0, .int .i64 0, .int .i64 0, .int .i64 0, .int .i64 0, .int .i64 0, .int .i64 0, .int .i64 0] 27)) V2.heap.size z24 24 := Has.box (ns := z24) V2 27 rfl (by omega)
              replace D := D.alloc (.cells #[.int .i64 0, .int .i64 0, .int .i64 0, .int .i64 0, .int .i64 0, .int .i64 0, .int .i64 0, .int .i64 0, .int .i64 0, .int .i64 0, .int .i64 0, .int .i64 0, .int .i64 0, .int .i64 0, .int .i64 0, .int .i64 0, .int .i64 0, .int .i64 0, .int .i64 0, .int .i64 0, .int .i64 0, .int .i64 0, .int .i64 0, .int .i64 0] 27)
              replace GL := Lib.hid (GL.out.alloc (.cells #[.int .i64 0, .int .i64 0, .int .i64 0, .int .i64 0, .int .i64 0, .int .i64 0, .int .i64 0, .int .i64 0, .int .i64 0, .int .i64 0, .int .i64 0, .int .i64 0, .int .i64 0, .int .i64 0, .int .i64 0, .int .i64 0, .int .i64 0, .int .i64 0, .int .i64 0, .int .i64 0, .int .i64 0, .int .i64 0, .int .i64 0, .int .i64 0] 27))
              replace GB := Lib.hid (GB.out.alloc (.cells #[.int .i64 0, .int .i64 0, .int .i64 0, .int .i64 0, .int .i64 0, .int .i64 0, .int .i64 0, .int .i64 0, .int .i64 0, .int .i64 0, .int .i64 0, .int .i64 0, .int .i64 0, .int .i64 0, .int .i64 0, .int .i64 0, .int .i64 0, .int .i64 0, .int .i64 0, .int .i64 0, .int .i64 0, .int .i64 0, .int .i64 0, .int .i64 0] 27))
              replace GP := Lib.hid (GP.out.alloc (.cells #[.int .i64 0, .int .i64 0, .int .i64 0, .int .i64 0, .int .i64 0, .int .i64 0, .int .i64 0, .int .i64 0, .int .i64 0, .int .i64 0, .int .i64 0, .int .i64 0, .int .i64 0, .int .i64 0, .int .i64 0, .int .i64 0, .int .i64 0, .int .i64 0, .int .i64 0, .int .i64 0, .int .i64 0, .int .i64 0, .int .i64 0, .int .i64 0] 27))
              replace KB := Lib.hid (KB.out.alloc (.cells #[.int .i64 0, .int .i64 0, .int .i64 0, .int .i64 0, .int .i64 0, .int .i64 0, .int .i64 0, .int .i64 0, .int .i64 0, .int .i64 0, .int .i64 0, .int .i64 0, .int .i64 0, .int .i64 0, .int .i64 0, .int .i64 0, .int .i64 0, .int .i64 0, .int .i64 0, .int .i64 0, .int .i64 0, .int .i64 0, .int .i64 0, .int .i64 0] 27))
              generalize hcc : V2.heap.size = cc at *
              clear hcc
              generalize V2.alloc (.cells #[.int .i64 0, .int .i64 0, .int .i64 0, .int .i64 0, .int .i64 0, .int .i64 0, .int .i64 0, .int .i64 0, .int .i64 0, .int .i64 0, .int .i64 0, .int .i64 0, .int .i64 0, .int .i64 0, .int .i64 0, .int .i64 0, .int .i64 0, .int .i64 0, .int .i64 0, .int .i64 0, .int .i64 0, .int .i64 0, .int .i64 0, .int .i64 0] 27) = WA6 at *
              (refine wpAnyH_ready (rs := [14]) (by kernel_rfl) (by simp) ?_; refine AllReadyH.cons (o := _) rfl (fun K hK => ?_) AllReadyH.nil; (simp only [List.getElem_toArray, List.getElem_cons_zero, List.getElem_cons_succ, Region.wanted, if_true]))
              go_simp
              refine (KV.out _).mono ?_
              rintro e wc7 ⟨rfl, bc7⟩
              dsimp only
              (try simp only [List.getElem_toArray, List.getElem_cons_zero, List.getElem_cons_succ, Act.put, List.setIfInBounds_toArray, List.set_cons_zero, List.set_cons_succ])
              refine hK.out _ _ ⟨hHeld.1.below bc7, hHeld.2.below bc7⟩ (fun hHeld => ?_)
              clear hK K
              replace D := D.below bc7
              replace GL := Lib.hid (GL.out.below bc7)
              replace GB := Lib.hid (GB.out.below bc7)
              replace GP := Lib.hid (GP.out.below bc7)
              replace KB := Lib.hid (KB.out.call bc7)
              replace Z := Z.below bc7
              clear bc7
              (refine wpAnyH_ready (rs := [15]) (by kernel_rfl) (by simp) ?_; refine AllReadyH.cons (o := _) rfl (fun K hK => ?_) AllReadyH.nil; (simp only [List.getElem_toArray, List.getElem_cons_zero, List.getElem_cons_succ, Region.wanted, if_true]))
              go_simp
              refine (KM.out _).mono ?_
              rintro e wc8 ⟨rfl, bc8⟩
              dsimp only
              (try simp only [List.getElem_toArray, List.getElem_cons_zero, List.getElem_cons_succ, Act.put, List.setIfInBounds_toArray, List.set_cons_zero, List.set_cons_succ])
              refine hK.out _ _ ⟨hHeld.1.below bc8, hHeld.2.below bc8⟩ (fun hHeld => ?_)
              clear hK K
              replace D := D.below bc8
              replace GL := Lib.hid (GL.out.below bc8)
              replace GB := Lib.hid (GB.out.below bc8)
              replace GP := Lib.hid (GP.out.below bc8)
              replace KB := Lib.hid (KB.out.call bc8)
              replace Z := Z.below bc8
              clear bc8
              have nLc : ∀ z, (Value.slice (some ⟨g, 0, none⟩) N cap0).ownBlock = some z → z ≠ cc := fun z hz => by
                have := nL.out z hz
                omega
              (refine wpAnyH_ready (rs := [17]) (by kernel_rfl) (by simp) ?_; refine AllReadyH.cons (o := _) rfl (fun K hK => ?_) AllReadyH.nil; (simp only [List.getElem_toArray, List.getElem_cons_zero, List.getElem_cons_succ, Region.wanted, if_true]); refine wp_store_mid _ _ _ rfl _ _ (ints t).toArray rfl rfl (by simpa [lt3] using Z.there) (by simpa [lt3] using HIT.out) (all_oneCell_toArray (ints_one _)) ?_; (try simp only [List.getElem_toArray, List.getElem_cons_zero, List.getElem_cons_succ, Act.put, List.setIfInBounds_toArray, List.set_cons_zero, List.set_cons_succ, List.toList_toArray]); refine hK.out _ _ (⟨hHeld.1.putOther _ _ (by omega), hHeld.2.puts _ _ _ nLc⟩) (fun hHeld => ?_); clear hK K)
              (refine wpAnyH_take (i := 18) (v := ?_) rfl (by kernel_rfl) (by kernel_rfl) (by kernel_rfl) (fun _ _ _ h => h) (Or.inl ⟨by rfl, ?_⟩) hHeld ?_; rotate_left; (· (intro w' hSw; go_simp; try with_reducible rfl)); (try simp only [List.getElem_toArray, List.getElem_cons_zero, List.getElem_cons_succ, Act.put, List.setIfInBounds_toArray, List.set_cons_zero, List.set_cons_succ]))
              refine wpAnyH_done (by kernel_rfl) ?_ _
              have HT := Z.putAll t t24
              replace D := D.putOther (b' := cc) 0 (ints t) (by omega)
              replace GL := Lib.hid (GL.out.puts cc 0 (ints t) (fun z hz => by have := nL.out z hz; omega))
              replace GB := Lib.hid (GB.out.puts cc 0 (ints t) (fun z hz => by have := nB.out z hz; omega))
              replace GP := Lib.hid (GP.out.puts cc 0 (ints t) (fun hn e => by have := nP.out hn cc e; omega))
              replace KB := Lib.hid (KB.out.puts (b := cc) (by omega) 0 (ints t))
              have NC : Hid (∀ z, u7.ownBlock = some z → z ≠ cc) := Lib.hid (fun z hz => by have := nB.out z hz; omega)
              clear hHeld Z nL nB nP
              go_wp2_with fail
              go_meet
              case rel => exact ⟨cc, rfl, rfl, HT, Lib.hid (by omega), D, GL, GB, GP, NC, KB⟩
          clear D GL GB GP KB
          obtain ⟨cc, rfl, rfl, HT, hccw, D, GL, GB, GP, NC, KB⟩ := hcut
          clear KM KV
          obtain ⟨sa, scap, hu7⟩ := GB.out.shape
          obtain ⟨dl, hdl⟩ : ∃ dl, Sj.length = dl := ⟨_, rfl⟩
          have HDL := Lib.hid hdl
          rw [hdl] at hu7 hSj2
          subst hu7
          clear hdl
          go_wp2_with fail
          go_loopw [14, 15] (fun b z wy => ∃ m : Nat, m ≤ dl ∧ z = .int .i64 m ∧ Hid (b = .bool (decide (t ∈ Sj.take m))) ∧ Has wy cc t 24 ∧ Has wy w.heap.size ds 6 ∧ Hid (Gr wy 0 27 24 (.slice (some ⟨g, 0, none⟩) N cap0) L) ∧ Hid (Gr wy (w.heap.size + 1) 27 24 (.slice sa dl scap) Sj) ∧ Hid (Rw wy w.heap.size (.slice (some ⟨pg, 0, none⟩) n pcap) n F) ∧ Hid (Kept w wy)) (fun _ z _ => dl - (intOf z).toNat)
          case atStart => exact ⟨0, by omega, rfl, Lib.hid (by rw [List.take_zero]; rfl), HT, D, GL, GB, GP, KB⟩
          case round =>
            clear HT D GL GB GP KB
            obtain ⟨mm, hmm, rfl, HBV, HT, D, GL, GB, GP, KB⟩ := hrel
            have hbv := HBV.out
            subst hbv
            clear HBV
            by_cases hml : mm < dl
            · have hmi : (mm : Int) < (dl : Int) := by omega
              have hm0 : (0 : Int) ≤ (mm : Int) := by omega
              have hmS : mm < Sj.length := by rw [HDL.out]; exact hml
              obtain ⟨sg, sc2, hse, _, hsl⟩ := GB.out.form (by omega)
              rw [HDL.out] at hse
              injection hse with se1 _ se3
              subst se1
              subst se3
              have MT := Lib.hid (mem_takeS Sj mm t hmS)
              have u24 := GB.out.item hmS
              have UR := Lib.hid (fun (V : World) (h : Gr V (w.heap.size + 1) 27 24 (.slice (some ⟨sg, 0, none⟩) dl scap) Sj) => h.range HDL.out.symm mm hml)
              obtain ⟨u, hu⟩ : ∃ u, Sj.getD mm [] = u := ⟨_, rfl⟩
              rw [hu] at MT u24 UR
              clear hu hmS
              have hiu : (Try.prog.info? 27).map (·.size) = some (ints u).length := by rw [ints_len, u24]; kernel_rfl
              have HIU := Lib.hid hiu
              clear hiu
              replace HT := HT.drew
              replace D := D.drew
              replace GL := Lib.hid GL.out.drew
              replace GB := Lib.hid GB.out.drew
              replace GP := Lib.hid GP.out.drew
              replace KB := Lib.hid (keptDrew8 KB.out)
              by_cases hin : t ∈ Sj.take mm
              · have E3 := Lib.hid (show decide (t ∈ Sj.take (mm + 1)) = true from decide_eq_true (MT.out.2 (.inl hin)))
                rw [decide_eq_true hin]
                clear hin
                go_wp2_with fail
                refine wp_region_held_drew (S := fun _ => True) (by kernel_rfl) trivial (fun hHeld => ?_)
                (refine wpAnyH_take (i := 0) (v := ?_) rfl (by kernel_rfl) (by kernel_rfl) (by kernel_rfl) (fun _ _ _ h => h) (Or.inl ⟨by rfl, ?_⟩) hHeld ?_; rotate_left; (· (intro w' hSw; go_simp; try with_reducible rfl)); (try simp only [List.getElem_toArray, List.getElem_cons_zero, List.getElem_cons_succ, Act.put, List.setIfInBounds_toArray, List.set_cons_zero, List.set_cons_succ])); (refine wpAnyH_take (i := 1) (v := ?_) rfl (by kernel_rfl) (by kernel_rfl) (by kernel_rfl) (fun _ _ _ h => h) (Or.inl ⟨by rfl, ?_⟩) hHeld ?_; rotate_left; (· (intro w' hSw; go_simp; try with_reducible rfl)); (try simp only [List.getElem_toArray, List.getElem_cons_zero, List.getElem_cons_succ, Act.put, List.setIfInBounds_toArray, List.set_cons_zero, List.set_cons_succ]))
                (refine wpAnyH_take (i := 2) (v := undef) rfl (by kernel_rfl) (by kernel_rfl) (by kernel_rfl) (fun _ _ _ h => h) (Or.inr ⟨by rfl, rfl⟩) hHeld ?_; (try simp only [List.getElem_toArray, List.getElem_cons_zero, List.getElem_cons_succ, Act.put, List.setIfInBounds_toArray, List.set_cons_zero, List.set_cons_succ])); (refine wpAnyH_take (i := 3) (v := undef) rfl (by kernel_rfl) (by kernel_rfl) (by kernel_rfl) (fun _ _ _ h => h) (Or.inr ⟨by rfl, rfl⟩) hHeld ?_; (try simp only [List.getElem_toArray, List.getElem_cons_zero, List.getElem_cons_succ, Act.put, List.setIfInBounds_toArray, List.set_cons_zero, List.set_cons_succ])); (refine wpAnyH_take (i := 4) (v := undef) rfl (by kernel_rfl) (by kernel_rfl) (by kernel_rfl) (fun _ _ _ h => h) (Or.inr ⟨by rfl, rfl⟩) hHeld ?_; (try simp only [List.getElem_toArray, List.getElem_cons_zero, List.getElem_cons_succ, Act.put, List.setIfInBounds_toArray, List.set_cons_zero, List.set_cons_succ])); (refine wpAnyH_take (i := 5) (v := undef) rfl (by kernel_rfl) (by kernel_rfl) (by kernel_rfl) (fun _ _ _ h => h) (Or.inr ⟨by rfl, rfl⟩) hHeld ?_; (try simp only [List.getElem_toArray, List.getElem_cons_zero, List.getElem_cons_succ, Act.put, List.setIfInBounds_toArray, List.set_cons_zero, List.set_cons_succ])); (refine wpAnyH_take (i := 6) (v := undef) rfl (by kernel_rfl) (by kernel_rfl) (by kernel_rfl) (fun _ _ _ h => h) (Or.inr ⟨by rfl, rfl⟩) hHeld ?_; (try simp only [List.getElem_toArray, List.getElem_cons_zero, List.getElem_cons_succ, Act.put, List.setIfInBounds_toArray, List.set_cons_zero, List.set_cons_succ])); (refine wpAnyH_take (i := 7) (v := undef) rfl (by kernel_rfl) (by kernel_rfl) (by kernel_rfl) (fun _ _ _ h => h) (Or.inr ⟨by rfl, rfl⟩) hHeld ?_; (try simp only [List.getElem_toArray, List.getElem_cons_zero, List.getElem_cons_succ, Act.put, List.setIfInBounds_toArray, List.set_cons_zero, List.set_cons_succ]))
                (refine wpAnyH_take (i := 8) (v := ?_) rfl (by kernel_rfl) (by kernel_rfl) (by kernel_rfl) (fun _ _ _ h => h) (Or.inl ⟨by rfl, ?_⟩) hHeld ?_; rotate_left; (· (intro w' hSw; go_simp; try with_reducible rfl)); (try simp only [List.getElem_toArray, List.getElem_cons_zero, List.getElem_cons_succ, Act.put, List.setIfInBounds_toArray, List.set_cons_zero, List.set_cons_succ])); (refine wpAnyH_take (i := 9) (v := ?_) rfl (by kernel_rfl) (by kernel_rfl) (by kernel_rfl) (fun _ _ _ h => h) (Or.inl ⟨by rfl, ?_⟩) hHeld ?_; rotate_left; (· (intro w' hSw; go_simp; try with_reducible rfl)); (try simp only [List.getElem_toArray, List.getElem_cons_zero, List.getElem_cons_succ, Act.put, List.setIfInBounds_toArray, List.set_cons_zero, List.set_cons_succ]))
                refine wpAnyH_done (by kernel_rfl) ?_ _
                clear hHeld
                go_wp2_with fail
                go_roundw
                case rel => exact ⟨mm + 1, by omega, by go_num, Lib.hid (by rw [E3.out]), HT, D, GL, GB, GP, KB⟩
                case measure => simp [intOf]; omega
              · have E3 := Lib.hid (show decide (t ∈ Sj.take (mm + 1)) = decide (u = t) by
                  rw [decide_eq_decide, MT.out]
                  exact ⟨fun h => by rcases h with h | h; exact absurd h hin; exact h.symm, fun h => .inr h.symm⟩)
                have EQT := Lib.hid (fun V => eqRackT u t u24 t24 V)
                rw [decide_eq_false hin]
                clear hin
                go_wp2_with fail
                refine wp_region_held_drew (S := fun w' => Has w' cc t 24 ∧ Gr w' (w.heap.size + 1) 27 24 (.slice (some ⟨sg, 0, none⟩) dl scap) Sj) (by kernel_rfl) ⟨HT, GB.out⟩ (fun hHeld => ?_)
                (refine wpAnyH_take (i := 0) (v := ?_) rfl (by kernel_rfl) (by kernel_rfl) (by kernel_rfl) (fun _ _ _ h => h) (Or.inl ⟨by rfl, ?_⟩) hHeld ?_; rotate_left; (· (intro w' hSw; go_simp; try with_reducible rfl)); (try simp only [List.getElem_toArray, List.getElem_cons_zero, List.getElem_cons_succ, Act.put, List.setIfInBounds_toArray, List.set_cons_zero, List.set_cons_succ])); (refine wpAnyH_take (i := 1) (v := ?_) rfl (by kernel_rfl) (by kernel_rfl) (by kernel_rfl) (fun _ _ _ h => h) (Or.inl ⟨by rfl, ?_⟩) hHeld ?_; rotate_left; (· (intro w' hSw; go_simp; try with_reducible rfl)); (try simp only [List.getElem_toArray, List.getElem_cons_zero, List.getElem_cons_succ, Act.put, List.setIfInBounds_toArray, List.set_cons_zero, List.set_cons_succ])); (refine wpAnyH_take (i := 2) (v := ?_) rfl (by kernel_rfl) (by kernel_rfl) (by kernel_rfl) (fun _ _ _ h => h) (Or.inl ⟨by rfl, ?_⟩) hHeld ?_; rotate_left; (· (intro w' hSw; go_simp; try with_reducible rfl)); (try simp only [List.getElem_toArray, List.getElem_cons_zero, List.getElem_cons_succ, Act.put, List.setIfInBounds_toArray, List.set_cons_zero, List.set_cons_succ])); (refine wpAnyH_take (i := 3) (v := ?_) rfl (by kernel_rfl) (by kernel_rfl) (by kernel_rfl) (fun _ _ _ h => h) (Or.inl ⟨by rfl, ?_⟩) hHeld ?_; rotate_left; (· (intro w' hSw; go_simp; try with_reducible rfl)); (try simp only [List.getElem_toArray, List.getElem_cons_zero, List.getElem_cons_succ, Act.put, List.setIfInBounds_toArray, List.set_cons_zero, List.set_cons_succ])); (refine wpAnyH_take (i := 4) (v := ?_) rfl (by kernel_rfl) (by kernel_rfl) (by kernel_rfl) (fun _ _ _ h => h) (Or.inl ⟨by rfl, ?_⟩) hHeld ?_; rotate_left; (· (intro w' hSw; go_simp; try with_reducible rfl)); (try simp only [List.getElem_toArray, List.getElem_cons_zero, List.getElem_cons_succ, Act.put, List.setIfInBounds_toArray, List.set_cons_zero, List.set_cons_succ]))
                (refine wpAnyH_take (i := 5) (v := _) rfl (by kernel_rfl) (by kernel_rfl) (by kernel_rfl) (fun _ _ _ h => h) (yieldsIf_load_mid (by rfl) 27 _ rfl _ _ rfl (ints u) _ (fun w' hSw => UR.out w' hSw.2) Try.underlying27 rfl (HIU.out)) hHeld ?_; (try simp only [List.getElem_toArray, List.getElem_cons_zero, List.getElem_cons_succ, Act.put, List.setIfInBounds_toArray, List.set_cons_zero, List.set_cons_succ]))
                (refine wpAnyH_take (i := 6) (v := _) rfl (by kernel_rfl) (by kernel_rfl) (by kernel_rfl) (fun _ _ _ h => h) (yieldsIf_load_mid (by rfl) 27 _ rfl _ _ rfl (ints t) _ (fun w' hSw => hSw.1.holds.range) Try.underlying27 rfl (HIT.out)) hHeld ?_; (try simp only [List.getElem_toArray, List.getElem_cons_zero, List.getElem_cons_succ, Act.put, List.setIfInBounds_toArray, List.set_cons_zero, List.set_cons_succ]))
                refine wpAnyH_take (i := 7) (v := .bool (decide (u = t))) rfl (by kernel_rfl) (by kernel_rfl) (by kernel_rfl) (fun _ _ _ h => h) (Or.inl ⟨by rfl, ?_⟩) hHeld ?_
                · intro w' hSw
                  exact eql_run _ _ _ _ _ _ rfl u t rfl rfl (by kernel_rfl) (fun V => EQT.out V)
                (try simp only [List.getElem_toArray, List.getElem_cons_zero, List.getElem_cons_succ, Act.put, List.setIfInBounds_toArray, List.set_cons_zero, List.set_cons_succ])
                (refine wpAnyH_take (i := 8) (v := ?_) rfl (by kernel_rfl) (by kernel_rfl) (by kernel_rfl) (fun _ _ _ h => h) (Or.inl ⟨by rfl, ?_⟩) hHeld ?_; rotate_left; (· (intro w' hSw; go_simp; try with_reducible rfl)); (try simp only [List.getElem_toArray, List.getElem_cons_zero, List.getElem_cons_succ, Act.put, List.setIfInBounds_toArray, List.set_cons_zero, List.set_cons_succ])); (refine wpAnyH_take (i := 9) (v := ?_) rfl (by kernel_rfl) (by kernel_rfl) (by kernel_rfl) (fun _ _ _ h => h) (Or.inl ⟨by rfl, ?_⟩) hHeld ?_; rotate_left; (· (intro w' hSw; go_simp; try with_reducible rfl)); (try simp only [List.getElem_toArray, List.getElem_cons_zero, List.getElem_cons_succ, Act.put, List.setIfInBounds_toArray, List.set_cons_zero, List.set_cons_succ]))
                refine wpAnyH_done (by kernel_rfl) ?_ _
                clear hHeld
                go_wp2_with fail
                go_roundw
                case rel => exact ⟨mm + 1, by omega, by go_num, Lib.hid (by rw [E3.out]), HT, D, GL, GB, GP, KB⟩
                case measure => simp [intOf]; omega
            · obtain rfl : mm = dl := by omega
              have ETK := Lib.hid (show Sj.take mm = Sj from List.take_of_length_le (by rw [HDL.out]; exact Nat.le_refl _))
              rw [ETK.out]
              by_cases hin : t ∈ Sj
              · have D1 := Lib.hid (show growR ds x Si r (j + 1) = Sj by rw [ES.out]; unfold insL; rw [if_pos hin])
                have KN2 : Hid (0 < n → ∀ z, (Value.slice sa mm scap).ownBlock = some z → (Value.slice (some ⟨pg, 0, none⟩) n pcap).ownBlock ≠ some z) := Lib.hid (fun hn z hz e => NG.out z hz (Option.some.inj (show some pg = some z from e)).symm)
                rw [decide_eq_true hin]
                clear hin ES ETK
                go_wp2_with fail
                go_roundw
                case rel => exact ⟨j + 1, by omega, by go_num, D, GL, by rw [D1.out]; exact GB, GP, KB, KN2⟩
                case measure => simp [intOf]; omega
              · have D1 := Lib.hid (show growR ds x Si r (j + 1) = Sj ++ [t] by rw [ES.out]; unfold insL; rw [if_neg hin])
                rw [decide_eq_false hin]
                clear hin ES ETK
                have OWB := Lib.hid (fun z hz => (GB.out.own z hz).1)
                have gw := KB.out.size
                have hdw := D.lt
                have hcl := hccw.out
                have hpl := (GP.out.lt hn0).2
                have hsz : w.heap.size + 1 ≤ wr.heap.size + 1 := by omega
                go_wp2_with (first | (refine load_has rfl 27 _ rfl _ rfl ?_ 24 ?_ _ Try.underlying27 rfl ?_ ?_; rotate_left; (· (repeat (first | (with_reducible assumption) | ((with_reducible refine Has.box _ _ ?_ ?_) <;> (first | assumption | decide)) | (with_reducible refine Has.alloc ?_ _) | ((with_reducible refine Has.putOther ?_ _ _ ?_); rotate_left; omega; skip) | ((with_reducible refine Has.below ?_ ?_); rotate_left; assumption)))); (· kernel_rfl)) | (refine wpList_slice1 rfl 61 27 _ rfl 24 192 Try.underlying61 (by kernel_rfl) (by omega) (by omega) t rfl t24 ?_) | (at_builtin; refine append_gr rfl _ _ 61 rfl (w.heap.size + 1) 27 24 192 Try.underlying61 (by kernel_rfl) (by omega) (by omega) _ mm Sj HDL.out rfl (GB.out.alloc _) wr.heap.size 1 rfl t (Has.box wr 27 t24 (by omega)) (by rw [size1]; omega) (by omega) ?_; intro g' cu' w7 hG hgrow hlie hlt7))
                have D5 := (D.alloc (.cells (ints t).toArray 27)).grownNo hgrow (fun e => by have := OWB.out _ e.symm; omega)
                have GL5 := Lib.hid ((GL.out.alloc (.cells (ints t).toArray 27)).kept hgrow (fun z hz e => by have h1 := XL.out z hz; have := OWB.out z e; omega))
                have GP5 := Lib.hid ((GP.out.alloc (.cells (ints t).toArray 27)).grownP hgrow (fun hn k hk => .inr (fun e => NG.out k hk (Option.some.inj (show some pg = some k from e)).symm)))
                have KB5 : Hid (Kept w w7) := Lib.hid ((KB.out.alloc (.cells (ints t).toArray 27)).grown hgrow (KB.out.alloc (.cells (ints t).toArray 27)).size (fun j hj => by have := OWB.out j hj; omega))
                have GB5 := Lib.hid (hG.as D1.out.symm)
                have KN2 : Hid (0 < n → ∀ z, (Value.slice (some ⟨g', 0, none⟩) (mm + 1) cu').ownBlock = some z → (Value.slice (some ⟨pg, 0, none⟩) n pcap).ownBlock ≠ some z) := Lib.hid (fun hn z hz e => by
                  have h1 := Option.some.inj (show some g' = some z from hz)
                  have h2 := Option.some.inj (show some pg = some z from e)
                  rcases hlie with h3 | h3
                  · exact NG.out g' h3 (by omega)
                  · rw [size1] at h3; omega)
                clear hG hgrow hlie hlt7 GL GB GP KB hpl OWB gw hcl
                go_wp2_with fail
                go_roundw
                case rel => exact ⟨j + 1, by omega, by go_num, D5, GL5, GB5, GP5, KB5, KN2⟩
                case measure => simp [intOf]; omega
        · obtain rfl : j = n := by omega
          go_wp2_with fail
          go_roundw
          case rel => exact ⟨i + 1, by omega, by go_num, D, GL, by rw [EG.out]; exact GB, KB⟩
          case measure => simp [intOf]; omega
    · obtain rfl : i = N := by omega
      go_wp2_with fail
      go_ret
      exact ⟨_, rfl, GB.out.mono (by omega), KB.out⟩
end Go.Proofs.Ytglhinihhlmgeac.base
end

section
namespace Go.Proofs.Ytglhinihhlmgeac.base
open Go.ChangeShapes Go.WideShapes Go.ChangeAt Go.RowKit
set_option linter.unusedVariables false
set_option linter.unusedSimpArgs false

set_option maxHeartbeats 3200000 in
set_option maxRecDepth 100000 in
theorem specReach (ns ds : List Int) (x n : Int) (w : World) (h24 : ns.length = 24) (h6 : ds.length = 6) :
    Calls Try.prog 10 #[row ns, row ds, .int .i64 x, .int .i64 n] w fun e w' => e = .returned (.tuple #[.int .i64 (reA ns ds x n), .bool (reOk ns ds x n)]) ∧ Kept w w' := by
  have HB := Lib.hid (((kept_refl w).alloc (.cells (ints ns).toArray 27)).alloc (.cells (ints ds).toArray 28))
  have H := (Has.box w 27 h24 (by omega)).alloc (.cells (ints ds).toArray 28)
  have D := (Has.box (w.alloc (.cells (ints ns).toArray 27)) 28 h6 (by omega)).at (size1 _ _)
  rw [row_ints, row_ints]
  go_enter Try.func10, Try.ntmps10
  go_wp2_with (first | (refine load_has rfl 27 _ rfl _ rfl ?_ 24 ?_ _ Try.underlying27 rfl ?_ ?_; rotate_left; (· (repeat (first | (with_reducible assumption) | ((with_reducible refine Has.box _ _ ?_ ?_) <;> (first | assumption | decide)) | (with_reducible refine Has.alloc ?_ _) | ((with_reducible refine Has.putOther ?_ _ _ ?_); rotate_left; omega; skip) | ((with_reducible refine Has.below ?_ ?_); rotate_left; assumption)))); (· kernel_rfl)) | (refine load_has rfl 28 _ rfl _ rfl ?_ 6 ?_ _ Try.underlying28 rfl ?_ ?_; rotate_left; (· (repeat (first | (with_reducible assumption) | ((with_reducible refine Has.box _ _ ?_ ?_) <;> (first | assumption | decide)) | (with_reducible refine Has.alloc ?_ _) | ((with_reducible refine Has.putOther ?_ _ _ ?_); rotate_left; omega; skip) | ((with_reducible refine Has.below ?_ ?_); rotate_left; assumption)))); (· kernel_rfl)))
  refine (l8Fits_any ns ds _ h24 h6).mono ?_
  rintro e w1 ⟨rfl, b1⟩
  replace H := H.below b1
  replace D := D.below b1
  replace HB := Lib.hid (HB.out.call b1)
  clear b1
  by_cases hf : fitA ns ds = true
  · rw [hf]
    go_wp2_with fail
    refine (l8Rule_any x _).mono ?_
    rintro e w' ⟨rfl, rfl⟩
    by_cases hr : ruleV x = true
    · rw [hr]
      go_wp2_with fail
      refine (l1In_any n 0 2 _).mono ?_
      rintro e w' ⟨rfl, rfl⟩
      have OK := Lib.hid (show byOk ns ds x = true by unfold byOk; rw [hf, hr]; rfl)
      by_cases hn : 0 ≤ n ∧ n ≤ 2
      · rw [decide_eq_true hn]
        have R := Lib.hid (show reOk ns ds x n = true by unfold reOk; rw [OK.out, decide_eq_true hn]; rfl)
        have A := Lib.hid (show reA ns ds x n = (((rkM ds x ns n.toNat).length : Nat) : Int) by unfold reA; rw [if_pos R.out, rk_same])
        obtain ⟨k, rfl⟩ : ∃ k : Nat, n = (k : Int) := ⟨n.toNat, by omega⟩
        rw [Int.toNat_natCast] at A
        have hk2 : k ≤ 2 := by omega
        clear hn
        have gR : GoodR ds ns := ⟨h24, hf⟩
        have GOOD := Lib.hid (fun i => show (∀ t ∈ rkM ds x ns i, GoodR ds t) by rw [rk_same]; exact (rk_good (x := x) gR i).1)
        have LEN := Lib.hid (show (rkM ds x ns 0).length = 1 ∧ (rkM ds x ns 1).length ≤ 37 by rw [rk_same, rk_same]; exact ⟨(rk_len ds x ns).1, (rk_len ds x ns).2.2.1⟩)
        have POS := Lib.hid (show ∀ i, 0 < (rkM ds x ns i).length from fun i => by
          induction i with
          | zero => exact Nat.one_pos
          | succ i ih => have := (growL_len (ds := ds) (x := x) (S := rkM ds x ns i) (L := rkM ds x ns i) (rkM ds x ns i).length).1; rw [rkM]; omega)
        clear gR hf
        have G0 : Hid (Gr (w1.alloc (.cells (ints ns).toArray 27)) 0 27 24 (.slice (some ⟨w1.heap.size, 0, none⟩) 1 1) (rkM ds x ns 0)) := Lib.hid (Gr.one8 w1 0 27 ns h24 (Nat.zero_le _))
        have D0 := D.alloc (.cells (ints ns).toArray 27)
        have HB0 := Lib.hid (HB.out.alloc (.cells (ints ns).toArray 27))
        clear D HB
        go_wp2_with (first | (refine load_has rfl 27 _ rfl _ rfl ?_ 24 ?_ _ Try.underlying27 rfl ?_ ?_; rotate_left; (· (repeat (first | (with_reducible assumption) | ((with_reducible refine Has.box _ _ ?_ ?_) <;> (first | assumption | decide)) | (with_reducible refine Has.alloc ?_ _) | ((with_reducible refine Has.putOther ?_ _ _ ?_); rotate_left; omega; skip) | ((with_reducible refine Has.below ?_ ?_); rotate_left; assumption)))); (· kernel_rfl)) | (refine wpList_slice1 rfl 61 27 _ rfl 24 192 Try.underlying61 (by kernel_rfl) (by omega) (by omega) ns rfl h24 ?_))
        go_loopw [10, 11] (fun v z wr => ∃ i : Nat, i ≤ k ∧ z = .int .i64 i ∧ Has wr (w.heap.size + 1) ds 6 ∧ Hid (Gr wr 0 27 24 v (rkM ds x ns i)) ∧ Hid (Kept w wr)) (fun _ z _ => k - (intOf z).toNat)
        case atStart => exact ⟨0, by omega, rfl, D0, G0, HB0⟩
        case round =>
          clear D0 G0 HB0 H
          obtain ⟨i, hi, rfl, D, G, HB⟩ := hrel
          obtain ⟨ga, gc, hgv⟩ := G.out.shape
          subst hgv
          have SU := Lib.hid (show rkM ds x ns (i + 1) = growL ds x (rkM ds x ns i) (rkM ds x ns i) (rkM ds x ns i).length from rfl)
          have gi := GOOD.out i
          have pi := POS.out i
          by_cases hik : i < k
          · have hii : (i : Int) < (k : Int) := by omega
            have hl : (rkM ds x ns i).length ≤ 1333 := by
              obtain ⟨l1, l2⟩ := LEN.out
              have : i = 0 ∨ i = 1 := by omega
              rcases this with rfl | rfl <;> omega
            generalize hM : rkM ds x ns i = M at *
            go_wp2_with (refine load_has rfl 28 _ rfl _ rfl ?_ 6 ?_ _ Try.underlying28 rfl ?_ ?_; rotate_left; (· (repeat (first | (with_reducible assumption) | ((with_reducible refine Has.box _ _ ?_ ?_) <;> (first | assumption | decide)) | (with_reducible refine Has.alloc ?_ _) | ((with_reducible refine Has.putOther ?_ _ _ ?_); rotate_left; omega; skip) | ((with_reducible refine Has.below ?_ ?_); rotate_left; assumption)))); (· kernel_rfl))
            refine (l8Next_any ds x M _ wr h6 hr gi pi hl G.out).mono ?_
            rintro e w5 ⟨v5, rfl, q1, b1⟩
            replace D := D.below b1
            replace HB := Lib.hid (HB.out.call b1)
            have G5 : Hid (Gr w5 0 27 24 v5 (rkM ds x ns (i + 1))) := Lib.hid (by rw [SU.out]; exact q1.mono (Nat.zero_le _))
            clear q1 b1 G SU gi pi hl hM
            go_wp2_with fail
            go_roundw
            case rel => exact ⟨i + 1, by omega, by go_num, D, G5, HB⟩
            case measure => simp [intOf]; omega
          · obtain rfl : i = k := by omega
            clear SU gi pi
            generalize (rkM ds x ns i).length = cnt at *
            go_wp2_with fail
            go_ret2
            exact ⟨by rw [A.out, R.out]; rfl, HB.out⟩
      · rw [decide_eq_false hn]
        have R := Lib.hid (show reOk ns ds x n = false by unfold reOk; rw [decide_eq_false hn, Bool.and_false])
        have A := Lib.hid (show reA ns ds x n = 0 by unfold reA; rw [R.out]; rfl)
        clear hn
        go_wp2_with fail
        go_ret2
        exact ⟨by rw [A.out, R.out]; rfl, HB.out⟩
    · have hrf : ruleV x = false := by simpa using hr
      have R := Lib.hid (show reOk ns ds x n = false by unfold reOk byOk; rw [hrf, Bool.and_false]; rfl)
      have A := Lib.hid (show reA ns ds x n = 0 by unfold reA; rw [R.out]; rfl)
      rw [hrf]
      clear hr hrf hf
      go_wp2_with fail
      go_ret2
      exact ⟨by rw [A.out, R.out]; rfl, HB.out⟩
  · have hff : fitA ns ds = false := by simpa using hf
    have R := Lib.hid (show reOk ns ds x n = false by unfold reOk byOk; rw [hff]; rfl)
    have A := Lib.hid (show reA ns ds x n = 0 by unfold reA; rw [R.out]; rfl)
    rw [hff]
    clear hff hf
    go_wp2_with fail
    go_ret2
    exact ⟨by rw [A.out, R.out]; rfl, HB.out⟩
end Go.Proofs.Ytglhinihhlmgeac.base
end
