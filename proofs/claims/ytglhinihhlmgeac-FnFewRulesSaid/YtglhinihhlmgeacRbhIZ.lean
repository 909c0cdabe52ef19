/-
  The racks behind a level, on the program's side, walked.
-/
/-
  How many racks pours by a rule lead to, on the program's side, walked.
-/
import Derived.Test.YtglhinihhlmgeacRchMZ
import Derived.Test.YtglhinihhlmgeacGrid
import Derived.Test.YtglhinihhlmgeacFillZ
import Derived.Test.YtglhinihhlmgeacByI
import Derived.Test.YtglhinihhlmgeacMvdIZ
import Derived.Test.YtglhinihhlmgeacRwZ
import Derived.Deep.Cut
import Derived.Deep.CutRange
import Derived.Carry

section
namespace Go.Proofs.Ytglhinihhlmgeac.base
open Go.ChangeShapes Go.WideShapes Go.ChangeAt Go.RowKit Go.Maps
set_option linter.unusedVariables false
set_option linter.unusedSimpArgs false

section
variable {a b c : World} {m : Nat}
theorem gby_trans (h : a.grownBy b (some m)) (k : b.grownBy c (some m)) : a.grownBy c (some m) :=
  ⟨k.os.trans h.os, k.tape.trans h.tape, k.output.trans h.output, Nat.le_trans h.size k.size, fun i hi hn => (k.block i (Nat.lt_of_lt_of_le hi h.size) hn).trans (h.block i hi hn)⟩
theorem gby_below (h : a.grownBy b (some m)) (k : Below b.heap.size b c) : a.grownBy c (some m) :=
  gby_trans h ⟨k.os, k.tape, k.output, k.size, fun i hi _ => k.block i hi⟩
theorem gby_alloc (h : a.grownBy b (some m)) (o : Obj) : a.grownBy (b.alloc o) (some m) := gby_trans h (World.grownBy_alloc b o (some m))
theorem gby_drew (h : a.grownBy b (some m)) : a.grownBy b.drew (some m) := ⟨h.os, h.tape, h.output, h.size, h.block⟩
theorem gby_new (h : a.grownBy b (some m)) {r : Option Nat} (k : b.grownBy c r) (hr : ∀ z, r = some z → a.heap.size ≤ z) : a.grownBy c (some m) :=
  ⟨k.os.trans h.os, k.tape.trans h.tape, k.output.trans h.output, Nat.le_trans h.size k.size, fun i hi hn => (k.block i (Nat.lt_of_lt_of_le hi h.size) (fun e => by have := hr i e.symm; omega)).trans (h.block i hi hn)⟩
theorem gby_puts (h : a.grownBy b (some m)) (cc o : Nat) (vs : List Value) (hc : a.heap.size ≤ cc) : a.grownBy (b.setCells cc o vs) (some m) := by
  have k := below_setCells (B := a.heap.size) cc hc vs o b b (Below.refl _ _)
  exact ⟨k.os.trans h.os, k.tape.trans h.tape, k.output.trans h.output, Nat.le_trans h.size (Nat.le_of_eq (size_setCells cc vs o b).symm), fun i hi hn => (k.block i hi).trans (h.block i hi hn)⟩
theorem gby_refl (a : World) (m : Nat) : a.grownBy a (some m) := ⟨rfl, rfl, rfl, Nat.le_refl _, fun _ _ _ => rfl⟩
end
theorem drop_ins {S0 S : List (List Int)} {t : List Int} (h : S0.length ≤ S.length) (ht : t ∉ S) : (insL S t).drop S0.length = S.drop S0.length ++ [t] := by
  unfold insL; rw [if_neg ht, List.drop_append_of_le_length h]
theorem drop_old {S0 S : List (List Int)} {t : List Int} (ht : t ∈ S) : insL S t = S := by unfold insL; rw [if_pos ht]

set_option maxHeartbeats 6400000 in
set_option maxRecDepth 100000 in
theorem behind_any (ds : List Int) (x : Int) (L S : List (List Int)) (lv : Value) (mb : Nat) (w : World) (h6 : ds.length = 6) (hrv : ruleV x = true) (gL : ∀ t ∈ L, GoodR ds t) (gS : ∀ t ∈ S, GoodR ds t) (hL : L.length ≤ 1296) (hS : S.length ≤ 1333)
    (G : Gr w 0 27 24 lv L) (M : OwnV Try.prog w 27 mb S.length 24 (seenR S)) (hne : ∀ z, lv.ownBlock = some z → z ≠ mb) :
    Calls Try.prog 27 #[.agg (pgA ds x).toArray, lv, .map (some mb)] w fun e w' => ∃ v : Value, e = .returned v ∧ Gr w' w.heap.size 27 24 v ((growL ds x S L L.length).drop S.length) ∧
      OwnV Try.prog w' 27 mb (growL ds x S L L.length).length 24 (seenR (growL ds x S L L.length)) ∧ w.grownBy w' (some mb) := by
  have hmw := M.lt
  have XL := Lib.hid (fun z hz => (G.own z hz).2)
  have BK := (Bk.box w (pgA ds x) 58).alloc (.cells #[] 27)
  have GL0 := (G.alloc (.cells (pgA ds x).toArray 58)).alloc (.cells #[] 27)
  have GM := Lib.hid ((M.alloc (.cells (pgA ds x).toArray 58)).alloc (.cells #[] 27))
  have GN := Gr.none (w.alloc (.cells (pgA ds x).toArray 58)) (w.heap.size + 1) 27 24 (by simp)
  rw [size1] at GN
  have GG := Lib.hid (gby_alloc (gby_alloc (gby_refl w mb) (.cells (pgA ds x).toArray 58)) (.cells #[] 27))
  obtain ⟨a0, cap0, rfl⟩ := G.shape
  have LG := Lib.hid (pgA_len ds x h6)
  have HIP := Lib.hid (show (Try.prog.info? 58).map (·.size) = some (pgA ds x).length by rw [pgA_len ds x h6]; kernel_rfl)
  have HNE := Lib.hid hne
  obtain ⟨N, hN⟩ : ∃ N, L.length = N := ⟨_, rfl⟩
  have HN := Lib.hid hN
  rw [hN] at hL GL0 XL HNE ⊢
  have GL := Lib.hid GL0
  have GB : Hid (Gr ((w.alloc (.cells (pgA ds x).toArray 58)).alloc (.cells #[] 27)) (w.heap.size + 1) 27 24 (.slice (some ⟨w.heap.size + 1, 0, none⟩) 0 0) ((growL ds x S L 0).drop S.length)) := Lib.hid (GN.as (by rw [growL, List.drop_length]))
  have GM2 : Hid (OwnV Try.prog ((w.alloc (.cells (pgA ds x).toArray 58)).alloc (.cells #[] 27)) 27 mb (growL ds x S L 0).length 24 (seenR (growL ds x S L 0))) := Lib.hid GM.out
  have HGL := Lib.hid gL
  have HGS := Lib.hid gS
  have HS := Lib.hid hS
  have H6 := Lib.hid h6
  clear G M hne hN GL0 GN GM gL gS hS h6
  go_enter Try.func27, Try.ntmps27
  go_wp2_with fail
  generalize (w.alloc (.cells (pgA ds x).toArray 58)).alloc (.cells #[] 27) = W at *
  go_loopw [7, 16] (fun v z wr => ∃ i : Nat, i ≤ N ∧ z = .int .i64 i ∧ Bk wr w.heap.size (pgA ds x) 58 ∧ Hid (Gr wr 0 27 24 (.slice a0 N cap0) L) ∧ Hid (OwnV Try.prog wr 27 mb (growL ds x S L i).length 24 (seenR (growL ds x S L i))) ∧ Hid (Gr wr (w.heap.size + 1) 27 24 v ((growL ds x S L i).drop S.length)) ∧ Hid (w.grownBy wr (some mb))) (fun _ z _ => N - (intOf z).toNat)
  case atStart => exact ⟨0, by omega, rfl, BK, GL, GM2, GB, GG⟩
  case round =>
    clear BK GL GM2 GB GG
    obtain ⟨i, hi, rfl, BK, GL, GM, GB, GG⟩ := hrel
    by_cases hiN : i < N
    · have hii : (i : Int) < (N : Int) := by omega
      have hi0 : (0 : Int) ≤ (i : Int) := by omega
      have hiL : i < L.length := by rw [HN.out]; exact hiN
      obtain ⟨g, c, he, _, hgl⟩ := GL.out.form (by omega)
      rw [HN.out] at he
      injection he with e1 _ e3
      subst e1
      subst e3
      have g0 := HGL.out _ (getD_inL hiL)
      have RG := Lib.hid (GL.out.range HN.out.symm i hiN)
      have EG := Lib.hid (show growL ds x S L (i + 1) = growR ds x (growL ds x S L i) (L.getD i []) (nbN ds x (L.getD i [])) from rfl)
      have gl := growL_len (ds := ds) (x := x) (S := S) (L := L) i
      have hS2 := HS.out
      obtain ⟨r, hr⟩ : ∃ r, L.getD i [] = r := ⟨_, rfl⟩
      rw [hr] at g0 RG EG
      clear hr hiL
      obtain ⟨Si, hSi⟩ : ∃ Si, growL ds x S L i = Si := ⟨_, rfl⟩
      rw [hSi] at EG GM GB gl
      have hSl : S.length ≤ Si.length := gl.1
      have hSu : Si.length ≤ 1333 + 36 * 1295 := by omega
      clear hSi gl hS2
      have r24 := g0.len
      have G0 := Lib.hid g0
      have hok : byOk r ds x = true := by unfold byOk; rw [g0.fit, hrv]; rfl
      have HOK := Lib.hid hok
      clear g0
      have hi24 : (Try.prog.info? 27).map (·.size) = some (ints r).length := by rw [ints_len, r24]; kernel_rfl
      have HI24 := Lib.hid hi24
      have RB := Has.box wr 27 r24 (by omega)
      have hbk := BK.lt
      have NRB := Lib.hid (fun z hz => show z ≠ wr.heap.size by have := (GB.out.own z hz).2; omega)
      replace BK := BK.alloc (.cells (ints r).toArray 27)
      replace GL := Lib.hid (GL.out.alloc (.cells (ints r).toArray 27))
      replace GM := Lib.hid (GM.out.alloc (.cells (ints r).toArray 27))
      replace GB := Lib.hid (GB.out.alloc (.cells (ints r).toArray 27))
      have hww := GG.out.size
      replace GG := Lib.hid (gby_alloc GG.out (.cells (ints r).toArray 27))
      go_wp2_with (first | (refine wpList_load_mid rfl 27 _ rfl g (i * 24) rfl (ints r) _ RG.out Try.underlying27 rfl HI24.out ?_) | (refine store_new rfl 27 _ _ rfl _ _ _ rfl _ rfl _ rfl rfl ?_ ?_ ?_; (· (first | assumption | rfl)); (· kernel_rfl)) | (refine load_has rfl 27 _ rfl _ rfl ?_ 24 ?_ _ Try.underlying27 rfl ?_ ?_; rotate_left; (· (repeat (first | (with_reducible assumption) | ((with_reducible refine Has.box _ _ ?_ ?_) <;> (first | assumption | decide)) | (with_reducible refine Has.alloc ?_ _) | ((with_reducible refine Has.putOther ?_ _ _ ?_); rotate_left; omega; skip) | ((with_reducible refine Has.below ?_ ?_); rotate_left; assumption)))); (· kernel_rfl)) | (refine load_bk rfl 58 _ rfl _ rfl _ _ BK _ Try.underlying58 rfl ?_ ?_; (· rw [LG.out]; kernel_rfl)))
      obtain ⟨rb, hrb⟩ : ∃ rb, wr.heap.size = rb := ⟨_, rfl⟩
      rw [hrb] at RB hww NRB ⊢
      refine (pours_any r ds x _ r24 H6.out hok).mono ?_
      rintro e w5 ⟨pv, rfl, q5, b5⟩
      have OB := Lib.hid (fun z hz => (GB.out.own z hz).2)
      have hn36 := pN_le (byP r ds x) 36
      have NB := Lib.hid (fun j hj => nb_at (x := x) (j := j) G0.out hj)
      have EN : pN (byP r ds x) 36 = nbN ds x r := rfl
      rw [EN] at q5 hn36
      clear EN
      obtain ⟨F, hF⟩ : ∃ F, pF (byP r ds x) 36 = F := ⟨_, rfl⟩
      rw [hF] at q5 NB
      clear hF
      obtain ⟨n, hnn⟩ : ∃ n, nbN ds x r = n := ⟨_, rfl⟩
      rw [hnn] at q5 hn36 NB EG
      have HNN := Lib.hid hnn
      clear hnn
      obtain ⟨pa, pcap, hpv⟩ := q5.rw.shape
      subst hpv
      have hgs := GG.out.size
      have GP := Lib.hid (q5.rw.mono (b' := w.heap.size) hgs)
      clear hgs
      have KN : Hid (0 < n → ∀ z, u7.ownBlock = some z → (Value.slice pa n pcap).ownBlock ≠ some z) := Lib.hid (fun hn z hz e => by
        have h1 := OB.out z hz
        have h2 := (q5.rw.ownlt hn z e).1
        omega)
      replace RB := RB.below b5
      replace BK := BK.below b5
      replace GL := Lib.hid (GL.out.below b5)
      replace GM := Lib.hid (GM.out.below b5)
      replace GB := Lib.hid (GB.out.below b5)
      replace GG := Lib.hid (gby_below GG.out b5)
      have hrbw : w.heap.size ≤ rb := hww
      clear b5 q5 RG OB hrb hww
      have KRB : Hid (∀ z, u7.ownBlock = some z → z ≠ rb) := Lib.hid (fun z hz => NRB.out z hz)
      clear NRB
      have R0 : Hid (growR ds x Si r 0 = Si) := Lib.hid rfl
      rw [← R0.out] at GM GB
      go_wp2_with fail
      go_loopw [7, 24] (fun v z wx => ∃ j : Nat, j ≤ n ∧ z = .int .i64 j ∧ Bk wx w.heap.size (pgA ds x) 58 ∧ Has wx rb r 24 ∧ Hid (Gr wx 0 27 24 (.slice (some ⟨g, 0, none⟩) N cap0) L) ∧ Hid (OwnV Try.prog wx 27 mb (growR ds x Si r j).length 24 (seenR (growR ds x Si r j))) ∧ Hid (Gr wx (w.heap.size + 1) 27 24 v ((growR ds x Si r j).drop S.length)) ∧ Hid (Rw wx w.heap.size (.slice pa n pcap) n F) ∧ Hid (w.grownBy wx (some mb)) ∧ Hid (0 < n → ∀ z, v.ownBlock = some z → (Value.slice pa n pcap).ownBlock ≠ some z) ∧ Hid (∀ z, v.ownBlock = some z → z ≠ rb)) (fun _ z _ => n - (intOf z).toNat)
      case atStart => exact ⟨0, by omega, rfl, BK, RB, GL, GM, GB, GP, GG, KN, KRB⟩
      case round =>
        clear BK RB GL GM GB GP GG KN R0 KRB
        obtain ⟨j, hj, rfl, BK, RB, GL, GM, GB, GP, GG, KN, KRB⟩ := hrel
        by_cases hjn : j < n
        · have hji : (j : Int) < (n : Int) := by omega
          have hj0 : (0 : Int) ≤ (j : Int) := by omega
          have hn0 : 0 < n := by omega
          obtain ⟨pg, pc2, hv', hg1, hg2⟩ := GP.out.form (by omega)
          injection hv' with ha _ hcap
          subst ha
          subst hcap
          obtain ⟨hp6, hq6, hpos, hx, hy⟩ := NB.out j hjn
          have GT := Lib.hid (nb_good (x := x) (j := j) G0.out (by rw [HNN.out]; exact hjn))
          have ES := Lib.hid (show growR ds x Si r (j + 1) = insL (growR ds x Si r j) (nbAt r ds x j) from rfl)
          have ET := Lib.hid (show nbAt r ds x j = moveT r (pAt r ds x j) (qAt r ds x j) (mvN r ds x (pAt r ds x j) (qAt r ds x j)) from rfl)
          have gr := growR_len (ds := ds) (x := x) (S := Si) (r := r) j
          obtain ⟨p, hpe⟩ : ∃ p, pAt r ds x j = p := ⟨_, rfl⟩
          obtain ⟨q, hqe⟩ : ∃ q, qAt r ds x j = q := ⟨_, rfl⟩
          rw [hpe, hqe] at hpos ET
          rw [hpe] at hp6 hx
          rw [hqe] at hq6 hy
          clear hpe hqe
          have MO := mv_moveOk r24 (G0.out.fit) hp6 hq6 hpos
          have hm4 := MO.hm
          have KM := Lib.hid (fun V => move_any r p q (mvN r ds x p q) V MO)
          have KV := Lib.hid (fun V => moved_any r ds x (p : Int) (q : Int) V r24 H6.out HOK.out)
          rw [mvI_nat hp6 hq6] at KV
          obtain ⟨m, hm⟩ : ∃ m, mvN r ds x p q = m := ⟨_, rfl⟩
          rw [hm] at KM KV ET hm4
          have hml4 : lay (tub r p) ≤ 4 := (tubeFacts (tub_len r p r24 hp6) (vR_tub (fit_of G0.out.fit).1 p hp6)).lay4
          clear hm MO hpos
          obtain ⟨t, ht⟩ : ∃ t, nbAt r ds x j = t := ⟨_, rfl⟩
          rw [ht] at GT ES ET
          rw [← ET.out] at KM
          have t24 := GT.out.len
          clear ht ET
          obtain ⟨Sj, hSj⟩ : ∃ Sj, growR ds x Si r j = Sj := ⟨_, rfl⟩
          rw [hSj] at ES GM GB gr
          have hSj1 : S.length ≤ Sj.length := by omega
          have hSj2 : Sj.length ≤ 100000 - 10 := by omega
          clear hSj gr
          have ROW := Lib.hid (rack_row8 t24 (fit_of GT.out.fit).1)
          have KEY := Lib.hid (rack_key8 ROW.out)
          have hpi : (p : Int) < 6 := by omega
          have hqi : (q : Int) < 6 := by omega
          have RG := Lib.hid (range_prP GP.out j hjn hx hy)
          have NG : Hid (∀ z, u7.ownBlock = some z → z ≠ pg) := Lib.hid (fun z hz e => KN.out hn0 z hz (by rw [e]; rfl))
          clear hx hy hg1 hg2 KN
          have HP := Has.box (ns := [(p : Int), (q : Int)]) (n := 2) wr 44 rfl (by omega)
          have hlt1 := RB.lt
          replace BK := BK.alloc (.cells (ints [(p : Int), (q : Int)]).toArray 44)
          replace RB := RB.alloc (.cells (ints [(p : Int), (q : Int)]).toArray 44)
          replace GL := Lib.hid (GL.out.alloc (.cells (ints [(p : Int), (q : Int)]).toArray 44))
          replace GM := Lib.hid (GM.out.alloc (.cells (ints [(p : Int), (q : Int)]).toArray 44))
          replace GB := Lib.hid (GB.out.alloc (.cells (ints [(p : Int), (q : Int)]).toArray 44))
          replace GP := Lib.hid (GP.out.alloc (.cells (ints [(p : Int), (q : Int)]).toArray 44))
          replace GG := Lib.hid (gby_alloc GG.out (.cells (ints [(p : Int), (q : Int)]).toArray 44))
          have hit : (Try.prog.info? 27).map (·.size) = some (ints t).length := by rw [ints_len, t24]; kernel_rfl
          have HIT := Lib.hid hit
          have lt3 : (ints t).length = 24 := by rw [ints_len]; exact t24
          clear hit
          go_wp2_with (first | (refine wpList_load_mid rfl 44 _ rfl pg (j * 2) rfl (ints [(p : Int), (q : Int)]) _ RG.out Try.underlying44 rfl (by kernel_rfl) ?_) | (refine store_new rfl 44 _ _ rfl _ _ _ rfl _ rfl _ rfl rfl ?_ ?_ ?_; (· (first | assumption | rfl)); (· kernel_rfl)))
          obtain ⟨cb, hcb⟩ : ∃ cb, wr.heap.size = cb := ⟨_, rfl⟩
          rw [hcb] at HP ⊢
          generalize wr.alloc (.cells (ints [(p : Int), (q : Int)]).toArray 44) = V1 at *
          clear hcb RG hlt1
          go_cut [12] from 28 to 40 (fun s12 wx => ∃ cc : Nat, w.heap.size ≤ cc ∧ s12 = .pointer (some ⟨cc, 0, none⟩) ∧ Has wx cc t 24 ∧ Bk wx w.heap.size (pgA ds x) 58 ∧ Has wx rb r 24 ∧ Hid (Gr wx 0 27 24 (.slice (some ⟨g, 0, none⟩) N cap0) L) ∧ Hid (OwnV Try.prog wx 27 mb Sj.length 24 (seenR Sj)) ∧ Hid (Gr wx (w.heap.size + 1) 27 24 u7 (Sj.drop S.length)) ∧ Hid (Rw wx w.heap.size (.slice (some ⟨pg, 0, none⟩) n pcap) n F) ∧ Hid (w.grownBy wx (some mb)))
          case first =>
            replace BK := BK.drew
            replace RB := RB.drew
            replace HP := HP.drew
            replace GL := Lib.hid GL.out.drew
            replace GM : Hid (OwnV Try.prog V1.drew 27 mb Sj.length 24 (seenR Sj)) := Lib.hid (GM.out.block rfl)
            replace GB := Lib.hid GB.out.drew
            replace GP := Lib.hid GP.out.drew
            replace GG := Lib.hid (gby_drew GG.out)
            refine wp_region_held_drew (S := fun w' => Has w' rb r 24 ∧ Has w' cb [(p : Int), (q : Int)] 2 ∧ Bk w' w.heap.size (pgA ds x) 58) (by kernel_rfl) ⟨RB, HP, BK⟩ (fun hHeld => ?_)
            generalize V1.drew = V2 at *
            (refine wpAnyH_take (i := 0) (v := _) rfl (by kernel_rfl) (by kernel_rfl) (by kernel_rfl) (fun _ _ _ h => h) (yieldsIf_load_mid (by rfl) 27 _ rfl _ _ rfl (ints r) _ (fun w' hSw => hSw.1.holds.range) Try.underlying27 rfl (HI24.out)) hHeld ?_; (try simp only [List.getElem_toArray, List.getElem_cons_zero, List.getElem_cons_succ, Act.put, List.setIfInBounds_toArray, List.set_cons_zero, List.set_cons_succ]))
            (refine wpAnyH_take (i := 1) (v := ?_) rfl (by kernel_rfl) (by kernel_rfl) (by kernel_rfl) (fun _ _ _ h => h) (Or.inl ⟨by rfl, ?_⟩) hHeld ?_; rotate_left; (· (intro w' hSw; go_simp; try with_reducible rfl)); (try simp only [List.getElem_toArray, List.getElem_cons_zero, List.getElem_cons_succ, Act.put, List.setIfInBounds_toArray, List.set_cons_zero, List.set_cons_succ]))
            (refine wpAnyH_take (i := 2) (v := .int .i64 (p : Int)) rfl (by kernel_rfl) (by kernel_rfl) (by kernel_rfl) (fun _ _ _ h => h) (Or.inl ⟨by rfl, ?_⟩) hHeld ?_; (· (intro w' hSw; have q := hSw.2.1.cellE (k := 0) (x := (p : Int)) (by omega) rfl; clear hSw; go_simp; try with_reducible rfl)); (try simp only [List.getElem_toArray, List.getElem_cons_zero, List.getElem_cons_succ, Act.put, List.setIfInBounds_toArray, List.set_cons_zero, List.set_cons_succ]))
            (refine wpAnyH_take (i := 3) (v := ?_) rfl (by kernel_rfl) (by kernel_rfl) (by kernel_rfl) (fun _ _ _ h => h) (Or.inl ⟨by rfl, ?_⟩) hHeld ?_; rotate_left; (· (intro w' hSw; go_simp; try with_reducible rfl)); (try simp only [List.getElem_toArray, List.getElem_cons_zero, List.getElem_cons_succ, Act.put, List.setIfInBounds_toArray, List.set_cons_zero, List.set_cons_succ]))
            (refine wpAnyH_take (i := 4) (v := .int .i64 (q : Int)) rfl (by kernel_rfl) (by kernel_rfl) (by kernel_rfl) (fun _ _ _ h => h) (Or.inl ⟨by rfl, ?_⟩) hHeld ?_; (· (intro w' hSw; have q := hSw.2.1.cellE (k := 1) (x := (q : Int)) (by omega) rfl; clear hSw; go_simp; try with_reducible rfl)); (try simp only [List.getElem_toArray, List.getElem_cons_zero, List.getElem_cons_succ, Act.put, List.setIfInBounds_toArray, List.set_cons_zero, List.set_cons_succ]))
            (refine wpAnyH_take (i := 5) (v := _) rfl (by kernel_rfl) (by kernel_rfl) (by kernel_rfl) (fun _ _ _ h => h) (yieldsIf_load_mid (by rfl) 58 _ rfl _ _ rfl (pgA ds x) _ (fun w' hSw => hSw.2.2.range) Try.underlying58 rfl (HIP.out)) hHeld ?_; (try simp only [List.getElem_toArray, List.getElem_cons_zero, List.getElem_cons_succ, Act.put, List.setIfInBounds_toArray, List.set_cons_zero, List.set_cons_succ]))
            (refine wpAnyH_take (i := 6) (v := _) rfl (by kernel_rfl) (by kernel_rfl) (by kernel_rfl) (fun _ _ _ h => h) (yieldsIf_load_mid (by rfl) 27 _ rfl _ _ rfl (ints r) _ (fun w' hSw => hSw.1.holds.range) Try.underlying27 rfl (HI24.out)) hHeld ?_; (try simp only [List.getElem_toArray, List.getElem_cons_zero, List.getElem_cons_succ, Act.put, List.setIfInBounds_toArray, List.set_cons_zero, List.set_cons_succ]))
            (refine wpAnyH_take (i := 7) (v := ?_) rfl (by kernel_rfl) (by kernel_rfl) (by kernel_rfl) (fun _ _ _ h => h) (Or.inl ⟨by rfl, ?_⟩) hHeld ?_; rotate_left; (· (intro w' hSw; go_simp; try with_reducible rfl)); (try simp only [List.getElem_toArray, List.getElem_cons_zero, List.getElem_cons_succ, Act.put, List.setIfInBounds_toArray, List.set_cons_zero, List.set_cons_succ]))
            (refine wpAnyH_take (i := 8) (v := .int .i64 (p : Int)) rfl (by kernel_rfl) (by kernel_rfl) (by kernel_rfl) (fun _ _ _ h => h) (Or.inl ⟨by rfl, ?_⟩) hHeld ?_; (· (intro w' hSw; have q := hSw.2.1.cellE (k := 0) (x := (p : Int)) (by omega) rfl; clear hSw; go_simp; try with_reducible rfl)); (try simp only [List.getElem_toArray, List.getElem_cons_zero, List.getElem_cons_succ, Act.put, List.setIfInBounds_toArray, List.set_cons_zero, List.set_cons_succ]))
            (refine wpAnyH_take (i := 9) (v := ?_) rfl (by kernel_rfl) (by kernel_rfl) (by kernel_rfl) (fun _ _ _ h => h) (Or.inl ⟨by rfl, ?_⟩) hHeld ?_; rotate_left; (· (intro w' hSw; go_simp; try with_reducible rfl)); (try simp only [List.getElem_toArray, List.getElem_cons_zero, List.getElem_cons_succ, Act.put, List.setIfInBounds_toArray, List.set_cons_zero, List.set_cons_succ]))
            (refine wpAnyH_take (i := 10) (v := .int .i64 (q : Int)) rfl (by kernel_rfl) (by kernel_rfl) (by kernel_rfl) (fun _ _ _ h => h) (Or.inl ⟨by rfl, ?_⟩) hHeld ?_; (· (intro w' hSw; have q := hSw.2.1.cellE (k := 1) (x := (q : Int)) (by omega) rfl; clear hSw; go_simp; try with_reducible rfl)); (try simp only [List.getElem_toArray, List.getElem_cons_zero, List.getElem_cons_succ, Act.put, List.setIfInBounds_toArray, List.set_cons_zero, List.set_cons_succ]))
            refine wpAnyH_ready (rs := [11, 13]) (by kernel_rfl) (by simp) ?_
            refine AllReadyH.cons (o := _) rfl (fun K hK => ?_) (AllReadyH.cons (o := _) rfl (fun K hK => ?_) AllReadyH.nil)
            · (simp only [List.getElem_toArray, List.getElem_cons_zero, List.getElem_cons_succ, Region.wanted, if_true])
              go_simp
              refine (KV.out _).mono ?_
              rintro e wc1 ⟨rfl, bc1⟩
              dsimp only
              (try simp only [List.getElem_toArray, List.getElem_cons_zero, List.getElem_cons_succ, Act.put, List.setIfInBounds_toArray, List.set_cons_zero, List.set_cons_succ])
              refine hK.out _ _ ⟨hHeld.1.below bc1, hHeld.2.1.below bc1, hHeld.2.2.below bc1⟩ (fun hHeld => ?_)
              clear hK K
              replace BK := BK.below bc1
              replace RB := RB.below bc1
              replace HP := HP.below bc1
              replace GL := Lib.hid (GL.out.below bc1)
              replace GM := Lib.hid (GM.out.below bc1)
              replace GB := Lib.hid (GB.out.below bc1)
              replace GP := Lib.hid (GP.out.below bc1)
              replace GG := Lib.hid (gby_below GG.out bc1)
              clear bc1
              refine wpAnyH_ready (rs := [12, 13]) (by kernel_rfl) (by simp) ?_
              refine AllReadyH.cons (o := _) rfl (fun K hK => ?_) (AllReadyH.cons (o := _) rfl (fun K hK => ?_) AllReadyH.nil)
              · (simp only [List.getElem_toArray, List.getElem_cons_zero, List.getElem_cons_succ, Region.wanted, if_true])
                go_simp
                refine (KM.out _).mono ?_
                rintro e wc2 ⟨rfl, bc2⟩
                dsimp only
                (try simp only [List.getElem_toArray, List.getElem_cons_zero, List.getElem_cons_succ, Act.put, List.setIfInBounds_toArray, List.set_cons_zero, List.set_cons_succ])
                refine hK.out _ _ ⟨hHeld.1.below bc2, hHeld.2.1.below bc2, hHeld.2.2.below bc2⟩ (fun hHeld => ?_)
                clear hK K
                replace BK := BK.below bc2
                replace RB := RB.below bc2
                replace HP := HP.below bc2
                replace GL := Lib.hid (GL.out.below bc2)
                replace GM := Lib.hid (GM.out.below bc2)
                replace GB := Lib.hid (GB.out.below bc2)
                replace GP := Lib.hid (GP.out.below bc2)
                replace GG := Lib.hid (gby_below GG.out bc2)
                clear bc2
                (refine wpAnyH_ready (rs := [13]) (by kernel_rfl) (by simp) ?_; refine AllReadyH.cons (o := _) rfl (fun K hK => ?_) AllReadyH.nil; (simp only [List.getElem_toArray, List.getElem_cons_zero, List.getElem_cons_succ, Region.wanted, if_true]))
                go_simp
                refine hK.out _ _ ⟨hHeld.1.alloc _, hHeld.2.1.alloc _, hHeld.2.2.alloc _⟩ (fun hHeld => ?_)
                clear hK K
                have ltB := BK.lt
                have ltR := RB.lt
                have ltP := HP.lt
                have ltG := GG.out.size
                have nL := Lib.hid (fun z hz => (GL.out.own z hz).2)
                have nB := Lib.hid (fun z hz => (GB.out.own z hz).2)
                have nM := GM.out.lt
                have nP := Lib.hid (fun hn z hz => (GP.out.ownlt hn z hz).2)
                have Z : Has (wc2.alloc (.cells #[.int .i64 0, .int .i64 0, .int .i64 0, .int .i64 0, .int .i64 0, .int .i64 0, .int .i64 0, .int .i64 0, .int .i64 0, .int .i64 0, .int .i64 0, .int .i64 0, .int .i64 0, .int .i64 0, .int .i64 0, .int .i64 0, .int .i64 0, .int .i64 0, .int .i64 0, .int .i64 0, .int .i64 0, .int .i64 0, .int .i64 0, .int .i64 0] 27)) wc2.heap.size z24 24 := Has.box (ns := z24) wc2 27 rfl (by omega)
                replace BK := BK.alloc (.cells #[.int .i64 0, .int .i64 0, .int .i64 0, .int .i64 0, .int .i64 0, .int .i64 0, .int .i64 0, .int .i64 0, .int .i64 0, .int .i64 0, .int .i64 0, .int .i64 0, .int .i64 0, .int .i64 0, .int .i64 0, .int .i64 0, .int .i64 0, .int .i64 0, .int .i64 0, .int .i64 0, .int .i64 0, .int .i64 0, .int .i64 0, .int .i64 0] 27)
                replace RB := RB.alloc (.cells #[.int .i64 0, .int .i64 0, .int .i64 0, .int .i64 0, .int .i64 0, .int .i64 0, .int .i64 0, .int .i64 0, .int .i64 0, .int .i64 0, .int .i64 0, .int .i64 0, .int .i64 0, .int .i64 0, .int .i64 0, .int .i64 0, .int .i64 0, .int .i64 0, .int .i64 0, .int .i64 0, .int .i64 0, .int .i64 0, .int .i64 0, .int .i64 0] 27)
                replace HP := HP.alloc (.cells #[.int .i64 0, .int .i64 0, .int .i64 0, .int .i64 0, .int .i64 0, .int .i64 0, .int .i64 0, .int .i64 0, .int .i64 0, .int .i64 0, .int .i64 0, .int .i64 0, .int .i64 0, .int .i64 0, .int .i64 0, .int .i64 0, .int .i64 0, .int .i64 0, .int .i64 0, .int .i64 0, .int .i64 0, .int .i64 0, .int .i64 0, .int .i64 0] 27)
                replace GL := Lib.hid (GL.out.alloc (.cells #[.int .i64 0, .int .i64 0, .int .i64 0, .int .i64 0, .int .i64 0, .int .i64 0, .int .i64 0, .int .i64 0, .int .i64 0, .int .i64 0, .int .i64 0, .int .i64 0, .int .i64 0, .int .i64 0, .int .i64 0, .int .i64 0, .int .i64 0, .int .i64 0, .int .i64 0, .int .i64 0, .int .i64 0, .int .i64 0, .int .i64 0, .int .i64 0] 27))
                replace GM := Lib.hid (GM.out.alloc (.cells #[.int .i64 0, .int .i64 0, .int .i64 0, .int .i64 0, .int .i64 0, .int .i64 0, .int .i64 0, .int .i64 0, .int .i64 0, .int .i64 0, .int .i64 0, .int .i64 0, .int .i64 0, .int .i64 0, .int .i64 0, .int .i64 0, .int .i64 0, .int .i64 0, .int .i64 0, .int .i64 0, .int .i64 0, .int .i64 0, .int .i64 0, .int .i64 0] 27))
                replace GB := Lib.hid (GB.out.alloc (.cells #[.int .i64 0, .int .i64 0, .int .i64 0, .int .i64 0, .int .i64 0, .int .i64 0, .int .i64 0, .int .i64 0, .int .i64 0, .int .i64 0, .int .i64 0, .int .i64 0, .int .i64 0, .int .i64 0, .int .i64 0, .int .i64 0, .int .i64 0, .int .i64 0, .int .i64 0, .int .i64 0, .int .i64 0, .int .i64 0, .int .i64 0, .int .i64 0] 27))
                replace GP := Lib.hid (GP.out.alloc (.cells #[.int .i64 0, .int .i64 0, .int .i64 0, .int .i64 0, .int .i64 0, .int .i64 0, .int .i64 0, .int .i64 0, .int .i64 0, .int .i64 0, .int .i64 0, .int .i64 0, .int .i64 0, .int .i64 0, .int .i64 0, .int .i64 0, .int .i64 0, .int .i64 0, .int .i64 0, .int .i64 0, .int .i64 0, .int .i64 0, .int .i64 0, .int .i64 0] 27))
                replace GG := Lib.hid (gby_alloc GG.out (.cells #[.int .i64 0, .int .i64 0, .int .i64 0, .int .i64 0, .int .i64 0, .int .i64 0, .int .i64 0, .int .i64 0, .int .i64 0, .int .i64 0, .int .i64 0, .int .i64 0, .int .i64 0, .int .i64 0, .int .i64 0, .int .i64 0, .int .i64 0, .int .i64 0, .int .i64 0, .int .i64 0, .int .i64 0, .int .i64 0, .int .i64 0, .int .i64 0] 27))
                generalize hcc : wc2.heap.size = cc at *
                clear hcc
                generalize wc2.alloc (.cells #[.int .i64 0, .int .i64 0, .int .i64 0, .int .i64 0, .int .i64 0, .int .i64 0, .int .i64 0, .int .i64 0, .int .i64 0, .int .i64 0, .int .i64 0, .int .i64 0, .int .i64 0, .int .i64 0, .int .i64 0, .int .i64 0, .int .i64 0, .int .i64 0, .int .i64 0, .int .i64 0, .int .i64 0, .int .i64 0, .int .i64 0, .int .i64 0] 27) = WA3 at *
                (refine wpAnyH_ready (rs := [14]) (by kernel_rfl) (by simp) ?_; refine AllReadyH.cons (o := _) rfl (fun K hK => ?_) AllReadyH.nil; (simp only [List.getElem_toArray, List.getElem_cons_zero, List.getElem_cons_succ, Region.wanted, if_true]); refine wp_store_mid _ _ _ rfl _ _ (ints t).toArray rfl rfl (by simpa [lt3] using Z.there) (by simpa [lt3] using HIT.out) (all_oneCell_toArray (ints_one _)) ?_; (try simp only [List.getElem_toArray, List.getElem_cons_zero, List.getElem_cons_succ, Act.put, List.setIfInBounds_toArray, List.set_cons_zero, List.set_cons_succ, List.toList_toArray]); refine hK.out _ _ (⟨hHeld.1.putOther _ _ (by omega), hHeld.2.1.putOther _ _ (by omega), hHeld.2.2.putOther _ _ (by omega)⟩) (fun hHeld => ?_); clear hK K)
                refine wpAnyH_done (by kernel_rfl) ?_ _
                have HT := Z.putAll t t24
                replace BK := BK.putOther (q := cc) 0 (ints t) (by omega)
                replace RB := RB.putOther (b' := cc) 0 (ints t) (by omega)
                replace GL := Lib.hid (GL.out.puts cc 0 (ints t) (fun z hz => by have := nL.out z hz; omega))
                replace GM := Lib.hid (GM.out.puts (c := cc) (by omega) (ints t) 0)
                replace GB := Lib.hid (GB.out.puts cc 0 (ints t) (fun z hz => by have := nB.out z hz; omega))
                replace GP := Lib.hid (GP.out.puts cc 0 (ints t) (fun hn e => by have := nP.out hn cc e; omega))
                replace GG := Lib.hid (gby_puts GG.out cc 0 (ints t) (by omega))
                clear hHeld Z nL nB nM nP
                go_wp2_with fail
                go_meet
                case rel => exact ⟨cc, by omega, rfl, HT, BK, RB, GL, GM, GB, GP, GG⟩
              · (simp only [List.getElem_toArray, List.getElem_cons_zero, List.getElem_cons_succ, Region.wanted, if_true])
                go_simp
                refine hK.out _ _ ⟨hHeld.1.alloc _, hHeld.2.1.alloc _, hHeld.2.2.alloc _⟩ (fun hHeld => ?_)
                clear hK K
                have ltB := BK.lt
                have ltR := RB.lt
                have ltP := HP.lt
                have ltG := GG.out.size
                have nL := Lib.hid (fun z hz => (GL.out.own z hz).2)
                have nB := Lib.hid (fun z hz => (GB.out.own z hz).2)
                have nM := GM.out.lt
                have nP := Lib.hid (fun hn z hz => (GP.out.ownlt hn z hz).2)
                have Z : Has (wc1.alloc (.cells #[.int .i64 0, .int .i64 0, .int .i64 0, .int .i64 0, .int .i64 0, .int .i64 0, .int .i64 0, .int .i64 0, .int .i64 0, .int .i64 0, .int .i64 0, .int .i64 0, .int .i64 0, .int .i64 0, .int .i64 0, .int .i64 0, .int .i64 0, .int .i64 0, .int .i64 0, .int .i64 0, .int .i64 0, .int .i64 0, .int .i64 0, .int .i64 0] 27)) wc1.heap.size z24 24 := Has.box (ns := z24) wc1 27 rfl (by omega)
                replace BK := BK.alloc (.cells #[.int .i64 0, .int .i64 0, .int .i64 0, .int .i64 0, .int .i64 0, .int .i64 0, .int .i64 0, .int .i64 0, .int .i64 0, .int .i64 0, .int .i64 0, .int .i64 0, .int .i64 0, .int .i64 0, .int .i64 0, .int .i64 0, .int .i64 0, .int .i64 0, .int .i64 0, .int .i64 0, .int .i64 0, .int .i64 0, .int .i64 0, .int .i64 0] 27)
                replace RB := RB.alloc (.cells #[.int .i64 0, .int .i64 0, .int .i64 0, .int .i64 0, .int .i64 0, .int .i64 0, .int .i64 0, .int .i64 0, .int .i64 0, .int .i64 0, .int .i64 0, .int .i64 0, .int .i64 0, .int .i64 0, .int .i64 0, .int .i64 0, .int .i64 0, .int .i64 0, .int .i64 0, .int .i64 0, .int .i64 0, .int .i64 0, .int .i64 0, .int .i64 0] 27)
                replace HP := HP.alloc (.cells #[.int .i64 0, .int .i64 0, .int .i64 0, .int .i64 0, .int .i64 0, .int .i64 0, .int .i64 0, .int .i64 0, .int .i64 0, .int .i64 0, .int .i64 0, .int .i64 0, .int .i64 0, .int .i64 0, .int .i64 0, .int .i64 0, .int .i64 0, .int .i64 0, .int .i64 0, .int .i64 0, .int .i64 0, .int .i64 0, .int .i64 0, .int .i64 0] 27)
                replace GL := Lib.hid (GL.out.alloc (.cells #[.int .i64 0, .int .i64 0, .int .i64 0, .int .i64 0, .int .i64 0, .int .i64 0, .int .i64 0, .int .i64 0, .int .i64 0, .int .i64 0, .int .i64 0, .int .i64 0, .int .i64 0, .int .i64 0, .int .i64 0, .int .i64 0, .int .i64 0, .int .i64 0, .int .i64 0, .int .i64 0, .int .i64 0, .int .i64 0, .int .i64 0, .int .i64 0] 27))
                replace GM := Lib.hid (GM.out.alloc (.cells #[.int .i64 0, .int .i64 0, .int .i64 0, .int .i64 0, .int .i64 0, .int .i64 0, .int .i64 0, .int .i64 0, .int .i64 0, .int .i64 0, .int .i64 0, .int .i64 0, .int .i64 0, .int .i64 0, .int .i64 0, .int .i64 0, .int .i64 0, .int .i64 0, .int .i64 0, .int .i64 0, .int .i64 0, .int .i64 0, .int .i64 0, .int .i64 0] 27))
                replace GB := Lib.hid (GB.out.alloc (.cells #[.int .i64 0, .int .i64 0, .int .i64 0, .int .i64 0, .int .i64 0, .int .i64 0, .int .i64 0, .int .i64 0, .int .i64 0, .int .i64 0, .int .i64 0, .int .i64 0, .int .i64 0, .int .i64 0, .int .i64 0, .int .i64 0, .int .i64 0, .int .i64 0, .int .i64 0, .int .i64 0, .int .i64 0, .int .i64 0, .int .i64 0, .int .i64 0] 27))
                replace GP := Lib.hid (GP.out.alloc (.cells #[.int .i64 0, .int .i64 0, .int .i64 0, .int .i64 0, .int .i64 0, .int .i64 0, .int .i64 0, .int .i64 0, .int .i64 0, .int .i64 0, .int .i64 0, .int .i64 0, .int .i64 0, .int .i64 0, .int .i64 0, .int .i64 0, .int .i64 0, .int .i64 0, .int .i64 0, .int .i64 0, .int .i64 0, .int .i64 0, .int .i64 0, .int .i64 0] 27))
                replace GG := Lib.hid (gby_alloc GG.out (.cells #[.int .i64 0, .int .i64 0, .int .i64 0, .int .i64 0, .int .i64 0, .int .i64 0, .int .i64 0, .int .i64 0, .int .i64 0, .int .i64 0, .int .i64 0, .int .i64 0, .int .i64 0, .int .i64 0, .int .i64 0, .int .i64 0, .int .i64 0, .int .i64 0, .int .i64 0, .int .i64 0, .int .i64 0, .int .i64 0, .int .i64 0, .int .i64 0] 27))
                generalize hcc : wc1.heap.size = cc at *
                clear hcc
                generalize wc1.alloc (.cells #[.int .i64 0, .int .i64 0, .int .i64 0, .int .i64 0, .int .i64 0, .int .i64 0, .int .i64 0, .int .i64 0, .int .i64 0, .int .i64 0, .int .i64 0, .int .i64 0, .int .i64 0, .int .i64 0, .int .i64 0, .int .i64 0, .int .i64 0, .int .i64 0, .int .i64 0, .int .i64 0, .int .i64 0, .int .i64 0, .int .i64 0, .int .i64 0] 27) = WA4 at *
                (refine wpAnyH_ready (rs := [12]) (by kernel_rfl) (by simp) ?_; refine AllReadyH.cons (o := _) rfl (fun K hK => ?_) AllReadyH.nil; (simp only [List.getElem_toArray, List.getElem_cons_zero, List.getElem_cons_succ, Region.wanted, if_true]))
                go_simp
                refine (KM.out _).mono ?_
                rintro e wc5 ⟨rfl, bc5⟩
                dsimp only
                (try simp only [List.getElem_toArray, List.getElem_cons_zero, List.getElem_cons_succ, Act.put, List.setIfInBounds_toArray, List.set_cons_zero, List.set_cons_succ])
                refine hK.out _ _ ⟨hHeld.1.below bc5, hHeld.2.1.below bc5, hHeld.2.2.below bc5⟩ (fun hHeld => ?_)
                clear hK K
                replace BK := BK.below bc5
                replace RB := RB.below bc5
                replace HP := HP.below bc5
                replace GL := Lib.hid (GL.out.below bc5)
                replace GM := Lib.hid (GM.out.below bc5)
                replace GB := Lib.hid (GB.out.below bc5)
                replace GP := Lib.hid (GP.out.below bc5)
                replace GG := Lib.hid (gby_below GG.out bc5)
                replace Z := Z.below bc5
                clear bc5
                (refine wpAnyH_ready (rs := [14]) (by kernel_rfl) (by simp) ?_; refine AllReadyH.cons (o := _) rfl (fun K hK => ?_) AllReadyH.nil; (simp only [List.getElem_toArray, List.getElem_cons_zero, List.getElem_cons_succ, Region.wanted, if_true]); refine wp_store_mid _ _ _ rfl _ _ (ints t).toArray rfl rfl (by simpa [lt3] using Z.there) (by simpa [lt3] using HIT.out) (all_oneCell_toArray (ints_one _)) ?_; (try simp only [List.getElem_toArray, List.getElem_cons_zero, List.getElem_cons_succ, Act.put, List.setIfInBounds_toArray, List.set_cons_zero, List.set_cons_succ, List.toList_toArray]); refine hK.out _ _ (⟨hHeld.1.putOther _ _ (by omega), hHeld.2.1.putOther _ _ (by omega), hHeld.2.2.putOther _ _ (by omega)⟩) (fun hHeld => ?_); clear hK K)
                refine wpAnyH_done (by kernel_rfl) ?_ _
                have HT := Z.putAll t t24
                replace BK := BK.putOther (q := cc) 0 (ints t) (by omega)
                replace RB := RB.putOther (b' := cc) 0 (ints t) (by omega)
                replace GL := Lib.hid (GL.out.puts cc 0 (ints t) (fun z hz => by have := nL.out z hz; omega))
                replace GM := Lib.hid (GM.out.puts (c := cc) (by omega) (ints t) 0)
                replace GB := Lib.hid (GB.out.puts cc 0 (ints t) (fun z hz => by have := nB.out z hz; omega))
                replace GP := Lib.hid (GP.out.puts cc 0 (ints t) (fun hn e => by have := nP.out hn cc e; omega))
                replace GG := Lib.hid (gby_puts GG.out cc 0 (ints t) (by omega))
                clear hHeld Z nL nB nM nP
                go_wp2_with fail
                go_meet
                case rel => exact ⟨cc, by omega, rfl, HT, BK, RB, GL, GM, GB, GP, GG⟩
            · (simp only [List.getElem_toArray, List.getElem_cons_zero, List.getElem_cons_succ, Region.wanted, if_true])
              go_simp
              refine hK.out _ _ ⟨hHeld.1.alloc _, hHeld.2.1.alloc _, hHeld.2.2.alloc _⟩ (fun hHeld => ?_)
              clear hK K
              have ltB := BK.lt
              have ltR := RB.lt
              have ltP := HP.lt
              have ltG := GG.out.size
              have nL := Lib.hid (fun z hz => (GL.out.own z hz).2)
              have nB := Lib.hid (fun z hz => (GB.out.own z hz).2)
              have nM := GM.out.lt
              have nP := Lib.hid (fun hn z hz => (GP.out.ownlt hn z hz).2)
              have Z : Has (V2.alloc (.cells #[.int .i64 0, .int .i64 0, .int .i64 0, .int .i64 0, .int .i64 0, .int .i64 0, .int .i64 0, .int .i64 0, .int .i64 0, .int .i64 0, .int .i64 0, .int .i64 0, .int .i64 0, .int .i64 0, .int .i64 0, .int .i64 0, .int .i64 0, .int .i64 0, .int .i64 0, .int .i64 0, .int .i64 0, .int .i64 0, .int .i64 0, .int .i64 0] 27)) V2.heap.size z24 24 := Has.box (ns := z24) V2 27 rfl (by omega)
              replace BK := BK.alloc (.cells #[.int .i64 0, .int .i64 0, .int .i64 0, .int .i64 0, .int .i64 0, .int .i64 0, .int .i64 0, .int .i64 0, .int .i64 0, .int .i64 0, .int .i64 0, .int .i64 0, .int .i64 0, .int .i64 0, .int .i64 0, .int .i64 0, .int .i64 0, .int .i64 0, .int .i64 0, .int .i64 0, .int .i64 0, .int .i64 0, .int .i64 0, .int .i64 0] 27)
              replace RB := RB.alloc (.cells #[.int .i64 0, .int .i64 0, .int .i64 0, .int .i64 0, .int .i64 0, .int .i64 0, .int .i64 0, .int .i64 0, .int .i64 0, .int .i64 0, .int .i64 0, .int .i64 0, .int .i64 0, .int .i64 0, .int .i64 0, .int .i64 0, .int .i64 0, .int .i64 0, .int .i64 0, .int .i64 0, .int .i64 0, .int .i64 0, .int .i64 0, .int .i64 0] 27)
              replace HP := HP.alloc (.cells #[.int .i64 0, .int .i64 0, .int .i64 0, .int .i64 0, .int .i64 0, .int .i64 0, .int .i64 0, .int .i64 0, .int .i64 0, .int .i64 0, .int .i64 0, .int .i64 0, .int .i64 0, .int .i64 0, .int .i64 0, .int .i64 0, .int .i64 0, .int .i64 0, .int .i64 0, .int .i64 0, .int .i64 0, .int .i64 0, .int .i64 0, .int .i64 0] 27)
              replace GL := Lib.hid (GL.out.alloc (.cells #[.int .i64 0, .int .i64 0, .int .i64 0, .int .i64 0, .int .i64 0, .int .i64 0, .int .i64 0, .int .i64 0, .int .i64 0, .int .i64 0, .int .i64 0, .int .i64 0, .int .i64 0, .int .i64 0, .int .i64 0, .int .i64 0, .int .i64 0, .int .i64 0, .int .i64 0, .int .i64 0, .int .i64 0, .int .i64 0, .int .i64 0, .int .i64 0] 27))
              replace GM := Lib.hid (GM.out.alloc (.cells #[.int .i64 0, .int .i64 0, .int .i64 0, .int .i64 0, .int .i64 0, .int .i64 0, .int .i64 0, .int .i64 0, .int .i64 0, .int .i64 0, .int .i64 0, .int .i64 0, .int .i64 0, .int .i64 0, .int .i64 0, .int .i64 0, .int .i64 0, .int .i64 0, .int .i64 0, .int .i64 0, .int .i64 0, .int .i64 0, .int .i64 0, .int .i64 0] 27))
              replace GB := Lib.hid (GB.out.alloc (.cells #[.int .i64 0, .int .i64 0, .int .i64 0, .int .i64 0, .int .i64 0, .int .i64 0, .int .i64 0, .int .i64 0, .int .i64 0, .int .i64 0, .int .i64 0, .int .i64 0, .int .i64 0, .int .i64 0, .int .i64 0, .int .i64 0, .int .i64 0, .int .i64 0, .int .i64 0, .int .i64 0, .int .i64 0, .int .i64 0, .int .i64 0, .int .i64 0] 27))
              replace GP := Lib.hid (GP.out.alloc (.cells #[.int .i64 0, .int .i64 0, .int .i64 0, .int .i64 0, .int .i64 0, .int .i64 0, .int .i64 0, .int .i64 0, .int .i64 0, .int .i64 0, .int .i64 0, .int .i64 0, .int .i64 0, .int .i64 0, .int .i64 0, .int .i64 0, .int .i64 0, .int .i64 0, .int .i64 0, .int .i64 0, .int .i64 0, .int .i64 0, .int .i64 0, .int .i64 0] 27))
              replace GG := Lib.hid (gby_alloc GG.out (.cells #[.int .i64 0, .int .i64 0, .int .i64 0, .int .i64 0, .int .i64 0, .int .i64 0, .int .i64 0, .int .i64 0, .int .i64 0, .int .i64 0, .int .i64 0, .int .i64 0, .int .i64 0, .int .i64 0, .int .i64 0, .int .i64 0, .int .i64 0, .int .i64 0, .int .i64 0, .int .i64 0, .int .i64 0, .int .i64 0, .int .i64 0, .int .i64 0] 27))
              generalize hcc : V2.heap.size = cc at *
              clear hcc
              generalize V2.alloc (.cells #[.int .i64 0, .int .i64 0, .int .i64 0, .int .i64 0, .int .i64 0, .int .i64 0, .int .i64 0, .int .i64 0, .int .i64 0, .int .i64 0, .int .i64 0, .int .i64 0, .int .i64 0, .int .i64 0, .int .i64 0, .int .i64 0, .int .i64 0, .int .i64 0, .int .i64 0, .int .i64 0, .int .i64 0, .int .i64 0, .int .i64 0, .int .i64 0] 27) = WA6 at *
              (refine wpAnyH_ready (rs := [11]) (by kernel_rfl) (by simp) ?_; refine AllReadyH.cons (o := _) rfl (fun K hK => ?_) AllReadyH.nil; (simp only [List.getElem_toArray, List.getElem_cons_zero, List.getElem_cons_succ, Region.wanted, if_true]))
              go_simp
              refine (KV.out _).mono ?_
              rintro e wc7 ⟨rfl, bc7⟩
              dsimp only
              (try simp only [List.getElem_toArray, List.getElem_cons_zero, List.getElem_cons_succ, Act.put, List.setIfInBounds_toArray, List.set_cons_zero, List.set_cons_succ])
              refine hK.out _ _ ⟨hHeld.1.below bc7, hHeld.2.1.below bc7, hHeld.2.2.below bc7⟩ (fun hHeld => ?_)
              clear hK K
              replace BK := BK.below bc7
              replace RB := RB.below bc7
              replace HP := HP.below bc7
              replace GL := Lib.hid (GL.out.below bc7)
              replace GM := Lib.hid (GM.out.below bc7)
              replace GB := Lib.hid (GB.out.below bc7)
              replace GP := Lib.hid (GP.out.below bc7)
              replace GG := Lib.hid (gby_below GG.out bc7)
              replace Z := Z.below bc7
              clear bc7
              (refine wpAnyH_ready (rs := [12]) (by kernel_rfl) (by simp) ?_; refine AllReadyH.cons (o := _) rfl (fun K hK => ?_) AllReadyH.nil; (simp only [List.getElem_toArray, List.getElem_cons_zero, List.getElem_cons_succ, Region.wanted, if_true]))
              go_simp
              refine (KM.out _).mono ?_
              rintro e wc8 ⟨rfl, bc8⟩
              dsimp only
              (try simp only [List.getElem_toArray, List.getElem_cons_zero, List.getElem_cons_succ, Act.put, List.setIfInBounds_toArray, List.set_cons_zero, List.set_cons_succ])
              refine hK.out _ _ ⟨hHeld.1.below bc8, hHeld.2.1.below bc8, hHeld.2.2.below bc8⟩ (fun hHeld => ?_)
              clear hK K
              replace BK := BK.below bc8
              replace RB := RB.below bc8
              replace HP := HP.below bc8
              replace GL := Lib.hid (GL.out.below bc8)
              replace GM := Lib.hid (GM.out.below bc8)
              replace GB := Lib.hid (GB.out.below bc8)
              replace GP := Lib.hid (GP.out.below bc8)
              replace GG := Lib.hid (gby_below GG.out bc8)
              replace Z := Z.below bc8
              clear bc8
              (refine wpAnyH_ready (rs := [14]) (by kernel_rfl) (by simp) ?_; refine AllReadyH.cons (o := _) rfl (fun K hK => ?_) AllReadyH.nil; (simp only [List.getElem_toArray, List.getElem_cons_zero, List.getElem_cons_succ, Region.wanted, if_true]); refine wp_store_mid _ _ _ rfl _ _ (ints t).toArray rfl rfl (by simpa [lt3] using Z.there) (by simpa [lt3] using HIT.out) (all_oneCell_toArray (ints_one _)) ?_; (try simp only [List.getElem_toArray, List.getElem_cons_zero, List.getElem_cons_succ, Act.put, List.setIfInBounds_toArray, List.set_cons_zero, List.set_cons_succ, List.toList_toArray]); refine hK.out _ _ (⟨hHeld.1.putOther _ _ (by omega), hHeld.2.1.putOther _ _ (by omega), hHeld.2.2.putOther _ _ (by omega)⟩) (fun hHeld => ?_); clear hK K)
              refine wpAnyH_done (by kernel_rfl) ?_ _
              have HT := Z.putAll t t24
              replace BK := BK.putOther (q := cc) 0 (ints t) (by omega)
              replace RB := RB.putOther (b' := cc) 0 (ints t) (by omega)
              replace GL := Lib.hid (GL.out.puts cc 0 (ints t) (fun z hz => by have := nL.out z hz; omega))
              replace GM := Lib.hid (GM.out.puts (c := cc) (by omega) (ints t) 0)
              replace GB := Lib.hid (GB.out.puts cc 0 (ints t) (fun z hz => by have := nB.out z hz; omega))
              replace GP := Lib.hid (GP.out.puts cc 0 (ints t) (fun hn e => by have := nP.out hn cc e; omega))
              replace GG := Lib.hid (gby_puts GG.out cc 0 (ints t) (by omega))
              clear hHeld Z nL nB nM nP
              go_wp2_with fail
              go_meet
              case rel => exact ⟨cc, by omega, rfl, HT, BK, RB, GL, GM, GB, GP, GG⟩
          clear BK RB GL GM GB GP GG HP
          obtain ⟨cc, hccw, rfl, HT, BK, RB, GL, GM, GB, GP, GG⟩ := hcut
          obtain ⟨dl, hdle⟩ : ∃ dl, (Sj.drop S.length).length = dl := ⟨_, rfl⟩
          have hdl : dl ≤ 100000 := by rw [← hdle, List.length_drop]; omega
          have HDL := Lib.hid hdle
          clear hdle
          clear KM KV
          by_cases hin : t ∈ Sj
          · have D1 := Lib.hid (show growR ds x Si r (j + 1) = Sj by rw [ES.out]; unfold insL; rw [if_pos hin])
            have KN2 : Hid (0 < n → ∀ z, u7.ownBlock = some z → (Value.slice (some ⟨pg, 0, none⟩) n pcap).ownBlock ≠ some z) := Lib.hid (fun hn z hz e => NG.out z hz (Option.some.inj (show some pg = some z from e)).symm)
            have q1 : (seenR Sj t).getD (.bool false) = .bool true := by rw [seenR_get, decide_eq_true hin]
            clear hin ES
            go_wp2_with (first | (refine load_has rfl 27 _ rfl _ rfl ?_ 24 ?_ _ Try.underlying27 rfl ?_ ?_; rotate_left; (· (repeat (first | (with_reducible assumption) | ((with_reducible refine Has.box _ _ ?_ ?_) <;> (first | assumption | decide)) | (with_reducible refine Has.alloc ?_ _) | ((with_reducible refine Has.putOther ?_ _ _ ?_); rotate_left; omega; skip) | ((with_reducible refine Has.below ?_ ?_); rotate_left; assumption)))); (· kernel_rfl)) | (refine lookupV rfl _ _ 62 rfl 27 4 rackKeyed8 Try.underlying62 (zeroBool8 _) mb Sj.length 24 _ GM.out rfl (.agg (ints t).toArray) rfl t ROW.out KEY.out ?_; rw [q1]))
            go_roundw
            case rel => exact ⟨j + 1, by omega, by go_num, BK, RB, GL, by rw [D1.out]; exact GM, by rw [D1.out]; exact GB, GP, GG, KN2, KRB⟩
            case measure => simp [intOf]; omega
          · obtain ⟨sp1, sp2⟩ := seenR_put Sj t hin
            have SP1 := Lib.hid sp1
            have SP2 := Lib.hid sp2
            have D1 := Lib.hid (show growR ds x Si r (j + 1) = Sj ++ [t] by rw [ES.out]; unfold insL; rw [if_neg hin])
            have D2 := Lib.hid (show (Sj ++ [t]).drop S.length = Sj.drop S.length ++ [t] from List.drop_append_of_le_length hSj1)
            have q1 : (seenR Sj t).getD (.bool false) = .bool false := by rw [seenR_get, decide_eq_false hin]
            have hmx : Sj.length < maxLen := by unfold maxLen; omega
            clear hin ES sp1 sp2
            go_upto_region 11 with (first | (refine load_has rfl 27 _ rfl _ rfl ?_ 24 ?_ _ Try.underlying27 rfl ?_ ?_; rotate_left; (· (repeat (first | (with_reducible assumption) | ((with_reducible refine Has.box _ _ ?_ ?_) <;> (first | assumption | decide)) | (with_reducible refine Has.alloc ?_ _) | ((with_reducible refine Has.putOther ?_ _ _ ?_); rotate_left; omega; skip) | ((with_reducible refine Has.below ?_ ?_); rotate_left; assumption)))); (· kernel_rfl)) | (refine lookupV rfl _ _ 62 rfl 27 4 rackKeyed8 Try.underlying62 (zeroBool8 _) mb Sj.length 24 _ GM.out rfl (.agg (ints t).toArray) rfl t ROW.out KEY.out ?_; rw [q1]) | (refine updateV rfl _ _ _ 62 rfl 27 4 rackKeyed8 Try.underlying62 mb Sj.length 24 _ GM.out hmx rfl (.agg (ints t).toArray) (.bool true) rfl rfl t ROW.out KEY.out ?_; intro w4 hM hgM))
            rw [SP1.out] at hM
            have GM4 := Lib.hid (hM.as (fun l _ => SP2.out l))
            have bk := BK.lt
            have hrn := RB.lt
            have BK4 := BK.grown hgM (fun e => by have e := Option.some.inj e; omega)
            have RB4 := RB.grownNo hgM (fun e => by have e := Option.some.inj e; omega)
            have HT4 := HT.grownNo hgM (fun e => by have e := Option.some.inj e; omega)
            have GL4 := Lib.hid (GL.out.kept hgM (fun z hz e => by have e := Option.some.inj e; exact HNE.out z hz e.symm))
            have GB4 := Lib.hid (GB.out.kept hgM (fun z hz e => by have e := Option.some.inj e; have := (GB.out.own z hz).1; omega))
            have GP4 := Lib.hid (GP.out.grownP hgM (fun hn k hk => .inr (fun e => by have hk := Option.some.inj hk; have := (GP.out.ownlt hn k e).1; omega)))
            have GG4 := Lib.hid (gby_trans GG.out hgM)
            clear GM GL GB GP GG BK RB HT hM hgM SP1 SP2 q1 bk hrn
            have gw := GG4.out.size
            have hbk4 := BK4.lt
            go_wp2_with (first | (refine load_has rfl 27 _ rfl _ rfl ?_ 24 ?_ _ Try.underlying27 rfl ?_ ?_; rotate_left; (· (repeat (first | (with_reducible assumption) | ((with_reducible refine Has.box _ _ ?_ ?_) <;> (first | assumption | decide)) | (with_reducible refine Has.alloc ?_ _) | ((with_reducible refine Has.putOther ?_ _ _ ?_); rotate_left; omega; skip) | ((with_reducible refine Has.below ?_ ?_); rotate_left; assumption)))); (· kernel_rfl)) | (refine wpList_slice1 rfl 61 27 _ rfl 24 192 Try.underlying61 (by kernel_rfl) (by omega) (by omega) t rfl t24 ?_) | (at_builtin; refine append_gr rfl _ _ 61 rfl (w.heap.size + 1) 27 24 192 Try.underlying61 (by kernel_rfl) (by omega) (by omega) _ dl (Sj.drop S.length) HDL.out rfl (GB4.out.alloc _) w4.heap.size 1 rfl t (Has.box w4 27 t24 (by omega)) (by rw [size1]; omega) (by omega) ?_; intro g' cu' w7 hG hgrow hlie hlt7))
            have OWB := Lib.hid (fun z hz => (GB4.out.own z hz).1)
            have BK5 := (BK4.alloc (.cells (ints t).toArray 27)).grown hgrow (fun e => by have := OWB.out _ e.symm; omega)
            have RB5 := (RB4.alloc (.cells (ints t).toArray 27)).grownNo hgrow (fun e => KRB.out rb e.symm rfl)
            have GL5 := Lib.hid ((GL4.out.alloc (.cells (ints t).toArray 27)).kept hgrow (fun z hz e => by have h1 := XL.out z hz; have := OWB.out z e; omega))
            have GM5 := Lib.hid ((GM4.out.alloc (.cells (ints t).toArray 27)).grown hgrow (fun e => by have := OWB.out _ e.symm; omega))
            have GP5 := Lib.hid ((GP4.out.alloc (.cells (ints t).toArray 27)).grownP hgrow (fun hn k hk => .inr (fun e => NG.out k hk (Option.some.inj (show some pg = some k from e)).symm)))
            have GG5 := Lib.hid (gby_new (gby_alloc GG4.out (.cells (ints t).toArray 27)) hgrow (fun z hz => by have := OWB.out z hz; omega))
            have GB5 := Lib.hid (hG.as D2.out.symm)
            have hpl := (GP4.out.lt hn0).2
            have KN2 : Hid (0 < n → ∀ z, (Value.slice (some ⟨g', 0, none⟩) (dl + 1) cu').ownBlock = some z → (Value.slice (some ⟨pg, 0, none⟩) n pcap).ownBlock ≠ some z) := Lib.hid (fun hn z hz e => by
              have h1 := Option.some.inj (show some g' = some z from hz)
              have h2 := Option.some.inj (show some pg = some z from e)
              rcases hlie with h3 | h3
              · exact NG.out g' h3 (by omega)
              · rw [size1] at h3; omega)
            have hrb4 := RB4.lt
            have KRB2 : Hid (∀ z, (Value.slice (some ⟨g', 0, none⟩) (dl + 1) cu').ownBlock = some z → z ≠ rb) := Lib.hid (fun z hz => by
              have h1 := Option.some.inj (show some g' = some z from hz)
              rcases hlie with h3 | h3
              · rw [← h1]; exact KRB.out g' h3
              · rw [size1] at h3; omega)
            clear hG hgrow hlie hlt7 hrb4 GM4 GL4 GB4 GP4 GG4 hpl OWB gw hbk4
            go_wp2_with fail
            go_roundw
            case rel => exact ⟨j + 1, by omega, by go_num, BK5, RB5, GL5, by rw [D1.out]; exact GM5, by rw [D1.out]; exact GB5, GP5, GG5, KN2, KRB2⟩
            case measure => simp [intOf]; omega
        · obtain rfl : j = n := by omega
          go_wp2_with fail
          go_roundw
          case rel => exact ⟨i + 1, by omega, by go_num, BK, GL, by rw [EG.out]; exact GM, by rw [EG.out]; exact GB, GG⟩
          case measure => simp [intOf]; omega
    · obtain rfl : i = N := by omega
      go_wp2_with fail
      go_ret
      exact ⟨_, rfl, GB.out.mono (by omega), GM.out, GG.out⟩
end Go.Proofs.Ytglhinihhlmgeac.base
end

section
namespace Go.Proofs.Ytglhinihhlmgeac.base
open Go.ChangeShapes Go.WideShapes Go.ChangeAt Go.RowKit Go.Maps
set_option linter.unusedVariables false
set_option linter.unusedSimpArgs false

theorem Gr.one8 (w : World) (b : Nat) (t : TypeId) (x : List Int) (hx : x.length = 24) (hb : b ≤ w.heap.size) : Gr (w.alloc (.cells (ints x).toArray t)) b t 24 (.slice (some ⟨w.heap.size, 0, Option.none⟩) 1 1) [x] := by
  have := World.ownsRow_lit (base := b) (e := t) (size := 24) w (ints x).toArray 1 hb (by unfold maxLen; omega) (by simp [ints_len, hx])
  exact ⟨by simpa using this, fun l hl => by rw [List.mem_singleton.1 hl]; exact hx⟩
section
variable {P : Program} {w : World} {o : Oper} {a : Act} {K : Act → World → Prop} {Q : Exit → Act → World → Prop}
theorem wp_insertV (m x v : Operand) (t : TypeId) (hop : o.op = Op.insert t m x v) (K' e : TypeId) (KL : Keyed P K') (ht : P.underlying t = some (.map K' e))
    (b n L : Nat) (f : List Int → Option Value) (hown : OwnV P w K' b n L f) (hn : n < maxLen) (hm : a.eval m = .map (some b)) (key val : Value) (hx : a.eval x = key) (hv : a.eval v = val) (r : List Int) (hr : KeyRow L r) (hkey : keyOf P K' key = some (keyL r))
    (h : ∀ w', OwnV P w' K' b (if (f r).isSome then n else n + 1) L (mapPut f r val) → w.grownBy w' (some b) → K (a.put o.dst undef) w') : Oper.wp P o a w K Q := by
  obtain ⟨w', hrun, r1, r2⟩ := hown.store (val := val) KL ht hn hr hkey
  unfold Oper.wp
  simp only [execOp, hop, hm, hx, hv, hrun, Result.andThen, Sem.run_bind, Result.andThen_ok, Sem.run_pure]
  exact h w' r1 r2
end
theorem OwnV.seen1 {w : World} {mb : Nat} {r : List Int} (h : OwnV Try.prog w 27 mb (if ((fun _ => none : List Int → Option Value) r).isSome then 0 else 0 + 1) 24 (mapPut (fun _ => none) r (.bool true))) : OwnV Try.prog w 27 mb 1 24 (seenR [r]) := by
  refine OwnV.as (m := mapPut (fun _ => none) r (.bool true)) h (fun l _ => ?_)
  unfold mapPut seenR
  by_cases e : l = r
  · subst e; rw [if_pos rfl, if_pos (List.mem_singleton.2 rfl)]
  · rw [if_neg e, if_neg (fun h => e (List.mem_singleton.1 h))]

/-- How many racks at most n pours lead to. -/
def reOk (ns ds : List Int) (x n : Int) : Bool := byOk ns ds x && decide (0 ≤ n ∧ n ≤ 2)
def reA (ns ds : List Int) (x n : Int) : Int := if reOk ns ds x n = true then (((rkP ds x ns n.toNat).1.length : Nat) : Int) else 0

set_option maxHeartbeats 6400000 in
set_option maxRecDepth 100000 in
theorem implReach (ns ds : List Int) (x n : Int) (w : World) (h24 : ns.length = 24) (h6 : ds.length = 6) :
    Calls Try.prog 9 #[row ns, row ds, .int .i64 x, .int .i64 n] w fun e w' => e = .returned (.tuple #[.int .i64 (reA ns ds x n), .bool (reOk ns ds x n)]) ∧ Kept w w' := by
  have HB := Lib.hid (((kept_refl w).alloc (.cells (ints ns).toArray 27)).alloc (.cells (ints ds).toArray 28))
  have H := (Has.box w 27 h24 (by omega)).alloc (.cells (ints ds).toArray 28)
  have D := (Has.box (w.alloc (.cells (ints ns).toArray 27)) 28 h6 (by omega)).at (size1 _ _)
  have lg := pgR_len ns ds x h6
  have hiR : (Try.prog.info? 27).map (·.size) = some (ints ns).length := by rw [ints_len, h24]; kernel_rfl
  have HIR := Lib.hid hiR
  clear hiR
  rw [row_ints, row_ints]
  go_enter Try.func9, Try.ntmps9
  go_wp2_with (first | (refine load_has rfl 27 _ rfl _ rfl ?_ 24 ?_ _ Try.underlying27 rfl ?_ ?_; rotate_left; (· (repeat (first | (with_reducible assumption) | ((with_reducible refine Has.box _ _ ?_ ?_) <;> (first | assumption | decide)) | (with_reducible refine Has.alloc ?_ _) | ((with_reducible refine Has.putOther ?_ _ _ ?_); rotate_left; omega; skip) | ((with_reducible refine Has.below ?_ ?_); rotate_left; assumption)))); (· kernel_rfl)) | (refine load_has rfl 28 _ rfl _ rfl ?_ 6 ?_ _ Try.underlying28 rfl ?_ ?_; rotate_left; (· (repeat (first | (with_reducible assumption) | ((with_reducible refine Has.box _ _ ?_ ?_) <;> (first | assumption | decide)) | (with_reducible refine Has.alloc ?_ _) | ((with_reducible refine Has.putOther ?_ _ _ ?_); rotate_left; omega; skip) | ((with_reducible refine Has.below ?_ ?_); rotate_left; assumption)))); (· kernel_rfl)))
  refine (pouringBy_any ns ds x _ h24 h6).mono ?_
  rintro e w1 ⟨rfl, b1⟩
  have O1 : ∀ v ∈ pgR ns ds x, v.oneCell' = true := by
    unfold pgR; split
    · exact pg_one ds _ rfl
    · exact pg_one _ _ rfl
  have H1 := (H.below b1).alloc (.cells (pgR ns ds x).toArray 58)
  have G1 := Bk.box w1 (pgR ns ds x) 58
  have HB1 := Lib.hid ((HB.out.call b1).alloc (.cells (pgR ns ds x).toArray 58))
  clear H D HB b1
  generalize hg : pgR ns ds x = g at *
  by_cases hok : byOk ns ds x = true
  · obtain rfl : g = pgA ds x := by rw [← hg]; unfold pgR; rw [if_pos hok]
    clear hg
    have OK := Lib.hid hok
    rw [hok]
    clear hok
    by_cases hn : 0 ≤ n ∧ n ≤ 2
    · have R := Lib.hid (show reOk ns ds x n = true by unfold reOk; rw [OK.out, decide_eq_true hn]; rfl)
      have A := Lib.hid (show reA ns ds x n = (((rkP ds x ns n.toNat).1.length : Nat) : Int) by unfold reA; rw [if_pos R.out])
      obtain ⟨k, rfl⟩ : ∃ k : Nat, n = (k : Int) := ⟨n.toNat, by omega⟩
      rw [Int.toNat_natCast] at A
      have hk2 : k ≤ 2 := by omega
      have hki : (k : Int) ≤ 2 := by omega
      have hk0 : (0 : Int) ≤ (k : Int) := by omega
      have n1 : decide ((k : Int) < 0) = false := by simp
      have n2 : decide ((k : Int) > 2) = false := by simp; omega
      have n3 : decide ((2 : Int) < (k : Int)) = false := by simp; omega
      have n4 : decide (2 < k) = false := by simp; omega
      clear hn
      have hrv : ruleV x = true := (Bool.and_eq_true_iff.1 OK.out).2
      have gR : GoodR ds ns := ⟨h24, (Bool.and_eq_true_iff.1 OK.out).1⟩
      have GOOD := Lib.hid (rk_good (x := x) gR)
      have LEN := Lib.hid (rk_len ds x ns)
      have ROW := Lib.hid (rack_row8 h24 (fit_of gR.fit).1)
      have KEY := Lib.hid (rack_key8 ROW.out)
      clear gR
      go_wp2_with (first | (refine store_newbk rfl 58 _ _ rfl _ _ _ rfl _ rfl (pgA ds x) rfl rfl ?_ O1 ?_ ?_; (· exact lg); (· kernel_rfl)))
      obtain ⟨pb, hpb⟩ : ∃ pb, w1.heap.size = pb := ⟨_, rfl⟩
      rw [hpb] at G1 ⊢
      clear O1 n1 n2 n3 n4
      generalize w1.alloc (.cells (pgA ds x).toArray 58) = W at *
      clear hpb
      go_cut [12, 13] from 31 to 35 (fun s12 s13 wx => ∃ (lv : Value) (mb : Nat), s12 = lv ∧ s13 = .map (some mb) ∧ Bk wx pb (pgA ds x) 58 ∧ Hid (Gr wx 0 27 24 lv [ns]) ∧ Hid (OwnV Try.prog wx 27 mb 1 24 (seenR [ns])) ∧ Hid (∀ z, lv.ownBlock = some z → z ≠ mb) ∧ Hid (w.heap.size ≤ mb) ∧ Hid (pb ≠ mb) ∧ Hid (Kept w wx))
      case first =>
        have hmm := @run_makeMap Try.prog
        have BK := G1.drew
        have HR := H1.drew
        have KB := Lib.hid (keptDrew8 HB1.out)
        have bl0 := BK.lt
        have rl0 := HR.lt
        have kl0 := KB.out.size
        refine wp_region_held_drew (S := fun w' => Has w' w.heap.size ns 24) (by kernel_rfl) HR (fun hHeld => ?_)
        generalize W.drew = V0 at *
        (refine wpAnyH_take (i := 0) (v := _) rfl (by kernel_rfl) (by kernel_rfl) (by kernel_rfl) (fun _ _ _ h => h) (yieldsIf_load_mid (by rfl) 27 _ rfl _ _ rfl (ints ns) _ (fun w' hSw => hSw.holds.range) Try.underlying27 rfl (HIR.out)) hHeld ?_; (try simp only [List.getElem_toArray, List.getElem_cons_zero, List.getElem_cons_succ, Act.put, List.setIfInBounds_toArray, List.set_cons_zero, List.set_cons_succ]))
        (refine wpAnyH_take (i := 3) (v := _) rfl (by kernel_rfl) (by kernel_rfl) (by kernel_rfl) (fun _ _ _ h => h) (yieldsIf_load_mid (by rfl) 27 _ rfl _ _ rfl (ints ns) _ (fun w' hSw => hSw.holds.range) Try.underlying27 rfl (HIR.out)) hHeld ?_; (try simp only [List.getElem_toArray, List.getElem_cons_zero, List.getElem_cons_succ, Act.put, List.setIfInBounds_toArray, List.set_cons_zero, List.set_cons_succ]))
        refine wpAnyH_ready (rs := [1, 2]) (by kernel_rfl) (by simp) ?_
        refine AllReadyH.cons (o := _) rfl (fun K hK => ?_) (AllReadyH.cons (o := _) rfl (fun K hK => ?_) AllReadyH.nil)
        · (simp only [List.getElem_toArray, List.getElem_cons_zero, List.getElem_cons_succ, Region.wanted, if_true])
          refine wp_slice1 61 27 _ rfl 24 192 Try.underlying61 (by kernel_rfl) (by omega) (by omega) ns rfl h24 ?_
          (try simp only [List.getElem_toArray, List.getElem_cons_zero, List.getElem_cons_succ, Act.put, List.setIfInBounds_toArray, List.set_cons_zero, List.set_cons_succ])
          refine hK.out _ _ (hHeld.alloc _) (fun hHeld => ?_)
          clear hK K
          have GL := Lib.hid (Gr.one8 V0 0 27 ns h24 (Nat.zero_le _))
          replace BK := BK.alloc (.cells (ints ns).toArray 27)
          have cl := BK.lt
          replace KB := Lib.hid (KB.out.alloc (.cells (ints ns).toArray 27))
          (refine wpAnyH_take (i := 6) (v := ?_) rfl (by kernel_rfl) (by kernel_rfl) (by kernel_rfl) (fun _ _ _ h => h) (Or.inl ⟨by rfl, ?_⟩) hHeld ?_; rotate_left; (· (intro w' hSw; go_simp; try with_reducible rfl)); (try simp only [List.getElem_toArray, List.getElem_cons_zero, List.getElem_cons_succ, Act.put, List.setIfInBounds_toArray, List.set_cons_zero, List.set_cons_succ]))
          generalize hV1 : V0.alloc (.cells (ints ns).toArray 27) = V1 at *
          have S1 := Lib.hid (show V1.heap.size = V0.heap.size + 1 by rw [← hV1]; simp)
          clear hV1
          (refine wpAnyH_ready (rs := [2]) (by kernel_rfl) (by simp) ?_; refine AllReadyH.cons (o := _) rfl (fun K hK => ?_) AllReadyH.nil; (simp only [List.getElem_toArray, List.getElem_cons_zero, List.getElem_cons_succ, Region.wanted, if_true]))
          go_simp
          refine hK.out _ _ (hHeld.alloc _) (fun hHeld => ?_)
          clear hK K
          have GM := Lib.hid (OwnV.made V1 Try.prog 27 24)
          replace KB := Lib.hid (KB.out.alloc (.map #[] 0))
          have bl := BK.lt
          replace BK := BK.alloc (.map #[] 0)
          have sl := Lib.hid (fun z hz => (GL.out.own z hz).2)
          replace GL := Lib.hid (GL.out.alloc (.map #[] 0))
          (refine wpAnyH_ready (rs := [4]) (by kernel_rfl) (by simp) ?_; refine AllReadyH.cons (o := _) rfl (fun K hK => ?_) AllReadyH.nil; (simp only [List.getElem_toArray, List.getElem_cons_zero, List.getElem_cons_succ, Region.wanted, if_true]))
          refine wp_insertV _ _ _ 62 rfl 27 4 rackKeyed8 Try.underlying62 (V1.heap.size) 0 24 _ GM.out (by unfold maxLen; omega) rfl (.agg (ints ns).toArray) (.bool true) rfl rfl ns ROW.out KEY.out ?_
          intro w4 hM hgM
          (try simp only [List.getElem_toArray, List.getElem_cons_zero, List.getElem_cons_succ, Act.put, List.setIfInBounds_toArray, List.set_cons_zero, List.set_cons_succ])
          refine hK.out _ _ (hHeld.grownNo hgM (fun e => by have e := Option.some.inj e; have := S1.out; omega)) (fun hHeld => ?_)
          clear hK K
          replace GM := Lib.hid hM.seen1
          replace BK := BK.grown hgM (fun e => by have e := Option.some.inj e; have := S1.out; omega)
          replace KB : Hid (Kept w w4) := Lib.hid (KB.out.grown hgM KB.out.size (fun j hj => by have hj := Option.some.inj hj; have := S1.out; omega))
          replace GL := Lib.hid (GL.out.kept hgM (fun z hz e => by have e := Option.some.inj e; have := sl.out z hz; have := S1.out; omega))
          (refine wpAnyH_take (i := 5) (v := ?_) rfl (by kernel_rfl) (by kernel_rfl) (by kernel_rfl) (fun _ _ _ h => h) (Or.inl ⟨by rfl, ?_⟩) hHeld ?_; rotate_left; (· (intro w' hSw; go_simp; try with_reducible rfl)); (try simp only [List.getElem_toArray, List.getElem_cons_zero, List.getElem_cons_succ, Act.put, List.setIfInBounds_toArray, List.set_cons_zero, List.set_cons_succ])); (refine wpAnyH_take (i := 7) (v := ?_) rfl (by kernel_rfl) (by kernel_rfl) (by kernel_rfl) (fun _ _ _ h => h) (Or.inl ⟨by rfl, ?_⟩) hHeld ?_; rotate_left; (· (intro w' hSw; go_simp; try with_reducible rfl)); (try simp only [List.getElem_toArray, List.getElem_cons_zero, List.getElem_cons_succ, Act.put, List.setIfInBounds_toArray, List.set_cons_zero, List.set_cons_succ]))
          refine wpAnyH_done (by kernel_rfl) ?_ _
          clear hHeld hmm
          go_wp2_with fail
          go_meet
          case rel => exact ⟨_, V1.heap.size, rfl, rfl, BK, GL, GM, Lib.hid (fun z hz => by have := Option.some.inj (show some V0.heap.size = some z from hz); have := S1.out; omega), Lib.hid (by have := S1.out; omega), Lib.hid (by have := S1.out; omega), KB⟩
        · (simp only [List.getElem_toArray, List.getElem_cons_zero, List.getElem_cons_succ, Region.wanted, if_true])
          go_simp
          refine hK.out _ _ (hHeld.alloc _) (fun hHeld => ?_)
          clear hK K
          have GM := Lib.hid (OwnV.made V0 Try.prog 27 24)
          replace KB := Lib.hid (KB.out.alloc (.map #[] 0))
          have bl := BK.lt
          replace BK := BK.alloc (.map #[] 0)
          generalize hV1 : V0.alloc (.map #[] 0) = V1 at *
          have S1 := Lib.hid (show V1.heap.size = V0.heap.size + 1 by rw [← hV1]; simp)
          clear hV1
          refine wpAnyH_ready (rs := [1, 4]) (by kernel_rfl) (by simp) ?_
          refine AllReadyH.cons (o := _) rfl (fun K hK => ?_) (AllReadyH.cons (o := _) rfl (fun K hK => ?_) AllReadyH.nil)
          · (simp only [List.getElem_toArray, List.getElem_cons_zero, List.getElem_cons_succ, Region.wanted, if_true])
            refine wp_slice1 61 27 _ rfl 24 192 Try.underlying61 (by kernel_rfl) (by omega) (by omega) ns rfl h24 ?_
            (try simp only [List.getElem_toArray, List.getElem_cons_zero, List.getElem_cons_succ, Act.put, List.setIfInBounds_toArray, List.set_cons_zero, List.set_cons_succ])
            refine hK.out _ _ (hHeld.alloc _) (fun hHeld => ?_)
            clear hK K
            have GL := Lib.hid (Gr.one8 V1 0 27 ns h24 (Nat.zero_le _))
            replace BK := BK.alloc (.cells (ints ns).toArray 27)
            have cl := BK.lt
            replace KB := Lib.hid (KB.out.alloc (.cells (ints ns).toArray 27))
            (refine wpAnyH_take (i := 6) (v := ?_) rfl (by kernel_rfl) (by kernel_rfl) (by kernel_rfl) (fun _ _ _ h => h) (Or.inl ⟨by rfl, ?_⟩) hHeld ?_; rotate_left; (· (intro w' hSw; go_simp; try with_reducible rfl)); (try simp only [List.getElem_toArray, List.getElem_cons_zero, List.getElem_cons_succ, Act.put, List.setIfInBounds_toArray, List.set_cons_zero, List.set_cons_succ]))
            have ml := GM.out.lt
            replace GM := Lib.hid (GM.out.alloc (.cells (ints ns).toArray 27))
            generalize hV2 : V1.alloc (.cells (ints ns).toArray 27) = V2 at *
            clear hV2
            (refine wpAnyH_ready (rs := [4]) (by kernel_rfl) (by simp) ?_; refine AllReadyH.cons (o := _) rfl (fun K hK => ?_) AllReadyH.nil; (simp only [List.getElem_toArray, List.getElem_cons_zero, List.getElem_cons_succ, Region.wanted, if_true]))
            refine wp_insertV _ _ _ 62 rfl 27 4 rackKeyed8 Try.underlying62 (V0.heap.size) 0 24 _ GM.out (by unfold maxLen; omega) rfl (.agg (ints ns).toArray) (.bool true) rfl rfl ns ROW.out KEY.out ?_
            intro w4 hM hgM
            (try simp only [List.getElem_toArray, List.getElem_cons_zero, List.getElem_cons_succ, Act.put, List.setIfInBounds_toArray, List.set_cons_zero, List.set_cons_succ])
            refine hK.out _ _ (hHeld.grownNo hgM (fun e => by have e := Option.some.inj e; have := S1.out; omega)) (fun hHeld => ?_)
            clear hK K
            replace GM := Lib.hid hM.seen1
            replace BK := BK.grown hgM (fun e => by have e := Option.some.inj e; have := S1.out; omega)
            replace KB : Hid (Kept w w4) := Lib.hid (KB.out.grown hgM KB.out.size (fun j hj => by have hj := Option.some.inj hj; have := S1.out; omega))
            replace GL := Lib.hid (GL.out.kept hgM (fun z hz e => by have e := Option.some.inj e; have := Option.some.inj (show some V1.heap.size = some z from hz); have := S1.out; omega))
            (refine wpAnyH_take (i := 5) (v := ?_) rfl (by kernel_rfl) (by kernel_rfl) (by kernel_rfl) (fun _ _ _ h => h) (Or.inl ⟨by rfl, ?_⟩) hHeld ?_; rotate_left; (· (intro w' hSw; go_simp; try with_reducible rfl)); (try simp only [List.getElem_toArray, List.getElem_cons_zero, List.getElem_cons_succ, Act.put, List.setIfInBounds_toArray, List.set_cons_zero, List.set_cons_succ])); (refine wpAnyH_take (i := 7) (v := ?_) rfl (by kernel_rfl) (by kernel_rfl) (by kernel_rfl) (fun _ _ _ h => h) (Or.inl ⟨by rfl, ?_⟩) hHeld ?_; rotate_left; (· (intro w' hSw; go_simp; try with_reducible rfl)); (try simp only [List.getElem_toArray, List.getElem_cons_zero, List.getElem_cons_succ, Act.put, List.setIfInBounds_toArray, List.set_cons_zero, List.set_cons_succ]))
            refine wpAnyH_done (by kernel_rfl) ?_ _
            clear hHeld hmm
            go_wp2_with fail
            go_meet
            case rel => exact ⟨_, V0.heap.size, rfl, rfl, BK, GL, GM, Lib.hid (fun z hz => by have := Option.some.inj (show some V1.heap.size = some z from hz); have := S1.out; omega), Lib.hid (by have := S1.out; omega), Lib.hid (by have := S1.out; omega), KB⟩
          · (simp only [List.getElem_toArray, List.getElem_cons_zero, List.getElem_cons_succ, Region.wanted, if_true])
            refine wp_insertV _ _ _ 62 rfl 27 4 rackKeyed8 Try.underlying62 (V0.heap.size) 0 24 _ GM.out (by unfold maxLen; omega) rfl (.agg (ints ns).toArray) (.bool true) rfl rfl ns ROW.out KEY.out ?_
            intro w4 hM hgM
            (try simp only [List.getElem_toArray, List.getElem_cons_zero, List.getElem_cons_succ, Act.put, List.setIfInBounds_toArray, List.set_cons_zero, List.set_cons_succ])
            refine hK.out _ _ (hHeld.grownNo hgM (fun e => by have e := Option.some.inj e; have := S1.out; omega)) (fun hHeld => ?_)
            clear hK K
            replace GM := Lib.hid hM.seen1
            replace BK := BK.grown hgM (fun e => by have e := Option.some.inj e; have := S1.out; omega)
            replace KB : Hid (Kept w w4) := Lib.hid (KB.out.grown hgM KB.out.size (fun j hj => by have hj := Option.some.inj hj; have := S1.out; omega))
            (refine wpAnyH_take (i := 5) (v := ?_) rfl (by kernel_rfl) (by kernel_rfl) (by kernel_rfl) (fun _ _ _ h => h) (Or.inl ⟨by rfl, ?_⟩) hHeld ?_; rotate_left; (· (intro w' hSw; go_simp; try with_reducible rfl)); (try simp only [List.getElem_toArray, List.getElem_cons_zero, List.getElem_cons_succ, Act.put, List.setIfInBounds_toArray, List.set_cons_zero, List.set_cons_succ]))
            (refine wpAnyH_ready (rs := [1]) (by kernel_rfl) (by simp) ?_; refine AllReadyH.cons (o := _) rfl (fun K hK => ?_) AllReadyH.nil; (simp only [List.getElem_toArray, List.getElem_cons_zero, List.getElem_cons_succ, Region.wanted, if_true]))
            have s4 : V0.heap.size < w4.heap.size := GM.out.lt
            refine wp_slice1 61 27 _ rfl 24 192 Try.underlying61 (by kernel_rfl) (by omega) (by omega) ns rfl h24 ?_
            (try simp only [List.getElem_toArray, List.getElem_cons_zero, List.getElem_cons_succ, Act.put, List.setIfInBounds_toArray, List.set_cons_zero, List.set_cons_succ])
            refine hK.out _ _ (hHeld.alloc _) (fun hHeld => ?_)
            clear hK K
            have GL := Lib.hid (Gr.one8 w4 0 27 ns h24 (Nat.zero_le _))
            replace BK := BK.alloc (.cells (ints ns).toArray 27)
            have cl := BK.lt
            replace KB := Lib.hid (KB.out.alloc (.cells (ints ns).toArray 27))
            (refine wpAnyH_take (i := 6) (v := ?_) rfl (by kernel_rfl) (by kernel_rfl) (by kernel_rfl) (fun _ _ _ h => h) (Or.inl ⟨by rfl, ?_⟩) hHeld ?_; rotate_left; (· (intro w' hSw; go_simp; try with_reducible rfl)); (try simp only [List.getElem_toArray, List.getElem_cons_zero, List.getElem_cons_succ, Act.put, List.setIfInBounds_toArray, List.set_cons_zero, List.set_cons_succ]))
            have ml := GM.out.lt
            replace GM := Lib.hid (GM.out.alloc (.cells (ints ns).toArray 27))
            (refine wpAnyH_take (i := 7) (v := ?_) rfl (by kernel_rfl) (by kernel_rfl) (by kernel_rfl) (fun _ _ _ h => h) (Or.inl ⟨by rfl, ?_⟩) hHeld ?_; rotate_left; (· (intro w' hSw; go_simp; try with_reducible rfl)); (try simp only [List.getElem_toArray, List.getElem_cons_zero, List.getElem_cons_succ, Act.put, List.setIfInBounds_toArray, List.set_cons_zero, List.set_cons_succ]))
            refine wpAnyH_done (by kernel_rfl) ?_ _
            clear hHeld hmm
            go_wp2_with fail
            go_meet
            case rel => exact ⟨_, V0.heap.size, rfl, rfl, BK, GL, GM, Lib.hid (fun z hz => by have := Option.some.inj (show some w4.heap.size = some z from hz); omega), Lib.hid (by have := S1.out; omega), Lib.hid (by have := S1.out; omega), KB⟩
      clear G1 H1 HB1
      obtain ⟨lv, mb, rfl, rfl, BK, GL, GM, NE, hmbw0, pbne, KB⟩ := hcut
      have P0 : Hid (rkP ds x ns 0 = ([ns], [ns])) := Lib.hid rfl
      go_wp2_with fail
      go_loopw [12, 37] (fun v z wr => ∃ i : Nat, i ≤ k ∧ z = .int .i64 i ∧ Bk wr pb (pgA ds x) 58 ∧ Hid (Gr wr 0 27 24 v (rkP ds x ns i).2) ∧ Hid (OwnV Try.prog wr 27 mb (rkP ds x ns i).1.length 24 (seenR (rkP ds x ns i).1)) ∧ Hid (∀ z, v.ownBlock = some z → z ≠ mb) ∧ Hid (Kept w wr)) (fun _ z _ => k - (intOf z).toNat)
      case atStart => exact ⟨0, by omega, rfl, BK, Lib.hid GL.out, Lib.hid GM.out, NE, KB⟩
      case round =>
        clear BK GL GM NE KB
        obtain ⟨i, hi, rfl, BK, GL, GM, NE, KB⟩ := hrel
        have SU := Lib.hid (show rkP ds x ns (i + 1) = (growL ds x (rkP ds x ns i).1 (rkP ds x ns i).2 (rkP ds x ns i).2.length, (growL ds x (rkP ds x ns i).1 (rkP ds x ns i).2 (rkP ds x ns i).2.length).drop (rkP ds x ns i).1.length) from rfl)
        by_cases hik : i < k
        · have hii : (i : Int) < (k : Int) := by omega
          have hmbw := hmbw0.out
          have g12 := GOOD.out i
          have hl : (rkP ds x ns i).2.length ≤ 1296 ∧ (rkP ds x ns i).1.length ≤ 1333 := by
            obtain ⟨l1, l2, l3, l4, _⟩ := LEN.out
            have : i = 0 ∨ i = 1 := by omega
            rcases this with rfl | rfl <;> omega
          generalize hSS : (rkP ds x ns i).1 = SS at *
          generalize hLL : (rkP ds x ns i).2 = LL at *
          go_wp2_with (refine load_bk rfl 58 _ rfl _ rfl _ _ BK _ Try.underlying58 rfl ?_ ?_; (· rw [lg]; kernel_rfl))
          refine (behind_any ds x LL SS _ mb wr h6 hrv g12.2 g12.1 hl.1 hl.2 GL.out GM.out NE.out).mono ?_
          rintro e w5 ⟨v5, rfl, q1, q2, q3⟩
          have bkl := BK.lt
          have pne := pbne.out
          have ml := GM.out.lt
          have NE5 : Hid (∀ z, v5.ownBlock = some z → z ≠ mb) := Lib.hid (fun z hz => by have := (q1.own z hz).1; omega)
          have BK5 := BK.grown q3 (fun e => pne (Option.some.inj e))
          have KB5 : Hid (Kept w w5) := Lib.hid (KB.out.grown q3 KB.out.size (fun j hj => by have hj := Option.some.inj hj; omega))
          have GL5 : Hid (Gr w5 0 27 24 v5 (rkP ds x ns (i + 1)).2) := Lib.hid (by rw [SU.out]; exact q1.mono (Nat.zero_le _))
          have GM5 : Hid (OwnV Try.prog w5 27 mb (rkP ds x ns (i + 1)).1.length 24 (seenR (rkP ds x ns (i + 1)).1)) := Lib.hid (by rw [SU.out]; exact q2)
          clear q1 q2 q3 BK GL GM NE KB SU g12 hl bkl pne ml hSS hLL
          go_wp2_with fail
          go_roundw
          case rel => exact ⟨i + 1, by omega, by go_num, BK5, GL5, GM5, NE5, KB5⟩
          case measure => simp [intOf]; omega
        · obtain rfl : i = k := by omega
          have LENM := fun ty => GM.out.len Try.underlying62 ty
          clear SU
          generalize (rkP ds x ns i).1.length = cnt at *
          go_wp2_with fail
          go_ret2
          exact ⟨by rw [A.out, R.out]; rfl, KB.out⟩
    · have R := Lib.hid (show reOk ns ds x n = false by unfold reOk; rw [decide_eq_false hn, Bool.and_false])
      have A := Lib.hid (show reA ns ds x n = 0 by unfold reA; rw [R.out]; rfl)
      by_cases hn0 : n < 0
      · have n1 : decide (n < 0) = true := decide_eq_true hn0
        clear hn hn0
        go_wp2_with (first | (refine store_newbk rfl 58 _ _ rfl _ _ _ rfl _ rfl (pgA ds x) rfl rfl ?_ O1 ?_ ?_; (· exact lg); (· kernel_rfl)))
        go_ret2
        exact ⟨by rw [A.out, R.out]; rfl, HB1.out⟩
      · have n1 : decide (n < 0) = false := decide_eq_false hn0
        have n2 : decide (n > 2) = true := decide_eq_true (by omega)
        have n3 : decide (2 < n) = true := decide_eq_true (by omega)
        clear hn hn0
        go_wp2_with (first | (refine store_newbk rfl 58 _ _ rfl _ _ _ rfl _ rfl (pgA ds x) rfl rfl ?_ O1 ?_ ?_; (· exact lg); (· kernel_rfl)))
        go_ret2
        exact ⟨by rw [A.out, R.out]; rfl, HB1.out⟩
  · have hf : byOk ns ds x = false := by simpa using hok
    obtain rfl : g = pgZ := by rw [← hg]; unfold pgR; rw [hf]; rfl
    clear hg
    have R := Lib.hid (show reOk ns ds x n = false by unfold reOk; rw [hf]; rfl)
    have A := Lib.hid (show reA ns ds x n = 0 by unfold reA; rw [R.out]; rfl)
    rw [hf]
    clear hok hf
    go_wp2_with (first | (refine store_newbk rfl 58 _ _ rfl _ _ _ rfl _ rfl pgZ rfl rfl ?_ O1 ?_ ?_; (· exact lg); (· kernel_rfl)))
    go_ret2
    exact ⟨by rw [A.out, R.out]; rfl, HB1.out⟩
end Go.Proofs.Ytglhinihhlmgeac.base
end
