/-
  Games on the program's side, walked: the racks behind each number of turns.
-/
import Derived.Test.YtnldnjnnjfbhnabGmG
import Derived.Test.YtnldnjnnjfbhnabGridZ
namespace Go.Proofs.Ytnldnjnnjfbhnab.base
open Go.ChangeShapes Go.WideShapes Go.ChangeAt Go.RowKit Go.Maps
set_option linter.unusedVariables false
set_option linter.unusedSimpArgs false

section
variable {a b c : World} {m : Nat}
theorem gbG_trans (h : a.grownBy b (some m)) (k : b.grownBy c (some m)) : a.grownBy c (some m) :=
  ⟨k.os.trans h.os, k.tape.trans h.tape, k.output.trans h.output, Nat.le_trans h.size k.size, fun i hi hn => (k.block i (Nat.lt_of_lt_of_le hi h.size) hn).trans (h.block i hi hn)⟩
theorem gbG_below (h : a.grownBy b (some m)) (k : Below b.heap.size b c) : a.grownBy c (some m) :=
  gbG_trans h ⟨k.os, k.tape, k.output, k.size, fun i hi _ => k.block i hi⟩
theorem gbG_alloc (h : a.grownBy b (some m)) (o : Obj) : a.grownBy (b.alloc o) (some m) := gbG_trans h (World.grownBy_alloc b o (some m))
theorem gbG_drew (h : a.grownBy b (some m)) : a.grownBy b.drew (some m) := ⟨h.os, h.tape, h.output, h.size, h.block⟩
theorem gbG_new (h : a.grownBy b (some m)) {r : Option Nat} (k : b.grownBy c r) (hr : ∀ z, r = some z → a.heap.size ≤ z) : a.grownBy c (some m) :=
  ⟨k.os.trans h.os, k.tape.trans h.tape, k.output.trans h.output, Nat.le_trans h.size k.size, fun i hi hn => (k.block i (Nat.lt_of_lt_of_le hi h.size) (fun e => by have := hr i e.symm; omega)).trans (h.block i hi hn)⟩
theorem gbG_refl (a : World) (m : Nat) : a.grownBy a (some m) := ⟨rfl, rfl, rfl, Nat.le_refl _, fun _ _ _ => rfl⟩
theorem gbG_of_below (k : Below a.heap.size a b) : a.grownBy b (some m) := ⟨k.os, k.tape, k.output, k.size, fun i hi _ => k.block i hi⟩
/-- What is new to an older world stays so. -/
theorem Kept.gbG {w : World} (h : Kept w a) (k : a.grownBy b (some m)) (hm : w.heap.size ≤ m) : Kept w b := h.grown k h.size (fun j hj => by have := Option.some.inj hj; omega)
end
section
variable {P : Program} {ops : Array Oper} {rest : List Oper} {o : Oper} {a : Act} {w : World} {Q : Exit → Act → World → Prop}
theorem clearV (hg : o.guard = none) (x : Operand) (t : TypeId) (ho : o.op = .call { callee := .builtin .clear, args := #[x], argTypes := #[t] }) (b : Nat) (hx : a.eval x = .map (some b)) (w' : World) (hr : ∀ ty, (Builtin.clear_ #[t] ty #[.map (some b)]).run P w = .ok (.tuple #[]) w')
    (h : wpList P ops Q rest (a.put o.dst (.tuple #[])) w') : wpList P ops Q (o :: rest) a w := by
  refine wpList_plain hg fun K' hK' => ?_
  unfold Oper.wp execOp
  simp only [ho, resolve, invoke, builtin, Sem.run_bind, Sem.run_pure, Result.andThen_ok, List.map_toArray, List.map_cons, List.map_nil, hx, hr]
  exact hK' _ _ h
end
theorem infoLv : (Try.prog.info? 109).map (fun i => (i.zero, i.size, i.bytes)) = some (some (.slice none 0 0), 1, 24) := by kernel_rfl
theorem infoLv_parts {P : Program} {t : TypeId} {z : Value} {m bytes : Nat} (h : (P.info? t).map (fun i => (i.zero, i.size, i.bytes)) = some (some z, m, bytes)) : ∃ i, P.info? t = some i ∧ i.zero = some z ∧ i.size = m ∧ i.bytes = bytes := by
  cases h0 : P.info? t with
  | none => rw [h0] at h; cases h
  | some i =>
    rw [h0] at h
    simp only [Option.map_some, Option.some.injEq, Prod.mk.injEq] at h
    exact ⟨i, rfl, h.1, h.2.1, h.2.2⟩

/-- v is a row of n rows of racks, the levels behind r; no block of them is c. -/
structure Lv (w : World) (b c : Nat) (v : Value) (n : Nat) (vs : List Value) (r : List Int) : Prop where
  row : w.ownsRow b 109 1 v n vs
  lev : ∀ j, j < n → Gr w b 27 24 (vs.getD j undef) (lvG r j)
  away : ∀ z, v.ownBlock = some z → z ≠ c
  awayL : ∀ j, j < n → ∀ z, (vs.getD j undef).ownBlock = some z → z ≠ c
  sep : ∀ j, j < n → ∀ z, (vs.getD j undef).ownBlock = some z → v.ownBlock ≠ some z
theorem Lv.kept {w w' : World} {b c n : Nat} {v : Value} {vs : List Value} {r : List Int} (h : Lv w b c v n vs r) (hg : w.grownBy w' (some c)) : Lv w' b c v n vs r := by
  refine ⟨?_, fun j hj => (h.lev j hj).kept hg (fun z hz e => h.awayL j hj z hz (Option.some.inj e).symm), h.away, h.awayL, h.sep⟩
  refine World.ownsRow.kept h.row hg ?_
  cases hv : v.ownBlock with
  | none => exact .inl rfl
  | some z => exact .inr fun e => h.away z hv (Option.some.inj e)
theorem Lv.below {w w' : World} {b c n : Nat} {v : Value} {vs : List Value} {r : List Int} (h : Lv w b c v n vs r) (k : Below w.heap.size w w') : Lv w' b c v n vs r := h.kept (gbG_of_below k)
theorem Lv.alloc {w : World} {b c n : Nat} {v : Value} {vs : List Value} {r : List Int} (h : Lv w b c v n vs r) (o : Obj) : Lv (w.alloc o) b c v n vs r := h.kept (World.grownBy_alloc w o (some c))
theorem Lv.drew {w : World} {b c n : Nat} {v : Value} {vs : List Value} {r : List Int} (h : Lv w b c v n vs r) : Lv w.drew b c v n vs r := h.kept ⟨rfl, rfl, rfl, Nat.le_refl _, fun _ _ _ => rfl⟩
theorem Lv.form {w : World} {b c n : Nat} {v : Value} {vs : List Value} {r : List Int} (h : Lv w b c v n vs r) (hn : 0 < n) : ∃ g cap, v = .slice (some ⟨g, 0, none⟩) n cap ∧ b ≤ g ∧ g < w.heap.size := by
  rcases h.row.2 with ⟨_, h0⟩ | ⟨g, cap, cur, hv, hb, hg, _⟩
  · omega
  · exact ⟨g, cap, hv, hb, lt_of_block hg⟩
theorem Lv.cell {w : World} {b c n g cap : Nat} {vs : List Value} {r : List Int} (h : Lv w b c (.slice (some ⟨g, 0, none⟩) n cap) n vs r) (k : Nat) (hk : k < n) : w.cell? ⟨g, k, none⟩ = some (vs.getD k undef) := by
  have hl := h.row.1
  rw [World.ownsRow.cellAt h.row k (by omega), List.getD_eq_getElem?_getD, List.getElem?_eq_getElem (by omega)]; rfl
theorem getD_appL {vs : List Value} {v : Value} {j : Nat} (h : j < vs.length) : (vs ++ [v]).getD j undef = vs.getD j undef := by
  rw [List.getD_eq_getElem?_getD, List.getElem?_append_left h, ← List.getD_eq_getElem?_getD]
theorem getD_appR {vs : List Value} {v : Value} : (vs ++ [v]).getD vs.length undef = v := by
  rw [List.getD_eq_getElem?_getD, List.getElem?_append_right (Nat.le_refl _), Nat.sub_self]; rfl
theorem Lv.first {w : World} {b c : Nat} {r : List Int} (hb : b ≤ w.heap.size) (hr : r.length = 24) (hc : w.heap.size + 1 < c) :
    Lv ((w.alloc (.cells (ints r).toArray 27)).alloc (.cells #[.slice (some ⟨w.heap.size, 0, none⟩) 1 1] 109)) b c (.slice (some ⟨w.heap.size + 1, 0, none⟩) 1 1) 1 [.slice (some ⟨w.heap.size, 0, none⟩) 1 1] r := by
  refine ⟨?_, fun j hj => ?_, fun z hz => ?_, fun j hj z hz => ?_, fun j hj z hz => ?_⟩
  · have := World.ownsRow_lit (base := b) (e := 109) (size := 1) (w.alloc (.cells (ints r).toArray 27)) #[.slice (some ⟨w.heap.size, 0, none⟩) 1 1] 1 (by rw [size1]; omega) (by unfold maxLen; omega) (by simp)
    rw [size1] at this
    simpa using this
  · obtain rfl : j = 0 := by omega
    have := World.ownsRow_lit (base := b) (e := 27) (size := 24) w (ints r).toArray 1 hb (by unfold maxLen; omega) (by simp [ints_len, hr])
    have g1 : Gr (w.alloc (.cells (ints r).toArray 27)) b 27 24 (.slice (some ⟨w.heap.size, 0, none⟩) 1 1) [r] := ⟨by simpa using this, fun l hl => by rw [List.mem_singleton.1 hl]; exact hr⟩
    exact g1.alloc _
  · have := Option.some.inj (show some (w.heap.size + 1) = some z from hz); omega
  · obtain rfl : j = 0 := by omega
    have := Option.some.inj (show some w.heap.size = some z from hz); omega
  · obtain rfl : j = 0 := by omega
    have := Option.some.inj (show some w.heap.size = some z from hz)
    intro e
    have := Option.some.inj (show some (w.heap.size + 1) = some z from e); omega
/-- One level more. -/
theorem Lv.more {w w2 w' : World} {b c n g' cap' : Nat} {v x : Value} {vs : List Value} {r : List Int} {o : Obj} (h : Lv w b c v n vs r) (hx : Gr w b 27 24 x (lvG r n)) (hw2 : w2 = w.alloc o)
    (hc : c < w.heap.size) (hxc : ∀ z, x.ownBlock = some z → z ≠ c) (hxv : ∀ z, x.ownBlock = some z → v.ownBlock ≠ some z)
    (hrow : w'.ownsRow b 109 1 (.slice (some ⟨g', 0, none⟩) (n + 1) cap') (n + 1) (vs ++ [x])) (hg : w2.grownBy w' v.ownBlock) (hl : v.ownBlock = some g' ∨ g' = w2.heap.size) :
    Lv w' b c (.slice (some ⟨g', 0, none⟩) (n + 1) cap') (n + 1) (vs ++ [x]) r := by
  subst hw2
  have hlen := h.row.1
  rw [Nat.mul_one] at hlen
  have gl : ∀ j, j < n → Gr (w.alloc o) b 27 24 (vs.getD j undef) (lvG r j) := fun j hj => (h.lev j hj).alloc o
  have gx := hx.alloc o
  have at' : ∀ j, j < n + 1 → (j < n ∧ (vs ++ [x]).getD j undef = vs.getD j undef) ∨ (j = n ∧ (vs ++ [x]).getD j undef = x) := fun j hj => by
    by_cases e : j = n
    · refine .inr ⟨e, ?_⟩
      rw [e, ← hlen]; exact getD_appR
    · exact .inl ⟨by omega, getD_appL (by omega)⟩
  refine ⟨hrow, fun j hj => ?_, fun z hz => ?_, fun j hj z hz => ?_, fun j hj z hz => ?_⟩
  · rcases at' j hj with ⟨h1, e⟩ | ⟨h1, e⟩
    · rw [e]; exact (gl j h1).kept hg (fun z hz e2 => h.sep j h1 z hz e2)
    · rw [e, h1]; exact gx.kept hg (fun z hz e2 => hxv z hz e2)
  · have hz := Option.some.inj (show some g' = some z from hz)
    subst hz
    rcases hl with h1 | h1
    · exact h.away _ h1
    · rw [h1, size1]; omega
  · rcases at' j hj with ⟨h1, e⟩ | ⟨h1, e⟩
    · rw [e] at hz; exact h.awayL j h1 z hz
    · rw [e] at hz; exact hxc z hz
  · intro e2
    have e2 := Option.some.inj (show some g' = some z from e2)
    subst e2
    rcases at' j hj with ⟨h1, e⟩ | ⟨h1, e⟩
    · rw [e] at hz
      rcases hl with h3 | h3
      · exact h.sep j h1 _ hz h3
      · have := ((gl j h1).own _ hz).2; have := ((h.lev j h1).own _ hz).2; rw [size1] at h3; omega
    · rw [e] at hz
      rcases hl with h3 | h3
      · exact hxv _ hz h3
      · have := (hx.own _ hz).2; rw [size1] at h3; omega

set_option maxHeartbeats 6400000 in
set_option maxRecDepth 100000 in
theorem racksBehind_any (r : List Int) (n : Nat) (w : World) (G : GR r) (hn : n ≤ 2) :
    Calls Try.prog 85 #[row r, .int .i64 (n : Nat)] w fun e w' => ∃ (v : Value) (vs : List Value) (c : Nat), e = .returned v ∧ Lv w' w.heap.size c v (n + 1) vs r ∧ Kept w w' := by
  have hmm := @run_makeMap Try.prog
  obtain ⟨i0, hi, hz0, hz1, hz2⟩ := infoLv_parts infoLv
  have h24 := G.1
  have H24 := Lib.hid h24
  have H := Has.box w 27 h24 (by omega)
  have HB := Lib.hid (((((kept_refl w).alloc (.cells (ints r).toArray 27)).alloc (.cells (ints r).toArray 27)).alloc (.cells #[.slice (some ⟨w.heap.size + 1, 0, none⟩) 1 1] 109)).alloc (.map #[] 0))
  have LV : Hid (Lv ((((w.alloc (.cells (ints r).toArray 27)).alloc (.cells (ints r).toArray 27)).alloc (.cells #[.slice (some ⟨w.heap.size + 1, 0, none⟩) 1 1] 109)).alloc (.map #[] 0)) w.heap.size (w.heap.size + 3) (.slice (some ⟨w.heap.size + 2, 0, none⟩) 1 1) (0 + 1) [.slice (some ⟨w.heap.size + 1, 0, none⟩) 1 1] r) := Lib.hid (by
    have := Lv.first (w := w.alloc (.cells (ints r).toArray 27)) (b := w.heap.size) (c := w.heap.size + 3) (r := r) (by rw [size1]; omega) h24 (by rw [size1]; omega)
    rw [size1] at this
    exact this.alloc _)
  have GM : Hid (OwnV Try.prog ((((w.alloc (.cells (ints r).toArray 27)).alloc (.cells (ints r).toArray 27)).alloc (.cells #[.slice (some ⟨w.heap.size + 1, 0, none⟩) 1 1] 109)).alloc (.map #[] 0)) 27 (w.heap.size + 3) ([] : List (List Int)).length 24 (seenRG [])) := Lib.hid (by
    have := OwnV.made (((w.alloc (.cells (ints r).toArray 27)).alloc (.cells (ints r).toArray 27)).alloc (.cells #[.slice (some ⟨w.heap.size + 1, 0, none⟩) 1 1] 109)) Try.prog 27 24
    rw [size1, size1, size1] at this
    exact this.as (fun l _ => by unfold seenRG; simp))
  have LG := Lib.hid (fun k => lvG_good G k)
  have L9 := Lib.hid (fun k (hk : k ≤ 2) => lvG_900 r k hk)
  have KT := Lib.hid (fun x W (gx : GR x) => turnsOf_any x W gx)
  rw [row_ints]
  clear G
  go_enter Try.func85, Try.ntmps85
  go_wp2_with (first | (refine load_has rfl 27 _ rfl _ rfl ?_ 24 ?_ _ Try.underlying27 rfl ?_ ?_; rotate_left; (· (repeat (first | (with_reducible assumption) | ((with_reducible refine Has.box _ _ ?_ ?_) <;> (first | assumption | decide)) | (with_reducible refine Has.alloc ?_ _) | ((with_reducible refine Has.putOther ?_ _ _ ?_); rotate_left; omega; skip) | ((with_reducible refine Has.below ?_ ?_); rotate_left; assumption)))); (· kernel_rfl)) | (refine wpList_slice1 rfl 109 27 _ rfl 24 192 Try.underlying109 (by kernel_rfl) (by omega) (by omega) r rfl h24 ?_))
  clear hmm H
  obtain ⟨sb, hsb⟩ : ∃ sb, w.heap.size + 3 = sb := ⟨_, rfl⟩
  have hsw : w.heap.size ≤ sb := by omega
  generalize ((((w.alloc (.cells (ints r).toArray 27)).alloc (.cells (ints r).toArray 27)).alloc (.cells #[.slice (some ⟨w.heap.size + 1, 0, none⟩) 1 1] 109)).alloc (.map #[] 0)) = W0 at *
  simp only [show w.heap.size + 1 + 1 + 1 = w.heap.size + 3 by omega, show w.heap.size + 1 + 1 = w.heap.size + 2 by omega, hsb] at *
  clear h24
  go_loopw [5, 18] (fun u i wr => ∃ (k : Nat) (vs : List Value) (S : List (List Int)), k ≤ n ∧ i = .int .i64 k ∧ Hid (Lv wr w.heap.size sb u (k + 1) vs r) ∧ Hid (OwnV Try.prog wr 27 sb S.length 24 (seenRG S)) ∧ Hid (Kept w wr)) (fun _ z _ => n - (intOf z).toNat)
  case atStart => exact ⟨0, _, [], by omega, rfl, LV, GM, HB⟩
  case round =>
    clear LV GM HB
    obtain ⟨k, vs, S, hk, rfl, LV, GM, GB⟩ := hrel
    by_cases hkn : k < n
    · have hki : (k : Int) < (n : Int) := by omega
      have hk0 : (0 : Int) ≤ (k : Int) := by omega
      obtain ⟨wc, hrun, hM0, hgc, hsc⟩ := GM.out.clear Try.underlying110
      replace LV := Lib.hid (LV.out.kept hgc)
      replace GB : Hid (Kept w wc) := Lib.hid (GB.out.gbG hgc hsw)
      have GM0 : Hid (OwnV Try.prog wc 27 sb (grL (lvG r k) 0).length 24 (seenRG (grL (lvG r k) 0))) := Lib.hid (hM0.as (fun l _ => by unfold seenRG; rw [grL]; simp))
      have hsb := hM0.lt
      obtain ⟨gu, cu, rfl, hgu, hgul⟩ := LV.out.form (by omega)
      have GLk := LV.out.lev k (by omega)
      have AWk := LV.out.awayL k (by omega)
      have cK := LV.out.cell k (by omega)
      obtain ⟨ak, capk, hak⟩ := GLk.shape
      rw [hak] at GLk AWk cK
      clear hM0 hgc hsc GM
      obtain ⟨L, hL⟩ : ∃ L, lvG r k = L := ⟨_, rfl⟩
      have HL := Lib.hid hL
      have gL := LG.out k
      have lL := L9.out k (by omega)
      rw [hL] at GLk cK GM0 gL lL hak AWk
      have HGL := Lib.hid gL
      obtain ⟨M, hM⟩ : ∃ M, L.length = M := ⟨_, rfl⟩
      have HM := Lib.hid hM
      rw [hM] at GLk AWk cK lL hak
      have LK := Lib.hid (fun W (hW : wc.grownBy W (some sb)) => GLk.kept hW (fun z hz e => AWk z hz (Option.some.inj e).symm))
      have G0 := Gr.none wc wc.heap.size 27 24 (Nat.le_refl _)
      have GN : Hid (Gr (wc.alloc (.cells #[] 27)) wc.heap.size 27 24 (.slice (some ⟨wc.heap.size, 0, none⟩) 0 0) (grL L 0)) := Lib.hid (G0.as (by rw [grL]))
      replace GM0 := Lib.hid (GM0.out.alloc (.cells #[] 27))
      have GG := Lib.hid (gbG_alloc (gbG_refl wc sb) (.cells #[] 27))
      have cK2 : (wc.alloc (.cells #[] 27)).cell? ⟨gu, k, none⟩ = some (.slice ak M capk) := by
        rw [World.cell?_of_block (w := wc) ((World.grownBy_alloc wc (.cells #[] 27) none).block gu hgul (by simp))]; exact cK
      clear hL hM gL GLk AWk cK G0 hak
      go_wp2_with (first | (refine clearV rfl _ 110 rfl sb rfl wc hrun ?_) | (at_builtin; refine clearV rfl _ 110 rfl sb rfl wc hrun ?_))
      clear hrun cK2
      go_loopw [8, 28] (fun v z wr => ∃ i : Nat, i ≤ M ∧ z = .int .i64 i ∧ Hid (Gr wr wc.heap.size 27 24 v (grL L i)) ∧ Hid (OwnV Try.prog wr 27 sb (grL L i).length 24 (seenRG (grL L i))) ∧ Hid (wc.grownBy wr (some sb))) (fun _ z _ => M - (intOf z).toNat)
      case atStart => exact ⟨0, by omega, rfl, GN, GM0, GG⟩
      case round =>
        clear GN GM0 GG
        obtain ⟨i, hi', rfl, GN, GM, GG⟩ := hrel
        by_cases hiM : i < M
        · have hii : (i : Int) < (M : Int) := by omega
          have hi0 : (0 : Int) ≤ (i : Int) := by omega
          have GX := LK.out wr GG.out
          obtain ⟨gl, cl, he, _, hgl⟩ := GX.form (by rw [HM.out]; omega)
          rw [HM.out] at he
          injection he with e1 _ e3
          subst e1
          subst e3
          have RG := Lib.hid (GX.range HM.out.symm i hiM)
          have gx := HGL.out _ (getG (L := L) (i := i) (by rw [HM.out]; exact hiM))
          have EG : Hid (grL L (i + 1) = grG (L.getD i []) (grL L i) (usefNA (L.getD i []))) := Lib.hid rfl
          have gle := grL_len L i
          obtain ⟨x, hx⟩ : ∃ x, L.getD i [] = x := ⟨_, rfl⟩
          rw [hx] at RG gx EG
          obtain ⟨Si, hSi⟩ : ∃ Si, grL L i = Si := ⟨_, rfl⟩
          rw [hSi] at EG GN GM gle
          clear GX hx hSi
          have x24 := gx.1
          have N30 := use30 x
          have NG := Lib.hid (fun j hj => nx_good gx j hj)
          have T26 := Lib.hid (fun j => trn_len x24 j)
          have KX := Lib.hid (fun W => KT.out x W gx)
          have hi24 : (Try.prog.info? 27).map (·.size) = some (ints x).length := by rw [ints_len, x24]; kernel_rfl
          have HI24 := Lib.hid hi24
          have HXB := Has.box wr 27 x24 (by omega)
          replace GN := Lib.hid (GN.out.alloc (.cells (ints x).toArray 27))
          replace GM := Lib.hid (GM.out.alloc (.cells (ints x).toArray 27))
          replace GG := Lib.hid (gbG_alloc GG.out (.cells (ints x).toArray 27))
          clear gx hi24
          go_wp2_with (first | (refine wpList_load_mid rfl 27 _ rfl gl (i * 24) rfl (ints x) _ RG.out Try.underlying27 rfl HI24.out ?_) | (refine store_new rfl 27 _ _ rfl _ _ _ rfl _ rfl _ rfl rfl ?_ ?_ ?_; (· (first | assumption | rfl)); (· kernel_rfl)) | (refine load_has rfl 27 _ rfl _ rfl ?_ 24 ?_ _ Try.underlying27 rfl ?_ ?_; rotate_left; (· (repeat (first | (with_reducible assumption) | ((with_reducible refine Has.box _ _ ?_ ?_) <;> (first | assumption | decide)) | (with_reducible refine Has.alloc ?_ _) | ((with_reducible refine Has.putOther ?_ _ _ ?_); rotate_left; omega; skip) | ((with_reducible refine Has.below ?_ ?_); rotate_left; assumption)))); (· kernel_rfl)))
          refine (KX.out _).mono ?_
          rintro e w2 ⟨tv, rfl, q2, b2⟩
          obtain ⟨ta, tcap, rfl⟩ := q2.shape
          rw [trL_len] at q2 ⊢
          have hns := GN.out
          have KN : Hid (∀ z, u8.ownBlock = some z → (Value.slice ta (usefNA x) tcap).ownBlock ≠ some z) := Lib.hid (fun z hz e => by
            have h1 := (GN.out.own z hz).2
            have h2 := (q2.own z e).1
            omega)
          have KS : Hid (∀ z, (Value.slice ta (usefNA x) tcap).ownBlock = some z → z ≠ sb) := Lib.hid (fun z hz => by
            have h1 := GM.out.lt
            have h2 := (q2.own z hz).1
            omega)
          replace GN := Lib.hid (GN.out.below b2)
          replace GM := Lib.hid (GM.out.below b2)
          replace GG := Lib.hid (gbG_below GG.out b2)
          have GT := Lib.hid (q2.mono (b' := 0) (Nat.zero_le _))
          clear q2 b2 HXB KX RG hns hgl
          obtain ⟨N, hN⟩ : ∃ N, usefNA x = N := ⟨_, rfl⟩
          rw [hN] at GT KN KS N30 NG EG ⊢
          clear hN
          have R0 : Hid (grG x Si 0 = Si) := Lib.hid rfl
          rw [← R0.out] at GM GN
          go_wp2_with fail
          go_loopw [8, 35] (fun v z wr => ∃ j : Nat, j ≤ N ∧ z = .int .i64 j ∧ Hid (Gr wr wc.heap.size 27 24 v (grG x Si j)) ∧ Hid (OwnV Try.prog wr 27 sb (grG x Si j).length 24 (seenRG (grG x Si j))) ∧ Hid (Gr wr 0 69 26 (.slice ta N tcap) (trL x N)) ∧ Hid (∀ z, v.ownBlock = some z → (Value.slice ta N tcap).ownBlock ≠ some z) ∧ Hid (wc.grownBy wr (some sb))) (fun _ z _ => N - (intOf z).toNat)
          case atStart => exact ⟨0, by omega, rfl, GN, GM, GT, KN, GG⟩
          case round =>
            clear GN GM GT KN GG R0
            obtain ⟨j, hj, rfl, GN, GM, GT, KN, GG⟩ := hrel
            by_cases hjN : j < N
            · have hji : (j : Int) < (N : Int) := by omega
              have hj0 : (0 : Int) ≤ (j : Int) := by omega
              obtain ⟨tg, tc2, he, _, htl⟩ := GT.out.form (by rw [trL_len]; omega)
              rw [trL_len] at he
              injection he with e1 _ e3
              subst e1
              subst e3
              have RG := Lib.hid (GT.out.range (trL_len x N).symm j hjN)
              rw [trL_get x hjN] at RG
              have gt := NG.out j hjN
              have l26 := T26.out j
              have ET : trn x j = upX x j :: upY x j :: nxR x j := rfl
              have ES : Hid (grG x Si (j + 1) = insG (grG x Si j) (nxR x j)) := Lib.hid rfl
              have gle2 := (grG_len x Si j).2
              rw [ET] at RG l26
              obtain ⟨px, hpx⟩ : ∃ z, upX x j = z := ⟨_, rfl⟩
              obtain ⟨py, hpy⟩ : ∃ z, upY x j = z := ⟨_, rfl⟩
              obtain ⟨t, ht⟩ : ∃ t, nxR x j = t := ⟨_, rfl⟩
              rw [hpx, hpy, ht] at RG l26
              rw [ht] at gt ES
              clear ET hpx hpy ht
              obtain ⟨Sj, hSj⟩ : ∃ Sj, grG x Si j = Sj := ⟨_, rfl⟩
              rw [hSj] at ES GN GM gle2
              clear hSj
              have t24 := gt.1
              have EW := trn_rack px py t t24
              have ROW := Lib.hid (rack_row8G gt.1 gt.2)
              have KEY := Lib.hid (rack_key8G ROW.out)
              have hSl : Sj.length ≤ 30000 := by omega
              have l26i : (ints (px :: py :: t)).length = 26 := by rw [ints_len]; exact l26
              have HX := Has.box wr 69 l26 (by omega)
              have hwx := GG.out.size
              replace GN := Lib.hid (GN.out.alloc (.cells (ints (px :: py :: t)).toArray 69))
              replace GM := Lib.hid (GM.out.alloc (.cells (ints (px :: py :: t)).toArray 69))
              replace GT := Lib.hid (GT.out.alloc (.cells (ints (px :: py :: t)).toArray 69))
              replace GG := Lib.hid (gbG_alloc GG.out (.cells (ints (px :: py :: t)).toArray 69))
              clear gt
              go_upto_region 14 with (first | (refine wpList_load_mid rfl 69 _ rfl tg (j * 26) rfl (ints (px :: py :: t)) _ RG.out Try.underlying69 rfl (by rw [l26i]; kernel_rfl) ?_) | (refine store_new rfl 69 _ _ rfl _ _ _ rfl _ rfl _ rfl rfl ?_ ?_ ?_; (· (first | assumption | rfl)); (· kernel_rfl)))
              clear RG
              obtain ⟨xb, hxb⟩ : ∃ xb, wr.heap.size = xb := ⟨_, rfl⟩
              rw [hxb] at HX hwx ⊢
              generalize wr.alloc (.cells (ints (px :: py :: t)).toArray 69) = W4 at *
              have htl4 : xb < W4.heap.size := HX.lt
              by_cases hin : t ∈ Sj
              · have D1 := Lib.hid (show grG x Si (j + 1) = Sj by rw [ES.out]; unfold insG; rw [if_pos hin])
                have q1 : (seenRG Sj t).getD (.bool false) = .bool true := by rw [seenR_getG, decide_eq_true hin]
                clear hin ES
                go_wp2_with (first | (refine load_sub rfl 27 _ rfl xb 2 24 _ rfl ?_ _ 26 HX _ EW t24 _ Try.underlying27 rfl ?_ ?_; (· (first | rfl | omega)); (· kernel_rfl)) | (refine lookupV rfl _ _ 110 rfl 27 4 rackKeyed8G Try.underlying110 (zeroBool8G _) sb Sj.length 24 _ GM.out rfl (.agg (ints t).toArray) rfl t ROW.out KEY.out ?_; rw [q1]))
                go_roundw
                case rel => exact ⟨j + 1, by omega, by go_num, by rw [D1.out]; exact GN, by rw [D1.out]; exact GM, GT, KN, GG⟩
                case measure => simp [intOf]; omega
              · obtain ⟨sp1, sp2⟩ := seenR_putG Sj t hin
                have SP1 := Lib.hid sp1
                have SP2 := Lib.hid sp2
                have D1 := Lib.hid (show grG x Si (j + 1) = Sj ++ [t] by rw [ES.out]; unfold insG; rw [if_neg hin])
                have q1 : (seenRG Sj t).getD (.bool false) = .bool false := by rw [seenR_getG, decide_eq_false hin]
                have hmx : Sj.length < maxLen := by unfold maxLen; omega
                clear hin ES sp1 sp2
                go_upto_region 16 with (first | (refine load_sub rfl 27 _ rfl xb 2 24 _ rfl ?_ _ 26 HX _ EW t24 _ Try.underlying27 rfl ?_ ?_; (· (first | rfl | omega)); (· kernel_rfl)) | (refine lookupV rfl _ _ 110 rfl 27 4 rackKeyed8G Try.underlying110 (zeroBool8G _) sb Sj.length 24 _ GM.out rfl (.agg (ints t).toArray) rfl t ROW.out KEY.out ?_; rw [q1]) | (refine updateV rfl _ _ _ 110 rfl 27 4 rackKeyed8G Try.underlying110 sb Sj.length 24 _ GM.out hmx rfl (.agg (ints t).toArray) (.bool true) rfl rfl t ROW.out KEY.out ?_; intro w5 hM hgM))
                rw [SP1.out] at hM
                have hsx : sb < wc.heap.size := hsb
                have GM5 := Lib.hid (hM.as (fun l _ => SP2.out l))
                have hxs : sb ≠ xb := by omega
                have HX5 := HX.grownNo hgM (fun e => hxs (Option.some.inj e).symm)
                have GN5 := Lib.hid (GN.out.kept hgM (fun z hz e => by have e := Option.some.inj e; have := (GN.out.own z hz).1; omega))
                have GT5 := Lib.hid (GT.out.kept hgM (fun z hz e => KS.out z hz (Option.some.inj e).symm))
                have GG5 := Lib.hid (gbG_trans GG.out hgM)
                clear GM GN GT GG HX hM hgM SP1 SP2 q1 hxs
                have hcw := GG5.out.size
                have OWN := Lib.hid (fun z hz => (GN5.out.own z hz).1)
                go_wp2_with (first | (refine load_sub rfl 27 _ rfl xb 2 24 _ rfl ?_ _ 26 HX5 _ EW t24 _ Try.underlying27 rfl ?_ ?_; (· (first | rfl | omega)); (· kernel_rfl)) | (refine wpList_slice1 rfl 109 27 _ rfl 24 192 Try.underlying109 (by kernel_rfl) (by omega) (by omega) t rfl t24 ?_) | (at_builtin; refine append_gr rfl _ _ 109 rfl wc.heap.size 27 24 192 Try.underlying109 (by kernel_rfl) (by omega) (by omega) _ Sj.length Sj rfl rfl (GN5.out.alloc _) w5.heap.size 1 rfl t (Has.box w5 27 t24 (by omega)) (by rw [size1]; omega) (by omega) ?_; intro g' cu' w7 hG hgrow hlie hlt7))
                have GM6 := Lib.hid ((GM5.out.alloc (.cells (ints t).toArray 27)).grown hgrow (fun e => by have := OWN.out _ e.symm; omega))
                have GT6 := Lib.hid ((GT5.out.alloc (.cells (ints t).toArray 27)).kept hgrow (fun z hz e => KN.out z e hz))
                have GG6 := Lib.hid (gbG_new (gbG_alloc GG5.out (.cells (ints t).toArray 27)) hgrow (fun z hz => by have := OWN.out z hz; omega))
                have GN6 := Lib.hid (hG.as D1.out.symm)
                have KN2 : Hid (∀ z, (Value.slice (some ⟨g', 0, none⟩) (Sj.length + 1) cu').ownBlock = some z → (Value.slice (some ⟨tg, 0, none⟩) N tcap).ownBlock ≠ some z) := Lib.hid (fun z hz e => by
                  have h1 := Option.some.inj (show some g' = some z from hz)
                  subst h1
                  rcases hlie with h3 | h3
                  · exact KN.out _ h3 e
                  · have := (GT5.out.own _ e).2; rw [size1] at h3; omega)
                clear hG hgrow hlie hlt7 GM5 GT5 GN5 GG5 OWN
                go_wp2_with fail
                go_roundw
                case rel => exact ⟨j + 1, by omega, by go_num, GN6, by rw [D1.out]; exact GM6, GT6, KN2, GG6⟩
                case measure => simp [intOf]; omega
            · obtain rfl : j = N := by omega
              go_wp2_with fail
              go_roundw
              case rel => exact ⟨i + 1, by omega, by go_num, by rw [EG.out]; exact GN, by rw [EG.out]; exact GM, GG⟩
              case measure => simp [intOf]; omega
        · obtain rfl : i = M := by omega
          have EL : Hid (grL L i = lvG r (k + 1)) := Lib.hid (by rw [lvG, HL.out, HM.out])
          rw [EL.out] at GN GM
          have LX := Lib.hid (LV.out.kept GG.out)
          have GB2 : Hid (Kept w wr) := Lib.hid (GB.out.gbG GG.out hsw)
          obtain ⟨na, ncap, rfl⟩ := GN.out.shape
          have hcx := GG.out.size
          have hgs := GB2.out.size
          have NX := Lib.hid (fun z hz => (GN.out.own z hz).1)
          have GN2 := Lib.hid (GN.out.mono (b' := w.heap.size) GB.out.size)
          clear GN LV GB GG
          go_wp2_with (first | (at_builtin; refine wpList_append_lies _ rfl _ _ 107 rfl w.heap.size 109 i0 (.slice none 0 0) 1 24 Try.underlying107 hi hz0 hz1 hz2 rfl (by decide) _ (k + 1) vs rfl (World.ownsRow.alloc LX.out.row _) ⟨wr.heap.size, 0, none⟩ 1 1 [.slice na (lvG r (k + 1)).length ncap] rfl rfl (cell_one_new _ _ _) (fun x hx => by simp at hx; subst hx; rfl) (by decide) (by unfold maxLen; omega) (by omega) (by rw [size1]; omega) _ rfl ?_; intro g' cap' w6 hown' hgrow3 hlie hlt3))
          have LX2 := Lib.hid (LX.out.more GN2.out rfl (by omega) (fun z hz => by have := NX.out z hz; omega) (fun z hz e => by
            have h1 := NX.out z hz
            have h2 := Option.some.inj (show some gu = some z from e)
            omega) hown' hgrow3 hlie)
          have GM2 := Lib.hid ((GM.out.alloc (.cells #[.slice na (lvG r (k + 1)).length ncap] 109)).grown hgrow3 (fun e => LX.out.away sb e.symm rfl))
          have GB3 : Hid (Kept w w6) := Lib.hid ((GB2.out.alloc (.cells #[.slice na (lvG r (k + 1)).length ncap] 109)).grown hgrow3 (by rw [size1]; omega) (fun j hj => by have := Option.some.inj (show some gu = some j from hj); omega))
          clear hown' hgrow3 hlie hlt3 LX GM GB2 GN2
          go_wp2_with fail
          go_roundw
          case rel => exact ⟨k + 1, _, _, by omega, by go_num, LX2, GM2, GB3⟩
          case measure => simp [intOf]; omega
    · obtain rfl : k = n := by omega
      go_wp2_with fail
      go_ret
      exact ⟨_, vs, sb, rfl, LV.out, GB.out⟩
end Go.Proofs.Ytnldnjnnjfbhnab.base
