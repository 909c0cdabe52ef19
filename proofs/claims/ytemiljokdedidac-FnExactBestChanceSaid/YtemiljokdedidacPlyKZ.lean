/-
  Plays at racks, in a map by racks: its entries, and ranging over it in whatever order.
-/
/-
  The racks at which a play can be next, on the program's side, walked.
-/
import Derived.Test.YtemiljokdedidacPlyM
import Derived.Test.YtemiljokdedidacMapVZ
import Derived.Test.YtemiljokdedidacBlkW
import Derived.Test.YtemiljokdedidacTubeWZ
import Derived.Test.YtemiljokdedidacFracW
import Derived.Deep.Cut
import Derived.Deep.CutRange
import Derived.Test.YtemiljokdedidacUseI
import Derived.Test.YtemiljokdedidacPourI
import Derived.Test.YtemiljokdedidacGridZ
import Derived.Test.YtemiljokdedidacRwZ

section
namespace Go.Proofs.Ytemiljokdedidac.base
open Go.ChangeShapes Go.WideShapes Go.ChangeAt Go.RowKit
set_option linter.unusedVariables false
set_option linter.unusedSimpArgs false

theorem wf_lit9 {z : Int} (h0 : 0 ≤ z) (h5 : z ≤ 5) : (Lit.int .i64 z).wf = true := by
  simp only [Lit.wf, IntKind.min, IntKind.max, IntKind.signed, IntKind.bits, Bool.and_eq_true, decide_eq_true_eq, if_true]
  omega
theorem rack_row9 {ns : List Int} (G : GR ns) : KeyRow 24 ns := by
  obtain ⟨h24, hv⟩ := G
  refine ⟨h24, fun z hz => ?_⟩
  obtain ⟨j, hj, e⟩ := List.mem_iff_getElem.1 hz
  have hp : j / 4 < 6 := by omega
  have h4 := tub_len ns (j / 4) h24 hp
  have hk : known (tub ns (j / 4)) = true := by have := vR_tub hv (j / 4) hp; unfold vT at this; exact (Bool.and_eq_true_iff.1 this).1
  have hm : z ∈ tub ns (j / 4) := by
    have g : (tub ns (j / 4)).getD (j % 4) 0 = z := by
      rw [tub_getD ns _ _ (by omega), Nat.div_add_mod', List.getD_eq_getElem?_getD, List.getElem?_eq_getElem hj, Option.getD_some, e]
    rw [← g, List.getD_eq_getElem?_getD, List.getElem?_eq_getElem (by omega)]
    exact List.getElem_mem _
  have := of_decide_eq_true (List.all_eq_true.1 hk z hm)
  exact wf_lit9 this.1 this.2
theorem playLaw : WideMaps.KeyLaw Try.prog 38 := deep_law_laid (by kernel_rfl) (m := 3) (by omega) (of_decide_eq_true (by kernel_rfl)) (by kernel_rfl) (by rw [Try.underlying38])
theorem playKeyed : Go.Maps.Keyed Try.prog 38 := Go.Maps.Keyed.of_law playLaw
theorem play_key {ns : List Int} (h : KeyRow 24 ns) : keyOf Try.prog 38 (.agg (ints ns).toArray) = some (keyL ns) :=
  keyOf_rack Try.underlying38 Try.underlying37 Try.underlying3 (by kernel_rfl) (by kernel_rfl) (by kernel_rfl) (by kernel_rfl) (of_decide_eq_true (by kernel_rfl)) ns h.len h.wf
theorem play_inv {key : Value} {kl : Lit} (h : keyOf Try.prog 38 key = some kl) : ∃ ns : List Int, KeyRow 24 ns ∧ key = .agg (ints ns).toArray ∧ kl = keyL ns :=
  keyOf_rack_inv Try.underlying38 Try.underlying37 Try.underlying3 (by kernel_rfl) (by kernel_rfl) (by kernel_rfl) (by kernel_rfl) (of_decide_eq_true (by kernel_rfl)) h
theorem ints_inj9 : ∀ {a b : List Int}, ints a = ints b → a = b
  | [], [], _ => rfl
  | [], _ :: _, h => by cases h
  | _ :: _, [], h => by cases h
  | x :: a, y :: b, h => by
    have h1 : Value.int .i64 x = Value.int .i64 y ∧ ints a = ints b := List.cons.inj h
    rw [ints_inj9 h1.2]
    have h2 := h1.1
    injection h2 with _ h2
    rw [h2]
theorem agg_inj9 {a b : List Value} (h : Value.agg a.toArray = Value.agg b.toArray) : a = b := by
  have h1 : a.toArray = b.toArray := Value.agg.inj h
  exact congrArg Array.toList h1
theorem zeroInt9 (u : World) : (zeroValue 3).run Try.prog u = .ok (.int .i64 0) u := by kernel_rfl

/-- The numbers of a table, as a map has them. -/
def tabF (K : List (List Int)) (W : List Int → Nat) : List Int → Option Value := fun l => if l ∈ K then some (.int .i64 (W l : Nat)) else none
theorem tabF_some (K : List (List Int)) (W : List Int → Nat) (l : List Int) : (tabF K W l).isSome = decide (l ∈ K) := by
  unfold tabF
  by_cases h : l ∈ K
  · rw [if_pos h, decide_eq_true h]; rfl
  · rw [if_neg h, decide_eq_false h]; rfl
theorem tabF_get {K : List (List Int)} {W : List Int → Nat} (T : Tab K W) (l : List Int) : (tabF K W l).getD (.int .i64 0) = .int .i64 (W l : Nat) := by
  unfold tabF
  by_cases h : l ∈ K
  · rw [if_pos h]; rfl
  · rw [if_neg h, T.out l h]; rfl
theorem tabF_put {K : List (List Int)} {W : List Int → Nat} (T : Tab K W) (x : List Int) (v : Nat) : (if (tabF K W x).isSome then K.length else K.length + 1) = (insP K x).length ∧ ∀ l, mapPut (tabF K W) x (.int .i64 ((W x + v : Nat) : Int)) l = tabF (insP K x) (updP W x v) l := by
  refine ⟨?_, fun l => ?_⟩
  · rw [tabF_some]
    unfold insP
    by_cases h : x ∈ K
    · rw [if_pos h, decide_eq_true h, if_pos rfl]
    · rw [if_neg h, decide_eq_false h]; simp
  · unfold mapPut tabF
    by_cases e : l = x
    · subst e
      rw [if_pos rfl, if_pos ((insP_mem K l l).2 (.inr rfl))]
      unfold updP
      rw [if_pos rfl]
    · rw [if_neg e]
      have h1 : l ∈ insP K x ↔ l ∈ K := by rw [insP_mem]; exact ⟨fun h => h.elim id (fun h => absurd h e), .inl⟩
      have h2 : updP W x v l = W l := by unfold updP; rw [if_neg e]
      by_cases h : l ∈ K
      · rw [if_pos h, if_pos (h1.2 h), h2]
      · rw [if_neg h, if_neg (fun x => h (h1.1 x))]
/-- A table lies in a map's block. -/
def PT (w : World) (b : Nat) (K : List (List Int)) (W : List Int → Nat) : Prop := OwnV Try.prog w 38 b K.length 24 (tabF K W)

/-- A table under way: the racks that have come, none twice. -/
def Rg (w : World) (b r : Nat) (K : List (List Int)) (W : List Int → Nat) (seen : List (List Int)) (cnt : Nat) : Prop :=
  ∃ D left, w.ranges Try.prog 38 RV b r K.length D left cnt ∧ (∀ ns, KeyRow 24 ns → ∀ z, D.atKey (keyL ns) z = ((tabF K W ns).map DataW.held).getD z) ∧
    (∀ ns, KeyRow 24 ns → Go.Maps.has D (keyL ns) = decide (ns ∈ K)) ∧ (∀ ns, KeyRow 24 ns → left (keyL ns) = (decide (ns ∈ K) && !decide (ns ∈ seen))) ∧ seen.Nodup ∧ (∀ x ∈ seen, x ∈ K ∧ KeyRow 24 x)
section
variable {w w' : World} {b r : Nat} {K : List (List Int)} {W : List Int → Nat} {seen : List (List Int)} {cnt : Nat}
theorem Rg.nodup (h : Rg w b r K W seen cnt) : seen.Nodup := by obtain ⟨D, left, h, _, _, _, h5, _⟩ := h; exact h5
theorem Rg.sub (h : Rg w b r K W seen cnt) : ∀ x ∈ seen, x ∈ K := by obtain ⟨D, left, h, _, _, _, _, h6⟩ := h; exact fun x hx => (h6 x hx).1
theorem Rg.lt (h : Rg w b r K W seen cnt) : r < w.heap.size ∧ b < w.heap.size := by
  obtain ⟨D, left, h, _⟩ := h; exact ⟨h.lt, h.owns.lt⟩
theorem Rg.kept {row : Option Nat} (h : Rg w b r K W seen cnt) (hg : w.grownBy w' row) (hb : some b ≠ row) (hr : some r ≠ row) : Rg w' b r K W seen cnt := by
  obtain ⟨D, left, h, h2⟩ := h; exact ⟨D, left, h.kept hg hb hr, h2⟩
theorem Rg.alloc (h : Rg w b r K W seen cnt) (o : Obj) : Rg (w.alloc o) b r K W seen cnt := by
  obtain ⟨D, left, h, h2⟩ := h; exact ⟨D, left, h.alloc o, h2⟩
theorem Rg.blocks (h : Rg w b r K W seen cnt) (e1 : w'.heap[b]? = w.heap[b]?) (e2 : w'.heap[r]? = w.heap[r]?) : Rg w' b r K W seen cnt := by
  obtain ⟨D, left, ⟨es, clock, since, sn, c0, hb, F, hs, hD, hr, rest⟩, h2⟩ := h
  exact ⟨D, left, ⟨es, clock, since, sn, c0, e1.trans hb, F, hs, hD, e2.trans hr, rest⟩, h2⟩
theorem Rg.below (h : Rg w b r K W seen cnt) (k : Below w.heap.size w w') : Rg w' b r K W seen cnt := h.blocks (k.block b h.lt.2) (k.block r h.lt.1)
theorem Rg.drewN (h : Rg w b r K W seen cnt) (k : Nat) : Rg (w.drewN k) b r K W seen cnt := h.blocks rfl rfl
theorem Rg.drew (h : Rg w b r K W seen cnt) : Rg w.drew b r K W seen cnt := h.blocks rfl rfl
theorem Rg.puts (h : Rg w b r K W seen cnt) (c o : Nat) (vs : List Value) (h1 : b ≠ c) (h2 : r ≠ c) : Rg (w.setCells c o vs) b r K W seen cnt :=
  h.blocks (World.heap_setCells_other w c o vs h.lt.2 h1) (World.heap_setCells_other w c o vs h.lt.1 h2)
theorem Rg.left_eq (h : Rg w b r K W seen cnt) : w.rangeLeft b r = cnt := by
  obtain ⟨D, left, h, _⟩ := h; exact h.left_eq
end
section
variable {w : World} {ops : Array Oper} {rest : List Oper} {o : Oper} {a : Act} {Q : Exit → Act → World → Prop}
/-- 'range p.at'. -/
theorem rg_start (hg : o.guard = none) (x : Operand) (hop : o.op = Op.range 90 x) (b : Nat) (K : List (List Int)) (W : List Int → Nat) (hown : PT w b K W) (hm : a.eval x = .map (some b))
    (h : ∀ w', (∃ cnt, Rg w' b w.heap.size K W [] cnt) → w.grownBy w' none → w'.heap.size = w.heap.size + 1 → wpList Try.prog ops Q rest (a.put o.dst (.pointer (some ⟨w.heap.size, 0, none⟩))) w') : wpList Try.prog ops Q (o :: rest) a w := by
  obtain ⟨D, hD, h1, h2, h3⟩ := hown
  refine wpList_range_own w hg x 90 hop 38 3 playKeyed Try.underlying90 RV b K.length D hm hD (fun w' hr hgr hsz => ?_)
  have h2' : ∀ ns, KeyRow 24 ns → Go.Maps.has D (keyL ns) = decide (ns ∈ K) := fun ns hn => by rw [h2 ns hn, tabF_some]
  refine h w' ⟨_, D, _, hr, h1, h2', fun ns hn => ?_, List.nodup_nil, fun x hx => absurd hx List.not_mem_nil⟩ hgr hsz
  rw [h2' ns hn]; simp
/-- The step: nothing is left, or a rack has come. -/
theorem rg_step (hg : o.guard = none) (it : Operand) (hop : o.op = Op.next it false) (b r cnt : Nat) (K : List (List Int)) (W : List Int → Nat) (T : Tab K W) (seen : List (List Int)) (hr : Rg w b r K W seen cnt) (hit : a.eval it = .pointer (some ⟨r, 0, none⟩))
    (hDone : (∀ x, x ∈ seen ↔ x ∈ K) → wpList Try.prog ops Q rest (a.put o.dst (.tuple #[.bool false])) w)
    (hMore : ∀ (f : List Int) (w' : World) (cnt' : Nat), f ∈ K → f ∉ seen → Rg w' b r K W (f :: seen) cnt' → cnt' < cnt → w.grownBy w' (some r) → w'.heap.size = w.heap.size →
      (Instr.entry (.pointer (some ⟨r, 0, none⟩))).run Try.prog w' = .ok (.tuple #[.agg (ints f).toArray, .int .i64 (W f : Nat)]) w' → wpList Try.prog ops Q rest (a.put o.dst (.tuple #[.bool true, .agg (ints f).toArray, .int .i64 (W f : Nat)])) w') : wpList Try.prog ops Q (o :: rest) a w := by
  obtain ⟨D, left, hrg, h1, h2, h3, h4, h5⟩ := hr
  refine wpList_next_ranges w hg it hop 38 playKeyed RV (fun f : List Int => .agg (ints f).toArray) (fun v : Value => v) (fun key kl hk => ?_) (fun v y hv => ⟨v, rfl⟩) b r K.length D left cnt hit hrg (fun h0 hl => hDone (fun x => ⟨fun hx => (h5 x hx).1, fun hx => ?_⟩)) ?_
  · obtain ⟨ns, hn, e, _⟩ := play_inv hk
    exact ⟨ns, e⟩
  · have hk := h3 x (rack_row9 (T.good x hx))
    rw [hl, decide_eq_true hx] at hk
    simpa using hk
  · intro f v kl y w' cnt' hk hl hv hat hrg' hlt hgr hsz hen
    obtain ⟨ns, hn, e, ek⟩ := play_inv hk
    have ef : ints f = ints ns := agg_inj9 e
    have efn : f = ns := ints_inj9 ef
    subst efn
    have hf := h3 f hn
    rw [← ek, hl] at hf
    have hf2 := hf.symm
    simp only [Bool.and_eq_true, decide_eq_true_eq, Bool.not_eq_true', decide_eq_false_iff_not] at hf2
    obtain ⟨fK, fS⟩ := hf2
    have hat2 := hat (.held v)
    rw [ek, h1 f hn] at hat2
    unfold tabF at hat2
    rw [if_pos fK] at hat2
    have hy : y.1 = .held v := by
      have e := Option.some.inj (show some ((DataW.held v : DataW Value), ([] : List MemPlace)) = some y from hv)
      rw [← e]
    rw [hy] at hat2
    have ev : v = .int .i64 (W f : Nat) := by
      simp at hat2
      exact hat2.symm
    subst ev
    refine hMore f w' cnt' fK fS ⟨D, _, hrg', h1, h2, fun g hgk => ?_, List.nodup_cons.2 ⟨fS, h4⟩, fun x hx => ?_⟩ hlt hgr hsz hen
    · show (left (keyL g) && !(keyL g).sameKey kl) = _
      rw [h3 g hgk]
      by_cases e2 : g = f
      · subst e2
        rw [ek, WideAt.sameKey_self (playKeyed.key (play_key hgk))]
        simp
      · have : (keyL g).sameKey kl = false := Go.Maps.sameKey_ne (fun e3 => e2 (keyL_inj hgk hn (by rw [e3, ek])))
        rw [this]
        simp [e2]
    · rcases List.mem_cons.1 hx with rfl | hx
      · exact ⟨fK, hn⟩
      · exact h5 x hx
end
/-- A struct of a rack is built of its tubes. -/
theorem list24x {ns : List Int} (h : ns.length = 24) : ∃ a0 a1 a2 a3 a4 a5 a6 a7 a8 a9 a10 a11 a12 a13 a14 a15 a16 a17 a18 a19 a20 a21 a22 a23, ns = [a0, a1, a2, a3, a4, a5, a6, a7, a8, a9, a10, a11, a12, a13, a14, a15, a16, a17, a18, a19, a20, a21, a22, a23] := by
  match ns, h with
  | [a0, a1, a2, a3, a4, a5, a6, a7, a8, a9, a10, a11, a12, a13, a14, a15, a16, a17, a18, a19, a20, a21, a22, a23], _ => exact ⟨a0, a1, a2, a3, a4, a5, a6, a7, a8, a9, a10, a11, a12, a13, a14, a15, a16, a17, a18, a19, a20, a21, a22, a23, rfl⟩
set_option maxRecDepth 100000 in
theorem buildRackX (ns : List Int) (h : ns.length = 24) (w : World) : (Instr.build 42 #[(0, .agg (ints ns).toArray)]).run Try.prog w = .ok (.agg (ints ns).toArray) w := by
  obtain ⟨a0, a1, a2, a3, a4, a5, a6, a7, a8, a9, a10, a11, a12, a13, a14, a15, a16, a17, a18, a19, a20, a21, a22, a23, rfl⟩ := list24x h
  exact run_build w _ _ _ (by kernel_rfl)
section
variable {P : Program} {ops : Array Oper} {rest : List Oper} {op : Oper} {a : Act} {w : World} {Q : Exit → Act → World → Prop}
theorem build_lawX (hw : Region.wanted op (yielded ops a.tmps) = true) (T : TypeId) (x : Operand) (ho : op.op = .build T #[(0, x)]) (u v : Value) (hx : a.eval x = u)
    (hq : ∀ w, (Instr.build T #[(0, u)]).run P w = .ok v w)
    (h : wpList P ops Q rest (a.put op.dst v) w) : wpList P ops Q (op :: rest) a w :=
  wpList_wanted hw fun _ hK => by
    unfold Oper.wp execOp
    simp only [ho, hx, Sem.run_bind, List.map_toArray, List.map_cons, List.map_nil, hq, Result.andThen_ok, Sem.run_pure]
    exact hK _ _ h
end
/-- The plays' struct: how many, and the map. -/
def plC (all b : Nat) : List Value := [.int .i64 (all : Nat), .map (some b)]
theorem plC_len (all b : Nat) : (plC all b).length = 2 := rfl
end Go.Proofs.Ytemiljokdedidac.base
end

section
namespace Go.Proofs.Ytemiljokdedidac.base
open Go.ChangeShapes Go.WideShapes Go.ChangeAt Go.RowKit
set_option linter.unusedVariables false
set_option linter.unusedSimpArgs false

theorem Gr.one9 (w : World) (b : Nat) (t : TypeId) (x : List Int) (hx : x.length = 24) (hb : b ≤ w.heap.size) : Gr (w.alloc (.cells (ints x).toArray t)) b t 24 (.slice (some ⟨w.heap.size, 0, Option.none⟩) 1 1) [x] := by
  have := World.ownsRow_lit (base := b) (e := t) (size := 24) w (ints x).toArray 1 hb (by unfold maxLen; omega) (by simp [ints_len, hx])
  exact ⟨by simpa using this, fun l hl => by rw [List.mem_singleton.1 hl]; exact hx⟩
/-- The next racks, one after the other. -/
def nxK (ns : List Int) (k : Nat) : List (List Int) := (List.range k).map (nxR ns)
theorem nxK_len (ns : List Int) (k : Nat) : (nxK ns k).length = k := by unfold nxK; rw [List.length_map, List.length_range]
theorem nxK_step (ns : List Int) (k : Nat) : nxK ns (k + 1) = nxK ns k ++ [nxR ns k] := by unfold nxK; rw [List.range_succ, List.map_append]; rfl
theorem nxK_all {ns : List Int} (h : usefNA ns ≠ 0) : nxK ns (usefNA ns) = nxL ns := by unfold nxK nxL; rw [if_neg h]
theorem nxK_none {ns : List Int} (h : usefNA ns = 0) : nxL ns = [ns] := by unfold nxL; rw [if_pos h]

set_option maxHeartbeats 3200000 in
set_option maxRecDepth 100000 in
theorem next_any (ns : List Int) (w : World) (G : GR ns) :
    Calls Try.prog 122 #[row ns] w fun e w' => ∃ v : Value, e = .returned v ∧ Gr w' w.heap.size 42 24 v (nxL ns) ∧ Kept w w' := by
  have h24 := G.1
  have H24 := Lib.hid h24
  have HB := Lib.hid ((kept_refl w).alloc (.cells (ints ns).toArray 42))
  have H := Has.box w 42 h24 (by omega)
  have KU := Lib.hid (fun W => implUseful ns W h24)
  have KP := Lib.hid (fun W x y => implPour ns x y W h24)
  have HG := Lib.hid G
  rw [row_ints]
  go_enter Try.func122, Try.ntmps122
  go_wp2_with (refine load_has rfl 42 _ rfl _ rfl ?_ 24 ?_ _ Try.underlying42 rfl ?_ ?_; rotate_left; (· (repeat (first | (with_reducible assumption) | ((with_reducible refine Has.box _ _ ?_ ?_) <;> (first | assumption | decide)) | (with_reducible refine Has.alloc ?_ _) | ((with_reducible refine Has.putOther ?_ _ _ ?_); rotate_left; omega; skip) | ((with_reducible refine Has.below ?_ ?_); rotate_left; assumption)))); (· kernel_rfl))
  refine (KU.out _).mono ?_
  rintro e w1 ⟨pv, rfl, q1, b1⟩
  have HR := Lib.hid ((q1.mono (b' := 0) (Nat.zero_le _)).rw)
  have OW := Lib.hid q1.own
  replace H := H.below b1
  replace HB := Lib.hid (HB.out.call b1)
  have hlt := H.lt
  have hsz := b1.size
  rw [size1] at hsz OW
  obtain ⟨a0, cap0, rfl⟩ := HR.out.shape
  have N30 := use30 ns
  obtain ⟨N, hN⟩ : ∃ N, usefNA ns = N := ⟨_, rfl⟩
  have HN := Lib.hid hN
  rw [hN] at HR N30 OW ⊢
  clear q1 b1 hN KU
  by_cases h0 : N = 0
  · subst h0
    have E := Lib.hid (nxK_none HN.out)
    have GO := Lib.hid (Gr.one9 w1 w.heap.size 42 ns h24 (by omega))
    have HB2 := Lib.hid (HB.out.alloc (.cells (ints ns).toArray 42))
    go_wp2_with (first | (refine load_has rfl 42 _ rfl _ rfl ?_ 24 ?_ _ Try.underlying42 rfl ?_ ?_; rotate_left; (· (repeat (first | (with_reducible assumption) | ((with_reducible refine Has.box _ _ ?_ ?_) <;> (first | assumption | decide)) | (with_reducible refine Has.alloc ?_ _) | ((with_reducible refine Has.putOther ?_ _ _ ?_); rotate_left; omega; skip) | ((with_reducible refine Has.below ?_ ?_); rotate_left; assumption)))); (· kernel_rfl)) | (refine wpList_slice1 rfl 88 42 _ rfl 24 192 Try.underlying88 (by kernel_rfl) (by omega) (by omega) ns rfl h24 ?_))
    go_ret
    exact ⟨_, rfl, GO.out.as E.out.symm, HB2.out⟩
  have n0 : ((N : Int) == 0) = false := by simp; omega
  have P0 := Gr.none w1 w.heap.size 42 24 (by omega)
  have P1 := Lib.hid (P0.as (show [] = nxK ns 0 from rfl))
  replace H := H.alloc (.cells #[] 42)
  replace HB := Lib.hid (HB.out.alloc (.cells #[] 42))
  have HR2 := Lib.hid (HR.out.alloc (.cells #[] 42))
  obtain ⟨g, cap, he, _, hgl⟩ := HR.out.form (by omega)
  injection he with e1 _ e3
  subst e1
  subst e3
  have X0 : Hid (g ≠ w1.heap.size) := Lib.hid (by omega)
  have LG : Hid (w.heap.size + 1 ≤ g) := Lib.hid (OW.out g rfl)
  have hww : w.heap.size + 1 ≤ w1.heap.size := hsz
  have EN := Lib.hid (nxK_all (ns := ns) (by rw [HN.out]; exact h0))
  rw [HN.out] at EN
  clear P0 HR hgl h0 OW hsz
  go_wp2_with fail
  obtain ⟨b0, hb0⟩ : ∃ b0, w1.heap.size = b0 := ⟨_, rfl⟩
  rw [hb0] at P1 X0 hww ⊢
  generalize w1.alloc (.cells #[] 42) = W at *
  clear hb0 hlt
  go_loopg [5, 24] N (fun gk v i wr => ∃ k gr cr : Nat, gk = N - k ∧ k ≤ N ∧ v = .slice (some ⟨gr, 0, none⟩) k cr ∧ i = .int .i64 k ∧ Has wr w.heap.size ns 24 ∧ Hid (Gr wr w.heap.size 42 24 (.slice (some ⟨gr, 0, none⟩) k cr) (nxK ns k)) ∧ Hid (Rw wr 0 (.slice (some ⟨g, 0, none⟩) N cap0) N (usefFA ns)) ∧ Hid (g ≠ gr) ∧ w.heap.size + 1 ≤ gr ∧ Hid (Kept w wr))
  case atStart => exact ⟨0, b0, 0, rfl, by omega, rfl, rfl, H, P1, HR2, X0, hww, HB⟩
  case round =>
    clear H P1 HR2 X0 HB hww
    obtain ⟨k, gr, cr, rfl, hk, rfl, rfl, KA, KO, KS, KX, hgr, KB⟩ := hrel
    by_cases hkN : k < N
    · have hki : (k : Int) < (N : Int) := by omega
      have hk0 : (0 : Int) ≤ (k : Int) := by omega
      have RG := Lib.hid (range_two (KS.out.cell (k * 2) (by omega)) (KS.out.cell (k * 2 + 1) (by omega)))
      have Y := Lib.hid (nxK_step ns k)
      have YR : Hid (nxR ns k = pourR ns (upX ns k) (upY ns k)) := Lib.hid rfl
      have hbl := nxK_len ns k
      have ex : (usefFA ns).getD (k * 2) 0 = upX ns k := rfl
      have ey : (usefFA ns).getD (k * 2 + 1) 0 = upY ns k := rfl
      rw [ex, ey] at RG
      obtain ⟨x, hx⟩ : ∃ x, upX ns k = x := ⟨_, rfl⟩
      obtain ⟨y, hy⟩ : ∃ y, upY ns k = y := ⟨_, rfl⟩
      rw [hx, hy] at RG YR
      have t24 : (pourR ns x y).length = 24 := pourR_len H24.out x y
      rw [YR.out] at Y
      obtain ⟨t, ht⟩ : ∃ t, pourR ns x y = t := ⟨_, rfl⟩
      have HT := Lib.hid ht
      rw [ht] at Y t24
      clear ex ey hx hy YR ht
      have hA := KA.lt
      have HP := Has.box (ns := [x, y]) (n := 2) wr 33 rfl (by omega)
      have c0 := HP.cellX (k := 0) (x := x) (by omega) rfl
      have c1 := HP.cellX (k := 1) (x := y) (by omega) rfl
      replace KA := KA.alloc (.cells (ints [x, y]).toArray 33)
      replace KO := Lib.hid (KO.out.alloc (.cells (ints [x, y]).toArray 33))
      replace KS := Lib.hid (KS.out.alloc (.cells (ints [x, y]).toArray 33))
      replace KB := Lib.hid (KB.out.alloc (.cells (ints [x, y]).toArray 33))
      go_wp2_with (first | (refine wpList_load_mid rfl 33 _ rfl g (k * 2) rfl (ints [x, y]) _ RG.out Try.underlying33 rfl (by kernel_rfl) ?_) | (refine store_new rfl 33 _ _ rfl _ _ _ rfl _ rfl _ rfl rfl ?_ ?_ ?_; (· (first | assumption | rfl)); (· kernel_rfl)) | (refine load_has rfl 42 _ rfl _ rfl ?_ 24 ?_ _ Try.underlying42 rfl ?_ ?_; rotate_left; (· (repeat (first | (with_reducible assumption) | ((with_reducible refine Has.box _ _ ?_ ?_) <;> (first | assumption | decide)) | (with_reducible refine Has.alloc ?_ _) | ((with_reducible refine Has.putOther ?_ _ _ ?_); rotate_left; omega; skip) | ((with_reducible refine Has.below ?_ ?_); rotate_left; assumption)))); (· kernel_rfl)))
      refine (KP.out _ x y).mono ?_
      rintro e w2 ⟨rfl, b2⟩
      rw [HT.out]
      have RR := Has.box w2 42 t24 (by omega)
      have hl2 := b2.size
      replace KA := (KA.below b2).alloc (.cells (ints t).toArray 42)
      replace KO := Lib.hid ((KO.out.below b2).alloc (.cells (ints t).toArray 42))
      replace KS := Lib.hid ((KS.out.below b2).alloc (.cells (ints t).toArray 42))
      replace KB := Lib.hid ((KB.out.call b2).alloc (.cells (ints t).toArray 42))
      clear RG b2 HP c0 c1
      generalize pourA ns x y = pa at *
      generalize pourOk ns x y = po at *
      go_upto_region 9 with (refine store_new rfl 42 _ _ rfl _ _ _ rfl _ rfl _ rfl rfl ?_ ?_ ?_; (· (first | assumption | rfl)); (· kernel_rfl))
      generalize w2.alloc (.cells (ints t).toArray 42) = wc at *
      have hbs := KB.out.size
      have hA := KA.lt
      have hgr2 := KO.out.own gr rfl
      have hrrl := RR.lt
      go_wp2_with (first | (refine load_has rfl 42 _ rfl _ rfl ?_ 24 ?_ _ Try.underlying42 rfl ?_ ?_; rotate_left; (· (repeat (first | (with_reducible assumption) | ((with_reducible refine Has.box _ _ ?_ ?_) <;> (first | assumption | decide)) | (with_reducible refine Has.alloc ?_ _) | ((with_reducible refine Has.putOther ?_ _ _ ?_); rotate_left; omega; skip) | ((with_reducible refine Has.below ?_ ?_); rotate_left; assumption)))); (· kernel_rfl)) | (refine wpList_slice1 rfl 88 42 _ rfl 24 192 Try.underlying88 (by kernel_rfl) (by omega) (by omega) t rfl t24 ?_) | (at_builtin; refine append_gr rfl _ _ 88 rfl w.heap.size 42 24 192 Try.underlying88 (by kernel_rfl) (by omega) (by omega) _ k (nxK ns k) hbl rfl (KO.out.alloc _) wc.heap.size 1 rfl t (Has.box wc 42 t24 (by omega)) (by rw [size1]; omega) (by omega) ?_; intro g' cu' w4 hG hgrow hlie hlt4))
      have A1 := (KA.alloc (.cells (ints t).toArray 42)).grownNo hgrow (fun e => by have e := Option.some.inj (show some w.heap.size = some gr from e); omega)
      have A3 : Hid (Kept w w4) := Lib.hid ((KB.out.alloc (.cells (ints t).toArray 42)).grown hgrow (KB.out.alloc (.cells (ints t).toArray 42)).size (fun j hj => by have hj := Option.some.inj (show some gr = some j from hj); omega))
      have A4 := Lib.hid (hG.as Y.out.symm)
      have A5 := Lib.hid ((KS.out.alloc (.cells (ints t).toArray 42)).grownP hgrow (fun _ z hz => .inr (fun e => by
        have h1 := Option.some.inj (show some gr = some z from hz)
        have h2 := Option.some.inj (show some g = some z from e)
        exact KX.out (by rw [h1, h2]))))
      have hgw := (KS.out.lt (by omega)).2
      have A6 : Hid (g ≠ g') := Lib.hid (by
        rcases hlie with h3 | h3
        · have h3 := Option.some.inj (show some gr = some g' from h3)
          rw [← h3]; exact KX.out
        · rw [size1] at h3; omega)
      have A7 : w.heap.size + 1 ≤ g' := by
        rcases hlie with h3 | h3
        · have h3 := Option.some.inj (show some gr = some g' from h3)
          omega
        · rw [size1] at h3; omega
      clear hG hgrow hlie KA KO KS KB KX hbl hgw
      go_roundg (N - (k + 1))
      case rel => exact ⟨k + 1, g', cu', rfl, by omega, rfl, by go_num, A1, A4, A5, A6, A7, A3⟩
      case measure => omega
    · obtain rfl : k = N := by omega
      go_wp2_with fail
      go_ret
      exact ⟨_, rfl, KO.out.as EN.out, KB.out⟩
end Go.Proofs.Ytemiljokdedidac.base
end
