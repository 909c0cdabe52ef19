/-
  The form of a rack, walked on the program's side: the row of its tubes is sorted by the library.
-/
import Derived.Test.YthnkfdhnbafcjabFormC
namespace Go.Proofs.Ythnkfdhnbafcjab.base
open Go.ChangeShapes Go.WideShapes Go.ChangeAt Go.RowKit
open Go.Sort (HoldsK flatK size_flatK get_flatK putRowK size_putRowK)
set_option linter.unusedVariables false
set_option linter.unusedSimpArgs false

theorem Has.grownR {w w' : World} {c : Nat} {ns : List Int} {m : Nat} (H : Has w c ns m) {r : Option Nat} (hg : w.grownBy w' r) (hr : some c ≠ r) : Has w' c ns m := by
  have hb := hg.block c H.lt hr
  refine ⟨⟨fun j v hv => (World.cell?_of_block (a := ⟨c, 0 + j, Option.none⟩) hb).trans (H.holds.range j v hv), fun j hj => ?_⟩, H.len, H.pos⟩
  have := H.holds.there j hj
  rw [World.cell?_of_block (w' := w') (w := w) (a := ⟨c, 0 + j, Option.none⟩) hb, World.frozen?_of_block (w' := w') (w := w) (a := ⟨c, 0 + j, Option.none⟩) hb]
  exact this

abbrev T4 := Int × Int × Int × Int
def tl (x : T4) : List Int := [x.1, x.2.1, x.2.2.1, x.2.2.2]
def encT (x : T4) : List Value := ints (tl x)
theorem encT_len (x : T4) : (encT x).length = 4 := rfl
theorem encT_one (x : T4) : ∀ v ∈ encT x, v.oneCell' = true := ints_one _
def cfT (x y : T4) : Int := cmpL (tl x) (tl y)
theorem ltT (x y : T4) : ltOf cfT x y = lexB (tl x) (tl y) := cmpL_lex _ _ rfl
theorem swoT : Go.Sort.SWO (ltOf cfT) :=
  ⟨fun x => by rw [ltT]; exact lexB_irr _, fun x y z h k => by rw [ltT] at h k ⊢; exact lexB_trans _ _ _ h k, fun x y z h k => by rw [ltT] at h k ⊢; exact lexB_ntrans (a := tl x) (b := tl y) (c := tl z) rfl rfl h k⟩
def at4T (ns : List Int) (i : Nat) : T4 := (ns.getD (i * 4) 0, ns.getD (i * 4 + 1) 0, ns.getD (i * 4 + 2) 0, ns.getD (i * 4 + 3) 0)
def arrT (ns : List Int) : Array T4 := #[at4T ns 0, at4T ns 1, at4T ns 2, at4T ns 3, at4T ns 4, at4T ns 5]
theorem tl_at (ns : List Int) (i : Nat) (h : ns.length = 24) (hi : i < 6) : tl (at4T ns i) = tub ns i := by
  obtain ⟨a, b, c, d, e⟩ := fourL (tub_len ns i h hi)
  have g := fun k (hk : k < 4) => tub_getD ns i k hk
  rw [e] at g ⊢
  have g0 := g 0 (by omega); have g1 := g 1 (by omega); have g2 := g 2 (by omega); have g3 := g 3 (by omega)
  simp only [List.getD_cons_zero, List.getD_cons_succ, Nat.add_zero] at g0 g1 g2 g3
  unfold tl at4T
  rw [← g0, ← g1, ← g2, ← g3]
theorem arr_cell (ns : List Int) : ∀ i c : Nat, i < 6 → c < 4 → (encT (arrT ns)[i]!)[c]! = .int .i64 (ns.getD (i * 4 + c) 0)
  | 0, 0, _, _ => rfl
  | 0, 1, _, _ => rfl
  | 0, 2, _, _ => rfl
  | 0, 3, _, _ => rfl
  | 1, 0, _, _ => rfl
  | 1, 1, _, _ => rfl
  | 1, 2, _, _ => rfl
  | 1, 3, _, _ => rfl
  | 2, 0, _, _ => rfl
  | 2, 1, _, _ => rfl
  | 2, 2, _, _ => rfl
  | 2, 3, _, _ => rfl
  | 3, 0, _, _ => rfl
  | 3, 1, _, _ => rfl
  | 3, 2, _, _ => rfl
  | 3, 3, _, _ => rfl
  | 4, 0, _, _ => rfl
  | 4, 1, _, _ => rfl
  | 4, 2, _, _ => rfl
  | 4, 3, _, _ => rfl
  | 5, 0, _, _ => rfl
  | 5, 1, _, _ => rfl
  | 5, 2, _, _ => rfl
  | 5, 3, _, _ => rfl

theorem Has.toK {w : World} {b : Nat} {ns : List Int} (h : Has w b ns 24) : HoldsK encT 4 w b 0 (arrT ns) := by
  intro j hj
  have h24 : (flatK encT 4 (arrT ns)).size = 24 := by rw [size_flatK]; rfl
  rw [h24] at hj
  rw [get_flatK encT 4 (arrT ns) j (by have : (arrT ns).size = 6 := rfl; omega), arr_cell ns (j / 4) (j % 4) (by omega) (by omega), Nat.div_add_mod', Nat.zero_add]
  exact ⟨h.cell j hj, h.free j hj⟩

def flatT (l : List T4) : List Int := (l.map tl).flatten
theorem flat_cell (a b c d e f : T4) : ∀ i k : Nat, i < 6 → k < 4 → (encT (#[a, b, c, d, e, f] : Array T4)[i]!)[k]! = .int .i64 ((flatT [a, b, c, d, e, f]).getD (i * 4 + k) 0)
  | 0, 0, _, _ => rfl
  | 0, 1, _, _ => rfl
  | 0, 2, _, _ => rfl
  | 0, 3, _, _ => rfl
  | 1, 0, _, _ => rfl
  | 1, 1, _, _ => rfl
  | 1, 2, _, _ => rfl
  | 1, 3, _, _ => rfl
  | 2, 0, _, _ => rfl
  | 2, 1, _, _ => rfl
  | 2, 2, _, _ => rfl
  | 2, 3, _, _ => rfl
  | 3, 0, _, _ => rfl
  | 3, 1, _, _ => rfl
  | 3, 2, _, _ => rfl
  | 3, 3, _, _ => rfl
  | 4, 0, _, _ => rfl
  | 4, 1, _, _ => rfl
  | 4, 2, _, _ => rfl
  | 4, 3, _, _ => rfl
  | 5, 0, _, _ => rfl
  | 5, 1, _, _ => rfl
  | 5, 2, _, _ => rfl
  | 5, 3, _, _ => rfl

theorem six_arr {α : Type} {d : Array α} (h : d.size = 6) : ∃ a b c e f g, d = #[a, b, c, e, f, g] := by
  obtain ⟨l⟩ := d
  match l, h with
  | [a, b, c, e, f, g], _ => exact ⟨a, b, c, e, f, g, rfl⟩
theorem Has.fromK {w : World} {b : Nat} {d : Array T4} (h : HoldsK encT 4 w b 0 d) (h6 : d.size = 6) : Has w b (flatT d.toList) 24 := by
  obtain ⟨x0, x1, x2, x3, x4, x5, rfl⟩ := six_arr h6
  have h24 : (flatK encT 4 #[x0, x1, x2, x3, x4, x5]).size = 24 := by rw [size_flatK]; rfl
  have hl : (flatT [x0, x1, x2, x3, x4, x5]).length = 24 := rfl
  have cell : ∀ j, j < 24 → w.cell? ⟨b, j, none⟩ = some (.int .i64 ((flatT [x0, x1, x2, x3, x4, x5]).getD j 0)) ∧ w.frozen? ⟨b, j, none⟩ = false := by
    intro j hj
    have := h j (by rw [h24]; exact hj)
    rw [get_flatK encT 4 _ j (by show j < 6 * 4; omega), flat_cell x0 x1 x2 x3 x4 x5 (j / 4) (j % 4) (by omega) (by omega), Nat.div_add_mod', Nat.zero_add] at this
    exact this
  refine ⟨⟨fun j v hv => ?_, fun j hj => ?_⟩, hl, by omega⟩
  · have hj : j < 24 := by
      rcases Nat.lt_or_ge j 24 with g | g
      · exact g
      · rw [List.getElem?_eq_none (by rw [ints_len]; show 24 ≤ j; exact g)] at hv; cases hv
    rw [Nat.zero_add, (cell j hj).1, ← hv, ints_get _ _ (by rw [hl]; exact hj)]
  · have hj' : j < 24 := by rw [ints_len] at hj; rw [hl] at hj; exact hj
    rw [Nat.zero_add, (cell j hj').1]
    exact ⟨rfl, (cell j hj').2⟩

theorem grown_sortK (W : World) (b m : Nat) (d : Array T4) (os : Array Obj) : W.grownBy (sortWorldK encT 4 W b 0 m d os) (some b) := by
  unfold sortWorldK
  refine ⟨rfl, rfl, rfl, ?_, fun i hi hn => ?_⟩
  · rw [Go.Sort.size_grow, size_putRowK]; exact Nat.le_add_right _ _
  · have hb : i ≠ b := fun e => hn (by rw [e])
    rw [Go.Sort.heap_grow_old _ _ (by rw [size_putRowK]; exact hi)]
    unfold putRowK Go.Sort.putRow Go.Sort.mapBlock
    simp only [Array.getElem?_modify]
    rw [if_neg (fun e => hb e.symm)]; rfl

theorem sorted_form (ns : List Int) (d : Array T4) (h : ns.length = 24) (hp : Go.Sort.PermIn 0 6 (arrT ns) d) (hs : Go.Sort.SortedIn (ltOf cfT) 0 6 d) : flatT d.toList = formL ns := by
  have h6 : d.size = 6 := hp.1
  have e1 : d.extract 0 6 = d := by rw [← h6]; exact Array.extract_size
  have e2 : (arrT ns).extract 0 6 = arrT ns := rfl
  have hperm := hp.2.2
  rw [e1, e2] at hperm
  have hm := hperm.map tl
  have ha : (arrT ns).toList.map tl = tubs ns := by
    show [tl (at4T ns 0), tl (at4T ns 1), tl (at4T ns 2), tl (at4T ns 3), tl (at4T ns 4), tl (at4T ns 5)] = tubs ns
    rw [tl_at ns 0 h (by omega), tl_at ns 1 h (by omega), tl_at ns 2 h (by omega), tl_at ns 3 h (by omega), tl_at ns 4 h (by omega), tl_at ns 5 h (by omega)]; rfl
  rw [ha] at hm
  have hl4 : ∀ t ∈ d.toList.map tl, t.length = 4 := fun t ht => by
    obtain ⟨x, _, rfl⟩ := List.mem_map.1 ht; rfl
  obtain ⟨f24, ft⟩ := tubs_flat (l := d.toList.map tl) (by rw [List.length_map]; exact h6) hl4
  have asc : Asc (d.toList.map tl) := by
    obtain ⟨x0, x1, x2, x3, x4, x5, rfl⟩ := six_arr h6
    have S := fun i j h1 h2 => (ltT _ _).symm.trans (hs i j (Nat.zero_le _) h1 h2)
    have p := asc_of (ns := flatT [x0, x1, x2, x3, x4, x5]) (fun p q hpq hq => by
      have e : ∀ i, i < 6 → tub (flatT [x0, x1, x2, x3, x4, x5]) i = tl (#[x0, x1, x2, x3, x4, x5] : Array T4)[i]! := fun i hi => by
        match i, hi with
        | 0, _ => rfl
        | 1, _ => rfl
        | 2, _ => rfl
        | 3, _ => rfl
        | 4, _ => rfl
        | 5, _ => rfl
      rw [e p (by omega), e q hq]; exact S p q hpq hq)
    exact p
  exact form_is ns _ h f24 (by show Asc (tubs ((d.toList.map tl).flatten)); rw [ft]; exact asc) (by show (tubs ((d.toList.map tl).flatten)).Perm (tubs ns); rw [ft]; exact hm)

set_option maxHeartbeats 1600000 in
set_option maxRecDepth 100000 in
theorem formOf_any (ns : List Int) (w : World) (h24 : ns.length = 24) :
    Calls Try.prog 49 #[row ns] w fun e w' => e = .returned (.agg (ints (formL ns)).toArray) ∧ Kept w w' := by
  have HB := (((kept_refl w).alloc (.cells (ints ns).toArray 29)).alloc (.cells #[.int .i64 0, .int .i64 0, .int .i64 0, .int .i64 0, .int .i64 0, .int .i64 0, .int .i64 0, .int .i64 0, .int .i64 0, .int .i64 0, .int .i64 0, .int .i64 0, .int .i64 0, .int .i64 0, .int .i64 0, .int .i64 0, .int .i64 0, .int .i64 0, .int .i64 0, .int .i64 0, .int .i64 0, .int .i64 0, .int .i64 0, .int .i64 0] 75)).alloc (.cells (ints ns).toArray 75)
  have H := (Has.box w 29 h24 (by omega)).alloc (.cells #[.int .i64 0, .int .i64 0, .int .i64 0, .int .i64 0, .int .i64 0, .int .i64 0, .int .i64 0, .int .i64 0, .int .i64 0, .int .i64 0, .int .i64 0, .int .i64 0, .int .i64 0, .int .i64 0, .int .i64 0, .int .i64 0, .int .i64 0, .int .i64 0, .int .i64 0, .int .i64 0, .int .i64 0, .int .i64 0, .int .i64 0, .int .i64 0] 75)
  have Z := ((Has.zero24 (w.alloc (.cells (ints ns).toArray 29)) 75).at (size1 _ _)).alloc (.cells (ints ns).toArray 75)
  have Y := (Has.box ((w.alloc (.cells (ints ns).toArray 29)).alloc (.cells #[.int .i64 0, .int .i64 0, .int .i64 0, .int .i64 0, .int .i64 0, .int .i64 0, .int .i64 0, .int .i64 0, .int .i64 0, .int .i64 0, .int .i64 0, .int .i64 0, .int .i64 0, .int .i64 0, .int .i64 0, .int .i64 0, .int .i64 0, .int .i64 0, .int .i64 0, .int .i64 0, .int .i64 0, .int .i64 0, .int .i64 0, .int .i64 0] 75)) 75 h24 (by omega)).at (c := w.heap.size + 1 + 1) (by simp)
  have hz : z24.length = 24 := rfl
  have eg : ∀ args w, (callFunc 74 args).run Try.prog w = .ok (.enter 74 args) w := enters_of Try.func74 (by kernel_rfl) rfl
  have hcon := AnyQ.slices_SortFunc_small_sorted Try.sortTubes 4 Try.isAgg22 Try.sizeOf22 encT encT_len encT_one cfT 74 #[] swoT (w.heap.size + 1 + 1) 0 6 (arrT ns) _ eg (fun m os dk hd x y => cmpTubes_any (tl x) (tl y) _ rfl rfl) Y.toK Y.lt (by show 6 ≤ 12; omega) (fun n W h => bitsLen_any n W h)
  rw [show (arrT ns).size = 6 from rfl] at hcon
  change Calls Try.prog 73 _ _ _ at hcon
  have HC := Lib.hid hcon
  have HF := Lib.hid (fun d hp hs => sorted_form ns d h24 hp hs)
  have HY := Lib.hid Y
  have HK := Lib.hid HB
  clear hcon Y HB
  rw [row_ints]
  go_enter Try.func49, Try.ntmps49
  go_wp2_with (first | (refine store_new rfl 75 _ _ rfl _ _ _ rfl _ (by simp) _ rfl rfl ?_ ?_ ?_; (· (first | assumption | rfl)); (· kernel_rfl)) | (refine load_has rfl 23 _ rfl _ rfl ?_ 24 ?_ _ Try.underlying23 rfl ?_ ?_; rotate_left; (· (repeat (first | (with_reducible assumption) | ((with_reducible refine Has.box _ _ ?_ ?_) <;> (first | assumption | decide)) | (with_reducible refine Has.alloc ?_ _) | ((with_reducible refine Has.putOther ?_ _ _ ?_); rotate_left; omega; skip) | ((with_reducible refine Has.below ?_ ?_); rotate_left; assumption)))); (· kernel_rfl)))
  refine HC.out.mono ?_
  rintro e w' ⟨rfl, d, n, os, hp, hs, rfl⟩
  have hl := formL_len ns h24
  have hd : d.size = 6 := hp.1
  have K1 := holdsK_sortWorldK_c encT 4 _ _ 0 (arrT ns) d n os HY.out.toK HY.out.lt hd
  have G := grown_sortK (((w.alloc (.cells (ints ns).toArray 29)).alloc (.cells #[.int .i64 0, .int .i64 0, .int .i64 0, .int .i64 0, .int .i64 0, .int .i64 0, .int .i64 0, .int .i64 0, .int .i64 0, .int .i64 0, .int .i64 0, .int .i64 0, .int .i64 0, .int .i64 0, .int .i64 0, .int .i64 0, .int .i64 0, .int .i64 0, .int .i64 0, .int .i64 0, .int .i64 0, .int .i64 0, .int .i64 0, .int .i64 0] 75)).alloc (.cells (ints ns).toArray 75)) (w.heap.size + 1 + 1) n d os
  have Y2 := Has.as (Has.fromK K1 hd) (HF.out d hp hs)
  have Z2 := Z.grownR G (fun e => by injection e with e; omega)
  have S1 := Lib.hid (Z2.putAll (formL ns) hl)
  have S2 := Lib.hid (Kept.puts (Below.grown HK.out G HK.out.size (fun k hk => by injection hk with hk; omega)) (b := w.heap.size + 1) (by omega) 0 (ints (formL ns)))
  generalize sortWorldK encT 4 _ _ _ _ _ _ = W2 at *
  go_wp2_with (first | (refine load_has rfl 75 _ rfl _ rfl ?_ 24 ?_ _ Try.underlying75 rfl ?_ ?_; rotate_left; (· (repeat (first | (with_reducible assumption) | ((with_reducible refine Has.box _ _ ?_ ?_) <;> (first | assumption | decide)) | (with_reducible refine Has.alloc ?_ _) | ((with_reducible refine Has.putOther ?_ _ _ ?_); rotate_left; omega; skip) | ((with_reducible refine Has.below ?_ ?_); rotate_left; assumption)))); (· kernel_rfl)) | (refine store_at rfl 75 _ _ rfl _ _ rfl rfl ?_ 24 ?_ ?_ ?_ ?_; rotate_left; (· (repeat (first | (with_reducible assumption) | ((with_reducible refine Has.box _ _ ?_ ?_) <;> (first | assumption | decide)) | (with_reducible refine Has.alloc ?_ _) | ((with_reducible refine Has.putOther ?_ _ _ ?_); rotate_left; omega; skip) | ((with_reducible refine Has.below ?_ ?_); rotate_left; assumption)))); (· (first | assumption | rfl)); (· kernel_rfl)))
  exact bodyPost_ret (res_has (P := Try.prog) rfl _ _ (w.heap.size + 1) (formL ns) 24 _ rfl S1.out Try.underlying75 rfl (by kernel_rfl)) rfl ⟨rfl, S2.out⟩
end Go.Proofs.Ythnkfdhnbafcjab.base
