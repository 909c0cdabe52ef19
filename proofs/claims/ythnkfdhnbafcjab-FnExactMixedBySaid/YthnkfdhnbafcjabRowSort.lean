/-
  A row of arrays of numbers that the library sorts: its memory before and behind.
-/
import Derived.Test.YthnkfdhnbafcjabGrid
import Derived.Test.YthnkfdhnbafcjabForm
import Derived.Test.YthnkfdhnbafcjabLess
import Derived.Test.YthnkfdhnbafcjabRackOps
import Derived.Shelf.SlSortCmp.WholeK
namespace Go.Proofs.Ythnkfdhnbafcjab.base
open Go.ChangeShapes Go.WideShapes Go.ChangeAt Go.RowKit
open Go.Sort (HoldsK flatK size_flatK get_flatK putRowK grow putRow mapBlock putCells heap_grow_old onCells)
set_option linter.unusedVariables false
set_option linter.unusedSimpArgs false

theorem ltL_lex : ∀ a b : List Int, ltL a b = lexB a b
  | [], [] => rfl
  | [], _ :: _ => rfl
  | _ :: _, [] => rfl
  | x :: xs, y :: ys => by rw [ltL, lexB, ltL_lex xs ys]

abbrev R24 := {l : List Int // l.length = 24}
instance : Inhabited R24 := ⟨⟨z24, rfl⟩⟩
def encR (x : R24) : List Value := ints x.1
theorem encR_len (x : R24) : (encR x).length = 24 := by unfold encR; rw [ints_len]; exact x.2
theorem encR_one (x : R24) : ∀ v ∈ encR x, v.oneCell' = true := ints_one _
def cmpR (a b : List Int) : Int := if a = b then 0 else if ltL a b = true then -1 else 1
def cfR (x y : R24) : Int := cmpR x.1 y.1
theorem ltR (x y : R24) : ltOf cfR x y = lexB x.1 y.1 := by
  unfold ltOf cfR cmpR
  by_cases e : x.1 = y.1
  · rw [if_pos e, e, lexB_irr]; rfl
  · rw [if_neg e, ltL_lex]
    cases lexB x.1 y.1 <;> rfl
theorem swoR : Go.Sort.SWO (ltOf cfR) :=
  ⟨fun x => by rw [ltR]; exact lexB_irr _, fun x y z h k => by rw [ltR] at h k ⊢; exact lexB_trans _ _ _ h k, fun x y z h k => by rw [ltR] at h k ⊢; exact lexB_ntrans (a := x.1) (b := y.1) (c := z.1) (x.2.trans y.2.symm) (y.2.trans z.2.symm) h k⟩
def mkR (l : List Int) : R24 := if h : l.length = 24 then ⟨l, h⟩ else default
theorem mkR_val {l : List Int} (h : l.length = 24) : (mkR l).1 = l := by unfold mkR; rw [dif_pos h]
def arrR (L : List (List Int)) : Array R24 := (L.map mkR).toArray
theorem arrR_size (L : List (List Int)) : (arrR L).size = L.length := by unfold arrR; simp
theorem arrR_list {L : List (List Int)} (h : ∀ l ∈ L, l.length = 24) : (arrR L).toList.map (·.1) = L := by
  unfold arrR
  rw [List.map_map]
  exact (List.map_congr_left (fun l hl => mkR_val (h l hl))).trans (List.map_id' L)
theorem arrR_at {L : List (List Int)} (h : ∀ l ∈ L, l.length = 24) {k : Nat} (hk : k < L.length) : ((arrR L)[k]!).1 = L.getD k [] := by
  unfold arrR
  rw [getElem!_pos _ k (by simpa using hk), List.getElem_toArray, List.getElem_map, mkR_val (h _ (List.getElem_mem hk)), List.getD_eq_getElem?_getD, List.getElem?_eq_getElem hk]; rfl
theorem ints_bang (l : List Int) (j : Nat) (h : j < l.length) : (ints l)[j]! = .int .i64 (l.getD j 0) := by
  have h' : j < (ints l).length := by rw [ints_len]; exact h
  have := ints_get l j h
  rw [List.getElem?_eq_getElem h'] at this
  rw [getElem!_pos _ j h']
  exact Option.some.inj this

theorem Gr.toK {w : World} {b g cap n : Nat} {T : TypeId} {L : List (List Int)} (h : Gr w b T 24 (.slice (some ⟨g, 0, Option.none⟩) n cap) L) (hn : n = L.length) : HoldsK encR 24 w g 0 (arrR L) := by
  intro j hj
  rw [size_flatK, arrR_size] at hj
  have h1 : j / 24 < L.length := by omega
  have h2 : j % 24 < 24 := Nat.mod_lt _ (by omega)
  have hl := h.item (k := j / 24) h1
  rw [get_flatK encR 24 (arrR L) j (by rw [arrR_size]; exact hj)]
  unfold encR
  rw [arrR_at h.lens h1, ints_bang _ _ (by rw [hl]; exact h2), Nat.zero_add]
  have := h.cell hn (j / 24) (j % 24) (by omega) h2
  rw [Nat.div_add_mod'] at this
  exact ⟨this, h.free hn j⟩

theorem grownBy_sortK {w : World} {g n : Nat} {os : Array Obj} (d : Array R24) : w.grownBy (sortWorldK encR 24 w g 0 n d os) (some g) := by
  unfold sortWorldK putRowK
  refine ⟨rfl, rfl, rfl, by simp, fun k hk hne => ?_⟩
  rw [heap_grow_old _ _ (by simpa using hk)]
  have : g ≠ k := fun e => hne (by rw [e])
  simp [putRow, mapBlock, Go.Sort.ahead, Array.getElem?_modify, this]
theorem heap_sortK {w : World} {g n : Nat} {os : Array Obj} {cur : Array Value} {e : TypeId} {fr : Nat × Nat} (d : Array R24) (hb : w.heap[g]? = some (.cells cur e fr)) :
    (sortWorldK encR 24 w g 0 n d os).heap[g]? = some (.cells (putCells id 0 (flatK encR 24 d) cur) e fr) := by
  have hg : g < w.heap.size := (Array.getElem?_eq_some_iff.1 hb).1
  unfold sortWorldK putRowK
  rw [heap_grow_old _ _ (by simpa using hg)]
  simp [putRow, mapBlock, Go.Sort.ahead, Array.getElem?_modify, hb, onCells]
theorem take_putCellsK (cur : Array Value) (d : Array R24) (h : d.size * 24 ≤ cur.size) : (putCells id 0 (flatK encR 24 d) cur).toList.take (d.size * 24) = ints (d.toList.map (·.1)).flatten := by
  have hlen : ∀ l ∈ d.toList.map (·.1), l.length = 24 := fun l hl => by
    obtain ⟨x, _, rfl⟩ := List.mem_map.1 hl; exact x.2
  have hfl : (d.toList.map (·.1)).flatten.length = d.size * 24 := by rw [flat_len _ hlen, List.length_map]; rfl
  apply List.ext_getElem?
  intro j
  by_cases hj : j < d.size * 24
  · have h1 : j / 24 < d.size := by omega
    have h2 : j % 24 < 24 := Nat.mod_lt _ (by omega)
    rw [List.getElem?_take_of_lt hj, Array.getElem?_toList]
    have e1 : (putCells id 0 (flatK encR 24 d) cur)[j]? = some ((flatK encR 24 d)[j]!) := by
      unfold putCells
      rw [Array.getElem?_mapIdx, Array.getElem?_eq_getElem (by omega : j < cur.size), Option.map_some, if_pos ⟨Nat.zero_le _, by rw [size_flatK]; omega⟩, Nat.sub_zero]; rfl
    rw [e1, get_flatK encR 24 d j hj]
    unfold encR
    rw [ints_bang _ _ (by rw [(d[j / 24]!).2]; exact h2), ints_get _ _ (by rw [hfl]; exact hj)]
    have := flat_get (d.toList.map (·.1)) hlen (j / 24) (j % 24) (by rw [List.length_map]; exact h1) h2
    rw [Nat.div_add_mod'] at this
    rw [this]
    have e2 : (d.toList.map (·.1)).getD (j / 24) [] = (d[j / 24]!).1 := by
      rw [List.getD_eq_getElem?_getD, List.getElem?_map, Array.getElem?_toList, Array.getElem?_eq_getElem h1, getElem!_pos d (j / 24) h1]; rfl
    rw [e2]
  · rw [List.getElem?_take_eq_none (by omega), List.getElem?_eq_none (by rw [ints_len, hfl]; omega)]
theorem Gr.sorted {w : World} {b g cap n m : Nat} {T : TypeId} {L : List (List Int)} {os : Array Obj} (h : Gr w b T 24 (.slice (some ⟨g, 0, Option.none⟩) n cap) L) (hn : n = L.length) (d : Array R24) (hd : d.size = L.length) :
    Gr (sortWorldK encR 24 w g 0 m d os) b T 24 (.slice (some ⟨g, 0, Option.none⟩) n cap) (d.toList.map (·.1)) := by
  have hlen : ∀ l ∈ d.toList.map (·.1), l.length = 24 := fun l hl => by
    obtain ⟨x, _, rfl⟩ := List.mem_map.1 hl; exact x.2
  refine ⟨?_, hlen⟩
  have hll : (d.toList.map (·.1)).length = L.length := by rw [List.length_map]; exact hd
  refine ⟨by rw [ints_len, flat_len _ hlen], ?_⟩
  rw [hll, ← hn]
  rcases h.row.2 with ⟨h0, _⟩ | ⟨g', cap', cur, hv, hg, hb, h1, h2, h3, _⟩
  · cases h0
  · injection hv with e1 e2 e3
    injection e1 with e1
    injection e1 with e1 _ _
    subst e1
    subst e3
    refine .inr ⟨g, cap, _, rfl, hg, heap_sortK d hb, by omega, h2, by simp [putCells, h3], ?_⟩
    rw [hn, ← hd]
    exact take_putCellsK cur d (by rw [h3, hd]; exact Nat.mul_le_mul_right 24 h1)

/-- Strictly ascending rows of the same racks are one row. -/
theorem perm_asc_eq : ∀ {l m : List (List Int)}, l.Pairwise (fun a b => lexB a b = true) → m.Pairwise (fun a b => lexB a b = true) → l.Perm m → l = m
  | [], m, _, _, hp => by rw [List.nil_perm.1 hp]
  | a :: l, [], _, _, hp => by have := hp.length_eq; simp at this
  | a :: l, b :: m, hl, hm, hp => by
    rw [List.pairwise_cons] at hl hm
    have e : a = b := by
      have ha : a ∈ b :: m := hp.mem_iff.1 (List.mem_cons_self ..)
      have hb : b ∈ a :: l := hp.mem_iff.2 (List.mem_cons_self ..)
      rcases List.mem_cons.1 ha with h1 | h1
      · exact h1
      · rcases List.mem_cons.1 hb with h2 | h2
        · exact h2.symm
        · have := lexB_asym (hm.1 a h1)
          rw [hl.1 b h2] at this; cases this
    subst e
    rw [perm_asc_eq hl.2 hm.2 (List.Perm.cons_inv hp)]
/-- What the library hands back, where no two are the same. -/
theorem sorted_asc {d : Array R24} {n : Nat} (hd : d.size = n) (hs : Go.Sort.SortedIn (ltOf cfR) 0 n d) (hn : (d.toList.map (·.1)).Nodup) : (d.toList.map (·.1)).Pairwise (fun a b => lexB a b = true) := by
  rw [List.pairwise_iff_getElem]
  intro i j hi hj hij
  have hi' : i < d.size := by simpa using hi
  have hj' : j < d.size := by simpa using hj
  have h1 := hs i j (Nat.zero_le _) hij (by omega)
  rw [ltR, getElem!_pos d i hi', getElem!_pos d j hj'] at h1
  simp only [List.getElem_map, Array.getElem_toList]
  cases h2 : lexB (d[i]).1 (d[j]).1 with
  | true => rfl
  | false =>
    have e := lexB_tot _ _ ((d[i]).2.trans (d[j]).2.symm) h2 h1
    have := (List.nodup_iff_pairwise_ne.1 hn)
    rw [List.pairwise_iff_getElem] at this
    have := this i j hi hj hij
    simp only [List.getElem_map, Array.getElem_toList] at this
    exact absurd e this
end Go.Proofs.Ythnkfdhnbafcjab.base
