/-
  The racks before a rack, in order, in plain mathematics.
-/
import Derived.Test.YthnkfdhnbafcjabBackP
import Derived.Test.YthnkfdhnbafcjabSrcM
import Derived.Test.YthnkfdhnbafcjabRowSort
namespace Go.Proofs.Ythnkfdhnbafcjab.base
set_option linter.unusedVariables false
set_option linter.unusedSimpArgs false

/-- r is put to its place, if it is not there. -/
def rkIns (r : List Int) : List (List Int) → List (List Int)
  | [] => [r]
  | x :: l => if lexB x r = true then x :: rkIns r l else if x = r then x :: l else r :: x :: l
/-- The racks before the first k sources, put to their places. -/
def rbK (ns : List Int) : Nat → List (List Int)
  | 0 => []
  | k + 1 => rkIns (backRL ns ((srcA ns).getD k [])) (rbK ns k)
def rbA (ns : List Int) : List (List Int) := rbK ns (srcA ns).length
theorem rkIns_len {r : List Int} (hr : r.length = 24) : ∀ {l : List (List Int)}, (∀ x ∈ l, x.length = 24) → ∀ x ∈ rkIns r l, x.length = 24
  | [], _, x, hx => by rw [rkIns] at hx; rw [List.mem_singleton.1 hx]; exact hr
  | y :: l, h, x, hx => by
    rw [rkIns] at hx
    split at hx
    · rcases List.mem_cons.1 hx with h1 | h1
      · rw [h1]; exact h y (List.mem_cons_self ..)
      · exact rkIns_len hr (fun z hz => h z (List.mem_cons_of_mem _ hz)) x h1
    · split at hx
      · exact h x hx
      · rcases List.mem_cons.1 hx with h1 | h1
        · rw [h1]; exact hr
        · exact h x h1
theorem rkIns_le (r : List Int) : ∀ l : List (List Int), (rkIns r l).length ≤ l.length + 1
  | [] => by rw [rkIns]; simp
  | y :: l => by
    have := rkIns_le r l
    rw [rkIns]
    split
    · simp; omega
    · split <;> simp
/-- A rack that is new goes to its place. -/
theorem rkIns_new {r : List Int} (hr : r.length = 24) : ∀ {l : List (List Int)}, (∀ x ∈ l, x.length = 24) → r ∉ l → l.Pairwise (fun a b => lexB a b = true) → (rkIns r l).Pairwise (fun a b => lexB a b = true) ∧ (rkIns r l).Perm (r :: l)
  | [], _, _, _ => by rw [rkIns]; exact ⟨List.pairwise_singleton _ _, List.Perm.refl _⟩
  | y :: l, h, hn, hp => by
    rw [List.pairwise_cons] at hp
    have hny : y ≠ r := fun e => hn (by rw [e]; exact List.mem_cons_self ..)
    have hnl : r ∉ l := fun e => hn (List.mem_cons_of_mem _ e)
    have hl : ∀ x ∈ l, x.length = 24 := fun z hz => h z (List.mem_cons_of_mem _ hz)
    rw [rkIns]
    by_cases e : lexB y r = true
    · rw [if_pos e]
      obtain ⟨h1, h2⟩ := rkIns_new hr hl hnl hp.2
      refine ⟨List.pairwise_cons.2 ⟨fun z hz => ?_, h1⟩, (h2.cons y).trans (List.Perm.swap r y l)⟩
      rcases List.mem_cons.1 (h2.mem_iff.1 hz) with h3 | h3
      · rw [h3]; exact e
      · exact hp.1 z h3
    · rw [if_neg e, if_neg hny]
      have hry : lexB r y = true := by
        cases h3 : lexB r y with
        | true => rfl
        | false => exact absurd (lexB_tot y r ((h y (List.mem_cons_self ..)).trans hr.symm) (by simpa using e) h3) hny
      refine ⟨List.pairwise_cons.2 ⟨fun z hz => ?_, List.pairwise_cons.2 hp⟩, List.Perm.refl _⟩
      rcases List.mem_cons.1 hz with h3 | h3
      · rw [h3]; exact hry
      · exact lexB_trans r y z hry (hp.1 z h3)

/-- The numbers of a source tell its place. -/
def srcI (x : List Int) : Int := (x.getD 0 0 * 6 + x.getD 1 0) * 4 + (x.getD 2 0 - 1)
theorem srcL_before (ns : List Int) : ∀ m, ∀ x ∈ srcL ns m, srcI x < (m : Int)
  | 0, x, h => by rw [srcL] at h; exact absurd h List.not_mem_nil
  | m + 1, x, h => by
    rw [srcL] at h
    split at h
    next hb =>
      rcases List.mem_append.1 h with h1 | h1
      · have := srcL_before ns m x h1; omega
      · rw [List.mem_singleton.1 h1]
        show (((m / 24 : Nat) : Int) * 6 + ((m / 4 % 6 : Nat) : Int)) * 4 + (((m % 4 + 1 : Nat) : Int) - 1) < ((m + 1 : Nat) : Int)
        omega
    · have := srcL_before ns m x h; omega
theorem back_apart {ns x y : List Int} (h24 : ns.length = 24) (hx : ∃ i j k : Int, x = [i, j, k] ∧ backOk ns i j k = true) (hy : ∃ i j k : Int, y = [i, j, k] ∧ backOk ns i j k = true) (h : srcI x ≠ srcI y) : backRL ns x ≠ backRL ns y := by
  obtain ⟨i, j, k, rfl, h1⟩ := hx
  obtain ⟨i', j', k', rfl, h2⟩ := hy
  intro e
  obtain ⟨rfl, rfl, rfl⟩ := back_inj h24 h1 h2 e
  exact h rfl
theorem srcL_nodup {ns : List Int} (h24 : ns.length = 24) : ∀ m, ((srcL ns m).map (backRL ns)).Nodup
  | 0 => by rw [srcL]; exact List.nodup_nil
  | m + 1 => by
    rw [srcL]
    split
    next hb =>
      rw [List.map_append, List.nodup_append]
      refine ⟨srcL_nodup h24 m, by simp, fun a ha b hb' => ?_⟩
      obtain ⟨x, hx, rfl⟩ := List.mem_map.1 ha
      obtain ⟨y, hy, rfl⟩ := List.mem_map.1 hb'
      have hy := List.mem_singleton.1 hy
      subst hy
      refine back_apart h24 (srcL_mem ns m x hx) ⟨_, _, _, rfl, hb⟩ ?_
      have h1 := srcL_before ns m x hx
      have h2 : srcI [((m / 24 : Nat) : Int), ((m / 4 % 6 : Nat) : Int), ((m % 4 + 1 : Nat) : Int)] = (m : Int) := by
        show (((m / 24 : Nat) : Int) * 6 + ((m / 4 % 6 : Nat) : Int)) * 4 + (((m % 4 + 1 : Nat) : Int) - 1) = (m : Int)
        omega
      rw [h2]; omega
    · exact srcL_nodup h24 m
theorem srcA_nodup {ns : List Int} (h24 : ns.length = 24) : ((srcA ns).map (backRL ns)).Nodup := by
  unfold srcA
  split
  · exact srcL_nodup h24 144
  · exact List.nodup_nil
theorem rbK_facts {ns : List Int} (h24 : ns.length = 24) : ∀ k, k ≤ (srcA ns).length → (∀ x ∈ rbK ns k, x.length = 24) ∧ (rbK ns k).Pairwise (fun a b => lexB a b = true) ∧ (rbK ns k).Perm (((srcA ns).take k).map (backRL ns))
  | 0, _ => ⟨fun x h => by rw [rbK] at h; exact absurd h List.not_mem_nil, by rw [rbK]; exact List.Pairwise.nil, by rw [rbK]; exact List.Perm.refl _⟩
  | k + 1, hk => by
    obtain ⟨h1, h2, h3⟩ := rbK_facts h24 k (by omega)
    have hkl : k < (srcA ns).length := by omega
    have hr := backRL_len h24 ((srcA ns).getD k [])
    have eG : (srcA ns).getD k [] = (srcA ns)[k] := by rw [List.getD_eq_getElem?_getD, List.getElem?_eq_getElem hkl]; rfl
    have eT : ((srcA ns).take (k + 1)).map (backRL ns) = ((srcA ns).take k).map (backRL ns) ++ [backRL ns ((srcA ns).getD k [])] := by
      rw [List.take_add_one, List.getElem?_eq_getElem hkl, List.map_append, eG]; rfl
    have hn : backRL ns ((srcA ns).getD k []) ∉ rbK ns k := fun h => by
      have hd := srcA_nodup h24
      rw [← List.take_append_drop (k + 1) (srcA ns), List.map_append, eT, List.nodup_append, List.nodup_append] at hd
      exact hd.1.2.2 _ (h3.mem_iff.1 h) _ (List.mem_singleton.2 rfl) rfl
    rw [rbK]
    obtain ⟨h4, h5⟩ := rkIns_new hr h1 hn h2
    refine ⟨rkIns_len hr h1, h4, ?_⟩
    rw [eT]
    exact h5.trans ((h3.cons _).trans (List.perm_append_singleton _ _).symm)
theorem rbA_facts {ns : List Int} (h24 : ns.length = 24) : (∀ x ∈ rbA ns, x.length = 24) ∧ (rbA ns).Pairwise (fun a b => lexB a b = true) ∧ (rbA ns).Perm ((srcA ns).map (backRL ns)) := by
  have := rbK_facts h24 (srcA ns).length (Nat.le_refl _)
  rw [List.take_length] at this; exact this
theorem rbA_len {ns : List Int} (h24 : ns.length = 24) : (rbA ns).length = (srcA ns).length := by
  have := (rbA_facts h24).2.2.length_eq
  rwa [List.length_map] at this
/-- What the library's sort makes of the racks before all sources. -/
theorem rbA_sorted {ns : List Int} (h24 : ns.length = 24) {d : Array R24} (hp : Go.Sort.PermIn 0 (srcA ns).length (arrR ((srcA ns).map (backRL ns))) d) (hs : Go.Sort.SortedIn (ltOf cfR) 0 (srcA ns).length d) : d.toList.map (·.1) = rbA ns := by
  have hl : ∀ l ∈ (srcA ns).map (backRL ns), l.length = 24 := fun l hl => by
    obtain ⟨x, _, rfl⟩ := List.mem_map.1 hl; exact backRL_len h24 x
  have hsz : d.size = (srcA ns).length := by rw [hp.1, arrR_size, List.length_map]
  have hperm := hp.2.2
  have e1 : d.extract 0 (srcA ns).length = d := by rw [← hsz]; exact Array.extract_size
  have e2 : (arrR ((srcA ns).map (backRL ns))).extract 0 (srcA ns).length = arrR ((srcA ns).map (backRL ns)) := by
    have : (arrR ((srcA ns).map (backRL ns))).size = (srcA ns).length := by rw [arrR_size, List.length_map]
    rw [← this]; exact Array.extract_size
  rw [e1, e2] at hperm
  have hm := hperm.map (·.1)
  rw [arrR_list hl] at hm
  have F := rbA_facts h24
  exact perm_asc_eq (sorted_asc hsz hs (hm.nodup_iff.2 (srcA_nodup h24))) F.2.1 (hm.trans F.2.2.symm)
end Go.Proofs.Ythnkfdhnbafcjab.base
