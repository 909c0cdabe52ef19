/-
  Racks in ascending order: one is put to its place.
-/
import Derived.Test.YtemiljokdedidacForm
namespace Go.Proofs.Ytemiljokdedidac.base
set_option linter.unusedVariables false
set_option linter.unusedSimpArgs false

/-- r is put to its place, if it is not there. -/
def rkIns (r : List Int) : List (List Int) → List (List Int)
  | [] => [r]
  | x :: l => if lexB x r = true then x :: rkIns r l else if x = r then x :: l else r :: x :: l
theorem rkIns_len {r : List Int} (hr : r.length = 24) : ∀ {l : List (List Int)}, (∀ x ∈ l, x.length = 24) → ∀ x ∈ rkIns r l, x.length = 24
  | [], _, x, hx => by rw [rkIns] at hx; rw [List.mem_singleton.1 hx]; exact hr
  | y :: l, h, x, hx => by
    rw [rkIns] at hx
    split at hx
    · rcases List.mem_cons.1 hx with h1 | h1
      · rw [h1]; exact h y (List.mem_cons_self ..)
      · exact rkIns_len hr (fun z hz => h z (List.mem_cons_of_mem _ hz)) x h1
    · split at hx
      · exact h x hx
      · rcases List.mem_cons.1 hx with h1 | h1
        · rw [h1]; exact hr
        · exact h x h1
theorem rkIns_le (r : List Int) : ∀ l : List (List Int), (rkIns r l).length ≤ l.length + 1
  | [] => by rw [rkIns]; simp
  | y :: l => by
    have := rkIns_le r l
    rw [rkIns]
    split
    · simp; omega
    · split <;> simp
/-- A rack that is new goes to its place. -/
theorem rkIns_new {r : List Int} (hr : r.length = 24) : ∀ {l : List (List Int)}, (∀ x ∈ l, x.length = 24) → r ∉ l → l.Pairwise (fun a b => lexB a b = true) → (rkIns r l).Pairwise (fun a b => lexB a b = true) ∧ (rkIns r l).Perm (r :: l)
  | [], _, _, _ => by rw [rkIns]; exact ⟨List.pairwise_singleton _ _, List.Perm.refl _⟩
  | y :: l, h, hn, hp => by
    rw [List.pairwise_cons] at hp
    have hny : y ≠ r := fun e => hn (by rw [e]; exact List.mem_cons_self ..)
    have hnl : r ∉ l := fun e => hn (List.mem_cons_of_mem _ e)
    have hl : ∀ x ∈ l, x.length = 24 := fun z hz => h z (List.mem_cons_of_mem _ hz)
    rw [rkIns]
    by_cases e : lexB y r = true
    · rw [if_pos e]
      obtain ⟨h1, h2⟩ := rkIns_new hr hl hnl hp.2
      refine ⟨List.pairwise_cons.2 ⟨fun z hz => ?_, h1⟩, (h2.cons y).trans (List.Perm.swap r y l)⟩
      rcases List.mem_cons.1 (h2.mem_iff.1 hz) with h3 | h3
      · rw [h3]; exact e
      · exact hp.1 z h3
    · rw [if_neg e, if_neg hny]
      have hry : lexB r y = true := by
        cases h3 : lexB r y with
        | true => rfl
        | false => exact absurd (lexB_tot y r ((h y (List.mem_cons_self ..)).trans hr.symm) (by simpa using e) h3) hny
      refine ⟨List.pairwise_cons.2 ⟨fun z hz => ?_, List.pairwise_cons.2 hp⟩, List.Perm.refl _⟩
      rcases List.mem_cons.1 hz with h3 | h3
      · rw [h3]; exact hry
      · exact lexB_trans r y z hry (hp.1 z h3)
end Go.Proofs.Ytemiljokdedidac.base
