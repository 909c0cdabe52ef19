/-
  Which values are keys: arrays of numbers, nothing else.
-/
import Derived.Test.YtlleenepinijdaaMapV
import Derived.Maps.RangeWalk
namespace Go.Proofs.Ytlleenepinijdaa.base
open Go.ChangeShapes Go.WideShapes Go.ChangeAt Go.RowKit Go.Maps
set_option linter.unusedVariables false
set_option linter.unusedSimpArgs false

section
variable {P : Program}
theorem mapM_mem {α β : Type} {f : α → Option β} : ∀ {l : List α} {r : List β}, l.mapM f = some r → ∀ x ∈ l, ∃ y, f x = some y
  | [], _, _, x, hx => absurd hx List.not_mem_nil
  | a :: l, r, h, x, hx => by
    rw [List.mapM_cons] at h
    cases ha : f a with
    | none => rw [ha] at h; cases h
    | some y =>
      rw [ha] at h
      cases hl : l.mapM f with
      | none => rw [hl] at h; cases h
      | some r' =>
        rcases List.mem_cons.1 hx with rfl | hx
        · exact ⟨y, ha⟩
        · exact mapM_mem hl x hx
theorem keyLits_int_inv {e : TypeId} (he : P.underlying e = some (.int .i64)) {d : Nat} {cs : List Value} {ls : List Lit} (h : P.keyLits (d + 1) e cs = some ls) : ∃ z, cs = [.int .i64 z] ∧ (Lit.int .i64 z).wf = true := by
  unfold Program.keyLits at h
  rw [he] at h
  match cs, h with
  | [], h => simp at h
  | [v], h =>
    cases v <;> simp at h
    obtain ⟨⟨rfl, hw⟩, _⟩ := h
    exact ⟨_, rfl, hw⟩
  | _ :: _ :: _, h => simp at h
theorem cells_of {cs : List Value} (h : ∀ i, i < cs.length → ∃ z, (cs.drop i).take 1 = [.int .i64 z] ∧ (Lit.int .i64 z).wf = true) : ∃ ns : List Int, cs = ints ns ∧ ns.length = cs.length ∧ WfL ns := by
  induction cs with
  | nil => exact ⟨[], rfl, rfl, fun z hz => absurd hz List.not_mem_nil⟩
  | cons c r ih =>
    obtain ⟨ns, e, hl, hw⟩ := ih (fun i hi => by have := h (i + 1) (by simp; omega); simpa using this)
    obtain ⟨z, e0, hz⟩ := h 0 (by simp)
    have e1 : c = .int .i64 z := by simpa using e0
    refine ⟨z :: ns, by rw [e1, e]; rfl, by simp [hl], fun x hx => ?_⟩
    rcases List.mem_cons.1 hx with rfl | hx
    · exact hz
    · exact hw x hx
theorem drop_take_one (cs : List Value) (i k : Nat) (hk : k < 4) : ((((cs.drop (i * 4)).take 4).drop (k * 1)).take 1) = (cs.drop (i * 4 + k)).take 1 := by
  rw [Nat.mul_one, List.drop_take, List.drop_drop, List.take_take, show min 1 (4 - k) = 1 by omega]
/-- What reads as a key of racks' kind is an array of 24 numbers. -/
theorem keyOf_rack_inv {t c e : TypeId} (ht : P.underlying t = some (.array 6 c)) (hc : P.underlying c = some (.array 4 e)) (he : P.underlying e = some (.int .i64)) (hce : P.cellsOf e = 1) (hcc : P.cellsOf c = 4) (hct : P.cellsOf t = 24) (hk : P.keyType t = true) (hp : 2 ≤ P.types.size)
    {key : Value} {kl : Lit} (h : keyOf P t key = some kl) : ∃ ns : List Int, KeyRow 24 ns ∧ key = .agg (ints ns).toArray ∧ kl = keyL ns := by
  have h0 := h
  unfold keyOf at h
  simp only [ht, hk, Bool.true_and] at h
  cases hf : Value.formed P t key with
  | false => rw [hf] at h; simp at h
  | true =>
    rw [hf] at h
    simp only [if_true] at h
    obtain ⟨d, hd⟩ : ∃ d, P.types.size + 1 = d + 3 := ⟨P.types.size - 2, by omega⟩
    rw [hd] at h
    obtain ⟨cs, rfl⟩ : ∃ cs : Array Value, key = .agg cs := by
      unfold Value.formed at hf
      cases key <;> simp [ht] at hf
      exact ⟨_, rfl⟩
    have hsz : cs.toList.length = 24 := by
      unfold Value.formed at hf
      simpa [ht, hct] using hf
    have e1 : (Value.agg cs).cells.toList = cs.toList := rfl
    rw [e1, keyLits_arr ht, hct, if_pos hsz] at h
    simp only [hcc] at h
    cases hm : (List.range 6).mapM (fun i => P.keyLits (d + 2) c ((cs.toList.drop (i * 4)).take 4)) with
    | none => rw [hm] at h; simp at h
    | some r =>
      obtain ⟨ns, e2, hl, hw⟩ := cells_of (cs := cs.toList) (fun j hj => by
        obtain ⟨y, hy⟩ := mapM_mem hm (j / 4) (List.mem_range.2 (by omega))
        rw [keyLits_arr hc, hcc] at hy
        by_cases h4 : ((cs.toList.drop (j / 4 * 4)).take 4).length = 4
        · rw [if_pos h4] at hy
          simp only [hce] at hy
          cases hq : (List.range 4).mapM (fun i => P.keyLits (d + 1) e ((((cs.toList.drop (j / 4 * 4)).take 4).drop (i * 1)).take 1)) with
          | none => rw [hq] at hy; simp at hy
          | some q =>
            obtain ⟨y2, hy2⟩ := mapM_mem hq (j % 4) (List.mem_range.2 (by omega))
            rw [drop_take_one _ _ _ (by omega), show j / 4 * 4 + j % 4 = j by omega] at hy2
            exact keyLits_int_inv he hy2
        · rw [if_neg h4] at hy; simp at hy)
      have row : KeyRow 24 ns := ⟨by rw [hl]; exact hsz, hw⟩
      have ek : (Value.agg cs) = .agg (ints ns).toArray := by
        congr 1
        rw [← e2]
      refine ⟨ns, row, ek, ?_⟩
      rw [ek, keyOf_rack ht hc he hce hcc hct hk hp ns row.len row.wf] at h0
      exact (Option.some.inj h0).symm
end
end Go.Proofs.Ytlleenepinijdaa.base
