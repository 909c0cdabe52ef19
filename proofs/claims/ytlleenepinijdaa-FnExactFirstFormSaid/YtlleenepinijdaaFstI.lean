/-
  The first form of a rack, on the program's side, walked: the class is ranged over in whatever order.
-/
import Derived.Test.YtlleenepinijdaaClsI
import Derived.Test.YtlleenepinijdaaFstM
import Derived.Test.YtlleenepinijdaaKeyInv
import Derived.Test.YtlleenepinijdaaFormL
import Derived.Test.YtlleenepinijdaaLessI
import Derived.Deep.Cut
import Derived.Deep.CutRange
namespace Go.Proofs.Ytlleenepinijdaa.base
open Go.ChangeShapes Go.WideShapes Go.ChangeAt Go.RowKit
set_option linter.unusedVariables false
set_option linter.unusedSimpArgs false

theorem keptDrewF {w w' : World} (h : Kept w w') : Kept w w'.drew := h.drewN 1
theorem ints_inj : ∀ {a b : List Int}, ints a = ints b → a = b
  | [], [], _ => rfl
  | [], _ :: _, h => by cases h
  | _ :: _, [], h => by cases h
  | x :: a, y :: b, h => by
    have h1 : Value.int .i64 x = Value.int .i64 y ∧ ints a = ints b := List.cons.inj h
    rw [ints_inj h1.2]
    have h2 := h1.1
    injection h2 with _ h2
    rw [h2]
theorem agg_inj {a b : List Value} (h : Value.agg a.toArray = Value.agg b.toArray) : a = b := by
  have h1 : a.toArray = b.toArray := Value.agg.inj h
  exact congrArg Array.toList h1
theorem formKeyInv {key : Value} {kl : Lit} (h : keyOf Try.prog 49 key = some kl) : ∃ ns : List Int, KeyRow 24 ns ∧ key = .agg (ints ns).toArray ∧ kl = keyL ns :=
  keyOf_rack_inv Try.underlying49 Try.underlying22 Try.underlying3 (by kernel_rfl) (by kernel_rfl) (by kernel_rfl) (by kernel_rfl) (of_decide_eq_true (by kernel_rfl)) h
/-- A class under way: its entries are forms, and those of which 'left' is false have come. -/
def Rng (w : World) (b r : Nat) (n : Nat) (m : List Int → Option Value) (S : List Int → Prop) (cnt : Nat) : Prop :=
  ∃ D left, w.ranges Try.prog 49 RV b r n D left cnt ∧ (∀ ns, KeyRow 24 ns → Go.Maps.has D (keyL ns) = (m ns).isSome) ∧ (∀ ns, KeyRow 24 ns → (m ns).isSome = true → left (keyL ns) = false → S ns) ∧ (∀ kl, left kl = true → Go.Maps.has D kl = true)
theorem Rng.lt {w : World} {b r n : Nat} {m : List Int → Option Value} {S : List Int → Prop} {cnt : Nat} (h : Rng w b r n m S cnt) : r < w.heap.size ∧ b < w.heap.size := by
  obtain ⟨D, left, h, _⟩ := h; exact ⟨h.lt, h.owns.lt⟩
theorem Rng.kept {w w' : World} {b r n : Nat} {m : List Int → Option Value} {S : List Int → Prop} {cnt : Nat} {row : Option Nat} (h : Rng w b r n m S cnt) (hg : w.grownBy w' row) (hb : some b ≠ row) (hr : some r ≠ row) : Rng w' b r n m S cnt := by
  obtain ⟨D, left, h, h2⟩ := h; exact ⟨D, left, h.kept hg hb hr, h2⟩
theorem Rng.alloc {w : World} {b r n : Nat} {m : List Int → Option Value} {S : List Int → Prop} {cnt : Nat} (h : Rng w b r n m S cnt) (o : Obj) : Rng (w.alloc o) b r n m S cnt := by
  obtain ⟨D, left, h, h2⟩ := h; exact ⟨D, left, h.alloc o, h2⟩
theorem Rng.blocks {w w' : World} {b r n : Nat} {m : List Int → Option Value} {S : List Int → Prop} {cnt : Nat} (h : Rng w b r n m S cnt) (e1 : w'.heap[b]? = w.heap[b]?) (e2 : w'.heap[r]? = w.heap[r]?) : Rng w' b r n m S cnt := by
  obtain ⟨D, left, ⟨es, clock, since, seen, c0, hb, F, hs, hD, hr, rest⟩, h2⟩ := h
  exact ⟨D, left, ⟨es, clock, since, seen, c0, e1.trans hb, F, hs, hD, e2.trans hr, rest⟩, h2⟩
theorem Rng.below {w w' : World} {b r n : Nat} {m : List Int → Option Value} {S : List Int → Prop} {cnt : Nat} (h : Rng w b r n m S cnt) (k : Below w.heap.size w w') : Rng w' b r n m S cnt := h.blocks (k.block b h.lt.2) (k.block r h.lt.1)
theorem Rng.drewN {w : World} {b r n : Nat} {m : List Int → Option Value} {S : List Int → Prop} {cnt : Nat} (h : Rng w b r n m S cnt) (k : Nat) : Rng (w.drewN k) b r n m S cnt := h.blocks rfl rfl
theorem Rng.puts {w : World} {b r n : Nat} {m : List Int → Option Value} {S : List Int → Prop} {cnt : Nat} (h : Rng w b r n m S cnt) (c o : Nat) (vs : List Value) (h1 : b ≠ c) (h2 : r ≠ c) : Rng (w.setCells c o vs) b r n m S cnt :=
  h.blocks (World.heap_setCells_other w c o vs h.lt.2 h1) (World.heap_setCells_other w c o vs h.lt.1 h2)
theorem Rng.left_eq {w : World} {b r n : Nat} {m : List Int → Option Value} {S : List Int → Prop} {cnt : Nat} (h : Rng w b r n m S cnt) : w.rangeLeft b r = cnt := by
  obtain ⟨D, left, h, _⟩ := h; exact h.left_eq

section
variable {w : World} {ops : Array Oper} {rest : List Oper} {o : Oper} {a : Act} {Q : Exit → Act → World → Prop}
/-- 'range m'. -/
theorem range_start (hg : o.guard = none) (x : Operand) (hop : o.op = Op.range 47 x) (b n : Nat) (m : List Int → Option Value) (hown : OwnV Try.prog w 49 b n 24 m) (hm : a.eval x = .map (some b))
    (h : ∀ w', (∃ cnt, Rng w' b w.heap.size n m (fun _ => False) cnt) → w.grownBy w' none → w'.heap.size = w.heap.size + 1 → wpList Try.prog ops Q rest (a.put o.dst (.pointer (some ⟨w.heap.size, 0, none⟩))) w') : wpList Try.prog ops Q (o :: rest) a w := by
  obtain ⟨D, hD, h1, h2, h3⟩ := hown
  refine wpList_range_own w hg x 47 hop 49 31 formKeyedC Try.underlying47 RV b n D hm hD (fun w' hr hgr hsz => ?_)
  refine h w' ⟨_, D, _, hr, h2, fun ns hn hs hl => ?_, fun kl hk => hk⟩ hgr hsz
  rw [h2 ns hn, hs] at hl
  cases hl
/-- The step: nothing is left, or a form has come. -/
theorem range_step (hg : o.guard = none) (it : Operand) (hop : o.op = Op.next it false) (b r n cnt : Nat) (m : List Int → Option Value) (S : List Int → Prop) (hr : Rng w b r n m S cnt) (hit : a.eval it = .pointer (some ⟨r, 0, none⟩))
    (hDone : (∀ ns, KeyRow 24 ns → (m ns).isSome = true → S ns) → wpList Try.prog ops Q rest (a.put o.dst (.tuple #[.bool false])) w)
    (hMore : ∀ (f : List Int) (v : Value) (w' : World) (cnt' : Nat), KeyRow 24 f → (m f).isSome = true → Rng w' b r n m (fun l => S l ∨ l = f) cnt' → cnt' < cnt → w.grownBy w' (some r) → w'.heap.size = w.heap.size →
      (Instr.entry (.pointer (some ⟨r, 0, none⟩))).run Try.prog w' = .ok (.tuple #[.agg (ints f).toArray, v]) w' → wpList Try.prog ops Q rest (a.put o.dst (.tuple #[.bool true, .agg (ints f).toArray, v])) w') : wpList Try.prog ops Q (o :: rest) a w := by
  obtain ⟨D, left, hrg, h1, h2, h3⟩ := hr
  refine wpList_next_ranges w hg it hop 49 formKeyedC RV (fun f : List Int => .agg (ints f).toArray) (fun v : Value => v) (fun key kl hk => ?_) (fun v y hv => ⟨v, rfl⟩) b r n D left cnt hit hrg (fun h0 hl => hDone (fun ns hn hs => h2 ns hn hs (hl _))) ?_
  · obtain ⟨ns, hn, e, _⟩ := formKeyInv hk
    exact ⟨ns, e⟩
  · intro f v kl y w' cnt' hk hl hv hat hrg' hlt hgr hsz hen
    obtain ⟨ns, hn, e, ek⟩ := formKeyInv hk
    have ef : ints f = ints ns := agg_inj e
    have efn : f = ns := ints_inj ef
    subst efn
    have hhas : (m f).isSome = true := by rw [← h1 f hn, ← ek]; exact h3 kl hl
    refine hMore f v w' cnt' hn hhas ⟨D, _, hrg', h1, fun g hgk hgs hgl => ?_, fun k2 hk2 => h3 k2 (by simp at hk2; exact hk2.1)⟩ hlt hgr hsz hen
    have hg2 := hgl
    simp only [Bool.and_eq_false_iff, Bool.not_eq_false'] at hg2
    rcases hg2 with hg3 | hg3
    · exact .inl (h2 g hgk hgs hg3)
    · exact .inr (keyL_inj hgk hn (by rw [← ek]; exact WideAt.sameKey_eq hg3))
end
end Go.Proofs.Ytlleenepinijdaa.base
