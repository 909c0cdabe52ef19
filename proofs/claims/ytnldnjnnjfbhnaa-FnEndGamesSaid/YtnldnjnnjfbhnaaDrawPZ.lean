/-
  A pour is drawn, walked; and what the law asks of a code's length.
-/
/-
  The draws of the law of bounds, walked: a pour, a rack that is often sorted.
-/
import Derived.Test.YtnldnjnnjfbhnaaSwapZ
import Derived.Test.YtnldnjnnjfbhnaaPours
import Derived.Test.YtnldnjnnjfbhnaaUseZ
import Derived.Test.YtnldnjnnjfbhnaaTubeWZ

section
namespace Go.Proofs.Ytnldnjnnjfbhnaa.base
open Go.ChangeShapes Go.WideShapes Go.ChangeAt Go.RowKit
open Go.Proofs.Ytnldnjnnjfbhnaa.cur
set_option linter.unusedVariables false
set_option linter.unusedSimpArgs false

theorem buildPair (x y : Int) (w : World) : (Instr.build 45 #[(0, .int .i64 x), (1, .int .i64 y)]).run Try.prog w = .ok (.agg (ints [x, y]).toArray) w := run_build w _ _ _ (by kernel_rfl)
theorem Prs.moved {c : Nat} {w w' : World} {b : Nat} {v : Value} {n : Nat} {fs : List Int} (h : Prs w b v n fs) (m : Moved c w w') (hc : c < b) : Prs w' b v n fs := moved_row h m hc
theorem Cur.call {c k : Nat} {w w' : World} (h : Cur w c k) (m : Below w.heap.size w w') : Cur w' c k := h.below m
theorem Moved.call {c : Nat} {w w' w2 : World} (h : Moved c w w') (m : Below w'.heap.size w' w2) : Moved c w w2 := h.trans (moved_of_below m)

/-- A pour of a rack is drawn of a code. -/
def DrawnPost (w : World) (e : Ending) (w' : World) : Prop := ∃ (ns : List Int) (x y : Int), e = .returned (.tuple #[.agg (ints ns).toArray, .int .i64 x, .int .i64 y]) ∧ ns.length = 24 ∧ Below w.heap.size w w'

set_option maxHeartbeats 400000 in
theorem rBig_any (a : Option Addr) (len cap : Nat) (w : World) (h : len ≤ maxLen) :
    Calls Try.prog 4 #[.slice a len cap] w fun e w' => e = .returned (.bool (decide ((65536 : Int) < (len : Int)))) ∧ w = w' := by
  go_enter Try.func4, Try.ntmps4
  go_wp2_with fail
  go_ret
  exact ⟨rfl, rfl⟩
end Go.Proofs.Ytnldnjnnjfbhnaa.base
end

section
namespace Go.Proofs.Ytnldnjnnjfbhnaa.base
open Go.ChangeShapes Go.WideShapes Go.ChangeAt Go.RowKit
open Go.Proofs.Ytnldnjnnjfbhnaa.cur
set_option linter.unusedVariables false
set_option linter.unusedSimpArgs false

def DrawnOne (w : World) (e : Ending) (w' : World) : Prop := ∃ ns : List Int, e = .returned (.agg (ints ns).toArray) ∧ ns.length = 24 ∧ Below w.heap.size w w'
end Go.Proofs.Ytnldnjnnjfbhnaa.base
end
