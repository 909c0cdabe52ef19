/-
  The law's comparisons of rows of pairs and of numbers, walked over rows that hold their cells alone.
-/
import Derived.Test.YtemiljokdedidacEqRZ
import Derived.Test.YtemiljokdedidacNu
import Derived.Test.YtemiljokdedidacRwZ
namespace Go.Proofs.Ytemiljokdedidac.base
open Go.ChangeShapes Go.WideShapes Go.ChangeAt Go.RowKit
set_option linter.unusedVariables false
set_option linter.unusedSimpArgs false

theorem Rw.loadable {w : World} {b n g cap : Nat} {fs : List Int} (h : Rw w b (.slice (some ⟨g, 0, Option.none⟩) n cap) n fs) (k : Nat) (hk : k < n) : w.rangeAt g (k * 2) (ints [fs.getD (k * 2) 0, fs.getD (k * 2 + 1) 0]) :=
  range_two (h.cell (k * 2) (by omega)) (h.cell (k * 2 + 1) (by omega))


end Go.Proofs.Ytemiljokdedidac.base
