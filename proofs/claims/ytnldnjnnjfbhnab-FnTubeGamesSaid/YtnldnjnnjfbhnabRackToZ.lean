/-
  A law's rack is turned into the program's, walked.
-/
/-
  Racks of zeros, and comparing racks in a law, walked.
-/
import Derived.Test.YtnldnjnnjfbhnabRackCopyZ
import Derived.Test.YtnldnjnnjfbhnabSpecWZ
import Derived.Deep.RegionHeld3

section
namespace Go.Proofs.Ytnldnjnnjfbhnab.base
open Go.ChangeShapes Go.WideShapes Go.ChangeAt Go.RowKit
set_option linter.unusedVariables false
set_option linter.unusedSimpArgs false

end Go.Proofs.Ytnldnjnnjfbhnab.base
end

section
namespace Go.Proofs.Ytnldnjnnjfbhnab.base
open Go.ChangeShapes Go.WideShapes Go.ChangeAt Go.RowKit
set_option linter.unusedVariables false
set_option linter.unusedSimpArgs false

def z24 : List Int := [0, 0, 0, 0, 0, 0, 0, 0, 0, 0, 0, 0, 0, 0, 0, 0, 0, 0, 0, 0, 0, 0, 0, 0]
theorem buildRack (w : World) : (Instr.build 27 #[]).run Try.prog w = .ok (.agg (ints z24).toArray) w := by kernel_rfl
theorem Has.zero24 (w : World) (T : TypeId) : Has (w.alloc (.cells #[.int .i64 0, .int .i64 0, .int .i64 0, .int .i64 0, .int .i64 0, .int .i64 0, .int .i64 0, .int .i64 0, .int .i64 0, .int .i64 0, .int .i64 0, .int .i64 0, .int .i64 0, .int .i64 0, .int .i64 0, .int .i64 0, .int .i64 0, .int .i64 0, .int .i64 0, .int .i64 0, .int .i64 0, .int .i64 0, .int .i64 0, .int .i64 0] T)) w.heap.size z24 24 := Has.box (ns := z24) w T rfl (by decide)

end Go.Proofs.Ytnldnjnnjfbhnab.base
end
