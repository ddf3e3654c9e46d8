/-
  Contracts of milepostref11: Sides, Depth; of milepostlaw11: same, awake.
-/
import Derived.Test.YtggpjhldmaflaaaShapeWalkC
import Derived.OwnWalk
import Derived.BigQuiet
namespace Go.Proofs.Ytggpjhldmaflaaa
set_option maxRecDepth 4000
open Go.RowKit

theorem wrap_sub (i l : Nat) (h : l ≤ i) (h63 : i < 9223372036854775807) : IntKind.i64.wrap ((i : Int) - (l : Int)) = (i : Int) - (l : Int) := by
  simp only [IntKind.wrap, IntKind.signed, IntKind.bits]; simp; omega
end Go.Proofs.Ytggpjhldmaflaaa
