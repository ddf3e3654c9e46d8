/-
  The forms of the contracts of link's Text and Root.
-/
import Derived.Test.YtlfkkfacbcpogaaDoorLinkMath
namespace Go.Proofs.YtlfkkfacbcpogaaDoor
set_option maxRecDepth 4000
open Go.RowKit

def LinkTextC (f : FuncId) : Prop := ∀ (l : List UInt8) (w : World), l.length = 32 → Calls Tryd.prog f #[.agg (bC 32 l)] w fun e w' => e = .returned (.string (linkS l)) ∧ Kept w w'
def LinkRootC (f : FuncId) : Prop := ∀ (n : Nat) (F : Nat → List UInt8) (v : Value) (w : World), HSl n F v w → n ≤ 1000 → Tab w →
  Calls Tryd.prog f #[v] w fun e w' => e = .returned (.agg (bC 32 (rootL (lkS F) n))) ∧ Kept w w'
end Go.Proofs.YtlfkkfacbcpogaaDoor
