/-
  The form of the contract of multi.Need.
-/
import Derived.Test.YtggpjhldmaflaaaDoorMultiRefA
namespace Go.Proofs.YtggpjhldmaflaaaDoor
set_option maxRecDepth 4000
open Go.RowKit

def MultiNeedC (f : FuncId) : Prop := ∀ (n : Int) (p : Option Addr) (K c : Nat) (Pl : Nat → Int) (w : World), n ≤ 1048576 → IAt w p K Pl → K ≤ c → c ≤ maxLen → K ≤ 1000000 →
  Calls Tryd.prog f #[.int .i64 n, .slice p K c] w fun e w' => e = .returned (.int .i64 (needI n K Pl)) ∧ Kept w w'
end Go.Proofs.YtggpjhldmaflaaaDoor
