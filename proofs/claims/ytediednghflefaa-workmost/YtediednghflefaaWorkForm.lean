/-
  The forms of the contracts of work's Most, Ok and Level; the reference's Ok and Level. Conditions: numbers of 256 bits.
-/
import Derived.Test.YtediednghflefaaWorkMath
import Derived.Test.YtediednghflefaaWideWalkA
import Derived.Test.YtediednghflefaaBas
namespace Go.Proofs.Ytediednghflefaa
set_option maxRecDepth 4000
open Go.RowKit

def WorkMostC (f : FuncId) : Prop := ∀ (T : Nat) (n : Int) (w : World), T < 2 ^ 256 → -9223372036854775808 ≤ n → n ≤ 9223372036854775807 →
  Calls Try.prog f #[.agg (bC 32 (be 32 T)), .int .i64 n] w fun e w' => e = .returned (.agg (bC 32 (be 32 (shr256 T n)))) ∧ Kept w w'
def WorkOkC (f : FuncId) : Prop := ∀ (A T : Nat) (w : World), A < 2 ^ 256 → T < 2 ^ 256 →
  Calls Try.prog f #[.agg (bC 32 (be 32 A)), .agg (bC 32 (be 32 T))] w fun e w' => e = .returned (.bool (decide (A ≤ T))) ∧ Kept w w'
def WorkLevelC (f : FuncId) : Prop := ∀ (A T : Nat) (w : World), A < 2 ^ 256 → T < 2 ^ 256 →
  Calls Try.prog f #[.agg (bC 32 (be 32 A)), .agg (bC 32 (be 32 T))] w fun e w' => e = .returned (.int .i64 (lvl A T)) ∧ Kept w w'
end Go.Proofs.Ytediednghflefaa
