/-
  The forms of the contracts of inter's First, Next and Entry.
-/
import Derived.Test.YtfadcibmkjpjoaaInterMath
import Derived.Test.YtfadcibmkjpjoaaHashLib
namespace Go.Proofs.Ytfadcibmkjpjoaa
set_option maxRecDepth 4000
open Go.RowKit

theorem bC_zH : bC 32 [] = bC 32 zH := by kernel_rfl
def InterFirstC (f : FuncId) : Prop := ∀ (l : List UInt8) (w : World), l.length = 32 → Calls Try.prog f #[.agg (bC 32 l)] w fun e w' => ∃ v, e = .returned v ∧ HSl 1 (fun _ => l) v w' ∧ Kept w w'
def InterNextC (f : FuncId) : Prop := ∀ (n : Nat) (F : Nat → List UInt8) (v : Value) (w : World) (h : List UInt8) (a : Int), HSl n F v w → n ≤ 1000 → h.length = 32 → -9223372036854775808 ≤ a → a ≤ 9223372036854775807 →
  Calls Try.prog f #[v, .agg (bC 32 h), .int .i64 a] w fun e w' => ∃ u, e = .returned u ∧ HSl (nxN n (lvlC a)) (nxF F n h (lvlC a)) u w' ∧ Kept w w'
def InterEntryC (f : FuncId) : Prop := ∀ (n : Nat) (F : Nat → List UInt8) (v : Value) (w : World) (a : Int), HSl n F v w → n ≤ 1000 → -9223372036854775808 ≤ a → a ≤ 9223372036854775807 →
  Calls Try.prog f #[v, .int .i64 a] w fun e w' => e = .returned (.tuple #[.agg (bC 32 (enF F n a)), .bool (enB n a)]) ∧ Kept w w'
end Go.Proofs.Ytfadcibmkjpjoaa
