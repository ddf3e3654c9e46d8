/-
  The forms of the contracts of txs's May, Text and Root.
-/
import Derived.Test.YtlfkkfacbcpogaaDoorTxMathA
import Derived.Test.YtlfkkfacbcpogaaDoorLinkFormA
namespace Go.Proofs.YtlfkkfacbcpogaaDoor
set_option maxRecDepth 4000
open Go.RowKit

def TxsMayC (f : FuncId) : Prop := ∀ (n : Nat) (S : Nat → ByteArray) (v : Value) (w : World), SSl n S v w → n ≤ 2000 → (∀ i, i < n → (S i).size ≤ 10000) →
  Calls Tryd.prog f #[v] w fun e w' => e = .returned (.int .i64 (mayT S n)) ∧ Kept w w'
def TxsTextC (f : FuncId) : Prop := ∀ (s : ByteArray) (w : World), s.size ≤ 10000 → Calls Tryd.prog f #[.string s] w fun e w' => e = .returned (.string (txS s)) ∧ Kept w w'
def TxsRootC (f : FuncId) : Prop := ∀ (n : Nat) (S : Nat → ByteArray) (v : Value) (w : World), SSl n S v w → n ≤ 2000 → (∀ i, i < n → (S i).size ≤ 10000) → Tab w →
  Calls Tryd.prog f #[v] w fun e w' => e = .returned (.agg (bC 32 (rootL (tkS S) n))) ∧ Kept w w'
end Go.Proofs.YtlfkkfacbcpogaaDoor
