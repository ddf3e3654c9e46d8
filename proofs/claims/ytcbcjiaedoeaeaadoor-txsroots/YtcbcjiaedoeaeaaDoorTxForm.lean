/-
  The forms of the contracts of txs's Open and Check.
-/
import Derived.Test.YtcbcjiaedoeaeaaDoorTxMath
import Derived.Test.YtcbcjiaedoeaeaaDoorTxFormA
import Derived.Test.YtcbcjiaedoeaeaaDoorLinkForm
namespace Go.Proofs.YtcbcjiaedoeaeaaDoor
set_option maxRecDepth 4000
open Go.RowKit

def TxsOpenC (f : FuncId) : Prop := ∀ (n : Nat) (S : Nat → ByteArray) (v : Value) (w : World) (i : Int), SSl n S v w → n ≤ 2000 → (∀ i, i < n → (S i).size ≤ 10000) → Tab w →
  Calls Tryd.prog f #[v, .int .i64 i] w fun e w' => ∃ q cc, e = .returned (.tuple #[.agg #[.int .i64 (otI S n i), .int .i64 (otC S n i), .slice q (otL S n i).length cc], .int .i64 (otE S n i)]) ∧
    HSl (otL S n i).length (lh (otL S n i)) (.slice q (otL S n i).length cc) w' ∧ Kept w w'
def TxsCheckC (f : FuncId) : Prop := ∀ (r : List UInt8) (s : ByteArray) (I N : Int) (m : Nat) (G : Nat → List UInt8) (v : Value) (w : World), r.length = 32 → s.size ≤ 10000 → HSl m G v w → Tab w →
  Calls Tryd.prog f #[.agg (bC 32 r), .string s, .agg #[.int .i64 I, .int .i64 N, v]] w fun e w' => e = .returned (.bool (decide (N ≤ 1024) && decide (s.size ≤ 4096) && ckO r (txS s) I N m G)) ∧ Kept w w'
end Go.Proofs.YtcbcjiaedoeaeaaDoor
