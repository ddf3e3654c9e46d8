/-
  What Open answers of transactions (otI, otC, otE, otL). Plain arithmetic.
-/
import Derived.Test.YtcbcjiaedoeaeaaDoorTxMathA
import Derived.Test.YtcbcjiaedoeaeaaDoorOpe
namespace Go.Proofs.YtcbcjiaedoeaeaaDoor
set_option maxRecDepth 4000
open Go.RowKit

/-- What Open answers of transactions. -/
def otE (S : Nat → ByteArray) (n : Nat) (i : Int) : Int := if mayT S n = 0 then opE n i else mayT S n
def otI (S : Nat → ByteArray) (n : Nat) (i : Int) : Int := if mayT S n = 0 then opI n i else 0
def otC (S : Nat → ByteArray) (n : Nat) (i : Int) : Int := if mayT S n = 0 then opC n i else 0
def otL (S : Nat → ByteArray) (n : Nat) (i : Int) : List (List UInt8) := if mayT S n = 0 then opL (tkS S) n i else []
end Go.Proofs.YtcbcjiaedoeaeaaDoor
