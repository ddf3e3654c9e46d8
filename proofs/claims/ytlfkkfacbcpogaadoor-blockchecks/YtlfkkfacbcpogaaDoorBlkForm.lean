/-
  The forms of the contracts of block's Make, Check and Same.
-/
import Derived.Test.YtlfkkfacbcpogaaDoorBlkMath
import Derived.Test.YtlfkkfacbcpogaaDoorBlkLib
import Derived.Test.YtlfkkfacbcpogaaDoorTxFormA
import Derived.Test.YtlfkkfacbcpogaaDoorLinkFormA
namespace Go.Proofs.YtlfkkfacbcpogaaDoor
set_option maxRecDepth 4000
open Go.RowKit

def BlockMakeC (f : FuncId) : Prop := ∀ (h n : Nat) (F : Nat → List UInt8) (v : Value) (m : Nat) (S : Nat → ByteArray) (u : Value) (k : Nat) (w : World), h < 4294967296 → k < 18446744073709551616 → HSl n F v w → n ≤ 1000 →
  SSl m S u w → m ≤ 2000 → (∀ i, i < m → (S i).size ≤ 10000) → Tab w →
  Calls Tryd.prog f #[.int .u32 (h : Int), v, u, .int .u64 (k : Int)] w fun e w' => ∃ p c, e = .returned (.agg (bkC (mkB h n F m S k) (.slice p m c))) ∧ SSl m S (.slice p m c) w' ∧ Kept w w'
def BlockCheckC (f : FuncId) : Prop := ∀ (x : Hd) (m : Nat) (S : Nat → ByteArray) (u : Value) (h n : Nat) (F : Nat → List UInt8) (v : Value) (w : World), x.ok → SSl m S u w → m ≤ 2000 → (∀ i, i < m → (S i).size ≤ 10000) →
  h < 4294967296 → HSl n F v w → n ≤ 1000 → Tab w →
  Calls Tryd.prog f #[.agg (bkC x u), .int .u32 (h : Int), v] w fun e w' => e = .returned (.int .i64 (ckB x m S h n F)) ∧ Kept w w'
def BlockSameC (f : FuncId) : Prop := ∀ (x y : Hd) (m k : Nat) (S R : Nat → ByteArray) (u t : Value) (w : World), x.ok → y.ok → SSl m S u w → SSl k R t w →
  Calls Tryd.prog f #[.agg (bkC x u), .agg (bkC y t)] w fun e w' => e = .returned (.bool (eqB x y m k S R)) ∧ Kept w w'
end Go.Proofs.YtlfkkfacbcpogaaDoor
