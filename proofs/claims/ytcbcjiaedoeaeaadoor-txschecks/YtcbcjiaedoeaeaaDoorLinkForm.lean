/-
  The forms of the contracts of link's Open and Check.
-/
import Derived.Test.YtcbcjiaedoeaeaaDoorLinkFormA
import Derived.Test.YtcbcjiaedoeaeaaDoorOpe
namespace Go.Proofs.YtcbcjiaedoeaeaaDoor
set_option maxRecDepth 4000
open Go.RowKit

def LinkOpenC (f : FuncId) : Prop := ∀ (n : Nat) (F : Nat → List UInt8) (v : Value) (w : World) (i : Int), HSl n F v w → n ≤ 1000 → Tab w →
  Calls Tryd.prog f #[v, .int .i64 i] w fun e w' => ∃ q cc, e = .returned (.tuple #[.agg #[.int .i64 (opI n i), .int .i64 (opC n i), .slice q (opL (lkS F) n i).length cc], .int .i64 (opE n i)]) ∧
    HSl (opL (lkS F) n i).length (lh (opL (lkS F) n i)) (.slice q (opL (lkS F) n i).length cc) w' ∧ Kept w w'
def LinkCheckC (f : FuncId) : Prop := ∀ (r l : List UInt8) (I N : Int) (m : Nat) (G : Nat → List UInt8) (v : Value) (w : World), r.length = 32 → l.length = 32 → HSl m G v w → Tab w →
  Calls Tryd.prog f #[.agg (bC 32 r), .agg (bC 32 l), .agg #[.int .i64 I, .int .i64 N, v]] w fun e w' => e = .returned (.bool (decide (N ≤ 257) && ckO r (linkS l) I N m G)) ∧ Kept w w'
end Go.Proofs.YtcbcjiaedoeaeaaDoor
