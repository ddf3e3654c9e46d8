/-
  The forms of the contracts of ident's Text, Id, Ids and First.
-/
import Derived.Test.YtncnlmjhejminaaDoorIdentMath
import Derived.Test.YtncnlmjhejminaaDoorLawLibK
import Derived.Test.YtncnlmjhejminaaDoorHashLib
import Derived.Test.YtncnlmjhejminaaDoorTag
namespace Go.Proofs.YtncnlmjhejminaaDoor
set_option maxRecDepth 4000
open Go.RowKit

def IdentTextC (f : FuncId) : Prop := ∀ (x : Hd) (w : World), x.ok → Calls Tryd.prog f #[.agg (hdC x)] w fun e w' => e = .returned (.string (headS (hdS x))) ∧ Kept w w'
def IdentIdC (f : FuncId) : Prop := ∀ (x : Hd) (w : World), x.ok → Tab w → Calls Tryd.prog f #[.agg (hdC x)] w fun e w' => e = .returned (.agg (bC 32 (idH x))) ∧ Kept w w'
def IdentIdsC (f : FuncId) : Prop := ∀ (p : Option Addr) (n c : Nat) (X : Nat → Hd) (w : World), XAt w p n X → n ≤ 1000 → Tab w →
  Calls Tryd.prog f #[.slice p n c] w fun e w' => ∃ v, e = .returned v ∧ HSl n (fun i => idH (X i)) v w' ∧ Kept w w'
def IdentFirstC (f : FuncId) : Prop := ∀ (n : Nat) (F : Nat → List UInt8) (v : Value) (w : World) (l : List UInt8), HSl n F v w → n ≤ 1000 → l.length = 32 →
  Calls Tryd.prog f #[v, .agg (bC 32 l)] w fun e w' => e = .returned (.int .i64 (fstL F n l)) ∧ Kept w w'
end Go.Proofs.YtncnlmjhejminaaDoor
