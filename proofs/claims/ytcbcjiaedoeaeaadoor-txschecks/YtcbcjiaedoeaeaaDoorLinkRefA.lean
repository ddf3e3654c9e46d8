/-
  Contracts of the reference's Leaf, Leaves and Links (milepostref17). Conditions: at most a thousand ids.
-/
import Derived.Test.YtcbcjiaedoeaeaaDoorLinkFormA
import Derived.Test.YtcbcjiaedoeaeaaDoorTre
import Derived.Test.YtcbcjiaedoeaeaaDoorHld
namespace Go.Proofs.YtcbcjiaedoeaeaaDoor
set_option maxRecDepth 4000
open Go.RowKit

theorem lkS_fits (F : Nat → List UInt8) (n : Nat) (hF : ∀ i, i < n → (F i).length = 32) : ∀ i, i < n → (lkS F i).size ≤ 1000000 := fun i hi => by
  rw [lkS, linkS_size _ (hF i hi)]; omega
theorem HSl.lengths {n : Nat} {F : Nat → List UInt8} {v : Value} {w : World} (h : HSl n F v w) : ∀ i, i < n → (F i).length = 32 := by
  obtain ⟨_, _, _, _, _, h⟩ := h
  exact h.length
end Go.Proofs.YtcbcjiaedoeaeaaDoor
