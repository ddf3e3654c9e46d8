/-
  The bytes of a hash as a string (hS); the contract of milepostref03.Raw. No condition.
-/
import Derived.Test.YtfadcibmkjpjoaaBas
namespace Go.Proofs.Ytfadcibmkjpjoaa
set_option maxRecDepth 4000
open Go.RowKit

def hS (l : List UInt8) : ByteArray := ⟨l.toArray⟩
theorem hS_size (l : List UInt8) : (hS l).size = l.length := by simp [hS, ByteArray.size]
theorem info_hash (l : List UInt8) : (Try.prog.info? 24).map (·.size) = some (bC 32 l).size := by rw [bC_size]; kernel_rfl
theorem take_step (l : List UInt8) (k : Nat) (h : k < l.length) : l.take k ++ [l.getD k 0] = l.take (k + 1) := by
  rw [List.take_add_one]
  simp [List.getD_eq_getElem?_getD, h]

end Go.Proofs.Ytfadcibmkjpjoaa
