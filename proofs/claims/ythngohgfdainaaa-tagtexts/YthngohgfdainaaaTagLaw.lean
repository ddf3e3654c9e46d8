/-
  For the laws of layer 3: hashes loaded out of an array of them; slices of strings made. No condition.
-/
import Derived.Test.YthngohgfdainaaaTagRefA
import Derived.Test.YthngohgfdainaaaLawLib
namespace Go.Proofs.Ythngohgfdainaaa
open Go.RowKit

def xS : ByteArray := ⟨#[120]⟩
theorem xS_size : xS.size = 1 := rfl
theorem load_hash (w : World) (b i n : Nat) (T : TypeId) (l : List UInt8) (h : Rowz w b (bC n l) T) (hn : 32 * i + 32 ≤ n) :
    (Instr.loadAt 23 (.pointer (some ⟨b, 32 * i, none⟩))).run Try.prog w = .ok (.agg (bC 32 (hAt l i))) w := by
  have h1 := run_loadAt_mid (P := Try.prog) w b (32 * i) 23 (bC 32 (hAt l i)).toList _ (hash_range h i hn) Try.underlying23 rfl (by rw [Array.length_toList, bC_size]; kernel_rfl)
  simpa using h1
theorem run_build3s (x y z : ByteArray) (w : World) : (Instr.buildSlice 36 3 #[(0, .string x), (1, .string y), (2, .string z)]).run Try.prog w = .ok (.slice (some ⟨w.heap.size, 0, none⟩) 3 3) (w.alloc (.cells #[.string x, .string y, .string z] 9)) := by kernel_rfl
theorem run_build4s (x y z u : ByteArray) (w : World) : (Instr.buildSlice 36 4 #[(0, .string x), (1, .string y), (2, .string z), (3, .string u)]).run Try.prog w = .ok (.slice (some ⟨w.heap.size, 0, none⟩) 4 4) (w.alloc (.cells #[.string x, .string y, .string z, .string u] 9)) := by kernel_rfl
end Go.Proofs.Ythngohgfdainaaa
