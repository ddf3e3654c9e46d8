/-
  Contracts of layer 1's functions that make memory (word.Put32, word.Put64) and of their reference (Byte, Put, Bits, Number, Rot), and of the law's own examples (awake). Conditions: the arguments fit their kinds.
-/
import Derived.Test.YthigdhdapbjakaaWalkA
import Derived.Test.YthigdhdapbjakaaRowLib
import Derived.Laws.IdiomStrings
namespace Go.Proofs.Ythigdhdapbjakaa
open Go.RowKit

theorem ret_str {a b : ByteArray} (h : a = b) : Ending.returned (.string a) = .returned (.string b) := by rw [h]

theorem beS_size (n x : Nat) : (beS n x).size = n := by
  show (be n x).toArray.size = n
  simp [be_length]
theorem beS_cons (k x y : Nat) (t : ByteArray) (ht : t = beS k x) (hy : y = x / 256 ^ k) : (⟨#[UInt8.ofNat (y % 256)]⟩ : ByteArray) ++ t = beS (k + 1) x := by
  subst ht; subst hy
  apply ByteArray.ext
  rw [ByteArray.data_append]
  have e : UInt8.ofNat (x / 256 ^ k % 256) = UInt8.ofNat (x / 256 ^ k) := by
    apply UInt8.toNat_inj.1; simp
  simp [beS, be, e]

def putC (n x k : Nat) : Array Value := ((List.range n).map fun i => Value.int .u8 (if i < k then ((x / 256 ^ (n - 1 - i) % 256 : Nat) : Int) else 0)).toArray
theorem putC_size (n x k : Nat) : (putC n x k).size = n := by simp [putC]
theorem putC_step (n x k : Nat) : (putC n x k).setIfInBounds k (.int .u8 ((x / 256 ^ (n - 1 - k) % 256 : Nat) : Int)) = putC n x (k + 1) := by
  apply Array.ext
  · simp [putC]
  · intro i h1 h2
    rw [Array.getElem_setIfInBounds (by simpa [putC] using h2)]
    by_cases e : k = i
    · subst e; simp [putC]
    · simp only [putC, e, if_false, List.getElem_toArray, List.getElem_map, List.getElem_range]
      have e2 : (i < k + 1) = (i < k) := by apply propext; omega
      simp only [e2]
theorem putC_step' (n x k m : Nat) (v : Int) (_h : k < n) (hm : m = 8 * (n - 1)) (hv : v = (x : Int) / 2 ^ (m - 8 * k) % 256) : (putC n x k).setIfInBounds k (.int .u8 v) = putC n x (k + 1) := by
  rw [← putC_step n x k]
  congr 2
  rw [hv, hm, show 8 * (n - 1) - 8 * k = 8 * (n - 1 - k) by omega, Int.pow_mul]
  simp
theorem run_put (n T x : Nat) (C : Array Value) (w : World) (hC : C = putC n x n) :
    (convert 32 9 (.slice (some ⟨w.heap.size, 0, none⟩) n n)).run Try.prog (w.alloc (.cells C T)) = .ok (.string (beS n x)) (w.alloc (.cells C T)) := by
  subst hC
  have h := run_convert_bytes_back (P := Try.prog) (w.alloc (.cells (putC n x n) T)) 32 9 5 ⟨w.heap.size, 0, none⟩ n (be n x) Try.underlying32 Try.underlying5 Try.underlying9 (fun j hj => by
    have hj' : j < n := by simpa [be_length] using hj
    rw [show (⟨w.heap.size, 0, none⟩ : Addr).add j = ⟨w.heap.size, j, none⟩ by simp [Addr.add]; omega, World.cell?_alloc_at _ _ _ _ rfl, be_get n x j hj']
    simp [putC, hj'])
  rw [be_length] at h
  exact h

end Go.Proofs.Ythigdhdapbjakaa
