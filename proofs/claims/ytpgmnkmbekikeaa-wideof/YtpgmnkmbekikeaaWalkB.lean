/-
  Contracts of layer 1's functions that make memory (word.Put32, word.Put64) and of their reference (Byte, Put, Bits, Number, Rot), and of the law's own examples (awake). Conditions: the arguments fit their kinds.
-/
import Derived.Test.YtpgmnkmbekikeaaWalkA
import Derived.Test.YtpgmnkmbekikeaaRowLib
import Derived.Laws.IdiomStrings
namespace Go.Proofs.Ytpgmnkmbekikeaa
open Go.RowKit

theorem ret_str {a b : ByteArray} (h : a = b) : Ending.returned (.string a) = .returned (.string b) := by rw [h]

theorem beS_size (n x : Nat) : (beS n x).size = n := by
  show (be n x).toArray.size = n
  simp [be_length]
theorem beS_cons (k x y : Nat) (t : ByteArray) (ht : t = beS k x) (hy : y = x / 256 ^ k) : (⟨#[UInt8.ofNat (y % 256)]⟩ : ByteArray) ++ t = beS (k + 1) x := by
  subst ht; subst hy
  apply ByteArray.ext
  rw [ByteArray.data_append]
  have e : UInt8.ofNat (x / 256 ^ k % 256) = UInt8.ofNat (x / 256 ^ k) := by
    apply UInt8.toNat_inj.1; simp
  simp [beS, be, e]

def putC (n x k : Nat) : Array Value := ((List.range n).map fun i => Value.int .u8 (if i < k then ((x / 256 ^ (n - 1 - i) % 256 : Nat) : Int) else 0)).toArray
theorem putC_size (n x k : Nat) : (putC n x k).size = n := by simp [putC]
theorem putC_step (n x k : Nat) : (putC n x k).setIfInBounds k (.int .u8 ((x / 256 ^ (n - 1 - k) % 256 : Nat) : Int)) = putC n x (k + 1) := by
  apply Array.ext
  · simp [putC]
  · intro i h1 h2
    rw [Array.getElem_setIfInBounds (by simpa [putC] using h2)]
    by_cases e : k = i
    · subst e; simp [putC]
    · simp only [putC, e, if_false, List.getElem_toArray, List.getElem_map, List.getElem_range]
      have e2 : (i < k + 1) = (i < k) := by apply propext; omega
      simp only [e2]
theorem putC_step' (n x k m : Nat) (v : Int) (_h : k < n) (hm : m = 8 * (n - 1)) (hv : v = (x : Int) / 2 ^ (m - 8 * k) % 256) : (putC n x k).setIfInBounds k (.int .u8 v) = putC n x (k + 1) := by
  rw [← putC_step n x k]
  congr 2
  rw [hv, hm, show 8 * (n - 1) - 8 * k = 8 * (n - 1 - k) by omega, Int.pow_mul]
  simp
theorem run_put (n T x : Nat) (C : Array Value) (w : World) (hC : C = putC n x n) :
    (convert 48 9 (.slice (some ⟨w.heap.size, 0, none⟩) n n)).run Try.prog (w.alloc (.cells C T)) = .ok (.string (beS n x)) (w.alloc (.cells C T)) := by
  subst hC
  have h := run_convert_bytes_back (P := Try.prog) (w.alloc (.cells (putC n x n) T)) 48 9 5 ⟨w.heap.size, 0, none⟩ n (be n x) Try.underlying48 Try.underlying5 Try.underlying9 (fun j hj => by
    have hj' : j < n := by simpa [be_length] using hj
    rw [show (⟨w.heap.size, 0, none⟩ : Addr).add j = ⟨w.heap.size, j, none⟩ by simp [Addr.add]; omega, World.cell?_alloc_at _ _ _ _ rfl, be_get n x j hj']
    simp [putC, hj'])
  rw [be_length] at h
  exact h

set_option maxHeartbeats 400000 in
theorem put64_any (x : Nat) (w : World) (_hx : x < 18446744073709551616) :
    Calls Try.prog 24 #[.int .u64 x] w fun e w' => e = .returned (.string (beS 8 x)) ∧ Grown w w' := by
  go_enter Try.func24, Try.ntmps24
  go_wp2
  go_loopw [5] (fun i wr => ∃ (k : Nat) (C : Array Value), k ≤ 8 ∧ i = .int .i64 k ∧ Hid (C = putC 8 x k) ∧ wr = w.alloc (.cells C 58)) (fun i _ => 8 - (intOf i).toNat)
  case atStart => exact ⟨0, _, by omega, rfl, Lib.hid (by rfl), rfl⟩
  case round =>
    obtain ⟨k, C, hk, rfl, HC, rfl⟩ := hrel
    by_cases hlt : k < 8
    · have hcell : C[k]? = some (.int .u8 0) := by rw [HC.out]; simp [putC, hlt]
      go_wp2
      go_roundw
      case rel => exact ⟨k + 1, _, by omega, by go_num, Lib.hid (by rw [HC.out]; exact putC_step' 8 x k 56 _ hlt (by omega) (by omega)), rfl⟩
      case measure => simp [intOf]; omega
    · have HC' : Hid (C = putC 8 x 8) := Lib.hid (by rw [HC.out, show k = 8 by omega])
      have hr := run_put 8 58 x C w HC'.out
      go_wp2
      go_ret
      exact ⟨rfl, (Grown.refl _).alloc _ _⟩

end Go.Proofs.Ytpgmnkmbekikeaa
