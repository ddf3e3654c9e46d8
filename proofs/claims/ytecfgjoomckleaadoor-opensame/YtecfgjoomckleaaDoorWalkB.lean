/-
  Contracts of layer 1's functions that make memory (word.Put32, word.Put64) and of their reference (Byte, Put, Bits, Number, Rot), and of the law's own examples (awake). Conditions: the arguments fit their kinds.
-/
import Derived.Test.YtecfgjoomckleaaDoorWalkA
import Derived.Test.YtecfgjoomckleaaDoorRowLib
import Derived.Laws.IdiomStrings
namespace Go.Proofs.YtecfgjoomckleaaDoor
set_option maxRecDepth 4000
open Go.RowKit

theorem ret_str {a b : ByteArray} (h : a = b) : Ending.returned (.string a) = .returned (.string b) := by rw [h]

theorem beS_size (n x : Nat) : (beS n x).size = n := by
  show (be n x).toArray.size = n
  simp [be_length]
theorem beS_cons (k x y : Nat) (t : ByteArray) (ht : t = beS k x) (hy : y = x / 256 ^ k) : (⟨#[UInt8.ofNat (y % 256)]⟩ : ByteArray) ++ t = beS (k + 1) x := by
  subst ht; subst hy
  apply ByteArray.ext
  rw [ByteArray.data_append]
  have e : UInt8.ofNat (x / 256 ^ k % 256) = UInt8.ofNat (x / 256 ^ k) := by
    apply UInt8.toNat_inj.1; simp
  simp [beS, be, e]

def putC (n x k : Nat) : Array Value := ((List.range n).map fun i => Value.int .u8 (if i < k then ((x / 256 ^ (n - 1 - i) % 256 : Nat) : Int) else 0)).toArray
theorem putC_size (n x k : Nat) : (putC n x k).size = n := by simp [putC]
theorem putC_step (n x k : Nat) : (putC n x k).setIfInBounds k (.int .u8 ((x / 256 ^ (n - 1 - k) % 256 : Nat) : Int)) = putC n x (k + 1) := by
  apply Array.ext
  · simp [putC]
  · intro i h1 h2
    rw [Array.getElem_setIfInBounds (by simpa [putC] using h2)]
    by_cases e : k = i
    · subst e; simp [putC]
    · simp only [putC, e, if_false, List.getElem_toArray, List.getElem_map, List.getElem_range]
      have e2 : (i < k + 1) = (i < k) := by apply propext; omega
      simp only [e2]
theorem putC_step' (n x k m : Nat) (v : Int) (_h : k < n) (hm : m = 8 * (n - 1)) (hv : v = (x : Int) / 2 ^ (m - 8 * k) % 256) : (putC n x k).setIfInBounds k (.int .u8 v) = putC n x (k + 1) := by
  rw [← putC_step n x k]
  congr 2
  rw [hv, hm, show 8 * (n - 1) - 8 * k = 8 * (n - 1 - k) by omega, Int.pow_mul]
  simp
theorem run_put (n T x : Nat) (C : Array Value) (w : World) (hC : C = putC n x n) :
    (convert 64 9 (.slice (some ⟨w.heap.size, 0, none⟩) n n)).run Tryd.prog (w.alloc (.cells C T)) = .ok (.string (beS n x)) (w.alloc (.cells C T)) := by
  subst hC
  have h := run_convert_bytes_back (P := Tryd.prog) (w.alloc (.cells (putC n x n) T)) 64 9 5 ⟨w.heap.size, 0, none⟩ n (be n x) Tryd.underlying64 Tryd.underlying5 Tryd.underlying9 (fun j hj => by
    have hj' : j < n := by simpa [be_length] using hj
    rw [show (⟨w.heap.size, 0, none⟩ : Addr).add j = ⟨w.heap.size, j, none⟩ by simp [Addr.add]; omega, World.cell?_alloc_at _ _ _ _ rfl, be_get n x j hj']
    simp [putC, hj'])
  rw [be_length] at h
  exact h

set_option maxHeartbeats 400000 in
theorem put64_any (x : Nat) (w : World) (_hx : x < 18446744073709551616) :
    Calls Tryd.prog 58 #[.int .u64 x] w fun e w' => e = .returned (.string (beS 8 x)) ∧ Grown w w' := by
  go_enter Tryd.func58, Tryd.ntmps58
  go_wp2
  go_loopw [5] (fun i wr => ∃ (k : Nat) (C : Array Value), k ≤ 8 ∧ i = .int .i64 k ∧ Hid (C = putC 8 x k) ∧ wr = w.alloc (.cells C 96)) (fun i _ => 8 - (intOf i).toNat)
  case atStart => exact ⟨0, _, by omega, rfl, Lib.hid (by rfl), rfl⟩
  case round =>
    obtain ⟨k, C, hk, rfl, HC, rfl⟩ := hrel
    by_cases hlt : k < 8
    · have hcell : C[k]? = some (.int .u8 0) := by rw [HC.out]; simp [putC, hlt]
      go_wp2
      go_roundw
      case rel => exact ⟨k + 1, _, by omega, by go_num, Lib.hid (by rw [HC.out]; exact putC_step' 8 x k 56 _ hlt (by omega) (by omega)), rfl⟩
      case measure => simp [intOf]; omega
    · have HC' : Hid (C = putC 8 x 8) := Lib.hid (by rw [HC.out, show k = 8 by omega])
      have hr := run_put 8 96 x C w HC'.out
      go_wp2
      go_ret
      exact ⟨rfl, (Grown.refl _).alloc _ _⟩

set_option maxHeartbeats 400000 in
theorem put32_any (x : Nat) (w : World) (_hx : x < 4294967296) :
    Calls Tryd.prog 59 #[.int .u32 x] w fun e w' => e = .returned (.string (beS 4 x)) ∧ Grown w w' := by
  go_enter Tryd.func59, Tryd.ntmps59
  go_wp2
  go_loopw [5] (fun i wr => ∃ (k : Nat) (C : Array Value), k ≤ 4 ∧ i = .int .i64 k ∧ Hid (C = putC 4 x k) ∧ wr = w.alloc (.cells C 97)) (fun i _ => 4 - (intOf i).toNat)
  case atStart => exact ⟨0, _, by omega, rfl, Lib.hid (by rfl), rfl⟩
  case round =>
    obtain ⟨k, C, hk, rfl, HC, rfl⟩ := hrel
    by_cases hlt : k < 4
    · have hcell : C[k]? = some (.int .u8 0) := by rw [HC.out]; simp [putC, hlt]
      go_wp2
      go_roundw
      case rel => exact ⟨k + 1, _, by omega, by go_num, Lib.hid (by rw [HC.out]; exact putC_step' 4 x k 24 _ hlt (by omega) (by omega)), rfl⟩
      case measure => simp [intOf]; omega
    · have HC' : Hid (C = putC 4 x 4) := Lib.hid (by rw [HC.out, show k = 4 by omega])
      have hr := run_put 4 97 x C w HC'.out
      go_wp2
      go_ret
      exact ⟨rfl, (Grown.refl _).alloc _ _⟩

theorem run_byte (n : Nat) (w : World) (hn : n < 256) : (convert 64 9 (.slice (some ⟨w.heap.size, 0, none⟩) 1 1)).run Tryd.prog (w.alloc (.cells #[.int .u8 n] 5)) = .ok (.string ⟨#[UInt8.ofNat n]⟩) (w.alloc (.cells #[.int .u8 n] 5)) :=
  run_convert_bytes_back (P := Tryd.prog) _ 64 9 5 ⟨w.heap.size, 0, none⟩ 1 [UInt8.ofNat n] Tryd.underlying64 Tryd.underlying5 Tryd.underlying9 (fun j hj => by
    have e : j = 0 := by simp at hj; omega
    subst e
    rw [show (⟨w.heap.size, 0, none⟩ : Addr).add 0 = ⟨w.heap.size, 0, none⟩ from rfl, World.cell?_alloc_at _ _ _ _ rfl]
    simp; omega)

set_option maxHeartbeats 400000 in
theorem byte_any (n : Nat) (w : World) (hn : n < 256) :
    Calls Tryd.prog 44 #[.int .i64 n] w fun e w' => e = .returned (.string ⟨#[UInt8.ofNat n]⟩) ∧ Grown w w' := by
  have hr := run_byte n w hn
  go_enter Tryd.func44, Tryd.ntmps44
  go_wp2
  go_ret
  exact ⟨rfl, (Grown.refl _).alloc _ _⟩

set_option maxHeartbeats 400000 in
theorem refPut_any (x n : Nat) (w : World) (hx : x < 18446744073709551616) (hn : n ≤ 8) :
    Calls Tryd.prog 43 #[.int .u64 x, .int .i64 n] w fun e w' => e = .returned (.string (beS n x)) ∧ Grown w w' := by
  go_enter Tryd.func43, Tryd.ntmps43
  go_wp2
  go_loopw [0, 5, 6] (fun a s i wr => ∃ (k y : Nat) (t : ByteArray), k ≤ n ∧ y < 18446744073709551616 ∧ t.size ≤ 8 ∧ i = .int .i64 k ∧ a = .int .u64 y ∧ s = .string t ∧ Hid (t = beS k x) ∧ Hid (y = x / 256 ^ k) ∧ Grown w wr) (fun _ _ i _ => n - (intOf i).toNat)
  case atStart => exact ⟨0, x, _, by omega, hx, by decide, rfl, rfl, rfl, Lib.hid rfl, Lib.hid (by simp), Grown.refl _⟩
  case round =>
    obtain ⟨k, y, t, hk, hy, ht, rfl, rfl, rfl, HT, HY, hg⟩ := hrel
    by_cases hlt : k < n
    · go_wp2_with (go_at_call 44; refine (byte_any (y % 256) _ (by omega)).mono ?_; rintro e w' ⟨rfl, hg2⟩)
      go_roundw
      case rel =>
        have hsz : t.size = k := by rw [HT.out, beS_size]
        exact ⟨k + 1, y / 256, _, by omega, by omega, by rw [ByteArray.size_append, hsz]; show 1 + k ≤ 8; omega, by go_num, by go_num, rfl, Lib.hid (beS_cons k x y t HT.out HY.out), Lib.hid (by rw [HY.out, Nat.pow_succ, Nat.div_div_eq_div_mul]), Grown.trans hg hg2⟩
      case measure => simp [intOf]; omega
    · go_wp2
      go_ret
      exact ⟨ret_str (by rw [HT.out, show k = n by omega]), hg⟩

end Go.Proofs.YtecfgjoomckleaaDoor
