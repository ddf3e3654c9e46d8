/-
  Contracts of layer 1's functions that make memory (word.Put32, word.Put64) and of their reference (Byte, Put, Bits, Number, Rot), and of the law's own examples (awake). Conditions: the arguments fit their kinds.
-/
import Derived.Test.YtcifngiaoodilaaWalkA
import Derived.Laws.IdiomStrings
namespace Go.Proofs.Ytcifngiaoodilaa
open Go.RowKit

theorem Grown.trans {a b c : World} (h : Grown a b) (g : Grown b c) : Grown a c :=
  ⟨World.keptBut_trans h.1 (World.keptBut_mono (fun _ f => f) g.1), fun x => (g.2.1 x).trans (h.2.1 x), Nat.le_trans h.2.2 g.2.2⟩

theorem ret_str {a b : ByteArray} (h : a = b) : Ending.returned (.string a) = .returned (.string b) := by rw [h]

theorem beS_size (n x : Nat) : (beS n x).size = n := by
  show (be n x).toArray.size = n
  simp [be_length]
theorem beS_cons (k x y : Nat) (t : ByteArray) (ht : t = beS k x) (hy : y = x / 256 ^ k) : (⟨#[UInt8.ofNat (y % 256)]⟩ : ByteArray) ++ t = beS (k + 1) x := by
  subst ht; subst hy
  apply ByteArray.ext
  rw [ByteArray.data_append]
  have e : UInt8.ofNat (x / 256 ^ k % 256) = UInt8.ofNat (x / 256 ^ k) := by
    apply UInt8.toNat_inj.1; simp
  simp [beS, be, e]

def putC (n x k : Nat) : Array Value := ((List.range n).map fun i => Value.int .u8 (if i < k then ((x / 256 ^ (n - 1 - i) % 256 : Nat) : Int) else 0)).toArray
theorem putC_size (n x k : Nat) : (putC n x k).size = n := by simp [putC]
theorem putC_step (n x k : Nat) : (putC n x k).setIfInBounds k (.int .u8 ((x / 256 ^ (n - 1 - k) % 256 : Nat) : Int)) = putC n x (k + 1) := by
  apply Array.ext
  · simp [putC]
  · intro i h1 h2
    rw [Array.getElem_setIfInBounds (by simpa [putC] using h2)]
    by_cases e : k = i
    · subst e; simp [putC]
    · simp only [putC, e, if_false, List.getElem_toArray, List.getElem_map, List.getElem_range]
      have e2 : (i < k + 1) = (i < k) := by apply propext; omega
      simp only [e2]
theorem putC_step' (n x k m : Nat) (v : Int) (_h : k < n) (hm : m = 8 * (n - 1)) (hv : v = (x : Int) / 2 ^ (m - 8 * k) % 256) : (putC n x k).setIfInBounds k (.int .u8 v) = putC n x (k + 1) := by
  rw [← putC_step n x k]
  congr 2
  rw [hv, hm, show 8 * (n - 1) - 8 * k = 8 * (n - 1 - k) by omega, Int.pow_mul]
  simp
theorem run_put (n T x : Nat) (C : Array Value) (w : World) (hC : C = putC n x n) :
    (convert 43 9 (.slice (some ⟨w.heap.size, 0, none⟩) n n)).run Try.prog (w.alloc (.cells C T)) = .ok (.string (beS n x)) (w.alloc (.cells C T)) := by
  subst hC
  have h := run_convert_bytes_back (P := Try.prog) (w.alloc (.cells (putC n x n) T)) 43 9 5 ⟨w.heap.size, 0, none⟩ n (be n x) Try.underlying43 Try.underlying5 Try.underlying9 (fun j hj => by
    have hj' : j < n := by simpa [be_length] using hj
    rw [show (⟨w.heap.size, 0, none⟩ : Addr).add j = ⟨w.heap.size, j, none⟩ by simp [Addr.add]; omega, World.cell?_alloc_at _ _ _ _ rfl, be_get n x j hj']
    simp [putC, hj'])
  rw [be_length] at h
  exact h

set_option maxHeartbeats 400000 in
theorem put64_any (x : Nat) (w : World) (_hx : x < 18446744073709551616) :
    Calls Try.prog 11 #[.int .u64 x] w fun e w' => e = .returned (.string (beS 8 x)) ∧ Grown w w' := by
  go_enter Try.func11, Try.ntmps11
  go_wp2
  go_loopw [5] (fun i wr => ∃ (k : Nat) (C : Array Value), k ≤ 8 ∧ i = .int .i64 k ∧ Hid (C = putC 8 x k) ∧ wr = w.alloc (.cells C 42)) (fun i _ => 8 - (intOf i).toNat)
  case atStart => exact ⟨0, _, by omega, rfl, Lib.hid (by rfl), rfl⟩
  case round =>
    obtain ⟨k, C, hk, rfl, HC, rfl⟩ := hrel
    by_cases hlt : k < 8
    · have hcell : C[k]? = some (.int .u8 0) := by rw [HC.out]; simp [putC, hlt]
      go_wp2
      go_roundw
      case rel => exact ⟨k + 1, _, by omega, by go_num, Lib.hid (by rw [HC.out]; exact putC_step' 8 x k 56 _ hlt (by omega) (by omega)), rfl⟩
      case measure => simp [intOf]; omega
    · have HC' : Hid (C = putC 8 x 8) := Lib.hid (by rw [HC.out, show k = 8 by omega])
      have hr := run_put 8 42 x C w HC'.out
      go_wp2
      go_ret
      exact ⟨rfl, (Grown.refl _).alloc _ _⟩

set_option maxHeartbeats 400000 in
theorem put32_any (x : Nat) (w : World) (_hx : x < 4294967296) :
    Calls Try.prog 13 #[.int .u32 x] w fun e w' => e = .returned (.string (beS 4 x)) ∧ Grown w w' := by
  go_enter Try.func13, Try.ntmps13
  go_wp2
  go_loopw [5] (fun i wr => ∃ (k : Nat) (C : Array Value), k ≤ 4 ∧ i = .int .i64 k ∧ Hid (C = putC 4 x k) ∧ wr = w.alloc (.cells C 45)) (fun i _ => 4 - (intOf i).toNat)
  case atStart => exact ⟨0, _, by omega, rfl, Lib.hid (by rfl), rfl⟩
  case round =>
    obtain ⟨k, C, hk, rfl, HC, rfl⟩ := hrel
    by_cases hlt : k < 4
    · have hcell : C[k]? = some (.int .u8 0) := by rw [HC.out]; simp [putC, hlt]
      go_wp2
      go_roundw
      case rel => exact ⟨k + 1, _, by omega, by go_num, Lib.hid (by rw [HC.out]; exact putC_step' 4 x k 24 _ hlt (by omega) (by omega)), rfl⟩
      case measure => simp [intOf]; omega
    · have HC' : Hid (C = putC 4 x 4) := Lib.hid (by rw [HC.out, show k = 4 by omega])
      have hr := run_put 4 45 x C w HC'.out
      go_wp2
      go_ret
      exact ⟨rfl, (Grown.refl _).alloc _ _⟩

theorem run_byte (n : Nat) (w : World) (hn : n < 256) : (convert 43 9 (.slice (some ⟨w.heap.size, 0, none⟩) 1 1)).run Try.prog (w.alloc (.cells #[.int .u8 n] 5)) = .ok (.string ⟨#[UInt8.ofNat n]⟩) (w.alloc (.cells #[.int .u8 n] 5)) :=
  run_convert_bytes_back (P := Try.prog) _ 43 9 5 ⟨w.heap.size, 0, none⟩ 1 [UInt8.ofNat n] Try.underlying43 Try.underlying5 Try.underlying9 (fun j hj => by
    have e : j = 0 := by simp at hj; omega
    subst e
    rw [show (⟨w.heap.size, 0, none⟩ : Addr).add 0 = ⟨w.heap.size, 0, none⟩ from rfl, World.cell?_alloc_at _ _ _ _ rfl]
    simp; omega)

set_option maxHeartbeats 400000 in
theorem byte_any (n : Nat) (w : World) (hn : n < 256) :
    Calls Try.prog 21 #[.int .i64 n] w fun e w' => e = .returned (.string ⟨#[UInt8.ofNat n]⟩) ∧ Grown w w' := by
  have hr := run_byte n w hn
  go_enter Try.func21, Try.ntmps21
  go_wp2
  go_ret
  exact ⟨rfl, (Grown.refl _).alloc _ _⟩

set_option maxHeartbeats 400000 in
theorem refPut_any (x n : Nat) (w : World) (hx : x < 18446744073709551616) (hn : n ≤ 8) :
    Calls Try.prog 12 #[.int .u64 x, .int .i64 n] w fun e w' => e = .returned (.string (beS n x)) ∧ Grown w w' := by
  go_enter Try.func12, Try.ntmps12
  go_wp2
  go_loopw [0, 5, 6] (fun a s i wr => ∃ (k y : Nat) (t : ByteArray), k ≤ n ∧ y < 18446744073709551616 ∧ t.size ≤ 8 ∧ i = .int .i64 k ∧ a = .int .u64 y ∧ s = .string t ∧ Hid (t = beS k x) ∧ Hid (y = x / 256 ^ k) ∧ Grown w wr) (fun _ _ i _ => n - (intOf i).toNat)
  case atStart => exact ⟨0, x, _, by omega, hx, by decide, rfl, rfl, rfl, Lib.hid rfl, Lib.hid (by simp), Grown.refl _⟩
  case round =>
    obtain ⟨k, y, t, hk, hy, ht, rfl, rfl, rfl, HT, HY, hg⟩ := hrel
    by_cases hlt : k < n
    · go_wp2_with (go_at_call 21; refine (byte_any (y % 256) _ (by omega)).mono ?_; rintro e w' ⟨rfl, hg2⟩)
      go_roundw
      case rel =>
        have hsz : t.size = k := by rw [HT.out, beS_size]
        exact ⟨k + 1, y / 256, _, by omega, by omega, by rw [ByteArray.size_append, hsz]; show 1 + k ≤ 8; omega, by go_num, by go_num, rfl, Lib.hid (beS_cons k x y t HT.out HY.out), Lib.hid (by rw [HY.out, Nat.pow_succ, Nat.div_div_eq_div_mul]), Grown.trans hg hg2⟩
      case measure => simp [intOf]; omega
    · go_wp2
      go_ret
      exact ⟨ret_str (by rw [HT.out, show k = n by omega]), hg⟩

def bitC (x k : Nat) : Array Value := ((List.range 32).map fun i => Value.bool (decide (i < k) && x.testBit i)).toArray
theorem bitC_step (x k : Nat) : (bitC x k).setIfInBounds k (.bool (x.testBit k)) = bitC x (k + 1) := by
  apply Array.ext
  · simp [bitC]
  · intro i h1 h2
    rw [Array.getElem_setIfInBounds (by simpa [bitC] using h2)]
    by_cases e : k = i
    · subst e; simp [bitC]
    · simp only [bitC, e, if_false, List.getElem_toArray, List.getElem_map, List.getElem_range]
      have e2 : (i < k + 1) = (i < k) := by apply propext; omega
      simp only [e2]
theorem run_make32 (x : Nat) (w : World) : (Instr.makeSlice 39 (.int .i64 32) (.int .i64 32)).run Try.prog w = .ok (.slice (some ⟨w.heap.size, 0, none⟩) 32 32) (w.alloc (.cells (bitC x 0) 4)) := by kernel_rfl

set_option maxHeartbeats 400000 in
theorem bits_any (x : Nat) (w : World) (hx : x < 18446744073709551616) :
    Calls Try.prog 19 #[.int .u64 x, .int .i64 32] w fun e w' => e = .returned (.slice (some ⟨w.heap.size, 0, none⟩) 32 32) ∧ w' = w.alloc (.cells (bitC x 32) 4) := by
  have hmk := run_make32 x w
  go_enter Try.func19, Try.ntmps19
  go_wp2
  go_loopw [0, 6] (fun a i wr => ∃ (k y : Nat) (C : Array Value), k ≤ 32 ∧ y < 18446744073709551616 ∧ i = .int .i64 k ∧ a = .int .u64 y ∧ Hid (C = bitC x k) ∧ Hid (y = x / 2 ^ k) ∧ wr = w.alloc (.cells C 4)) (fun _ i _ => 32 - (intOf i).toNat)
  case atStart => exact ⟨0, x, _, by omega, hx, rfl, rfl, Lib.hid rfl, Lib.hid (by simp), rfl⟩
  case round =>
    clear hmk
    obtain ⟨k, y, C, hk, hy, rfl, rfl, HC, HY, rfl⟩ := hrel
    by_cases hlt : k < 32
    · have hcell : C[k]? = some (.bool false) := by rw [HC.out]; simp [bitC, hlt]
      go_wp2
      go_roundw
      case rel =>
        have hb : ((y : Int) % 2 == 1) = x.testBit k := by
          have e : ((y : Int) % 2 == 1) = decide (y % 2 = 1) := by rw [Bool.eq_iff_iff]; simp; omega
          rw [e, HY.out, Nat.testBit_eq_decide_div_mod_eq]
        exact ⟨k + 1, y / 2, _, by omega, by omega, by go_num, by go_num, Lib.hid (by rw [HC.out, hb]; exact bitC_step x k), Lib.hid (by rw [HY.out, Nat.pow_succ, Nat.div_div_eq_div_mul]), rfl⟩
      case measure => simp [intOf]; omega
    · go_wp2
      go_ret
      exact ⟨rfl, by rw [HC.out, show k = 32 by omega]⟩

set_option maxHeartbeats 400000 in
theorem number_any (l : List Bool) (n b : Nat) (w : World) (hn : n = l.length) (hl : n ≤ 64) (hc : ∀ i, i < n → w.cell? ⟨b, i, none⟩ = some (.bool (l.getD i false))) :
    Calls Try.prog 20 #[.slice (some ⟨b, 0, none⟩) n n] w fun e w' => e = .returned (.int .u64 (numB l : Nat)) ∧ w = w' := by
  have HCL := Lib.hid hc
  clear hc
  have HN := Lib.hid hn
  clear hn
  go_enter Try.func20, Try.ntmps20
  go_wp2
  go_loop [3, 4] (fun x i => ∃ (k y : Nat), k ≤ n ∧ i = .int .i64 ((k : Int) - 1) ∧ x = .int .u64 y ∧ Hid (y = numB (l.drop k))) (fun _ i => (intOf i + 1).toNat)
  case atStart => exact ⟨n, 0, by omega, rfl, rfl, Lib.hid (by rw [HN.out, List.drop_length]; rfl)⟩
  case round =>
    obtain ⟨k, y, hk, rfl, rfl, HY⟩ := hrel
    rcases k with _ | j
    · go_wp2
      go_ret
      exact ⟨ret_int (by rw [HY.out]; rfl), rfl⟩
    · rw [show ((j + 1 : Nat) : Int) - 1 = (j : Int) by omega]
      have hcj : w.cell? ⟨b, j, none⟩ = some (.bool (l.getD j false)) := HCL.out j (by omega)
      have HS := Lib.hid (numB_drop l j (by have := HN.out; omega))
      have hlt : y < 9223372036854775808 := by
        have h1 := numB_lt (l.drop (j + 1))
        rw [← HY.out, List.length_drop, ← HN.out] at h1
        have h2 : 2 ^ (n - (j + 1)) ≤ 2 ^ 63 := Nat.pow_le_pow_right (by decide) (by omega)
        omega
      obtain ⟨v, hv⟩ : ∃ v, v = l.getD j false := ⟨_, rfl⟩
      have HV : Hid (l[j]'(by have := HN.out; omega) = v) := Lib.hid (by
        rw [hv, List.getD_eq_getElem?_getD, List.getElem?_eq_getElem (by have := HN.out; omega)]; rfl)
      rw [← hv] at hcj
      clear hv
      cases v
      · go_wp2
        go_round
        case rel => exact ⟨j, y * 2, by omega, rfl, by go_num, Lib.hid (by rw [HS.out, HV.out, ← HY.out]; simp; omega)⟩
        case measure => simp [intOf]
      · go_wp2
        go_round
        case rel => exact ⟨j, y * 2 + 1, by omega, rfl, by go_num, Lib.hid (by rw [HS.out, HV.out, ← HY.out]; simp; omega)⟩
        case measure => simp [intOf]

def rotC (x K k : Nat) : Array Value := ((List.range 32).map fun i => Value.bool (decide (i < k) && x.testBit ((i + K) % 32))).toArray
theorem rotC_step (x K k : Nat) : (rotC x K k).setIfInBounds k (.bool (x.testBit ((k + K) % 32))) = rotC x K (k + 1) := by
  apply Array.ext
  · simp [rotC]
  · intro i h1 h2
    rw [Array.getElem_setIfInBounds (by simpa [rotC] using h2)]
    by_cases e : k = i
    · subst e; simp [rotC]
    · simp only [rotC, e, if_false, List.getElem_toArray, List.getElem_map, List.getElem_range]
      have e2 : (i < k + 1) = (i < k) := by apply propext; omega
      simp only [e2]
theorem run_make32r (x K : Nat) (w : World) : (Instr.makeSlice 39 (.int .i64 32) (.int .i64 32)).run Try.prog w = .ok (.slice (some ⟨w.heap.size, 0, none⟩) 32 32) (w.alloc (.cells (rotC x K 0) 4)) := by kernel_rfl

set_option maxHeartbeats 800000 in
theorem refRot_core (x K : Nat) (n : Int) (w : World) (hx : x < 4294967296) (hK : K < 32) (hk : n.tmod 32 = (K : Int) ∨ (n.tmod 32 = (K : Int) - 32 ∧ 0 < K)) :
    Calls Try.prog 9 #[.int .u32 x, .int .i64 n] w fun e w' => e = .returned (.int .u32 (rotr x K : Nat)) ∧ Grown w w' := by
  have hmk := fun w => run_make32r x K w
  rcases hk with hk | ⟨hk, hK0⟩
  have hd : decide ((K : Int) < 0) = false := by simp
  all_goals
    go_enter Try.func9, Try.ntmps9
    go_wp2_with (go_at_call 19; refine (bits_any x _ (by omega)).mono ?_; rintro e w' ⟨rfl, rfl⟩)
    clear hmk
    go_loopw [8] (fun i wr => ∃ (k : Nat) (C : Array Value), k ≤ 32 ∧ i = .int .i64 k ∧ Hid (C = rotC x K k) ∧ wr = (w.alloc (.cells (bitC x 32) 4)).alloc (.cells C 4)) (fun i _ => 32 - (intOf i).toNat)
    case atStart => exact ⟨0, _, by omega, rfl, Lib.hid rfl, rfl⟩
    case round =>
      obtain ⟨k, C, hk32, rfl, HC, rfl⟩ := hrel
      by_cases hlt : k < 32
      · have hcell : C[k]? = some (.bool false) := by rw [HC.out]; simp [rotC, hlt]
        have hld : (bitC x 32)[(k + K) % 32]? = some (.bool (x.testBit ((k + K) % 32))) := by
          have := Nat.mod_lt (k + K) (show 32 > 0 by decide)
          simp [bitC, this]
        go_wp2
        go_roundw
        case rel => exact ⟨k + 1, _, by omega, by go_num, Lib.hid (by rw [HC.out]; exact rotC_step x K k), rfl⟩
        case measure => simp [intOf]; omega
      · have hnum : Hid (numB (rotL x K) = rotr x K) := Lib.hid (numB_rot x K hx hK)
        have hcs : Hid (∀ i, i < 32 → ((w.alloc (.cells (bitC x 32) 4)).alloc (.cells C 4)).cell? ⟨w.heap.size + 1, i, none⟩ = some (.bool ((rotL x K).getD i false))) := Lib.hid (by
          intro i hi
          rw [World.cell?_alloc_at _ _ _ _ (by simp), HC.out, show k = 32 by omega, rotL_getD x K i hi]
          simp [rotC, hi])
        go_wp2_with (go_at_call 20; refine (number_any (rotL x K) 32 (w.heap.size + 1) _ (rotL_length x K).symm (by omega) hcs.out).mono ?_; rintro e w' ⟨rfl, rfl⟩)
        go_ret
        exact ⟨ret_int (by rw [hnum.out]; have := rotr_lt x K hx; omega), ((Grown.refl _).alloc _ _).alloc _ _⟩
theorem refRot_any (x : Nat) (n : Int) (w : World) (hx : x < 4294967296) :
    Calls Try.prog 9 #[.int .u32 x, .int .i64 n] w fun e w' => e = .returned (.int .u32 (rotr x (n % 32).toNat : Nat)) ∧ Grown w w' := by
  refine refRot_core x (n % 32).toNat n w hx (by omega) ?_
  rw [Int.tmod_eq_emod]
  split
  · left; omega
  · rename_i h
    have h1 : ¬ (32 : Int) ∣ n := fun h' => h (Or.inr h')
    right
    exact ⟨by omega, by omega⟩

/-! ### The law's own examples -/
theorem rot_ex (w : World) : Calls Try.prog 8 #[.int .u32 1, .int .i64 1] w fun e w' => e = .returned (.int .u32 2147483648) ∧ w = w' := by
  have h := rot_any 1 1 w (by omega)
  rw [show (rotr 1 ((1 : Int) % 32).toNat) = 2147483648 by decide] at h
  exact h
theorem put_ex (w : World) : Calls Try.prog 13 #[.int .u32 258] w fun e w' => e = .returned (.string ⟨#[0, 0, 1, 2]⟩) ∧ Grown w w' := by
  have h := put32_any 258 w (by omega)
  rw [show beS 4 258 = ⟨#[0, 0, 1, 2]⟩ by rfl] at h
  exact h
theorem take_ex (w : World) : Calls Try.prog 14 #[.string ⟨#[1, 2]⟩, .int .i64 1] w fun e w' => e = .returned (.int .u32 33554432) ∧ w = w' := by
  have h := take32_any ⟨#[1, 2]⟩ 1 w (by unfold maxLen; decide) (by omega) (by omega)
  rw [show tkz ⟨#[1, 2]⟩ 1 4 = 33554432 by decide] at h
  exact h
theorem lead_ex (w : World) : Calls Try.prog 17 #[.int .u64 1] w fun e w' => e = .returned (.int .i64 63) ∧ w = w' := by
  have h := lead_any 1 w (by omega)
  rw [show 64 - bl 1 = 63 by decide] at h
  exact h

set_option maxHeartbeats 400000 in
theorem awake_any (w : World) : Calls Try.prog 10 #[] w fun e w' => e = .returned (.bool true) ∧ Grown w w' := by
  go_enter Try.func10, Try.ntmps10
  go_wp2_with (first
    | (go_at_call 8; refine (rot_ex _).mono ?_; rintro e w' ⟨rfl, rfl⟩)
    | (go_at_call 13; refine (put_ex _).mono ?_; rintro e w1 ⟨rfl, hg⟩)
    | (go_at_call 14; refine (take_ex _).mono ?_; rintro e w' ⟨rfl, rfl⟩)
    | (go_at_call 17; refine (lead_ex _).mono ?_; rintro e w' ⟨rfl, rfl⟩))
  go_ret
  exact ⟨rfl, by assumption⟩

end Go.Proofs.Ytcifngiaoodilaa
