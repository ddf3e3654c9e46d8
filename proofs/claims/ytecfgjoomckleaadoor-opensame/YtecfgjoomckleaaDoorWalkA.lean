/-
  Contracts of layer 1's functions that touch no memory (word.Rot, word.Lead, word.byteAt, word.Take32, word.Take64) and of their reference (Lead, Take). Conditions: the arguments fit their kinds; a string has at most maxLen bytes.
-/
import Derived.Test.YtecfgjoomckleaaDoorProg
import Derived.Test.YtecfgjoomckleaaDoorMath
import Derived.WalkKit
import Derived.WalkLawsBesides
import Derived.Lib.Hide
namespace Go.Proofs.YtecfgjoomckleaaDoor
set_option maxRecDepth 4000
open Go.RowKit

theorem ret_int {k : IntKind} {a b : Int} (h : a = b) : Ending.returned (.int k a) = .returned (.int k b) := by rw [h]

theorem rot_val (x k : Nat) (hx : x < 4294967296) : bits .or .u32 ((x : Int) / 2 ^ k) ((x : Int) * 2 ^ (32 - k) % 4294967296) = ((rotr x k : Nat) : Int) := by
  have h1 : ((x : Int) / 2 ^ k) = ((x / 2 ^ k : Nat) : Int) := by simp
  have h2 : ((x : Int) * 2 ^ (32 - k) % 4294967296) = ((x * 2 ^ (32 - k) % 4294967296 : Nat) : Int) := by simp
  rw [h1, h2, u32_or_nat _ _ (Nat.lt_of_le_of_lt (Nat.div_le_self _ _) hx) (Nat.mod_lt _ (by decide))]
  rfl

set_option maxHeartbeats 400000 in
theorem rot_any (x : Nat) (n : Int) (w : World) (hx : x < 4294967296) :
    Calls Tryd.prog 64 #[.int .u32 x, .int .i64 n] w fun e w' => e = .returned (.int .u32 (rotr x (n % 32).toNat : Nat)) ∧ w = w' := by
  obtain ⟨k, hk⟩ : ∃ k : Nat, k = (n % 32).toNat := ⟨_, rfl⟩
  have hk' : k < 32 := by omega
  have ha := and31 n
  rw [← hk] at ha ⊢
  clear hk
  go_enter Tryd.func64, Tryd.ntmps64
  go_wp2
  go_ret
  exact ⟨ret_int (rot_val x k hx), rfl⟩

set_option maxHeartbeats 400000 in
theorem byteAt_any (s : ByteArray) (a : Int) (i : Nat) (w : World) (hs : s.size ≤ maxLen) (hi : i < 8) (ha1 : -9223372036854775808 ≤ a) (ha2 : a ≤ 9223372036854775807) :
    Calls Tryd.prog 68 #[.string s, .int .i64 a, .int .i64 i] w fun e w' => e = .returned (.int .u8 (btz s a i : Nat)) ∧ w = w' := by
  unfold maxLen at hs
  by_cases h0 : a < 0
  · have HZ := Lib.hid (btz_out s a i (Or.inl h0))
    go_enter Tryd.func68, Tryd.ntmps68
    go_wp2
    go_ret
    exact ⟨ret_int (by rw [HZ.out]; rfl), rfl⟩
  · obtain ⟨A, rfl⟩ := Int.eq_ofNat_of_zero_le (show 0 ≤ a by omega)
    by_cases h1 : (s.size : Int) - A ≤ i
    · have HZ := Lib.hid (btz_out s A i (Or.inr (by omega)))
      go_enter Tryd.func68, Tryd.ntmps68
      go_wp2
      go_ret
      exact ⟨ret_int (by rw [HZ.out]; rfl), rfl⟩
    · have h2 : A + i < s.size := by omega
      have HZ := Lib.hid (btz_in s A i h2)
      go_enter Tryd.func68, Tryd.ntmps68
      go_wp2
      go_ret
      exact ⟨ret_int (by rw [HZ.out]), rfl⟩

set_option maxHeartbeats 400000 in
theorem take32_any (s : ByteArray) (a : Int) (w : World) (hs : s.size ≤ maxLen) (ha1 : -9223372036854775808 ≤ a) (ha2 : a ≤ 9223372036854775807) :
    Calls Tryd.prog 65 #[.string s, .int .i64 a] w fun e w' => e = .returned (.int .u32 (tkz s a 4 : Nat)) ∧ w = w' := by
  go_enter Tryd.func65, Tryd.ntmps65
  go_wp2
  go_loop [5, 7] (fun x i => ∃ k : Nat, k ≤ 4 ∧ i = .int .i64 k ∧ x = .int .u32 (tkz s a k : Nat)) (fun _ i => 4 - (intOf i).toNat)
  case atStart => exact ⟨0, by omega, rfl, rfl⟩
  case round =>
    obtain ⟨k, hk, rfl, rfl⟩ := hrel
    by_cases hlt : k < 4
    · go_wp2_with (go_at_call 68; refine (byteAt_any s a k _ hs (by omega) ha1 ha2).mono ?_; rintro e w' ⟨rfl, rfl⟩)
      go_round
      case rel => exact ⟨k + 1, by omega, by go_num, by rw [t32_step s a k hlt]⟩
      case measure => simp [intOf]; omega
    · go_wp2
      go_ret
      exact ⟨ret_int (by rw [show k = 4 by omega]), rfl⟩

set_option maxHeartbeats 400000 in
theorem refTake_any (s : ByteArray) (a : Int) (n : Nat) (w : World) (hs : s.size ≤ maxLen) (hn : n ≤ 8) (ha1 : -9223372036854775808 ≤ a) (ha2 : a ≤ 9223372036854775807) :
    Calls Tryd.prog 63 #[.string s, .int .i64 a, .int .i64 n] w fun e w' => e = .returned (.int .u64 (tkz s a n : Nat)) ∧ w = w' := by
  unfold maxLen at hs
  go_enter Tryd.func63, Tryd.ntmps63
  go_wp2
  go_loop [7, 8] (fun x i => ∃ k : Nat, k ≤ n ∧ i = .int .i64 k ∧ x = .int .u64 (tkz s a k : Nat)) (fun _ i => n - (intOf i).toNat)
  case atStart => exact ⟨0, by omega, rfl, rfl⟩
  case round =>
    obtain ⟨k, hk, rfl, rfl⟩ := hrel
    by_cases hlt : k < n
    · by_cases h0 : a < 0
      · have HZ := Lib.hid (btz_out s a k (Or.inl h0))
        go_wp2
        go_round
        case rel => exact ⟨k + 1, by omega, by go_num, by rw [rt_step0 s a k (by omega) HZ.out]⟩
        case measure => simp [intOf]; omega
      · obtain ⟨A, rfl⟩ := Int.eq_ofNat_of_zero_le (show 0 ≤ a by omega)
        by_cases h3 : A + k < s.size
        · have HZ := Lib.hid (btz_in s A k h3)
          go_wp2
          go_round
          case rel => exact ⟨k + 1, by omega, by go_num, by rw [rt_step s A k _ (by omega) HZ.out]⟩
          case measure => simp [intOf]; omega
        · have HZ := Lib.hid (btz_out s A k (Or.inr (by omega)))
          by_cases h4 : A < s.size
          · go_wp2
            go_round
            case rel => exact ⟨k + 1, by omega, by go_num, by rw [rt_step0 s A k (by omega) HZ.out]⟩
            case measure => simp [intOf]; omega
          · go_wp2
            go_round
            case rel => exact ⟨k + 1, by omega, by go_num, by rw [rt_step0 s A k (by omega) HZ.out]⟩
            case measure => simp [intOf]; omega
    · go_wp2
      go_ret
      exact ⟨ret_int (by rw [show k = n by omega]), rfl⟩

end Go.Proofs.YtecfgjoomckleaaDoor
