/-
  Contracts of layer 1's functions that touch no memory (word.Rot, word.Lead, word.byteAt, word.Take32, word.Take64) and of their reference (Lead, Take). Conditions: the arguments fit their kinds; a string has at most maxLen bytes.
-/
import Derived.Test.YtcjieaijcjinnaaProg
import Derived.Test.YtcjieaijcjinnaaMath
import Derived.WalkKit
import Derived.WalkLawsBesides
import Derived.Lib.Hide
namespace Go.Proofs.Ytcjieaijcjinnaa
open Go.RowKit

theorem ret_int {k : IntKind} {a b : Int} (h : a = b) : Ending.returned (.int k a) = .returned (.int k b) := by rw [h]

set_option maxHeartbeats 400000 in
theorem lead_any (x : Nat) (w : World) (hx : x < 18446744073709551616) :
    Calls Try.prog 39 #[.int .u64 x] w fun e w' => e = .returned (.int .i64 ((64 - bl x : Nat) : Int)) ∧ w = w' := by
  go_enter Try.func39, Try.ntmps39
  go_wp2
  go_loop [4] (fun i => ∃ k : Nat, k ≤ 64 ∧ i = .int .i64 k ∧ x < 2 ^ (64 - k)) (fun i => 64 - (intOf i).toNat)
  case atStart => exact ⟨0, by omega, rfl, by simpa using hx⟩
  case round =>
    obtain ⟨k, hk, rfl, hr⟩ := hrel
    have HR := Lib.hid hr
    clear hr
    by_cases hlt : k < 64
    · by_cases hb : 2 ^ (63 - k) ≤ x
      · have ht : ((x : Int) / 2 ^ (63 - k) != 0) = true := by
          have h1 : 1 ≤ x / 2 ^ (63 - k) := (Nat.le_div_iff_mul_le (Nat.two_pow_pos _)).2 (by omega)
          have h2 : ((x : Int) / 2 ^ (63 - k)) = ((x / 2 ^ (63 - k) : Nat) : Int) := by simp
          rw [h2]; simp only [bne_iff_ne]; omega
        have HB := Lib.hid hb
        clear hb
        go_wp2
        go_ret
        refine ⟨ret_int ?_, rfl⟩
        have h3 := bl_of x (63 - k) HB.out (by rw [show 63 - k + 1 = 64 - k by omega]; exact HR.out)
        omega
      · have ht : ((x : Int) / 2 ^ (63 - k) != 0) = false := by
          have h1 : x / 2 ^ (63 - k) = 0 := Nat.div_eq_of_lt (by omega)
          have h2 : ((x : Int) / 2 ^ (63 - k)) = ((x / 2 ^ (63 - k) : Nat) : Int) := by simp
          rw [h2, h1]; rfl
        have HB := Lib.hid hb
        clear hb
        go_wp2
        go_round
        case rel => exact ⟨k + 1, by omega, by go_num, by rw [show 64 - (k + 1) = 63 - k by omega]; have := HB.out; omega⟩
        case measure => simp [intOf]; omega
    · go_wp2
      go_ret
      refine ⟨ret_int ?_, rfl⟩
      have e : k = 64 := by omega
      have h0 := HR.out
      rw [e] at h0
      have h1 : x = 0 := by simpa using h0
      rw [h1, bl_zero]; rfl

set_option maxHeartbeats 400000 in
theorem refLead_any (x : Nat) (w : World) (hx : x < 18446744073709551616) :
    Calls Try.prog 40 #[.int .u64 x] w fun e w' => e = .returned (.int .i64 ((64 - bl x : Nat) : Int)) ∧ w = w' := by
  have hb := bl_le x 64 (by simpa using hx)
  go_enter Try.func40, Try.ntmps40
  go_wp2
  go_loop [0, 3] (fun a n => ∃ y j : Nat, y < 18446744073709551616 ∧ j ≤ 64 ∧ a = .int .u64 y ∧ n = .int .i64 j ∧ Hid (j = 64 - bl x + bl y)) (fun a _ => (intOf a).toNat)
  case atStart => exact ⟨x, 64, hx, by omega, rfl, rfl, Lib.hid (by omega)⟩
  case round =>
    obtain ⟨y, j, hy, hj, rfl, rfl, HJ⟩ := hrel
    by_cases h0 : 0 < y
    · have HS := Lib.hid (bl_half y h0)
      have hj1 : 1 ≤ j := by have := HJ.out; have := HS.out; omega
      go_wp2
      go_round
      case rel => exact ⟨y / 2, j - 1, by omega, by omega, by go_num, by go_num, Lib.hid (by have := HJ.out; have := HS.out; omega)⟩
      case measure => simp [intOf]; omega
    · go_wp2
      go_ret
      refine ⟨ret_int ?_, rfl⟩
      have e : y = 0 := by omega
      have := HJ.out
      rw [e, bl_zero] at this
      omega

set_option maxHeartbeats 400000 in
theorem byteAt_any (s : ByteArray) (a : Int) (i : Nat) (w : World) (hs : s.size ≤ maxLen) (hi : i < 8) (ha1 : -9223372036854775808 ≤ a) (ha2 : a ≤ 9223372036854775807) :
    Calls Try.prog 49 #[.string s, .int .i64 a, .int .i64 i] w fun e w' => e = .returned (.int .u8 (btz s a i : Nat)) ∧ w = w' := by
  unfold maxLen at hs
  by_cases h0 : a < 0
  · have HZ := Lib.hid (btz_out s a i (Or.inl h0))
    go_enter Try.func49, Try.ntmps49
    go_wp2
    go_ret
    exact ⟨ret_int (by rw [HZ.out]; rfl), rfl⟩
  · obtain ⟨A, rfl⟩ := Int.eq_ofNat_of_zero_le (show 0 ≤ a by omega)
    by_cases h1 : (s.size : Int) - A ≤ i
    · have HZ := Lib.hid (btz_out s A i (Or.inr (by omega)))
      go_enter Try.func49, Try.ntmps49
      go_wp2
      go_ret
      exact ⟨ret_int (by rw [HZ.out]; rfl), rfl⟩
    · have h2 : A + i < s.size := by omega
      have HZ := Lib.hid (btz_in s A i h2)
      go_enter Try.func49, Try.ntmps49
      go_wp2
      go_ret
      exact ⟨ret_int (by rw [HZ.out]), rfl⟩

set_option maxHeartbeats 400000 in
theorem take64_any (s : ByteArray) (a : Int) (w : World) (hs : s.size ≤ maxLen) (ha1 : -9223372036854775808 ≤ a) (ha2 : a ≤ 9223372036854775807) :
    Calls Try.prog 43 #[.string s, .int .i64 a] w fun e w' => e = .returned (.int .u64 (tkz s a 8 : Nat)) ∧ w = w' := by
  go_enter Try.func43, Try.ntmps43
  go_wp2
  go_loop [5, 7] (fun x i => ∃ k : Nat, k ≤ 8 ∧ i = .int .i64 k ∧ x = .int .u64 (tkz s a k : Nat)) (fun _ i => 8 - (intOf i).toNat)
  case atStart => exact ⟨0, by omega, rfl, rfl⟩
  case round =>
    obtain ⟨k, hk, rfl, rfl⟩ := hrel
    by_cases hlt : k < 8
    · go_wp2_with (go_at_call 49; refine (byteAt_any s a k _ hs (by omega) ha1 ha2).mono ?_; rintro e w' ⟨rfl, rfl⟩)
      go_round
      case rel => exact ⟨k + 1, by omega, by go_num, by rw [t64_step s a k hlt]⟩
      case measure => simp [intOf]; omega
    · go_wp2
      go_ret
      exact ⟨ret_int (by rw [show k = 8 by omega]), rfl⟩

end Go.Proofs.Ytcjieaijcjinnaa
