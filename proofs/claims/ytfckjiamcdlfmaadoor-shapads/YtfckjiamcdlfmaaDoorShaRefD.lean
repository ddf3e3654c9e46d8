/-
  Contract of the reference of layer 2: Roots, at numbers below 1024 * 1024. Conditions: the argument is below 1048576.
-/
import Derived.Test.YtfckjiamcdlfmaaDoorShaRefC
namespace Go.Proofs.YtfckjiamcdlfmaaDoor
open Go.RowKit

set_option maxHeartbeats 1000000 in
theorem refRoots_any (p : Nat) (W : World) (hp : p < 1048576) :
    Calls Tryd.prog 17 #[.int .u64 p] W fun e w' => (∃ w, w * w ≤ p ∧ p < (w + 1) * (w + 1) ∧ e = .returned (.int .u32 ((rootIt p w 32).2.2 : Nat))) ∧ W = w' := by
  go_enter Tryd.func17, Tryd.ntmps17
  go_wp2_with fail
  go_loop [3] (fun a => ∃ w : Nat, w < 1024 ∧ Hid (w * w ≤ p) ∧ a = .int .u64 (w : Int)) (fun a => 1024 - (intOf a).toNat)
  case atStart => exact ⟨0, by omega, Lib.hid (by omega), rfl⟩
  case round =>
    obtain ⟨w, hw, HWW, rfl⟩ := hrel
    have hql : (w + 1) * (w + 1) ≤ 1024 * 1024 := Nat.mul_le_mul (by omega) (by omega)
    obtain ⟨q, hq⟩ : ∃ q, q = (w + 1) * (w + 1) := ⟨_, rfl⟩
    obtain ⟨r, hr⟩ : ∃ r, r = w * w := ⟨_, rfl⟩
    have hrp : r ≤ p := by rw [hr]; exact HWW.out
    have hq1 : IntKind.u64.wrap (((w : Int) + 1) * ((w : Int) + 1)) = (q : Int) := by
      have e : (((w : Int) + 1) * ((w : Int) + 1)) = (((w + 1) * (w + 1) : Nat) : Int) := by push_cast; rfl
      rw [e, ← hq, IntWalk.u64_in _ (by omega)]
    have hr1 : IntKind.u64.wrap ((w : Int) * (w : Int)) = (r : Int) := by
      have e : ((w : Int) * (w : Int)) = ((w * w : Nat) : Int) := by push_cast; rfl
      rw [e, ← hr, IntWalk.u64_in _ (by omega)]
    rw [← hq] at hql
    have HQ := Lib.hid hq
    have HR := Lib.hid hr
    clear hq hr
    by_cases hc : q ≤ p
    · have hd : decide ((q : Int) ≤ (p : Int)) = true := by simp; omega
      go_wp2_with fail
      go_round
      case rel =>
        have h1 : w + 1 < 1024 := by
          by_cases h : w + 1 < 1024
          · exact h
          · have e : w = 1023 := by omega
            have h3 := HQ.out
            rw [e] at h3
            omega
        exact ⟨w + 1, h1, Lib.hid (by have := HQ.out; omega), by go_num⟩
      case measure => simp [intOf]; omega
    · have hd : decide ((q : Int) ≤ (p : Int)) = false := by simp; omega
      have INV := Lib.hid (rootIt_inv p w hw (by rw [← HQ.out]; omega))
      go_wp2_with fail
      clear hd hq1 hr1
      go_loop [4, 5, 6, 7] (fun a b c i => ∃ (k x y z : Nat), k ≤ 32 ∧ i = .int .i64 (k : Int) ∧ a = .int .u64 (x : Int) ∧ b = .int .u64 (y : Int) ∧ c = .int .u32 (z : Int) ∧ Hid (rootIt p w k = (x, y, z)) ∧ x ≤ 2 * y ∧ y < 4398046511104 ∧ z < 4294967296) (fun _ _ _ i => 32 - (intOf i).toNat)
      case atStart => exact ⟨0, p - r, w, 0, by omega, rfl, by go_num, rfl, rfl, Lib.hid (by rw [HR.out]; rfl), by have := INV.out 0; simp only [rootIt] at this; have := HR.out; omega, by omega, by omega⟩
      case round =>
        obtain ⟨k, x, y, z, hk, rfl, rfl, rfl, rfl, HI, b1, b2, b3⟩ := hrel
        by_cases hlt : k < 32
        · have hd : decide ((k : Int) < 32) = true := by simp; omega
          have hb : y < 2199023255552 ∧ z < 2147483648 := by
            obtain ⟨_, i2, i3⟩ := INV.out k
            rw [HI.out] at i2 i3
            have e1 : 2 ^ k ≤ 2 ^ 31 := Nat.pow_le_pow_right (by decide) (by omega)
            simp only [] at i2 i3
            omega
          obtain ⟨b4, b5⟩ := hb
          by_cases hs : 4 * y + 1 ≤ x * 4
          · have HN : Hid (rootIt p w (k + 1) = (x * 4 - (4 * y + 1), 2 * y + 1, z * 2 + 1)) := Lib.hid (by
              rw [rootIt, HI.out, rootStep, if_pos hs])
            have hd2 : decide ((4 : Int) * y + 1 ≤ (x : Int) * 4) = true := by simp; omega
            go_wp2_with fail
            go_round
            case rel => exact ⟨k + 1, _, _, _, by omega, by go_num, by go_num, by go_num, by go_num, HN, by omega, by omega, by omega⟩
            case measure => simp [intOf]; omega
          · have HN : Hid (rootIt p w (k + 1) = (x * 4, y * 2, z * 2)) := Lib.hid (by
              rw [rootIt, HI.out, rootStep, if_neg hs])
            have hd2 : decide ((4 : Int) * y + 1 ≤ (x : Int) * 4) = false := by simp; omega
            go_wp2_with fail
            go_round
            case rel => exact ⟨k + 1, _, _, _, by omega, by go_num, by go_num, by go_num, by go_num, HN, by omega, by omega, by omega⟩
            case measure => simp [intOf]; omega
        · have hd : decide ((k : Int) < 32) = false := by simp; omega
          have HF : Hid ((rootIt p w 32).2.2 = z) := Lib.hid (by rw [show 32 = k by omega, HI.out])
          have HX : Hid (w * w ≤ p ∧ p < (w + 1) * (w + 1)) := Lib.hid ⟨by have := HR.out; omega, by have := HQ.out; omega⟩
          go_wp2_with fail
          go_ret
          exact ⟨⟨w, HX.out.1, HX.out.2, ret_int (by rw [HF.out])⟩, rfl⟩
end Go.Proofs.YtfckjiamcdlfmaaDoor
