/-
  Contracts of shape.Left and milepostref11.Left.
-/
import Derived.Test.YtggpjhldmaflaaaShapeMath
import Derived.Test.YtggpjhldmaflaaaAppLib
import Derived.WalkKit
import Derived.Lib.Hide
namespace Go.Proofs.Ytggpjhldmaflaaa
set_option maxRecDepth 4000
open Go.RowKit

theorem leftI_small {n : Int} (h : n < 2) : leftI n = 0 := leftN_small (by omega)
theorem pow2_pos (j : Nat) : 0 < 2 ^ j := Nat.pow_pos (by decide)
/-- p is a power of two below m. -/
def PowB (m p : Nat) : Prop := ∃ j, p = 2 ^ j ∧ p < m
theorem PowB.pos {m p : Nat} (h : PowB m p) : 0 < p := by obtain ⟨j, rfl, _⟩ := h; exact pow2_pos j
theorem PowB.lt {m p : Nat} (h : PowB m p) : p < m := by obtain ⟨j, rfl, h⟩ := h; exact h
theorem PowB.next {m p : Nat} (h : PowB m p) (h2 : p * 2 < m) : PowB m (p * 2) := by obtain ⟨j, rfl, _⟩ := h; exact ⟨j + 1, by rw [Nat.pow_succ], h2⟩
theorem PowB.done {m p : Nat} (h : PowB m p) (h2 : m ≤ 2 * p) : leftN m = p := by obtain ⟨j, rfl, h⟩ := h; exact leftN_eq h h2
theorem PowB.one {m : Nat} (h : 2 ≤ m) : PowB m 1 := ⟨0, rfl, by omega⟩
theorem PowB.top {m p : Nat} (h : PowB m p) (hm : m < 9223372036854775808) : p ≤ 4611686018427387904 := by
  obtain ⟨j, rfl, h⟩ := h
  have h63 : 2 ^ j < 2 ^ 63 := by omega
  have := (Nat.pow_lt_pow_iff_right (by decide : 1 < 2)).1 h63
  exact Nat.pow_le_pow_right (n := 2) (by decide) (show j ≤ 62 by omega)
/-- Twice a power of two below 2^63 wraps round only to the least number. -/
theorem PowB.wrap {m p : Nat} (h : PowB m p) (hm : m < 9223372036854775808) (h2 : 4611686018427387904 ≤ p) : p = 4611686018427387904 := by have := h.top hm; omega

set_option maxHeartbeats 400000 in
theorem shapeLeft_any (n : Int) (w : World) (hl : -9223372036854775808 ≤ n) (hu : n < 9223372036854775808) :
    Calls Try.prog 15 #[.int .i64 n] w fun e w' => e = .returned (.int .i64 (leftI n : Int)) ∧ w = w' := by
  by_cases h2 : n < 2
  · have hd : decide (n < 2) = true := by simp; omega
    have hE : (leftI n : Int) = 0 := by rw [leftI_small h2]; rfl
    rw [hE]
    clear hE
    go_enter Try.func15, Try.ntmps15
    go_wp2
    go_ret
    exact ⟨rfl, rfl⟩
  · obtain ⟨m, rfl⟩ := Int.eq_ofNat_of_zero_le (show 0 ≤ n by omega)
    have hm2 : 2 ≤ m := by omega
    have hm : m < 9223372036854775808 := by omega
    have hd : decide ((m : Int) < 2) = false := by simp; omega
    have hE : leftI (m : Int) = leftN m := rfl
    rw [hE]
    clear hE hl hu h2
    go_enter Try.func15, Try.ntmps15
    go_wp2
    go_loop [3] (fun v => ∃ p : Nat, v = .int .i64 (p : Int) ∧ Hid (PowB m p)) (fun v => m - (intOf v).toNat)
    case atStart => exact ⟨1, rfl, Lib.hid (PowB.one hm2)⟩
    case round =>
      obtain ⟨p, rfl, HP⟩ := hrel
      have hp := HP.out.pos
      have hpm := HP.out.lt
      by_cases hc : p * 2 < m
      · have hd1 : decide ((p : Int) < (m : Int) - (p : Int)) = true := by simp; omega
        have HN := Lib.hid (HP.out.next hc)
        go_wp2
        go_round
        case rel => exact ⟨p * 2, by push_cast; rfl, HN⟩
        case measure => simp [intOf]; omega
      · have hd1 : decide ((p : Int) < (m : Int) - (p : Int)) = false := by simp; omega
        have HE := Lib.hid (HP.out.done (by omega))
        go_wp2
        go_ret
        exact ⟨by rw [HE.out]; rfl, rfl⟩

/-- What the reference's loop holds: p has come, k is next. -/
def RefL (n : Int) (p : Nat) (k : Int) : Prop := (p = 0 ∧ k = 1) ∨ (∃ m : Nat, n = (m : Int) ∧ PowB m p ∧ k = IntKind.i64.wrap ((p : Int) * 2))
theorem RefL.lt {n : Int} {p : Nat} {k : Int} (h : RefL n p k) (hu : n < 9223372036854775808) : p < 9223372036854775808 := by
  rcases h with ⟨rfl, _⟩ | ⟨m, rfl, hP, _⟩
  · omega
  · have := hP.lt; omega
theorem RefL.done {n : Int} {p : Nat} {k : Int} (h : RefL n p k) (hu : n < 9223372036854775808) (hc : ¬ (k < n ∧ 0 < k)) : leftI n = p := by
  rcases h with ⟨rfl, rfl⟩ | ⟨m, rfl, hP, hk⟩
  · exact leftI_small (by omega)
  · have hm : m < 9223372036854775808 := by omega
    have ht := hP.top hm
    have hp := hP.pos
    rw [IntKind.wrap_i64] at hk
    exact hP.done (by omega)
theorem RefL.next {n : Int} {p : Nat} {k : Int} (h : RefL n p k) (hu : n < 9223372036854775808) (hc : k < n ∧ 0 < k) : ∃ q : Nat, k = (q : Int) ∧ p < q ∧ RefL n q (IntKind.i64.wrap (k * 2)) := by
  rcases h with ⟨rfl, rfl⟩ | ⟨m, rfl, hP, hk⟩
  · exact ⟨1, rfl, by omega, .inr ⟨n.toNat, by omega, PowB.one (by omega), rfl⟩⟩
  · have hm : m < 9223372036854775808 := by omega
    have ht := hP.top hm
    have hp := hP.pos
    have hk' : k = ((p * 2 : Nat) : Int) := by rw [IntKind.wrap_i64] at hk; omega
    exact ⟨p * 2, hk', by omega, .inr ⟨m, rfl, hP.next (by omega), by rw [hk']⟩⟩
set_option maxHeartbeats 400000 in
theorem refLeft_any (n : Int) (w : World) (hu : n < 9223372036854775808) :
    Calls Try.prog 9 #[.int .i64 n] w fun e w' => e = .returned (.int .i64 (leftI n : Int)) ∧ w = w' := by
  go_enter Try.func9, Try.ntmps9
  go_wp2
  go_loop [3, 4] (fun a b => ∃ (p : Nat) (k : Int), a = .int .i64 (p : Int) ∧ b = .int .i64 k ∧ Hid (RefL n p k)) (fun a _ => 9223372036854775808 - (intOf a).toNat)
  case atStart => exact ⟨0, 1, rfl, rfl, Lib.hid (.inl ⟨rfl, rfl⟩)⟩
  case round =>
    obtain ⟨p, k, rfl, rfl, HR⟩ := hrel
    have hpl := HR.out.lt hu
    by_cases hc : k < n ∧ 0 < k
    · obtain ⟨q, hq, hpq, HN⟩ := HR.out.next hu hc
      replace HN := Lib.hid HN
      replace hq := Lib.hid hq
      have hql := HN.out.lt hu
      obtain ⟨h1, h2⟩ := hc
      have hd1 : decide (k < n) = true := by simp; omega
      have hd2 : decide (k > 0) = true := by simp; omega
      go_wp2
      go_round
      case rel => exact ⟨q, IntKind.i64.wrap (k * 2), by rw [hq.out], by unfold wrap64; rw [IntKind.wrap_i64], HN⟩
      case measure => rw [hq.out]; simp [intOf]; omega
    · have HE := Lib.hid (HR.out.done hu hc)
      by_cases h1 : k < n
      · have h2 : k ≤ 0 := by omega
        have hd1 : decide (k < n) = true := by simp; omega
        have hd2 : decide (k > 0) = false := by simp; omega
        clear hc
        go_wp2
        go_ret
        exact ⟨by rw [HE.out]; rfl, rfl⟩
      · have h2 : n ≤ k := by omega
        have hd1 : decide (k < n) = false := by simp; omega
        clear hc
        go_wp2
        go_ret
        exact ⟨by rw [HE.out]; rfl, rfl⟩
end Go.Proofs.Ytggpjhldmaflaaa
