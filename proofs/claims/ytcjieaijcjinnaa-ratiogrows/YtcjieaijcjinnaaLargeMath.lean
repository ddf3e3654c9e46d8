/-
  Numbers of 320 bits: limbs, sums, products, quotients, decimal digits, digits of 16 bits. Plain arithmetic.
-/
import Derived.Test.YtcjieaijcjinnaaWideMath
namespace Go.Proofs.Ytcjieaijcjinnaa

/-! ### Five limbs -/
theorem pow_mono (m n : Nat) (h : m ≤ n) : 2 ^ m ≤ 2 ^ n := Nat.pow_le_pow_right (by decide) h
theorem lmb_high5 (N i : Nat) (h : N < 2 ^ 320) (hi : 5 ≤ i) : lmb N i = 0 := by
  have h1 := pow_mono 320 (64 * i) (by omega)
  unfold lmb
  rw [Nat.div_eq_of_lt (by omega)]
theorem lmb_inj5 (A B : Nat) (hA : A < 2 ^ 320) (hB : B < 2 ^ 320) (h : ∀ i, i < 5 → lmb A i = lmb B i) : A = B := by
  have h0 := h 0 (by omega)
  have h1 := h 1 (by omega)
  have h2 := h 2 (by omega)
  have h3 := h 3 (by omega)
  have h4 := h 4 (by omega)
  simp only [lmb] at h0 h1 h2 h3 h4
  omega
/-- The cells of a number, of which the first k limbs are filled. -/
def lC (N k : Nat) : Array Value := ((List.range 5).map fun i => Value.int .u64 (if i < k then ((lmb N i : Nat) : Int) else 0)).toArray
theorem lC_size (N k : Nat) : (lC N k).size = 5 := by simp [lC]
theorem lC_get (N k i : Nat) (h : i < 5) (hk : i < k) : (lC N k)[i]? = some (.int .u64 ((lmb N i : Nat) : Int)) := by simp [lC, h, hk]
theorem lC_zero (N k i : Nat) (h : i < 5) (hk : k ≤ i) : (lC N k)[i]? = some (.int .u64 0) := by simp [lC, h, Nat.not_lt.2 hk]
theorem lC_step (N k : Nat) (v : Int) (hv : v = lmb N k) : (lC N k).setIfInBounds k (.int .u64 v) = lC N (k + 1) := by
  subst hv
  apply Array.ext_getElem?
  intro i
  rw [Array.getElem?_setIfInBounds]
  by_cases hi : i < 5
  · by_cases h : k = i
    · subst h
      rw [if_pos rfl, if_pos (by rw [lC_size]; exact hi), lC_get N (k + 1) k hi (by omega)]
    · rw [if_neg h]
      by_cases hk : i < k
      · rw [lC_get N k i hi hk, lC_get N (k + 1) i hi (by omega)]
      · rw [lC_zero N k i hi (by omega), lC_zero N (k + 1) i hi (by omega)]
  · have e : ∀ j, (lC N j)[i]? = none := fun j => Array.getElem?_eq_none (by rw [lC_size]; omega)
    by_cases h : k = i
    · subst h
      rw [if_pos rfl, if_neg (by rw [lC_size]; exact hi), e]
    · rw [if_neg h, e, e]
theorem lC_one (N k : Nat) : (lC N k).all (·.oneCell') = true := by
  simp [lC, Value.oneCell']
/-- The cells of a number, of which the limbs from k on are filled. -/
def uC (N k : Nat) : Array Value := ((List.range 5).map fun i => Value.int .u64 (if k ≤ i then ((lmb N i : Nat) : Int) else 0)).toArray
theorem uC_size (N k : Nat) : (uC N k).size = 5 := by simp [uC]
theorem uC_full (N : Nat) : uC N 0 = lC N 5 := by
  unfold uC lC
  congr 1
theorem uC_none (N : Nat) : uC N 5 = lC 0 0 := by
  unfold uC lC
  congr 1
theorem uC_zero (N k i : Nat) (h : i < 5) (hk : i < k) : (uC N k)[i]? = some (.int .u64 0) := by simp [uC, h, Nat.not_le.2 hk]
theorem uC_get (N k i : Nat) (h : i < 5) (hk : k ≤ i) : (uC N k)[i]? = some (.int .u64 ((lmb N i : Nat) : Int)) := by simp [uC, h, hk]
theorem uC_step (N k : Nat) (v : Int) (hv : v = lmb N k) : (uC N (k + 1)).setIfInBounds k (.int .u64 v) = uC N k := by
  subst hv
  apply Array.ext_getElem?
  intro i
  rw [Array.getElem?_setIfInBounds]
  by_cases hi : i < 5
  · by_cases h : k = i
    · subst h
      rw [if_pos rfl, if_pos (by rw [uC_size]; exact hi), uC_get N k k hi (by omega)]
    · rw [if_neg h]
      by_cases hk : i < k
      · rw [uC_zero N k i hi hk, uC_zero N (k + 1) i hi (by omega)]
      · rw [uC_get N k i hi (by omega), uC_get N (k + 1) i hi (by omega)]
  · have e : ∀ j, (uC N j)[i]? = none := fun j => Array.getElem?_eq_none (by rw [uC_size]; omega)
    by_cases h : k = i
    · subst h
      rw [if_pos rfl, if_neg (by rw [uC_size]; exact hi), e]
    · rw [if_neg h, e, e]
theorem lC_of (x : Nat) (hx : x < 18446744073709551616) : lC x 5 = #[.int .u64 (x : Int), .int .u64 0, .int .u64 0, .int .u64 0, .int .u64 0] := by
  have h0 : lmb x 0 = x := by simp only [lmb]; omega
  have h1 : lmb x 1 = 0 := by simp only [lmb]; omega
  have h2 : lmb x 2 = 0 := by simp only [lmb]; omega
  have h3 : lmb x 3 = 0 := by simp only [lmb]; omega
  have h4 : lmb x 4 = 0 := by simp only [lmb]; omega
  simp [lC, List.range, List.range.loop, h0, h1, h2, h3, h4]

/-! ### What has too many bits -/
def cut (X : Nat) : Nat := if X < 2 ^ 320 then X else 0
def fit (X : Nat) : Bool := decide (X < 2 ^ 320)
theorem cut_lt (X : Nat) : cut X < 2 ^ 320 := by unfold cut; split <;> omega
theorem cut_of {X : Nat} (h : X < 2 ^ 320) : cut X = X := by unfold cut; rw [if_pos h]
theorem fit_of {X : Nat} (h : X < 2 ^ 320) : fit X = true := decide_eq_true h
theorem cut_no {X : Nat} (h : 2 ^ 320 ≤ X) : cut X = 0 := by unfold cut; rw [if_neg (by omega)]
theorem fit_no {X : Nat} (h : 2 ^ 320 ≤ X) : fit X = false := decide_eq_false (by omega)

/-! ### Sums -/
theorem add_limb5 (A B k : Nat) (hk : k < 5) : (lmb A k + lmb B k + carryN A B (64 * k)) % 18446744073709551616 = lmb (A + B) k := by
  have : k = 0 ∨ k = 1 ∨ k = 2 ∨ k = 3 ∨ k = 4 := by omega
  rcases this with rfl | rfl | rfl | rfl | rfl <;> simp only [lmb, carryN] <;> omega
theorem add_carry5 (A B k : Nat) (hk : k < 5) : (lmb A k + lmb B k + carryN A B (64 * k)) / 18446744073709551616 = carryN A B (64 * (k + 1)) := by
  have : k = 0 ∨ k = 1 ∨ k = 2 ∨ k = 3 ∨ k = 4 := by omega
  rcases this with rfl | rfl | rfl | rfl | rfl <;> simp only [lmb, carryN] <;> omega
theorem carry_fit (A B : Nat) (hA : A < 2 ^ 320) (hB : B < 2 ^ 320) : carryN A B 320 = if fit (A + B) then 0 else 1 := by
  simp only [carryN, fit, decide_eq_true_eq]
  split <;> omega

/-! ### Products -/
def overM (A y k : Nat) : Nat := A % 2 ^ (64 * k) * y / 2 ^ (64 * k)
theorem pow64_succ (k : Nat) : 2 ^ (64 * (k + 1)) = 2 ^ (64 * k) * 18446744073709551616 := by rw [show 64 * (k + 1) = 64 * k + 64 by omega, Nat.pow_add]
theorem overM_zero (A y : Nat) : overM A y 0 = 0 := by simp [overM, Nat.mod_one]
theorem overM_le (A y k : Nat) : overM A y k ≤ y := by
  unfold overM
  have h := Nat.mod_lt A (Nat.two_pow_pos (64 * k))
  apply Nat.div_le_of_le_mul
  exact Nat.mul_le_mul_right _ (Nat.le_of_lt h)
theorem mod_limb (A k : Nat) : A % 2 ^ (64 * (k + 1)) = A % 2 ^ (64 * k) + 2 ^ (64 * k) * lmb A k := by
  rw [pow64_succ, Nat.mod_mul]; rfl
theorem mul_over (A y k : Nat) : (lmb A k * y + overM A y k) / 18446744073709551616 = overM A y (k + 1) := by
  unfold overM
  rw [mod_limb, pow64_succ, ← Nat.div_div_eq_div_mul, Nat.add_mul, Nat.mul_assoc, Nat.add_mul_div_left _ _ (Nat.two_pow_pos _), Nat.add_comm]
theorem mul_limb (A y k : Nat) : (lmb A k * y + overM A y k) % 18446744073709551616 = lmb (A * y) k := by
  have h1 := Nat.div_add_mod A (2 ^ (64 * (k + 1)))
  have h2 := mod_limb A k
  unfold overM
  conv => rhs; unfold lmb
  have e : A * y = A % 2 ^ (64 * k) * y + 2 ^ (64 * k) * (lmb A k * y + 18446744073709551616 * (A / 2 ^ (64 * (k + 1)) * y)) := by
    conv => lhs; rw [← h1, h2]
    rw [pow64_succ]
    generalize A / (2 ^ (64 * k) * 18446744073709551616) = a
    generalize 2 ^ (64 * k) = p
    generalize A % p = r
    generalize lmb A k = l
    have e1 : p * 18446744073709551616 * a * y = p * (18446744073709551616 * (a * y)) := by rw [Nat.mul_assoc, Nat.mul_assoc]
    rw [Nat.add_mul, Nat.add_mul, Nat.mul_add, Nat.mul_assoc p l y, e1]
    generalize p * (18446744073709551616 * (a * y)) = c1
    generalize p * (l * y) = c2
    omega
  rw [e, Nat.add_mul_div_left _ _ (Nat.two_pow_pos _)]
  omega
theorem over_fit (A y : Nat) (hA : A < 2 ^ 320) : (overM A y 5 = 0) ↔ A * y < 2 ^ 320 := by
  unfold overM
  rw [show 64 * 5 = 320 from rfl, Nat.mod_eq_of_lt hA, Nat.div_eq_zero_iff]
  have := Nat.two_pow_pos 320
  constructor
  · rintro (h | h)
    · omega
    · exact h
  · exact fun h => .inr h

/-! ### Quotients -/
def restD (N y k : Nat) : Nat := N / 2 ^ (64 * k) % y
theorem restD_lt (N y k : Nat) (hy : 0 < y) : restD N y k < y := Nat.mod_lt _ hy
theorem div_top (N k : Nat) : N / 2 ^ (64 * k) = N / 2 ^ (64 * (k + 1)) * 18446744073709551616 + lmb N k := by
  rw [pow64_succ, ← Nat.div_div_eq_div_mul]
  unfold lmb
  omega
theorem div_rest (N y k : Nat) : (restD N y (k + 1) * 18446744073709551616 + lmb N k) % y = restD N y k := by
  unfold restD
  rw [div_top N k, Nat.add_mod, Nat.mod_mul_mod, ← Nat.add_mod]
theorem div_limb (N y k : Nat) (hy : 0 < y) : (restD N y (k + 1) * 18446744073709551616 + lmb N k) / y = lmb (N / y) k := by
  have hr := restD_lt N y (k + 1) hy
  have hl := lmb_lt N k
  have hq : (restD N y (k + 1) * 18446744073709551616 + lmb N k) / y < 18446744073709551616 := by
    rw [Nat.div_lt_iff_lt_mul hy]
    have : (restD N y (k + 1) + 1) * 18446744073709551616 ≤ y * 18446744073709551616 := Nat.mul_le_mul_right _ hr
    omega
  conv => rhs; unfold lmb
  rw [Nat.div_div_eq_div_mul, Nat.mul_comm y, ← Nat.div_div_eq_div_mul, div_top N k]
  have e : N / 2 ^ (64 * (k + 1)) * 18446744073709551616 + lmb N k = restD N y (k + 1) * 18446744073709551616 + lmb N k + y * (N / 2 ^ (64 * (k + 1)) / y * 18446744073709551616) := by
    have h := Nat.div_add_mod (N / 2 ^ (64 * (k + 1))) y
    unfold restD
    conv => lhs; rw [← h]
    rw [Nat.add_mul, Nat.mul_assoc]
    omega
  rw [e, Nat.add_mul_div_left _ _ hy, Nat.add_mul_mod_self_right, Nat.mod_eq_of_lt hq]

/-! ### Shifts -/
def lz (N : Nat) (i : Int) : Nat := if i < 0 then 0 else lmb N i.toNat
theorem lz_lt (N : Nat) (i : Int) : lz N i < 18446744073709551616 := by
  unfold lz; split
  · decide
  · exact lmb_lt _ _
theorem testBit_lz (N : Nat) (i : Int) (j : Nat) : (lz N i).testBit j = (decide (j < 64) && (decide (0 ≤ i) && N.testBit (64 * i.toNat + j))) := by
  unfold lz
  by_cases h : i < 0
  · rw [if_pos h, Nat.zero_testBit, decide_eq_false (by omega : ¬ 0 ≤ i)]; simp
  · rw [if_neg h, testBit_lmb, decide_eq_true (by omega : 0 ≤ i)]; simp
theorem shl_limb (N n q r i : Nat) (hn : n = 64 * q + r) (hr : r < 64) :
    ((lz N ((i : Int) - q) * 2 ^ r % 18446744073709551616) ||| (lz N ((i : Int) - q - 1) / 2 ^ (64 - r))) = lmb (N * 2 ^ n) i := by
  apply Nat.eq_of_testBit_eq
  intro j
  rw [Nat.testBit_or, show (18446744073709551616 : Nat) = 2 ^ 64 from rfl, Nat.testBit_mod_two_pow, Nat.testBit_mul_two_pow, testBit_lz, Nat.testBit_div_two_pow, testBit_lz, testBit_lmb, Nat.testBit_mul_two_pow]
  by_cases h : j < 64
  · by_cases h2 : r ≤ j
    · simp only [h, h2, decide_true, Bool.true_and, show j - r < 64 by omega, show ¬ (j + (64 - r) < 64) by omega, decide_false, Bool.false_and, Bool.or_false]
      by_cases h3 : q ≤ i
      · simp only [show (0 : Int) ≤ (i : Int) - q by omega, show n ≤ 64 * i + j by omega, decide_true, Bool.true_and]
        congr 1; omega
      · simp only [show ¬ (0 : Int) ≤ (i : Int) - q by omega, show ¬ n ≤ 64 * i + j by omega, decide_false, Bool.false_and]
    · simp only [h, h2, decide_true, Bool.true_and, decide_false, Bool.false_and, Bool.false_or, show j + (64 - r) < 64 by omega]
      by_cases h3 : q + 1 ≤ i
      · simp only [show (0 : Int) ≤ (i : Int) - q - 1 by omega, show n ≤ 64 * i + j by omega, decide_true, Bool.true_and]
        congr 1; omega
      · simp only [show ¬ (0 : Int) ≤ (i : Int) - q - 1 by omega, show ¬ n ≤ 64 * i + j by omega, decide_false, Bool.false_and]
  · simp only [h, show ¬ (j + (64 - r) < 64) by omega, decide_false, Bool.false_and, Bool.or_false]
theorem bl_mul (A n : Nat) (h : A ≠ 0) : bl (A * 2 ^ n) = n + bl A := by
  have hp := Nat.two_pow_pos n
  have e : A * 2 ^ n / 2 ^ n = A := Nat.mul_div_cancel _ hp
  have := bl_shift (A * 2 ^ n) n (by rw [e]; exact h)
  rw [e] at this
  exact this
theorem bl_ge (x k : Nat) (h : 2 ^ k ≤ x) : k + 1 ≤ bl x := by
  have hp := Nat.two_pow_pos k
  unfold bl
  rw [if_neg (by omega)]
  have := (Nat.le_log2 (by omega : x ≠ 0)).2 h
  omega
theorem lt_bl (x : Nat) : x < 2 ^ bl x := by
  unfold bl
  split
  · next h => subst h; decide
  · exact Nat.lt_log2_self
theorem fit_bl (X : Nat) : X < 2 ^ 320 ↔ bl X ≤ 320 := by
  constructor
  · exact bl_le X 320
  · intro h
    exact Nat.lt_of_lt_of_le (lt_bl X) (pow_mono (bl X) 320 h)
theorem fit_shl (A n : Nat) (h : A ≠ 0) : A * 2 ^ n < 2 ^ 320 ↔ n + bl A ≤ 320 := by
  rw [fit_bl, bl_mul A n h]

/-! ### Decimal digits -/
def dn (N : Nat) : Nat := if h : N < 10 then 1 else dn (N / 10) + 1
decreasing_by omega
theorem dn_of (k N : Nat) (h1 : N / 10 ^ (k + 1) = 0) (h2 : k = 0 ∨ N / 10 ^ k ≠ 0) : dn N = k + 1 := by
  induction k generalizing N with
  | zero =>
    rw [dn, dif_pos (by simp [Nat.div_eq_zero_iff] at h1; exact h1)]
  | succ k ih =>
    have h3 : N / 10 ^ (k + 1) ≠ 0 := h2.resolve_left (by omega)
    rw [Nat.pow_succ', ← Nat.div_div_eq_div_mul] at h1 h3
    have hN : ¬ N < 10 := fun h => h3 (by rw [Nat.div_eq_of_lt h]; simp)
    rw [dn, dif_neg hN, ih (N / 10) h1]
    rcases Nat.eq_zero_or_pos k with h | h
    · left; exact h
    · right
      intro h0
      apply h3
      exact h0
theorem dn_pos (N : Nat) : 0 < dn N := by rw [dn]; split <;> omega
theorem dn_div (N : Nat) : N / 10 ^ dn N = 0 := by
  induction N using Nat.strongRecOn with
  | _ N ih =>
    rw [dn]
    split
    · next h => simp [Nat.div_eq_zero_iff]; exact h
    · next h => rw [Nat.pow_succ', ← Nat.div_div_eq_div_mul]; exact ih (N / 10) (by omega)
def dig (N k : Nat) : UInt8 := UInt8.ofNat (48 + N / 10 ^ k % 10)
theorem dig_nat (N k : Nat) : (dig N k).toNat = 48 + N / 10 ^ k % 10 := by
  unfold dig
  simp only [UInt8.toNat_ofNat']
  omega
/-- The digits, the lowest first. -/
def digL (N n : Nat) : List UInt8 := (List.range n).map (dig N)
theorem digL_len (N n : Nat) : (digL N n).length = n := by simp [digL]
theorem digL_succ (N n : Nat) : digL N (n + 1) = digL N n ++ [dig N n] := by simp [digL, List.range_succ]
theorem digL_get (N n k : Nat) (h : k < n) : (digL N n)[k]? = some (dig N k) := by simp [digL, h]
def txt (N : Nat) : ByteArray := ⟨(digL N (dn N)).reverse.toArray⟩

/-! ### Digits of 16 bits -/
def dgt (N i : Nat) : Nat := N / 65536 ^ i % 65536
theorem dgt_lt (N i : Nat) : dgt N i < 65536 := Nat.mod_lt _ (by decide)
def dl (N : Nat) : Nat := (bl N + 15) / 16
theorem pow16 (k : Nat) : 65536 ^ k = 2 ^ (16 * k) := by rw [show (65536 : Nat) = 2 ^ 16 from rfl, ← Nat.pow_mul]
theorem dl_lt (N : Nat) : N < 65536 ^ dl N := by
  rw [pow16]
  exact Nat.lt_of_lt_of_le (lt_bl N) (Nat.pow_le_pow_right (by decide) (by unfold dl; omega))
theorem dl_of (N k : Nat) (h1 : N < 65536 ^ k) (h2 : k = 0 ∨ 65536 ^ (k - 1) ≤ N) : dl N = k := by
  rw [pow16] at h1
  have h3 := bl_le N _ h1
  rcases h2 with h | h
  · subst h; unfold dl; omega
  · rw [pow16] at h
    have h4 := bl_ge N _ h
    unfold dl
    omega
theorem dl_le (N k : Nat) (h : N < 65536 ^ k) : dl N ≤ k := by
  rw [pow16] at h
  have := bl_le N _ h
  unfold dl; omega
theorem dl_ge (N : Nat) (h : 0 < dl N) : 65536 ^ (dl N - 1) ≤ N := by
  rcases Nat.lt_or_ge N (65536 ^ (dl N - 1)) with h1 | h1
  · have := dl_le N _ h1; omega
  · exact h1
theorem dgt_top (N k : Nat) (h : N < 65536 ^ (k + 1)) : dgt N k = N / 65536 ^ k := by
  unfold dgt
  apply Nat.mod_eq_of_lt
  rw [Nat.div_lt_iff_lt_mul (Nat.pow_pos (by decide))]
  rw [Nat.pow_succ] at h
  omega
theorem dgt_high (N k : Nat) (h : N < 65536 ^ k) : dgt N k = 0 := by unfold dgt; rw [Nat.div_eq_of_lt h]
theorem dgt_none (N k i : Nat) (h : N < 65536 ^ k) (hi : k ≤ i) : dgt N i = 0 :=
  dgt_high N i (Nat.lt_of_lt_of_le h (Nat.pow_le_pow_right (by decide) hi))
theorem trim_next (N k : Nat) (h : N < 65536 ^ (k + 1)) (hd : dgt N k = 0) : N < 65536 ^ k := by
  rw [dgt_top N k h, Nat.div_eq_zero_iff] at hd
  have := Nat.pow_pos (n := k) (show 0 < 65536 by decide)
  omega
theorem trim_end (N k : Nat) (h : N < 65536 ^ (k + 1)) (hd : dgt N k ≠ 0) : dl N = k + 1 := by
  apply dl_of N _ h
  right
  rw [dgt_top N k h] at hd
  have : ¬ N < 65536 ^ k := fun h' => hd (Nat.div_eq_of_lt h')
  rw [Nat.add_sub_cancel]
  omega
def dgL (N n : Nat) : List Value := (List.range n).map fun i => .int .i64 ((dgt N i : Nat) : Int)
theorem dgL_len (N n : Nat) : (dgL N n).length = n := by simp [dgL]
theorem dgL_succ (N n : Nat) : dgL N (n + 1) = dgL N n ++ [.int .i64 ((dgt N n : Nat) : Int)] := by simp [dgL, List.range_succ]
theorem dgL_get (N n i : Nat) (h : i < n) : (dgL N n)[i]? = some (.int .i64 ((dgt N i : Nat) : Int)) := by simp [dgL, h]
theorem dgL_take (N n : Nat) : (dgL N (n + 1)).take n = dgL N n := by
  rw [dgL_succ, List.take_left' (dgL_len N n)]
theorem limb_dgt (N k j : Nat) (hj : j < 4) : lmb N k / 65536 ^ j % 65536 = dgt N (4 * k + j) := by
  unfold dgt
  have e : 65536 ^ (4 * k + j) = 2 ^ (64 * k) * 65536 ^ j := by
    rw [Nat.pow_add, pow16, show 16 * (4 * k) = 64 * k by omega]
  rw [e, ← Nat.div_div_eq_div_mul]
  unfold lmb
  generalize N / 2 ^ (64 * k) = x
  have : j = 0 ∨ j = 1 ∨ j = 2 ∨ j = 3 := by omega
  rcases this with rfl | rfl | rfl | rfl <;> omega
/-- The length by digits. -/
theorem len_dgt (N : Nat) (h : 0 < dl N) : bl N = 16 * (dl N - 1) + bl (dgt N (dl N - 1)) := by
  have h1 := dl_lt N
  have h2 := dl_ge N h
  obtain ⟨k, hk⟩ : ∃ k, dl N = k + 1 := ⟨dl N - 1, by omega⟩
  rw [hk] at h1 h2 ⊢
  rw [Nat.add_sub_cancel] at h2 ⊢
  have e := dgt_top N k h1
  rw [e, pow16]
  apply bl_shift
  rw [← pow16]
  intro h0
  rw [Nat.div_eq_zero_iff] at h0
  have := Nat.pow_pos (n := k) (show 0 < 65536 by decide)
  omega
/-- The order by lengths and digits. -/
theorem dl_less (A B : Nat) (h : dl A < dl B) : A < B := by
  have h1 := dl_lt A
  have h2 := dl_ge B (by omega)
  have h3 : 65536 ^ dl A ≤ 65536 ^ (dl B - 1) := Nat.pow_le_pow_right (by decide) (by omega)
  omega
theorem dgt_same (A B k : Nat) (h : A / 65536 ^ (k + 1) = B / 65536 ^ (k + 1)) (hl : dgt A k = dgt B k) : A / 65536 ^ k = B / 65536 ^ k := by
  rw [Nat.pow_succ, ← Nat.div_div_eq_div_mul, ← Nat.div_div_eq_div_mul] at h
  unfold dgt at hl
  omega
theorem dgt_less (A B k : Nat) (h : A / 65536 ^ (k + 1) = B / 65536 ^ (k + 1)) (hl : dgt A k < dgt B k) : A < B := by
  rw [Nat.pow_succ, ← Nat.div_div_eq_div_mul, ← Nat.div_div_eq_div_mul] at h
  unfold dgt at hl
  exact lt_of_div A B (65536 ^ k) (by omega)
/-- Sums by digits. -/
def carryD (A B k : Nat) : Nat := (A % 65536 ^ k + B % 65536 ^ k) / 65536 ^ k
theorem carryD_zero (A B : Nat) : carryD A B 0 = 0 := by simp [carryD, Nat.mod_one]
theorem pos16 (k : Nat) : 0 < 65536 ^ k := Nat.pow_pos (by decide)
theorem carryD_le (A B k : Nat) : carryD A B k ≤ 1 := by
  have h1 := Nat.mod_lt A (pos16 k)
  have h2 := Nat.mod_lt B (pos16 k)
  unfold carryD
  have : (A % 65536 ^ k + B % 65536 ^ k) / 65536 ^ k < 2 := (Nat.div_lt_iff_lt_mul (pos16 k)).2 (by omega)
  omega
theorem mod_dgt (N k : Nat) : N % 65536 ^ (k + 1) = N % 65536 ^ k + 65536 ^ k * dgt N k := by
  rw [Nat.pow_succ, Nat.mod_mul]; rfl
theorem addD_carry (A B k : Nat) : (carryD A B k + dgt A k + dgt B k) / 65536 = carryD A B (k + 1) := by
  unfold carryD
  rw [mod_dgt, mod_dgt]
  generalize hs : A % 65536 ^ k + B % 65536 ^ k = s
  have e : A % 65536 ^ k + 65536 ^ k * dgt A k + (B % 65536 ^ k + 65536 ^ k * dgt B k) = s + 65536 ^ k * (dgt A k + dgt B k) := by rw [Nat.mul_add]; omega
  rw [e, Nat.pow_succ, ← Nat.div_div_eq_div_mul, Nat.add_mul_div_left _ _ (pos16 k), Nat.add_assoc]
theorem addD_dgt (A B k : Nat) : (carryD A B k + dgt A k + dgt B k) % 65536 = dgt (A + B) k := by
  unfold carryD
  have e : A + B = A % 65536 ^ k + B % 65536 ^ k + 65536 ^ k * (A / 65536 ^ k + B / 65536 ^ k) := by
    have h1 := Nat.div_add_mod A (65536 ^ k)
    have h2 := Nat.div_add_mod B (65536 ^ k)
    rw [Nat.mul_add]; omega
  have e2 : (A + B) / 65536 ^ k = (A % 65536 ^ k + B % 65536 ^ k) / 65536 ^ k + (A / 65536 ^ k + B / 65536 ^ k) := by
    conv => lhs; rw [e]
    rw [Nat.add_mul_div_left _ _ (pos16 k)]
  conv => rhs; unfold dgt
  rw [e2]
  unfold dgt
  omega
theorem addD_end (A B k : Nat) (hA : A < 65536 ^ k) (hB : B < 65536 ^ k) (hc : carryD A B k = 0) : A + B < 65536 ^ k := by
  unfold carryD at hc
  rw [Nat.mod_eq_of_lt hA, Nat.mod_eq_of_lt hB, Nat.div_eq_zero_iff] at hc
  have := pos16 k
  omega
end Go.Proofs.Ytcjieaijcjinnaa
