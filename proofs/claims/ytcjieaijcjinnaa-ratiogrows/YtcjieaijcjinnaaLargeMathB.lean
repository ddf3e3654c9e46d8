/-
  Products by digits of 16 bits, powers of 2, and decimal digits by quotients of digits. Plain arithmetic.
-/
import Derived.Test.YtcjieaijcjinnaaLargeMath
namespace Go.Proofs.Ytcjieaijcjinnaa

/-- L cells of a row of digits. -/
def rC (L : Nat) (f : Nat → Nat) : Array Value := ((List.range L).map fun j => Value.int .i64 ((f j : Nat) : Int)).toArray
theorem rC_size (L : Nat) (f : Nat → Nat) : (rC L f).size = L := by simp [rC]
theorem rC_get (L : Nat) (f : Nat → Nat) (i : Nat) (h : i < L) : (rC L f)[i]? = some (.int .i64 ((f i : Nat) : Int)) := by simp [rC, h]
theorem rC_congr {L : Nat} {f g : Nat → Nat} (h : ∀ j, j < L → f j = g j) : rC L f = rC L g := by
  unfold rC
  congr 1
  apply List.map_congr_left
  intro j hj
  rw [h j (by simpa using hj)]
theorem rC_set {L : Nat} {f g : Nat → Nat} (q : Nat) (v : Int) (hv : v = g q) (h : ∀ j, j < L → j ≠ q → f j = g j) : (rC L f).setIfInBounds q (.int .i64 v) = rC L g := by
  subst hv
  apply Array.ext
  · simp [rC]
  · intro i h1 h2
    have hi : i < L := by simpa [rC] using h2
    rw [Array.getElem_setIfInBounds (by simpa [rC] using h2)]
    by_cases e : q = i
    · subst e; simp [rC]
    · simp only [e, if_false, rC, List.getElem_toArray, List.getElem_map, List.getElem_range]
      rw [h i hi (fun h => e h.symm)]

theorem dgt_zero (j : Nat) : dgt 0 j = 0 := by simp [dgt]
theorem dgt_add_mul (X Y m j : Nat) (h : j < m) : dgt (X + 65536 ^ m * Y) j = dgt X j := by
  unfold dgt
  have e : 65536 ^ m * Y = 65536 ^ j * (65536 * (65536 ^ (m - j - 1) * Y)) := by
    rw [← Nat.mul_assoc 65536, ← Nat.mul_assoc, ← Nat.pow_succ', ← Nat.pow_add]
    congr 2
    omega
  rw [e, Nat.add_mul_div_left _ _ (pos16 j), Nat.add_mul_mod_self_left]
theorem dgt_mod (P i j : Nat) (h : j < i) : dgt (P % 65536 ^ i) j = dgt P j := by
  have := dgt_add_mul (P % 65536 ^ i) (P / 65536 ^ i) i j h
  rw [Nat.mod_add_div] at this
  exact this.symm

/-- What lies below the place i + k behind k rounds of row i. -/
def mulS (P i a B k : Nat) : Nat := P % 65536 ^ (i + k) + 65536 ^ i * (a * (B % 65536 ^ k))
def mulC (P i a B k : Nat) : Nat := mulS P i a B k / 65536 ^ (i + k)
def mixD (S P m j : Nat) : Nat := if j < m then dgt S j else dgt P j
theorem mulC_zero (P i a B : Nat) : mulC P i a B 0 = 0 := by
  unfold mulC mulS
  rw [Nat.pow_zero, Nat.mod_one, Nat.mul_zero, Nat.mul_zero, Nat.add_zero, Nat.add_zero]
  exact Nat.div_eq_of_lt (Nat.mod_lt _ (pos16 i))
theorem mulS_succ (P i a B k : Nat) : mulS P i a B (k + 1) = mulS P i a B k + 65536 ^ (i + k) * (dgt P (i + k) + a * dgt B k) := by
  unfold mulS
  rw [← Nat.add_assoc, mod_dgt P (i + k), mod_dgt B k, Nat.mul_add a, Nat.mul_add (65536 ^ i), Nat.mul_add (65536 ^ (i + k))]
  have e : 65536 ^ i * (a * (65536 ^ k * dgt B k)) = 65536 ^ (i + k) * (a * dgt B k) := by
    rw [Nat.pow_add, Nat.mul_left_comm a, Nat.mul_assoc]
  rw [e]
  omega
theorem mulS_quo (P i a B k : Nat) : mulS P i a B (k + 1) / 65536 ^ (i + k) = dgt P (i + k) + mulC P i a B k + a * dgt B k := by
  rw [mulS_succ, Nat.add_mul_div_left _ _ (pos16 _)]
  unfold mulC
  omega
theorem mulS_dgt (P i a B k : Nat) : (dgt P (i + k) + mulC P i a B k + a * dgt B k) % 65536 = dgt (mulS P i a B (k + 1)) (i + k) := by
  rw [← mulS_quo]; rfl
theorem mulC_succ (P i a B k : Nat) : (dgt P (i + k) + mulC P i a B k + a * dgt B k) / 65536 = mulC P i a B (k + 1) := by
  rw [← mulS_quo, Nat.div_div_eq_div_mul, ← Nat.pow_succ]; rfl
theorem mulC_le (P i a B k : Nat) : mulC P i a B k ≤ a := by
  unfold mulC mulS
  have h1 := Nat.mod_lt P (pos16 (i + k))
  have h2 := Nat.mod_lt B (pos16 k)
  have h3 : 65536 ^ i * (a * (B % 65536 ^ k)) ≤ 65536 ^ (i + k) * a := by
    rw [Nat.pow_add, Nat.mul_assoc, Nat.mul_comm (65536 ^ k)]
    exact Nat.mul_le_mul_left _ (Nat.mul_le_mul_left _ (Nat.le_of_lt h2))
  apply Nat.le_of_lt_succ
  rw [Nat.div_lt_iff_lt_mul (pos16 _), Nat.succ_mul, Nat.mul_comm a (65536 ^ (i + k))]
  generalize 65536 ^ i * (a * (B % 65536 ^ k)) = x at *
  generalize 65536 ^ (i + k) * a = y at *
  omega
theorem mix_step (P i a B k j : Nat) (hj : j ≠ i + k) : mixD (mulS P i a B k) P (i + k) j = mixD (mulS P i a B (k + 1)) P (i + k + 1) j := by
  unfold mixD
  by_cases h : j < i + k
  · rw [if_pos h, if_pos (by omega), mulS_succ, dgt_add_mul _ _ _ _ h]
  · rw [if_neg h, if_neg (by omega)]
theorem mix_zero (P i a B j : Nat) : mixD (mulS P i a B 0) P (i + 0) j = dgt P j := by
  unfold mixD
  split
  · next h =>
    unfold mulS
    rw [Nat.pow_zero, Nat.mod_one, Nat.mul_zero, Nat.mul_zero, Nat.add_zero, Nat.add_zero]
    exact dgt_mod P i j h
  · rfl
/-- The product of the first i digits. -/
def rowP (A B i : Nat) : Nat := A % 65536 ^ i * B
theorem rowP_zero (A B : Nat) : rowP A B 0 = 0 := by simp [rowP, Nat.mod_one]
theorem rowP_lt (A B i l : Nat) (hB : B < 65536 ^ l) : rowP A B i < 65536 ^ (i + l) := by
  have h1 := Nat.mod_lt A (pos16 i)
  unfold rowP
  rw [Nat.pow_add]
  exact Nat.mul_lt_mul'' h1 hB
theorem mulS_end (A B i k l : Nat) (hB : B < 65536 ^ l) (hk : l ≤ k) : mulS (rowP A B i) i (dgt A i) B k = rowP A B (i + 1) := by
  have h1 : rowP A B i < 65536 ^ (i + k) := Nat.lt_of_lt_of_le (rowP_lt A B i l hB) (Nat.pow_le_pow_right (by decide) (by omega))
  have h2 : B < 65536 ^ k := Nat.lt_of_lt_of_le hB (Nat.pow_le_pow_right (by decide) hk)
  unfold mulS
  rw [Nat.mod_eq_of_lt h1, Nat.mod_eq_of_lt h2]
  unfold rowP
  rw [mod_dgt, Nat.add_mul, Nat.mul_assoc]
theorem mulC_end (A B i l : Nat) (hB : B < 65536 ^ l) : mulC (rowP A B i) i (dgt A i) B (l + 1) = 0 := by
  unfold mulC
  rw [mulS_end A B i (l + 1) l hB (by omega)]
  apply Nat.div_eq_of_lt
  have := rowP_lt A B (i + 1) l hB
  rwa [show i + 1 + l = i + (l + 1) by omega] at this
theorem mix_end (A B i k l j : Nat) (hB : B < 65536 ^ l) (hk : l ≤ k) (hc : mulC (rowP A B i) i (dgt A i) B k = 0) :
    mixD (mulS (rowP A B i) i (dgt A i) B k) (rowP A B i) (i + k) j = dgt (rowP A B (i + 1)) j := by
  unfold mulC at hc
  rw [mulS_end A B i k l hB hk] at hc ⊢
  unfold mixD
  split
  · rfl
  · next h =>
    have h1 : rowP A B i < 65536 ^ (i + k) := Nat.lt_of_lt_of_le (rowP_lt A B i l hB) (Nat.pow_le_pow_right (by decide) (by omega))
    have h2 : rowP A B (i + 1) < 65536 ^ (i + k) := by
      rw [Nat.div_eq_zero_iff] at hc
      have := pos16 (i + k)
      omega
    rw [dgt_none _ _ _ h1 (by omega), dgt_none _ _ _ h2 (by omega)]
theorem rowP_full (A B l : Nat) (hA : A < 65536 ^ l) : rowP A B l = A * B := by unfold rowP; rw [Nat.mod_eq_of_lt hA]

/-! ### Powers of 2 -/
theorem pow_split (n : Nat) : 2 ^ n = 65536 ^ (n / 16) * 2 ^ (n % 16) := by
  rw [pow16, ← Nat.pow_add]; congr 1; omega
theorem dl_pow (n : Nat) : dl (2 ^ n) = n / 16 + 1 := by
  have h : bl (2 ^ n) = n + 1 := bl_of (2 ^ n) n (Nat.le_refl _) (Nat.pow_lt_pow_right (by decide) (by omega))
  unfold dl
  rw [h]
  omega
theorem dgt_pow_low (n j : Nat) (h : j < n / 16) : dgt (2 ^ n) j = 0 := by
  rw [pow_split, ← Nat.zero_add (65536 ^ (n / 16) * _), dgt_add_mul _ _ _ _ h, dgt_zero]
theorem dgt_pow_top (n : Nat) : dgt (2 ^ n) (n / 16) = 2 ^ (n % 16) := by
  unfold dgt
  conv => lhs; rw [pow_split]
  rw [Nat.mul_div_cancel_left _ (pos16 _)]
  apply Nat.mod_eq_of_lt
  exact Nat.pow_lt_pow_right (by decide : 1 < 2) (by omega : n % 16 < 16)
end Go.Proofs.Ytcjieaijcjinnaa
