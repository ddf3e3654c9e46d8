/-
  The shape of trees as mathematics: leftN n (the leaves on the left side), dn n i (the path down to leaf i of n), sidesN n i (the path up); its length, and that different leaves have different paths.
-/
import Derived.Test.YtggpjhldmaflaaaProg
namespace Go.Proofs.Ytggpjhldmaflaaa
set_option maxRecDepth 4000

/-- The greatest power of two below n (0 where there is none). -/
def leftN (n : Nat) : Nat := if n < 2 then 0 else 2 ^ Nat.log2 (n - 1)
theorem leftN_two {n : Nat} (h : 2 ≤ n) : leftN n = 2 ^ Nat.log2 (n - 1) := by rw [leftN, if_neg (by omega)]
theorem leftN_pos {n : Nat} (h : 2 ≤ n) : 0 < leftN n := by rw [leftN_two h]; exact Nat.pow_pos (by decide)
theorem leftN_lt {n : Nat} (h : 2 ≤ n) : leftN n < n := by
  rw [leftN_two h]; have := Nat.log2_self_le (n := n - 1) (by omega); omega
theorem leftN_double {n : Nat} (h : 2 ≤ n) : n ≤ 2 * leftN n := by
  rw [leftN_two h]
  have := Nat.lt_log2_self (n := n - 1)
  rw [Nat.pow_succ] at this
  omega
theorem leftN_small {n : Nat} (h : n < 2) : leftN n = 0 := by rw [leftN, if_pos h]
theorem leftN_eq {n j : Nat} (h1 : 2 ^ j < n) (h2 : n ≤ 2 * 2 ^ j) : leftN n = 2 ^ j := by
  have hp : 0 < 2 ^ j := Nat.pow_pos (by decide)
  rw [leftN_two (by omega)]
  have : Nat.log2 (n - 1) = j := by
    rw [Nat.log2_eq_iff (by omega), Nat.pow_succ]; omega
  rw [this]

/-- The path down to leaf i of n: does each step lead to the right side? -/
def dn (n i : Nat) : List Bool :=
  if _h : n < 2 then []
  else if i < leftN n then false :: dn (leftN n) i else true :: dn (n - leftN n) (i - leftN n)
termination_by n
decreasing_by
  · exact leftN_lt (by omega)
  · have := leftN_pos (n := n) (by omega); omega
theorem dn_one {n : Nat} (i : Nat) (h : n < 2) : dn n i = [] := by rw [dn, dif_pos h]
theorem dn_left {n i : Nat} (h : 2 ≤ n) (hi : i < leftN n) : dn n i = false :: dn (leftN n) i := by rw [dn, dif_neg (by omega), if_pos hi]
theorem dn_right {n i : Nat} (h : 2 ≤ n) (hi : leftN n ≤ i) : dn n i = true :: dn (n - leftN n) (i - leftN n) := by rw [dn, dif_neg (by omega), if_neg (by omega)]
/-- The path up: the lowest step first. -/
def sidesN (n i : Nat) : List Bool := (dn n i).reverse
theorem sidesN_length (n i : Nat) : (sidesN n i).length = (dn n i).length := by simp [sidesN]
theorem sidesN_one {n : Nat} (i : Nat) (h : n < 2) : sidesN n i = [] := by simp [sidesN, dn_one i h]
theorem sidesN_left {n i : Nat} (h : 2 ≤ n) (hi : i < leftN n) : sidesN n i = sidesN (leftN n) i ++ [false] := by simp [sidesN, dn_left h hi]
theorem sidesN_right {n i : Nat} (h : 2 ≤ n) (hi : leftN n ≤ i) : sidesN n i = sidesN (n - leftN n) (i - leftN n) ++ [true] := by simp [sidesN, dn_right h hi]

theorem dn_len (k : Nat) : ∀ (n i : Nat), n ≤ 2 ^ k → (dn n i).length ≤ k := by
  induction k with
  | zero => intro n i h; rw [dn_one i (by simp at h; omega)]; simp
  | succ k ih =>
    intro n i h
    by_cases h2 : n < 2
    · rw [dn_one i h2]; simp
    · have hl : leftN n ≤ 2 ^ k := by
        rw [leftN_two (by omega)]
        have h1 := Nat.log2_self_le (n := n - 1) (by omega)
        have : 2 ^ Nat.log2 (n - 1) < 2 ^ (k + 1) := by omega
        have := (Nat.pow_lt_pow_iff_right (by decide : 1 < 2)).1 this
        exact Nat.pow_le_pow_right (by decide) (by omega)
      have hd := leftN_double (n := n) (by omega)
      by_cases hi : i < leftN n
      · rw [dn_left (by omega) hi]; simp; exact ih _ _ hl
      · rw [dn_right (by omega) (by omega)]; simp; exact ih _ _ (by omega)
theorem dn_len63 {n : Nat} (i : Nat) (h : n ≤ 9223372036854775808) : (dn n i).length ≤ 63 := dn_len 63 n i h

theorem dn_inj (n : Nat) : ∀ (i k : Nat), i < n → k < n → dn n i = dn n k → i = k := by
  induction n using Nat.strongRecOn with
  | _ n ih =>
    intro i k hi hk he
    by_cases h2 : n < 2
    · omega
    · have hp := leftN_pos (n := n) (by omega)
      have hlt := leftN_lt (n := n) (by omega)
      rcases Nat.lt_or_ge i (leftN n) with h | h <;> rcases Nat.lt_or_ge k (leftN n) with h' | h'
      · rw [dn_left (by omega) h, dn_left (by omega) h'] at he
        exact ih _ hlt i k h h' (by simpa using he)
      · rw [dn_left (by omega) h, dn_right (by omega) h'] at he; simp at he
      · rw [dn_right (by omega) h, dn_left (by omega) h'] at he; simp at he
      · rw [dn_right (by omega) h, dn_right (by omega) h'] at he
        have := ih (n - leftN n) (by omega) (i - leftN n) (k - leftN n) (by omega) (by omega) (by simpa using he)
        omega
theorem sidesN_inj {n i k : Nat} (hi : i < n) (hk : k < n) (h : sidesN n i = sidesN n k) : i = k := dn_inj n i k hi hk (by simpa [sidesN] using h)

/-! Over Go's integers. -/
def leftI (n : Int) : Nat := leftN n.toNat
def sidesI (n i : Int) : List Bool := if 0 ≤ i ∧ i < n then sidesN n.toNat i.toNat else []
def depthI (n i : Int) : Int := if 0 ≤ i ∧ i < n then ((sidesN n.toNat i.toNat).length : Int) else -1

theorem leftN5 : leftN 5 = 4 := leftN_eq (j := 2) (by decide) (by decide)
theorem leftN4 : leftN 4 = 2 := leftN_eq (j := 1) (by decide) (by decide)
theorem leftN2 : leftN 2 = 1 := leftN_eq (j := 0) (by decide) (by decide)
theorem sides54 : sidesN 5 4 = [true] := by
  rw [sidesN_right (by decide) (by rw [leftN5]; decide), leftN5, sidesN_one _ (by decide)]; rfl
theorem sides51 : sidesN 5 1 = [true, false, false] := by
  rw [sidesN_left (by decide) (by rw [leftN5]; decide), leftN5, sidesN_left (by decide) (by rw [leftN4]; decide), leftN4, sidesN_right (by decide) (by rw [leftN2]; decide), leftN2, sidesN_one _ (by decide)]; rfl
end Go.Proofs.Ytggpjhldmaflaaa
