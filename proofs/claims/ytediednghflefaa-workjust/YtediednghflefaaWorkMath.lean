/-
  The level of an id by a target (lvl): the greatest power of two by which the target may be divided; and what tells it. Plain arithmetic.
-/
import Derived.Test.YtediednghflefaaWideMath
namespace Go.Proofs.Ytediednghflefaa
set_option maxRecDepth 4000

def lvF (A T : Nat) : Nat → Nat → Nat
  | 0, n => n
  | f + 1, n => if A ≤ T / 2 ^ n then lvF A T f (n + 1) else n
theorem lvF_ge (A T : Nat) : ∀ f n, n ≤ lvF A T f n ∧ lvF A T f n ≤ n + f
  | 0, n => ⟨Nat.le_refl _, Nat.le_refl _⟩
  | f + 1, n => by
    have h := lvF_ge A T f (n + 1)
    unfold lvF
    split
    · omega
    · omega
theorem lvF_below (A T : Nat) : ∀ f n m, n ≤ m → m < lvF A T f n → A ≤ T / 2 ^ m
  | 0, n, m, h1, h2 => by simp only [lvF] at h2; omega
  | f + 1, n, m, h1, h2 => by
    unfold lvF at h2
    split at h2
    · rename_i h
      by_cases e : m = n
      · subst e; exact h
      · exact lvF_below A T f (n + 1) m (by omega) h2
    · omega
theorem lvF_stop (A T : Nat) : ∀ f n, lvF A T f n < n + f → ¬ A ≤ T / 2 ^ lvF A T f n
  | 0, n, h => by simp only [lvF] at h; omega
  | f + 1, n, h => by
    unfold lvF at h ⊢
    split
    · rename_i h1
      rw [if_pos h1] at h
      exact lvF_stop A T f (n + 1) (by omega)
    · assumption
def lvl (A T : Nat) : Int := (lvF A T 256 0 : Int) - 1
theorem lvl_bounds (A T : Nat) : -1 ≤ lvl A T ∧ lvl A T ≤ 255 := by
  have := lvF_ge A T 256 0
  unfold lvl
  omega
theorem lvl_eq (A T k : Nat) (hk : k ≤ 256) (h1 : ∀ m, m < k → A ≤ T / 2 ^ m) (h2 : k < 256 → ¬ A ≤ T / 2 ^ k) : lvl A T = (k : Int) - 1 := by
  have hb := lvF_ge A T 256 0
  unfold lvl
  rcases Nat.lt_trichotomy (lvF A T 256 0) k with h | h | h
  · exact absurd (h1 _ h) (lvF_stop A T 256 0 (by omega))
  · rw [h]
  · exact absurd (lvF_below A T 256 0 k (Nat.zero_le _) h) (h2 (by omega))
theorem lvl_just (A T L : Nat) (hL : L ≤ 255) : A ≤ T / 2 ^ L ↔ (L : Int) ≤ lvl A T := by
  have hb := lvF_ge A T 256 0
  unfold lvl
  constructor
  · intro h
    apply Classical.byContradiction
    intro hn
    have hlt : lvF A T 256 0 ≤ L := by omega
    have hs := lvF_stop A T 256 0 (by omega)
    have : T / 2 ^ L ≤ T / 2 ^ lvF A T 256 0 := Nat.div_le_div_left (Nat.pow_le_pow_right (by decide) hlt) (Nat.pow_pos (by decide))
    omega
  · intro h
    exact lvF_below A T 256 0 L (Nat.zero_le _) (by omega)
theorem lvl_ok (A T : Nat) : decide (A ≤ T) = decide (0 ≤ lvl A T) := by
  have := lvl_just A T 0 (by omega)
  rw [Nat.pow_zero, Nat.div_one] at this
  exact decide_eq_decide.2 (by simpa using this)
theorem cmp_le (A B : Nat) : decide (cmpN A B ≤ 0) = decide (A ≤ B) := by
  unfold cmpN
  apply decide_eq_decide.2
  split
  · omega
  · split <;> omega
theorem shr_nat (N k : Nat) : shr256 N (k : Int) = N / 2 ^ k := by unfold shr256; rw [Int.toNat_natCast]
end Go.Proofs.Ytediednghflefaa
