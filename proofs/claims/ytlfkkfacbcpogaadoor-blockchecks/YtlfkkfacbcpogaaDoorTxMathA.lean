/-
  The leaf of a transaction (txS), whether transactions are valid (mayT), how much a law's transactions are (smT). Plain arithmetic.
-/
import Derived.Test.YtlfkkfacbcpogaaDoorLinkMath
namespace Go.Proofs.YtlfkkfacbcpogaaDoor
set_option maxRecDepth 4000
open Go.RowKit

def txS (s : ByteArray) : ByteArray := (⟨#[84]⟩ : ByteArray) ++ s
theorem txS_size (s : ByteArray) : (txS s).size = s.size + 1 := by
  rw [txS, ByteArray.size_append]; show 1 + s.size = _; omega
def tkS (S : Nat → ByteArray) (i : Nat) : ByteArray := txS (S i)
theorem tx_link (s : ByteArray) (l : List UInt8) : ¬ txS s = linkS l := by
  intro h
  have := congrArg (fun s : ByteArray => s.data.toList.head?) h
  simp [txS, linkS, ByteArray.data_append] at this
def bigT (S : Nat → ByteArray) (n : Nat) : Bool := (List.range n).any fun i => decide (4096 < (S i).size)
theorem bigT_no {S : Nat → ByteArray} {n : Nat} : bigT S n = false ↔ ∀ i, i < n → (S i).size ≤ 4096 := by
  unfold bigT
  rw [List.any_eq_false]
  constructor
  · intro h i hi
    have := h i (List.mem_range.2 hi)
    simpa using this
  · intro h i hi
    have := h i (List.mem_range.1 hi)
    simpa using this
theorem bigT_yes {S : Nat → ByteArray} {n : Nat} (i : Nat) (hi : i < n) (h : 4096 < (S i).size) : bigT S n = true := by
  unfold bigT
  rw [List.any_eq_true]
  exact ⟨i, List.mem_range.2 hi, by simpa using h⟩
def mayT (S : Nat → ByteArray) (n : Nat) : Int := if 1024 < n ∨ bigT S n = true then 4 else 0
theorem mayT_zero {S : Nat → ByteArray} {n : Nat} : mayT S n = 0 ↔ n ≤ 1024 ∧ ∀ i, i < n → (S i).size ≤ 4096 := by
  unfold mayT
  by_cases h : 1024 < n ∨ bigT S n = true
  · rw [if_pos h]
    refine ⟨fun h2 => absurd h2 (by decide), fun h2 => ?_⟩
    rcases h with h | h
    · omega
    · rw [bigT_no.2 h2.2] at h; cases h
  · rw [if_neg h]
    refine ⟨fun _ => ⟨by omega, bigT_no.1 ?_⟩, fun _ => rfl⟩
    cases hb : bigT S n with
    | false => rfl
    | true => exact absurd (.inr hb) h
/-- The total of the first k strings, one more each, as far as it is reckoned. -/
def smT (S : Nat → ByteArray) : Nat → Nat
  | 0 => 0
  | k + 1 => min (smT S k + 1 + (S k).size) 1048576
theorem smT_le (S : Nat → ByteArray) (k : Nat) : smT S k ≤ 1048576 := by
  cases k with
  | zero => exact Nat.zero_le _
  | succ k => exact Nat.min_le_right _ _
theorem smT_mono (S : Nat → ByteArray) {k : Nat} : ∀ n, k ≤ n → smT S k ≤ smT S n := by
  intro n h
  induction n with
  | zero => obtain rfl : k = 0 := by omega
            exact Nat.le_refl _
  | succ n ih =>
    rcases Nat.lt_or_eq_of_le h with h1 | h1
    · have h2 := ih (by omega)
      have h3 := smT_le S n
      show smT S k ≤ min (smT S n + 1 + (S n).size) 1048576
      omega
    · subst h1; exact Nat.le_refl _
theorem smT_small (S : Nat → ByteArray) (n i : Nat) (hi : i < n) (h : smT S n ≤ 6000) : (S i).size ≤ 6000 := by
  have h1 := smT_mono S n (show i + 1 ≤ n by omega)
  have h2 : smT S (i + 1) = min (smT S i + 1 + (S i).size) 1048576 := rfl
  omega
end Go.Proofs.YtlfkkfacbcpogaaDoor
