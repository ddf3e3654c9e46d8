/-
  The vector behind a block (nxN its length, nxF its entries), the entry of a level (enF, enB), as functions by index. Plain arithmetic.
-/
import Derived.Test.YtfadcibmkjpjoaaBas
namespace Go.Proofs.Ytfadcibmkjpjoaa
set_option maxRecDepth 4000

def zH : List UInt8 := List.replicate 32 0
theorem zH_length : zH.length = 32 := rfl
def lvlC (a : Int) : Nat := if a < 0 then 0 else if 255 < a then 255 else a.toNat
theorem lvlC_le (a : Int) : lvlC a ≤ 255 := by unfold lvlC; split <;> (try split) <;> omega
def nxN (n L : Nat) : Nat := if n = 0 then 0 else max n (L + 2)
def nxF (F : Nat → List UInt8) (n : Nat) (h : List UInt8) (L i : Nat) : List UInt8 := if i ≤ L ∧ i + 1 < nxN n L then h else if i < n then F i else F (n - 1)
def enB (n : Nat) (a : Int) : Bool := decide (0 ≤ a ∧ 0 < n)
def enF (F : Nat → List UInt8) (n : Nat) (a : Int) : List UInt8 := if 0 ≤ a ∧ 0 < n then F (if a.toNat < n then a.toNat else n - 1) else zH
theorem nxF_length (F : Nat → List UInt8) (n : Nat) (h : List UInt8) (L : Nat) (hF : ∀ i, i < n → (F i).length = 32) (hh : h.length = 32) (hn : 0 < n) (i : Nat) : (nxF F n h L i).length = 32 := by
  unfold nxF
  split
  · exact hh
  split
  · exact hF i (by omega)
  · exact hF _ (by omega)
theorem enF_length (F : Nat → List UInt8) (n : Nat) (a : Int) (hF : ∀ i, i < n → (F i).length = 32) : (enF F n a).length = 32 := by
  unfold enF
  split
  · rename_i h
    split
    · exact hF _ (by omega)
    · exact hF _ (by omega)
  · rfl
theorem nxN_pos (n L : Nat) (hn : 0 < n) : nxN n L = max n (L + 2) := by unfold nxN; rw [if_neg (by omega)]
theorem nx_last (F : Nat → List UInt8) (n : Nat) (h : List UInt8) (L : Nat) (hn : 0 < n) : nxF F n h L (nxN n L - 1) = F (n - 1) := by
  unfold nxF
  rw [nxN_pos n L hn, if_neg (by omega)]
  split
  · congr 1; omega
  · rfl
theorem enF_nat (F : Nat → List UInt8) (n k : Nat) (hn : 0 < n) : enF F n (k : Int) = F (if k < n then k else n - 1) := by
  unfold enF
  rw [if_pos (by omega), Int.toNat_natCast]
/-- The entries up to the block's level are the block. -/
theorem en_low (F : Nat → List UInt8) (n : Nat) (h : List UInt8) (a : Int) (k : Nat) (hn : 0 < n) (hk : (k : Int) ≤ max a 0) (hk2 : k ≤ 255) : enF (nxF F n h (lvlC a)) (nxN n (lvlC a)) (k : Int) = h := by
  have hL : k ≤ lvlC a := by unfold lvlC; split <;> (try split) <;> omega
  have hN := nxN_pos n (lvlC a) hn
  rw [enF_nat _ _ _ (by omega), if_pos (by omega)]
  unfold nxF
  rw [if_pos (by omega)]
/-- The entries above it are as they were. -/
theorem en_high (F : Nat → List UInt8) (n : Nat) (h : List UInt8) (a : Int) (k : Nat) (hn : 0 < n) (hk : (k : Int) > max a 0) (hk2 : k ≤ 256) : enF (nxF F n h (lvlC a)) (nxN n (lvlC a)) (k : Int) = enF F n (k : Int) := by
  have hL : lvlC a < k := by unfold lvlC; split <;> (try split) <;> omega
  have hN := nxN_pos n (lvlC a) hn
  rw [enF_nat _ _ _ (by omega), enF_nat _ _ _ hn]
  by_cases h1 : k < nxN n (lvlC a)
  · rw [if_pos h1]
    unfold nxF
    rw [if_neg (by omega)]
    by_cases h2 : k < n
    · rw [if_pos h2, if_pos h2]
    · rw [if_neg h2, if_neg h2]
  · rw [if_neg h1, if_neg (by omega), nx_last F n h _ hn]
end Go.Proofs.Ytfadcibmkjpjoaa
