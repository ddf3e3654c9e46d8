/-
  The leaf of an id (linkS); slices of strings as values (SSl). Plain arithmetic.
-/
import Derived.Test.YtlfkkfacbcpogaaDoorTxsLib
import Derived.Test.YtlfkkfacbcpogaaDoorTre
namespace Go.Proofs.YtlfkkfacbcpogaaDoor
set_option maxRecDepth 4000
open Go.RowKit

def linkS (l : List UInt8) : ByteArray := (⟨#[76]⟩ : ByteArray) ++ hS l
theorem linkS_size (l : List UInt8) (hl : l.length = 32) : (linkS l).size = 33 := by
  rw [linkS, ByteArray.size_append, hS_size, hl]; rfl
theorem linkS_inj (a b : List UInt8) : linkS a = linkS b ↔ a = b := by
  constructor
  · intro h
    have := congrArg (fun s : ByteArray => s.data.toList) h
    simp only [linkS, ByteArray.data_append, hS] at this
    simpa using this
  · rintro rfl; rfl
def lkS (F : Nat → List UInt8) (i : Nat) : ByteArray := linkS (F i)
/-- A slice of n strings, as a value. -/
def SSl (n : Nat) (S : Nat → ByteArray) (v : Value) (w : World) : Prop := ∃ p c, v = .slice p n c ∧ n ≤ c ∧ c ≤ maxLen ∧ SAt w p n S
theorem SSl.kept (n : Nat) (S : Nat → ByteArray) (v : Value) (w w' : World) (K : Kept w w') (h : SSl n S v w) : SSl n S v w' := by
  obtain ⟨p, c, hv, h1, h2, h3⟩ := h
  exact ⟨p, c, hv, h1, h2, h3.kept K⟩
def sL (S : Nat → ByteArray) (k : Nat) : List ByteArray := (List.range k).map S
theorem sL_length (S : Nat → ByteArray) (k : Nat) : (sL S k).length = k := by simp [sL]
theorem sL_succ (S : Nat → ByteArray) (k : Nat) : sL S (k + 1) = sL S k ++ [S k] := by simp [sL, List.range_succ]
theorem SSl.ofTx {base n : Nat} {S : Nat → ByteArray} {v : Value} {w : World} (h : TxS base (sL S n) v w) : SSl n S v w := by
  by_cases h0 : n = 0
  · subst h0
    rcases h.2 with ⟨rfl, _⟩ | ⟨g, cap, cur, rfl, hb, hg, h1, h2, h3, h4⟩
    · exact ⟨none, 0, rfl, Nat.le_refl _, Nat.zero_le _, SAt.zero _ _ _⟩
    · rw [sL_length] at h1
      exact ⟨_, _, rfl, h1, h2, SAt.zero _ _ _⟩
  · obtain ⟨q, cap, rfl, h1, h2, h3⟩ := h.sat (by rw [sL_length]; omega)
    rw [sL_length] at h1 h3 ⊢
    refine ⟨_, _, rfl, h1, h2, fun i hi => ?_⟩
    obtain ⟨a, ha, hb, hc⟩ := h3 i hi
    have e : (sL S n).getD i noB = S i := by simp [sL, List.getD_eq_getElem?_getD, hi]
    refine ⟨a, ha, hb, ?_⟩
    rw [← e]
    exact hc
end Go.Proofs.YtlfkkfacbcpogaaDoor
