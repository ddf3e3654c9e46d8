/-
  Beside the laws of layer 2: the reference's roots of the eight primes are the initial words. No condition.
-/
import Derived.Test.YtfckjiamcdlfmaaDoorShaWalkI
import Derived.Test.YtfckjiamcdlfmaaDoorShaRefD
namespace Go.Proofs.YtfckjiamcdlfmaaDoor
open Go.RowKit

theorem and7 (a : Int) : ∃ k : Nat, k < 8 ∧ bits .and .i64 a 7 = (k : Int) := by
  refine ⟨(BitVec.ofInt 64 a).toNat &&& 7, Nat.and_lt_two_pow (n := 3) _ (by decide), ?_⟩
  show IntKind.i64.wrap ((BitVec.ofInt 64 a &&& BitVec.ofInt 64 7).toNat : Int) = _
  have h7 : (BitVec.ofInt 64 7).toNat = 7 := by decide
  rw [BitVec.toNat_and, h7]
  have := Nat.and_lt_two_pow (n := 3) (BitVec.ofInt 64 a).toNat (show 7 < 2 ^ 3 by decide)
  exact IntWalk.i64_in _ (by omega)

theorem rootOf (p f : Nat) (W : World) (hp : p < 25) (h : ∀ w, w ≤ 4 → w * w ≤ p → p < (w + 1) * (w + 1) → (rootIt p w 32).2.2 = f) :
    Calls Tryd.prog 17 #[.int .u64 p] W fun e w'' => e = .returned (.int .u32 (f : Nat)) ∧ w'' = W := by
  refine (refRoots_any p W (by omega)).mono fun e w' ⟨⟨w, h1, h2, he⟩, hw⟩ => ⟨?_, hw.symm⟩
  have hw4 : w ≤ 4 := by
    rcases Nat.lt_or_ge 4 w with h5 | h5
    · exfalso
      have : 5 * 5 ≤ w * w := Nat.mul_le_mul h5 h5
      omega
    · exact h5
  rw [he, h w hw4 h1 h2]
def p8 : List Nat := [2, 3, 5, 7, 11, 13, 17, 19]
theorem p8_lt (k : Nat) (hk : k < 8) : p8.getD k 0 < 25 := by
  have : ∀ k, k < 8 → p8.getD k 0 < 25 := by decide
  exact this k hk
theorem p8_roots (k : Nat) (hk : k < 8) : ∀ w, w ≤ 4 → w * w ≤ p8.getD k 0 → p8.getD k 0 < (w + 1) * (w + 1) → (rootIt (p8.getD k 0) w 32).2.2 = first8.getD k 0 := by
  have : ∀ k, k < 8 → ∀ w, w < 5 → w * w ≤ p8.getD k 0 → p8.getD k 0 < (w + 1) * (w + 1) → (rootIt (p8.getD k 0) w 32).2.2 = first8.getD k 0 := by decide +kernel
  exact fun w hw => this k hk w (by omega)
theorem p8_cell (k : Nat) (hk : k < 8) : (#[.int .u64 2, .int .u64 3, .int .u64 5, .int .u64 7, .int .u64 11, .int .u64 13, .int .u64 17, .int .u64 19] : Array Value)[k]? = some (.int .u64 ((p8.getD k 0 : Nat) : Int)) := by
  match k, hk with
  | 0, _ => rfl
  | 1, _ => rfl
  | 2, _ => rfl
  | 3, _ => rfl
  | 4, _ => rfl
  | 5, _ => rfl
  | 6, _ => rfl
  | 7, _ => rfl
end Go.Proofs.YtfckjiamcdlfmaaDoor
