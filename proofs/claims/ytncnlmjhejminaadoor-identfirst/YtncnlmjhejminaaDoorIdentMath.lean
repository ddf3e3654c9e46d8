/-
  The id of a header (idH), the first index of a hash among others (fstL). Plain arithmetic.
-/
import Derived.Test.YtncnlmjhejminaaDoorHeadMath
import Derived.Test.YtncnlmjhejminaaDoorSha
import Derived.Test.YtncnlmjhejminaaDoorTag
namespace Go.Proofs.YtncnlmjhejminaaDoor
set_option maxRecDepth 4000

def idH (x : Hd) : List UInt8 := shaL (headS (hdS x))
theorem idH_length (x : Hd) : (idH x).length = 32 := shaL_length _
theorem headS_size (x : Hd) (hx : x.ok) : (headS (hdS x)).size = 77 := by rw [headS, tagS_size, hdS_size x hx]
theorem headS_inj (x y : Hd) (hx : x.ok) (hy : y.ok) : headS (hdS x) = headS (hdS y) ↔ x = y := by rw [headS, headS, tagS_inj, hdS_inj x y hx hy]
/-- The first of the n indices from s on. -/
def fiN (F : Nat → List UInt8) (l : List UInt8) : Nat → Nat → Int
  | 0, _ => -1
  | n + 1, s => if F s = l then (s : Int) else fiN F l n (s + 1)
def fstL (F : Nat → List UInt8) (n : Nat) (l : List UInt8) : Int := fiN F l n 0
theorem fiN_from (F : Nat → List UInt8) (l : List UInt8) : ∀ n s k, s ≤ k → k < s + n → (∀ i, s ≤ i → i < k → F i ≠ l) → F k = l → fiN F l n s = (k : Int)
  | 0, s, k, h1, h2, _, _ => by omega
  | n + 1, s, k, h1, h2, h3, h4 => by
    unfold fiN
    by_cases e : s = k
    · subst e; rw [if_pos h4]
    · rw [if_neg (h3 s (Nat.le_refl _) (by omega))]
      exact fiN_from F l n (s + 1) k (by omega) (by omega) (fun i a b => h3 i (by omega) b) h4
theorem fiN_none (F : Nat → List UInt8) (l : List UInt8) : ∀ n s, (∀ i, s ≤ i → i < s + n → F i ≠ l) → fiN F l n s = -1
  | 0, _, _ => rfl
  | n + 1, s, h => by
    unfold fiN
    rw [if_neg (h s (Nat.le_refl _) (by omega))]
    exact fiN_none F l n (s + 1) fun i a b => h i (by omega) (by omega)
theorem fstL_at (F : Nat → List UInt8) (n : Nat) (l : List UInt8) (k : Nat) (hk : k < n) (h : ∀ i, i < k → F i ≠ l) (e : F k = l) : fstL F n l = (k : Int) :=
  fiN_from F l n 0 k (Nat.zero_le _) (by omega) (fun i _ b => h i b) e
theorem fstL_none (F : Nat → List UInt8) (n : Nat) (l : List UInt8) (h : ∀ i, i < n → F i ≠ l) : fstL F n l = -1 := fiN_none F l n 0 fun i _ b => h i (by omega)
theorem fstL_bounds (F : Nat → List UInt8) (l : List UInt8) : ∀ n s, -1 ≤ fiN F l n s ∧ fiN F l n s < (s : Int) + n
  | 0, s => by unfold fiN; omega
  | n + 1, s => by
    unfold fiN
    have := fstL_bounds F l n (s + 1)
    split <;> omega
/-- Two headers whose ids differ. -/
def hdN1 : Hd := ⟨0, List.replicate 32 0, List.replicate 32 0, 1⟩
theorem hdN1_ok : hdN1.ok := ⟨by show 0 < 4294967296; omega, rfl, rfl, by show 1 < 18446744073709551616; omega⟩
theorem id_apart : idH hdZ ≠ idH hdN1 := by decide +kernel
end Go.Proofs.YtncnlmjhejminaaDoor
