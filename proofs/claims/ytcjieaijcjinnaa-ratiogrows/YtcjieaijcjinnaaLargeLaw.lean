/-
  What the laws of layer 5 start from: five limbs are a number below 2^320.
-/
import Derived.Test.YtcjieaijcjinnaaLargeWalkG
import Derived.Test.YtcjieaijcjinnaaLawLib
import Derived.Test.YtcjieaijcjinnaaLateLib
namespace Go.Proofs.Ytcjieaijcjinnaa
open Go.RowKit

theorem limbs_num (l : List Nat) (h : l.length = 5) (hb : ∀ x ∈ l, x < 18446744073709551616) : ∃ N, N < 2 ^ 320 ∧ qC 5 l = lC N 5 := by
  match l, h with
  | [a, b, c, d, e], _ =>
    have ha := hb a (by simp)
    have hb1 := hb b (by simp)
    have hc := hb c (by simp)
    have hd := hb d (by simp)
    have he := hb e (by simp)
    clear hb
    refine ⟨a + 2 ^ 64 * b + 2 ^ 128 * c + 2 ^ 192 * d + 2 ^ 256 * e, by omega, ?_⟩
    have h0 : lmb (a + 2 ^ 64 * b + 2 ^ 128 * c + 2 ^ 192 * d + 2 ^ 256 * e) 0 = a := by simp only [lmb]; omega
    have h1 : lmb (a + 2 ^ 64 * b + 2 ^ 128 * c + 2 ^ 192 * d + 2 ^ 256 * e) 1 = b := by simp only [lmb]; omega
    have h2 : lmb (a + 2 ^ 64 * b + 2 ^ 128 * c + 2 ^ 192 * d + 2 ^ 256 * e) 2 = c := by simp only [lmb]; omega
    have h3 : lmb (a + 2 ^ 64 * b + 2 ^ 128 * c + 2 ^ 192 * d + 2 ^ 256 * e) 3 = d := by simp only [lmb]; omega
    have h4 : lmb (a + 2 ^ 64 * b + 2 ^ 128 * c + 2 ^ 192 * d + 2 ^ 256 * e) 4 = e := by simp only [lmb]; omega
    generalize a + 2 ^ 64 * b + 2 ^ 128 * c + 2 ^ 192 * d + 2 ^ 256 * e = M at h0 h1 h2 h3 h4
    simp [qC, lC, List.range, List.range.loop, h0, h1, h2, h3, h4]
end Go.Proofs.Ytcjieaijcjinnaa
