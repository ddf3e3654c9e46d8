/-
  What LargeTells needs of the decimal digits: the bytes of a text, and how they give the number back.
-/
import Derived.Test.YtcjieaijcjinnaaLargeLaw
import Derived.Test.YtcjieaijcjinnaaLargeRefD
namespace Go.Proofs.Ytcjieaijcjinnaa
open Go.RowKit

theorem txt_size (N : Nat) : (txt N).size = dn N := by simp [txt, ByteArray.size, digL_len]
theorem dn_le (k N : Nat) (h : N < 10 ^ (k + 1)) : dn N ≤ k + 1 := by
  induction k generalizing N with
  | zero => rw [dn, dif_pos (by simpa using h)]; omega
  | succ k ih =>
    rw [dn]
    split
    · omega
    · have := ih (N / 10) (by rw [Nat.pow_succ] at h; omega)
      omega
theorem dn97 (N : Nat) (h : N < 2 ^ 320) : dn N ≤ 97 := dn_le 96 N (Nat.lt_of_lt_of_le h (by decide +kernel))
theorem dn_step (N D k : Nat) (hk : k < D) : N / 10 ^ (D - k) * 10 + N / 10 ^ (D - (k + 1)) % 10 = N / 10 ^ (D - (k + 1)) := by
  rw [show D - k = (D - (k + 1)) + 1 by omega, Nat.pow_succ, ← Nat.div_div_eq_div_mul]
  omega
theorem run_txt_at (N k : Nat) (w : World) (hk : k < dn N) :
    (Instr.index 9 (.string (txt N)) (.int .i64 (k : Int))).run Try.prog w = .ok (.int .u8 (((48 + N / 10 ^ (dn N - (k + 1)) % 10 : Nat)) : Int)) w := by
  have hs : k < (txt N).size := by rw [txt_size]; exact hk
  rw [run_index_string w 9 (txt N) .i64 (k : Int) Try.underlying9, dif_pos ⟨by omega, by omega⟩]
  have e : (txt N)[k]'hs = dig N (dn N - (k + 1)) := by
    have h : (txt N)[k]'hs = (digL N (dn N)).reverse[k]'(by rw [List.length_reverse, digL_len]; exact hk) := rfl
    rw [h, List.getElem_reverse]
    simp [digL, show dn N - 1 - k = dn N - (k + 1) by omega]
  have e2 : ((txt N)[((k : Int)).toNat]'(by simpa using hs)) = (txt N)[k]'hs := rfl
  rw [e2, e, dig_nat]
end Go.Proofs.Ytcjieaijcjinnaa
