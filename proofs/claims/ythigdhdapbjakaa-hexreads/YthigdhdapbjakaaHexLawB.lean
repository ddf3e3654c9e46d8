/-
  Hashes compared by '!='. No condition.
-/
import Derived.Test.YthigdhdapbjakaaHexLaw
import Derived.Test.YthigdhdapbjakaaHexRefB
import Derived.Test.YthigdhdapbjakaaHexWalkC
namespace Go.Proofs.Ythigdhdapbjakaa
open Go.RowKit

theorem execNeH1 {o : Oper} {t : Array Value} {x y : Operand} (l : List UInt8) (hl : l.length = 32) (w : World) (ho : o.op = .binOp .neq 28 x y 28) (hx : evS t x = .agg (bC 32 l)) (hy : evS t y = .agg (bC 32 l)) :
    (execOp (evS t) o).run Try.prog w = .ok (.value (.bool false)) w := by
  have hq0 := sameH1 l hl w
  have hq1 := guardH
  unfold execOp
  rw [ho]
  simp only [hx, hy]
  go_simp
theorem sum_size {s : ByteArray} (h : sumB s = true) : unB s = true ∧ (unS s).size = 32 := by
  simp only [sumB, Bool.and_eq_true, decide_eq_true_eq] at h
  exact h
theorem sum_no {s : ByteArray} (h : sumB s = false) : unB s = false ∨ (unB s = true ∧ ¬ (unS s).size = 32) := by
  cases hb : unB s with
  | false => exact .inl rfl
  | true =>
    refine .inr ⟨rfl, fun e => ?_⟩
    rw [sumB, hb, decide_eq_true e] at h
    cases h
def zl : List UInt8 := List.replicate 32 0
theorem zl_len : zl.length = 32 := rfl
end Go.Proofs.Ythigdhdapbjakaa
