/-
  milepostlaw04's full and awake; equality of numbers.
-/
import Derived.Test.YtediednghflefaaWideWalkB
import Derived.Test.YtediednghflefaaEqHash
namespace Go.Proofs.Ytediednghflefaa
set_option maxRecDepth 4000
open Go.RowKit

theorem nC_iC (N : Nat) : nC N 4 = iC .u64 4 (fun i => ((lmb N i : Nat) : Int)) := by
  unfold nC iC
  congr 1
theorem all_limbs (A B : Nat) (hA : A < 2 ^ 256) (hB : B < 2 ^ 256) : ((List.range 4).all fun i => ((lmb A i : Nat) : Int) == ((lmb B i : Nat) : Int)) = decide (A = B) := by
  by_cases h : A = B
  · subst h; simp
  · rw [decide_eq_false h]
    apply Bool.eq_false_iff.2
    intro hall
    apply h
    apply lmb_inj A B hA hB
    intro i hi
    have := List.all_eq_true.1 hall i (by simpa using hi)
    simp only [beq_iff_eq] at this
    omega
theorem sameN (A B : Nat) (hA : A < 2 ^ 256) (hB : B < 2 ^ 256) (w : World) : (Op.equalIn 10000 38 (.agg (nC A 4)) (.agg (nC B 4))).run Try.prog w = .ok (decide (A = B)) w := by
  rw [nC_iC, nC_iC, ← all_limbs A B hA hB]
  exact run_equalIn_ints w _ 38 36 4 .u64 Try.underlying38 Try.underlying36 (fun _ => by kernel_rfl) _ _
theorem guardN : Try.prog.eqGuardType Try.prog.depth 38 = false := by kernel_rfl

/-- Equality of hashes and of numbers, as an operation. -/
theorem execEqH {o : Oper} {t : Array Value} {x y : Operand} (l : List UInt8) (hl : l.length = 32) (w : World) (ho : o.op = .binOp .eql 23 x y 23) (hx : evS t x = .agg (bC 32 l)) (hy : evS t y = .agg (bC 32 l)) :
    (execOp (evS t) o).run Try.prog w = .ok (.value (.bool true)) w := by
  have hq0 := sameH1 l hl w
  have hq1 := guardH
  unfold execOp
  rw [ho]
  simp only [hx, hy]
  go_simp
theorem execEqN {o : Oper} {t : Array Value} {x y : Operand} (A B : Nat) (hA : A < 2 ^ 256) (hB : B < 2 ^ 256) (w : World) (ho : o.op = .binOp .eql 38 x y 38) (hx : evS t x = .agg (nC A 4)) (hy : evS t y = .agg (nC B 4)) :
    (execOp (evS t) o).run Try.prog w = .ok (.value (.bool (decide (A = B)))) w := by
  have hq0 := sameN A B hA hB w
  have hq1 := guardN
  unfold execOp
  rw [ho]
  simp only [hx, hy]
  go_simp

def fullN : Nat := 2 ^ 256 - 1
theorem fullN_lt : fullN < 2 ^ 256 := by decide
theorem full_bytes : List.replicate 32 (255 : UInt8) = be 32 fullN := by decide +kernel

end Go.Proofs.Ytediednghflefaa
