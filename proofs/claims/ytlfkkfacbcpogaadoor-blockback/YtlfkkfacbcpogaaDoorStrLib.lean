/-
  Strings in slices, in drawn statements: an index, a load, comparisons, a slice of one string. No condition.
-/
import Derived.Test.YtlfkkfacbcpogaaDoorTag
namespace Go.Proofs.YtlfkkfacbcpogaaDoor
set_option maxRecDepth 4000
open Go.RowKit

theorem run_build1s (x : ByteArray) (w : World) : (Instr.buildSlice 24 1 #[(0, .string x)]).run Tryd.prog w = .ok (.slice (.some ⟨w.heap.size, 0, none⟩) 1 1) (w.alloc (.cells #[.string x] 9)) := by kernel_rfl
theorem sizeStr12 (w : World) : (Go.sizeOf 9).run Tryd.prog w = .ok 1 w := by kernel_rfl
theorem SAt.load {w : World} {q : Addr} {n : Nat} {S : Nat → ByteArray} (h : SAt w (.some q) n S) (i : Nat) (hi : i < n) : (Instr.loadAt 9 (.pointer (.some (q.add i)))).run Tryd.prog w = .ok (.string (S i)) w := by
  have hc := h.cell i hi
  go_simp
theorem execIndexS {o : Oper} {t : Array Value} {x y : Operand} (q : Addr) (n c k : Nat) (hk : k < n) (w : World) (ho : o.op = .indexAddr 24 x y) (hx : evS t x = .slice (.some q) n c) (hy : evS t y = .int .i64 (k : Int)) :
    (execOp (evS t) o).run Tryd.prog w = .ok (.value (.pointer (.some (q.add k)))) w := by
  have h1 : ((k : Int) < (n : Int)) := by omega
  have hs := sizeStr12 w
  unfold execOp
  rw [ho]
  simp only [hx, hy]
  go_simp
theorem execNeS {o : Oper} {t : Array Value} {x y : Operand} (a b : ByteArray) (w : World) (ho : o.op = .binOp .neq 9 x y 9) (hx : evS t x = .string a) (hy : evS t y = .string b) :
    (execOp (evS t) o).run Tryd.prog w = .ok (.value (.bool (!(decide (a = b))))) w := by
  rw [← beq_strs]
  unfold execOp
  rw [ho]
  simp only [hx, hy]
  go_simp
theorem execNeSSelf {o : Oper} {t : Array Value} {x y : Operand} (a : ByteArray) (w : World) (ho : o.op = .binOp .neq 9 x y 9) (hx : evS t x = .string a) (hy : evS t y = .string a) :
    (execOp (evS t) o).run Tryd.prog w = .ok (.value (.bool false)) w := by
  have := execNeS a a w ho hx hy
  simpa using this
theorem execEqSd {o : Oper} {t : Array Value} {x y : Operand} (a b : ByteArray) (w : World) (ho : o.op = .binOp .eql 9 x y 9) (hx : evS t x = .string a) (hy : evS t y = .string b) :
    (execOp (evS t) o).run Tryd.prog w = .ok (.value (.bool (decide (a = b)))) w := by
  rw [← beq_strs]
  exact execEqS a b w ho hx hy
theorem execEqSSelf {o : Oper} {t : Array Value} {x y : Operand} (a : ByteArray) (w : World) (ho : o.op = .binOp .eql 9 x y 9) (hx : evS t x = .string a) (hy : evS t y = .string a) :
    (execOp (evS t) o).run Tryd.prog w = .ok (.value (.bool true)) w := by
  have := execEqSd a a w ho hx hy
  rwa [decide_eq_true rfl] at this
theorem execEqSNo {o : Oper} {t : Array Value} {x y : Operand} (a b : ByteArray) (hne : ¬ a = b) (w : World) (ho : o.op = .binOp .eql 9 x y 9) (hx : evS t x = .string a) (hy : evS t y = .string b) :
    (execOp (evS t) o).run Tryd.prog w = .ok (.value (.bool false)) w := by
  have := execEqSd a b w ho hx hy
  rwa [decide_eq_false hne] at this
end Go.Proofs.YtlfkkfacbcpogaaDoor
