/-
  For layer 16's laws: a Many in memory, slices of integers in drawn statements. No condition.
-/
import Derived.Test.YtggpjhldmaflaaaDoorMultiForm
import Derived.Test.YtggpjhldmaflaaaDoorTxsLib
import Derived.Test.YtggpjhldmaflaaaDoorHld
import Derived.Test.YtggpjhldmaflaaaDoorLawLibH
namespace Go.Proofs.YtggpjhldmaflaaaDoor
set_option maxRecDepth 4000
open Go.RowKit

theorem execFieldM {o : Oper} {t : Array Value} {x : Operand} (b k : Nat) (hk : k = 0 ∨ k = 1 ∨ k = 2) (w : World) (ho : o.op = .fieldAddr 28 x k) (hx : evS t x = .pointer (some ⟨b, 0, none⟩)) :
    (execOp (evS t) o).run Tryd.prog w = .ok (.value (.pointer (some ⟨b, k, none⟩))) w := by
  rcases hk with rfl | rfl | rfl
  all_goals
    unfold execOp
    rw [ho]
    simp only [hx]
    go_simp
theorem run_loadIs {w : World} {a : Addr} {p : Option Addr} {n c : Nat} (h : w.cell? a = some (.slice p n c)) : (Instr.loadAt 23 (.pointer (some a))).run Tryd.prog w = .ok (.slice p n c) w := by
  go_simp
theorem execLenIs {o : Oper} {t : Array Value} {x : Operand} {p : Option Addr} {n c : Nat} (w : World) (ho : o.op = .call { callee := .builtin .len, args := #[x], argTypes := #[23] }) (hx : evS t x = .slice p n c) :
    (execOp (evS t) o).run Tryd.prog w = .ok (.value (.int .i64 (n : Int))) w := by
  unfold execOp
  rw [ho]
  go_simp
theorem sizeInt16 (w : World) : (Go.sizeOf 3).run Tryd.prog w = .ok 1 w := by kernel_rfl
theorem execIndexI {o : Oper} {t : Array Value} {x y : Operand} (q : Addr) (n c k : Nat) (hk : k < n) (w : World) (ho : o.op = .indexAddr 23 x y) (hx : evS t x = .slice (some q) n c) (hy : evS t y = .int .i64 (k : Int)) :
    (execOp (evS t) o).run Tryd.prog w = .ok (.value (.pointer (some (q.add k)))) w := by
  have h1 : ((k : Int) < (n : Int)) := by omega
  have hs := sizeInt16 w
  unfold execOp
  rw [ho]
  simp only [hx, hy]
  go_simp
theorem loadMany {o : Oper} {t : Array Value} {x : Operand} {w : World} {g : Nat} {C : Array Value} (ho : o.op = .load 28 x) (hx : evS t x = .pointer (some ⟨g, 0, none⟩)) (hg : Rowz w g C 28) (hs : C.size = 3) :
    (execOp (evS t) o).run Tryd.prog w = .ok (.value (.agg C)) w :=
  execLoadRow 28 ho g hx C 28 _ hg Tryd.underlying28 rfl (by rw [hs]; kernel_rfl)
theorem manyR_size (N : Int) (v u : Value) : (Tryd.prog.info? 28).map (·.size) = some (#[.int .i64 N, v, u] : Array Value).size := by
  show _ = some 3; kernel_rfl
theorem manyR_one (N : Int) (p : Option Addr) (n c : Nat) (q : Option Addr) (m d : Nat) : (#[.int .i64 N, .slice p n c, .slice q m d] : Array Value).all (·.oneCell') = true := by simp [Value.oneCell']
theorem execNeI {o : Oper} {t : Array Value} {x y : Operand} (a b : Int) (w : World) (ho : o.op = .binOp .neq 3 x y 3) (hx : evS t x = .int .i64 a) (hy : evS t y = .int .i64 b) :
    (execOp (evS t) o).run Tryd.prog w = .ok (.value (.bool (!decide (a = b)))) w := by
  have e : (a != b) = !decide (a = b) := rfl
  rw [← e]
  unfold execOp
  rw [ho]
  simp only [hx, hy]
  go_simp
theorem execEqI16 {o : Oper} {t : Array Value} {x y : Operand} (a b : Int) (w : World) (ho : o.op = .binOp .eql 3 x y 3) (hx : evS t x = .int .i64 a) (hy : evS t y = .int .i64 b) :
    (execOp (evS t) o).run Tryd.prog w = .ok (.value (.bool (decide (a = b)))) w := by
  have e : (a == b) = decide (a = b) := rfl
  rw [← e]
  unfold execOp
  rw [ho]
  simp only [hx, hy]
  go_simp
end Go.Proofs.YtggpjhldmaflaaaDoor
