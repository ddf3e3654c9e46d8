/-
  The laws' example hashes (the first byte 1 or 2, the rest 0); an index that is a constant. No condition.
-/
import Derived.Test.YtfdjbomofmeolaaDoorTre
namespace Go.Proofs.YtfdjbomofmeolaaDoor
set_option maxRecDepth 4000
open Go.RowKit

def h1L : List UInt8 := 1 :: List.replicate 31 0
def h2L : List UInt8 := 2 :: List.replicate 31 0
theorem run_build_h1 (w : World) : (Instr.build 33 #[(0, .int .u8 1)]).run Tryd.prog w = .ok (.agg (bC 32 h1L)) w := by kernel_rfl
theorem run_build_h2 (w : World) : (Instr.build 33 #[(0, .int .u8 2)]).run Tryd.prog w = .ok (.agg (bC 32 h2L)) w := by kernel_rfl
theorem execBuild_h1 {o : Oper} {t : Array Value} (w : World) (ho : o.op = .build 33 #[(0, .const (.int .u8 1))]) : (execOp (evS t) o).run Tryd.prog w = .ok (.value (.agg (bC 32 h1L))) w := by
  have hr := run_build_h1 w
  have hy : evS t (.const (.int .u8 1)) = .int .u8 1 := rfl
  unfold execOp
  simp [ho, hy, hr, Result.andThen_ok]
theorem execBuild_h2 {o : Oper} {t : Array Value} (w : World) (ho : o.op = .build 33 #[(0, .const (.int .u8 2))]) : (execOp (evS t) o).run Tryd.prog w = .ok (.value (.agg (bC 32 h2L))) w := by
  have hr := run_build_h2 w
  have hy : evS t (.const (.int .u8 2)) = .int .u8 2 := rfl
  unfold execOp
  simp [ho, hy, hr, Result.andThen_ok]
theorem execIndex0 {o : Oper} {t : Array Value} {x : Operand} (q : Addr) (n c k : Nat) (hk : k < n) (w : World) (ho : o.op = .indexAddr 22 x (.const (.int .i64 (k : Int)))) (hx : evS t x = .slice (some q) n c) :
    (execOp (evS t) o).run Tryd.prog w = .ok (.value (.pointer (some (q.add (k * 32))))) w := execIndexH q n c k hk w ho hx rfl
theorem h1L_length : h1L.length = 32 := rfl
theorem h2L_length : h2L.length = 32 := rfl
def twoF (i : Nat) : List UInt8 := if i = 0 then h1L else h2L
theorem twoF_length (i : Nat) : (twoF i).length = 32 := by unfold twoF; split <;> rfl
theorem run_build2h (a b : List UInt8) (w : World) : (Instr.buildSlice 22 2 #[(0, .agg (bC 32 a)), (1, .agg (bC 32 b))]).run Tryd.prog w = .ok (.slice (some ⟨w.heap.size, 0, none⟩) 2 2) (w.alloc (.cells (hC 2 (fun i => if i = 0 then a else b)) 33)) := by kernel_rfl
theorem execBuild2h {o : Oper} {t : Array Value} {x y : Operand} (a b : List UInt8) (w : World) (ho : o.op = .buildSlice 22 2 #[(0, x), (1, y)]) (hx : evS t x = .agg (bC 32 a)) (hy : evS t y = .agg (bC 32 b)) :
    (execOp (evS t) o).run Tryd.prog w = .ok (.value (.slice (some ⟨w.heap.size, 0, none⟩) 2 2)) (w.alloc (.cells (hC 2 (fun i => if i = 0 then a else b)) 33)) := by
  have hr := run_build2h a b w
  unfold execOp
  simp [ho, hx, hy, hr, Result.andThen_ok]
end Go.Proofs.YtfdjbomofmeolaaDoor
