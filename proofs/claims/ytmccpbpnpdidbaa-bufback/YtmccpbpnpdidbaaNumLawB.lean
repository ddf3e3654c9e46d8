/-
  Two operations on strings in a drawn statement: len, and a cut from the start.
-/
import Derived.Test.YtmccpbpnpdidbaaNumLaw
namespace Go.Proofs.Ytmccpbpnpdidbaa
open Go.RowKit

theorem execLenS {o : Oper} {t : Array Value} {s : ByteArray} {x : Operand} (w : World) (ho : o.op = .call { callee := .builtin .len, args := #[x], argTypes := #[9] }) (hty : o.type = 3) (hx : evS t x = .string s) :
    (execOp (evS t) o).run Try.prog w = .ok (.value (.int .i64 (s.size : Int))) w := by
  unfold execOp
  rw [ho]
  simp only [hty]
  go_simp
theorem execCutS {o : Oper} {t : Array Value} {s : ByteArray} {x y : Operand} {n : Nat} (w : World) (ho : o.op = .slice 9 x none (some y) none) (hx : evS t x = .string s) (hy : evS t y = .int .i64 (n : Int)) (hn : n ≤ s.size) :
    (execOp (evS t) o).run Try.prog w = .ok (.value (.string (s.extract 0 n))) w := by
  have h3 : (n : Int) ≤ (s.size : Int) := by omega
  unfold execOp
  rw [ho]
  simp only [hx, Option.map, hy]
  go_simp
end Go.Proofs.Ytmccpbpnpdidbaa
