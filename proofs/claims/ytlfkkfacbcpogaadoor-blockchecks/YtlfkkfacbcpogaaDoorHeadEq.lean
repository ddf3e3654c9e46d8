/-
  Comparisons of headers as operations. Condition: a header's parts fit.
-/
import Derived.Test.YtlfkkfacbcpogaaDoorHeadLib
import Derived.Laws.StructEq
namespace Go.Proofs.YtlfkkfacbcpogaaDoor
set_option maxRecDepth 4000
open Go.RowKit

theorem execNeHd {o : Oper} {t : Array Value} {x y : Operand} (a b : Hd) (ha : a.ok) (hb : b.ok) (w : World) (ho : o.op = .binOp .neq 33 x y 33) (hx : evS t x = .agg (hdC a)) (hy : evS t y = .agg (hdC b)) :
    (execOp (evS t) o).run Tryd.prog w = .ok (.value (.bool (!decide (a = b)))) w := by
  have hE : (binOp .neq 33 (.agg (hdC a)) (.agg (hdC b))).run Tryd.prog w = .ok (.bool (!decide (a = b))) w := by
    rw [run_neq_struct, sameHd a b ha hb w]; rfl
  unfold execOp
  rw [ho]
  simp only [hx, hy, Sem.run_bind, run_eqGuard_agg w _ _ _ _ _ _ guardHd, hE, Result.andThen_ok, Sem.run_pure]
theorem execNeHdSelf {o : Oper} {t : Array Value} {x y : Operand} (a : Hd) (ha : a.ok) (w : World) (ho : o.op = .binOp .neq 33 x y 33) (hx : evS t x = .agg (hdC a)) (hy : evS t y = .agg (hdC a)) :
    (execOp (evS t) o).run Tryd.prog w = .ok (.value (.bool false)) w := by
  have := execNeHd a a ha ha w ho hx hy
  simpa using this
theorem execNeHdYes {o : Oper} {t : Array Value} {x y : Operand} (a b : Hd) (ha : a.ok) (hb : b.ok) (hne : ¬ a = b) (w : World) (ho : o.op = .binOp .neq 33 x y 33) (hx : evS t x = .agg (hdC a)) (hy : evS t y = .agg (hdC b)) :
    (execOp (evS t) o).run Tryd.prog w = .ok (.value (.bool true)) w := by
  have := execNeHd a b ha hb w ho hx hy
  rwa [decide_eq_false hne] at this
theorem execEqHdSelf {o : Oper} {t : Array Value} {x y : Operand} (a : Hd) (ha : a.ok) (w : World) (ho : o.op = .binOp .eql 33 x y 33) (hx : evS t x = .agg (hdC a)) (hy : evS t y = .agg (hdC a)) :
    (execOp (evS t) o).run Tryd.prog w = .ok (.value (.bool true)) w := by
  have := execEqHd a a ha ha w ho hx hy
  rwa [decide_eq_true rfl] at this
theorem execEqHdNo {o : Oper} {t : Array Value} {x y : Operand} (a b : Hd) (ha : a.ok) (hb : b.ok) (hne : ¬ a = b) (w : World) (ho : o.op = .binOp .eql 33 x y 33) (hx : evS t x = .agg (hdC a)) (hy : evS t y = .agg (hdC b)) :
    (execOp (evS t) o).run Tryd.prog w = .ok (.value (.bool false)) w := by
  have := execEqHd a b ha hb w ho hx hy
  rwa [decide_eq_false hne] at this
end Go.Proofs.YtlfkkfacbcpogaaDoor
