/-
  For the laws of cur: a step loaded out of the slice.
-/
import Derived.Test.YtbnaiojbkecofaaCurDoB
import Derived.Test.YtbnaiojbkecofaaLawLibC
import Derived.Test.YtbnaiojbkecofaaNumLawB
namespace Go.Proofs.Ytbnaiojbkecofaa
open Go.RowKit

theorem run_load4 (w : World) (b : Addr) (v0 v1 v2 v3 : Value) (h0 : w.cell? b = some v0) (h1 : w.cell? (b.add 1) = some v1) (h2 : w.cell? (b.add 2) = some v2) (h3 : w.cell? (b.add 3) = some v3) :
    (Instr.loadAt 32 (.pointer (some b))).run Try.prog w = .ok (.agg #[v0, v1, v2, v3]) w := by
  have h1' : w.cell? ⟨b.block, b.off + 1, none⟩ = some v1 := h1
  have h2' : w.cell? ⟨b.block, b.off + 2, none⟩ = some v2 := h2
  have h3' : w.cell? ⟨b.block, b.off + 3, none⟩ = some v3 := h3
  clear h1 h2 h3
  go_simp
/-- The k-th step, wherever its slice lies. -/
def StepAt4 (w : World) (p : Option Addr) (k : Nat) (a b : Int) (m : Nat) (x : Int) : Prop :=
  ∃ q : Addr, p = some q ∧ q.block < w.heap.size ∧ w.cell? (q.add (k * 4)) = some (.int .i64 a) ∧ w.cell? (q.add (k * 4 + 1)) = some (.int .i64 b) ∧ w.cell? (q.add (k * 4 + 2)) = some (.int .u64 (m : Int)) ∧ w.cell? (q.add (k * 4 + 3)) = some (.int .i64 x)
theorem StepAt4.grown {w w' : World} {p : Option Addr} {k : Nat} {a b : Int} {m : Nat} {x : Int} (h : StepAt4 w p k a b m x) (G : Grown w w') : StepAt4 w' p k a b m x := by
  obtain ⟨q, rfl, hb, h0, h1, h2, h3⟩ := h
  refine ⟨q, rfl, Nat.lt_of_lt_of_le hb G.2.2, ?_, ?_, ?_, ?_⟩
  all_goals rw [Grown.cellAt G _ (by rw [add_block]; exact hb)]
  all_goals assumption
theorem StepAt4.kept {w w' : World} {p : Option Addr} {k : Nat} {a b : Int} {m : Nat} {x : Int} (h : StepAt4 w p k a b m x) (G : Kept w w') : StepAt4 w' p k a b m x := by
  obtain ⟨q, rfl, hb, h0, h1, h2, h3⟩ := h
  refine ⟨q, rfl, Nat.lt_of_lt_of_le hb G.size, ?_, ?_, ?_, ?_⟩
  all_goals rw [Kept.cellAt G _ (by rw [add_block]; exact hb)]
  all_goals assumption
theorem CurAt.kept {w w' : World} {g : Nat} {c : Cu} (h : CurAt w g c) (k : Kept w w') : CurAt w' g c := Rowz.kept h k
theorem RC.kept {w w' : World} {g : Nat} {c : Cu} (h : RC w g c) (k : Kept w w') : RC w' g c := Rowz.kept h k
theorem RC.load {w : World} {g : Nat} {c : Cu} (h : RC w g c) : (Instr.loadAt 27 (.pointer (some ⟨g, 0, none⟩))).run Try.prog w = .ok (.agg #[.string c.b, .int .i64 c.e]) w := by
  simp only [Instr.loadAt, Instr.sureAddr, Sem.run_bind, Sem.run_pure, Result.andThen]
  exact run_loadVar_row w g _ _ _ (0, 0) _ h Try.underlying27 rfl (infoC _ _)
theorem StepAt4.load {w : World} {q : Addr} {k : Nat} {a b : Int} {m : Nat} {x : Int} (h : StepAt4 w (some q) k a b m x) :
    (Instr.loadAt 32 (.pointer (some (q.add (k * 4))))).run Try.prog w = .ok (.agg #[.int .i64 a, .int .i64 b, .int .u64 (m : Int), .int .i64 x]) w := by
  obtain ⟨q', e, hb, h0, h1, h2, h3⟩ := h
  obtain rfl : q = q' := Option.some.inj e
  exact run_load4 w _ _ _ _ _ h0 (by rw [Deep.add_add]; exact h1) (by rw [Deep.add_add]; exact h2) (by rw [Deep.add_add]; exact h3)
theorem execLoad4 {o : Oper} {t : Array Value} {x : Operand} {w : World} {v : Value} {u : Value} (ho : o.op = .load 32 x) (hx : evS t x = v) (h : (Instr.loadAt 32 v).run Try.prog w = .ok u w) : (execOp (evS t) o).run Try.prog w = .ok (.value u) w := by
  unfold execOp
  simp only [ho, hx, Sem.run_bind, Sem.run_pure, h, Result.andThen_ok]
theorem execIndexAddr {o : Oper} {t : Array Value} {x y : Operand} (w : World) (q : Addr) (n c k : Nat) (hk : k < n) (ho : o.op = .indexAddr 22 x y) (hx : evS t x = .slice (some q) n c) (hy : evS t y = .int .i64 (k : Int)) :
    (execOp (evS t) o).run Try.prog w = .ok (.value (.pointer (some (q.add (k * 4))))) w := by
  have h1 : (k : Int) < (n : Int) := by omega
  unfold execOp
  rw [ho]
  simp only [hx, hy]
  go_simp
end Go.Proofs.Ytbnaiojbkecofaa
