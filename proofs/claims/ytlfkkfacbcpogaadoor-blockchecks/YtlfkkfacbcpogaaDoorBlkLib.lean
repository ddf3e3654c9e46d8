/-
  Cells at an address (CAt); a block in memory: its 67 cells (bkC), loaded whole, its fields. No condition.
-/
import Derived.Test.YtlfkkfacbcpogaaDoorHeadEq
import Derived.Test.YtlfkkfacbcpogaaDoorTag
import Derived.Test.YtlfkkfacbcpogaaDoorTre
namespace Go.Proofs.YtlfkkfacbcpogaaDoor
set_option maxRecDepth 4000
open Go.RowKit

/-- The cells C from a on. -/
def CAt (w : World) (a : Addr) (C : Array Value) : Prop := a.block < w.heap.size ∧ ∀ (j : Nat) u, C[j]? = some u → w.cell? (a.add j) = some u
theorem CAt.kept {w w' : World} {a : Addr} {C : Array Value} (h : CAt w a C) (K : Kept w w') : CAt w' a C :=
  ⟨Nat.lt_of_lt_of_le h.1 K.size, fun j u hj => by rw [Kept.cellAt K _ (by rw [add_block]; exact h.1)]; exact h.2 j u hj⟩
theorem CAt.ofRow {w : World} {g : Nat} {C : Array Value} {T : TypeId} (h : Rowz w g C T) : CAt w ⟨g, 0, none⟩ C :=
  ⟨h.lt, fun j u hj => by rw [Addr.add_mid, h.cell, Nat.zero_add]; exact hj⟩
theorem CAt.sub {w : World} {a : Addr} {C : Array Value} (h : CAt w a C) (b : Addr) (k : Nat) (hb : b = a.add k) (D : Array Value) (hD : ∀ (j : Nat) u, D[j]? = some u → C[k + j]? = some u) : CAt w b D := by
  subst hb
  refine ⟨by rw [add_block]; exact h.1, fun j u hj => ?_⟩
  rw [Deep.add_add]
  exact h.2 _ _ (hD j u hj)
theorem CAt.cell {w : World} {a : Addr} {C : Array Value} (h : CAt w a C) (b : Addr) (k : Nat) (hb : b = a.add k) (u : Value) (hu : C[k]? = some u) : w.cell? b = some u := by
  subst hb; exact h.2 k u hu
theorem CAt.load {w : World} {a : Addr} {C : Array Value} (h : CAt w a C) (ty : TypeId) (d : TypeDesc) (hu : Tryd.prog.underlying ty = some d) (hd : (match d with | .struct _ | .array _ _ => true | _ => false) = true) (hs : (Go.sizeOf ty).run Tryd.prog w = .ok C.size w) :
    (Instr.loadAt ty (.pointer (some a))).run Tryd.prog w = .ok (.agg C) w := by
  have h1 := run_loadCells_list (P := Tryd.prog) w a C.toList (fun j v hj => h.2 j v (by rwa [Array.getElem?_toList] at hj))
  rw [Array.length_toList, Array.toArray_toList] at h1
  have hagg : (isAgg ty).run Tryd.prog w = .ok true w := by
    unfold isAgg
    rw [Sem.run_bind, run_underlying hu w]
    cases d <;> first | rfl | (simp at hd)
  simp only [Instr.loadAt, Instr.sureAddr, Sem.run_bind, Sem.run_pure, Result.andThen_ok, loadVar, hagg, hs, h1, if_true]
theorem execLoadC {o : Oper} {t : Array Value} {x : Operand} {w : World} {a : Addr} {C : Array Value} (ty : TypeId) (ho : o.op = .load ty x) (hx : evS t x = .pointer (some a)) (h : CAt w a C) (d : TypeDesc) (hu : Tryd.prog.underlying ty = some d)
    (hd : (match d with | .struct _ | .array _ _ => true | _ => false) = true) (hs : (Go.sizeOf ty).run Tryd.prog w = .ok C.size w) : (execOp (evS t) o).run Tryd.prog w = .ok (.value (.agg C)) w := by
  have hr := h.load ty d hu hd hs
  unfold execOp
  simp only [ho, hx, Sem.run_bind, Sem.run_pure, hr, Result.andThen_ok]
theorem execLoad1 {o : Oper} {t : Array Value} {x : Operand} {w : World} {a : Addr} {v : Value} {ty : TypeId} (ho : o.op = .load ty x) (hx : evS t x = .pointer (some a)) (hr : (Instr.loadAt ty (.pointer (some a))).run Tryd.prog w = .ok v w) :
    (execOp (evS t) o).run Tryd.prog w = .ok (.value v) w := by
  unfold execOp
  simp only [ho, hx, Sem.run_bind, Sem.run_pure, hr, Result.andThen_ok]

/-! ### A header at an address -/
theorem size_hdr (x : Hd) (w : World) : (Go.sizeOf 33).run Tryd.prog w = .ok (hdC x).size w := by rw [hdC_size]; kernel_rfl
theorem size_hash (l : List UInt8) (w : World) : (Go.sizeOf 31).run Tryd.prog w = .ok (bC 32 l).size w := by rw [bC_size]; kernel_rfl
theorem loadHdA {o : Oper} {t : Array Value} {x : Operand} {w : World} {a : Addr} {c : Hd} (ho : o.op = .load 33 x) (hx : evS t x = .pointer (some a)) (h : CAt w a (hdC c)) : (execOp (evS t) o).run Tryd.prog w = .ok (.value (.agg (hdC c))) w :=
  execLoadC _ ho hx h _ Tryd.underlying33 rfl (size_hdr c w)
theorem loadHashA {o : Oper} {t : Array Value} {x : Operand} {w : World} {a : Addr} {l : List UInt8} (ho : o.op = .load 31 x) (hx : evS t x = .pointer (some a)) (h : CAt w a (bC 32 l)) : (execOp (evS t) o).run Tryd.prog w = .ok (.value (.agg (bC 32 l))) w :=
  execLoadC _ ho hx h _ Tryd.underlying31 rfl (size_hash l w)
theorem CAt.hl {w : World} {a : Addr} {x : Hd} (h : CAt w a (hdC x)) (b : Addr) (hb : b = a.add 1) : CAt w b (bC 32 x.l) :=
  h.sub b 1 hb _ fun j u hj => by
    have hj32 : j < 32 := by
      have := (Array.getElem?_eq_some_iff.1 hj).1
      simpa [bC_size] using this
    rw [bC_get _ _ _ hj32] at hj
    rw [hdC_l x j hj32, hj]
theorem CAt.ht {w : World} {a : Addr} {x : Hd} (h : CAt w a (hdC x)) (b : Addr) (hb : b = a.add 33) : CAt w b (bC 32 x.t) :=
  h.sub b 33 hb _ fun j u hj => by
    have hj32 : j < 32 := by
      have := (Array.getElem?_eq_some_iff.1 hj).1
      simpa [bC_size] using this
    rw [bC_get _ _ _ hj32] at hj
    rw [hdC_t x j hj32, hj]
theorem loadU32A {o : Oper} {t : Array Value} {x : Operand} {w : World} {a : Addr} {n : Int} (ho : o.op = .load 22 x) (hx : evS t x = .pointer (some a)) (h : w.cell? a = some (.int .u32 n)) : (execOp (evS t) o).run Tryd.prog w = .ok (.value (.int .u32 n)) w :=
  execLoad1 ho hx (by go_simp)
theorem loadU64A {o : Oper} {t : Array Value} {x : Operand} {w : World} {a : Addr} {n : Int} (ho : o.op = .load 25 x) (hx : evS t x = .pointer (some a)) (h : w.cell? a = some (.int .u64 n)) : (execOp (evS t) o).run Tryd.prog w = .ok (.value (.int .u64 n)) w :=
  execLoad1 ho hx (by go_simp)
theorem execFieldHA {o : Oper} {t : Array Value} {x : Operand} (a b : Addr) (k off : Nat) (hk : (k = 0 ∧ off = 0) ∨ (k = 1 ∧ off = 1) ∨ (k = 2 ∧ off = 33) ∨ (k = 3 ∧ off = 65)) (hb : b = a.add off) (w : World) (ho : o.op = .fieldAddr 33 x k) (hx : evS t x = .pointer (some a)) :
    (execOp (evS t) o).run Tryd.prog w = .ok (.value (.pointer (some b))) w := by
  subst hb
  rcases hk with ⟨rfl, rfl⟩ | ⟨rfl, rfl⟩ | ⟨rfl, rfl⟩ | ⟨rfl, rfl⟩
  all_goals
    unfold execOp
    rw [ho]
    simp only [hx]
    go_simp
theorem run_buildH4 (h n : Nat) (l t : List UInt8) (w : World) : (Instr.build 33 #[(0, .int .u32 (h : Int)), (1, .agg (bC 32 l)), (2, .agg (bC 32 t)), (3, .int .u64 (n : Int))]).run Tryd.prog w = .ok (.agg (hdC ⟨h, l, t, n⟩)) w := by kernel_rfl
theorem execBuildH4 {o : Oper} {t : Array Value} {x y z u : Operand} (h n : Nat) (l m : List UInt8) (w : World) (ho : o.op = .build 33 #[(0, x), (1, y), (2, z), (3, u)]) (hx : evS t x = .int .u32 (h : Int)) (hy : evS t y = .agg (bC 32 l)) (hz : evS t z = .agg (bC 32 m)) (hu : evS t u = .int .u64 (n : Int)) :
    (execOp (evS t) o).run Tryd.prog w = .ok (.value (.agg (hdC ⟨h, l, m, n⟩))) w := by
  have hr := run_buildH4 h n l m w
  unfold execOp
  simp [ho, hx, hy, hz, hu, hr, Result.andThen_ok]

/-! ### A block -/
def bkC (x : Hd) (u : Value) : Array Value := hdC x ++ #[u]
theorem bkC_size (x : Hd) (u : Value) : (bkC x u).size = 67 := by simp [bkC, hdC_size]
theorem bkC_hd (x : Hd) (u : Value) (j : Nat) (v : Value) (h : (hdC x)[j]? = some v) : (bkC x u)[0 + j]? = some v := by
  have hj : j < (hdC x).size := (Array.getElem?_eq_some_iff.1 h).1
  rw [bkC, Nat.zero_add, Array.getElem?_append_left hj, h]
theorem bkC_66 (x : Hd) (u : Value) : (bkC x u)[66]? = some u := by
  rw [bkC, Array.getElem?_append_right (by rw [hdC_size]; omega), hdC_size]; rfl
theorem bkC_list (x : Hd) (u : Value) : (bkC x u).toList = (hdC x).toList ++ [u] := by simp [bkC]
theorem bkC_one (x : Hd) (p : Option Addr) (n c : Nat) : (bkC x (.slice p n c)).all (·.oneCell') = true := by
  rw [Array.all_eq_true_iff_forall_mem]
  intro y hy
  simp only [bkC, Array.mem_append] at hy
  rcases hy with hy | hy
  · exact Array.all_eq_true_iff_forall_mem.1 (hdC_one x) y hy
  · obtain rfl : y = .slice p n c := by simpa using hy
    rfl
theorem info_blk (x : Hd) (u : Value) : (Tryd.prog.info? 35).map (·.size) = some (bkC x u).size := by rw [bkC_size]; kernel_rfl
theorem size_blk (x : Hd) (u : Value) (w : World) : (Go.sizeOf 35).run Tryd.prog w = .ok (bkC x u).size w := by rw [bkC_size]; kernel_rfl
theorem run_buildB2 (x : Hd) (p : Option Addr) (n c : Nat) (w : World) : (Instr.build 35 #[(0, .agg (hdC x)), (1, .slice p n c)]).run Tryd.prog w = .ok (.agg (bkC x (.slice p n c))) w := by kernel_rfl
theorem execBuildB2 {o : Oper} {t : Array Value} {x y : Operand} (h : Hd) (p : Option Addr) (n c : Nat) (w : World) (ho : o.op = .build 35 #[(0, x), (1, y)]) (hx : evS t x = .agg (hdC h)) (hy : evS t y = .slice p n c) :
    (execOp (evS t) o).run Tryd.prog w = .ok (.value (.agg (bkC h (.slice p n c)))) w := by
  have hr := run_buildB2 h p n c w
  unfold execOp
  simp [ho, hx, hy, hr, Result.andThen_ok]
theorem run_buildB0 (w : World) : (Instr.build 35 #[]).run Tryd.prog w = .ok (.agg (bkC hdZ (.slice none 0 0))) w := by kernel_rfl
theorem execBuildB0 {o : Oper} {t : Array Value} (w : World) (ho : o.op = .build 35 #[]) : (execOp (evS t) o).run Tryd.prog w = .ok (.value (.agg (bkC hdZ (.slice none 0 0)))) w := by
  have hr := run_buildB0 w
  unfold execOp
  simp [ho, hr, Result.andThen_ok]
theorem execAllocBk {o : Oper} {t : Array Value} (w : World) (ho : o.op = .alloc 35) : (execOp (evS t) o).run Tryd.prog w = .ok (.value (.pointer (some ⟨w.heap.size, 0, none⟩))) (w.alloc (.cells (bkC hdZ (.slice none 0 0)) 35)) := by
  unfold execOp
  rw [ho]
  kernel_rfl
theorem loadBkA {o : Oper} {t : Array Value} {x : Operand} {w : World} {a : Addr} {c : Hd} {u : Value} (ho : o.op = .load 35 x) (hx : evS t x = .pointer (some a)) (h : CAt w a (bkC c u)) : (execOp (evS t) o).run Tryd.prog w = .ok (.value (.agg (bkC c u))) w :=
  execLoadC _ ho hx h _ Tryd.underlying35 rfl (size_blk c u w)
/-- A block in a variable of its own, loaded whole. -/
theorem loadBk {o : Oper} {t : Array Value} {x : Operand} {w : World} {g : Nat} {c : Hd} {u : Value} {T : TypeId} (ho : o.op = .load 35 x) (hx : evS t x = .pointer (some ⟨g, 0, none⟩)) (hg : Rowz w g (bkC c u) T) : (execOp (evS t) o).run Tryd.prog w = .ok (.value (.agg (bkC c u))) w :=
  loadBkA ho hx (CAt.ofRow hg)
theorem execFieldBA {o : Oper} {t : Array Value} {x : Operand} (a b : Addr) (k off : Nat) (hk : (k = 0 ∧ off = 0) ∨ (k = 1 ∧ off = 66)) (hb : b = a.add off) (w : World) (ho : o.op = .fieldAddr 35 x k) (hx : evS t x = .pointer (some a)) :
    (execOp (evS t) o).run Tryd.prog w = .ok (.value (.pointer (some b))) w := by
  subst hb
  rcases hk with ⟨rfl, rfl⟩ | ⟨rfl, rfl⟩
  all_goals
    unfold execOp
    rw [ho]
    simp only [hx]
    go_simp
theorem CAt.bh {w : World} {a : Addr} {x : Hd} {u : Value} (h : CAt w a (bkC x u)) : CAt w a (hdC x) := h.sub a 0 rfl _ fun j v hj => bkC_hd x u j v hj
theorem CAt.bt {w : World} {a : Addr} {x : Hd} {u : Value} (h : CAt w a (bkC x u)) (b : Addr) (hb : b = a.add 66) : w.cell? b = some u := h.cell b 66 hb u (bkC_66 x u)
theorem loadStrsA {o : Oper} {t : Array Value} {x : Operand} {w : World} {a : Addr} {p : Option Addr} {n c : Nat} (ho : o.op = .load 24 x) (hx : evS t x = .pointer (some a)) (h : w.cell? a = some (.slice p n c)) : (execOp (evS t) o).run Tryd.prog w = .ok (.value (.slice p n c)) w :=
  execLoad1 ho hx (by go_simp)
attribute [irreducible] bkC
end Go.Proofs.YtlfkkfacbcpogaaDoor
