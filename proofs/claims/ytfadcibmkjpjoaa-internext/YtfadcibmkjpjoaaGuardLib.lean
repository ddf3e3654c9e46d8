/-
  Small laws for walks over records behind pointers: guarded operations taken whole, rows stored into new variables, results that are records, 'nothing but one block and new memory'. No condition.
-/
import Derived.Test.YtfadcibmkjpjoaaBas
import Derived.Test.YtfadcibmkjpjoaaEqHash
namespace Go.Proofs.Ytfadcibmkjpjoaa
set_option maxRecDepth 4000
open Go.RowKit

/-! ### The empty string -/
def noB : ByteArray := ⟨#[]⟩
theorem noB_size : noB.size = 0 := rfl
theorem size0 {s : ByteArray} (h : s.size = 0) : s = noB := by
  apply ByteArray.ext
  exact Array.eq_empty_of_size_eq_zero h
theorem isE_yes : noB.toList.isEmpty = true := by rw [ByteArray.toList_eq]; rfl
theorem isE_no {s : ByteArray} (h : ¬ s.size = 0) : s.toList.isEmpty = false := by
  rw [ByteArray.toList_eq]
  cases e : s.data.toList with
  | nil => exact absurd (show s.data.toList.length = 0 by rw [e]; rfl) h
  | cons a l => rfl
/-! ### Nothing but one block -/
/-- Nothing but block b, and new memory; nor the machine's own state. -/
def OnlyC (b : Nat) (w w' : World) : Prop := Only b w w' ∧ w'.os = w.os ∧ w'.output = w.output
theorem OnlyC.refl (b : Nat) (w : World) : OnlyC b w w := ⟨Only.refl b w, rfl, rfl⟩
theorem OnlyC.trans {b : Nat} {u v w : World} (h : OnlyC b u v) (k : OnlyC b v w) : OnlyC b u w := ⟨h.1.trans k.1, k.2.1.trans h.2.1, k.2.2.trans h.2.2⟩
theorem OnlyC.ofGrown {u v : World} (b : Nat) (h : Grown u v) : OnlyC b u v := ⟨Only.ofGrown b h, h.1.1, h.1.2.1⟩
theorem OnlyC.ofCell {b : Nat} (w : World) (i : Nat) (v : Value) : OnlyC b w (w.setCell ⟨b, i, none⟩ v) := ⟨Only.ofCell w i v, rfl, rfl⟩
theorem OnlyC.newRow {b g : Nat} {u v : World} {C : Array Value} {T : TypeId} (h : OnlyC b u v) (hr : Rowz v g C T) (hg : u.heap.size ≤ g) (D : Array Value) : OnlyC b u (v.setRow g D) := by
  refine ⟨⟨fun w0 g0 hb => Grown.setRow (h.1.1 w0 g0 hb) hr (Nat.le_trans g0.2.2 hg) D, fun i hi hn => ?_, by simpa using h.1.2.2⟩, h.2.1, h.2.2⟩
  rw [setRow_other v g i D (by omega)]
  exact h.1.2.1 i hi hn
theorem OnlyC.newCell {b g : Nat} {u v : World} (h : OnlyC b u v) (hg : u.heap.size ≤ g) (i : Nat) (x : Value) : OnlyC b u (v.setCell ⟨g, i, none⟩ x) := by
  refine ⟨⟨fun w0 g0 hb => (h.1.1 w0 g0 hb).setCell (Nat.le_trans g0.2.2 hg) x, fun j hj hn => ?_, by simpa using h.1.2.2⟩, h.2.1, h.2.2⟩
  rw [heap_setCell_other v _ j x (by simp; omega)]
  exact h.1.2.1 j hj hn
theorem OnlyC.grown {b : Nat} {u v : World} (h : OnlyC b u v) (w : World) (G : Grown w u) (hb : w.heap.size ≤ b) : Grown w v := h.1.1 w G hb
theorem OnlyC.kept {b : Nat} {u v : World} (h : OnlyC b u v) (w : World) (K : Kept w u) (hb : w.heap.size ≤ b) : Kept w v := by
  refine ⟨h.2.1.trans K.1, h.2.2.trans K.2.1, fun i hi => ?_⟩
  rw [h.1.2.1 i (Nat.lt_of_lt_of_le hi K.size) (by omega)]
  exact K.2.2 i hi
theorem OnlyC.size {b : Nat} {u v : World} (h : OnlyC b u v) : u.heap.size ≤ v.heap.size := h.1.2.2
theorem Rowz.onlyC {b g : Nat} {w w' : World} {C : Array Value} {T : TypeId} (h : Rowz w g C T) (k : OnlyC b w w') (hn : g ≠ b) : Rowz w' g C T := Rowz.only h k.1 hn
/-! ### Results -/
theorem results_tmp_row {P : Program} {fn : Func} {p u : Tmp} {ty : TypeId} (h : fn.results = #[.tmp u, .cell p ty]) (tmps : Array Value) (w : World) (g : Nat) (t : TypeId) (cs : Array Value) (d : TypeDesc) (v : Value)
    (hv : tmps.getD u undef = v) (hp : tmps.getD p undef = .pointer (some ⟨g, 0, none⟩)) (hg : Rowz w g cs t)
    (hu : P.underlying ty = some d) (hd : (match d with | .struct _ | .array _ _ => true | _ => false) = true) (hi : (P.info? ty).map (·.size) = some cs.size) :
    (results fn tmps).run P w = .ok (.tuple #[v, .agg cs]) w := by
  have hp' : tmps[p]?.getD undef = .pointer (some ⟨g, 0, none⟩) := by simpa using hp
  have hv' : tmps[u]?.getD undef = v := by simpa using hv
  simp [results, h, hp', hv', asAddr, run_loadVar_row w g t ty cs (0, 0) d hg hu hd hi, Result.andThen]

theorem results_row_row {P : Program} {fn : Func} {p u : Tmp} {ty ty2 : TypeId} (h : fn.results = #[.cell p ty, .cell u ty2]) (tmps : Array Value) (w : World) (g g2 : Nat) (t t2 : TypeId) (cs cs2 : Array Value) (d d2 : TypeDesc)
    (hp : tmps.getD p undef = .pointer (some ⟨g, 0, none⟩)) (hp2 : tmps.getD u undef = .pointer (some ⟨g2, 0, none⟩)) (hg : Rowz w g cs t) (hg2 : Rowz w g2 cs2 t2)
    (hu : P.underlying ty = some d) (hd : (match d with | .struct _ | .array _ _ => true | _ => false) = true) (hi : (P.info? ty).map (·.size) = some cs.size)
    (hu2 : P.underlying ty2 = some d2) (hd2 : (match d2 with | .struct _ | .array _ _ => true | _ => false) = true) (hi2 : (P.info? ty2).map (·.size) = some cs2.size) :
    (results fn tmps).run P w = .ok (.tuple #[.agg cs, .agg cs2]) w := by
  have hp' : tmps[p]?.getD undef = .pointer (some ⟨g, 0, none⟩) := by simpa using hp
  have hp2' : tmps[u]?.getD undef = .pointer (some ⟨g2, 0, none⟩) := by simpa using hp2
  simp [results, h, hp', hp2', asAddr, run_loadVar_row w g t ty cs (0, 0) d hg hu hd hi, run_loadVar_row w g2 t2 ty2 cs2 (0, 0) d2 hg2 hu2 hd2 hi2, Result.andThen]
/-! ### Operations taken whole -/
theorem wpList_exec {P : Program} {ops : Array Oper} {rest : List Oper} {o : Oper} {t : Array Value} {ds : List Deferred} {w : World} {Q : Exit → Act → World → Prop} (d : Nat) (hd : o.dst = some d) (hw : Region.wanted o (yielded ops t) = true) (v : Value) (w' : World)
    (hx : (execOp (evS t) o).run P w = .ok (.value v) w') (h : wpList P ops Q rest ⟨t.setIfInBounds d v, ds⟩ w') : wpList P ops Q (o :: rest) ⟨t, ds⟩ w := by
  have e : (Act.mk t ds).put o.dst v = ⟨t.setIfInBounds d v, ds⟩ := by rw [hd]; rfl
  rw [← e] at h
  rw [wpList, if_pos hw]
  left
  unfold Oper.wp
  rw [evS_eq, hx]
  exact h
/-- A step that makes memory, its value known by a property only. -/
theorem stepOK_val {P : Program} {F : Nat → Value → World → Prop} {d : Nat} {o : Oper} {t : Array Value} {w : World} (h : ∃ v w', (execOp (evS t) o).run P w = .ok (.value v) w' ∧ Kept w w' ∧ F d v w') : StepOK P F d o t w := by
  obtain ⟨v, w', h1, h2, h3⟩ := h
  exact .value v w' h1 h2 h3
theorem execLoadRow {P : Program} {o : Oper} {t : Array Value} {x : Operand} {w : World} (ty : TypeId) (ho : o.op = .load ty x) (g : Nat) (hx : evS t x = .pointer (some ⟨g, 0, none⟩)) (C : Array Value) (T : TypeId) (d : TypeDesc) (hg : Rowz w g C T)
    (hu : P.underlying ty = some d) (hd : (match d with | .struct _ | .array _ _ => true | _ => false) = true) (hi : (P.info? ty).map (·.size) = some C.size) : (execOp (evS t) o).run P w = .ok (.value (.agg C)) w := by
  unfold execOp
  simp only [ho, hx, Instr.loadAt, Instr.sureAddr, Sem.run_bind, Sem.run_pure, Result.andThen_ok, run_loadVar_row w g T ty C (0, 0) d hg hu hd hi]
theorem yieldsIf_exec {P : Program} {ops : Array Oper} {S : World → Prop} {op : Oper} {t : Array Value} {ds : List Deferred} {v : Value} (hw : Region.wanted op (yielded ops t) = true)
    (hx : ∀ w, S w → (execOp (evS t) op).run P w = .ok (.value v) w) : YieldsIf P ops S op v ⟨t, ds⟩ :=
  .inl ⟨hw, fun w h => by rw [evS_eq]; exact hx w h⟩
theorem wpList_store_madeG {P : Program} {ops : Array Oper} {rest : List Oper} {op : Oper} {a : Act} {Q : Exit → Act → World → Prop} (hgd : op.guard = none) (ty : TypeId) (x y : Operand) (ho : op.op = .store ty x y)
    (w : World) (o : Obj) (cells : Array Value) (hx : a.eval x = .pointer (some ⟨w.heap.size, 0, none⟩)) (hy : a.eval y = .agg cells) (t : TypeId) (cur : Array Value) (hob : o = .cells cur t)
    (hi : (P.info? ty).map (·.size) = some cells.size) (hs : cur.size = cells.size) (h1 : cells.all (·.oneCell') = true)
    (h : ∀ v, Hid (Rowz v w.heap.size cells t) → Hid (Grown w v) → wpList P ops Q rest (a.put op.dst undef) v) : wpList P ops Q (op :: rest) a (w.alloc o) := by
  subst hob
  have hr := Rowz.new w cur t
  exact wpList_store_row hgd ty x y ho w.heap.size cells hx hy t cur hr hi hs h1 (h _ (Lib.hid hr.row) (Lib.hid (Grown.setRow ((Grown.refl w).alloc _ _) hr (Nat.le_refl _) _)))
theorem wpList_store_rowN {P : Program} {ops : Array Oper} {rest : List Oper} {op : Oper} {a : Act} {w : World} {Q : Exit → Act → World → Prop} (hgd : op.guard = none) (ty : TypeId) (x y : Operand) (ho : op.op = .store ty x y)
    (g : Nat) (cells : Array Value) (hx : a.eval x = .pointer (some ⟨g, 0, none⟩)) (hy : a.eval y = .agg cells) (t : TypeId) (cur : Array Value) (hr : Rowz w g cur t)
    (hi : (P.info? ty).map (·.size) = some cells.size) (hs : cur.size = cells.size) (h1 : cells.all (·.oneCell') = true)
    (h : ∀ v, Hid (v = w.setRow g cells) → wpList P ops Q rest (a.put op.dst undef) v) : wpList P ops Q (op :: rest) a w :=
  wpList_store_row hgd ty x y ho g cells hx hy t cur hr hi hs h1 (h _ (Lib.hid rfl))
theorem park_none {P : Program} {ops : Array Oper} {Q : Exit → Act → World → Prop} {o : Oper} {rest : List Oper} {a : Act} {w : World} (_ : o.dst = none) (h : Parked (wpList P ops Q (o :: rest) a w)) : wpList P ops Q (o :: rest) a w := h.out
theorem execEqS {o : Oper} {t : Array Value} {x y : Operand} (a b : ByteArray) (w : World) (ho : o.op = .binOp .eql 9 x y 9) (hx : evS t x = .string a) (hy : evS t y = .string b) :
    (execOp (evS t) o).run Try.prog w = .ok (.value (.bool (a.toList == b.toList))) w := by
  unfold execOp
  rw [ho]
  simp only [hx, hy]
  go_simp
theorem execEq64 {o : Oper} {t : Array Value} {x y : Operand} (a b : Nat) (w : World) (ho : o.op = .binOp .eql 42 x y 42) (hx : evS t x = .int .u64 (a : Int)) (hy : evS t y = .int .u64 (b : Int)) :
    (execOp (evS t) o).run Try.prog w = .ok (.value (.bool ((a : Int) == (b : Int)))) w := by
  unfold execOp
  rw [ho]
  simp only [hx, hy]
  go_simp
theorem execEq8 {o : Oper} {t : Array Value} {x y : Operand} (a b : Nat) (w : World) (ho : o.op = .binOp .eql 5 x y 5) (hx : evS t x = .int .u8 (a : Int)) (hy : evS t y = .int .u8 (b : Int)) :
    (execOp (evS t) o).run Try.prog w = .ok (.value (.bool ((a : Int) == (b : Int)))) w := by
  unfold execOp
  rw [ho]
  simp only [hx, hy]
  go_simp
theorem run_cutT (s : ByteArray) (n : Nat) (w : World) (hn : n ≤ s.size) : (Instr.sliceAt 9 (.string s) (some (.int .i64 (n : Int))) none none).run Try.prog w = .ok (.string (s.extract n s.size)) w := by
  have h : (n : Int) ≤ (s.size : Int) := by omega
  go_simp
theorem run_cutH (s : ByteArray) (n : Nat) (w : World) (hn : n ≤ s.size) : (Instr.sliceAt 9 (.string s) none (some (.int .i64 (n : Int))) none).run Try.prog w = .ok (.string (s.extract 0 n)) w := by
  have h : (n : Int) ≤ (s.size : Int) := by omega
  go_simp
theorem sizeU8c : (Try.prog.info? 5).map (·.size) = some 1 := by kernel_rfl
theorem info32c (l : List UInt8) : (Try.prog.info? 24).map (·.size) = some (bC 32 l).size := by rw [bC_size]; kernel_rfl
theorem execEqHs {o : Oper} {t : Array Value} {x y : Operand} (l m : List UInt8) (hl : l.length = 32) (hm : m.length = 32) (w : World) (ho : o.op = .binOp .eql 24 x y 24) (hx : evS t x = .agg (bC 32 l)) (hy : evS t y = .agg (bC 32 m)) :
    (execOp (evS t) o).run Try.prog w = .ok (.value (.bool (decide (l = m)))) w := by
  have hq0 := sameH l m hl hm w
  have hq1 := guardH
  unfold execOp
  rw [ho]
  simp only [hx, hy]
  go_simp
theorem execEqH1 {o : Oper} {t : Array Value} {x y : Operand} (l : List UInt8) (hl : l.length = 32) (w : World) (ho : o.op = .binOp .eql 24 x y 24) (hx : evS t x = .agg (bC 32 l)) (hy : evS t y = .agg (bC 32 l)) :
    (execOp (evS t) o).run Try.prog w = .ok (.value (.bool true)) w := by
  have h := execEqHs l l hl hl w ho hx hy
  rw [decide_eq_true rfl] at h
  exact h
end Go.Proofs.Ytfadcibmkjpjoaa
