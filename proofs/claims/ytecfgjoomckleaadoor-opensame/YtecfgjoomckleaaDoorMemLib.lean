/-
  Laws on memory, for methods behind a pointer: a stretch of a row loaded, stored, copied into from a string ('spl'); 'Only b': nothing but block b and new memory is touched. No condition.
-/
import Derived.Test.YtecfgjoomckleaaDoorDrawLib
import Derived.Laws.CopyRow
import Derived.Lib.BufferWrite
namespace Go.Proofs.YtecfgjoomckleaaDoor
set_option maxRecDepth 4000
open Go.RowKit

/-- A row with 'vs' laid over it from place o on. -/
def spl (cur : Array Value) (o : Nat) (vs : List Value) : Array Value := (cur.toList.take o ++ vs ++ cur.toList.drop (o + vs.length)).toArray

theorem run_storeVar_part {P : Program} (w : World) (g o : Nat) (ty t : TypeId) (cells cur : Array Value) (hg : Rowz w g cur t) (hfit : o + cells.size ≤ cur.size) (hi : (P.info? ty).map (·.size) = some cells.size) (h1 : cells.all (·.oneCell') = true) :
    (storeVar ty ⟨g, o, none⟩ (.agg cells)).run P w = .ok () (w.setRow g (spl cur o cells.toList)) := by
  have := run_storeCells_at P g o t cells.toList 0 cur w hg (by simpa using hfit) (fun v hv => (Array.all_eq_true_iff_forall_mem.1 h1) v (by simpa using hv))
  cases hq : P.info? ty with
  | none => simp [hq] at hi
  | some i =>
    have hs : cells.size = i.size := by simp [hq] at hi; omega
    simp only [Nat.add_zero] at this
    simp [storeVar, sizeOf, typeInfo, hq, Value.cells, hs, this, spl]
theorem wpList_store_part {P : Program} {ops : Array Oper} {rest : List Oper} {op : Oper} {a : Act} {w : World} {Q : Exit → Act → World → Prop} (hgd : op.guard = none) (ty : TypeId) (x y : Operand) (ho : op.op = .store ty x y)
    (g o : Nat) (cells : Array Value) (hx : a.eval x = .pointer (some ⟨g, o, none⟩)) (hy : a.eval y = .agg cells) (t : TypeId) (cur : Array Value) (hg : Rowz w g cur t)
    (hfit : o + cells.size ≤ cur.size) (hi : (P.info? ty).map (·.size) = some cells.size) (h1 : cells.all (·.oneCell') = true)
    (h : wpList P ops Q rest (a.put op.dst undef) (w.setRow g (spl cur o cells.toList))) : wpList P ops Q (op :: rest) a w :=
  wpList_plain hgd fun _ hK => by
    unfold Oper.wp execOp
    simp only [ho, hx, hy, Instr.storeAt, Instr.sureAddr, Sem.run_bind, Sem.run_pure, Result.andThen_ok, run_storeVar_part w g o ty t cells cur hg hfit hi h1]
    exact hK _ _ h

/-- 'copy(dst, s)', s a string, dst lying in row g from place o on: as many bytes go over as both hold. -/
theorem run_copy_min {P : Program} (w : World) (dT sT ty elem : TypeId) (g o dLen dCap : Nat) (s : ByteArray) (cur : Array Value) (t : TypeId) (m : Nat) (hm : m = min s.size dLen)
    (hu : P.underlying dT = some (.slice elem)) (hs : (P.info? elem).map (·.size) = some 1) (hg : Rowz w g cur t) (hfit : o + m ≤ cur.size) :
    (Builtin.copy_ #[dT, sT] ty #[.slice (some ⟨g, o, none⟩) dLen dCap, .string s]).run P w =
      .ok (goInt m) (w.setRow g (spl cur o (Lib.byteCells (s.data.toList.take m)))) := by
  have hlen : (Lib.byteCells (s.data.toList.take m)).length = m := by rw [Lib.byteCells_length, List.length_take, ← Lib.size_eq]; omega
  have hst := run_storeCells_at P g o t (Lib.byteCells (s.data.toList.take m)) 0 cur w hg (by rw [hlen]; simpa using hfit) (Lib.byteCells_one _)
  have hmin : Nat.min s.size dLen = m := hm.symm
  have htk : List.take m (List.map (fun b : UInt8 => Value.int IntKind.u8 (b.toNat : Int)) s.data.toList) = Lib.byteCells (s.data.toList.take m) := by
    rw [← List.map_take]; rfl
  simp only [Nat.add_zero] at hst
  cases hq : P.info? elem with
  | none => simp [hq] at hs
  | some i =>
    simp [Builtin.copy_, run_underlying hu, Builtin.lenOf, Builtin.firstCells, sizeOf, typeInfo, hq, hmin]
    rw [htk, hst]
    simp [Result.andThen, spl]
theorem wpList_copy_str {P : Program} {w : World} {ops : Array Oper} {rest : List Oper} {o : Oper} {a : Act} {Q : Exit → Act → World → Prop} (hgd : o.guard = none) (d x : Operand) (dT sT : TypeId)
    (ho : o.op = .call { callee := .builtin .copy, args := #[d, x], argTypes := #[dT, sT] }) (elem : TypeId) (hu : P.underlying dT = some (.slice elem)) (hs : (P.info? elem).map (·.size) = some 1)
    (g off dLen dCap : Nat) (hd : a.eval d = .slice (some ⟨g, off, none⟩) dLen dCap) (s : ByteArray) (hx : a.eval x = .string s) (cur : Array Value) (t : TypeId) (hg : Rowz w g cur t)
    (m : Nat) (hm : m = min s.size dLen) (hfit : off + m ≤ cur.size)
    (h : wpList P ops Q rest (a.put o.dst (goInt m)) (w.setRow g (spl cur off (Lib.byteCells (s.data.toList.take m))))) : wpList P ops Q (o :: rest) a w :=
  wpList_plain hgd fun _ hK => by
    have hrun := run_copy_min (P := P) w dT sT o.type elem g off dLen dCap s cur t m hm hu hs hg hfit
    unfold Oper.wp
    simp [execOp, ho, resolve, invoke, builtin, hd, hx, hrun, Result.andThen]
    exact hK _ _ h

/-- .. as one step of a statement that draws its order. -/
theorem step_copy_str {P : Program} {w : World} {ops : Array Oper} {o : Oper} {a : Act} {K : Act → World → Prop} {Q : Exit → Act → World → Prop} {E : Prop} (hgd : o.guard = none) (d x : Operand) (dT sT : TypeId)
    (ho : o.op = .call { callee := .builtin .copy, args := #[d, x], argTypes := #[dT, sT] }) (elem : TypeId) (hu : P.underlying dT = some (.slice elem)) (hs : (P.info? elem).map (·.size) = some 1)
    (g off dLen dCap : Nat) (hd : a.eval d = .slice (some ⟨g, off, none⟩) dLen dCap) (s : ByteArray) (hx : a.eval x = .string s) (cur : Array Value) (t : TypeId) (hg : Rowz w g cur t)
    (m : Nat) (hm : m = min s.size dLen) (hfit : off + m ≤ cur.size)
    (h : K (a.put o.dst (goInt m)) (w.setRow g (spl cur off (Lib.byteCells (s.data.toList.take m))))) : if Region.wanted o (yielded ops a.tmps) = true then Oper.wp P o a w K Q else E := by
  have hw : Region.wanted o (yielded ops a.tmps) = true := by simp [Region.wanted, hgd]
  rw [if_pos hw]
  have hrun := run_copy_min (P := P) w dT sT o.type elem g off dLen dCap s cur t m hm hu hs hg hfit
  unfold Oper.wp
  simp [execOp, ho, resolve, invoke, builtin, hd, hx, hrun, Result.andThen]
  exact h

theorem spl_get (cur : Array Value) (o : Nat) (vs : List Value) (i : Nat) (hfit : o + vs.length ≤ cur.size) :
    (spl cur o vs)[i]? = if i < o then cur[i]? else if i < o + vs.length then vs[i - o]? else cur[i]? := by
  have hl : (cur.toList.take o).length = o := by simp; omega
  unfold spl
  rw [List.getElem?_toArray, List.append_assoc, List.getElem?_append, hl, List.getElem?_append, List.getElem?_drop]
  by_cases h1 : i < o
  · rw [if_pos h1, if_pos h1, List.getElem?_take_of_lt h1, Array.getElem?_toList]
  · rw [if_neg h1, if_neg h1]
    by_cases h2 : i < o + vs.length
    · rw [if_pos (by omega), if_pos h2]
    · rw [if_neg (by omega), if_neg h2, Array.getElem?_toList]
      congr 1; omega
theorem byteCells_get (m : List UInt8) (i : Nat) : (Lib.byteCells m)[i]? = m[i]?.map fun b => Value.int .u8 ((b.toNat : Nat) : Int) := by simp [Lib.byteCells]
theorem bC_getAny (n : Nat) (l : List UInt8) (i : Nat) : (bC n l)[i]? = if i < n then some (.int .u8 (((l.getD i 0).toNat : Nat) : Int)) else none := by
  by_cases h : i < n
  · rw [if_pos h, bC_get n l i h]
  · rw [if_neg h, Array.getElem?_eq_none (by rw [bC_size]; omega)]
theorem bC_spl (n : Nat) (l m : List UInt8) (o : Nat) (hl : l.length = o) (h : o + m.length ≤ n) : spl (bC n l) o (Lib.byteCells m) = bC n (l ++ m) := by
  apply Array.ext_getElem?
  intro i
  rw [spl_get _ _ _ _ (by rw [Lib.byteCells_length, bC_size]; exact h), bC_getAny, bC_getAny, byteCells_get, Lib.byteCells_length, List.getD_eq_getElem?_getD, List.getD_eq_getElem?_getD]
  by_cases h1 : i < o
  · rw [if_pos h1, List.getElem?_append_left (by omega)]
  · rw [if_neg h1, List.getElem?_append_right (by omega), hl]
    by_cases h2 : i < o + m.length
    · rw [if_pos h2, if_pos (by omega), List.getElem?_eq_getElem (by omega)]; rfl
    · rw [if_neg h2, List.getElem?_eq_none (by omega), List.getElem?_eq_none (by omega)]

/-- Nothing but block b, and new memory. -/
def Only (b : Nat) (w w' : World) : Prop := (∀ w0, Grown w0 w → w0.heap.size ≤ b → Grown w0 w') ∧ (∀ i, i < w.heap.size → i ≠ b → w'.heap[i]? = w.heap[i]?) ∧ w.heap.size ≤ w'.heap.size
theorem Only.refl (b : Nat) (w : World) : Only b w w := ⟨fun _ h _ => h, fun _ _ _ => rfl, Nat.le_refl _⟩
theorem Only.trans {b : Nat} {u v w : World} (h : Only b u v) (k : Only b v w) : Only b u w :=
  ⟨fun w0 g hb => k.1 w0 (h.1 w0 g hb) hb, fun i hi hn => (k.2.1 i (Nat.lt_of_lt_of_le hi h.2.2) hn).trans (h.2.1 i hi hn), Nat.le_trans h.2.2 k.2.2⟩
theorem Only.ofGrown {u v : World} (b : Nat) (h : Grown u v) : Only b u v := ⟨fun _ g _ => Grown.trans g h, fun i hi _ => Grown.block h i hi, h.2.2⟩
theorem Only.ofRow {b : Nat} {w : World} {C : Array Value} {T : TypeId} (hr : Rowz w b C T) (D : Array Value) : Only b w (w.setRow b D) :=
  ⟨fun _ g hb => Grown.setRow g hr hb D, fun i _ hn => setRow_other w b i D hn, by simp⟩
theorem Only.ofCell {b : Nat} (w : World) (i : Nat) (v : Value) : Only b w (w.setCell ⟨b, i, none⟩ v) :=
  ⟨fun _ g hb => g.setCell hb v, fun i _ hn => heap_setCell_other w _ i v hn, by simp⟩
theorem Rowz.only {b g : Nat} {w w' : World} {C : Array Value} {T : TypeId} (h : Rowz w g C T) (k : Only b w w') (hn : g ≠ b) : Rowz w' g C T := (k.2.1 g h.lt hn).trans h

end Go.Proofs.YtecfgjoomckleaaDoor
