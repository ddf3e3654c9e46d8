/-
  Slices of hashes, wherever they lie and of the call's own: stored into, made, grown, cut, compared (the reference's Hashes). No condition.
-/
import Derived.Test.YtncnlmjhejminaaDoorTag
import Derived.Test.YtncnlmjhejminaaDoorBas
import Derived.Laws.CopyRow
namespace Go.Proofs.YtncnlmjhejminaaDoor
set_option maxRecDepth 4000
open Go.RowKit

theorem store_partH (w : World) (g o : Nat) (t ty : TypeId) (cur cells : Array Value) (hg : w.heap[g]? = some (.cells cur t (0, 0))) (hi : (Tryd.prog.info? ty).map (·.size) = some cells.size)
    (ho : o + cells.size ≤ cur.size) (h1 : cells.all (·.oneCell') = true) :
    (storeVar ty ⟨g, o, none⟩ (.agg cells)).run Tryd.prog w = .ok () (w.setRow g (cur.toList.take o ++ cells.toList ++ cur.toList.drop (o + cells.size)).toArray) := by
  have := run_storeCells_at Tryd.prog g o t cells.toList 0 cur w hg (by simpa using ho) (fun v hv => (Array.all_eq_true_iff_forall_mem.1 h1) v (by simpa using hv))
  cases hq : Tryd.prog.info? ty with
  | none => simp [hq] at hi
  | some i =>
    have hs : cells.size = i.size := by simp [hq] at hi; omega
    simp only [Nat.add_zero, Array.length_toList] at this
    rw [← this]
    simp [storeVar, sizeOf, typeInfo, hq, Value.cells, hs]
/-- 'out[k] = h' on a row of hashes. -/
theorem wpList_store_hash {ops : Array Oper} {rest : List Oper} {o : Oper} {a : Act} {w : World} {Q : Exit → Act → World → Prop} (hgd : o.guard = none) (x y : Operand) (ho : o.op = .store 27 x y)
    (g k n : Nat) (F : Nat → List UInt8) (h : List UInt8) (T : TypeId) (hx : a.eval x = .pointer (some ⟨g, k * 32, none⟩)) (hy : a.eval y = .agg (bC 32 h)) (hr : Hid (Rowz w g (hC n F) T)) (hk : k < n)
    (next : wpList Tryd.prog ops Q rest (a.put o.dst undef) (w.setRow g (hC n (fun i => if i = k then h else F i)))) : wpList Tryd.prog ops Q (o :: rest) a w :=
  wpList_plain hgd fun _ hK => by
    have hs := store_partH w g (k * 32) T 27 (hC n F) (bC 32 h) hr.out (info_hash h) (by rw [hC_size, bC_size]; omega) (bC_one _ _)
    rw [bC_size, hC_put n F k h hk] at hs
    unfold Oper.wp execOp
    simp only [ho, hx, hy, Instr.storeAt, Instr.sureAddr, Sem.run_bind, Sem.run_pure, Result.andThen_ok, hs]
    exact hK _ _ next
theorem zero_hash : ((Tryd.prog.info? 27).bind (·.zero)).map (·.cells) = some (bC 32 []) := by kernel_rfl
theorem run_make_hashes (n : Nat) (w : World) (hn : n ≤ 1000000) :
    (Instr.makeSlice 24 (.int .i64 (n : Int)) (.int .i64 (n : Int))).run Tryd.prog w = .ok (.slice (some ⟨w.heap.size, 0, none⟩) n n) (w.alloc (.cells (hC n (fun _ => [])) 27)) := by
  obtain ⟨i, hi⟩ : ∃ i, Tryd.prog.info? 27 = some i := Option.isSome_iff_exists.1 (by kernel_rfl)
  have hs : i.size = 32 := by
    have h : (Tryd.prog.info? 27).map (·.size) = some 32 := by kernel_rfl
    rw [hi] at h; exact Option.some.inj h
  have hb : i.bytes = 32 := by
    have h : (Tryd.prog.info? 27).map (·.bytes) = some 32 := by kernel_rfl
    rw [hi] at h; exact Option.some.inj h
  have h0 := zero_hash
  rw [hi] at h0
  obtain ⟨z, hz⟩ : ∃ z, i.zero = some z := by cases e : i.zero with | none => simp [e] at h0 | some z => exact ⟨z, rfl⟩
  have hz' : z.cells = bC 32 [] := by simpa [hz] using h0
  have h := run_make (P := Tryd.prog) w 24 27 i _ Tryd.underlying24 hi hz .i64 .i64 (n : Int) (n : Int) (by omega) (by omega) (by rw [hb]; omega) (by omega)
  rw [hs, Int.toNat_natCast, hz', madeCells_hashes] at h
  exact h
/-- The first k hashes stand. -/
def upH (F : Nat → List UInt8) (k i : Nat) : List UInt8 := if i < k then F i else []
theorem upH_put (F : Nat → List UInt8) (n k : Nat) : hC n (fun i => if i = k then F k else upH F k i) = hC n (upH F (k + 1)) := hC_congr _ _ _ fun i _ => by
  unfold upH
  by_cases h : i = k
  · subst h; simp
  · by_cases h2 : i < k
    · rw [if_neg h, if_pos h2, if_pos (by omega)]
    · rw [if_neg h, if_neg h2, if_neg (by omega)]
theorem upH_all (F : Nat → List UInt8) (n : Nat) : hC n (upH F n) = hC n F := hC_congr _ _ _ fun i hi => by unfold upH; rw [if_pos hi]

theorem info_hash32 : (Tryd.prog.info? 27).map (fun i => (i.size, i.bytes)) = some (32, 32) := by kernel_rfl
/-- 'append(out, h)' on a slice of hashes of the call's own. -/
theorem wpList_append_hash {w : World} {T : TypeId} {h0 : List UInt8} {ops : Array Oper} {rest : List Oper} {o : Oper} {a : Act} {Q : Exit → Act → World → Prop} (hgd : o.guard = none) (s x : Operand)
    (ho : o.op = .call { callee := .builtin .append, args := #[s, x], argTypes := #[24, 24] }) (W : World)
    (v : Value) (n : Nat) (F : Nat → List UInt8) (hs : a.eval s = v) (hown : Hid (w.ownsRow W.heap.size 27 32 v n (hC n F).toList)) (hx : a.eval x = .slice (some ⟨w.heap.size, 0, none⟩) 1 1)
    (hn : n ≤ 1000000) (hk : Hid (Kept W w)) (hF : h0 = F n)
    (h : ∀ v' w', Hid (w'.ownsRow W.heap.size 27 32 v' (n + 1) (hC (n + 1) F).toList) → Hid (Kept W w') → wpList Tryd.prog ops Q rest (a.put o.dst v') w') :
    wpList Tryd.prog ops Q (o :: rest) a (w.alloc (.cells (bC 32 h0) T)) := by
  subst hF
  obtain ⟨i, hi⟩ : ∃ i, Tryd.prog.info? 27 = some i := Option.isSome_iff_exists.1 (by kernel_rfl)
  have h32 := info_hash32
  rw [hi] at h32
  have h0 := zero_hash
  rw [hi] at h0
  obtain ⟨z, hz⟩ : ∃ z, i.zero = some z := by cases e : i.zero with | none => simp [e] at h0 | some z => exact ⟨z, rfl⟩
  have hz' : z.cells = bC 32 [] := by simpa [hz] using h0
  have hs32 : i.size = 32 := by simpa using congrArg (Option.map (·.1)) h32
  have hb32 : i.bytes = 32 := by simpa using congrArg (Option.map (·.2)) h32
  refine wpList_append_own (w.alloc (.cells (bC 32 (F n)) T)) hgd s x 24 ho W.heap.size 27 i z 32 32 Tryd.underlying24 hi hz hs32 hb32 (by rw [hz', bC_size]) (by decide) v n (hC n F).toList hs (hown.out.alloc _) ⟨w.heap.size, 0, none⟩ 1 1 (bC 32 (F n)).toList hx (by rw [Array.length_toList, bC_size]) ?_ ?_ (by unfold maxLen; omega) (by omega) (Nat.le_trans hk.out.size (by simp)) ?_
  · intro j y hj
    rw [Addr.add_mid, (Rowz.new w _ _).cell, ← hj, Array.getElem?_toList]
    simp
  · intro y hy
    exact Array.all_eq_true_iff_forall_mem.1 (bC_one 32 (F n)) y (by simpa using hy)
  · intro v' w' ho' hg _
    refine h v' w' (Lib.hid (by rw [hC_snoc] at ho'; exact ho')) (Lib.hid ((hk.out.alloc _).grownBy hg ?_))
    intro k hk'
    exact (hown.out.lt k hk').1
theorem execBuild1 {P : Program} {ty : TypeId} {o : Oper} {t : Array Value} {x : Operand} {w w' : World} {a : Value} {u : Value} (ho : o.op = .buildSlice ty 1 #[(0, x)]) (hx : evS t x = a) (h : (Instr.buildSlice ty 1 #[(0, a)]).run P w = .ok u w') : (execOp (evS t) o).run P w = .ok (.value u) w' := by
  unfold execOp
  simp [ho, hx, h, Result.andThen_ok]
theorem run_build1h (l : List UInt8) (w : World) : (Instr.buildSlice 24 1 #[(0, .agg (bC 32 l))]).run Tryd.prog w = .ok (.slice (some ⟨w.heap.size, 0, none⟩) 1 1) (w.alloc (.cells (bC 32 l) 27)) := by kernel_rfl
/-- What a slice of the call's own holds, in the form of the slices that lie anywhere. -/
theorem HAt.ofOwns {w : World} {base n : Nat} {v : Value} {F : Nat → List UInt8} (h : w.ownsRow base 27 32 v n (hC n F).toList) (hl : ∀ i, i < n → (F i).length = 32) : ∃ p c, v = .slice p n c ∧ n ≤ c ∧ c ≤ maxLen ∧ HAt w p n F := by
  rcases h.2 with ⟨rfl, rfl⟩ | ⟨g, cap, cur, rfl, hb, hg, h1, h2, h3, h4⟩
  · exact ⟨none, 0, rfl, Nat.le_refl _, Nat.zero_le _, HAt.zero _ _ _⟩
  · refine ⟨_, _, rfl, h1, h2, HAt.ofCells (cur := cur) (T := 27) hg hl fun k hk => ?_⟩
    rw [← Array.getElem?_toList (xs := hC n F), ← h4, List.getElem?_take, if_pos hk, Array.getElem?_toList]

theorem sizeHash (w : World) : (Go.sizeOf 27).run Tryd.prog w = .ok 32 w := by kernel_rfl
theorem run_cutH_left (q : Addr) (n c m : Nat) (w : World) (hm : m ≤ c) :
    (Instr.sliceAt 24 (.slice (some q) n c) none (some (.int .i64 (m : Int))) none).run Tryd.prog w = .ok (.slice (some q) m c) w := by
  have e : Tryd.prog.elem 24 = 27 := by kernel_rfl
  have hs := sizeHash w
  rw [run_sliceAt_slice w 24 _ _ _ _ Tryd.underlying24, run_slice_h w 24 (some q) n c Tryd.underlying24 .i64 (m : Int) (by omega) (by omega), e, hs]
  simp [sliced, Result.andThen, Addr.add]
theorem run_cutH_right (q : Addr) (n c m : Nat) (w : World) (hm : m ≤ n) (hc : m < c) :
    (Instr.sliceAt 24 (.slice (some q) n c) (some (.int .i64 (m : Int))) none none).run Tryd.prog w = .ok (.slice (some (q.add (m * 32))) (n - m) (c - m)) w := by
  have e : Tryd.prog.elem 24 = 27 := by kernel_rfl
  have hs := sizeHash w
  have hne : ¬ c = m := by omega
  rw [run_sliceAt_slice w 24 _ _ _ _ Tryd.underlying24, run_slice_l w 24 (some q) n c Tryd.underlying24 .i64 (m : Int) (by omega) (by omega), e, hs]
  simp [sliced, Result.andThen, hne]

/-- A slice of n hashes, as a value. -/
def HSl (n : Nat) (F : Nat → List UInt8) (v : Value) (w : World) : Prop := ∃ p c, v = .slice p n c ∧ n ≤ c ∧ c ≤ maxLen ∧ HAt w p n F
theorem HSl.kept (n : Nat) (F : Nat → List UInt8) (v : Value) (w w' : World) (K : Kept w w') (h : HSl n F v w) : HSl n F v w' := by
  obtain ⟨p, c, hv, h1, h2, h3⟩ := h
  exact ⟨p, c, hv, h1, h2, h3.kept K⟩
theorem execNeHs {o : Oper} {t : Array Value} {x y : Operand} (l m : List UInt8) (hl : l.length = 32) (hm : m.length = 32) (w : World) (ho : o.op = .binOp .neq 27 x y 27) (hx : evS t x = .agg (bC 32 l)) (hy : evS t y = .agg (bC 32 m)) :
    (execOp (evS t) o).run Tryd.prog w = .ok (.value (.bool (!decide (l = m)))) w := by
  have hq0 := sameH l m hl hm w
  have hq1 := guardH
  unfold execOp
  rw [ho]
  simp only [hx, hy]
  go_simp
theorem execNeSelf {o : Oper} {t : Array Value} {x y : Operand} (l : List UInt8) (hl : l.length = 32) (w : World) (ho : o.op = .binOp .neq 27 x y 27) (hx : evS t x = .agg (bC 32 l)) (hy : evS t y = .agg (bC 32 l)) :
    (execOp (evS t) o).run Tryd.prog w = .ok (.value (.bool false)) w := by
  have := execNeHs l l hl hl w ho hx hy
  simpa using this
theorem execIndexH {o : Oper} {t : Array Value} {x y : Operand} (q : Addr) (n c k : Nat) (hk : k < n) (w : World) (ho : o.op = .indexAddr 24 x y) (hx : evS t x = .slice (some q) n c) (hy : evS t y = .int .i64 (k : Int)) :
    (execOp (evS t) o).run Tryd.prog w = .ok (.value (.pointer (some (q.add (k * 32))))) w := by
  have h1 : ((k : Int) < (n : Int)) := by omega
  have hs := sizeHash w
  unfold execOp
  rw [ho]
  simp only [hx, hy]
  go_simp

theorem execLenHs {o : Oper} {t : Array Value} {x : Operand} {p : Option Addr} {n c : Nat} (w : World) (ho : o.op = .call { callee := .builtin .len, args := #[x], argTypes := #[24] }) (hx : evS t x = .slice p n c) :
    (execOp (evS t) o).run Tryd.prog w = .ok (.value (.int .i64 (n : Int))) w := by
  unfold execOp
  rw [ho]
  go_simp
theorem execEqHsV {o : Oper} {t : Array Value} {x y : Operand} (l m : List UInt8) (hl : l.length = 32) (hm : m.length = 32) (b : Bool) (hb : decide (l = m) = b) (w : World) (ho : o.op = .binOp .eql 27 x y 27) (hx : evS t x = .agg (bC 32 l)) (hy : evS t y = .agg (bC 32 m)) :
    (execOp (evS t) o).run Tryd.prog w = .ok (.value (.bool b)) w := by
  rw [← hb]; exact execEqHs l m hl hm w ho hx hy
theorem load_h {w : World} {g : Nat} {l : List UInt8} {o : Oper} {t : Array Value} {x : Operand} (ho : o.op = .load 27 x) (hx : evS t x = .pointer (some ⟨g, 0, none⟩)) (hg : Rowz w g (bC 32 l) 27) :
    (execOp (evS t) o).run Tryd.prog w = .ok (.value (.agg (bC 32 l))) w :=
  execLoadRow 27 ho g hx _ 27 _ hg Tryd.underlying27 rfl (info_hash _)
theorem load_at {o : Oper} {t : Array Value} {x : Operand} {w : World} {q : Addr} {n : Nat} {F : Nat → List UInt8} (k : Nat) (ho : o.op = .load 27 x) (hx : evS t x = .pointer (some (q.add (k * 32)))) (hF : HAt w (some q) n F) (hk : k < n) :
    (execOp (evS t) o).run Tryd.prog w = .ok (.value (.agg (bC 32 (F k)))) w := by
  have hr := hF.load k hk
  unfold execOp
  simp only [ho, hx, Sem.run_bind, Sem.run_pure, hr, Result.andThen_ok]
end Go.Proofs.YtncnlmjhejminaaDoor
