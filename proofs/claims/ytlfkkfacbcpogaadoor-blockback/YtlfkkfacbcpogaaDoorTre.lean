/-
  Slices of hashes, wherever they lie and of the call's own: stored into, made, grown, cut, compared (the reference's Hashes). No condition.
  The shape of trees as mathematics: leftN n (the leaves on the left side), dn n i (the path down to leaf i of n), sidesN n i (the path up); its length, and that different leaves have different paths.
  Contracts of shape.Left and milepostref11.Left.
  Trees of hashes as mathematics: topN F n (the top of n hashes), lf S (the hashes of leaves), txtsN S n (the texts of a tree of n leaves), and: trees that differ have different roots or two different texts of one hash.
  Contracts of tree.mapped (of strings, by tag.LeafSum), tree.Leaves and of the reference's Leaves. Conditions: at most a million leaves of at most a million bytes; sha's table of round constants stands.
  Contracts of tree.split, tree.Top, tree.Root and of the reference's Top and Root. Conditions: a slice's length and capacity fit; sha's table of round constants stands; leaves of at most a million bytes.
  Contracts of tree.Root, and of the reference's Top, Root and Hashes. Conditions: a slice's length and capacity fit; sha's table of round constants stands (tree.Root); at most a million leaves of at most a million bytes.
  For layer 12's laws: the reference's Hashes; Much and awake of milepostlaw12. Conditions: sizes fit; sha's table of round constants stands (awake).
  Contracts of shape.down: the value that it makes is an iterator that yields the path down, step by step.
  Contracts of shape.Depth and shape.Sides: loops over the iterator.
  Contracts of milepostref11: Sides, Depth; of milepostlaw11: same, awake.
-/
import Derived.Test.YtlfkkfacbcpogaaDoorTag
import Derived.Test.YtlfkkfacbcpogaaDoorBas
import Derived.Laws.CopyRow
import Derived.Test.YtlfkkfacbcpogaaDoorProg
import Derived.WalkKit
import Derived.Lib.Hide
import Derived.Test.YtlfkkfacbcpogaaDoorSha
import Derived.RangeFuncNested
import Derived.RangeFuncBound
import Derived.RangeFuncCalls
import Derived.RangeFuncLeaves
import Derived.Shelf.Abstract
import Derived.Shelf.RegionOpen
import Derived.OwnWalkIn
import Derived.TacticsInMore
import Derived.LoopNIn
import Derived.LoopIn
import Derived.RangeFuncBox
import Derived.BigQuiet
import Derived.OwnWalk
namespace Go.Proofs.YtlfkkfacbcpogaaDoor
set_option maxRecDepth 4000
open Go.RowKit

theorem store_partH (w : World) (g o : Nat) (t ty : TypeId) (cur cells : Array Value) (hg : w.heap[g]? = some (.cells cur t (0, 0))) (hi : (Tryd.prog.info? ty).map (·.size) = some cells.size)
    (ho : o + cells.size ≤ cur.size) (h1 : cells.all (·.oneCell') = true) :
    (storeVar ty ⟨g, o, none⟩ (.agg cells)).run Tryd.prog w = .ok () (w.setRow g (cur.toList.take o ++ cells.toList ++ cur.toList.drop (o + cells.size)).toArray) := by
  have := run_storeCells_at Tryd.prog g o t cells.toList 0 cur w hg (by simpa using ho) (fun v hv => (Array.all_eq_true_iff_forall_mem.1 h1) v (by simpa using hv))
  cases hq : Tryd.prog.info? ty with
  | none => simp [hq] at hi
  | some i =>
    have hs : cells.size = i.size := by simp [hq] at hi; omega
    simp only [Nat.add_zero, Array.length_toList] at this
    rw [← this]
    simp [storeVar, sizeOf, typeInfo, hq, Value.cells, hs]
/-- 'out[k] = h' on a row of hashes. -/
theorem wpList_store_hash {ops : Array Oper} {rest : List Oper} {o : Oper} {a : Act} {w : World} {Q : Exit → Act → World → Prop} (hgd : o.guard = none) (x y : Operand) (ho : o.op = .store 31 x y)
    (g k n : Nat) (F : Nat → List UInt8) (h : List UInt8) (T : TypeId) (hx : a.eval x = .pointer (some ⟨g, k * 32, none⟩)) (hy : a.eval y = .agg (bC 32 h)) (hr : Hid (Rowz w g (hC n F) T)) (hk : k < n)
    (next : wpList Tryd.prog ops Q rest (a.put o.dst undef) (w.setRow g (hC n (fun i => if i = k then h else F i)))) : wpList Tryd.prog ops Q (o :: rest) a w :=
  wpList_plain hgd fun _ hK => by
    have hs := store_partH w g (k * 32) T 31 (hC n F) (bC 32 h) hr.out (info_hash h) (by rw [hC_size, bC_size]; omega) (bC_one _ _)
    rw [bC_size, hC_put n F k h hk] at hs
    unfold Oper.wp execOp
    simp only [ho, hx, hy, Instr.storeAt, Instr.sureAddr, Sem.run_bind, Sem.run_pure, Result.andThen_ok, hs]
    exact hK _ _ next
theorem zero_hash : ((Tryd.prog.info? 31).bind (·.zero)).map (·.cells) = some (bC 32 []) := by kernel_rfl
theorem run_make_hashes (n : Nat) (w : World) (hn : n ≤ 1000000) :
    (Instr.makeSlice 23 (.int .i64 (n : Int)) (.int .i64 (n : Int))).run Tryd.prog w = .ok (.slice (some ⟨w.heap.size, 0, none⟩) n n) (w.alloc (.cells (hC n (fun _ => [])) 31)) := by
  obtain ⟨i, hi⟩ : ∃ i, Tryd.prog.info? 31 = some i := Option.isSome_iff_exists.1 (by kernel_rfl)
  have hs : i.size = 32 := by
    have h : (Tryd.prog.info? 31).map (·.size) = some 32 := by kernel_rfl
    rw [hi] at h; exact Option.some.inj h
  have hb : i.bytes = 32 := by
    have h : (Tryd.prog.info? 31).map (·.bytes) = some 32 := by kernel_rfl
    rw [hi] at h; exact Option.some.inj h
  have h0 := zero_hash
  rw [hi] at h0
  obtain ⟨z, hz⟩ : ∃ z, i.zero = some z := by cases e : i.zero with | none => simp [e] at h0 | some z => exact ⟨z, rfl⟩
  have hz' : z.cells = bC 32 [] := by simpa [hz] using h0
  have h := run_make (P := Tryd.prog) w 23 31 i _ Tryd.underlying23 hi hz .i64 .i64 (n : Int) (n : Int) (by omega) (by omega) (by rw [hb]; omega) (by omega)
  rw [hs, Int.toNat_natCast, hz', madeCells_hashes] at h
  exact h
/-- The first k hashes stand. -/
def upH (F : Nat → List UInt8) (k i : Nat) : List UInt8 := if i < k then F i else []
theorem upH_put (F : Nat → List UInt8) (n k : Nat) : hC n (fun i => if i = k then F k else upH F k i) = hC n (upH F (k + 1)) := hC_congr _ _ _ fun i _ => by
  unfold upH
  by_cases h : i = k
  · subst h; simp
  · by_cases h2 : i < k
    · rw [if_neg h, if_pos h2, if_pos (by omega)]
    · rw [if_neg h, if_neg h2, if_neg (by omega)]
theorem upH_all (F : Nat → List UInt8) (n : Nat) : hC n (upH F n) = hC n F := hC_congr _ _ _ fun i hi => by unfold upH; rw [if_pos hi]

theorem info_hash32 : (Tryd.prog.info? 31).map (fun i => (i.size, i.bytes)) = some (32, 32) := by kernel_rfl
/-- 'append(out, h)' on a slice of hashes of the call's own. -/
theorem wpList_append_hash {w : World} {T : TypeId} {h0 : List UInt8} {ops : Array Oper} {rest : List Oper} {o : Oper} {a : Act} {Q : Exit → Act → World → Prop} (hgd : o.guard = none) (s x : Operand)
    (ho : o.op = .call { callee := .builtin .append, args := #[s, x], argTypes := #[23, 23] }) (W : World)
    (v : Value) (n : Nat) (F : Nat → List UInt8) (hs : a.eval s = v) (hown : Hid (w.ownsRow W.heap.size 31 32 v n (hC n F).toList)) (hx : a.eval x = .slice (some ⟨w.heap.size, 0, none⟩) 1 1)
    (hn : n ≤ 1000000) (hk : Hid (Kept W w)) (hF : h0 = F n)
    (h : ∀ v' w', Hid (w'.ownsRow W.heap.size 31 32 v' (n + 1) (hC (n + 1) F).toList) → Hid (Kept W w') → wpList Tryd.prog ops Q rest (a.put o.dst v') w') :
    wpList Tryd.prog ops Q (o :: rest) a (w.alloc (.cells (bC 32 h0) T)) := by
  subst hF
  obtain ⟨i, hi⟩ : ∃ i, Tryd.prog.info? 31 = some i := Option.isSome_iff_exists.1 (by kernel_rfl)
  have h32 := info_hash32
  rw [hi] at h32
  have h0 := zero_hash
  rw [hi] at h0
  obtain ⟨z, hz⟩ : ∃ z, i.zero = some z := by cases e : i.zero with | none => simp [e] at h0 | some z => exact ⟨z, rfl⟩
  have hz' : z.cells = bC 32 [] := by simpa [hz] using h0
  have hs32 : i.size = 32 := by simpa using congrArg (Option.map (·.1)) h32
  have hb32 : i.bytes = 32 := by simpa using congrArg (Option.map (·.2)) h32
  refine wpList_append_own (w.alloc (.cells (bC 32 (F n)) T)) hgd s x 23 ho W.heap.size 31 i z 32 32 Tryd.underlying23 hi hz hs32 hb32 (by rw [hz', bC_size]) (by decide) v n (hC n F).toList hs (hown.out.alloc _) ⟨w.heap.size, 0, none⟩ 1 1 (bC 32 (F n)).toList hx (by rw [Array.length_toList, bC_size]) ?_ ?_ (by unfold maxLen; omega) (by omega) (Nat.le_trans hk.out.size (by simp)) ?_
  · intro j y hj
    rw [Addr.add_mid, (Rowz.new w _ _).cell, ← hj, Array.getElem?_toList]
    simp
  · intro y hy
    exact Array.all_eq_true_iff_forall_mem.1 (bC_one 32 (F n)) y (by simpa using hy)
  · intro v' w' ho' hg _
    refine h v' w' (Lib.hid (by rw [hC_snoc] at ho'; exact ho')) (Lib.hid ((hk.out.alloc _).grownBy hg ?_))
    intro k hk'
    exact (hown.out.lt k hk').1
theorem execBuild1 {P : Program} {ty : TypeId} {o : Oper} {t : Array Value} {x : Operand} {w w' : World} {a : Value} {u : Value} (ho : o.op = .buildSlice ty 1 #[(0, x)]) (hx : evS t x = a) (h : (Instr.buildSlice ty 1 #[(0, a)]).run P w = .ok u w') : (execOp (evS t) o).run P w = .ok (.value u) w' := by
  unfold execOp
  simp [ho, hx, h, Result.andThen_ok]
theorem run_build1h (l : List UInt8) (w : World) : (Instr.buildSlice 23 1 #[(0, .agg (bC 32 l))]).run Tryd.prog w = .ok (.slice (some ⟨w.heap.size, 0, none⟩) 1 1) (w.alloc (.cells (bC 32 l) 31)) := by kernel_rfl
/-- What a slice of the call's own holds, in the form of the slices that lie anywhere. -/
theorem HAt.ofOwns {w : World} {base n : Nat} {v : Value} {F : Nat → List UInt8} (h : w.ownsRow base 31 32 v n (hC n F).toList) (hl : ∀ i, i < n → (F i).length = 32) : ∃ p c, v = .slice p n c ∧ n ≤ c ∧ c ≤ maxLen ∧ HAt w p n F := by
  rcases h.2 with ⟨rfl, rfl⟩ | ⟨g, cap, cur, rfl, hb, hg, h1, h2, h3, h4⟩
  · exact ⟨none, 0, rfl, Nat.le_refl _, Nat.zero_le _, HAt.zero _ _ _⟩
  · refine ⟨_, _, rfl, h1, h2, HAt.ofCells (cur := cur) (T := 31) hg hl fun k hk => ?_⟩
    rw [← Array.getElem?_toList (xs := hC n F), ← h4, List.getElem?_take, if_pos hk, Array.getElem?_toList]

theorem sizeHash (w : World) : (Go.sizeOf 31).run Tryd.prog w = .ok 32 w := by kernel_rfl
theorem run_cutH_left (q : Addr) (n c m : Nat) (w : World) (hm : m ≤ c) :
    (Instr.sliceAt 23 (.slice (some q) n c) none (some (.int .i64 (m : Int))) none).run Tryd.prog w = .ok (.slice (some q) m c) w := by
  have e : Tryd.prog.elem 23 = 31 := by kernel_rfl
  have hs := sizeHash w
  rw [run_sliceAt_slice w 23 _ _ _ _ Tryd.underlying23, run_slice_h w 23 (some q) n c Tryd.underlying23 .i64 (m : Int) (by omega) (by omega), e, hs]
  simp [sliced, Result.andThen, Addr.add]
theorem run_cutH_right (q : Addr) (n c m : Nat) (w : World) (hm : m ≤ n) (hc : m < c) :
    (Instr.sliceAt 23 (.slice (some q) n c) (some (.int .i64 (m : Int))) none none).run Tryd.prog w = .ok (.slice (some (q.add (m * 32))) (n - m) (c - m)) w := by
  have e : Tryd.prog.elem 23 = 31 := by kernel_rfl
  have hs := sizeHash w
  have hne : ¬ c = m := by omega
  rw [run_sliceAt_slice w 23 _ _ _ _ Tryd.underlying23, run_slice_l w 23 (some q) n c Tryd.underlying23 .i64 (m : Int) (by omega) (by omega), e, hs]
  simp [sliced, Result.andThen, hne]

/-- A slice of n hashes, as a value. -/
def HSl (n : Nat) (F : Nat → List UInt8) (v : Value) (w : World) : Prop := ∃ p c, v = .slice p n c ∧ n ≤ c ∧ c ≤ maxLen ∧ HAt w p n F
theorem HSl.kept (n : Nat) (F : Nat → List UInt8) (v : Value) (w w' : World) (K : Kept w w') (h : HSl n F v w) : HSl n F v w' := by
  obtain ⟨p, c, hv, h1, h2, h3⟩ := h
  exact ⟨p, c, hv, h1, h2, h3.kept K⟩
theorem execNeHs {o : Oper} {t : Array Value} {x y : Operand} (l m : List UInt8) (hl : l.length = 32) (hm : m.length = 32) (w : World) (ho : o.op = .binOp .neq 31 x y 31) (hx : evS t x = .agg (bC 32 l)) (hy : evS t y = .agg (bC 32 m)) :
    (execOp (evS t) o).run Tryd.prog w = .ok (.value (.bool (!decide (l = m)))) w := by
  have hq0 := sameH l m hl hm w
  have hq1 := guardH
  unfold execOp
  rw [ho]
  simp only [hx, hy]
  go_simp
theorem execNeSelf {o : Oper} {t : Array Value} {x y : Operand} (l : List UInt8) (hl : l.length = 32) (w : World) (ho : o.op = .binOp .neq 31 x y 31) (hx : evS t x = .agg (bC 32 l)) (hy : evS t y = .agg (bC 32 l)) :
    (execOp (evS t) o).run Tryd.prog w = .ok (.value (.bool false)) w := by
  have := execNeHs l l hl hl w ho hx hy
  simpa using this
theorem execIndexH {o : Oper} {t : Array Value} {x y : Operand} (q : Addr) (n c k : Nat) (hk : k < n) (w : World) (ho : o.op = .indexAddr 23 x y) (hx : evS t x = .slice (some q) n c) (hy : evS t y = .int .i64 (k : Int)) :
    (execOp (evS t) o).run Tryd.prog w = .ok (.value (.pointer (some (q.add (k * 32))))) w := by
  have h1 : ((k : Int) < (n : Int)) := by omega
  have hs := sizeHash w
  unfold execOp
  rw [ho]
  simp only [hx, hy]
  go_simp

theorem execLenHs {o : Oper} {t : Array Value} {x : Operand} {p : Option Addr} {n c : Nat} (w : World) (ho : o.op = .call { callee := .builtin .len, args := #[x], argTypes := #[23] }) (hx : evS t x = .slice p n c) :
    (execOp (evS t) o).run Tryd.prog w = .ok (.value (.int .i64 (n : Int))) w := by
  unfold execOp
  rw [ho]
  go_simp
theorem execEqHsV {o : Oper} {t : Array Value} {x y : Operand} (l m : List UInt8) (hl : l.length = 32) (hm : m.length = 32) (b : Bool) (hb : decide (l = m) = b) (w : World) (ho : o.op = .binOp .eql 31 x y 31) (hx : evS t x = .agg (bC 32 l)) (hy : evS t y = .agg (bC 32 m)) :
    (execOp (evS t) o).run Tryd.prog w = .ok (.value (.bool b)) w := by
  rw [← hb]; exact execEqHs l m hl hm w ho hx hy
theorem load_h {w : World} {g : Nat} {l : List UInt8} {o : Oper} {t : Array Value} {x : Operand} (ho : o.op = .load 31 x) (hx : evS t x = .pointer (some ⟨g, 0, none⟩)) (hg : Rowz w g (bC 32 l) 31) :
    (execOp (evS t) o).run Tryd.prog w = .ok (.value (.agg (bC 32 l))) w :=
  execLoadRow 31 ho g hx _ 31 _ hg Tryd.underlying31 rfl (info_hash _)
theorem load_at {o : Oper} {t : Array Value} {x : Operand} {w : World} {q : Addr} {n : Nat} {F : Nat → List UInt8} (k : Nat) (ho : o.op = .load 31 x) (hx : evS t x = .pointer (some (q.add (k * 32)))) (hF : HAt w (some q) n F) (hk : k < n) :
    (execOp (evS t) o).run Tryd.prog w = .ok (.value (.agg (bC 32 (F k)))) w := by
  have hr := hF.load k hk
  unfold execOp
  simp only [ho, hx, Sem.run_bind, Sem.run_pure, hr, Result.andThen_ok]
end Go.Proofs.YtlfkkfacbcpogaaDoor
namespace Go.Proofs.YtlfkkfacbcpogaaDoor
set_option maxRecDepth 4000

/-- The greatest power of two below n (0 where there is none). -/
def leftN (n : Nat) : Nat := if n < 2 then 0 else 2 ^ Nat.log2 (n - 1)
theorem leftN_two {n : Nat} (h : 2 ≤ n) : leftN n = 2 ^ Nat.log2 (n - 1) := by rw [leftN, if_neg (by omega)]
theorem leftN_pos {n : Nat} (h : 2 ≤ n) : 0 < leftN n := by rw [leftN_two h]; exact Nat.pow_pos (by decide)
theorem leftN_lt {n : Nat} (h : 2 ≤ n) : leftN n < n := by
  rw [leftN_two h]; have := Nat.log2_self_le (n := n - 1) (by omega); omega
theorem leftN_double {n : Nat} (h : 2 ≤ n) : n ≤ 2 * leftN n := by
  rw [leftN_two h]
  have := Nat.lt_log2_self (n := n - 1)
  rw [Nat.pow_succ] at this
  omega
theorem leftN_small {n : Nat} (h : n < 2) : leftN n = 0 := by rw [leftN, if_pos h]
theorem leftN_eq {n j : Nat} (h1 : 2 ^ j < n) (h2 : n ≤ 2 * 2 ^ j) : leftN n = 2 ^ j := by
  have hp : 0 < 2 ^ j := Nat.pow_pos (by decide)
  rw [leftN_two (by omega)]
  have : Nat.log2 (n - 1) = j := by
    rw [Nat.log2_eq_iff (by omega), Nat.pow_succ]; omega
  rw [this]

/-- The path down to leaf i of n: does each step lead to the right side? -/
def dn (n i : Nat) : List Bool :=
  if _h : n < 2 then []
  else if i < leftN n then false :: dn (leftN n) i else true :: dn (n - leftN n) (i - leftN n)
termination_by n
decreasing_by
  · exact leftN_lt (by omega)
  · have := leftN_pos (n := n) (by omega); omega
theorem dn_one {n : Nat} (i : Nat) (h : n < 2) : dn n i = [] := by rw [dn, dif_pos h]
theorem dn_left {n i : Nat} (h : 2 ≤ n) (hi : i < leftN n) : dn n i = false :: dn (leftN n) i := by rw [dn, dif_neg (by omega), if_pos hi]
theorem dn_right {n i : Nat} (h : 2 ≤ n) (hi : leftN n ≤ i) : dn n i = true :: dn (n - leftN n) (i - leftN n) := by rw [dn, dif_neg (by omega), if_neg (by omega)]
/-- The path up: the lowest step first. -/
def sidesN (n i : Nat) : List Bool := (dn n i).reverse
theorem sidesN_length (n i : Nat) : (sidesN n i).length = (dn n i).length := by simp [sidesN]
theorem sidesN_one {n : Nat} (i : Nat) (h : n < 2) : sidesN n i = [] := by simp [sidesN, dn_one i h]
theorem sidesN_left {n i : Nat} (h : 2 ≤ n) (hi : i < leftN n) : sidesN n i = sidesN (leftN n) i ++ [false] := by simp [sidesN, dn_left h hi]
theorem sidesN_right {n i : Nat} (h : 2 ≤ n) (hi : leftN n ≤ i) : sidesN n i = sidesN (n - leftN n) (i - leftN n) ++ [true] := by simp [sidesN, dn_right h hi]

theorem dn_len (k : Nat) : ∀ (n i : Nat), n ≤ 2 ^ k → (dn n i).length ≤ k := by
  induction k with
  | zero => intro n i h; rw [dn_one i (by simp at h; omega)]; simp
  | succ k ih =>
    intro n i h
    by_cases h2 : n < 2
    · rw [dn_one i h2]; simp
    · have hl : leftN n ≤ 2 ^ k := by
        rw [leftN_two (by omega)]
        have h1 := Nat.log2_self_le (n := n - 1) (by omega)
        have : 2 ^ Nat.log2 (n - 1) < 2 ^ (k + 1) := by omega
        have := (Nat.pow_lt_pow_iff_right (by decide : 1 < 2)).1 this
        exact Nat.pow_le_pow_right (by decide) (by omega)
      have hd := leftN_double (n := n) (by omega)
      by_cases hi : i < leftN n
      · rw [dn_left (by omega) hi]; simp; exact ih _ _ hl
      · rw [dn_right (by omega) (by omega)]; simp; exact ih _ _ (by omega)
theorem dn_len63 {n : Nat} (i : Nat) (h : n ≤ 9223372036854775808) : (dn n i).length ≤ 63 := dn_len 63 n i h

theorem dn_inj (n : Nat) : ∀ (i k : Nat), i < n → k < n → dn n i = dn n k → i = k := by
  induction n using Nat.strongRecOn with
  | _ n ih =>
    intro i k hi hk he
    by_cases h2 : n < 2
    · omega
    · have hp := leftN_pos (n := n) (by omega)
      have hlt := leftN_lt (n := n) (by omega)
      rcases Nat.lt_or_ge i (leftN n) with h | h <;> rcases Nat.lt_or_ge k (leftN n) with h' | h'
      · rw [dn_left (by omega) h, dn_left (by omega) h'] at he
        exact ih _ hlt i k h h' (by simpa using he)
      · rw [dn_left (by omega) h, dn_right (by omega) h'] at he; simp at he
      · rw [dn_right (by omega) h, dn_left (by omega) h'] at he; simp at he
      · rw [dn_right (by omega) h, dn_right (by omega) h'] at he
        have := ih (n - leftN n) (by omega) (i - leftN n) (k - leftN n) (by omega) (by omega) (by simpa using he)
        omega
theorem sidesN_inj {n i k : Nat} (hi : i < n) (hk : k < n) (h : sidesN n i = sidesN n k) : i = k := dn_inj n i k hi hk (by simpa [sidesN] using h)

/-! Over Go's integers. -/
def leftI (n : Int) : Nat := leftN n.toNat
def sidesI (n i : Int) : List Bool := if 0 ≤ i ∧ i < n then sidesN n.toNat i.toNat else []
def depthI (n i : Int) : Int := if 0 ≤ i ∧ i < n then ((sidesN n.toNat i.toNat).length : Int) else -1

theorem leftN5 : leftN 5 = 4 := leftN_eq (j := 2) (by decide) (by decide)
theorem leftN4 : leftN 4 = 2 := leftN_eq (j := 1) (by decide) (by decide)
theorem leftN2 : leftN 2 = 1 := leftN_eq (j := 0) (by decide) (by decide)
theorem sides54 : sidesN 5 4 = [true] := by
  rw [sidesN_right (by decide) (by rw [leftN5]; decide), leftN5, sidesN_one _ (by decide)]; rfl
theorem sides51 : sidesN 5 1 = [true, false, false] := by
  rw [sidesN_left (by decide) (by rw [leftN5]; decide), leftN5, sidesN_left (by decide) (by rw [leftN4]; decide), leftN4, sidesN_right (by decide) (by rw [leftN2]; decide), leftN2, sidesN_one _ (by decide)]; rfl
end Go.Proofs.YtlfkkfacbcpogaaDoor
namespace Go.Proofs.YtlfkkfacbcpogaaDoor
set_option maxRecDepth 4000
open Go.RowKit

theorem leftI_small {n : Int} (h : n < 2) : leftI n = 0 := leftN_small (by omega)
theorem pow2_pos (j : Nat) : 0 < 2 ^ j := Nat.pow_pos (by decide)
/-- p is a power of two below m. -/
def PowB (m p : Nat) : Prop := ∃ j, p = 2 ^ j ∧ p < m
theorem PowB.pos {m p : Nat} (h : PowB m p) : 0 < p := by obtain ⟨j, rfl, _⟩ := h; exact pow2_pos j
theorem PowB.lt {m p : Nat} (h : PowB m p) : p < m := by obtain ⟨j, rfl, h⟩ := h; exact h
theorem PowB.next {m p : Nat} (h : PowB m p) (h2 : p * 2 < m) : PowB m (p * 2) := by obtain ⟨j, rfl, _⟩ := h; exact ⟨j + 1, by rw [Nat.pow_succ], h2⟩
theorem PowB.done {m p : Nat} (h : PowB m p) (h2 : m ≤ 2 * p) : leftN m = p := by obtain ⟨j, rfl, h⟩ := h; exact leftN_eq h h2
theorem PowB.one {m : Nat} (h : 2 ≤ m) : PowB m 1 := ⟨0, rfl, by omega⟩
theorem PowB.top {m p : Nat} (h : PowB m p) (hm : m < 9223372036854775808) : p ≤ 4611686018427387904 := by
  obtain ⟨j, rfl, h⟩ := h
  have h63 : 2 ^ j < 2 ^ 63 := by omega
  have := (Nat.pow_lt_pow_iff_right (by decide : 1 < 2)).1 h63
  exact Nat.pow_le_pow_right (n := 2) (by decide) (show j ≤ 62 by omega)
/-- Twice a power of two below 2^63 wraps round only to the least number. -/
theorem PowB.wrap {m p : Nat} (h : PowB m p) (hm : m < 9223372036854775808) (h2 : 4611686018427387904 ≤ p) : p = 4611686018427387904 := by have := h.top hm; omega

set_option maxHeartbeats 400000 in
theorem shapeLeft_any (n : Int) (w : World) (hl : -9223372036854775808 ≤ n) (hu : n < 9223372036854775808) :
    Calls Tryd.prog 54 #[.int .i64 n] w fun e w' => e = .returned (.int .i64 (leftI n : Int)) ∧ w = w' := by
  by_cases h2 : n < 2
  · have hd : decide (n < 2) = true := by simp; omega
    have hE : (leftI n : Int) = 0 := by rw [leftI_small h2]; rfl
    rw [hE]
    clear hE
    go_enter Tryd.func54, Tryd.ntmps54
    go_wp2
    go_ret
    exact ⟨rfl, rfl⟩
  · obtain ⟨m, rfl⟩ := Int.eq_ofNat_of_zero_le (show 0 ≤ n by omega)
    have hm2 : 2 ≤ m := by omega
    have hm : m < 9223372036854775808 := by omega
    have hd : decide ((m : Int) < 2) = false := by simp; omega
    have hE : leftI (m : Int) = leftN m := rfl
    rw [hE]
    clear hE hl hu h2
    go_enter Tryd.func54, Tryd.ntmps54
    go_wp2
    go_loop [3] (fun v => ∃ p : Nat, v = .int .i64 (p : Int) ∧ Hid (PowB m p)) (fun v => m - (intOf v).toNat)
    case atStart => exact ⟨1, rfl, Lib.hid (PowB.one hm2)⟩
    case round =>
      obtain ⟨p, rfl, HP⟩ := hrel
      have hp := HP.out.pos
      have hpm := HP.out.lt
      by_cases hc : p * 2 < m
      · have hd1 : decide ((p : Int) < (m : Int) - (p : Int)) = true := by simp; omega
        have HN := Lib.hid (HP.out.next hc)
        go_wp2
        go_round
        case rel => exact ⟨p * 2, by push_cast; rfl, HN⟩
        case measure => simp [intOf]; omega
      · have hd1 : decide ((p : Int) < (m : Int) - (p : Int)) = false := by simp; omega
        have HE := Lib.hid (HP.out.done (by omega))
        go_wp2
        go_ret
        exact ⟨by rw [HE.out]; rfl, rfl⟩

/-- What the reference's loop holds: p has come, k is next. -/
def RefL (n : Int) (p : Nat) (k : Int) : Prop := (p = 0 ∧ k = 1) ∨ (∃ m : Nat, n = (m : Int) ∧ PowB m p ∧ k = IntKind.i64.wrap ((p : Int) * 2))
theorem RefL.lt {n : Int} {p : Nat} {k : Int} (h : RefL n p k) (hu : n < 9223372036854775808) : p < 9223372036854775808 := by
  rcases h with ⟨rfl, _⟩ | ⟨m, rfl, hP, _⟩
  · omega
  · have := hP.lt; omega
theorem RefL.done {n : Int} {p : Nat} {k : Int} (h : RefL n p k) (hu : n < 9223372036854775808) (hc : ¬ (k < n ∧ 0 < k)) : leftI n = p := by
  rcases h with ⟨rfl, rfl⟩ | ⟨m, rfl, hP, hk⟩
  · exact leftI_small (by omega)
  · have hm : m < 9223372036854775808 := by omega
    have ht := hP.top hm
    have hp := hP.pos
    rw [IntKind.wrap_i64] at hk
    exact hP.done (by omega)
theorem RefL.next {n : Int} {p : Nat} {k : Int} (h : RefL n p k) (hu : n < 9223372036854775808) (hc : k < n ∧ 0 < k) : ∃ q : Nat, k = (q : Int) ∧ p < q ∧ RefL n q (IntKind.i64.wrap (k * 2)) := by
  rcases h with ⟨rfl, rfl⟩ | ⟨m, rfl, hP, hk⟩
  · exact ⟨1, rfl, by omega, .inr ⟨n.toNat, by omega, PowB.one (by omega), rfl⟩⟩
  · have hm : m < 9223372036854775808 := by omega
    have ht := hP.top hm
    have hp := hP.pos
    have hk' : k = ((p * 2 : Nat) : Int) := by rw [IntKind.wrap_i64] at hk; omega
    exact ⟨p * 2, hk', by omega, .inr ⟨m, rfl, hP.next (by omega), by rw [hk']⟩⟩
set_option maxHeartbeats 400000 in
theorem refLeft_any (n : Int) (w : World) (hu : n < 9223372036854775808) :
    Calls Tryd.prog 45 #[.int .i64 n] w fun e w' => e = .returned (.int .i64 (leftI n : Int)) ∧ w = w' := by
  go_enter Tryd.func45, Tryd.ntmps45
  go_wp2
  go_loop [3, 4] (fun a b => ∃ (p : Nat) (k : Int), a = .int .i64 (p : Int) ∧ b = .int .i64 k ∧ Hid (RefL n p k)) (fun a _ => 9223372036854775808 - (intOf a).toNat)
  case atStart => exact ⟨0, 1, rfl, rfl, Lib.hid (.inl ⟨rfl, rfl⟩)⟩
  case round =>
    obtain ⟨p, k, rfl, rfl, HR⟩ := hrel
    have hpl := HR.out.lt hu
    by_cases hc : k < n ∧ 0 < k
    · obtain ⟨q, hq, hpq, HN⟩ := HR.out.next hu hc
      replace HN := Lib.hid HN
      replace hq := Lib.hid hq
      have hql := HN.out.lt hu
      obtain ⟨h1, h2⟩ := hc
      have hd1 : decide (k < n) = true := by simp; omega
      have hd2 : decide (k > 0) = true := by simp; omega
      go_wp2
      go_round
      case rel => exact ⟨q, IntKind.i64.wrap (k * 2), by rw [hq.out], by unfold wrap64; rw [IntKind.wrap_i64], HN⟩
      case measure => rw [hq.out]; simp [intOf]; omega
    · have HE := Lib.hid (HR.out.done hu hc)
      by_cases h1 : k < n
      · have h2 : k ≤ 0 := by omega
        have hd1 : decide (k < n) = true := by simp; omega
        have hd2 : decide (k > 0) = false := by simp; omega
        clear hc
        go_wp2
        go_ret
        exact ⟨by rw [HE.out]; rfl, rfl⟩
      · have h2 : n ≤ k := by omega
        have hd1 : decide (k < n) = false := by simp; omega
        clear hc
        go_wp2
        go_ret
        exact ⟨by rw [HE.out]; rfl, rfl⟩
end Go.Proofs.YtlfkkfacbcpogaaDoor
namespace Go.Proofs.YtlfkkfacbcpogaaDoor
set_option maxRecDepth 4000

def zeroH : List UInt8 := List.replicate 32 0
/-- The top of n hashes. -/
def topN (F : Nat → List UInt8) (n : Nat) : List UInt8 :=
  if _h : n < 2 then (if n = 0 then zeroH else F 0)
  else shaL (nodeS (topN F (leftN n)) (topN (fun i => F (leftN n + i)) (n - leftN n)))
termination_by n
decreasing_by
  · exact leftN_lt (by omega)
  · have := leftN_pos (n := n) (by omega); omega
theorem topN_zero (F : Nat → List UInt8) : topN F 0 = zeroH := by rw [topN, dif_pos (by omega), if_pos rfl]
theorem topN_one (F : Nat → List UInt8) : topN F 1 = F 0 := by rw [topN, dif_pos (by omega), if_neg (by omega)]
theorem topN_two (F : Nat → List UInt8) {n : Nat} (h : 2 ≤ n) : topN F n = shaL (nodeS (topN F (leftN n)) (topN (fun i => F (leftN n + i)) (n - leftN n))) := by rw [topN, dif_neg (by omega)]
theorem topN_length (F : Nat → List UInt8) (n : Nat) (h : ∀ i, i < n → (F i).length = 32) : (topN F n).length = 32 := by
  by_cases h2 : n < 2
  · by_cases h0 : n = 0
    · subst h0; rw [topN_zero]; rfl
    · obtain rfl : n = 1 := by omega
      rw [topN_one]; exact h 0 (by omega)
  · rw [topN_two F (by omega), shaL_length]
theorem topN_congr (n : Nat) : ∀ (F G : Nat → List UInt8), (∀ i, i < n → F i = G i) → topN F n = topN G n := by
  induction n using Nat.strongRecOn with
  | _ n ih =>
    intro F G h
    by_cases h2 : n < 2
    · by_cases h0 : n = 0
      · subst h0; rw [topN_zero, topN_zero]
      · obtain rfl : n = 1 := by omega
        rw [topN_one, topN_one]; exact h 0 (by omega)
    · have hp := leftN_pos (n := n) (by omega)
      have hl := leftN_lt (n := n) (by omega)
      rw [topN_two F (by omega), topN_two G (by omega), ih _ hl F G (fun i hi => h i (by omega)), ih (n - leftN n) (by omega) (fun i => F (leftN n + i)) (fun i => G (leftN n + i)) (fun i hi => h _ (by omega))]

/-- The hashes of leaves. -/
def lf (S : Nat → ByteArray) (i : Nat) : List UInt8 := shaL (leafS (S i))
theorem lf_length (S : Nat → ByteArray) (i : Nat) : (lf S i).length = 32 := shaL_length _
theorem top_lf_length (S : Nat → ByteArray) (n : Nat) : (topN (lf S) n).length = 32 := topN_length _ _ (fun i _ => lf_length S i)
def rootL (S : Nat → ByteArray) (n : Nat) : List UInt8 := shaL (rootS n (topN (lf S) n))

/-- The texts of a tree of n leaves. -/
def txtsN (S : Nat → ByteArray) (n : Nat) : List ByteArray :=
  if _h : n < 2 then (if n = 1 then [leafS (S 0)] else [])
  else nodeS (topN (lf S) (leftN n)) (topN (lf fun i => S (leftN n + i)) (n - leftN n)) :: (txtsN S (leftN n) ++ txtsN (fun i => S (leftN n + i)) (n - leftN n))
termination_by n
decreasing_by
  · exact leftN_lt (by omega)
  · have := leftN_pos (n := n) (by omega); omega
theorem txtsN_zero (S : Nat → ByteArray) : txtsN S 0 = [] := by rw [txtsN, dif_pos (by omega), if_neg (by omega)]
theorem txtsN_one (S : Nat → ByteArray) : txtsN S 1 = [leafS (S 0)] := by rw [txtsN, dif_pos (by omega), if_pos rfl]
theorem txtsN_two (S : Nat → ByteArray) {n : Nat} (h : 2 ≤ n) : txtsN S n = nodeS (topN (lf S) (leftN n)) (topN (lf fun i => S (leftN n + i)) (n - leftN n)) :: (txtsN S (leftN n) ++ txtsN (fun i => S (leftN n + i)) (n - leftN n)) := by rw [txtsN, dif_neg (by omega)]
theorem txtsN_len (n : Nat) : ∀ S : Nat → ByteArray, 0 < n → (txtsN S n).length + 1 = 2 * n := by
  induction n using Nat.strongRecOn with
  | _ n ih =>
    intro S h
    by_cases h2 : n < 2
    · obtain rfl : n = 1 := by omega
      rw [txtsN_one]; rfl
    · have hp := leftN_pos (n := n) (by omega)
      have hl := leftN_lt (n := n) (by omega)
      have h1 := ih _ hl S hp
      have h3 := ih (n - leftN n) (by omega) (fun i => S (leftN n + i)) (by omega)
      rw [txtsN_two S (by omega)]
      simp only [List.length_cons, List.length_append]
      omega
theorem txtsN_le (S : Nat → ByteArray) (n : Nat) : (txtsN S n).length ≤ 2 * n := by
  rcases Nat.eq_zero_or_pos n with rfl | h
  · rw [txtsN_zero]; exact Nat.zero_le _
  · have := txtsN_len n S h; omega
theorem leafS_size (s : ByteArray) : (leafS s).size = 1 + s.size := by rw [leafS, tagS_size]
theorem nodeS_size (a b : List UInt8) : (nodeS a b).size = 1 + (a.length + b.length) := by rw [nodeS, tagS_size, ByteArray.size_append, hS_size, hS_size]
theorem rootS_size (n : Nat) (a : List UInt8) : (rootS n a).size = 1 + (8 + a.length) := by rw [rootS, tagS_size, ByteArray.size_append, hS_size, beS_size]
theorem txtsN_small (B n : Nat) (hB : 100 ≤ B) : ∀ S : Nat → ByteArray, (∀ i, i < n → (S i).size < B) → ∀ x ∈ txtsN S n, x.size ≤ B := by
  induction n using Nat.strongRecOn with
  | _ n ih =>
    intro S h x hx
    by_cases h2 : n < 2
    · by_cases h0 : n = 0
      · subst h0; rw [txtsN_zero] at hx; cases hx
      · obtain rfl : n = 1 := by omega
        rw [txtsN_one] at hx
        obtain rfl := List.mem_singleton.1 hx
        have := h 0 (by omega)
        rw [leafS_size]; omega
    · have hp := leftN_pos (n := n) (by omega)
      have hl := leftN_lt (n := n) (by omega)
      rw [txtsN_two S (by omega)] at hx
      rcases List.mem_cons.1 hx with rfl | hx
      · rw [nodeS_size, top_lf_length, top_lf_length]; omega
      · rcases List.mem_append.1 hx with hx | hx
        · exact ih _ hl S (fun i hi => h i (by omega)) x hx
        · exact ih (n - leftN n) (by omega) (fun i => S (leftN n + i)) (fun i hi => h _ (by omega)) x hx

/-- All the texts of a list's tree. -/
def allT (S : Nat → ByteArray) (n : Nat) : List ByteArray := txtsN S n ++ [rootS n (topN (lf S) n)]
theorem allT_length (S : Nat → ByteArray) (n : Nat) : (allT S n).length = (txtsN S n).length + 1 := by simp [allT]
theorem allT_small (B n : Nat) (hB : 100 ≤ B) (S : Nat → ByteArray) (h : ∀ i, i < n → (S i).size < B) : ∀ x ∈ allT S n, x.size ≤ B := by
  intro x hx
  rcases List.mem_append.1 hx with hx | hx
  · exact txtsN_small B n hB S h x hx
  · obtain rfl := List.mem_singleton.1 hx
    rw [rootS_size, top_lf_length]; omega
def clashL (X Y : List ByteArray) : Prop := ∃ x ∈ X, ∃ y ∈ Y, x ≠ y ∧ shaL x = shaL y
theorem clashL_mono {X Y X' Y' : List ByteArray} (h : clashL X Y) (hx : ∀ x ∈ X, x ∈ X') (hy : ∀ y ∈ Y, y ∈ Y') : clashL X' Y' := by
  obtain ⟨x, h1, y, h2, h3⟩ := h
  exact ⟨x, hx x h1, y, hy y h2, h3⟩
theorem leafS_inj (s t : ByteArray) : leafS s = leafS t ↔ s = t := tagS_inj 0 s t
theorem nodeS_inj (a b a' b' : List UInt8) (h : a.length = a'.length) : nodeS a b = nodeS a' b' ↔ a = a' ∧ b = b' := by
  rw [nodeS, nodeS, tagS_inj, app_inj _ _ _ _ (by rw [hS_size, hS_size, h]), hS_inj, hS_inj]
theorem rootS_inj (n m : Nat) (a b : List UInt8) (hn : n < 18446744073709551616) (hm : m < 18446744073709551616) : rootS n a = rootS m b ↔ n = m ∧ a = b := by
  rw [rootS, rootS, tagS_inj, app_inj _ _ _ _ (by rw [beS_size, beS_size]), hS_inj, beS_inj n m hn hm]
/-- Trees of one size and one top that differ have two different texts of one hash. -/
theorem tops_apart (n : Nat) : ∀ S R : Nat → ByteArray, (∃ i, i < n ∧ S i ≠ R i) → topN (lf S) n = topN (lf R) n → clashL (txtsN S n) (txtsN R n) := by
  induction n using Nat.strongRecOn with
  | _ n ih =>
    intro S R hd ht
    obtain ⟨i, hi, hne⟩ := hd
    by_cases h2 : n < 2
    · obtain rfl : n = 1 := by omega
      obtain rfl : i = 0 := by omega
      rw [topN_one, topN_one] at ht
      rw [txtsN_one, txtsN_one]
      exact ⟨_, List.mem_singleton.2 rfl, _, List.mem_singleton.2 rfl, fun e => hne ((leafS_inj _ _).1 e), ht⟩
    · have hp := leftN_pos (n := n) (by omega)
      have hl := leftN_lt (n := n) (by omega)
      rw [topN_two (lf S) (n := n) (by omega), topN_two (lf R) (n := n) (by omega)] at ht
      rw [txtsN_two S (by omega), txtsN_two R (by omega)]
      by_cases he : nodeS (topN (lf S) (leftN n)) (topN (lf fun i => S (leftN n + i)) (n - leftN n)) = nodeS (topN (lf R) (leftN n)) (topN (lf fun i => R (leftN n + i)) (n - leftN n))
      · obtain ⟨e1, e2⟩ := (nodeS_inj _ _ _ _ (by rw [top_lf_length, top_lf_length])).1 he
        by_cases hil : i < leftN n
        · refine clashL_mono (ih _ hl S R ⟨i, hil, hne⟩ e1) (fun x hx => ?_) (fun x hx => ?_)
          · exact List.mem_cons_of_mem _ (List.mem_append_left _ hx)
          · exact List.mem_cons_of_mem _ (List.mem_append_left _ hx)
        · refine clashL_mono (ih (n - leftN n) (by omega) (fun i => S (leftN n + i)) (fun i => R (leftN n + i)) ⟨i - leftN n, by omega, by simpa [show leftN n + (i - leftN n) = i by omega] using hne⟩ e2) (fun x hx => ?_) (fun x hx => ?_)
          · exact List.mem_cons_of_mem _ (List.mem_append_right _ hx)
          · exact List.mem_cons_of_mem _ (List.mem_append_right _ hx)
      · exact ⟨_, List.mem_cons_self, _, List.mem_cons_self, he, ht⟩
def sameS (n m : Nat) (S R : Nat → ByteArray) : Prop := n = m ∧ ∀ i, i < n → S i = R i
theorem rootL_same {n m : Nat} {S R : Nat → ByteArray} (h : sameS n m S R) : rootL S n = rootL R m := by
  obtain ⟨rfl, h⟩ := h
  rw [rootL, rootL, topN_congr n (lf S) (lf R) (fun i hi => by rw [lf, lf, h i hi])]
theorem roots_apart (n m : Nat) (S R : Nat → ByteArray) (hn : n < 18446744073709551616) (hm : m < 18446744073709551616) (hd : ¬ sameS n m S R) (hr : rootL S n = rootL R m) : clashL (allT S n) (allT R m) := by
  by_cases he : rootS n (topN (lf S) n) = rootS m (topN (lf R) m)
  · obtain ⟨rfl, ht⟩ := (rootS_inj n m _ _ hn hm).1 he
    have hex : ∃ i, i < n ∧ S i ≠ R i := by
      refine Classical.byContradiction fun hno => hd ⟨rfl, fun i hi => Classical.byContradiction fun h => hno ⟨i, hi, h⟩⟩
    exact clashL_mono (tops_apart n S R hex ht) (fun x hx => List.mem_append_left _ hx) (fun x hx => List.mem_append_left _ hx)
  · exact ⟨_, List.mem_append_right _ (List.mem_singleton.2 rfl), _, List.mem_append_right _ (List.mem_singleton.2 rfl), he, hr⟩
end Go.Proofs.YtlfkkfacbcpogaaDoor
namespace Go.Proofs.YtlfkkfacbcpogaaDoor
set_option maxRecDepth 4000
open Go.RowKit

set_option maxRecDepth 100000 in
set_option maxHeartbeats 1000000 in
theorem treeMapped_any (p : Option Addr) (n c : Nat) (S : Nat → ByteArray) (w : World) (hS : SAt w p n S) (hz : ∀ i, i < n → (S i).size ≤ 1000000) (hn : n ≤ 1000000) (ht : Tab w) :
    Calls Tryd.prog 41 #[.slice p n c, .func (.func 42) #[] #[]] w fun e w' => ∃ g, e = .returned (.slice (some ⟨g, 0, none⟩) n n) ∧ Rowz w' g (hC n (lf S)) 31 ∧ Kept w w' := by
  have HS := Lib.hid hS
  have HZ := Lib.hid hz
  have HT := Lib.hid ht
  have hm := run_make_hashes n w hn
  clear hS hz ht
  go_enter Tryd.func41, Tryd.ntmps41
  go_wp2_with fail
  clear hm
  have R1 := Lib.hid (Rowz.new w (hC n (fun _ => [])) 31)
  have K1 := Lib.hid ((Kept.refl w).alloc (.cells (hC n (fun _ => [])) 31))
  generalize w.alloc (.cells (hC n (fun _ => [])) 31) = v at R1 K1 ⊢
  obtain ⟨g, hg⟩ : ∃ g, g = w.heap.size := ⟨_, rfl⟩
  have HG : Hid (w.heap.size ≤ g) := Lib.hid (by omega)
  rw [← hg] at R1 ⊢
  clear hg
  go_loopw [13] (fun i wr => ∃ k : Nat, k ≤ n ∧ i = .int .i64 k ∧ Hid (Rowz wr g (hC n (upH (lf S) k)) 31) ∧ Hid (Kept w wr)) (fun i _ => n - (intOf i).toNat)
  case atStart => exact ⟨0, by omega, rfl, R1, K1⟩
  case round =>
    clear R1 K1
    obtain ⟨k, hk, rfl, R1, K1⟩ := hrel
    by_cases hlt : k < n
    · have hd : decide ((k : Int) < (n : Int)) = true := decide_eq_true (by omega)
      have hd' : decide (k < n) = true := decide_eq_true hlt
      obtain ⟨q, rfl, _⟩ := HS.out.some (by omega)
      have hcell := (HS.out.kept K1.out).cell k hlt
      have HL : Hid (∀ w, Tab w → Calls Tryd.prog 42 #[.string (S k)] w fun e w' => e = .returned (.agg (bC 32 (lf S k))) ∧ Kept w w') := Lib.hid fun w hw => tagLeafSum_any (S k) (HZ.out k hlt) w hw
      go_wp2_with fail
      refine (HL.out _ (HT.out.kept K1.out)).mono ?_
      rintro e v1 ⟨rfl, k1⟩
      have R2 := Lib.hid (R1.out.kept k1)
      have K2 := Lib.hid (K1.out.trans k1)
      clear R1 K1 k1 HL hcell
      go_wp2_with (refine wpList_store_hash rfl _ _ rfl g k n (upH (lf S) k) (lf S k) _ rfl rfl R2 hlt ?_)
      go_roundw
      case measure => simp [intOf]; omega
      case rel => exact ⟨k + 1, by omega, rfl, Lib.hid (by rw [← upH_put]; exact R2.out.row), Lib.hid (K2.out.setRow HG.out _)⟩
    · have hd : decide ((k : Int) < (n : Int)) = false := decide_eq_false (by omega)
      have hd' : decide (k < n) = false := decide_eq_false hlt
      obtain rfl : k = n := by omega
      go_wp2_with fail
      go_ret
      exact ⟨g, rfl, by rw [← upH_all]; exact R1.out, K1.out⟩

set_option maxHeartbeats 400000 in
theorem treeLeaves_any (p : Option Addr) (n c : Nat) (S : Nat → ByteArray) (w : World) (hS : SAt w p n S) (hz : ∀ i, i < n → (S i).size ≤ 1000000) (hn : n ≤ 1000000) (ht : Tab w) :
    Calls Tryd.prog 30 #[.slice p n c] w fun e w' => ∃ g, e = .returned (.slice (some ⟨g, 0, none⟩) n n) ∧ Rowz w' g (hC n (lf S)) 31 ∧ Kept w w' := by
  have HM := Lib.hid (treeMapped_any p n c S w hS hz hn ht)
  clear hS hz ht
  go_enter Tryd.func30, Tryd.ntmps30
  go_wp2_with fail
  refine HM.out.mono ?_
  rintro e w1 ⟨g, rfl, r1, k1⟩
  have R1 := Lib.hid r1
  have K1 := Lib.hid k1
  clear r1 k1 HM
  go_wp2_with fail
  go_ret
  exact ⟨g, rfl, R1.out, K1.out⟩

set_option maxRecDepth 100000 in
set_option maxHeartbeats 1000000 in
theorem refLeaves_any (p : Option Addr) (n c : Nat) (S : Nat → ByteArray) (w : World) (hS : SAt w p n S) (hz : ∀ i, i < n → (S i).size ≤ 1000000) (hn : n ≤ 1000000) :
    Calls Tryd.prog 35 #[.slice p n c] w fun e w' => ∃ v, e = .returned v ∧ w'.ownsRow w.heap.size 31 32 v n (hC n (lf S)).toList ∧ Kept w w' := by
  have HS := Lib.hid hS
  have HZ := Lib.hid hz
  clear hS hz
  go_enter Tryd.func35, Tryd.ntmps35
  go_wp2_with fail
  go_loopw [3, 4] (fun v i wr => ∃ k : Nat, k ≤ n ∧ i = .int .i64 k ∧ Hid (wr.ownsRow w.heap.size 31 32 v k (hC k (lf S)).toList) ∧ Hid (Kept w wr)) (fun _ i _ => n - (intOf i).toNat)
  case atStart => exact ⟨0, by omega, rfl, Lib.hid (World.ownsRow_nil _ _ _ _), Lib.hid (Kept.refl w)⟩
  case round =>
    rename_i v _
    obtain ⟨k, hk, rfl, O1, K1⟩ := hrel
    by_cases hlt : k < n
    · have hd : decide ((k : Int) < (n : Int)) = true := decide_eq_true (by omega)
      have hd' : decide (k < n) = true := decide_eq_true hlt
      obtain ⟨q, rfl, _⟩ := HS.out.some (by omega)
      have hcell := (HS.out.kept K1.out).cell k hlt
      have HL : Hid (∀ w, Calls Tryd.prog 47 #[.string (S k)] w fun e w' => e = .returned (.agg (bC 32 (lf S k))) ∧ Kept w w') := Lib.hid fun w => refLeafSum_any (S k) (HZ.out k hlt) w
      go_wp2_with fail
      refine (HL.out _).mono ?_
      rintro e v1 ⟨rfl, k1⟩
      have O2 := Lib.hid (ownsRow_kept O1.out k1)
      have K2 := Lib.hid (K1.out.trans k1)
      clear O1 K1 k1 HL hcell
      go_wp2_with (refine park_at 17 rfl ?_)
      refine unpark ?_
      refine wpList_exec 17 rfl (by rfl) (.slice (some ⟨v1.heap.size, 0, none⟩) 1 1) (v1.alloc (.cells (bC 32 (lf S k)) 31)) (execBuild1 rfl rfl (run_build1h _ _)) ?_
      go_wp2_with (at_builtin; refine wpList_append_hash rfl _ _ rfl w _ k (lf S) rfl O2 rfl (by omega) K2 rfl ?_; intro v' w' O3 K3)
      go_roundw
      case measure => simp [intOf]; omega
      case rel => exact ⟨k + 1, by omega, rfl, O3, K3⟩
    · have hd : decide ((k : Int) < (n : Int)) = false := decide_eq_false (by omega)
      have hd' : decide (k < n) = false := decide_eq_false hlt
      obtain rfl : k = n := by omega
      go_wp2_with fail
      go_ret
      exact ⟨_, rfl, O1.out, K1.out⟩
end Go.Proofs.YtlfkkfacbcpogaaDoor
namespace Go.Proofs.YtlfkkfacbcpogaaDoor
set_option maxRecDepth 4000
open Go.RowKit

set_option maxHeartbeats 400000 in
theorem treeSplit_any (q : Addr) (n c : Nat) (w : World) (h2 : 2 ≤ n) (hc : n ≤ c) (hm : c ≤ maxLen) :
    Calls Tryd.prog 39 #[.slice (some q) n c] w fun e w' => e = .returned (.tuple #[.slice (some q) (leftN n) c, .slice (some (q.add (leftN n * 32))) (n - leftN n) (c - leftN n)]) ∧ Kept w w' := by
  have hL := shapeLeft_any (n : Int) w (by omega) (by unfold maxLen at hm; omega)
  have hE : leftI (n : Int) = leftN n := rfl
  rw [hE] at hL
  have hlt := leftN_lt h2
  have hCL := run_cutH_left q n c (leftN n)
  have hCR := run_cutH_right q n c (leftN n)
  clear hE
  generalize leftN n = p at hL hlt hCL hCR ⊢
  have HL := Lib.hid hL
  have HCL : Hid (∀ w, _) := Lib.hid fun w => hCL w (by omega)
  have HCR : Hid (∀ w, _) := Lib.hid fun w => hCR w (by omega) (by omega)
  clear hL hCL hCR
  go_enter Tryd.func39, Tryd.ntmps39
  go_wp2_with (go_at_call 54; refine HL.out.mono ?_; rintro e w1 ⟨rfl, rfl⟩)
  have h1 := HCL.out w
  have h3 := HCR.out w
  clear HL HCL HCR
  go_quiet (fail)
  go_wp2_with fail
  go_ret2
  exact ⟨rfl, Kept.refl w⟩

theorem execLoadAt {P : Program} {ty : TypeId} {o : Oper} {t : Array Value} {x : Operand} {w : World} {a u : Value} (ho : o.op = .load ty x) (hx : evS t x = a) (h : (Instr.loadAt ty a).run P w = .ok u w) : (execOp (evS t) o).run P w = .ok (.value u) w := by
  unfold execOp
  simp [ho, hx, h, Result.andThen_ok]
theorem execBuild0 {P : Program} {ty : TypeId} {o : Oper} {t : Array Value} {w w' : World} {u : Value} (ho : o.op = .build ty #[]) (h : (Instr.build ty #[]).run P w = .ok u w') : (execOp (evS t) o).run P w = .ok (.value u) w' := by
  unfold execOp
  simp [ho, h, Result.andThen_ok]
/-- What the recursion asks of trees of fewer leaves. -/
def TopOk (f : FuncId) (n : Nat) : Prop := ∀ (p : Option Addr) (c : Nat) (F : Nat → List UInt8) (w : World), n ≤ c → c ≤ maxLen → HAt w p n F → Tab w →
    Calls Tryd.prog f #[.slice p n c] w fun e w' => e = .returned (.agg (bC 32 (topN F n))) ∧ Kept w w'
theorem zero_hashC : bC 32 [] = bC 32 zeroH := by kernel_rfl
set_option maxRecDepth 100000 in
set_option maxHeartbeats 1000000 in
theorem treeTop_any (n : Nat) : TopOk 29 n := by
  induction n using Nat.strongRecOn with
  | _ n ih =>
    intro p c F w hc hm hF ht
    by_cases h0 : n = 0
    · subst h0
      rw [topN_zero, ← zero_hashC]
      clear ih hF ht
      have R1 := Lib.hid (Rowz.new w (bC 32 []) 31)
      go_enter Tryd.func29, Tryd.ntmps29
      go_wp2_with (first
        | (refine wpList_exec 9 rfl (by rfl) (.agg (bC 32 [])) _ (execBuild0 rfl (run_build0 _)) ?_)
        | (refine wpList_store_row rfl 31 _ _ rfl w.heap.size (bC 32 []) rfl rfl 31 (bC 32 []) R1.out (info_hash _) (by simp [bC_size]) (bC_one _ _) ?_))
      refine bodyPost_ret (v := .agg (bC 32 [])) (results_cell_row Tryd.results29 _ _ w.heap.size 31 _ (0, 0) _ rfl R1.out.row Tryd.underlying31 rfl (info_hash _)) rfl ⟨rfl, ?_⟩
      exact ((Kept.refl w).alloc _).setRow (Nat.le_refl _) _
    · by_cases h1 : n = 1
      · subst h1
        rw [topN_one]
        obtain ⟨q, rfl, _⟩ := hF.some (by omega)
        have R1 := Lib.hid (Rowz.new w (bC 32 []) 31)
        have HF := Lib.hid hF
        clear ih hF ht
        go_enter Tryd.func29, Tryd.ntmps29
        go_wp2_with (first
          | (refine wpList_exec 14 rfl (by rfl) (.agg (bC 32 (F 0))) _ (execLoadAt rfl rfl ((HF.out.kept ((Kept.refl w).alloc _)).load0 (by omega))) ?_)
          | refine wpList_store_row rfl 31 _ _ rfl w.heap.size (bC 32 (F 0)) rfl rfl 31 (bC 32 []) R1.out (info_hash _) (by simp [bC_size]) (bC_one _ _) ?_)
        refine bodyPost_ret (v := .agg (bC 32 (F 0))) (results_cell_row Tryd.results29 _ _ w.heap.size 31 _ (0, 0) _ rfl R1.out.row Tryd.underlying31 rfl (info_hash _)) rfl ⟨rfl, ?_⟩
        exact ((Kept.refl w).alloc _).setRow (Nat.le_refl _) _
      · have h2 : 2 ≤ n := by omega
        obtain ⟨q, rfl, _⟩ := hF.some (by omega)
        have hL := leftN_lt h2
        have hP := leftN_pos h2
        have HSP : Hid (∀ w, _) := Lib.hid fun w => treeSplit_any q n c w h2 hc hm
        have HA : Hid (∀ w, HAt w (some q) n F → Tab w → _) := Lib.hid fun w hF ht => ih (leftN n) hL (some q) c F w (by omega) hm (hF.left _ (by omega)) ht
        have HB : Hid (∀ w, HAt w (some q) n F → Tab w → _) := Lib.hid fun w hF ht => ih (n - leftN n) (by omega) (some (q.add (leftN n * 32))) (c - leftN n) (fun i => F (leftN n + i)) w (by omega) (by omega) (hF.right _ (by omega)) ht
        have hla := topN_length F (leftN n) (fun i hi => hF.length i (by omega))
        have hlb := topN_length (fun i => F (leftN n + i)) (n - leftN n) (fun i hi => hF.length _ (by omega))
        rw [topN_two F h2]
        have HN : Hid (∀ w, Tab w → _) := Lib.hid fun w ht => tagNodeSum_any (topN F (leftN n)) (topN (fun i => F (leftN n + i)) (n - leftN n)) hla hlb w ht
        have hd0 : ((n : Int) == 0) = false := by rw [beq_eq_false_iff_ne]; omega
        have hd1 : ((n : Int) == 1) = false := by rw [beq_eq_false_iff_ne]; omega
        clear ih hla hlb
        generalize topN (fun i => F (leftN n + i)) (n - leftN n) = B at HB HN ⊢
        generalize topN F (leftN n) = A at HA HN ⊢
        generalize leftN n = l at hL hP HSP HA HB
        have K1 := Lib.hid ((Kept.refl w).alloc (.cells (bC 32 []) 31))
        have R1 := Lib.hid (Rowz.new w (bC 32 []) 31)
        have HF := Lib.hid hF
        have HT := Lib.hid ht
        clear hF ht
        go_enter Tryd.func29, Tryd.ntmps29
        go_wp2_with fail
        change Calls _ _ _ (w.alloc (.cells (bC 32 []) 31)) _
        generalize w.alloc (.cells (bC 32 []) 31) = v at K1 R1 ⊢
        refine (HSP.out _).mono ?_
        rintro e v1 ⟨rfl, k1⟩
        have R2 := Lib.hid (R1.out.kept k1)
        have K2 := Lib.hid (K1.out.trans k1)
        clear R1 K1 k1 HSP
        go_wp2_with fail
        refine (HA.out _ (HF.out.kept K2.out) (HT.out.kept K2.out)).mono ?_
        rintro e v2 ⟨rfl, k1⟩
        have R3 := Lib.hid (R2.out.kept k1)
        have K3 := Lib.hid (K2.out.trans k1)
        clear R2 K2 k1 HA
        go_wp2_with fail
        refine (HB.out _ (HF.out.kept K3.out) (HT.out.kept K3.out)).mono ?_
        rintro e v3 ⟨rfl, k1⟩
        have R4 := Lib.hid (R3.out.kept k1)
        have K4 := Lib.hid (K3.out.trans k1)
        clear R3 K3 k1 HB
        go_wp2_with fail
        refine (HN.out _ (HT.out.kept K4.out)).mono ?_
        rintro e v4 ⟨rfl, k1⟩
        have R5 := Lib.hid (R4.out.kept k1)
        have K5 := Lib.hid (K4.out.trans k1)
        clear R4 K4 k1 HN
        go_wp2_with (refine wpList_store_row rfl 31 _ _ rfl w.heap.size (bC 32 (shaL (nodeS A B))) rfl rfl 31 (bC 32 []) R5.out (info_hash _) (by simp [bC_size]) (bC_one _ _) ?_)
        refine bodyPost_ret (v := .agg (bC 32 (shaL (nodeS A B)))) (results_cell_row Tryd.results29 _ _ w.heap.size 31 _ (0, 0) _ rfl R5.out.row Tryd.underlying31 rfl (info_hash _)) rfl ⟨rfl, ?_⟩
        exact K5.out.setRow (Nat.le_refl _) _
end Go.Proofs.YtlfkkfacbcpogaaDoor
namespace Go.Proofs.YtlfkkfacbcpogaaDoor
set_option maxRecDepth 4000
open Go.RowKit

theorem HSl.ofRow {w : World} {g n : Nat} {S : Nat → ByteArray} (h : Rowz w g (hC n (lf S)) 31) (hn : n ≤ 1000000) : HSl n (lf S) (.slice (some ⟨g, 0, none⟩) n n) w :=
  ⟨_, _, rfl, Nat.le_refl _, by unfold maxLen; omega, HAt.ofRow h (fun i _ => lf_length S i)⟩
theorem HSl.ofOwns {w : World} {base n : Nat} {v : Value} {S : Nat → ByteArray} (h : w.ownsRow base 31 32 v n (hC n (lf S)).toList) : HSl n (lf S) v w := HAt.ofOwns h (fun i _ => lf_length S i)
theorem TopOk.at {f : FuncId} {n : Nat} (h : TopOk f n) {F : Nat → List UInt8} {v : Value} {w : World} (hv : HSl n F v w) (ht : Tab w) : Calls Tryd.prog f #[v] w fun e w' => e = .returned (.agg (bC 32 (topN F n))) ∧ Kept w w' := by
  obtain ⟨p, c, rfl, h1, h2, h3⟩ := hv
  exact h p c F w h1 h2 h3 ht

set_option maxRecDepth 100000 in
set_option maxHeartbeats 1000000 in
theorem treeRoot_any (p : Option Addr) (n c : Nat) (S : Nat → ByteArray) (w : World) (hS : SAt w p n S) (hz : ∀ i, i < n → (S i).size ≤ 1000000) (hn : n ≤ 1000000) (ht : Tab w) :
    Calls Tryd.prog 22 #[.slice p n c] w fun e w' => e = .returned (.agg (bC 32 (rootL S n))) ∧ Kept w w' := by
  have HL : Hid (∀ w, SAt w p n S → Tab w → Calls Tryd.prog 30 #[.slice p n c] w fun e w' => ∃ v, e = .returned v ∧ HSl n (lf S) v w' ∧ Kept w w') := Lib.hid fun w hS ht => (treeLeaves_any p n c S w hS hz hn ht).mono fun e w' ⟨g, he, hr, hk⟩ => ⟨_, he, HSl.ofRow hr hn, hk⟩
  have HTp : Hid (∀ v w, HSl n (lf S) v w → Tab w → _) := Lib.hid fun v w hv ht => (treeTop_any n).at hv ht
  have HR : Hid (∀ w, Tab w → _) := Lib.hid fun w ht => tagRootSum_any n (by omega) (topN (lf S) n) (top_lf_length S n) w ht
  have hE : shaL (rootS n (topN (lf S) n)) = rootL S n := rfl
  rw [hE] at HR
  clear hE
  generalize topN (lf S) n = A at HTp HR
  generalize rootL S n = B at HR ⊢
  have HS := Lib.hid hS
  have HT := Lib.hid ht
  clear hS ht hz
  have hw : IntKind.u64.wrap (n : Int) = (n : Int) := by simp only [IntKind.wrap, IntKind.signed, IntKind.bits]; simp; omega
  go_enter Tryd.func22, Tryd.ntmps22
  go_wp2_with fail
  change Calls _ _ _ (w.alloc (.cells (bC 32 []) 31)) _
  have R1 := Lib.hid (Rowz.new w (bC 32 []) 31)
  have K1 := Lib.hid ((Kept.refl w).alloc (.cells (bC 32 []) 31))
  generalize w.alloc (.cells (bC 32 []) 31) = v at R1 K1 ⊢
  refine (HL.out _ (HS.out.kept K1.out) (HT.out.kept K1.out)).mono ?_
  rintro e v1 ⟨x, rfl, hx, k1⟩
  have HX := Lib.hid hx
  have R2 := Lib.hid (R1.out.kept k1)
  have K2 := Lib.hid (K1.out.trans k1)
  clear R1 K1 k1 HL hx
  go_wp2_with fail
  refine (HTp.out _ _ HX.out (HT.out.kept K2.out)).mono ?_
  rintro e v2 ⟨rfl, k1⟩
  have R3 := Lib.hid (R2.out.kept k1)
  have K3 := Lib.hid (K2.out.trans k1)
  clear R2 K2 k1 HTp HX
  go_wp2_with fail
  refine (HR.out _ (HT.out.kept K3.out)).mono ?_
  rintro e v3 ⟨rfl, k1⟩
  have R4 := Lib.hid (R3.out.kept k1)
  have K4 := Lib.hid (K3.out.trans k1)
  clear R3 K3 k1 HR
  go_wp2_with (refine wpList_store_row rfl 31 _ _ rfl w.heap.size (bC 32 B) rfl rfl 31 (bC 32 []) R4.out (info_hash _) (by simp [bC_size]) (bC_one _ _) ?_)
  refine bodyPost_ret (v := .agg (bC 32 B)) (results_cell_row Tryd.results22 _ _ w.heap.size 31 _ (0, 0) _ rfl R4.out.row Tryd.underlying31 rfl (info_hash _)) rfl ⟨rfl, ?_⟩
  exact K4.out.setRow (Nat.le_refl _) _

/-- The reference's recursion, as TopOk, without the table. -/
def TopOkR (f : FuncId) (n : Nat) : Prop := ∀ (p : Option Addr) (c : Nat) (F : Nat → List UInt8) (w : World), n ≤ c → c ≤ maxLen → HAt w p n F →
    Calls Tryd.prog f #[.slice p n c] w fun e w' => e = .returned (.agg (bC 32 (topN F n))) ∧ Kept w w'
theorem TopOkR.at {f : FuncId} {n : Nat} (h : TopOkR f n) {F : Nat → List UInt8} {v : Value} {w : World} (hv : HSl n F v w) : Calls Tryd.prog f #[v] w fun e w' => e = .returned (.agg (bC 32 (topN F n))) ∧ Kept w w' := by
  obtain ⟨p, c, rfl, h1, h2, h3⟩ := hv
  exact h p c F w h1 h2 h3
set_option maxRecDepth 100000 in
set_option maxHeartbeats 1000000 in
theorem refTop_any (n : Nat) : TopOkR 34 n := by
  induction n using Nat.strongRecOn with
  | _ n ih =>
    intro p c F w hc hm hF
    by_cases h0 : n = 0
    · subst h0
      rw [topN_zero, ← zero_hashC]
      clear ih hF
      have R1 := Lib.hid (Rowz.new w (bC 32 []) 31)
      go_enter Tryd.func34, Tryd.ntmps34
      go_wp2_with (first
        | (refine wpList_exec 7 rfl (by rfl) (.agg (bC 32 [])) _ (execBuild0 rfl (run_build0 _)) ?_)
        | (refine wpList_store_row rfl 31 _ _ rfl w.heap.size (bC 32 []) rfl rfl 31 (bC 32 []) R1.out (info_hash _) (by simp [bC_size]) (bC_one _ _) ?_))
      refine bodyPost_ret (v := .agg (bC 32 [])) (results_cell_row Tryd.results34 _ _ w.heap.size 31 _ (0, 0) _ rfl R1.out.row Tryd.underlying31 rfl (info_hash _)) rfl ⟨rfl, ?_⟩
      exact ((Kept.refl w).alloc _).setRow (Nat.le_refl _) _
    · by_cases h1 : n = 1
      · subst h1
        rw [topN_one]
        obtain ⟨q, rfl, _⟩ := hF.some (by omega)
        have R1 := Lib.hid (Rowz.new w (bC 32 []) 31)
        have HF := Lib.hid hF
        clear ih hF
        go_enter Tryd.func34, Tryd.ntmps34
        go_wp2_with (first
          | (refine wpList_exec 13 rfl (by rfl) (.agg (bC 32 (F 0))) _ (execLoadAt rfl rfl ((HF.out.kept ((Kept.refl w).alloc _)).load0 (by omega))) ?_)
          | refine wpList_store_row rfl 31 _ _ rfl w.heap.size (bC 32 (F 0)) rfl rfl 31 (bC 32 []) R1.out (info_hash _) (by simp [bC_size]) (bC_one _ _) ?_)
        refine bodyPost_ret (v := .agg (bC 32 (F 0))) (results_cell_row Tryd.results34 _ _ w.heap.size 31 _ (0, 0) _ rfl R1.out.row Tryd.underlying31 rfl (info_hash _)) rfl ⟨rfl, ?_⟩
        exact ((Kept.refl w).alloc _).setRow (Nat.le_refl _) _
      · have h2 : 2 ≤ n := by omega
        obtain ⟨q, rfl, _⟩ := hF.some (by omega)
        have hL := leftN_lt h2
        have hP := leftN_pos h2
        have HLf : Hid (∀ w, Calls Tryd.prog 45 #[.int .i64 (n : Int)] w fun e w' => e = .returned (.int .i64 (leftN n : Int)) ∧ w = w') := Lib.hid fun w => refLeft_any (n : Int) w (by unfold maxLen at hm; omega)
        have HA : Hid (∀ w, HAt w (some q) n F → _) := Lib.hid fun w hF => ih (leftN n) hL (some q) c F w (by omega) hm (hF.left _ (by omega))
        have HB : Hid (∀ w, HAt w (some q) n F → _) := Lib.hid fun w hF => ih (n - leftN n) (by omega) (some (q.add (leftN n * 32))) (c - leftN n) (fun i => F (leftN n + i)) w (by omega) (by omega) (hF.right _ (by omega))
        have hla := topN_length F (leftN n) (fun i hi => hF.length i (by omega))
        have hlb := topN_length (fun i => F (leftN n + i)) (n - leftN n) (fun i hi => hF.length _ (by omega))
        rw [topN_two F h2]
        have HN : Hid (∀ w, _) := Lib.hid fun w => refNodeSum_any (topN F (leftN n)) (topN (fun i => F (leftN n + i)) (n - leftN n)) hla hlb w
        have hd0 : ((n : Int) == 0) = false := by rw [beq_eq_false_iff_ne]; omega
        have hd1 : ((n : Int) == 1) = false := by rw [beq_eq_false_iff_ne]; omega
        clear ih hla hlb
        generalize topN (fun i => F (leftN n + i)) (n - leftN n) = B at HB HN ⊢
        generalize topN F (leftN n) = A at HA HN ⊢
        generalize leftN n = l at hL hP HLf HA HB
        have HF := Lib.hid hF
        clear hF
        go_enter Tryd.func34, Tryd.ntmps34
        go_wp2_with fail
        change Calls _ _ _ (w.alloc (.cells (bC 32 []) 31)) _
        have R1 := Lib.hid (Rowz.new w (bC 32 []) 31)
        have K1 := Lib.hid ((Kept.refl w).alloc (.cells (bC 32 []) 31))
        generalize w.alloc (.cells (bC 32 []) 31) = v at R1 K1 ⊢
        refine (HLf.out _).mono ?_
        rintro e v1 ⟨rfl, rfl⟩
        go_wp2_with fail
        refine wp_region_tail 9 [(17, .is (.slice (some q) n c)), (18, .is (.int .i64 (l : Int))), (19, .is (.slice (some q) l c)), (20, .is (.agg (bC 32 A))), (21, .is (.slice (some q) n c)), (22, .is (.int .i64 (l : Int))), (23, .is (.slice (some (q.add (l * 32))) (n - l) (c - l))), (24, .is (.agg (bC 32 B))), (25, .is (.agg (bC 32 (shaL (nodeS A B)))))] (by kernel_rfl) (by kernel_rfl) ?_ ?_
        · refine ⟨fun t w1 hf hk hp => ?_, ?_⟩
          · have h0 : slot t 0 = .slice (some q) n c := hf 0 (by kernel_rfl)
            clear hf hp
            refine stepM_at (by kernel_rfl) ?_
            refine stepAt_plain rfl ?_
            exact stepOK_move _ (.inl rfl) h0
          refine ⟨fun t w1 hf hk hp => ?_, ?_⟩
          · have h3 : slot t 3 = .int .i64 (l : Int) := hf 3 (by kernel_rfl)
            clear hf hp
            refine stepM_at (by kernel_rfl) ?_
            refine stepAt_plain rfl ?_
            exact stepOK_move _ (.inl rfl) h3
          refine ⟨fun t w1 hf hk hp => ?_, ?_⟩
          · have h17 : slot t 17 = .slice (some q) n c := hp 17 (by kernel_rfl)
            have h18 : slot t 18 = .int .i64 (l : Int) := hp 18 (by kernel_rfl)
            clear hf hp
            refine stepM_at (by kernel_rfl) ?_
            refine stepAt_plain rfl ?_
            have hq0 := run_cutH_left q n c l w1 (by omega)
            exact stepOK_sem (.slice (some q) l c) (by simp only [execOp, evS, Option.map_some, Option.map_none, h17, h18]) hq0 rfl
          refine ⟨fun t w1 hf hk hp => ?_, ?_⟩
          · have h19 : slot t 19 = .slice (some q) l c := hp 19 (by kernel_rfl)
            clear hf hp
            refine stepM_at (by kernel_rfl) ?_
            refine stepAt_plain rfl ?_
            refine stepOK_call #[.slice (some q) l c] rfl (by simp only [List.map_toArray, List.map_cons, List.map_nil, evS, h19]) (by go_simp) ((HA.out w1 (HF.out.kept (K1.out.trans hk))).mono fun e w' ⟨he, hk'⟩ => ⟨_, he, hk', rfl⟩)
          refine ⟨fun t w1 hf hk hp => ?_, ?_⟩
          · have h0 : slot t 0 = .slice (some q) n c := hf 0 (by kernel_rfl)
            clear hf hp
            refine stepM_at (by kernel_rfl) ?_
            refine stepAt_plain rfl ?_
            exact stepOK_move _ (.inl rfl) h0
          refine ⟨fun t w1 hf hk hp => ?_, ?_⟩
          · have h3 : slot t 3 = .int .i64 (l : Int) := hf 3 (by kernel_rfl)
            clear hf hp
            refine stepM_at (by kernel_rfl) ?_
            refine stepAt_plain rfl ?_
            exact stepOK_move _ (.inl rfl) h3
          refine ⟨fun t w1 hf hk hp => ?_, ?_⟩
          · have h21 : slot t 21 = .slice (some q) n c := hp 21 (by kernel_rfl)
            have h22 : slot t 22 = .int .i64 (l : Int) := hp 22 (by kernel_rfl)
            clear hf hp
            refine stepM_at (by kernel_rfl) ?_
            refine stepAt_plain rfl ?_
            have hq0 := run_cutH_right q n c l w1 (by omega) (by omega)
            exact stepOK_sem (.slice (some (q.add (l * 32))) (n - l) (c - l)) (by simp only [execOp, evS, Option.map_some, Option.map_none, h21, h22]) hq0 rfl
          refine ⟨fun t w1 hf hk hp => ?_, ?_⟩
          · have h23 : slot t 23 = .slice (some (q.add (l * 32))) (n - l) (c - l) := hp 23 (by kernel_rfl)
            clear hf hp
            refine stepM_at (by kernel_rfl) ?_
            refine stepAt_plain rfl ?_
            refine stepOK_call #[.slice (some (q.add (l * 32))) (n - l) (c - l)] rfl (by simp only [List.map_toArray, List.map_cons, List.map_nil, evS, h23]) (by go_simp) ((HB.out w1 (HF.out.kept (K1.out.trans hk))).mono fun e w' ⟨he, hk'⟩ => ⟨_, he, hk', rfl⟩)
          refine ⟨fun t w1 hf hk hp => ?_, ?_⟩
          · have h20 : slot t 20 = .agg (bC 32 A) := hp 20 (by kernel_rfl)
            have h24 : slot t 24 = .agg (bC 32 B) := hp 24 (by kernel_rfl)
            clear hf hp
            refine stepM_at (by kernel_rfl) ?_
            refine stepAt_plain rfl ?_
            refine stepOK_call #[.agg (bC 32 A), .agg (bC 32 B)] rfl (by simp only [List.map_toArray, List.map_cons, List.map_nil, evS, h20, h24]) (by go_simp) ((HN.out w1).mono fun e w' ⟨he, hk'⟩ => ⟨_, he, hk', rfl⟩)
          exact trivial
        · intro t w1 hsz hf hk hfacts
          have h25 : slot t 25 = .agg (bC 32 (shaL (nodeS A B))) := hfacts 8 _ (by decide) rfl 25 rfl
          have h0 : slot t 0 = .slice (some q) n c := hf 0 (by kernel_rfl)
          have h2 : slot t 2 = .pointer (some ⟨w.heap.size, 0, none⟩) := hf 2 (by kernel_rfl)
          have h3 : slot t 3 = .int .i64 (l : Int) := hf 3 (by kernel_rfl)
          have harr : t = #[slot t 0, slot t 1, slot t 2, slot t 3, slot t 4, slot t 5, slot t 6, slot t 7, slot t 8, slot t 9, slot t 10, slot t 11, slot t 12, slot t 13, slot t 14, slot t 15, slot t 16, slot t 17, slot t 18, slot t 19, slot t 20, slot t 21, slot t 22, slot t 23, slot t 24, slot t 25] := arr_eq t 26 hsz
          rw [harr, h25, h0, h2, h3]
          clear harr hfacts hf h25 h0 h2 h3
          generalize slot t 1 = x1; generalize slot t 4 = x4; generalize slot t 5 = x5; generalize slot t 6 = x6; generalize slot t 7 = x7; generalize slot t 8 = x8; generalize slot t 9 = x9; generalize slot t 10 = x10; generalize slot t 11 = x11; generalize slot t 12 = x12; generalize slot t 13 = x13; generalize slot t 14 = x14
          generalize slot t 15 = x15; generalize slot t 16 = x16; generalize slot t 17 = x17; generalize slot t 18 = x18; generalize slot t 19 = x19; generalize slot t 20 = x20; generalize slot t 21 = x21; generalize slot t 22 = x22; generalize slot t 23 = x23; generalize slot t 24 = x24
          clear hsz t
          simp only [List.drop_succ_cons, List.drop_zero]
          have R2 := Lib.hid (R1.out.kept hk)
          have K2 := Lib.hid (K1.out.trans hk)
          go_wp2_with (refine wpList_store_row rfl 31 _ _ rfl w.heap.size (bC 32 (shaL (nodeS A B))) rfl rfl 31 (bC 32 []) R2.out (info_hash _) (by simp [bC_size]) (bC_one _ _) ?_)
          refine bodyPost_ret (v := .agg (bC 32 (shaL (nodeS A B)))) (results_cell_row Tryd.results34 _ _ w.heap.size 31 _ (0, 0) _ rfl R2.out.row Tryd.underlying31 rfl (info_hash _)) rfl ⟨rfl, ?_⟩
          exact K2.out.setRow (Nat.le_refl _) _

theorem refLeaves_at (p : Option Addr) (n c : Nat) (S : Nat → ByteArray) (w : World) (hS : SAt w p n S) (hz : ∀ i, i < n → (S i).size ≤ 1000000) (hn : n ≤ 1000000) :
    Calls Tryd.prog 35 #[.slice p n c] w fun e w' => ∃ v, e = .returned v ∧ HSl n (lf S) v w' ∧ Kept w w' :=
  (refLeaves_any p n c S w hS hz hn).mono fun _ _ ⟨v, he, ho, hk⟩ => ⟨v, he, HSl.ofOwns ho, hk⟩

set_option maxRecDepth 100000 in
set_option maxHeartbeats 1000000 in
theorem refRoot11_any (p : Option Addr) (n c : Nat) (S : Nat → ByteArray) (w : World) (hS : SAt w p n S) (hz : ∀ i, i < n → (S i).size ≤ 1000000) (hn : n ≤ 1000000) :
    Calls Tryd.prog 25 #[.slice p n c] w fun e w' => e = .returned (.agg (bC 32 (rootL S n))) ∧ Kept w w' := by
  have HL : Hid (∀ w, SAt w p n S → _) := Lib.hid fun w hS => refLeaves_at p n c S w hS hz hn
  have HTp : Hid (∀ v w, HSl n (lf S) v w → _) := Lib.hid fun v w hv => (refTop_any n).at hv
  have HR : Hid (∀ w, _) := Lib.hid fun w => refRootSum_any n (by omega) (topN (lf S) n) (top_lf_length S n) w
  have hE : shaL (rootS n (topN (lf S) n)) = rootL S n := rfl
  rw [hE] at HR
  clear hE
  generalize topN (lf S) n = A at HTp HR
  generalize rootL S n = B at HR ⊢
  have HS := Lib.hid hS
  clear hS hz
  have hw : IntKind.u64.wrap (n : Int) = (n : Int) := by simp only [IntKind.wrap, IntKind.signed, IntKind.bits]; simp; omega
  go_enter Tryd.func25, Tryd.ntmps25
  go_wp2_with fail
  change Calls _ _ _ (w.alloc (.cells (bC 32 []) 31)) _
  have R1 := Lib.hid (Rowz.new w (bC 32 []) 31)
  have K1 := Lib.hid ((Kept.refl w).alloc (.cells (bC 32 []) 31))
  generalize w.alloc (.cells (bC 32 []) 31) = v at R1 K1 ⊢
  refine (HL.out _ (HS.out.kept K1.out)).mono ?_
  rintro e v1 ⟨x, rfl, hx, k1⟩
  have HX := Lib.hid hx
  have R2 := Lib.hid (R1.out.kept k1)
  have K2 := Lib.hid (K1.out.trans k1)
  clear R1 K1 k1 HL hx
  go_wp2_with fail
  refine (HTp.out _ _ HX.out).mono ?_
  rintro e v2 ⟨rfl, k1⟩
  have R3 := Lib.hid (R2.out.kept k1)
  have K3 := Lib.hid (K2.out.trans k1)
  clear R2 K2 k1 HTp HX
  go_wp2_with fail
  refine (HR.out _).mono ?_
  rintro e v3 ⟨rfl, k1⟩
  have R4 := Lib.hid (R3.out.kept k1)
  have K4 := Lib.hid (K3.out.trans k1)
  clear R3 K3 k1 HR
  go_wp2_with (refine wpList_store_row rfl 31 _ _ rfl w.heap.size (bC 32 B) rfl rfl 31 (bC 32 []) R4.out (info_hash _) (by simp [bC_size]) (bC_one _ _) ?_)
  refine bodyPost_ret (v := .agg (bC 32 B)) (results_cell_row Tryd.results25 _ _ w.heap.size 31 _ (0, 0) _ rfl R4.out.row Tryd.underlying31 rfl (info_hash _)) rfl ⟨rfl, ?_⟩
  exact K4.out.setRow (Nat.le_refl _) _
end Go.Proofs.YtlfkkfacbcpogaaDoor
namespace Go.Proofs.YtlfkkfacbcpogaaDoor
set_option maxRecDepth 4000
open Go.RowKit


end Go.Proofs.YtlfkkfacbcpogaaDoor
namespace Go.Proofs.YtlfkkfacbcpogaaDoor
set_option maxRecDepth 4000
open Go.RowKit Go.Shelf
attribute [local go_sem] Oper.semAt_some

end Go.Proofs.YtlfkkfacbcpogaaDoor
namespace Go.Proofs.YtlfkkfacbcpogaaDoor
set_option maxRecDepth 4000
open Go.RowKit Go.Shelf
attribute [local go_sem] Oper.semAt_some

/-- A row of bools. -/
def boC (l : List Bool) : Array Value := (l.map Value.bool).toArray
theorem boC_size (l : List Bool) : (boC l).size = l.length := by simp [boC]
theorem boC_get (l : List Bool) (i : Nat) (h : i < l.length) : (boC l)[i]? = some (.bool (l.getD i false)) := by
  simp [boC, List.getElem?_eq_getElem h]
theorem boC_set (l : List Bool) (i : Nat) (x : Bool) : (boC l).setIfInBounds i (.bool x) = boC (l.set i x) := by
  simp [boC, List.map_set]
theorem madeCells_bools (n : Nat) : madeCells (Value.bool false).cells n = boC (List.replicate n false) := by
  apply Array.ext
  · simp [madeCells, boC]
  · intro i h1 h2
    simp [madeCells, boC, Value.cells, Nat.mod_one]
/-- What has come lies at the end of the row, the last step first. -/
def fillB (L : Nat) (pre : List Bool) : List Bool := List.replicate (L - pre.length) false ++ pre.reverse
theorem fillB_nil (L : Nat) : fillB L [] = List.replicate L false := by simp [fillB]
theorem fillB_length (L : Nat) (pre : List Bool) (h : pre.length ≤ L) : (fillB L pre).length = L := by simp [fillB]; omega
theorem fillB_all (pre : List Bool) : fillB pre.length pre = pre.reverse := by simp [fillB]
theorem fillB_step (L : Nat) (pre : List Bool) (x : Bool) (h : pre.length < L) : (fillB L pre).set (L - pre.length - 1) x = fillB L (pre ++ [x]) := by
  obtain ⟨k, hk⟩ : ∃ k, L - pre.length = k + 1 := ⟨L - pre.length - 1, by omega⟩
  have h2 : L - (pre ++ [x]).length = k := by simp; omega
  rw [fillB, fillB, hk, h2, List.set_append_left _ _ (by simp), Nat.add_sub_cancel, List.replicate_succ', List.set_append_right _ _ (by simp)]
  simp

/-- 'The block is a row that holds f s' speaks of cells alone. -/
theorem rowz_own {β : Type} (g : Nat) (T : TypeId) (f : β → Array Value) : Own (fun s W => Rowz W g (f s) T) := fun s X Y row hs hg hrow =>
  (hg.block g hs.lt (fun e' => by obtain ⟨o, ho, hc⟩ := hrow g e'.symm; rw [show X.heap[g]? = _ from hs] at ho; cases ho; cases hc)).trans hs

/-- A slice of the bools l (nil, or a row whose first cells they are). -/
def BRow (w : World) (v : Value) (l : List Bool) : Prop := ∃ p cap, v = .slice p l.length cap ∧ (0 < l.length → ∃ g cur, p = some ⟨g, 0, none⟩ ∧ Rowz w g cur 4 ∧ ∀ i, i < l.length → cur[i]? = some (.bool (l.getD i false)))
theorem BRow.kept {w w' : World} {v : Value} {l : List Bool} (h : BRow w v l) (hk : Kept w w') : BRow w' v l := by
  obtain ⟨p, cap, hv, h⟩ := h
  exact ⟨p, cap, hv, fun hl => by obtain ⟨g, cur, hp, hr, hc⟩ := h hl; exact ⟨g, cur, hp, hr.kept hk, hc⟩⟩
theorem BRow.none (w : World) : BRow w (.slice none 0 0) [] := ⟨.none, 0, rfl, fun h => by simp at h⟩
theorem BRow.ofRow {w : World} {g : Nat} {l : List Bool} (h : Rowz w g (boC l) 4) : BRow w (.slice (some ⟨g, 0, .none⟩) l.length l.length) l := ⟨_, _, rfl, fun _ => ⟨g, _, rfl, h, fun i hi => boC_get l i hi⟩⟩
theorem BRow.ofOwns {w : World} {base n : Nat} {v : Value} {l : List Bool} (h : w.ownsRow base 4 1 v n (l.map Value.bool)) (hn : n = l.length) : BRow w v l := by
  subst hn
  rcases Nat.eq_zero_or_pos l.length with h0 | h0
  · rcases h.2 with ⟨hv, _⟩ | ⟨g, cap, cur, hv, _⟩
    · exact ⟨.none, 0, by rw [hv, h0], fun hl => by omega⟩
    · exact ⟨_, cap, hv, fun hl => by omega⟩
  · obtain ⟨g, cap, cur, hv, _, _, hr, hc⟩ := owns_row h h0
    exact ⟨_, cap, hv, fun _ => ⟨g, cur, rfl, hr, fun i hi => by rw [hc i hi]; simp [List.getElem?_eq_getElem hi]⟩⟩

theorem depthI_no {n i : Int} (h : ¬ (0 ≤ i ∧ i < n)) : depthI n i = -1 := by rw [depthI, if_neg h]
theorem depthI_yes {n i : Nat} (h : i < n) : depthI (n : Int) (i : Int) = ((dn n i).length : Int) := by rw [depthI, if_pos (by omega)]; simp [sidesN]
theorem sidesI_no {n i : Int} (h : ¬ (0 ≤ i ∧ i < n)) : sidesI n i = [] := by rw [sidesI, if_neg h]
theorem sidesI_yes {n i : Nat} (h : i < n) : sidesI (n : Int) (i : Int) = sidesN n i := by rw [sidesI, if_pos (by omega)]; simp

end Go.Proofs.YtlfkkfacbcpogaaDoor
namespace Go.Proofs.YtlfkkfacbcpogaaDoor
set_option maxRecDepth 4000
open Go.RowKit

theorem wrap_sub (i l : Nat) (h : l ≤ i) (h63 : i < 9223372036854775807) : IntKind.i64.wrap ((i : Int) - (l : Int)) = (i : Int) - (l : Int) := by
  simp only [IntKind.wrap, IntKind.signed, IntKind.bits]; simp; omega
end Go.Proofs.YtlfkkfacbcpogaaDoor
