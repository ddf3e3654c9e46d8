/-
  Slices of hashes, wherever they lie and of the call's own: stored into, made, grown, cut, compared (the reference's Hashes). No condition.
  The shape of trees as mathematics: leftN n (the leaves on the left side), dn n i (the path down to leaf i of n), sidesN n i (the path up); its length, and that different leaves have different paths.
  Contracts of shape.Left and milepostref11.Left.
  Trees of hashes as mathematics: topN F n (the top of n hashes), lf S (the hashes of leaves), txtsN S n (the texts of a tree of n leaves), and: trees that differ have different roots or two different texts of one hash.
  Contracts of tree.mapped (of strings, by tag.LeafSum), tree.Leaves and of the reference's Leaves. Conditions: at most a million leaves of at most a million bytes; sha's table of round constants stands.
  Contracts of tree.split, tree.Top, tree.Root and of the reference's Top and Root. Conditions: a slice's length and capacity fit; sha's table of round constants stands; leaves of at most a million bytes.
  Contracts of tree.Root, and of the reference's Top, Root and Hashes. Conditions: a slice's length and capacity fit; sha's table of round constants stands (tree.Root); at most a million leaves of at most a million bytes.
  For layer 12's laws: the reference's Hashes; Much and awake of milepostlaw12. Conditions: sizes fit; sha's table of round constants stands (awake).
  Contracts of shape.down: the value that it makes is an iterator that yields the path down, step by step.
  Contracts of shape.Depth and shape.Sides: loops over the iterator.
  Contracts of milepostref11: Sides, Depth; of milepostlaw11: same, awake.
-/
import Derived.Test.YtcbcjiaedoeaeaaDoorTag
import Derived.Test.YtcbcjiaedoeaeaaDoorBas
import Derived.Laws.CopyRow
import Derived.Test.YtcbcjiaedoeaeaaDoorProg
import Derived.WalkKit
import Derived.Lib.Hide
import Derived.Test.YtcbcjiaedoeaeaaDoorSha
import Derived.RangeFuncNested
import Derived.RangeFuncBound
import Derived.RangeFuncCalls
import Derived.RangeFuncLeaves
import Derived.Shelf.Abstract
import Derived.Shelf.RegionOpen
import Derived.OwnWalkIn
import Derived.TacticsInMore
import Derived.LoopNIn
import Derived.LoopIn
import Derived.RangeFuncBox
import Derived.BigQuiet
import Derived.OwnWalk
namespace Go.Proofs.YtcbcjiaedoeaeaaDoor
set_option maxRecDepth 4000
open Go.RowKit

theorem store_partH (w : World) (g o : Nat) (t ty : TypeId) (cur cells : Array Value) (hg : w.heap[g]? = some (.cells cur t (0, 0))) (hi : (Tryd.prog.info? ty).map (·.size) = some cells.size)
    (ho : o + cells.size ≤ cur.size) (h1 : cells.all (·.oneCell') = true) :
    (storeVar ty ⟨g, o, none⟩ (.agg cells)).run Tryd.prog w = .ok () (w.setRow g (cur.toList.take o ++ cells.toList ++ cur.toList.drop (o + cells.size)).toArray) := by
  have := run_storeCells_at Tryd.prog g o t cells.toList 0 cur w hg (by simpa using ho) (fun v hv => (Array.all_eq_true_iff_forall_mem.1 h1) v (by simpa using hv))
  cases hq : Tryd.prog.info? ty with
  | none => simp [hq] at hi
  | some i =>
    have hs : cells.size = i.size := by simp [hq] at hi; omega
    simp only [Nat.add_zero, Array.length_toList] at this
    rw [← this]
    simp [storeVar, sizeOf, typeInfo, hq, Value.cells, hs]
/-- 'out[k] = h' on a row of hashes. -/
theorem wpList_store_hash {ops : Array Oper} {rest : List Oper} {o : Oper} {a : Act} {w : World} {Q : Exit → Act → World → Prop} (hgd : o.guard = none) (x y : Operand) (ho : o.op = .store 34 x y)
    (g k n : Nat) (F : Nat → List UInt8) (h : List UInt8) (T : TypeId) (hx : a.eval x = .pointer (some ⟨g, k * 32, none⟩)) (hy : a.eval y = .agg (bC 32 h)) (hr : Hid (Rowz w g (hC n F) T)) (hk : k < n)
    (next : wpList Tryd.prog ops Q rest (a.put o.dst undef) (w.setRow g (hC n (fun i => if i = k then h else F i)))) : wpList Tryd.prog ops Q (o :: rest) a w :=
  wpList_plain hgd fun _ hK => by
    have hs := store_partH w g (k * 32) T 34 (hC n F) (bC 32 h) hr.out (info_hash h) (by rw [hC_size, bC_size]; omega) (bC_one _ _)
    rw [bC_size, hC_put n F k h hk] at hs
    unfold Oper.wp execOp
    simp only [ho, hx, hy, Instr.storeAt, Instr.sureAddr, Sem.run_bind, Sem.run_pure, Result.andThen_ok, hs]
    exact hK _ _ next
theorem zero_hash : ((Tryd.prog.info? 34).bind (·.zero)).map (·.cells) = some (bC 32 []) := by kernel_rfl
theorem run_make_hashes (n : Nat) (w : World) (hn : n ≤ 1000000) :
    (Instr.makeSlice 25 (.int .i64 (n : Int)) (.int .i64 (n : Int))).run Tryd.prog w = .ok (.slice (some ⟨w.heap.size, 0, none⟩) n n) (w.alloc (.cells (hC n (fun _ => [])) 34)) := by
  obtain ⟨i, hi⟩ : ∃ i, Tryd.prog.info? 34 = some i := Option.isSome_iff_exists.1 (by kernel_rfl)
  have hs : i.size = 32 := by
    have h : (Tryd.prog.info? 34).map (·.size) = some 32 := by kernel_rfl
    rw [hi] at h; exact Option.some.inj h
  have hb : i.bytes = 32 := by
    have h : (Tryd.prog.info? 34).map (·.bytes) = some 32 := by kernel_rfl
    rw [hi] at h; exact Option.some.inj h
  have h0 := zero_hash
  rw [hi] at h0
  obtain ⟨z, hz⟩ : ∃ z, i.zero = some z := by cases e : i.zero with | none => simp [e] at h0 | some z => exact ⟨z, rfl⟩
  have hz' : z.cells = bC 32 [] := by simpa [hz] using h0
  have h := run_make (P := Tryd.prog) w 25 34 i _ Tryd.underlying25 hi hz .i64 .i64 (n : Int) (n : Int) (by omega) (by omega) (by rw [hb]; omega) (by omega)
  rw [hs, Int.toNat_natCast, hz', madeCells_hashes] at h
  exact h
/-- The first k hashes stand. -/
def upH (F : Nat → List UInt8) (k i : Nat) : List UInt8 := if i < k then F i else []
theorem upH_put (F : Nat → List UInt8) (n k : Nat) : hC n (fun i => if i = k then F k else upH F k i) = hC n (upH F (k + 1)) := hC_congr _ _ _ fun i _ => by
  unfold upH
  by_cases h : i = k
  · subst h; simp
  · by_cases h2 : i < k
    · rw [if_neg h, if_pos h2, if_pos (by omega)]
    · rw [if_neg h, if_neg h2, if_neg (by omega)]
theorem upH_all (F : Nat → List UInt8) (n : Nat) : hC n (upH F n) = hC n F := hC_congr _ _ _ fun i hi => by unfold upH; rw [if_pos hi]

theorem info_hash32 : (Tryd.prog.info? 34).map (fun i => (i.size, i.bytes)) = some (32, 32) := by kernel_rfl
/-- 'append(out, h)' on a slice of hashes of the call's own. -/
theorem wpList_append_hash {w : World} {T : TypeId} {h0 : List UInt8} {ops : Array Oper} {rest : List Oper} {o : Oper} {a : Act} {Q : Exit → Act → World → Prop} (hgd : o.guard = none) (s x : Operand)
    (ho : o.op = .call { callee := .builtin .append, args := #[s, x], argTypes := #[25, 25] }) (W : World)
    (v : Value) (n : Nat) (F : Nat → List UInt8) (hs : a.eval s = v) (hown : Hid (w.ownsRow W.heap.size 34 32 v n (hC n F).toList)) (hx : a.eval x = .slice (some ⟨w.heap.size, 0, none⟩) 1 1)
    (hn : n ≤ 1000000) (hk : Hid (Kept W w)) (hF : h0 = F n)
    (h : ∀ v' w', Hid (w'.ownsRow W.heap.size 34 32 v' (n + 1) (hC (n + 1) F).toList) → Hid (Kept W w') → wpList Tryd.prog ops Q rest (a.put o.dst v') w') :
    wpList Tryd.prog ops Q (o :: rest) a (w.alloc (.cells (bC 32 h0) T)) := by
  subst hF
  obtain ⟨i, hi⟩ : ∃ i, Tryd.prog.info? 34 = some i := Option.isSome_iff_exists.1 (by kernel_rfl)
  have h32 := info_hash32
  rw [hi] at h32
  have h0 := zero_hash
  rw [hi] at h0
  obtain ⟨z, hz⟩ : ∃ z, i.zero = some z := by cases e : i.zero with | none => simp [e] at h0 | some z => exact ⟨z, rfl⟩
  have hz' : z.cells = bC 32 [] := by simpa [hz] using h0
  have hs32 : i.size = 32 := by simpa using congrArg (Option.map (·.1)) h32
  have hb32 : i.bytes = 32 := by simpa using congrArg (Option.map (·.2)) h32
  refine wpList_append_own (w.alloc (.cells (bC 32 (F n)) T)) hgd s x 25 ho W.heap.size 34 i z 32 32 Tryd.underlying25 hi hz hs32 hb32 (by rw [hz', bC_size]) (by decide) v n (hC n F).toList hs (hown.out.alloc _) ⟨w.heap.size, 0, none⟩ 1 1 (bC 32 (F n)).toList hx (by rw [Array.length_toList, bC_size]) ?_ ?_ (by unfold maxLen; omega) (by omega) (Nat.le_trans hk.out.size (by simp)) ?_
  · intro j y hj
    rw [Addr.add_mid, (Rowz.new w _ _).cell, ← hj, Array.getElem?_toList]
    simp
  · intro y hy
    exact Array.all_eq_true_iff_forall_mem.1 (bC_one 32 (F n)) y (by simpa using hy)
  · intro v' w' ho' hg _
    refine h v' w' (Lib.hid (by rw [hC_snoc] at ho'; exact ho')) (Lib.hid ((hk.out.alloc _).grownBy hg ?_))
    intro k hk'
    exact (hown.out.lt k hk').1
theorem execBuild1 {P : Program} {ty : TypeId} {o : Oper} {t : Array Value} {x : Operand} {w w' : World} {a : Value} {u : Value} (ho : o.op = .buildSlice ty 1 #[(0, x)]) (hx : evS t x = a) (h : (Instr.buildSlice ty 1 #[(0, a)]).run P w = .ok u w') : (execOp (evS t) o).run P w = .ok (.value u) w' := by
  unfold execOp
  simp [ho, hx, h, Result.andThen_ok]
theorem run_build1h (l : List UInt8) (w : World) : (Instr.buildSlice 25 1 #[(0, .agg (bC 32 l))]).run Tryd.prog w = .ok (.slice (some ⟨w.heap.size, 0, none⟩) 1 1) (w.alloc (.cells (bC 32 l) 34)) := by kernel_rfl
/-- What a slice of the call's own holds, in the form of the slices that lie anywhere. -/
theorem HAt.ofOwns {w : World} {base n : Nat} {v : Value} {F : Nat → List UInt8} (h : w.ownsRow base 34 32 v n (hC n F).toList) (hl : ∀ i, i < n → (F i).length = 32) : ∃ p c, v = .slice p n c ∧ n ≤ c ∧ c ≤ maxLen ∧ HAt w p n F := by
  rcases h.2 with ⟨rfl, rfl⟩ | ⟨g, cap, cur, rfl, hb, hg, h1, h2, h3, h4⟩
  · exact ⟨none, 0, rfl, Nat.le_refl _, Nat.zero_le _, HAt.zero _ _ _⟩
  · refine ⟨_, _, rfl, h1, h2, HAt.ofCells (cur := cur) (T := 34) hg hl fun k hk => ?_⟩
    rw [← Array.getElem?_toList (xs := hC n F), ← h4, List.getElem?_take, if_pos hk, Array.getElem?_toList]

theorem sizeHash (w : World) : (Go.sizeOf 34).run Tryd.prog w = .ok 32 w := by kernel_rfl
theorem run_cutH_left (q : Addr) (n c m : Nat) (w : World) (hm : m ≤ c) :
    (Instr.sliceAt 25 (.slice (some q) n c) none (some (.int .i64 (m : Int))) none).run Tryd.prog w = .ok (.slice (some q) m c) w := by
  have e : Tryd.prog.elem 25 = 34 := by kernel_rfl
  have hs := sizeHash w
  rw [run_sliceAt_slice w 25 _ _ _ _ Tryd.underlying25, run_slice_h w 25 (some q) n c Tryd.underlying25 .i64 (m : Int) (by omega) (by omega), e, hs]
  simp [sliced, Result.andThen, Addr.add]
theorem run_cutH_right (q : Addr) (n c m : Nat) (w : World) (hm : m ≤ n) (hc : m < c) :
    (Instr.sliceAt 25 (.slice (some q) n c) (some (.int .i64 (m : Int))) none none).run Tryd.prog w = .ok (.slice (some (q.add (m * 32))) (n - m) (c - m)) w := by
  have e : Tryd.prog.elem 25 = 34 := by kernel_rfl
  have hs := sizeHash w
  have hne : ¬ c = m := by omega
  rw [run_sliceAt_slice w 25 _ _ _ _ Tryd.underlying25, run_slice_l w 25 (some q) n c Tryd.underlying25 .i64 (m : Int) (by omega) (by omega), e, hs]
  simp [sliced, Result.andThen, hne]

/-- A slice of n hashes, as a value. -/
def HSl (n : Nat) (F : Nat → List UInt8) (v : Value) (w : World) : Prop := ∃ p c, v = .slice p n c ∧ n ≤ c ∧ c ≤ maxLen ∧ HAt w p n F
theorem HSl.kept (n : Nat) (F : Nat → List UInt8) (v : Value) (w w' : World) (K : Kept w w') (h : HSl n F v w) : HSl n F v w' := by
  obtain ⟨p, c, hv, h1, h2, h3⟩ := h
  exact ⟨p, c, hv, h1, h2, h3.kept K⟩
theorem execNeHs {o : Oper} {t : Array Value} {x y : Operand} (l m : List UInt8) (hl : l.length = 32) (hm : m.length = 32) (w : World) (ho : o.op = .binOp .neq 34 x y 34) (hx : evS t x = .agg (bC 32 l)) (hy : evS t y = .agg (bC 32 m)) :
    (execOp (evS t) o).run Tryd.prog w = .ok (.value (.bool (!decide (l = m)))) w := by
  have hq0 := sameH l m hl hm w
  have hq1 := guardH
  unfold execOp
  rw [ho]
  simp only [hx, hy]
  go_simp
theorem execNeSelf {o : Oper} {t : Array Value} {x y : Operand} (l : List UInt8) (hl : l.length = 32) (w : World) (ho : o.op = .binOp .neq 34 x y 34) (hx : evS t x = .agg (bC 32 l)) (hy : evS t y = .agg (bC 32 l)) :
    (execOp (evS t) o).run Tryd.prog w = .ok (.value (.bool false)) w := by
  have := execNeHs l l hl hl w ho hx hy
  simpa using this
theorem execIndexH {o : Oper} {t : Array Value} {x y : Operand} (q : Addr) (n c k : Nat) (hk : k < n) (w : World) (ho : o.op = .indexAddr 25 x y) (hx : evS t x = .slice (some q) n c) (hy : evS t y = .int .i64 (k : Int)) :
    (execOp (evS t) o).run Tryd.prog w = .ok (.value (.pointer (some (q.add (k * 32))))) w := by
  have h1 : ((k : Int) < (n : Int)) := by omega
  have hs := sizeHash w
  unfold execOp
  rw [ho]
  simp only [hx, hy]
  go_simp

theorem execLenHs {o : Oper} {t : Array Value} {x : Operand} {p : Option Addr} {n c : Nat} (w : World) (ho : o.op = .call { callee := .builtin .len, args := #[x], argTypes := #[25] }) (hx : evS t x = .slice p n c) :
    (execOp (evS t) o).run Tryd.prog w = .ok (.value (.int .i64 (n : Int))) w := by
  unfold execOp
  rw [ho]
  go_simp
theorem execEqHsV {o : Oper} {t : Array Value} {x y : Operand} (l m : List UInt8) (hl : l.length = 32) (hm : m.length = 32) (b : Bool) (hb : decide (l = m) = b) (w : World) (ho : o.op = .binOp .eql 34 x y 34) (hx : evS t x = .agg (bC 32 l)) (hy : evS t y = .agg (bC 32 m)) :
    (execOp (evS t) o).run Tryd.prog w = .ok (.value (.bool b)) w := by
  rw [← hb]; exact execEqHs l m hl hm w ho hx hy
theorem load_h {w : World} {g : Nat} {l : List UInt8} {o : Oper} {t : Array Value} {x : Operand} (ho : o.op = .load 34 x) (hx : evS t x = .pointer (some ⟨g, 0, none⟩)) (hg : Rowz w g (bC 32 l) 34) :
    (execOp (evS t) o).run Tryd.prog w = .ok (.value (.agg (bC 32 l))) w :=
  execLoadRow 34 ho g hx _ 34 _ hg Tryd.underlying34 rfl (info_hash _)
theorem load_at {o : Oper} {t : Array Value} {x : Operand} {w : World} {q : Addr} {n : Nat} {F : Nat → List UInt8} (k : Nat) (ho : o.op = .load 34 x) (hx : evS t x = .pointer (some (q.add (k * 32)))) (hF : HAt w (some q) n F) (hk : k < n) :
    (execOp (evS t) o).run Tryd.prog w = .ok (.value (.agg (bC 32 (F k)))) w := by
  have hr := hF.load k hk
  unfold execOp
  simp only [ho, hx, Sem.run_bind, Sem.run_pure, hr, Result.andThen_ok]
set_option maxRecDepth 100000 in
set_option maxHeartbeats 1000000 in
theorem refHashes_any (n m : Nat) (F G : Nat → List UInt8) (v u : Value) (w : World) (hv : HSl n F v w) (hu : HSl m G u w) :
    Calls Tryd.prog 24 #[v, u] w fun e w' => ∃ B : Bool, e = .returned (.bool B) ∧ (B = true ↔ n = m ∧ ∀ i, i < n → F i = G i) ∧ Kept w w' := by
  obtain ⟨p, c, rfl, hc, hcm, hF⟩ := hv
  obtain ⟨p', c', rfl, hc', hcm', hG⟩ := hu
  by_cases hnm : n = m
  · subst hnm
    have HF := Lib.hid hF
    have HG := Lib.hid hG
    have hd0 : ((n : Int) != (n : Int)) = false := by simp
    have hn63 : n ≤ 9223372036854775807 := by unfold maxLen at hcm; omega
    clear hF hG hc hcm hc' hcm'
    go_enter Tryd.func24, Tryd.ntmps24
    go_wp2
    go_loopw [5] (fun i wr => ∃ k : Nat, k ≤ n ∧ i = .int .i64 k ∧ Hid (∀ i, i < k → F i = G i) ∧ Hid (Kept w wr)) (fun i _ => n - (intOf i).toNat)
    case atStart => exact ⟨0, by omega, rfl, Lib.hid (fun i hi => absurd hi (Nat.not_lt_zero i)), Lib.hid (Kept.refl w)⟩
    case round =>
      obtain ⟨k, hk, rfl, HU, HK⟩ := hrel
      by_cases hlt : k < n
      · have hd1 : decide ((k : Int) < (n : Int)) = true := decide_eq_true (by omega)
        have hd1' : decide (k < n) = true := decide_eq_true hlt
        obtain ⟨q, rfl, _⟩ := HF.out.some (by omega)
        obtain ⟨q', rfl, _⟩ := HG.out.some (by omega)
        have hl := HF.out.length k hlt
        have hl' := HG.out.length k hlt
        go_wp2_with fail
        refine wp_region_table [(17, .is (.slice (some q) n c)), (18, .is (.int .i64 (k : Int))), (19, .is (.pointer (some (q.add (k * 32))))), (20, .is (.agg (bC 32 (F k)))), (21, .is (.slice (some q') n c')), (22, .is (.int .i64 (k : Int))), (23, .is (.pointer (some (q'.add (k * 32))))), (24, .is (.agg (bC 32 (G k)))), (25, .is (.bool (!decide (F k = G k))))] (by kernel_rfl) (by kernel_rfl) ?_ ?_
        · refine ⟨fun t w1 hf hk hp => ?_, ?_⟩
          · have h0 : slot t 0 = .slice (some q) n c := hf 0 (by kernel_rfl)
            clear hf hp
            refine stepAt_plain rfl ?_
            exact stepOK_move _ (.inl rfl) h0
          refine ⟨fun t w1 hf hk hp => ?_, ?_⟩
          · have h5 : slot t 5 = .int .i64 (k : Int) := hf 5 (by kernel_rfl)
            clear hf hp
            refine stepAt_plain rfl ?_
            exact stepOK_move _ (.inl rfl) h5
          refine ⟨fun t w1 hf hk hp => ?_, ?_⟩
          · have h17 : slot t 17 = .slice (some q) n c := hp 17 (by kernel_rfl)
            have h18 : slot t 18 = .int .i64 (k : Int) := hp 18 (by kernel_rfl)
            clear hf hp
            refine stepAt_plain rfl ?_
            exact stepOK_pure (.pointer (some (q.add (k * 32)))) (execIndexH q n c k hlt w1 rfl h17 h18) rfl
          refine ⟨fun t w1 hf hk hp => ?_, ?_⟩
          · have h19 : slot t 19 = .pointer (some (q.add (k * 32))) := hp 19 (by kernel_rfl)
            clear hf hp
            refine stepAt_plain rfl ?_
            have hq0 := (HF.out.kept (HK.out.trans hk)).load k hlt
            exact stepOK_sem (.agg (bC 32 (F k))) (by simp only [execOp, evS, h19]) hq0 rfl
          refine ⟨fun t w1 hf hk hp => ?_, ?_⟩
          · have h1 : slot t 1 = .slice (some q') n c' := hf 1 (by kernel_rfl)
            clear hf hp
            refine stepAt_plain rfl ?_
            exact stepOK_move _ (.inl rfl) h1
          refine ⟨fun t w1 hf hk hp => ?_, ?_⟩
          · have h5 : slot t 5 = .int .i64 (k : Int) := hf 5 (by kernel_rfl)
            clear hf hp
            refine stepAt_plain rfl ?_
            exact stepOK_move _ (.inl rfl) h5
          refine ⟨fun t w1 hf hk hp => ?_, ?_⟩
          · have h21 : slot t 21 = .slice (some q') n c' := hp 21 (by kernel_rfl)
            have h22 : slot t 22 = .int .i64 (k : Int) := hp 22 (by kernel_rfl)
            clear hf hp
            refine stepAt_plain rfl ?_
            exact stepOK_pure (.pointer (some (q'.add (k * 32)))) (execIndexH q' n c' k hlt w1 rfl h21 h22) rfl
          refine ⟨fun t w1 hf hk hp => ?_, ?_⟩
          · have h23 : slot t 23 = .pointer (some (q'.add (k * 32))) := hp 23 (by kernel_rfl)
            clear hf hp
            refine stepAt_plain rfl ?_
            have hq0 := (HG.out.kept (HK.out.trans hk)).load k hlt
            exact stepOK_sem (.agg (bC 32 (G k))) (by simp only [execOp, evS, h23]) hq0 rfl
          refine ⟨fun t w1 hf hk hp => ?_, ?_⟩
          · have h20 : slot t 20 = .agg (bC 32 (F k)) := hp 20 (by kernel_rfl)
            have h24 : slot t 24 = .agg (bC 32 (G k)) := hp 24 (by kernel_rfl)
            clear hf hp
            refine stepAt_plain rfl ?_
            exact stepOK_pure (.bool (!decide (F k = G k))) (execNeHs (F k) (G k) hl hl' w1 rfl h20 h24) rfl
          exact trivial
        · intro t w1 hsz hf hk hfacts
          have h25 : slot t 25 = .bool (!decide (F k = G k)) := hfacts 8 _ rfl 25 rfl
          have h0 : slot t 0 = .slice (some q) n c := hf 0 (by kernel_rfl)
          have h1 : slot t 1 = .slice (some q') n c' := hf 1 (by kernel_rfl)
          have h5 : slot t 5 = .int .i64 (k : Int) := hf 5 (by kernel_rfl)
          have h2 := hf 2 (by kernel_rfl)
          conv at h2 => rhs; whnf
          try change slot t 2 = undef at h2
          have h3 := hf 3 (by kernel_rfl)
          conv at h3 => rhs; whnf
          try change slot t 3 = undef at h3
          have h4 := hf 4 (by kernel_rfl)
          conv at h4 => rhs; whnf
          try change slot t 4 = undef at h4
          have h6 := hf 6 (by kernel_rfl)
          conv at h6 => rhs; whnf
          try change slot t 6 = undef at h6
          have h7 := hf 7 (by kernel_rfl)
          conv at h7 => rhs; whnf
          try change slot t 7 = undef at h7
          have h8 := hf 8 (by kernel_rfl)
          conv at h8 => rhs; whnf
          try change slot t 8 = undef at h8
          have h9 := hf 9 (by kernel_rfl)
          conv at h9 => rhs; whnf
          try change slot t 9 = undef at h9
          have h10 := hf 10 (by kernel_rfl)
          conv at h10 => rhs; whnf
          try change slot t 10 = undef at h10
          have h11 := hf 11 (by kernel_rfl)
          conv at h11 => rhs; whnf
          try change slot t 11 = undef at h11
          have h12 := hf 12 (by kernel_rfl)
          conv at h12 => rhs; whnf
          try change slot t 12 = undef at h12
          have h13 := hf 13 (by kernel_rfl)
          conv at h13 => rhs; whnf
          try change slot t 13 = undef at h13
          have h14 := hf 14 (by kernel_rfl)
          conv at h14 => rhs; whnf
          try change slot t 14 = undef at h14
          have h15 := hf 15 (by kernel_rfl)
          conv at h15 => rhs; whnf
          try change slot t 15 = undef at h15
          have h16 := hf 16 (by kernel_rfl)
          conv at h16 => rhs; whnf
          try change slot t 16 = undef at h16
          have harr : t = #[slot t 0, slot t 1, slot t 2, slot t 3, slot t 4, slot t 5, slot t 6, slot t 7, slot t 8, slot t 9, slot t 10, slot t 11, slot t 12, slot t 13, slot t 14, slot t 15, slot t 16, slot t 17, slot t 18, slot t 19, slot t 20, slot t 21, slot t 22, slot t 23, slot t 24, slot t 25] := arr_eq t 26 hsz
          rw [harr, h25, h0, h1, h5, h2, h3, h4, h6, h7, h8, h9, h10, h11, h12, h13, h14, h15, h16]
          clear harr hfacts hf h25 h0 h1 h5 h2 h3 h4 h6 h7 h8 h9 h10 h11 h12 h13 h14 h15 h16
          generalize slot t 17 = x17; generalize slot t 18 = x18; generalize slot t 19 = x19; generalize slot t 20 = x20; generalize slot t 21 = x21; generalize slot t 22 = x22; generalize slot t 23 = x23; generalize slot t 24 = x24
          clear hsz t
          have HK1 := Lib.hid (HK.out.trans hk)
          clear hk HK
          by_cases he : F k = G k
          · have hd2 : decide (F k = G k) = true := decide_eq_true he
            have HU1 : Hid (∀ i, i < k + 1 → F i = G i) := Lib.hid (fun i hi => by
              rcases Nat.lt_or_eq_of_le (show i ≤ k by omega) with h | h
              · exact HU.out i h
              · subst h; exact he)
            rw [hd2]
            clear he hd2 HU
            go_wp2
            go_roundw
            case rel => exact ⟨k + 1, by omega, by go_num, HU1, HK1⟩
            case measure => simp [intOf]; omega
          · have hd2 : decide (F k = G k) = false := decide_eq_false he
            rw [hd2]
            have HE := Lib.hid he
            clear he hd2
            go_wp2
            go_ret
            exact ⟨_, rfl, ⟨fun h => by simp at h, fun h => absurd (h.2 k hlt) HE.out⟩, HK1.out⟩
      · have hd1 : decide ((k : Int) < (n : Int)) = false := decide_eq_false (by omega)
        have hd1' : decide (k < n) = false := decide_eq_false hlt
        obtain rfl : k = n := by omega
        go_wp2
        go_ret
        exact ⟨_, rfl, ⟨fun _ => ⟨trivial, HU.out⟩, fun _ => rfl⟩, HK.out⟩
  · have hd0 : ((n : Int) != (m : Int)) = true := by simp; omega
    have hd2 : ¬ (n : Int) = (m : Int) := by omega
    have HN := Lib.hid hnm
    clear hF hG hc hcm hc' hcm' hnm
    go_enter Tryd.func24, Tryd.ntmps24
    go_wp2
    go_ret
    exact ⟨_, rfl, ⟨fun h => by simp at h, fun h => absurd h.1 HN.out⟩, Kept.refl _⟩
end Go.Proofs.YtcbcjiaedoeaeaaDoor
namespace Go.Proofs.YtcbcjiaedoeaeaaDoor
set_option maxRecDepth 4000

/-- The greatest power of two below n (0 where there is none). -/
def leftN (n : Nat) : Nat := if n < 2 then 0 else 2 ^ Nat.log2 (n - 1)
theorem leftN_two {n : Nat} (h : 2 ≤ n) : leftN n = 2 ^ Nat.log2 (n - 1) := by rw [leftN, if_neg (by omega)]
theorem leftN_pos {n : Nat} (h : 2 ≤ n) : 0 < leftN n := by rw [leftN_two h]; exact Nat.pow_pos (by decide)
theorem leftN_lt {n : Nat} (h : 2 ≤ n) : leftN n < n := by
  rw [leftN_two h]; have := Nat.log2_self_le (n := n - 1) (by omega); omega
theorem leftN_double {n : Nat} (h : 2 ≤ n) : n ≤ 2 * leftN n := by
  rw [leftN_two h]
  have := Nat.lt_log2_self (n := n - 1)
  rw [Nat.pow_succ] at this
  omega
theorem leftN_small {n : Nat} (h : n < 2) : leftN n = 0 := by rw [leftN, if_pos h]
theorem leftN_eq {n j : Nat} (h1 : 2 ^ j < n) (h2 : n ≤ 2 * 2 ^ j) : leftN n = 2 ^ j := by
  have hp : 0 < 2 ^ j := Nat.pow_pos (by decide)
  rw [leftN_two (by omega)]
  have : Nat.log2 (n - 1) = j := by
    rw [Nat.log2_eq_iff (by omega), Nat.pow_succ]; omega
  rw [this]

/-- The path down to leaf i of n: does each step lead to the right side? -/
def dn (n i : Nat) : List Bool :=
  if _h : n < 2 then []
  else if i < leftN n then false :: dn (leftN n) i else true :: dn (n - leftN n) (i - leftN n)
termination_by n
decreasing_by
  · exact leftN_lt (by omega)
  · have := leftN_pos (n := n) (by omega); omega
theorem dn_one {n : Nat} (i : Nat) (h : n < 2) : dn n i = [] := by rw [dn, dif_pos h]
theorem dn_left {n i : Nat} (h : 2 ≤ n) (hi : i < leftN n) : dn n i = false :: dn (leftN n) i := by rw [dn, dif_neg (by omega), if_pos hi]
theorem dn_right {n i : Nat} (h : 2 ≤ n) (hi : leftN n ≤ i) : dn n i = true :: dn (n - leftN n) (i - leftN n) := by rw [dn, dif_neg (by omega), if_neg (by omega)]
/-- The path up: the lowest step first. -/
def sidesN (n i : Nat) : List Bool := (dn n i).reverse
theorem sidesN_length (n i : Nat) : (sidesN n i).length = (dn n i).length := by simp [sidesN]
theorem sidesN_one {n : Nat} (i : Nat) (h : n < 2) : sidesN n i = [] := by simp [sidesN, dn_one i h]
theorem sidesN_left {n i : Nat} (h : 2 ≤ n) (hi : i < leftN n) : sidesN n i = sidesN (leftN n) i ++ [false] := by simp [sidesN, dn_left h hi]
theorem sidesN_right {n i : Nat} (h : 2 ≤ n) (hi : leftN n ≤ i) : sidesN n i = sidesN (n - leftN n) (i - leftN n) ++ [true] := by simp [sidesN, dn_right h hi]

theorem dn_len (k : Nat) : ∀ (n i : Nat), n ≤ 2 ^ k → (dn n i).length ≤ k := by
  induction k with
  | zero => intro n i h; rw [dn_one i (by simp at h; omega)]; simp
  | succ k ih =>
    intro n i h
    by_cases h2 : n < 2
    · rw [dn_one i h2]; simp
    · have hl : leftN n ≤ 2 ^ k := by
        rw [leftN_two (by omega)]
        have h1 := Nat.log2_self_le (n := n - 1) (by omega)
        have : 2 ^ Nat.log2 (n - 1) < 2 ^ (k + 1) := by omega
        have := (Nat.pow_lt_pow_iff_right (by decide : 1 < 2)).1 this
        exact Nat.pow_le_pow_right (by decide) (by omega)
      have hd := leftN_double (n := n) (by omega)
      by_cases hi : i < leftN n
      · rw [dn_left (by omega) hi]; simp; exact ih _ _ hl
      · rw [dn_right (by omega) (by omega)]; simp; exact ih _ _ (by omega)
theorem dn_len63 {n : Nat} (i : Nat) (h : n ≤ 9223372036854775808) : (dn n i).length ≤ 63 := dn_len 63 n i h

theorem dn_inj (n : Nat) : ∀ (i k : Nat), i < n → k < n → dn n i = dn n k → i = k := by
  induction n using Nat.strongRecOn with
  | _ n ih =>
    intro i k hi hk he
    by_cases h2 : n < 2
    · omega
    · have hp := leftN_pos (n := n) (by omega)
      have hlt := leftN_lt (n := n) (by omega)
      rcases Nat.lt_or_ge i (leftN n) with h | h <;> rcases Nat.lt_or_ge k (leftN n) with h' | h'
      · rw [dn_left (by omega) h, dn_left (by omega) h'] at he
        exact ih _ hlt i k h h' (by simpa using he)
      · rw [dn_left (by omega) h, dn_right (by omega) h'] at he; simp at he
      · rw [dn_right (by omega) h, dn_left (by omega) h'] at he; simp at he
      · rw [dn_right (by omega) h, dn_right (by omega) h'] at he
        have := ih (n - leftN n) (by omega) (i - leftN n) (k - leftN n) (by omega) (by omega) (by simpa using he)
        omega
theorem sidesN_inj {n i k : Nat} (hi : i < n) (hk : k < n) (h : sidesN n i = sidesN n k) : i = k := dn_inj n i k hi hk (by simpa [sidesN] using h)

/-! Over Go's integers. -/
def leftI (n : Int) : Nat := leftN n.toNat
def sidesI (n i : Int) : List Bool := if 0 ≤ i ∧ i < n then sidesN n.toNat i.toNat else []
def depthI (n i : Int) : Int := if 0 ≤ i ∧ i < n then ((sidesN n.toNat i.toNat).length : Int) else -1

theorem leftN5 : leftN 5 = 4 := leftN_eq (j := 2) (by decide) (by decide)
theorem leftN4 : leftN 4 = 2 := leftN_eq (j := 1) (by decide) (by decide)
theorem leftN2 : leftN 2 = 1 := leftN_eq (j := 0) (by decide) (by decide)
theorem sides54 : sidesN 5 4 = [true] := by
  rw [sidesN_right (by decide) (by rw [leftN5]; decide), leftN5, sidesN_one _ (by decide)]; rfl
theorem sides51 : sidesN 5 1 = [true, false, false] := by
  rw [sidesN_left (by decide) (by rw [leftN5]; decide), leftN5, sidesN_left (by decide) (by rw [leftN4]; decide), leftN4, sidesN_right (by decide) (by rw [leftN2]; decide), leftN2, sidesN_one _ (by decide)]; rfl
end Go.Proofs.YtcbcjiaedoeaeaaDoor
namespace Go.Proofs.YtcbcjiaedoeaeaaDoor
set_option maxRecDepth 4000
open Go.RowKit

theorem leftI_small {n : Int} (h : n < 2) : leftI n = 0 := leftN_small (by omega)
theorem pow2_pos (j : Nat) : 0 < 2 ^ j := Nat.pow_pos (by decide)
/-- p is a power of two below m. -/
def PowB (m p : Nat) : Prop := ∃ j, p = 2 ^ j ∧ p < m
theorem PowB.pos {m p : Nat} (h : PowB m p) : 0 < p := by obtain ⟨j, rfl, _⟩ := h; exact pow2_pos j
theorem PowB.lt {m p : Nat} (h : PowB m p) : p < m := by obtain ⟨j, rfl, h⟩ := h; exact h
theorem PowB.next {m p : Nat} (h : PowB m p) (h2 : p * 2 < m) : PowB m (p * 2) := by obtain ⟨j, rfl, _⟩ := h; exact ⟨j + 1, by rw [Nat.pow_succ], h2⟩
theorem PowB.done {m p : Nat} (h : PowB m p) (h2 : m ≤ 2 * p) : leftN m = p := by obtain ⟨j, rfl, h⟩ := h; exact leftN_eq h h2
theorem PowB.one {m : Nat} (h : 2 ≤ m) : PowB m 1 := ⟨0, rfl, by omega⟩
theorem PowB.top {m p : Nat} (h : PowB m p) (hm : m < 9223372036854775808) : p ≤ 4611686018427387904 := by
  obtain ⟨j, rfl, h⟩ := h
  have h63 : 2 ^ j < 2 ^ 63 := by omega
  have := (Nat.pow_lt_pow_iff_right (by decide : 1 < 2)).1 h63
  exact Nat.pow_le_pow_right (n := 2) (by decide) (show j ≤ 62 by omega)
/-- Twice a power of two below 2^63 wraps round only to the least number. -/
theorem PowB.wrap {m p : Nat} (h : PowB m p) (hm : m < 9223372036854775808) (h2 : 4611686018427387904 ≤ p) : p = 4611686018427387904 := by have := h.top hm; omega

set_option maxHeartbeats 400000 in
theorem shapeLeft_any (n : Int) (w : World) (hl : -9223372036854775808 ≤ n) (hu : n < 9223372036854775808) :
    Calls Tryd.prog 40 #[.int .i64 n] w fun e w' => e = .returned (.int .i64 (leftI n : Int)) ∧ w = w' := by
  by_cases h2 : n < 2
  · have hd : decide (n < 2) = true := by simp; omega
    have hE : (leftI n : Int) = 0 := by rw [leftI_small h2]; rfl
    rw [hE]
    clear hE
    go_enter Tryd.func40, Tryd.ntmps40
    go_wp2
    go_ret
    exact ⟨rfl, rfl⟩
  · obtain ⟨m, rfl⟩ := Int.eq_ofNat_of_zero_le (show 0 ≤ n by omega)
    have hm2 : 2 ≤ m := by omega
    have hm : m < 9223372036854775808 := by omega
    have hd : decide ((m : Int) < 2) = false := by simp; omega
    have hE : leftI (m : Int) = leftN m := rfl
    rw [hE]
    clear hE hl hu h2
    go_enter Tryd.func40, Tryd.ntmps40
    go_wp2
    go_loop [3] (fun v => ∃ p : Nat, v = .int .i64 (p : Int) ∧ Hid (PowB m p)) (fun v => m - (intOf v).toNat)
    case atStart => exact ⟨1, rfl, Lib.hid (PowB.one hm2)⟩
    case round =>
      obtain ⟨p, rfl, HP⟩ := hrel
      have hp := HP.out.pos
      have hpm := HP.out.lt
      by_cases hc : p * 2 < m
      · have hd1 : decide ((p : Int) < (m : Int) - (p : Int)) = true := by simp; omega
        have HN := Lib.hid (HP.out.next hc)
        go_wp2
        go_round
        case rel => exact ⟨p * 2, by push_cast; rfl, HN⟩
        case measure => simp [intOf]; omega
      · have hd1 : decide ((p : Int) < (m : Int) - (p : Int)) = false := by simp; omega
        have HE := Lib.hid (HP.out.done (by omega))
        go_wp2
        go_ret
        exact ⟨by rw [HE.out]; rfl, rfl⟩

/-- What the reference's loop holds: p has come, k is next. -/
def RefL (n : Int) (p : Nat) (k : Int) : Prop := (p = 0 ∧ k = 1) ∨ (∃ m : Nat, n = (m : Int) ∧ PowB m p ∧ k = IntKind.i64.wrap ((p : Int) * 2))
theorem RefL.lt {n : Int} {p : Nat} {k : Int} (h : RefL n p k) (hu : n < 9223372036854775808) : p < 9223372036854775808 := by
  rcases h with ⟨rfl, _⟩ | ⟨m, rfl, hP, _⟩
  · omega
  · have := hP.lt; omega
theorem RefL.done {n : Int} {p : Nat} {k : Int} (h : RefL n p k) (hu : n < 9223372036854775808) (hc : ¬ (k < n ∧ 0 < k)) : leftI n = p := by
  rcases h with ⟨rfl, rfl⟩ | ⟨m, rfl, hP, hk⟩
  · exact leftI_small (by omega)
  · have hm : m < 9223372036854775808 := by omega
    have ht := hP.top hm
    have hp := hP.pos
    rw [IntKind.wrap_i64] at hk
    exact hP.done (by omega)
theorem RefL.next {n : Int} {p : Nat} {k : Int} (h : RefL n p k) (hu : n < 9223372036854775808) (hc : k < n ∧ 0 < k) : ∃ q : Nat, k = (q : Int) ∧ p < q ∧ RefL n q (IntKind.i64.wrap (k * 2)) := by
  rcases h with ⟨rfl, rfl⟩ | ⟨m, rfl, hP, hk⟩
  · exact ⟨1, rfl, by omega, .inr ⟨n.toNat, by omega, PowB.one (by omega), rfl⟩⟩
  · have hm : m < 9223372036854775808 := by omega
    have ht := hP.top hm
    have hp := hP.pos
    have hk' : k = ((p * 2 : Nat) : Int) := by rw [IntKind.wrap_i64] at hk; omega
    exact ⟨p * 2, hk', by omega, .inr ⟨m, rfl, hP.next (by omega), by rw [hk']⟩⟩
set_option maxHeartbeats 400000 in
theorem refLeft_any (n : Int) (w : World) (hu : n < 9223372036854775808) :
    Calls Tryd.prog 43 #[.int .i64 n] w fun e w' => e = .returned (.int .i64 (leftI n : Int)) ∧ w = w' := by
  go_enter Tryd.func43, Tryd.ntmps43
  go_wp2
  go_loop [3, 4] (fun a b => ∃ (p : Nat) (k : Int), a = .int .i64 (p : Int) ∧ b = .int .i64 k ∧ Hid (RefL n p k)) (fun a _ => 9223372036854775808 - (intOf a).toNat)
  case atStart => exact ⟨0, 1, rfl, rfl, Lib.hid (.inl ⟨rfl, rfl⟩)⟩
  case round =>
    obtain ⟨p, k, rfl, rfl, HR⟩ := hrel
    have hpl := HR.out.lt hu
    by_cases hc : k < n ∧ 0 < k
    · obtain ⟨q, hq, hpq, HN⟩ := HR.out.next hu hc
      replace HN := Lib.hid HN
      replace hq := Lib.hid hq
      have hql := HN.out.lt hu
      obtain ⟨h1, h2⟩ := hc
      have hd1 : decide (k < n) = true := by simp; omega
      have hd2 : decide (k > 0) = true := by simp; omega
      go_wp2
      go_round
      case rel => exact ⟨q, IntKind.i64.wrap (k * 2), by rw [hq.out], by unfold wrap64; rw [IntKind.wrap_i64], HN⟩
      case measure => rw [hq.out]; simp [intOf]; omega
    · have HE := Lib.hid (HR.out.done hu hc)
      by_cases h1 : k < n
      · have h2 : k ≤ 0 := by omega
        have hd1 : decide (k < n) = true := by simp; omega
        have hd2 : decide (k > 0) = false := by simp; omega
        clear hc
        go_wp2
        go_ret
        exact ⟨by rw [HE.out]; rfl, rfl⟩
      · have h2 : n ≤ k := by omega
        have hd1 : decide (k < n) = false := by simp; omega
        clear hc
        go_wp2
        go_ret
        exact ⟨by rw [HE.out]; rfl, rfl⟩
end Go.Proofs.YtcbcjiaedoeaeaaDoor
namespace Go.Proofs.YtcbcjiaedoeaeaaDoor
set_option maxRecDepth 4000

def zeroH : List UInt8 := List.replicate 32 0
/-- The top of n hashes. -/
def topN (F : Nat → List UInt8) (n : Nat) : List UInt8 :=
  if _h : n < 2 then (if n = 0 then zeroH else F 0)
  else shaL (nodeS (topN F (leftN n)) (topN (fun i => F (leftN n + i)) (n - leftN n)))
termination_by n
decreasing_by
  · exact leftN_lt (by omega)
  · have := leftN_pos (n := n) (by omega); omega
theorem topN_zero (F : Nat → List UInt8) : topN F 0 = zeroH := by rw [topN, dif_pos (by omega), if_pos rfl]
theorem topN_one (F : Nat → List UInt8) : topN F 1 = F 0 := by rw [topN, dif_pos (by omega), if_neg (by omega)]
theorem topN_two (F : Nat → List UInt8) {n : Nat} (h : 2 ≤ n) : topN F n = shaL (nodeS (topN F (leftN n)) (topN (fun i => F (leftN n + i)) (n - leftN n))) := by rw [topN, dif_neg (by omega)]
theorem topN_length (F : Nat → List UInt8) (n : Nat) (h : ∀ i, i < n → (F i).length = 32) : (topN F n).length = 32 := by
  by_cases h2 : n < 2
  · by_cases h0 : n = 0
    · subst h0; rw [topN_zero]; rfl
    · obtain rfl : n = 1 := by omega
      rw [topN_one]; exact h 0 (by omega)
  · rw [topN_two F (by omega), shaL_length]
theorem topN_congr (n : Nat) : ∀ (F G : Nat → List UInt8), (∀ i, i < n → F i = G i) → topN F n = topN G n := by
  induction n using Nat.strongRecOn with
  | _ n ih =>
    intro F G h
    by_cases h2 : n < 2
    · by_cases h0 : n = 0
      · subst h0; rw [topN_zero, topN_zero]
      · obtain rfl : n = 1 := by omega
        rw [topN_one, topN_one]; exact h 0 (by omega)
    · have hp := leftN_pos (n := n) (by omega)
      have hl := leftN_lt (n := n) (by omega)
      rw [topN_two F (by omega), topN_two G (by omega), ih _ hl F G (fun i hi => h i (by omega)), ih (n - leftN n) (by omega) (fun i => F (leftN n + i)) (fun i => G (leftN n + i)) (fun i hi => h _ (by omega))]

/-- The hashes of leaves. -/
def lf (S : Nat → ByteArray) (i : Nat) : List UInt8 := shaL (leafS (S i))
theorem lf_length (S : Nat → ByteArray) (i : Nat) : (lf S i).length = 32 := shaL_length _
theorem top_lf_length (S : Nat → ByteArray) (n : Nat) : (topN (lf S) n).length = 32 := topN_length _ _ (fun i _ => lf_length S i)
def rootL (S : Nat → ByteArray) (n : Nat) : List UInt8 := shaL (rootS n (topN (lf S) n))

/-- The texts of a tree of n leaves. -/
def txtsN (S : Nat → ByteArray) (n : Nat) : List ByteArray :=
  if _h : n < 2 then (if n = 1 then [leafS (S 0)] else [])
  else nodeS (topN (lf S) (leftN n)) (topN (lf fun i => S (leftN n + i)) (n - leftN n)) :: (txtsN S (leftN n) ++ txtsN (fun i => S (leftN n + i)) (n - leftN n))
termination_by n
decreasing_by
  · exact leftN_lt (by omega)
  · have := leftN_pos (n := n) (by omega); omega
theorem txtsN_zero (S : Nat → ByteArray) : txtsN S 0 = [] := by rw [txtsN, dif_pos (by omega), if_neg (by omega)]
theorem txtsN_one (S : Nat → ByteArray) : txtsN S 1 = [leafS (S 0)] := by rw [txtsN, dif_pos (by omega), if_pos rfl]
theorem txtsN_two (S : Nat → ByteArray) {n : Nat} (h : 2 ≤ n) : txtsN S n = nodeS (topN (lf S) (leftN n)) (topN (lf fun i => S (leftN n + i)) (n - leftN n)) :: (txtsN S (leftN n) ++ txtsN (fun i => S (leftN n + i)) (n - leftN n)) := by rw [txtsN, dif_neg (by omega)]
theorem txtsN_len (n : Nat) : ∀ S : Nat → ByteArray, 0 < n → (txtsN S n).length + 1 = 2 * n := by
  induction n using Nat.strongRecOn with
  | _ n ih =>
    intro S h
    by_cases h2 : n < 2
    · obtain rfl : n = 1 := by omega
      rw [txtsN_one]; rfl
    · have hp := leftN_pos (n := n) (by omega)
      have hl := leftN_lt (n := n) (by omega)
      have h1 := ih _ hl S hp
      have h3 := ih (n - leftN n) (by omega) (fun i => S (leftN n + i)) (by omega)
      rw [txtsN_two S (by omega)]
      simp only [List.length_cons, List.length_append]
      omega
theorem txtsN_le (S : Nat → ByteArray) (n : Nat) : (txtsN S n).length ≤ 2 * n := by
  rcases Nat.eq_zero_or_pos n with rfl | h
  · rw [txtsN_zero]; exact Nat.zero_le _
  · have := txtsN_len n S h; omega
theorem leafS_size (s : ByteArray) : (leafS s).size = 1 + s.size := by rw [leafS, tagS_size]
theorem nodeS_size (a b : List UInt8) : (nodeS a b).size = 1 + (a.length + b.length) := by rw [nodeS, tagS_size, ByteArray.size_append, hS_size, hS_size]
theorem rootS_size (n : Nat) (a : List UInt8) : (rootS n a).size = 1 + (8 + a.length) := by rw [rootS, tagS_size, ByteArray.size_append, hS_size, beS_size]
theorem txtsN_small (B n : Nat) (hB : 100 ≤ B) : ∀ S : Nat → ByteArray, (∀ i, i < n → (S i).size < B) → ∀ x ∈ txtsN S n, x.size ≤ B := by
  induction n using Nat.strongRecOn with
  | _ n ih =>
    intro S h x hx
    by_cases h2 : n < 2
    · by_cases h0 : n = 0
      · subst h0; rw [txtsN_zero] at hx; cases hx
      · obtain rfl : n = 1 := by omega
        rw [txtsN_one] at hx
        obtain rfl := List.mem_singleton.1 hx
        have := h 0 (by omega)
        rw [leafS_size]; omega
    · have hp := leftN_pos (n := n) (by omega)
      have hl := leftN_lt (n := n) (by omega)
      rw [txtsN_two S (by omega)] at hx
      rcases List.mem_cons.1 hx with rfl | hx
      · rw [nodeS_size, top_lf_length, top_lf_length]; omega
      · rcases List.mem_append.1 hx with hx | hx
        · exact ih _ hl S (fun i hi => h i (by omega)) x hx
        · exact ih (n - leftN n) (by omega) (fun i => S (leftN n + i)) (fun i hi => h _ (by omega)) x hx

/-- All the texts of a list's tree. -/
def allT (S : Nat → ByteArray) (n : Nat) : List ByteArray := txtsN S n ++ [rootS n (topN (lf S) n)]
theorem allT_length (S : Nat → ByteArray) (n : Nat) : (allT S n).length = (txtsN S n).length + 1 := by simp [allT]
theorem allT_small (B n : Nat) (hB : 100 ≤ B) (S : Nat → ByteArray) (h : ∀ i, i < n → (S i).size < B) : ∀ x ∈ allT S n, x.size ≤ B := by
  intro x hx
  rcases List.mem_append.1 hx with hx | hx
  · exact txtsN_small B n hB S h x hx
  · obtain rfl := List.mem_singleton.1 hx
    rw [rootS_size, top_lf_length]; omega
def clashL (X Y : List ByteArray) : Prop := ∃ x ∈ X, ∃ y ∈ Y, x ≠ y ∧ shaL x = shaL y
theorem clashL_mono {X Y X' Y' : List ByteArray} (h : clashL X Y) (hx : ∀ x ∈ X, x ∈ X') (hy : ∀ y ∈ Y, y ∈ Y') : clashL X' Y' := by
  obtain ⟨x, h1, y, h2, h3⟩ := h
  exact ⟨x, hx x h1, y, hy y h2, h3⟩
theorem leafS_inj (s t : ByteArray) : leafS s = leafS t ↔ s = t := tagS_inj 0 s t
theorem nodeS_inj (a b a' b' : List UInt8) (h : a.length = a'.length) : nodeS a b = nodeS a' b' ↔ a = a' ∧ b = b' := by
  rw [nodeS, nodeS, tagS_inj, app_inj _ _ _ _ (by rw [hS_size, hS_size, h]), hS_inj, hS_inj]
theorem rootS_inj (n m : Nat) (a b : List UInt8) (hn : n < 18446744073709551616) (hm : m < 18446744073709551616) : rootS n a = rootS m b ↔ n = m ∧ a = b := by
  rw [rootS, rootS, tagS_inj, app_inj _ _ _ _ (by rw [beS_size, beS_size]), hS_inj, beS_inj n m hn hm]
/-- Trees of one size and one top that differ have two different texts of one hash. -/
theorem tops_apart (n : Nat) : ∀ S R : Nat → ByteArray, (∃ i, i < n ∧ S i ≠ R i) → topN (lf S) n = topN (lf R) n → clashL (txtsN S n) (txtsN R n) := by
  induction n using Nat.strongRecOn with
  | _ n ih =>
    intro S R hd ht
    obtain ⟨i, hi, hne⟩ := hd
    by_cases h2 : n < 2
    · obtain rfl : n = 1 := by omega
      obtain rfl : i = 0 := by omega
      rw [topN_one, topN_one] at ht
      rw [txtsN_one, txtsN_one]
      exact ⟨_, List.mem_singleton.2 rfl, _, List.mem_singleton.2 rfl, fun e => hne ((leafS_inj _ _).1 e), ht⟩
    · have hp := leftN_pos (n := n) (by omega)
      have hl := leftN_lt (n := n) (by omega)
      rw [topN_two (lf S) (n := n) (by omega), topN_two (lf R) (n := n) (by omega)] at ht
      rw [txtsN_two S (by omega), txtsN_two R (by omega)]
      by_cases he : nodeS (topN (lf S) (leftN n)) (topN (lf fun i => S (leftN n + i)) (n - leftN n)) = nodeS (topN (lf R) (leftN n)) (topN (lf fun i => R (leftN n + i)) (n - leftN n))
      · obtain ⟨e1, e2⟩ := (nodeS_inj _ _ _ _ (by rw [top_lf_length, top_lf_length])).1 he
        by_cases hil : i < leftN n
        · refine clashL_mono (ih _ hl S R ⟨i, hil, hne⟩ e1) (fun x hx => ?_) (fun x hx => ?_)
          · exact List.mem_cons_of_mem _ (List.mem_append_left _ hx)
          · exact List.mem_cons_of_mem _ (List.mem_append_left _ hx)
        · refine clashL_mono (ih (n - leftN n) (by omega) (fun i => S (leftN n + i)) (fun i => R (leftN n + i)) ⟨i - leftN n, by omega, by simpa [show leftN n + (i - leftN n) = i by omega] using hne⟩ e2) (fun x hx => ?_) (fun x hx => ?_)
          · exact List.mem_cons_of_mem _ (List.mem_append_right _ hx)
          · exact List.mem_cons_of_mem _ (List.mem_append_right _ hx)
      · exact ⟨_, List.mem_cons_self, _, List.mem_cons_self, he, ht⟩
def sameS (n m : Nat) (S R : Nat → ByteArray) : Prop := n = m ∧ ∀ i, i < n → S i = R i
theorem rootL_same {n m : Nat} {S R : Nat → ByteArray} (h : sameS n m S R) : rootL S n = rootL R m := by
  obtain ⟨rfl, h⟩ := h
  rw [rootL, rootL, topN_congr n (lf S) (lf R) (fun i hi => by rw [lf, lf, h i hi])]
theorem roots_apart (n m : Nat) (S R : Nat → ByteArray) (hn : n < 18446744073709551616) (hm : m < 18446744073709551616) (hd : ¬ sameS n m S R) (hr : rootL S n = rootL R m) : clashL (allT S n) (allT R m) := by
  by_cases he : rootS n (topN (lf S) n) = rootS m (topN (lf R) m)
  · obtain ⟨rfl, ht⟩ := (rootS_inj n m _ _ hn hm).1 he
    have hex : ∃ i, i < n ∧ S i ≠ R i := by
      refine Classical.byContradiction fun hno => hd ⟨rfl, fun i hi => Classical.byContradiction fun h => hno ⟨i, hi, h⟩⟩
    exact clashL_mono (tops_apart n S R hex ht) (fun x hx => List.mem_append_left _ hx) (fun x hx => List.mem_append_left _ hx)
  · exact ⟨_, List.mem_append_right _ (List.mem_singleton.2 rfl), _, List.mem_append_right _ (List.mem_singleton.2 rfl), he, hr⟩
end Go.Proofs.YtcbcjiaedoeaeaaDoor
namespace Go.Proofs.YtcbcjiaedoeaeaaDoor
set_option maxRecDepth 4000
open Go.RowKit

set_option maxRecDepth 100000 in
set_option maxHeartbeats 1000000 in
theorem treeMapped_any (p : Option Addr) (n c : Nat) (S : Nat → ByteArray) (w : World) (hS : SAt w p n S) (hz : ∀ i, i < n → (S i).size ≤ 1000000) (hn : n ≤ 1000000) (ht : Tab w) :
    Calls Tryd.prog 41 #[.slice p n c, .func (.func 42) #[] #[]] w fun e w' => ∃ g, e = .returned (.slice (some ⟨g, 0, none⟩) n n) ∧ Rowz w' g (hC n (lf S)) 34 ∧ Kept w w' := by
  have HS := Lib.hid hS
  have HZ := Lib.hid hz
  have HT := Lib.hid ht
  have hm := run_make_hashes n w hn
  clear hS hz ht
  go_enter Tryd.func41, Tryd.ntmps41
  go_wp2_with fail
  clear hm
  have R1 := Lib.hid (Rowz.new w (hC n (fun _ => [])) 34)
  have K1 := Lib.hid ((Kept.refl w).alloc (.cells (hC n (fun _ => [])) 34))
  generalize w.alloc (.cells (hC n (fun _ => [])) 34) = v at R1 K1 ⊢
  obtain ⟨g, hg⟩ : ∃ g, g = w.heap.size := ⟨_, rfl⟩
  have HG : Hid (w.heap.size ≤ g) := Lib.hid (by omega)
  rw [← hg] at R1 ⊢
  clear hg
  go_loopw [13] (fun i wr => ∃ k : Nat, k ≤ n ∧ i = .int .i64 k ∧ Hid (Rowz wr g (hC n (upH (lf S) k)) 34) ∧ Hid (Kept w wr)) (fun i _ => n - (intOf i).toNat)
  case atStart => exact ⟨0, by omega, rfl, R1, K1⟩
  case round =>
    clear R1 K1
    obtain ⟨k, hk, rfl, R1, K1⟩ := hrel
    by_cases hlt : k < n
    · have hd : decide ((k : Int) < (n : Int)) = true := decide_eq_true (by omega)
      have hd' : decide (k < n) = true := decide_eq_true hlt
      obtain ⟨q, rfl, _⟩ := HS.out.some (by omega)
      have hcell := (HS.out.kept K1.out).cell k hlt
      have HL : Hid (∀ w, Tab w → Calls Tryd.prog 42 #[.string (S k)] w fun e w' => e = .returned (.agg (bC 32 (lf S k))) ∧ Kept w w') := Lib.hid fun w hw => tagLeafSum_any (S k) (HZ.out k hlt) w hw
      go_wp2_with fail
      refine (HL.out _ (HT.out.kept K1.out)).mono ?_
      rintro e v1 ⟨rfl, k1⟩
      have R2 := Lib.hid (R1.out.kept k1)
      have K2 := Lib.hid (K1.out.trans k1)
      clear R1 K1 k1 HL hcell
      go_wp2_with (refine wpList_store_hash rfl _ _ rfl g k n (upH (lf S) k) (lf S k) _ rfl rfl R2 hlt ?_)
      go_roundw
      case measure => simp [intOf]; omega
      case rel => exact ⟨k + 1, by omega, rfl, Lib.hid (by rw [← upH_put]; exact R2.out.row), Lib.hid (K2.out.setRow HG.out _)⟩
    · have hd : decide ((k : Int) < (n : Int)) = false := decide_eq_false (by omega)
      have hd' : decide (k < n) = false := decide_eq_false hlt
      obtain rfl : k = n := by omega
      go_wp2_with fail
      go_ret
      exact ⟨g, rfl, by rw [← upH_all]; exact R1.out, K1.out⟩

set_option maxHeartbeats 400000 in
theorem treeLeaves_any (p : Option Addr) (n c : Nat) (S : Nat → ByteArray) (w : World) (hS : SAt w p n S) (hz : ∀ i, i < n → (S i).size ≤ 1000000) (hn : n ≤ 1000000) (ht : Tab w) :
    Calls Tryd.prog 31 #[.slice p n c] w fun e w' => ∃ g, e = .returned (.slice (some ⟨g, 0, none⟩) n n) ∧ Rowz w' g (hC n (lf S)) 34 ∧ Kept w w' := by
  have HM := Lib.hid (treeMapped_any p n c S w hS hz hn ht)
  clear hS hz ht
  go_enter Tryd.func31, Tryd.ntmps31
  go_wp2_with fail
  refine HM.out.mono ?_
  rintro e w1 ⟨g, rfl, r1, k1⟩
  have R1 := Lib.hid r1
  have K1 := Lib.hid k1
  clear r1 k1 HM
  go_wp2_with fail
  go_ret
  exact ⟨g, rfl, R1.out, K1.out⟩

set_option maxRecDepth 100000 in
set_option maxHeartbeats 1000000 in
theorem refLeaves_any (p : Option Addr) (n c : Nat) (S : Nat → ByteArray) (w : World) (hS : SAt w p n S) (hz : ∀ i, i < n → (S i).size ≤ 1000000) (hn : n ≤ 1000000) :
    Calls Tryd.prog 33 #[.slice p n c] w fun e w' => ∃ v, e = .returned v ∧ w'.ownsRow w.heap.size 34 32 v n (hC n (lf S)).toList ∧ Kept w w' := by
  have HS := Lib.hid hS
  have HZ := Lib.hid hz
  clear hS hz
  go_enter Tryd.func33, Tryd.ntmps33
  go_wp2_with fail
  go_loopw [3, 4] (fun v i wr => ∃ k : Nat, k ≤ n ∧ i = .int .i64 k ∧ Hid (wr.ownsRow w.heap.size 34 32 v k (hC k (lf S)).toList) ∧ Hid (Kept w wr)) (fun _ i _ => n - (intOf i).toNat)
  case atStart => exact ⟨0, by omega, rfl, Lib.hid (World.ownsRow_nil _ _ _ _), Lib.hid (Kept.refl w)⟩
  case round =>
    rename_i v _
    obtain ⟨k, hk, rfl, O1, K1⟩ := hrel
    by_cases hlt : k < n
    · have hd : decide ((k : Int) < (n : Int)) = true := decide_eq_true (by omega)
      have hd' : decide (k < n) = true := decide_eq_true hlt
      obtain ⟨q, rfl, _⟩ := HS.out.some (by omega)
      have hcell := (HS.out.kept K1.out).cell k hlt
      have HL : Hid (∀ w, Calls Tryd.prog 44 #[.string (S k)] w fun e w' => e = .returned (.agg (bC 32 (lf S k))) ∧ Kept w w') := Lib.hid fun w => refLeafSum_any (S k) (HZ.out k hlt) w
      go_wp2_with fail
      refine (HL.out _).mono ?_
      rintro e v1 ⟨rfl, k1⟩
      have O2 := Lib.hid (ownsRow_kept O1.out k1)
      have K2 := Lib.hid (K1.out.trans k1)
      clear O1 K1 k1 HL hcell
      go_wp2_with (refine park_at 17 rfl ?_)
      refine unpark ?_
      refine wpList_exec 17 rfl (by rfl) (.slice (some ⟨v1.heap.size, 0, none⟩) 1 1) (v1.alloc (.cells (bC 32 (lf S k)) 34)) (execBuild1 rfl rfl (run_build1h _ _)) ?_
      go_wp2_with (at_builtin; refine wpList_append_hash rfl _ _ rfl w _ k (lf S) rfl O2 rfl (by omega) K2 rfl ?_; intro v' w' O3 K3)
      go_roundw
      case measure => simp [intOf]; omega
      case rel => exact ⟨k + 1, by omega, rfl, O3, K3⟩
    · have hd : decide ((k : Int) < (n : Int)) = false := decide_eq_false (by omega)
      have hd' : decide (k < n) = false := decide_eq_false hlt
      obtain rfl : k = n := by omega
      go_wp2_with fail
      go_ret
      exact ⟨_, rfl, O1.out, K1.out⟩
end Go.Proofs.YtcbcjiaedoeaeaaDoor
namespace Go.Proofs.YtcbcjiaedoeaeaaDoor
set_option maxRecDepth 4000
open Go.RowKit

set_option maxHeartbeats 400000 in
theorem treeSplit_any (q : Addr) (n c : Nat) (w : World) (h2 : 2 ≤ n) (hc : n ≤ c) (hm : c ≤ maxLen) :
    Calls Tryd.prog 47 #[.slice (some q) n c] w fun e w' => e = .returned (.tuple #[.slice (some q) (leftN n) c, .slice (some (q.add (leftN n * 32))) (n - leftN n) (c - leftN n)]) ∧ Kept w w' := by
  have hL := shapeLeft_any (n : Int) w (by omega) (by unfold maxLen at hm; omega)
  have hE : leftI (n : Int) = leftN n := rfl
  rw [hE] at hL
  have hlt := leftN_lt h2
  have hCL := run_cutH_left q n c (leftN n)
  have hCR := run_cutH_right q n c (leftN n)
  clear hE
  generalize leftN n = p at hL hlt hCL hCR ⊢
  have HL := Lib.hid hL
  have HCL : Hid (∀ w, _) := Lib.hid fun w => hCL w (by omega)
  have HCR : Hid (∀ w, _) := Lib.hid fun w => hCR w (by omega) (by omega)
  clear hL hCL hCR
  go_enter Tryd.func47, Tryd.ntmps47
  go_wp2_with (go_at_call 40; refine HL.out.mono ?_; rintro e w1 ⟨rfl, rfl⟩)
  have h1 := HCL.out w
  have h3 := HCR.out w
  clear HL HCL HCR
  go_quiet (fail)
  go_wp2_with fail
  go_ret2
  exact ⟨rfl, Kept.refl w⟩

theorem execLoadAt {P : Program} {ty : TypeId} {o : Oper} {t : Array Value} {x : Operand} {w : World} {a u : Value} (ho : o.op = .load ty x) (hx : evS t x = a) (h : (Instr.loadAt ty a).run P w = .ok u w) : (execOp (evS t) o).run P w = .ok (.value u) w := by
  unfold execOp
  simp [ho, hx, h, Result.andThen_ok]
theorem execBuild0 {P : Program} {ty : TypeId} {o : Oper} {t : Array Value} {w w' : World} {u : Value} (ho : o.op = .build ty #[]) (h : (Instr.build ty #[]).run P w = .ok u w') : (execOp (evS t) o).run P w = .ok (.value u) w' := by
  unfold execOp
  simp [ho, h, Result.andThen_ok]
/-- What the recursion asks of trees of fewer leaves. -/
def TopOk (f : FuncId) (n : Nat) : Prop := ∀ (p : Option Addr) (c : Nat) (F : Nat → List UInt8) (w : World), n ≤ c → c ≤ maxLen → HAt w p n F → Tab w →
    Calls Tryd.prog f #[.slice p n c] w fun e w' => e = .returned (.agg (bC 32 (topN F n))) ∧ Kept w w'
theorem zero_hashC : bC 32 [] = bC 32 zeroH := by kernel_rfl
set_option maxRecDepth 100000 in
set_option maxHeartbeats 1000000 in
theorem treeTop_any (n : Nat) : TopOk 35 n := by
  induction n using Nat.strongRecOn with
  | _ n ih =>
    intro p c F w hc hm hF ht
    by_cases h0 : n = 0
    · subst h0
      rw [topN_zero, ← zero_hashC]
      clear ih hF ht
      have R1 := Lib.hid (Rowz.new w (bC 32 []) 34)
      go_enter Tryd.func35, Tryd.ntmps35
      go_wp2_with (first
        | (refine wpList_exec 9 rfl (by rfl) (.agg (bC 32 [])) _ (execBuild0 rfl (run_build0 _)) ?_)
        | (refine wpList_store_row rfl 34 _ _ rfl w.heap.size (bC 32 []) rfl rfl 34 (bC 32 []) R1.out (info_hash _) (by simp [bC_size]) (bC_one _ _) ?_))
      refine bodyPost_ret (v := .agg (bC 32 [])) (results_cell_row Tryd.results35 _ _ w.heap.size 34 _ (0, 0) _ rfl R1.out.row Tryd.underlying34 rfl (info_hash _)) rfl ⟨rfl, ?_⟩
      exact ((Kept.refl w).alloc _).setRow (Nat.le_refl _) _
    · by_cases h1 : n = 1
      · subst h1
        rw [topN_one]
        obtain ⟨q, rfl, _⟩ := hF.some (by omega)
        have R1 := Lib.hid (Rowz.new w (bC 32 []) 34)
        have HF := Lib.hid hF
        clear ih hF ht
        go_enter Tryd.func35, Tryd.ntmps35
        go_wp2_with (first
          | (refine wpList_exec 14 rfl (by rfl) (.agg (bC 32 (F 0))) _ (execLoadAt rfl rfl ((HF.out.kept ((Kept.refl w).alloc _)).load0 (by omega))) ?_)
          | refine wpList_store_row rfl 34 _ _ rfl w.heap.size (bC 32 (F 0)) rfl rfl 34 (bC 32 []) R1.out (info_hash _) (by simp [bC_size]) (bC_one _ _) ?_)
        refine bodyPost_ret (v := .agg (bC 32 (F 0))) (results_cell_row Tryd.results35 _ _ w.heap.size 34 _ (0, 0) _ rfl R1.out.row Tryd.underlying34 rfl (info_hash _)) rfl ⟨rfl, ?_⟩
        exact ((Kept.refl w).alloc _).setRow (Nat.le_refl _) _
      · have h2 : 2 ≤ n := by omega
        obtain ⟨q, rfl, _⟩ := hF.some (by omega)
        have hL := leftN_lt h2
        have hP := leftN_pos h2
        have HSP : Hid (∀ w, _) := Lib.hid fun w => treeSplit_any q n c w h2 hc hm
        have HA : Hid (∀ w, HAt w (some q) n F → Tab w → _) := Lib.hid fun w hF ht => ih (leftN n) hL (some q) c F w (by omega) hm (hF.left _ (by omega)) ht
        have HB : Hid (∀ w, HAt w (some q) n F → Tab w → _) := Lib.hid fun w hF ht => ih (n - leftN n) (by omega) (some (q.add (leftN n * 32))) (c - leftN n) (fun i => F (leftN n + i)) w (by omega) (by omega) (hF.right _ (by omega)) ht
        have hla := topN_length F (leftN n) (fun i hi => hF.length i (by omega))
        have hlb := topN_length (fun i => F (leftN n + i)) (n - leftN n) (fun i hi => hF.length _ (by omega))
        rw [topN_two F h2]
        have HN : Hid (∀ w, Tab w → _) := Lib.hid fun w ht => tagNodeSum_any (topN F (leftN n)) (topN (fun i => F (leftN n + i)) (n - leftN n)) hla hlb w ht
        have hd0 : ((n : Int) == 0) = false := by rw [beq_eq_false_iff_ne]; omega
        have hd1 : ((n : Int) == 1) = false := by rw [beq_eq_false_iff_ne]; omega
        clear ih hla hlb
        generalize topN (fun i => F (leftN n + i)) (n - leftN n) = B at HB HN ⊢
        generalize topN F (leftN n) = A at HA HN ⊢
        generalize leftN n = l at hL hP HSP HA HB
        have K1 := Lib.hid ((Kept.refl w).alloc (.cells (bC 32 []) 34))
        have R1 := Lib.hid (Rowz.new w (bC 32 []) 34)
        have HF := Lib.hid hF
        have HT := Lib.hid ht
        clear hF ht
        go_enter Tryd.func35, Tryd.ntmps35
        go_wp2_with fail
        change Calls _ _ _ (w.alloc (.cells (bC 32 []) 34)) _
        generalize w.alloc (.cells (bC 32 []) 34) = v at K1 R1 ⊢
        refine (HSP.out _).mono ?_
        rintro e v1 ⟨rfl, k1⟩
        have R2 := Lib.hid (R1.out.kept k1)
        have K2 := Lib.hid (K1.out.trans k1)
        clear R1 K1 k1 HSP
        go_wp2_with fail
        refine (HA.out _ (HF.out.kept K2.out) (HT.out.kept K2.out)).mono ?_
        rintro e v2 ⟨rfl, k1⟩
        have R3 := Lib.hid (R2.out.kept k1)
        have K3 := Lib.hid (K2.out.trans k1)
        clear R2 K2 k1 HA
        go_wp2_with fail
        refine (HB.out _ (HF.out.kept K3.out) (HT.out.kept K3.out)).mono ?_
        rintro e v3 ⟨rfl, k1⟩
        have R4 := Lib.hid (R3.out.kept k1)
        have K4 := Lib.hid (K3.out.trans k1)
        clear R3 K3 k1 HB
        go_wp2_with fail
        refine (HN.out _ (HT.out.kept K4.out)).mono ?_
        rintro e v4 ⟨rfl, k1⟩
        have R5 := Lib.hid (R4.out.kept k1)
        have K5 := Lib.hid (K4.out.trans k1)
        clear R4 K4 k1 HN
        go_wp2_with (refine wpList_store_row rfl 34 _ _ rfl w.heap.size (bC 32 (shaL (nodeS A B))) rfl rfl 34 (bC 32 []) R5.out (info_hash _) (by simp [bC_size]) (bC_one _ _) ?_)
        refine bodyPost_ret (v := .agg (bC 32 (shaL (nodeS A B)))) (results_cell_row Tryd.results35 _ _ w.heap.size 34 _ (0, 0) _ rfl R5.out.row Tryd.underlying34 rfl (info_hash _)) rfl ⟨rfl, ?_⟩
        exact K5.out.setRow (Nat.le_refl _) _
end Go.Proofs.YtcbcjiaedoeaeaaDoor
namespace Go.Proofs.YtcbcjiaedoeaeaaDoor
set_option maxRecDepth 4000
open Go.RowKit

theorem HSl.ofRow {w : World} {g n : Nat} {S : Nat → ByteArray} (h : Rowz w g (hC n (lf S)) 34) (hn : n ≤ 1000000) : HSl n (lf S) (.slice (some ⟨g, 0, none⟩) n n) w :=
  ⟨_, _, rfl, Nat.le_refl _, by unfold maxLen; omega, HAt.ofRow h (fun i _ => lf_length S i)⟩
theorem HSl.ofOwns {w : World} {base n : Nat} {v : Value} {S : Nat → ByteArray} (h : w.ownsRow base 34 32 v n (hC n (lf S)).toList) : HSl n (lf S) v w := HAt.ofOwns h (fun i _ => lf_length S i)
theorem TopOk.at {f : FuncId} {n : Nat} (h : TopOk f n) {F : Nat → List UInt8} {v : Value} {w : World} (hv : HSl n F v w) (ht : Tab w) : Calls Tryd.prog f #[v] w fun e w' => e = .returned (.agg (bC 32 (topN F n))) ∧ Kept w w' := by
  obtain ⟨p, c, rfl, h1, h2, h3⟩ := hv
  exact h p c F w h1 h2 h3 ht

set_option maxRecDepth 100000 in
set_option maxHeartbeats 1000000 in
theorem treeRoot_any (p : Option Addr) (n c : Nat) (S : Nat → ByteArray) (w : World) (hS : SAt w p n S) (hz : ∀ i, i < n → (S i).size ≤ 1000000) (hn : n ≤ 1000000) (ht : Tab w) :
    Calls Tryd.prog 25 #[.slice p n c] w fun e w' => e = .returned (.agg (bC 32 (rootL S n))) ∧ Kept w w' := by
  have HL : Hid (∀ w, SAt w p n S → Tab w → Calls Tryd.prog 31 #[.slice p n c] w fun e w' => ∃ v, e = .returned v ∧ HSl n (lf S) v w' ∧ Kept w w') := Lib.hid fun w hS ht => (treeLeaves_any p n c S w hS hz hn ht).mono fun e w' ⟨g, he, hr, hk⟩ => ⟨_, he, HSl.ofRow hr hn, hk⟩
  have HTp : Hid (∀ v w, HSl n (lf S) v w → Tab w → _) := Lib.hid fun v w hv ht => (treeTop_any n).at hv ht
  have HR : Hid (∀ w, Tab w → _) := Lib.hid fun w ht => tagRootSum_any n (by omega) (topN (lf S) n) (top_lf_length S n) w ht
  have hE : shaL (rootS n (topN (lf S) n)) = rootL S n := rfl
  rw [hE] at HR
  clear hE
  generalize topN (lf S) n = A at HTp HR
  generalize rootL S n = B at HR ⊢
  have HS := Lib.hid hS
  have HT := Lib.hid ht
  clear hS ht hz
  have hw : IntKind.u64.wrap (n : Int) = (n : Int) := by simp only [IntKind.wrap, IntKind.signed, IntKind.bits]; simp; omega
  go_enter Tryd.func25, Tryd.ntmps25
  go_wp2_with fail
  change Calls _ _ _ (w.alloc (.cells (bC 32 []) 34)) _
  have R1 := Lib.hid (Rowz.new w (bC 32 []) 34)
  have K1 := Lib.hid ((Kept.refl w).alloc (.cells (bC 32 []) 34))
  generalize w.alloc (.cells (bC 32 []) 34) = v at R1 K1 ⊢
  refine (HL.out _ (HS.out.kept K1.out) (HT.out.kept K1.out)).mono ?_
  rintro e v1 ⟨x, rfl, hx, k1⟩
  have HX := Lib.hid hx
  have R2 := Lib.hid (R1.out.kept k1)
  have K2 := Lib.hid (K1.out.trans k1)
  clear R1 K1 k1 HL hx
  go_wp2_with fail
  refine (HTp.out _ _ HX.out (HT.out.kept K2.out)).mono ?_
  rintro e v2 ⟨rfl, k1⟩
  have R3 := Lib.hid (R2.out.kept k1)
  have K3 := Lib.hid (K2.out.trans k1)
  clear R2 K2 k1 HTp HX
  go_wp2_with fail
  refine (HR.out _ (HT.out.kept K3.out)).mono ?_
  rintro e v3 ⟨rfl, k1⟩
  have R4 := Lib.hid (R3.out.kept k1)
  have K4 := Lib.hid (K3.out.trans k1)
  clear R3 K3 k1 HR
  go_wp2_with (refine wpList_store_row rfl 34 _ _ rfl w.heap.size (bC 32 B) rfl rfl 34 (bC 32 []) R4.out (info_hash _) (by simp [bC_size]) (bC_one _ _) ?_)
  refine bodyPost_ret (v := .agg (bC 32 B)) (results_cell_row Tryd.results25 _ _ w.heap.size 34 _ (0, 0) _ rfl R4.out.row Tryd.underlying34 rfl (info_hash _)) rfl ⟨rfl, ?_⟩
  exact K4.out.setRow (Nat.le_refl _) _

/-- The reference's recursion, as TopOk, without the table. -/
def TopOkR (f : FuncId) (n : Nat) : Prop := ∀ (p : Option Addr) (c : Nat) (F : Nat → List UInt8) (w : World), n ≤ c → c ≤ maxLen → HAt w p n F →
    Calls Tryd.prog f #[.slice p n c] w fun e w' => e = .returned (.agg (bC 32 (topN F n))) ∧ Kept w w'
theorem TopOkR.at {f : FuncId} {n : Nat} (h : TopOkR f n) {F : Nat → List UInt8} {v : Value} {w : World} (hv : HSl n F v w) : Calls Tryd.prog f #[v] w fun e w' => e = .returned (.agg (bC 32 (topN F n))) ∧ Kept w w' := by
  obtain ⟨p, c, rfl, h1, h2, h3⟩ := hv
  exact h p c F w h1 h2 h3
set_option maxRecDepth 100000 in
set_option maxHeartbeats 1000000 in
theorem refTop_any (n : Nat) : TopOkR 37 n := by
  induction n using Nat.strongRecOn with
  | _ n ih =>
    intro p c F w hc hm hF
    by_cases h0 : n = 0
    · subst h0
      rw [topN_zero, ← zero_hashC]
      clear ih hF
      have R1 := Lib.hid (Rowz.new w (bC 32 []) 34)
      go_enter Tryd.func37, Tryd.ntmps37
      go_wp2_with (first
        | (refine wpList_exec 7 rfl (by rfl) (.agg (bC 32 [])) _ (execBuild0 rfl (run_build0 _)) ?_)
        | (refine wpList_store_row rfl 34 _ _ rfl w.heap.size (bC 32 []) rfl rfl 34 (bC 32 []) R1.out (info_hash _) (by simp [bC_size]) (bC_one _ _) ?_))
      refine bodyPost_ret (v := .agg (bC 32 [])) (results_cell_row Tryd.results37 _ _ w.heap.size 34 _ (0, 0) _ rfl R1.out.row Tryd.underlying34 rfl (info_hash _)) rfl ⟨rfl, ?_⟩
      exact ((Kept.refl w).alloc _).setRow (Nat.le_refl _) _
    · by_cases h1 : n = 1
      · subst h1
        rw [topN_one]
        obtain ⟨q, rfl, _⟩ := hF.some (by omega)
        have R1 := Lib.hid (Rowz.new w (bC 32 []) 34)
        have HF := Lib.hid hF
        clear ih hF
        go_enter Tryd.func37, Tryd.ntmps37
        go_wp2_with (first
          | (refine wpList_exec 13 rfl (by rfl) (.agg (bC 32 (F 0))) _ (execLoadAt rfl rfl ((HF.out.kept ((Kept.refl w).alloc _)).load0 (by omega))) ?_)
          | refine wpList_store_row rfl 34 _ _ rfl w.heap.size (bC 32 (F 0)) rfl rfl 34 (bC 32 []) R1.out (info_hash _) (by simp [bC_size]) (bC_one _ _) ?_)
        refine bodyPost_ret (v := .agg (bC 32 (F 0))) (results_cell_row Tryd.results37 _ _ w.heap.size 34 _ (0, 0) _ rfl R1.out.row Tryd.underlying34 rfl (info_hash _)) rfl ⟨rfl, ?_⟩
        exact ((Kept.refl w).alloc _).setRow (Nat.le_refl _) _
      · have h2 : 2 ≤ n := by omega
        obtain ⟨q, rfl, _⟩ := hF.some (by omega)
        have hL := leftN_lt h2
        have hP := leftN_pos h2
        have HLf : Hid (∀ w, Calls Tryd.prog 43 #[.int .i64 (n : Int)] w fun e w' => e = .returned (.int .i64 (leftN n : Int)) ∧ w = w') := Lib.hid fun w => refLeft_any (n : Int) w (by unfold maxLen at hm; omega)
        have HA : Hid (∀ w, HAt w (some q) n F → _) := Lib.hid fun w hF => ih (leftN n) hL (some q) c F w (by omega) hm (hF.left _ (by omega))
        have HB : Hid (∀ w, HAt w (some q) n F → _) := Lib.hid fun w hF => ih (n - leftN n) (by omega) (some (q.add (leftN n * 32))) (c - leftN n) (fun i => F (leftN n + i)) w (by omega) (by omega) (hF.right _ (by omega))
        have hla := topN_length F (leftN n) (fun i hi => hF.length i (by omega))
        have hlb := topN_length (fun i => F (leftN n + i)) (n - leftN n) (fun i hi => hF.length _ (by omega))
        rw [topN_two F h2]
        have HN : Hid (∀ w, _) := Lib.hid fun w => refNodeSum_any (topN F (leftN n)) (topN (fun i => F (leftN n + i)) (n - leftN n)) hla hlb w
        have hd0 : ((n : Int) == 0) = false := by rw [beq_eq_false_iff_ne]; omega
        have hd1 : ((n : Int) == 1) = false := by rw [beq_eq_false_iff_ne]; omega
        clear ih hla hlb
        generalize topN (fun i => F (leftN n + i)) (n - leftN n) = B at HB HN ⊢
        generalize topN F (leftN n) = A at HA HN ⊢
        generalize leftN n = l at hL hP HLf HA HB
        have HF := Lib.hid hF
        clear hF
        go_enter Tryd.func37, Tryd.ntmps37
        go_wp2_with fail
        change Calls _ _ _ (w.alloc (.cells (bC 32 []) 34)) _
        have R1 := Lib.hid (Rowz.new w (bC 32 []) 34)
        have K1 := Lib.hid ((Kept.refl w).alloc (.cells (bC 32 []) 34))
        generalize w.alloc (.cells (bC 32 []) 34) = v at R1 K1 ⊢
        refine (HLf.out _).mono ?_
        rintro e v1 ⟨rfl, rfl⟩
        go_wp2_with fail
        refine wp_region_tail 9 [(17, .is (.slice (some q) n c)), (18, .is (.int .i64 (l : Int))), (19, .is (.slice (some q) l c)), (20, .is (.agg (bC 32 A))), (21, .is (.slice (some q) n c)), (22, .is (.int .i64 (l : Int))), (23, .is (.slice (some (q.add (l * 32))) (n - l) (c - l))), (24, .is (.agg (bC 32 B))), (25, .is (.agg (bC 32 (shaL (nodeS A B)))))] (by kernel_rfl) (by kernel_rfl) ?_ ?_
        · refine ⟨fun t w1 hf hk hp => ?_, ?_⟩
          · have h0 : slot t 0 = .slice (some q) n c := hf 0 (by kernel_rfl)
            clear hf hp
            refine stepM_at (by kernel_rfl) ?_
            refine stepAt_plain rfl ?_
            exact stepOK_move _ (.inl rfl) h0
          refine ⟨fun t w1 hf hk hp => ?_, ?_⟩
          · have h3 : slot t 3 = .int .i64 (l : Int) := hf 3 (by kernel_rfl)
            clear hf hp
            refine stepM_at (by kernel_rfl) ?_
            refine stepAt_plain rfl ?_
            exact stepOK_move _ (.inl rfl) h3
          refine ⟨fun t w1 hf hk hp => ?_, ?_⟩
          · have h17 : slot t 17 = .slice (some q) n c := hp 17 (by kernel_rfl)
            have h18 : slot t 18 = .int .i64 (l : Int) := hp 18 (by kernel_rfl)
            clear hf hp
            refine stepM_at (by kernel_rfl) ?_
            refine stepAt_plain rfl ?_
            have hq0 := run_cutH_left q n c l w1 (by omega)
            exact stepOK_sem (.slice (some q) l c) (by simp only [execOp, evS, Option.map_some, Option.map_none, h17, h18]) hq0 rfl
          refine ⟨fun t w1 hf hk hp => ?_, ?_⟩
          · have h19 : slot t 19 = .slice (some q) l c := hp 19 (by kernel_rfl)
            clear hf hp
            refine stepM_at (by kernel_rfl) ?_
            refine stepAt_plain rfl ?_
            refine stepOK_call #[.slice (some q) l c] rfl (by simp only [List.map_toArray, List.map_cons, List.map_nil, evS, h19]) (by go_simp) ((HA.out w1 (HF.out.kept (K1.out.trans hk))).mono fun e w' ⟨he, hk'⟩ => ⟨_, he, hk', rfl⟩)
          refine ⟨fun t w1 hf hk hp => ?_, ?_⟩
          · have h0 : slot t 0 = .slice (some q) n c := hf 0 (by kernel_rfl)
            clear hf hp
            refine stepM_at (by kernel_rfl) ?_
            refine stepAt_plain rfl ?_
            exact stepOK_move _ (.inl rfl) h0
          refine ⟨fun t w1 hf hk hp => ?_, ?_⟩
          · have h3 : slot t 3 = .int .i64 (l : Int) := hf 3 (by kernel_rfl)
            clear hf hp
            refine stepM_at (by kernel_rfl) ?_
            refine stepAt_plain rfl ?_
            exact stepOK_move _ (.inl rfl) h3
          refine ⟨fun t w1 hf hk hp => ?_, ?_⟩
          · have h21 : slot t 21 = .slice (some q) n c := hp 21 (by kernel_rfl)
            have h22 : slot t 22 = .int .i64 (l : Int) := hp 22 (by kernel_rfl)
            clear hf hp
            refine stepM_at (by kernel_rfl) ?_
            refine stepAt_plain rfl ?_
            have hq0 := run_cutH_right q n c l w1 (by omega) (by omega)
            exact stepOK_sem (.slice (some (q.add (l * 32))) (n - l) (c - l)) (by simp only [execOp, evS, Option.map_some, Option.map_none, h21, h22]) hq0 rfl
          refine ⟨fun t w1 hf hk hp => ?_, ?_⟩
          · have h23 : slot t 23 = .slice (some (q.add (l * 32))) (n - l) (c - l) := hp 23 (by kernel_rfl)
            clear hf hp
            refine stepM_at (by kernel_rfl) ?_
            refine stepAt_plain rfl ?_
            refine stepOK_call #[.slice (some (q.add (l * 32))) (n - l) (c - l)] rfl (by simp only [List.map_toArray, List.map_cons, List.map_nil, evS, h23]) (by go_simp) ((HB.out w1 (HF.out.kept (K1.out.trans hk))).mono fun e w' ⟨he, hk'⟩ => ⟨_, he, hk', rfl⟩)
          refine ⟨fun t w1 hf hk hp => ?_, ?_⟩
          · have h20 : slot t 20 = .agg (bC 32 A) := hp 20 (by kernel_rfl)
            have h24 : slot t 24 = .agg (bC 32 B) := hp 24 (by kernel_rfl)
            clear hf hp
            refine stepM_at (by kernel_rfl) ?_
            refine stepAt_plain rfl ?_
            refine stepOK_call #[.agg (bC 32 A), .agg (bC 32 B)] rfl (by simp only [List.map_toArray, List.map_cons, List.map_nil, evS, h20, h24]) (by go_simp) ((HN.out w1).mono fun e w' ⟨he, hk'⟩ => ⟨_, he, hk', rfl⟩)
          exact trivial
        · intro t w1 hsz hf hk hfacts
          have h25 : slot t 25 = .agg (bC 32 (shaL (nodeS A B))) := hfacts 8 _ (by decide) rfl 25 rfl
          have h0 : slot t 0 = .slice (some q) n c := hf 0 (by kernel_rfl)
          have h2 : slot t 2 = .pointer (some ⟨w.heap.size, 0, none⟩) := hf 2 (by kernel_rfl)
          have h3 : slot t 3 = .int .i64 (l : Int) := hf 3 (by kernel_rfl)
          have harr : t = #[slot t 0, slot t 1, slot t 2, slot t 3, slot t 4, slot t 5, slot t 6, slot t 7, slot t 8, slot t 9, slot t 10, slot t 11, slot t 12, slot t 13, slot t 14, slot t 15, slot t 16, slot t 17, slot t 18, slot t 19, slot t 20, slot t 21, slot t 22, slot t 23, slot t 24, slot t 25] := arr_eq t 26 hsz
          rw [harr, h25, h0, h2, h3]
          clear harr hfacts hf h25 h0 h2 h3
          generalize slot t 1 = x1; generalize slot t 4 = x4; generalize slot t 5 = x5; generalize slot t 6 = x6; generalize slot t 7 = x7; generalize slot t 8 = x8; generalize slot t 9 = x9; generalize slot t 10 = x10; generalize slot t 11 = x11; generalize slot t 12 = x12; generalize slot t 13 = x13; generalize slot t 14 = x14
          generalize slot t 15 = x15; generalize slot t 16 = x16; generalize slot t 17 = x17; generalize slot t 18 = x18; generalize slot t 19 = x19; generalize slot t 20 = x20; generalize slot t 21 = x21; generalize slot t 22 = x22; generalize slot t 23 = x23; generalize slot t 24 = x24
          clear hsz t
          simp only [List.drop_succ_cons, List.drop_zero]
          have R2 := Lib.hid (R1.out.kept hk)
          have K2 := Lib.hid (K1.out.trans hk)
          go_wp2_with (refine wpList_store_row rfl 34 _ _ rfl w.heap.size (bC 32 (shaL (nodeS A B))) rfl rfl 34 (bC 32 []) R2.out (info_hash _) (by simp [bC_size]) (bC_one _ _) ?_)
          refine bodyPost_ret (v := .agg (bC 32 (shaL (nodeS A B)))) (results_cell_row Tryd.results37 _ _ w.heap.size 34 _ (0, 0) _ rfl R2.out.row Tryd.underlying34 rfl (info_hash _)) rfl ⟨rfl, ?_⟩
          exact K2.out.setRow (Nat.le_refl _) _

theorem refLeaves_at (p : Option Addr) (n c : Nat) (S : Nat → ByteArray) (w : World) (hS : SAt w p n S) (hz : ∀ i, i < n → (S i).size ≤ 1000000) (hn : n ≤ 1000000) :
    Calls Tryd.prog 33 #[.slice p n c] w fun e w' => ∃ v, e = .returned v ∧ HSl n (lf S) v w' ∧ Kept w w' :=
  (refLeaves_any p n c S w hS hz hn).mono fun _ _ ⟨v, he, ho, hk⟩ => ⟨v, he, HSl.ofOwns ho, hk⟩

set_option maxRecDepth 100000 in
set_option maxHeartbeats 1000000 in
theorem refRoot11_any (p : Option Addr) (n c : Nat) (S : Nat → ByteArray) (w : World) (hS : SAt w p n S) (hz : ∀ i, i < n → (S i).size ≤ 1000000) (hn : n ≤ 1000000) :
    Calls Tryd.prog 26 #[.slice p n c] w fun e w' => e = .returned (.agg (bC 32 (rootL S n))) ∧ Kept w w' := by
  have HL : Hid (∀ w, SAt w p n S → _) := Lib.hid fun w hS => refLeaves_at p n c S w hS hz hn
  have HTp : Hid (∀ v w, HSl n (lf S) v w → _) := Lib.hid fun v w hv => (refTop_any n).at hv
  have HR : Hid (∀ w, _) := Lib.hid fun w => refRootSum_any n (by omega) (topN (lf S) n) (top_lf_length S n) w
  have hE : shaL (rootS n (topN (lf S) n)) = rootL S n := rfl
  rw [hE] at HR
  clear hE
  generalize topN (lf S) n = A at HTp HR
  generalize rootL S n = B at HR ⊢
  have HS := Lib.hid hS
  clear hS hz
  have hw : IntKind.u64.wrap (n : Int) = (n : Int) := by simp only [IntKind.wrap, IntKind.signed, IntKind.bits]; simp; omega
  go_enter Tryd.func26, Tryd.ntmps26
  go_wp2_with fail
  change Calls _ _ _ (w.alloc (.cells (bC 32 []) 34)) _
  have R1 := Lib.hid (Rowz.new w (bC 32 []) 34)
  have K1 := Lib.hid ((Kept.refl w).alloc (.cells (bC 32 []) 34))
  generalize w.alloc (.cells (bC 32 []) 34) = v at R1 K1 ⊢
  refine (HL.out _ (HS.out.kept K1.out)).mono ?_
  rintro e v1 ⟨x, rfl, hx, k1⟩
  have HX := Lib.hid hx
  have R2 := Lib.hid (R1.out.kept k1)
  have K2 := Lib.hid (K1.out.trans k1)
  clear R1 K1 k1 HL hx
  go_wp2_with fail
  refine (HTp.out _ _ HX.out).mono ?_
  rintro e v2 ⟨rfl, k1⟩
  have R3 := Lib.hid (R2.out.kept k1)
  have K3 := Lib.hid (K2.out.trans k1)
  clear R2 K2 k1 HTp HX
  go_wp2_with fail
  refine (HR.out _).mono ?_
  rintro e v3 ⟨rfl, k1⟩
  have R4 := Lib.hid (R3.out.kept k1)
  have K4 := Lib.hid (K3.out.trans k1)
  clear R3 K3 k1 HR
  go_wp2_with (refine wpList_store_row rfl 34 _ _ rfl w.heap.size (bC 32 B) rfl rfl 34 (bC 32 []) R4.out (info_hash _) (by simp [bC_size]) (bC_one _ _) ?_)
  refine bodyPost_ret (v := .agg (bC 32 B)) (results_cell_row Tryd.results26 _ _ w.heap.size 34 _ (0, 0) _ rfl R4.out.row Tryd.underlying34 rfl (info_hash _)) rfl ⟨rfl, ?_⟩
  exact K4.out.setRow (Nat.le_refl _) _
end Go.Proofs.YtcbcjiaedoeaeaaDoor
namespace Go.Proofs.YtcbcjiaedoeaeaaDoor
set_option maxRecDepth 4000
open Go.RowKit


end Go.Proofs.YtcbcjiaedoeaeaaDoor
namespace Go.Proofs.YtcbcjiaedoeaeaaDoor
set_option maxRecDepth 4000
open Go.RowKit Go.Shelf
attribute [local go_sem] Oper.semAt_some

set_option maxHeartbeats 1000000 in
/-- down(n, i): both parameters are boxed; the function value captures the boxes. -/
theorem shapeDown_in (k : Nat) (n i : Int) (w : World) :
    CallsIn Fence.wide k Tryd.prog 84 #[.int .i64 n, .int .i64 i] w fun e w' => e = .returned (.func (.func 94) #[] #[.pointer (some ⟨w.heap.size, 0, none⟩), .pointer (some ⟨w.heap.size + 1, 0, none⟩)]) ∧ w' = (w.alloc (.cells #[.int .i64 n] 3)).alloc (.cells #[.int .i64 i] 3) := by
  refine callsIn_of_wp Tryd.func84 rfl trivial ?_ rfl
  simp only [Tryd.ntmps84, List.size_toArray, List.length_cons, List.length_nil, Nat.reduceAdd, Nat.reduceSub, Array.replicate_succ, Array.replicate_zero, List.push_toArray, List.append_toArray, List.nil_append, List.cons_append]
  gi_wp2
  go_ret
  exact ⟨rfl, rfl⟩

/-- Leaf a of b leaves is still to be reached, and what has come is the rest of the way. -/
def Way (n i : Nat) (pre : List Bool) (b a : Nat) : Prop := a < b ∧ b ≤ n ∧ dn n i = pre ++ dn b a
theorem Way.start {n i : Nat} (h : i < n) : Way n i [] n i := ⟨h, Nat.le_refl _, rfl⟩
theorem Way.left {n i : Nat} {pre : List Bool} {b a : Nat} (h : Way n i pre b a) (h2 : 2 ≤ b) (hl : a < leftN b) : Way n i (pre ++ [false]) (leftN b) a :=
  ⟨hl, by have := leftN_lt h2; have := h.2.1; omega, by rw [h.2.2, dn_left h2 hl]; simp⟩
theorem Way.right {n i : Nat} {pre : List Bool} {b a : Nat} (h : Way n i pre b a) (h2 : 2 ≤ b) (hl : leftN b ≤ a) : Way n i (pre ++ [true]) (b - leftN b) (a - leftN b) :=
  ⟨by have := h.1; have := leftN_lt h2; omega, by have := h.2.1; omega, by rw [h.2.2, dn_right h2 hl]; simp⟩
theorem Way.done {n i : Nat} {pre : List Bool} {b a : Nat} (h : Way n i pre b a) (h2 : b < 2) : pre = dn n i := by rw [h.2.2, dn_one _ h2]; simp
theorem Way.len {n i : Nat} {pre : List Bool} {b a : Nat} (h : Way n i pre b a) (h2 : 2 ≤ b) : pre.length < (dn n i).length := by
  rw [h.2.2]
  rcases Nat.lt_or_ge a (leftN b) with hl | hl
  · rw [dn_left h2 hl]; simp
  · rw [dn_right h2 hl]; simp
theorem Way.pre {n i : Nat} {pre : List Bool} {b a : Nat} (h : Way n i pre b a) : pre <+: dn n i := ⟨_, h.2.2.symm⟩

set_option maxRecDepth 100000 in
set_option maxHeartbeats 2000000 in
/-- The iterator: for every loop body. -/
theorem shapeDown1_in (k l Bn Bi n i : Nat) (hk : 1 ≤ k) (hn : n < 9223372036854775808) (hi : i < n) (J Jx : List Bool → World → Prop)
    (hJ : ∀ s (W : World) q, J s W → J s (W.drewN q))
    (hY : ∀ pre x W, J pre W → pre.length < (dn n i).length → YieldAt Fence.wide (k - 1) Tryd.prog l #[.bool x] W fun e W' =>
      (e = .returned (.bool true) ∧ J (pre ++ [x]) W' ∧ KeepsWalks W W') ∨ (e = .returned (.bool false) ∧ Jx (pre ++ [x]) W'))
    (W : World) (hBn : W.cell? ⟨Bn, 0, none⟩ = some (.int .i64 (n : Int))) (hBi : W.cell? ⟨Bi, 0, none⟩ = some (.int .i64 (i : Int))) (h0 : J [] W) :
    CallsIn Fence.wide k Tryd.prog 94 #[.func (.yield l) #[] #[], .pointer (some ⟨Bn, 0, none⟩), .pointer (some ⟨Bi, 0, none⟩)] W fun e W' => (∃ v, e = .returned v) ∧
      ((∃ ys, ys = dn n i ∧ J ys W') ∨ (∃ pre, pre <+: dn n i ∧ Jx pre W')) := by
  have HY := Lib.hid hY
  clear hY
  have HJ := Lib.hid hJ
  clear hJ
  refine callsIn_of_wp Tryd.func94 rfl trivial ?_ rfl
  simp only [Tryd.ntmps94, List.size_toArray, List.length_cons, List.length_nil, Nat.reduceAdd, Nat.reduceSub, Array.replicate_succ, Array.replicate_zero, List.push_toArray, List.append_toArray, List.nil_append, List.cons_append]
  gi_wp2
  refine wpIn_wide.2 ?_
  go_quiet (fail)
  replace h0 : Hid (J [] (W.drewN nq)) := Lib.hid (HJ.out _ _ _ h0)
  clear hBn hBi HJ
  generalize W.drewN nq = W2 at h0 ⊢
  gi_wp2
  gi_loopw [4, 5] (fun u v wr => ∃ (b a : Nat) (pre : List Bool), u = .int .i64 (b : Int) ∧ v = .int .i64 (a : Int) ∧ Hid (Way n i pre b a) ∧ Hid (J pre wr)) (fun u _ _ => (intOf u).toNat)
  case atStart => exact ⟨n, i, [], rfl, rfl, Lib.hid (Way.start hi), h0⟩
  case round =>
    clear h0
    obtain ⟨b, a, pre, rfl, rfl, HW, HJ⟩ := hrel
    have hbn := HW.out.2.1
    have hab := HW.out.1
    by_cases h2 : b < 2
    · have hd : decide ((b : Int) > 1) = false := decide_eq_false (by omega)
      have HE := Lib.hid (HW.out.done h2)
      gi_wp2
      go_end0
      exact ⟨⟨_, rfl⟩, .inl ⟨pre, HE.out, HJ.out⟩⟩
    · have hd : decide ((b : Int) > 1) = true := decide_eq_true (by omega)
      obtain ⟨p, hp⟩ : ∃ p, p = leftN b := ⟨_, rfl⟩
      have HL : Hid (∀ w, CallsIn Fence.wide (k - 1) Tryd.prog 40 #[.int .i64 (b : Int)] w fun e w' => e = .returned (.int .i64 (p : Int)) ∧ w = w') := Lib.hid fun w => by
        have h := shapeLeft_any (b : Int) w (by omega) (by omega)
        rw [show leftI (b : Int) = p from hp.symm] at h
        exact callsIn_wide.2 h
      have hp0 : 0 < p := by rw [hp]; exact leftN_pos (by omega)
      have hpb : p < b := by rw [hp]; exact leftN_lt (by omega)
      have hlen := HW.out.len (by omega)
      by_cases hr : p ≤ a
      · have hd2 : decide ((a : Int) ≥ (p : Int)) = true := decide_eq_true (by omega)
        have HN : Hid (Way n i (pre ++ [true]) (b - p) (a - p)) := Lib.hid (by have := HW.out.right (by omega) (hp ▸ hr); rwa [← hp] at this)
        obtain ⟨fn, tmps, assign, body, hy, hR⟩ := HY.out pre true wr HJ.out hlen
        replace hp := Lib.hid hp
        clear hlen
        gi_wp2_with (refine ⟨trivial, ?_⟩; gi_at_call 40; refine (HL.out _).mono ?_; rintro e w' ⟨rfl, rfl⟩)
        refine hR.mono ?_
        rintro e W3 (⟨rfl, hJ3, hk3⟩ | ⟨rfl, hJx3⟩)
        · replace hJ3 := Lib.hid hJ3
          clear hk3 hy
          gi_wp2
          go_roundw
          case rel => exact ⟨b - p, a - p, pre ++ [true], by congr 1; omega, by congr 1; omega, HN, hJ3⟩
          case measure => simp [intOf]; omega
        · gi_wp2
          refine bodyPost_ret (results_none rfl _ _ _) rfl ?_
          exact ⟨⟨_, rfl⟩, .inr ⟨pre ++ [true], HN.out.pre, hJx3⟩⟩
      · have hd2 : decide ((a : Int) ≥ (p : Int)) = false := decide_eq_false (by omega)
        have HN : Hid (Way n i (pre ++ [false]) p a) := Lib.hid (by have := HW.out.left (by omega) (by omega : a < leftN b); rwa [← hp] at this)
        obtain ⟨fn, tmps, assign, body, hy, hR⟩ := HY.out pre false wr HJ.out hlen
        replace hp := Lib.hid hp
        clear hlen
        gi_wp2_with (refine ⟨trivial, ?_⟩; gi_at_call 40; refine (HL.out _).mono ?_; rintro e w' ⟨rfl, rfl⟩)
        refine hR.mono ?_
        rintro e W3 (⟨rfl, hJ3, hk3⟩ | ⟨rfl, hJx3⟩)
        · replace hJ3 := Lib.hid hJ3
          clear hk3 hy
          gi_wp2
          go_roundw
          case rel => exact ⟨p, a, pre ++ [false], rfl, rfl, HN, hJ3⟩
          case measure => simp [intOf]; omega
        · gi_wp2
          refine bodyPost_ret (results_none rfl _ _ _) rfl ?_
          exact ⟨⟨_, rfl⟩, .inr ⟨pre ++ [false], HN.out.pre, hJx3⟩⟩

/-- The value that down makes: an iterator of the path down. -/
theorem shapeDown_stops (k Bn Bi n i : Nat) (hk : 1 ≤ k) (hn : n < 9223372036854775808) (hi : i < n) (w : World) (hBn : Bn < w.heap.size) (hBi : Bi < w.heap.size)
    (cn : w.cell? ⟨Bn, 0, none⟩ = some (.int .i64 (n : Int))) (ci : w.cell? ⟨Bi, 0, none⟩ = some (.int .i64 (i : Int))) :
    SeqStopsK Fence.wide k Tryd.prog 94 #[.pointer (some ⟨Bn, 0, none⟩), .pointer (some ⟨Bi, 0, none⟩)] (fun x : Bool => #[Value.bool x]) KeepsWalks (fun ys => ys = dn n i) (fun pre => pre <+: dn n i) (dn n i).length w := fun l J Jx W hW hJ _ hY h0 =>
  shapeDown1_in k l Bn Bi n i hk hn hi J Jx (fun s W q h => hJ s W (W.drewN q) none h ⟨rfl, rfl, rfl, Nat.le_refl _, fun _ _ _ => rfl⟩ (fun _ e => by cases e)) hY W ((hW.cell (p := ⟨Bn, 0, none⟩) hBn).trans cn) ((hW.cell (p := ⟨Bi, 0, none⟩) hBi).trans ci) h0
end Go.Proofs.YtcbcjiaedoeaeaaDoor
namespace Go.Proofs.YtcbcjiaedoeaeaaDoor
set_option maxRecDepth 4000
open Go.RowKit Go.Shelf
attribute [local go_sem] Oper.semAt_some

/-- A row of bools. -/
def boC (l : List Bool) : Array Value := (l.map Value.bool).toArray
theorem boC_size (l : List Bool) : (boC l).size = l.length := by simp [boC]
theorem boC_get (l : List Bool) (i : Nat) (h : i < l.length) : (boC l)[i]? = some (.bool (l.getD i false)) := by
  simp [boC, List.getElem?_eq_getElem h]
theorem boC_set (l : List Bool) (i : Nat) (x : Bool) : (boC l).setIfInBounds i (.bool x) = boC (l.set i x) := by
  simp [boC, List.map_set]
theorem madeCells_bools (n : Nat) : madeCells (Value.bool false).cells n = boC (List.replicate n false) := by
  apply Array.ext
  · simp [madeCells, boC]
  · intro i h1 h2
    simp [madeCells, boC, Value.cells, Nat.mod_one]
/-- What has come lies at the end of the row, the last step first. -/
def fillB (L : Nat) (pre : List Bool) : List Bool := List.replicate (L - pre.length) false ++ pre.reverse
theorem fillB_nil (L : Nat) : fillB L [] = List.replicate L false := by simp [fillB]
theorem fillB_length (L : Nat) (pre : List Bool) (h : pre.length ≤ L) : (fillB L pre).length = L := by simp [fillB]; omega
theorem fillB_all (pre : List Bool) : fillB pre.length pre = pre.reverse := by simp [fillB]
theorem fillB_step (L : Nat) (pre : List Bool) (x : Bool) (h : pre.length < L) : (fillB L pre).set (L - pre.length - 1) x = fillB L (pre ++ [x]) := by
  obtain ⟨k, hk⟩ : ∃ k, L - pre.length = k + 1 := ⟨L - pre.length - 1, by omega⟩
  have h2 : L - (pre ++ [x]).length = k := by simp; omega
  rw [fillB, fillB, hk, h2, List.set_append_left _ _ (by simp), Nat.add_sub_cancel, List.replicate_succ', List.set_append_right _ _ (by simp)]
  simp

/-- 'The block is a row that holds f s' speaks of cells alone. -/
theorem rowz_own {β : Type} (g : Nat) (T : TypeId) (f : β → Array Value) : Own (fun s W => Rowz W g (f s) T) := fun s X Y row hs hg hrow =>
  (hg.block g hs.lt (fun e' => by obtain ⟨o, ho, hc⟩ := hrow g e'.symm; rw [show X.heap[g]? = _ from hs] at ho; cases ho; cases hc)).trans hs

set_option maxRecDepth 100000 in
set_option maxHeartbeats 2000000 in
theorem shapeDepth_in (n i : Nat) (hn : n < 9223372036854775808) (hi : i < n) (w : World) :
    CallsIn Fence.wide 3 Tryd.prog 71 #[.int .i64 (n : Int), .int .i64 (i : Int)] w fun e W' => e = .returned (.int .i64 ((dn n i).length : Int)) ∧ Below w.heap.size w W' := by
  have hd1 : decide ((i : Int) < 0) = false := decide_eq_false (by omega)
  have hd2 : decide ((i : Int) ≥ (n : Int)) = false := decide_eq_false (by omega)
  have hd3 : decide (n ≤ i) = false := decide_eq_false (by omega)
  have hin : (i : Int) < (n : Int) := by omega
  refine callsIn_of_wp_marks Tryd.func71 rfl trivial ?_ rfl
  simp only [Tryd.ntmps71, List.size_toArray, List.length_cons, List.length_nil, Nat.reduceAdd, Nat.reduceSub, Array.replicate_succ, Array.replicate_zero, List.push_toArray, List.append_toArray, List.nil_append, List.cons_append]
  gi_wp2_with (refine ⟨trivial, ?_⟩; gi_at_call 84; refine (shapeDown_in _ _ _ _).mono ?_; rintro e w' ⟨rfl, rfl⟩)
  have bD := Boxed.new w 3 (.int .i64 0)
  have bN := Boxed.new (w.alloc (.cells #[.int .i64 0] 3)) 3 (.int .i64 (n : Int))
  have bI := Boxed.new ((w.alloc (.cells #[.int .i64 0] 3)).alloc (.cells #[.int .i64 (n : Int)] 3)) 3 (.int .i64 (i : Int))
  simp only [World.size_alloc] at bN bI
  have hB0 : Below w.heap.size w (((w.alloc (.cells #[.int .i64 0] 3)).alloc (.cells #[.int .i64 (n : Int)] 3)).alloc (.cells #[.int .i64 (i : Int)] 3)) := (((Below.refl _ w).alloc (Nat.le_refl _) _).alloc (by simp) _).alloc (by simp; omega) _
  have h63 := dn_len63 i (Nat.le_of_lt hn)
  refine wpIn_rangeFunc_ownF rfl (by decide) (gf := 94) (lb := #[.pointer (some ⟨w.heap.size + 1, 0, none⟩), .pointer (some ⟨w.heap.size + 1 + 1, 0, none⟩)]) rfl trivial (enters_of Tryd.func94 (by kernel_rfl) rfl)
    (shapeDown_stops (3 - 1) (w.heap.size + 1) (w.heap.size + 1 + 1) n i (by decide) hn hi _ (by simp) (by simp) (bN.alloc _).cell bI.cell) walksK_t walksK_b (Below.refl _ _) (fun _ => rfl)
    (fun pre W => Boxed W w.heap.size 3 (.int .i64 (pre.length : Int)) ∧ Below w.heap.size w W)
    (fun _ _ _ => False)
    (OwnFrom.and (Own.from (fun s A B row hs hg hr => hs.kept hg (fun e => by obtain ⟨o, ho, hc⟩ := hr _ e.symm; rw [show A.heap[w.heap.size]? = _ from hs] at ho; cases ho; cases hc)) _) (ownFrom_below (Nat.le_refl _) (by simp; omega)))
    (fun _ _ _ _ _ hs _ _ => hs)
    ⟨(bD.alloc _).alloc _, hB0⟩
    (fun x => { tmps := #[.int .i64 (n : Int), .int .i64 (i : Int), undef, undef, .int .i64 0, .pointer (some ⟨w.heap.size, 0, none⟩), .int .i64 (i : Int), .bool false, .bool false, .int .i64 (i : Int), .int .i64 (n : Int), .bool false, .bool false, .int .i64 (n : Int), .int .i64 (i : Int), .func (.func 94) #[] #[.pointer (some ⟨w.heap.size + 1, 0, none⟩), .pointer (some ⟨w.heap.size + 1 + 1, 0, none⟩)], .bool x, undef, undef, undef], defers := [] }) ?assign ?body ?done ?stop
  case assign =>
    intro l x W K hK
    gi_wp2
    simpa using hK
  case body =>
    rintro l pre x W ⟨hb, hB⟩ hlt
    have hc := hb.cell
    have hf := hb.frozen
    gi_wp2
    refine ⟨KeepsOthers.setCell _ _ _, KeepsWalks.setCell _ _ _, ?_, hB.setCell (p := ⟨w.heap.size, 0, none⟩) (Nat.le_refl _) _⟩
    have := hb.set (.int .i64 ((pre.length : Int) + 1))
    simpa using this
  case done =>
    rintro D ys W hD rfl ⟨hb, hB⟩ hK
    have hc := hb.cell
    gi_wp2
    refine ⟨by simp, .inl ⟨_, _, rfl, run_takeDeferred hK, ?_⟩⟩
    exact ⟨_, results_tmp rfl _ _ _, rfl, hB.trans (belowK_b (w := w) (Nat.le_refl _) W D _ _ (by simp at hD; omega) hK rfl rfl)⟩
  case stop =>
    rintro D c pre W _ _ h _
    exact h.elim
theorem run_makeBools (l : Nat) (w : World) (hl : l ≤ 1000000) :
    (Instr.makeSlice 76 (.int .i64 (l : Int)) (.int .i64 (l : Int))).run Tryd.prog w = .ok (.slice (some ⟨w.heap.size, 0, none⟩) l l) (w.alloc (.cells (boC (List.replicate l false)) 4)) := by
  obtain ⟨i, hi, hz, hs, hb⟩ : ∃ i, Tryd.prog.info? 4 = some i ∧ i.zero = some (.bool false) ∧ i.size = 1 ∧ i.bytes = 1 := info_parts (by kernel_rfl)
  have h := run_makeSlice (P := Tryd.prog) w 76 4 i _ Tryd.underlying76 hi hz .i64 .i64 (l : Int) (l : Int) (by omega) (by omega) (by rw [hs]; omega) (by rw [hb]; omega) (by omega)
  rw [hs, Int.toNat_natCast, Nat.mul_one, madeCells_bools] at h
  exact h
set_option maxRecDepth 100000 in
set_option maxHeartbeats 2000000 in
theorem shapeSides_in (n i : Nat) (hn : n < 9223372036854775808) (hi : i < n) (w : World) :
    CallsIn Fence.wide 3 Tryd.prog 72 #[.int .i64 (n : Int), .int .i64 (i : Int)] w fun e W' => (∃ g, e = .returned (.slice (some ⟨g, 0, none⟩) (dn n i).length (dn n i).length) ∧ w.heap.size ≤ g ∧ Rowz W' g (boC (sidesN n i)) 4) ∧ Below w.heap.size w W' := by
  obtain ⟨L, hL⟩ : ∃ L, L = (dn n i).length := ⟨_, rfl⟩
  have hd1 : decide ((L : Int) < 0) = false := decide_eq_false (by omega)
  refine callsIn_of_wp_marks Tryd.func72 rfl trivial ?_ rfl
  simp only [Tryd.ntmps72, List.size_toArray, List.length_cons, List.length_nil, Nat.reduceAdd, Nat.reduceSub, Array.replicate_succ, Array.replicate_zero, List.push_toArray, List.append_toArray, List.nil_append, List.cons_append]
  rw [← hL]
  have h63 : L ≤ 63 := by have := dn_len63 i (Nat.le_of_lt hn); omega
  replace hL := Lib.hid hL
  have HD : Hid (∀ w, CallsIn Fence.wide (3 - 1) Tryd.prog 71 #[.int .i64 (n : Int), .int .i64 (i : Int)] w fun e W' => e = .returned (.int .i64 (L : Int)) ∧ Below w.heap.size w W') := Lib.hid fun w => by
    rw [hL.out]
    exact callsIn_wide.2 (callsIn_wide.1 (shapeDepth_in n i hn hi w))
  have HM : ∀ w, (Instr.makeSlice 76 (.int .i64 (L : Int)) (.int .i64 (L : Int))).run Tryd.prog w = .ok (.slice (some ⟨w.heap.size, 0, none⟩) L L) (w.alloc (.cells (boC (List.replicate L false)) 4)) := fun w => run_makeBools L w (by omega)
  gi_wp2_with (first
    | (refine ⟨trivial, ?_⟩; gi_at_call 84; refine (shapeDown_in _ _ _ _).mono ?_; rintro e w' ⟨rfl, rfl⟩)
    | (refine ⟨trivial, ?_⟩; gi_at_call 71; refine (HD.out _).mono ?_; rintro e w1 ⟨rfl, hB1⟩))
  have hsz := hB1.size
  have bD := Boxed.new w1 3 (.int .i64 (L : Int))
  have bR := Rowz.newEq1 w1 (.cells #[.int .i64 (L : Int)] 3) (.cells (boC (List.replicate L false)) 4) _ _ rfl
  have bS := Boxed.new ((w1.alloc (.cells #[.int .i64 (L : Int)] 3)).alloc (.cells (boC (List.replicate L false)) 4)) 76 (.slice (some ⟨w1.heap.size + 1, 0, none⟩) L L)
  simp only [World.size_alloc] at bS
  replace bD := ((bD.alloc (.cells (boC (List.replicate L false)) 4)).alloc (.cells #[.slice (some ⟨w1.heap.size + 1, 0, none⟩) L L] 76))
  replace bR := bR.alloc (.cells #[.slice (some ⟨w1.heap.size + 1, 0, none⟩) L L] 76)
  have hB2 : Below w.heap.size w (((w1.alloc (.cells #[.int .i64 (L : Int)] 3)).alloc (.cells (boC (List.replicate L false)) 4)).alloc (.cells #[.slice (some ⟨w1.heap.size + 1, 0, none⟩) L L] 76)) := ((hB1.alloc hsz _).alloc (by simp; omega) _).alloc (by simp; omega) _
  have hsz2 : (((w1.alloc (.cells #[.int .i64 (L : Int)] 3)).alloc (.cells (boC (List.replicate L false)) 4)).alloc (.cells #[.slice (some ⟨w1.heap.size + 1, 0, none⟩) L L] 76)).heap.size = w1.heap.size + 1 + 1 + 1 := by simp
  generalize ((w1.alloc (.cells #[.int .i64 (L : Int)] 3)).alloc (.cells (boC (List.replicate L false)) 4)).alloc (.cells #[.slice (some ⟨w1.heap.size + 1, 0, none⟩) L L] 76) = w2 at bD bR bS hB2 hsz2 ⊢
  generalize w1.heap.size = Bd at hsz bD bR bS hsz2 ⊢
  have bN := Boxed.new w2 3 (.int .i64 (n : Int))
  have bI := Boxed.new (w2.alloc (.cells #[.int .i64 (n : Int)] 3)) 3 (.int .i64 (i : Int))
  simp only [World.size_alloc, hsz2] at bN bI
  have hB3 : Below w.heap.size w ((w2.alloc (.cells #[.int .i64 (n : Int)] 3)).alloc (.cells #[.int .i64 (i : Int)] 3)) := (hB2.alloc (by omega) _).alloc (by simp; omega) _
  refine wpIn_rangeFunc_ownF rfl (by decide) (gf := 94) (lb := #[.pointer (some ⟨Bd + 1 + 1 + 1, 0, none⟩), .pointer (some ⟨Bd + 1 + 1 + 1 + 1, 0, none⟩)]) rfl trivial (enters_of Tryd.func94 (by kernel_rfl) rfl)
    (shapeDown_stops (3 - 1) (Bd + 1 + 1 + 1) (Bd + 1 + 1 + 1 + 1) n i (by decide) hn hi _ (by simp; omega) (by simp; omega) (bN.alloc _).cell bI.cell) walksK_t walksK_b (Below.refl _ _) (fun _ => rfl)
    (fun pre W => Boxed W Bd 3 (.int .i64 ((L - pre.length : Nat) : Int)) ∧ (Rowz W (Bd + 1) (boC (fillB L pre)) 4 ∧ (Boxed W (Bd + 1 + 1) 76 (.slice (some ⟨Bd + 1, 0, none⟩) L L) ∧ Below w.heap.size w W)))
    (fun _ _ _ => False)
    (OwnFrom.and (Own.from (boxed_own Bd 3 (fun pre : List Bool => .int .i64 ((L - pre.length : Nat) : Int))) _) (OwnFrom.and (Own.from (rowz_own (Bd + 1) 4 (fun pre : List Bool => boC (fillB L pre))) _)
      (OwnFrom.and (Own.from (boxed_own (Bd + 1 + 1) 76 (fun _ : List Bool => .slice (some ⟨Bd + 1, 0, none⟩) L L)) _) (ownFrom_below (Nat.le_refl _) (by simp; omega)))))
    (fun _ _ _ _ _ hs _ _ => hs)
    ⟨(bD.alloc _).alloc _, by rw [fillB_nil]; exact (bR.alloc _).alloc _, (bS.alloc _).alloc _, hB3⟩
    (fun x => { tmps := #[.int .i64 (n : Int), .int .i64 (i : Int), undef, undef, .slice none 0 0, .pointer (some ⟨Bd, 0, none⟩), .pointer (some ⟨Bd + 1 + 1, 0, none⟩), .bool x, .int .i64 (n : Int), .int .i64 (i : Int), .int .i64 (L : Int), .int .i64 (L : Int), .bool false, .int .i64 (L : Int), .slice (some ⟨Bd + 1, 0, none⟩) L L, .int .i64 (n : Int), .int .i64 (i : Int), .func (.func 94) #[] #[.pointer (some ⟨Bd + 1 + 1 + 1, 0, none⟩), .pointer (some ⟨Bd + 1 + 1 + 1 + 1, 0, none⟩)], .bool x, undef, undef, undef, undef, undef, undef, undef], defers := [] }) ?assign ?body ?done ?stop
  case assign =>
    intro l x W K hK
    gi_wp2
    exact hK
  case body =>
    clear bD bR bS bN bI hB2 hB3 HD HM
    rintro l pre x W ⟨hb, hr, hs, hB⟩ hlt
    rw [← hL.out] at hlt
    obtain ⟨d, hd⟩ : ∃ d, L - pre.length = d + 1 := ⟨L - pre.length - 1, by omega⟩
    have hd' : L - (pre ++ [x]).length = d := by simp; omega
    have hdl : (d : Int) < (L : Int) := by omega
    rw [hd] at hb
    have HF : Hid ((fillB L pre).set d x = fillB L (pre ++ [x])) := Lib.hid (by have := fillB_step L pre x hlt; rwa [hd] at this)
    replace hd := Lib.hid hd
    replace hd' := Lib.hid hd'
    have hc : W.cell? ⟨Bd, 0, none⟩ = some (.int .i64 ((d : Int) + 1)) := hb.cell
    have hf := hb.frozen
    have b1 := hb.set (.int .i64 (d : Int))
    have r1 := hr.other ⟨Bd, 0, none⟩ (.int .i64 (d : Int)) (by simp)
    have s1 := hs.other (B' := Bd) (by omega) (.int .i64 (d : Int))
    have B1 := hB.setCell (p := ⟨Bd, 0, none⟩) (by simpa using hsz) (.int .i64 (d : Int))
    have cb1 := b1.cell
    have cs1 := s1.cell
    have cr1 : (W.setCell ⟨Bd, 0, none⟩ (.int .i64 (d : Int))).cell? ⟨Bd + 1, d, none⟩ = some (.bool ((fillB L pre).getD d false)) := by rw [r1.cell, boC_get _ _ (by rw [fillB_length _ _ (by omega)]; omega)]
    have fr1 := r1.free d
    replace b1 := Lib.hid b1
    replace r1 := Lib.hid r1
    replace s1 := Lib.hid s1
    replace B1 := Lib.hid B1
    replace hB := Lib.hid hB
    replace hb := Lib.hid hb
    replace hs := Lib.hid hs
    replace hr := Lib.hid hr
    gi_wp2
    refine ⟨(KeepsOthers.setCell _ _ _).trans (KeepsOthers.setCell _ _ _), (KeepsWalks.setCell _ _ _).trans (KeepsWalks.setCell _ _ _), ?_, ?_, ?_, B1.out.setCell (p := ⟨Bd + 1, d, none⟩) (by simp; omega) _⟩
    · rw [hd'.out]; exact Rowz.other (C := #[_]) b1.out _ _ (by simp)
    · rw [← HF.out, ← boC_set]; exact r1.out.set d _
    · exact Rowz.other (C := #[_]) s1.out _ _ (by simp)
  case done =>
    rintro D ys W hD rfl ⟨hb, hr, hs, hB⟩ hK
    have hc := hs.cell
    gi_wp2
    refine ⟨by simp, .inl ⟨_, _, rfl, run_takeDeferred hK, ?_⟩⟩
    refine ⟨_, results_tmp rfl _ _ _, ⟨Bd + 1, rfl, by omega, ?_⟩, hB.trans (belowK_b (w := w) (Nat.le_refl _) W D _ _ (by simp at hD; omega) hK rfl rfl)⟩
    rw [hL.out, fillB_all] at hr
    exact (World.putObj_heap_other (by rintro rfl; rw [show W.heap[Bd + 1]? = _ from hr] at hK; cases hK)).trans hr
  case stop =>
    rintro D c pre W _ _ h _
    exact h.elim
/-- A slice of the bools l (nil, or a row whose first cells they are). -/
def BRow (w : World) (v : Value) (l : List Bool) : Prop := ∃ p cap, v = .slice p l.length cap ∧ (0 < l.length → ∃ g cur, p = some ⟨g, 0, none⟩ ∧ Rowz w g cur 4 ∧ ∀ i, i < l.length → cur[i]? = some (.bool (l.getD i false)))
theorem BRow.kept {w w' : World} {v : Value} {l : List Bool} (h : BRow w v l) (hk : Kept w w') : BRow w' v l := by
  obtain ⟨p, cap, hv, h⟩ := h
  exact ⟨p, cap, hv, fun hl => by obtain ⟨g, cur, hp, hr, hc⟩ := h hl; exact ⟨g, cur, hp, hr.kept hk, hc⟩⟩
theorem BRow.none (w : World) : BRow w (.slice none 0 0) [] := ⟨.none, 0, rfl, fun h => by simp at h⟩
theorem BRow.ofRow {w : World} {g : Nat} {l : List Bool} (h : Rowz w g (boC l) 4) : BRow w (.slice (some ⟨g, 0, .none⟩) l.length l.length) l := ⟨_, _, rfl, fun _ => ⟨g, _, rfl, h, fun i hi => boC_get l i hi⟩⟩
theorem BRow.ofOwns {w : World} {base n : Nat} {v : Value} {l : List Bool} (h : w.ownsRow base 4 1 v n (l.map Value.bool)) (hn : n = l.length) : BRow w v l := by
  subst hn
  rcases Nat.eq_zero_or_pos l.length with h0 | h0
  · rcases h.2 with ⟨hv, _⟩ | ⟨g, cap, cur, hv, _⟩
    · exact ⟨.none, 0, by rw [hv, h0], fun hl => by omega⟩
    · exact ⟨_, cap, hv, fun hl => by omega⟩
  · obtain ⟨g, cap, cur, hv, _, _, hr, hc⟩ := owns_row h h0
    exact ⟨_, cap, hv, fun _ => ⟨g, cur, rfl, hr, fun i hi => by rw [hc i hi]; simp [List.getElem?_eq_getElem hi]⟩⟩

theorem depthI_no {n i : Int} (h : ¬ (0 ≤ i ∧ i < n)) : depthI n i = -1 := by rw [depthI, if_neg h]
theorem depthI_yes {n i : Nat} (h : i < n) : depthI (n : Int) (i : Int) = ((dn n i).length : Int) := by rw [depthI, if_pos (by omega)]; simp [sidesN]
theorem sidesI_no {n i : Int} (h : ¬ (0 ≤ i ∧ i < n)) : sidesI n i = [] := by rw [sidesI, if_neg h]
theorem sidesI_yes {n i : Nat} (h : i < n) : sidesI (n : Int) (i : Int) = sidesN n i := by rw [sidesI, if_pos (by omega)]; simp

set_option maxHeartbeats 400000 in
theorem shapeDepth_any (n i : Int) (w : World) (hu : n < 9223372036854775808) :
    Calls Tryd.prog 71 #[.int .i64 n, .int .i64 i] w fun e w' => e = .returned (.int .i64 (depthI n i)) ∧ Kept w w' := by
  by_cases h : 0 ≤ i ∧ i < n
  · obtain ⟨I, rfl⟩ := Int.eq_ofNat_of_zero_le h.1
    obtain ⟨N, rfl⟩ := Int.eq_ofNat_of_zero_le (show 0 ≤ n by omega)
    rw [depthI_yes (by omega)]
    exact (callsIn_wide.1 (shapeDepth_in N I (by omega) (by omega) w)).mono fun e w' ⟨he, hB⟩ => ⟨he, kept_below hB⟩
  · rw [depthI_no h]
    by_cases h0 : i < 0
    · have hd1 : decide (i < 0) = true := decide_eq_true h0
      clear h
      go_enter Tryd.func71, Tryd.ntmps71
      go_wp2
      go_ret
      exact ⟨rfl, Kept.refl _⟩
    · have hd1 : decide (i < 0) = false := decide_eq_false h0
      have h1 : n ≤ i := by omega
      have hd2 : decide (i ≥ n) = true := decide_eq_true h1
      have h2 : 0 ≤ i := by omega
      clear h h0
      go_enter Tryd.func71, Tryd.ntmps71
      go_wp2
      go_ret
      exact ⟨rfl, Kept.refl _⟩

set_option maxHeartbeats 400000 in
theorem shapeSides_any (n i : Int) (w : World) (hu : n < 9223372036854775808) :
    Calls Tryd.prog 72 #[.int .i64 n, .int .i64 i] w fun e w' => ∃ v, e = .returned v ∧ BRow w' v (sidesI n i) ∧ Kept w w' := by
  by_cases h : 0 ≤ i ∧ i < n
  · obtain ⟨I, rfl⟩ := Int.eq_ofNat_of_zero_le h.1
    obtain ⟨N, rfl⟩ := Int.eq_ofNat_of_zero_le (show 0 ≤ n by omega)
    rw [sidesI_yes (by omega)]
    refine (callsIn_wide.1 (shapeSides_in N I (by omega) (by omega) w)).mono ?_
    rintro e w' ⟨⟨g, rfl, _, hr⟩, hB⟩
    exact ⟨_, rfl, by have := BRow.ofRow hr; rwa [sidesN_length] at this, kept_below hB⟩
  · rw [sidesI_no h]
    have HD : Hid (∀ w, Calls Tryd.prog 71 #[.int .i64 n, .int .i64 i] w fun e w' => e = .returned (.int .i64 (-1)) ∧ Kept w w') := Lib.hid fun w => by
      have := shapeDepth_any n i w hu
      rwa [depthI_no h] at this
    clear h
    go_enter Tryd.func72, Tryd.ntmps72
    go_wp2_with (go_at_call 71; refine (HD.out _).mono ?_; rintro e w1 ⟨rfl, k1⟩; have K1 := Lib.hid k1; clear k1)
    go_ret
    exact ⟨_, rfl, BRow.none _, K1.out.alloc _⟩
end Go.Proofs.YtcbcjiaedoeaeaaDoor
namespace Go.Proofs.YtcbcjiaedoeaeaaDoor
set_option maxRecDepth 4000
open Go.RowKit

theorem infoBool11 : (Tryd.prog.info? 4).map (fun i => (i.zero, i.size, i.bytes)) = some (some (.bool false), 1, 1) := by kernel_rfl
set_option maxHeartbeats 1000000 in
theorem refSides_nat (n : Nat) : ∀ (i : Nat) (w : World), n < 9223372036854775808 → i < n →
    Calls Tryd.prog 85 #[.int .i64 (n : Int), .int .i64 (i : Int)] w fun e w' => ∃ v, e = .returned v ∧ w'.ownsRow w.heap.size 4 1 v (sidesN n i).length ((sidesN n i).map Value.bool) ∧ Kept w w' := by
  induction n using Nat.strongRecOn with
  | _ n ih =>
    intro i w hn hi
    by_cases h2 : n < 2
    · obtain rfl : n = 1 := by omega
      obtain rfl : i = 0 := by omega
      rw [sidesN_one 0 (by decide)]
      clear ih
      go_enter Tryd.func85, Tryd.ntmps85
      go_wp2
      go_ret
      exact ⟨_, rfl, World.ownsRow_nil _ _ _ _, Kept.refl _⟩
    · obtain ⟨p, hp⟩ : ∃ p, p = leftN n := ⟨_, rfl⟩
      have hp0 : 0 < p := by rw [hp]; exact leftN_pos (by omega)
      have hpn : p < n := by rw [hp]; exact leftN_lt (by omega)
      have HL : Hid (∀ w, Calls Tryd.prog 43 #[.int .i64 (n : Int)] w fun e w' => e = .returned (.int .i64 (p : Int)) ∧ w = w') := Lib.hid fun w => by
        have h := refLeft_any (n : Int) w (by omega)
        rwa [show leftI (n : Int) = p from hp.symm] at h
      have hd1 : decide ((i : Int) < 0) = false := decide_eq_false (by omega)
      have hd2 : decide ((i : Int) ≥ (n : Int)) = false := decide_eq_false (by omega)
      have hd2' : decide (n ≤ i) = false := decide_eq_false (by omega)
      have hin : (i : Int) < (n : Int) := by omega
      have hd3 : ((n : Int) == 1) = false := by simp; omega
      have hn1 : ¬ (n : Int) = 1 := by omega
      by_cases hl : i < p
      · have hd4 : decide ((i : Int) < (p : Int)) = true := decide_eq_true (by omega)
        have hd4' : decide (i < p) = true := decide_eq_true hl
        have HS := Lib.hid (sidesN_left (n := n) (i := i) (by omega) (by omega))
        have HC : Hid (∀ w, Calls Tryd.prog 85 #[.int .i64 (p : Int), .int .i64 (i : Int)] w fun e w' => ∃ v, e = .returned v ∧ w'.ownsRow w.heap.size 4 1 v (sidesN p i).length ((sidesN p i).map Value.bool) ∧ Kept w w') := Lib.hid fun w => ih p hpn i w (by omega) hl
        have hlen : (sidesN p i).length ≤ 63 := by rw [sidesN_length]; exact dn_len63 i (by omega)
        rw [← hp] at HS
        replace hp := Lib.hid hp
        clear ih
        generalize sidesN p i = l at HC HS hlen
        go_enter Tryd.func85, Tryd.ntmps85
        go_wp2_with (first
          | (go_at_call 43; refine (HL.out _).mono ?_; rintro e w1 ⟨rfl, rfl⟩)
          | (go_at_call 85; refine (HC.out _).mono ?_; rintro e w2 ⟨v, rfl, ho, hk⟩; have HO := Lib.hid ho; have HK := Lib.hid hk; clear ho hk)
          | (at_builtin; refine wpList_append1 rfl _ _ 76 rfl w 4 (.bool false) 1 Tryd.underlying76 infoBool11 rfl _ _ _ rfl HO rfl rfl (by unfold maxLen; omega) (by omega) HK ?_; intro v' w' HO' HK'))
        go_ret
        exact ⟨_, rfl, by rw [HS.out]; simpa using HO'.out, HK'.out⟩
      · have hd4 : decide ((i : Int) < (p : Int)) = false := decide_eq_false (by omega)
        have hd4' : decide (i < p) = false := decide_eq_false hl
        have HS := Lib.hid (sidesN_right (n := n) (i := i) (by omega) (by omega))
        have HC : Hid (∀ w, Calls Tryd.prog 85 #[.int .i64 ((n : Int) - (p : Int)), .int .i64 ((i : Int) - (p : Int))] w fun e w' => ∃ v, e = .returned v ∧ w'.ownsRow w.heap.size 4 1 v (sidesN (n - p) (i - p)).length ((sidesN (n - p) (i - p)).map Value.bool) ∧ Kept w w') := Lib.hid fun w => by
          have h := ih (n - p) (by omega) (i - p) w (by omega) (by omega)
          rwa [show ((n - p : Nat) : Int) = (n : Int) - (p : Int) by omega, show ((i - p : Nat) : Int) = (i : Int) - (p : Int) by omega] at h
        have hlen : (sidesN (n - p) (i - p)).length ≤ 63 := by rw [sidesN_length]; exact dn_len63 _ (by omega)
        rw [← hp] at HS
        replace hp := Lib.hid hp
        clear ih
        generalize sidesN (n - p) (i - p) = l at HC HS hlen
        go_enter Tryd.func85, Tryd.ntmps85
        go_wp2_with (first
          | (go_at_call 43; refine (HL.out _).mono ?_; rintro e w1 ⟨rfl, rfl⟩)
          | (go_at_call 85; refine (HC.out _).mono ?_; rintro e w2 ⟨v, rfl, ho, hk⟩; have HO := Lib.hid ho; have HK := Lib.hid hk; clear ho hk)
          | (at_builtin; refine wpList_append1 rfl _ _ 76 rfl w 4 (.bool false) 1 Tryd.underlying76 infoBool11 rfl _ _ _ rfl HO rfl rfl (by unfold maxLen; omega) (by omega) HK ?_; intro v' w' HO' HK'))
        go_ret
        exact ⟨_, rfl, by rw [HS.out]; simpa using HO'.out, HK'.out⟩

set_option maxHeartbeats 400000 in
theorem refSides_any (n i : Int) (w : World) (hu : n < 9223372036854775808) :
    Calls Tryd.prog 85 #[.int .i64 n, .int .i64 i] w fun e w' => ∃ v, e = .returned v ∧ BRow w' v (sidesI n i) ∧ Kept w w' := by
  by_cases h : 0 ≤ i ∧ i < n
  · obtain ⟨I, rfl⟩ := Int.eq_ofNat_of_zero_le h.1
    obtain ⟨N, rfl⟩ := Int.eq_ofNat_of_zero_le (show 0 ≤ n by omega)
    rw [sidesI_yes (by omega)]
    refine (refSides_nat N I w (by omega) (by omega)).mono ?_
    rintro e w' ⟨v, rfl, ho, hk⟩
    exact ⟨v, rfl, BRow.ofOwns ho rfl, hk⟩
  · rw [sidesI_no h]
    by_cases h0 : i < 0
    · have hd1 : decide (i < 0) = true := decide_eq_true h0
      clear h
      go_enter Tryd.func85, Tryd.ntmps85
      go_wp2
      go_ret
      exact ⟨_, rfl, BRow.none _, Kept.refl _⟩
    · have hd1 : decide (i < 0) = false := decide_eq_false h0
      have h1 : n ≤ i := by omega
      have hd2 : decide (i ≥ n) = true := decide_eq_true h1
      have h2 : 0 ≤ i := by omega
      clear h h0
      go_enter Tryd.func85, Tryd.ntmps85
      go_wp2
      go_ret
      exact ⟨_, rfl, BRow.none _, Kept.refl _⟩

set_option maxHeartbeats 400000 in
theorem refDepth_any (n i : Int) (w : World) (hu : n < 9223372036854775808) :
    Calls Tryd.prog 74 #[.int .i64 n, .int .i64 i] w fun e w' => e = .returned (.int .i64 (depthI n i)) ∧ Kept w w' := by
  by_cases h : 0 ≤ i ∧ i < n
  · have hE : depthI n i = ((sidesI n i).length : Int) := by rw [depthI, sidesI, if_pos h, if_pos h]
    have HC : Hid (∀ w, Calls Tryd.prog 85 #[.int .i64 n, .int .i64 i] w fun e w' => ∃ p cap, e = .returned (.slice p (sidesI n i).length cap) ∧ Kept w w') := Lib.hid fun w => by
      refine (refSides_any n i w hu).mono ?_
      rintro e w' ⟨v, rfl, ⟨p, cap, rfl, _⟩, hk⟩
      exact ⟨p, cap, rfl, hk⟩
    rw [hE]
    clear hE
    generalize (sidesI n i).length = L at HC ⊢
    have hd1 : decide (i < 0) = false := decide_eq_false (by omega)
    have hd2 : decide (i ≥ n) = false := decide_eq_false (by omega)
    have h0 : 0 ≤ i := h.1
    have h1 : i < n := h.2
    clear h
    go_enter Tryd.func74, Tryd.ntmps74
    go_wp2_with (go_at_call 85; refine (HC.out _).mono ?_; rintro e w1 ⟨p, cap, rfl, k1⟩; have K1 := Lib.hid k1; clear k1)
    go_ret
    exact ⟨rfl, K1.out⟩
  · rw [depthI_no h]
    by_cases h0 : i < 0
    · have hd1 : decide (i < 0) = true := decide_eq_true h0
      clear h
      go_enter Tryd.func74, Tryd.ntmps74
      go_wp2
      go_ret
      exact ⟨rfl, Kept.refl _⟩
    · have hd1 : decide (i < 0) = false := decide_eq_false h0
      have h1 : n ≤ i := by omega
      have hd2 : decide (i ≥ n) = true := decide_eq_true h1
      have h2 : 0 ≤ i := by omega
      clear h h0
      go_enter Tryd.func74, Tryd.ntmps74
      go_wp2
      go_ret
      exact ⟨rfl, Kept.refl _⟩
theorem wrap_sub (i l : Nat) (h : l ≤ i) (h63 : i < 9223372036854775807) : IntKind.i64.wrap ((i : Int) - (l : Int)) = (i : Int) - (l : Int) := by
  simp only [IntKind.wrap, IntKind.signed, IntKind.bits]; simp; omega
end Go.Proofs.YtcbcjiaedoeaeaaDoor
