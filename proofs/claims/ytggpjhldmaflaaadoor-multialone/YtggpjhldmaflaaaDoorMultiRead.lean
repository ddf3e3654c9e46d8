/-
  A reader in memory (RdAt): what it has left, what it has recorded; what a call leaves that touches nothing but the reader, the slice that it records into, and new memory (Turn). No condition.
-/
import Derived.Test.YtggpjhldmaflaaaDoorMultiApp
import Derived.Test.YtggpjhldmaflaaaDoorMultiForm
import Derived.Test.YtggpjhldmaflaaaDoorPhaseLib
import Derived.Test.YtggpjhldmaflaaaDoorHld
import Derived.Test.YtggpjhldmaflaaaDoorTxsLib
namespace Go.Proofs.YtggpjhldmaflaaaDoor
set_option maxRecDepth 4000
open Go.RowKit

def rdC (p1 : Option Addr) (k c1 : Nat) (q : Option Addr) (m d : Nat) (pl : Int) (v : Value) : Array Value := #[.slice p1 k c1, .slice q m d, .int .i64 pl, v]
/-- The block that the reader behind g records into. -/
def upOf (w : World) (g : Nat) : Option Nat := (w.cell? ⟨g, 3, none⟩).bind Value.ownBlock
theorem upOf_row {w : World} {g : Nat} {p1 : Option Addr} {k c1 : Nat} {q : Option Addr} {m d : Nat} {pl : Int} {v : Value} {T : TypeId} (h : Rowz w g (rdC p1 k c1 q m d pl v) T) : upOf w g = v.ownBlock := by
  unfold upOf
  rw [h.cell 3]
  rfl
theorem upOf_congr {w w' : World} {g : Nat} (h : w'.heap[g]? = w.heap[g]?) : upOf w' g = upOf w g := by
  unfold upOf
  rw [World.cell?_of_block (w := w) h]
/-- Nothing but the reader behind g, what it records into, and new memory. -/
def Turn (g : Nat) (w w' : World) : Prop := w'.os = w.os ∧ w'.output = w.output ∧ w.heap.size ≤ w'.heap.size ∧
  (g < w.heap.size → (∀ i, i < w.heap.size → i ≠ g → upOf w g ≠ some i → w'.heap[i]? = w.heap[i]?) ∧ ∀ i, upOf w' g = some i → upOf w g = some i ∨ w.heap.size ≤ i)
theorem Turn.refl (g : Nat) (w : World) : Turn g w w := ⟨rfl, rfl, Nat.le_refl _, fun _ => ⟨fun _ _ _ _ => rfl, fun _ h => .inl h⟩⟩
theorem Turn.size {g : Nat} {w w' : World} (h : Turn g w w') : w.heap.size ≤ w'.heap.size := h.2.2.1
theorem Turn.trans {g : Nat} {u v w : World} (h : Turn g u v) (k : Turn g v w) : Turn g u w := by
  refine ⟨k.1.trans h.1, k.2.1.trans h.2.1, Nat.le_trans h.2.2.1 k.2.2.1, fun hg => ?_⟩
  obtain ⟨h1, h2⟩ := h.2.2.2 hg
  obtain ⟨k1, k2⟩ := k.2.2.2 (Nat.lt_of_lt_of_le hg h.size)
  refine ⟨fun i hi hn hu => ?_, fun i hi => ?_⟩
  · refine (k1 i (Nat.lt_of_lt_of_le hi h.size) hn fun e => ?_).trans (h1 i hi hn hu)
    rcases h2 i e with h | h
    · exact hu h
    · omega
  · rcases k2 i hi with h3 | h3
    · exact h2 i h3
    · exact .inr (Nat.le_trans h.size h3)
theorem Turn.ofKept {g : Nat} {w w' : World} (h : Kept w w') : Turn g w w' :=
  ⟨h.1, h.2.1, h.size, fun hg => ⟨fun i hi _ _ => h.block i hi, fun i hi => .inl (by rw [upOf_congr (h.block g hg)] at hi; exact hi)⟩⟩
theorem Turn.keptOf {g : Nat} {W w w' : World} (h : Turn g w w') (k : Kept W w) (hW : W.heap.size ≤ g) (hg : g < w.heap.size) (hu : ∀ i, upOf w g = some i → W.heap.size ≤ i) : Kept W w' :=
  Kept.of (h.1.trans k.1) (h.2.1.trans k.2.1) fun i hi => ((h.2.2.2 hg).1 i (Nat.lt_of_lt_of_le hi k.size) (by omega) (fun e => by have := hu i e; omega)).trans (k.block i hi)
/-- A block that such calls leave alone. -/
def FreeOf (g i : Nat) (w : World) : Prop := g < w.heap.size ∧ i ≠ g ∧ upOf w g ≠ some i
theorem Turn.free {g i : Nat} {w w' : World} (h : Turn g w w') (hi : i < w.heap.size) (hf : FreeOf g i w) : FreeOf g i w' ∧ w'.heap[i]? = w.heap[i]? := by
  obtain ⟨h1, h2⟩ := h.2.2.2 hf.1
  refine ⟨⟨Nat.lt_of_lt_of_le hf.1 h.size, hf.2.1, fun e => ?_⟩, h1 i hi hf.2.1 hf.2.2⟩
  rcases h2 i e with h3 | h3
  · exact hf.2.2 h3
  · omega
theorem Turn.row {g i : Nat} {w w' : World} {C : Array Value} {T : TypeId} (h : Turn g w w') (hr : Rowz w i C T) (hf : FreeOf g i w) : Rowz w' i C T := ((h.free hr.lt hf).2).trans hr
theorem Turn.setRow {g i : Nat} {w w' : World} (h : Turn g w w') (hi : w.heap.size ≤ i) (D : Array Value) : Turn g w (w'.setRow i D) := by
  refine ⟨h.1, h.2.1, by simpa using h.2.2.1, fun hg => ?_⟩
  obtain ⟨h1, h2⟩ := h.2.2.2 hg
  have e : upOf (w'.setRow i D) g = upOf w' g := upOf_congr (setRow_other w' i g D (by omega))
  refine ⟨fun j hj hjn hu => ?_, fun j hj => h2 j (by rw [← e]; exact hj)⟩
  rw [setRow_other w' i j D (by omega)]
  exact h1 j hj hjn hu
/-- A reader: k leaves S and m hashes F left, at place pl, L recorded; what it reads lies in W, what it records does not. -/
structure RdAt (W w : World) (g k : Nat) (S : Nat → ByteArray) (m : Nat) (F : Nat → List UInt8) (pl : Int) (L : List (List UInt8)) : Prop where
  ex : ∃ p1 c1 q d v, Rowz w g (rdC p1 k c1 q m d pl v) 71 ∧ (k ≤ c1 ∧ c1 ≤ maxLen) ∧ SAt W p1 k S ∧ HSl m F (.slice q m d) W ∧ PaS W.heap.size L v w ∧ v.ownBlock ≠ some g
  base : W.heap.size ≤ g
  kept : Kept W w
section
variable {W w : World} {g k : Nat} {S : Nat → ByteArray} {m : Nat} {F : Nat → List UInt8} {pl : Int} {L : List (List UInt8)}
theorem RdAt.lt (h : RdAt W w g k S m F pl L) : g < w.heap.size := by
  obtain ⟨_, _, _, _, _, hr, _⟩ := h.ex
  exact hr.lt
theorem RdAt.up (h : RdAt W w g k S m F pl L) : ∀ i, upOf w g = some i → W.heap.size ≤ i ∧ i < w.heap.size := by
  obtain ⟨_, _, _, _, v, hr, _, _, _, hp, _⟩ := h.ex
  intro i hi
  rw [upOf_row hr] at hi
  exact World.ownsRow.lt hp i hi
theorem RdAt.keptTo {w' : World} (h : RdAt W w g k S m F pl L) (K : Kept w w') : RdAt W w' g k S m F pl L := by
  obtain ⟨p1, c1, q, d, v, hr, hc, hS, hF, hp, hv⟩ := h.ex
  exact ⟨⟨p1, c1, q, d, v, hr.kept K, hc, hS, hF, PaS.kept _ _ _ _ _ K hp, hv⟩, h.base, h.kept.trans K⟩
theorem RdAt.turn {w' : World} (h : RdAt W w g k S m F pl L) (T : Turn g w w') : Kept W w' := T.keptOf h.kept h.base h.lt fun i hi => (h.up i hi).1
theorem RdAt.new {w' : World} {i : Nat} (h : RdAt W w g k S m F pl L) (K : Kept w w') (hi : w.heap.size ≤ i) : FreeOf g i w' := by
  refine ⟨Nat.lt_of_lt_of_le h.lt K.size, by have := h.lt; omega, fun e => ?_⟩
  rw [upOf_congr (K.block g h.lt)] at e
  have := (h.up i e).2
  omega
theorem PaS.setRowNe {b i : Nat} {v : Value} (h : PaS b L v w) (hn : v.ownBlock ≠ some i) (D : Array Value) : PaS b L v (w.setRow i D) := by
  refine ⟨h.1, ?_⟩
  rcases h.2 with h1 | ⟨g', cap, cur, rfl, hb, hg', rest⟩
  · exact .inl h1
  · refine .inr ⟨g', cap, cur, rfl, hb, ?_, rest⟩
    have : g' ≠ i := fun e => hn (by simp [Value.ownBlock, e])
    rw [setRow_other w i g' D this]
    exact hg'
theorem PaS.setCellNe {b : Nat} {v : Value} (h : PaS b L v w) (a : Addr) (hn : v.ownBlock ≠ some a.block) (x : Value) : PaS b L v (w.setCell a x) := by
  refine ⟨h.1, ?_⟩
  rcases h.2 with h1 | ⟨g', cap, cur, rfl, hb, hg', rest⟩
  · exact .inl h1
  · refine .inr ⟨g', cap, cur, rfl, hb, ?_, rest⟩
    have : g' ≠ a.block := fun e => hn (by simp [Value.ownBlock, e])
    rw [heap_setCell_other w a g' x this]
    exact hg'
theorem RdAt.setRow {i : Nat} (h : RdAt W w g k S m F pl L) (hf : FreeOf g i w) (hi : W.heap.size ≤ i) (D : Array Value) : RdAt W (w.setRow i D) g k S m F pl L := by
  obtain ⟨p1, c1, q, d, v, hr, hc, hS, hF, hp, hv⟩ := h.ex
  exact ⟨⟨p1, c1, q, d, v, hr.rowOther (fun e => hf.2.1 e.symm), hc, hS, hF, hp.setRowNe (by rw [← upOf_row hr]; exact hf.2.2) D, hv⟩, h.base, h.kept.setRow hi D⟩
/-- The reader's field j is stored into. -/
theorem Turn.field {w1 : World} {v v' : Value} {p1 p1' : Option Addr} {k' c1 c1' : Nat} {q q' : Option Addr} {m' d d' : Nat} {T : TypeId} (h : Rowz w g (rdC p1 k c1 q m d pl v) T) (G : w.grownBy w1 v.ownBlock) (hv : ∀ i, v'.ownBlock = some i → v.ownBlock = some i ∨ w.heap.size ≤ i) (j : Nat) (x : Value)
    (h' : Rowz (w1.setCell ⟨g, j, none⟩ x) g (rdC p1' k' c1' q' m' d' pl v') T) : Turn g w (w1.setCell ⟨g, j, none⟩ x) := by
  refine ⟨G.os, G.output, by simpa using G.size, fun hg => ⟨fun i hi hn hu => ?_, fun i hi => ?_⟩⟩
  · rw [heap_setCell_other w1 _ i x hn]
    rw [upOf_row h] at hu
    exact G.block i hi (fun e => hu e.symm)
  · rw [upOf_row h'] at hi
    rw [upOf_row h]
    exact hv i hi
/-- The slice that it records into is stored anew. -/
theorem Turn.store3 {w1 : World} {v v' : Value} {p1 : Option Addr} {c1 : Nat} {q : Option Addr} {d : Nat} {T : TypeId} (t : Turn g w w1) (hu : upOf w g = v.ownBlock) (hv : ∀ i, v'.ownBlock = some i → v.ownBlock = some i ∨ w.heap.size ≤ i)
    (h' : Rowz (w1.setCell ⟨g, 3, none⟩ v') g (rdC p1 k c1 q m d pl v') T) : Turn g w (w1.setCell ⟨g, 3, none⟩ v') := by
  refine ⟨t.1, t.2.1, by simpa using t.2.2.1, fun hg => ⟨fun i hi hn hu' => ?_, fun i hi => ?_⟩⟩
  · rw [heap_setCell_other w1 _ i v' hn]
    exact (t.2.2.2 hg).1 i hi hn hu'
  · rw [upOf_row h'] at hi
    rw [hu]
    exact hv i hi
theorem grown_refl (w : World) (r : Option Nat) : w.grownBy w r := ⟨rfl, rfl, rfl, Nat.le_refl _, fun _ _ _ => rfl⟩
end
/-- 'leaves[1:]': the pointer stays where no room is left. -/
theorem run_cutS_tail (q : Addr) (n c : Nat) (h1 : 0 < n) (hn : n ≤ c) :
    ∃ q', (∀ w : World, (Instr.sliceAt 22 (.slice (some q) n c) (some (.int .i64 1)) none none).run Tryd.prog w = .ok (.slice (some q') (n - 1) (c - 1)) w) ∧
      ∀ (S : Nat → ByteArray) (W : World), SAt W (some q) n S → SAt W (some q') (n - 1) (fun i => S (1 + i)) := by
  by_cases hc : 1 < c
  · exact ⟨q.add 1, fun w => run_cutS_right q n c 1 w h1 hc, fun S W hv => hv.right 1 h1⟩
  · obtain rfl : c = 1 := by omega
    obtain rfl : n = 1 := by omega
    refine ⟨q, fun w => ?_, fun S W _ => SAt.zero _ _ _⟩
    have e : Tryd.prog.elem 22 = 9 := by kernel_rfl
    have hs := sizeStr12 w
    have := run_slice_l w 22 (some q) 1 1 Tryd.underlying22 .i64 1 (by omega) (by omega)
    rw [run_sliceAt_slice w 22 _ _ _ _ Tryd.underlying22, this, e, hs]
    simp [sliced, Result.andThen]
end Go.Proofs.YtggpjhldmaflaaaDoor
