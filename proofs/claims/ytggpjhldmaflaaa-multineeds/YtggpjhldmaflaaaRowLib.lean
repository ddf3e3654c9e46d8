/-
  Small laws on worlds, for walks that keep arrays in memory: a row of cells known whole ('Rowz'), and that it stays where only new memory is made ('Grown'). No condition.
-/
import Derived.WalkKit
import Derived.WalkLawsBesides
import Derived.Lib.Hide
import Derived.Laws.Rows
import Derived.Laws.Tables
import Derived.Deep.Draws
import Derived.StillTailTactics
namespace Go.Proofs.Ytggpjhldmaflaaa
set_option maxRecDepth 4000
open Go.RowKit

theorem Grown.trans {a b c : World} (h : Grown a b) (g : Grown b c) : Grown a c :=
  ⟨World.keptBut_trans h.1 (World.keptBut_mono (fun _ f => f) g.1), fun x => (g.2.1 x).trans (h.2.1 x), Nat.le_trans h.2.2 g.2.2⟩
theorem Grown.drewN {a b : World} (h : Grown a b) (n : Nat) : Grown a (b.drewN n) := h
theorem Grown.block {w w' : World} (h : Grown w w') (i : Nat) (hi : i < w.heap.size) : w'.heap[i]? = w.heap[i]? := by
  have h1 := h.1.2.2 i hi
  cases e : w.heap[i]? with
  | none => rw [e] at h1; simpa using h1
  | some o =>
    rw [e] at h1
    cases e' : w'.heap[i]? with
    | none => rw [e'] at h1; cases o <;> simp at h1
    | some o' =>
      rw [e'] at h1
      cases o <;> cases o' <;> simp at h1
      · obtain ⟨a, b, c, d⟩ := h1
        subst a; subst b
        have : ∀ (x y : Array Value), (∀ j : Nat, x[j]? = y[j]?) → x = y := fun x y hxy => Array.ext_getElem? hxy
        rw [this _ _ d]
      all_goals simp_all

def Rowz (w : World) (g : Nat) (C : Array Value) (T : TypeId) : Prop := w.heap[g]? = some (.cells C T (0, 0))
theorem Rowz.lt {w : World} {g : Nat} {C : Array Value} {T : TypeId} (h : Rowz w g C T) : g < w.heap.size := by
  unfold Rowz at h
  by_cases hg : g < w.heap.size
  · exact hg
  · rw [Array.getElem?_eq_none (by omega)] at h; cases h
theorem Rowz.cell {w : World} {g : Nat} {C : Array Value} {T : TypeId} (h : Rowz w g C T) (j : Nat) : w.cell? ⟨g, j, none⟩ = C[j]? := cell_of_row w g j C T (0, 0) h
theorem Rowz.free {w : World} {g : Nat} {C : Array Value} {T : TypeId} (h : Rowz w g C T) (j : Nat) : w.frozen? ⟨g, j, none⟩ = false := frozen_of_row w g j C T h
theorem Rowz.set {w : World} {g : Nat} {C : Array Value} {T : TypeId} (h : Rowz w g C T) (i : Nat) (v : Value) : Rowz (w.setCell ⟨g, i, none⟩ v) g (C.setIfInBounds i v) T := heap_setCell_same w g i C T v h
theorem Rowz.other {w : World} {g : Nat} {C : Array Value} {T : TypeId} (h : Rowz w g C T) (a : Addr) (v : Value) (hn : g ≠ a.block) : Rowz (w.setCell a v) g C T := (heap_setCell_other w a g v hn).trans h
theorem Rowz.alloc {w : World} {g : Nat} {C : Array Value} {T : TypeId} (h : Rowz w g C T) (o : Obj) : Rowz (w.alloc o) g C T := (Below.heap_alloc w o g h.lt).trans h
theorem Rowz.new (w : World) (C : Array Value) (T : TypeId) : Rowz (w.alloc (.cells C T)) w.heap.size C T := heap_alloc_new w _
theorem Rowz.newEq (w : World) (o : Obj) (C : Array Value) (T : TypeId) (h : o = .cells C T) : Rowz (w.alloc o) w.heap.size C T := by
  subst h; exact Rowz.new w C T
theorem Rowz.newEq1 (w : World) (o1 o : Obj) (C : Array Value) (T : TypeId) (h : o = .cells C T) : Rowz ((w.alloc o1).alloc o) (w.heap.size + 1) C T := by
  subst h; exact heap_alloc2_new w o1 _
theorem Rowz.drewN {w : World} {g : Nat} {C : Array Value} {T : TypeId} (h : Rowz w g C T) (n : Nat) : Rowz (w.drewN n) g C T := h
theorem Rowz.drew {w : World} {g : Nat} {C : Array Value} {T : TypeId} (h : Rowz w g C T) : Rowz w.drew g C T := h
theorem Rowz.grown {w w' : World} {g : Nat} {C : Array Value} {T : TypeId} (h : Rowz w g C T) (k : Grown w w') : Rowz w' g C T := (Grown.block k g h.lt).trans h
theorem Rowz.grownD {w w' : World} {g : Nat} {C : Array Value} {T : TypeId} (h : Rowz w g C T) (n : Nat) (k : Grown (w.drewN n) w') : Rowz w' g C T := Rowz.grown (w := w.drewN n) h k
theorem Grown.transD {a b c : World} (h : Grown a b) (n : Nat) (g : Grown (b.drewN n) c) : Grown a c := Grown.trans (b := b.drewN n) h g
theorem Rowz.row {w : World} {g : Nat} {C D : Array Value} {T : TypeId} (h : Rowz w g C T) : Rowz (w.setRow g D) g D T := setRow_heap w g C D T (0, 0) h
theorem Rowz.rowOther {w : World} {g k : Nat} {C D : Array Value} {T : TypeId} (h : Rowz w g C T) (hn : g ≠ k) : Rowz (w.setRow k D) g C T := (setRow_other w k g D hn).trans h
theorem Grown.setRow {w w' : World} (h : Grown w w') {g : Nat} {C : Array Value} {T : TypeId} (hr : Rowz w' g C T) (hg : w.heap.size ≤ g) (D : Array Value) : Grown w (w'.setRow g D) := by
  obtain ⟨⟨h1, h2, h3⟩, hf, hs⟩ := h
  refine ⟨⟨h1, h2, fun i hi => ?_⟩, fun x => ?_, by simpa using hs⟩
  · rw [setRow_other w' g i D (by omega)]; exact h3 i hi
  · rw [← hf x]
    by_cases hx : x.block = g
    · have e1 := setRow_heap w' g C D T (0, 0) hr
      have e2 : w'.heap[g]? = some (.cells C T (0, 0)) := hr
      simp [World.frozen?, hx, e1, e2]
    · simp [World.frozen?, setRow_other w' g x.block D hx]

/-- n cells of a row of words of 32 bits: the list, then zeros. -/
def wC (n : Nat) (l : List Nat) : Array Value := ((List.range n).map fun i => Value.int .u32 ((l.getD i 0 : Nat) : Int)).toArray
theorem wC_size (n : Nat) (l : List Nat) : (wC n l).size = n := by simp [wC]
theorem wC_get (n : Nat) (l : List Nat) (i : Nat) (h : i < n) : (wC n l)[i]? = some (.int .u32 ((l.getD i 0 : Nat) : Int)) := by simp [wC, h]
theorem wC_push (n : Nat) (l : List Nat) (v : Nat) (k : Nat) (hk : l.length = k) : (wC n l).setIfInBounds k (.int .u32 (v : Int)) = wC n (l ++ [v]) := by
  apply Array.ext
  · simp [wC]
  · intro i h1 h2
    rw [Array.getElem_setIfInBounds (by simpa [wC] using h2)]
    by_cases e : k = i
    · subst e; simp [wC, ← hk, List.getD_eq_getElem?_getD]
    · simp only [wC, e, if_false, List.getElem_toArray, List.getElem_map, List.getElem_range, List.getD_eq_getElem?_getD]
      congr 3
      by_cases hi : i < l.length
      · rw [List.getElem?_append_left hi]
      · rw [List.getElem?_eq_none (by omega), List.getElem?_eq_none (by simp; omega)]
theorem wC_set (n : Nat) (l : List Nat) (v k : Nat) (hl : l.length = n) (hk : k < n) : (wC n l).setIfInBounds k (.int .u32 (v : Int)) = wC n (l.set k v) := by
  apply Array.ext
  · simp [wC]
  · intro i h1 h2
    have hi : i < n := by simpa [wC] using h2
    rw [Array.getElem_setIfInBounds (by simpa [wC] using h2)]
    by_cases e : k = i
    · subst e; simp [wC, List.getD_eq_getElem?_getD, hl, hk]
    · simp only [wC, e, if_false, List.getElem_toArray, List.getElem_map, List.getElem_range, List.getD_eq_getElem?_getD]
      rw [List.getElem?_set_ne e]
theorem wC_one (n : Nat) (l : List Nat) : (wC n l).all (·.oneCell') = true := by
  rw [Array.all_eq_true_iff_forall_mem]
  intro x hx
  simp only [wC, List.mem_toArray, List.mem_map] at hx
  obtain ⟨i, _, rfl⟩ := hx
  rfl

theorem Rowz.push {w : World} {g n : Nat} {l : List Nat} {T : TypeId} (h : Rowz w g (wC n l) T) (k : Nat) (hk : l.length = k) (V : Int) (v : Nat) (hV : V = v) :
    Rowz (w.setCell ⟨g, k, none⟩ (.int .u32 V)) g (wC n (l ++ [v])) T := by
  subst hV; rw [← wC_push n l v k hk]; exact h.set k _
theorem Rowz.put {w : World} {g n : Nat} {l : List Nat} {T : TypeId} (h : Rowz w g (wC n l) T) (k : Nat) (hl : l.length = n) (hk : k < n) (V : Int) (v : Nat) (hV : V = v) :
    Rowz (w.setCell ⟨g, k, none⟩ (.int .u32 V)) g (wC n (l.set k v)) T := by
  subst hV; rw [← wC_set n l v k hl hk]; exact h.set k _
theorem Rowz.word {w : World} {g n : Nat} {l : List Nat} {T : TypeId} (h : Rowz w g (wC n l) T) (i : Nat) (hi : i < n) : w.cell? ⟨g, i, none⟩ = some (.int .u32 ((l.getD i 0 : Nat) : Int)) := by
  rw [h.cell, wC_get n l i hi]

/-- n cells of a row of bytes: the list, then zeros. -/
def bC (n : Nat) (l : List UInt8) : Array Value := ((List.range n).map fun i => Value.int .u8 (((l.getD i 0).toNat : Nat) : Int)).toArray
theorem bC_size (n : Nat) (l : List UInt8) : (bC n l).size = n := by simp [bC]
theorem bC_get (n : Nat) (l : List UInt8) (i : Nat) (h : i < n) : (bC n l)[i]? = some (.int .u8 (((l.getD i 0).toNat : Nat) : Int)) := by simp [bC, h]
theorem bC_push (n : Nat) (l : List UInt8) (v : UInt8) (k : Nat) (hk : l.length = k) : (bC n l).setIfInBounds k (.int .u8 ((v.toNat : Nat) : Int)) = bC n (l ++ [v]) := by
  apply Array.ext
  · simp [bC]
  · intro i h1 h2
    rw [Array.getElem_setIfInBounds (by simpa [bC] using h2)]
    by_cases e : k = i
    · subst e; simp [bC, ← hk, List.getD_eq_getElem?_getD]
    · simp only [bC, e, if_false, List.getElem_toArray, List.getElem_map, List.getElem_range, List.getD_eq_getElem?_getD]
      congr 4
      by_cases hi : i < l.length
      · rw [List.getElem?_append_left hi]
      · rw [List.getElem?_eq_none (by omega), List.getElem?_eq_none (by simp; omega)]
theorem bC_one (n : Nat) (l : List UInt8) : (bC n l).all (·.oneCell') = true := by
  rw [Array.all_eq_true_iff_forall_mem]
  intro x hx
  simp only [bC, List.mem_toArray, List.mem_map] at hx
  obtain ⟨i, _, rfl⟩ := hx
  rfl
theorem Rowz.pushB {w : World} {g n : Nat} {l : List UInt8} {T : TypeId} (h : Rowz w g (bC n l) T) (k : Nat) (hk : l.length = k) (V : Int) (v : UInt8) (hV : V = v.toNat) :
    Rowz (w.setCell ⟨g, k, none⟩ (.int .u8 V)) g (bC n (l ++ [v])) T := by
  subst hV; rw [← bC_push n l v k hk]; exact h.set k _
theorem Rowz.byte {w : World} {g n : Nat} {l : List UInt8} {T : TypeId} (h : Rowz w g (bC n l) T) (i : Nat) (hi : i < n) : w.cell? ⟨g, i, none⟩ = some (.int .u8 (((l.getD i 0).toNat : Nat) : Int)) := by
  rw [h.cell, bC_get n l i hi]
theorem Rowz.load {P : Program} {w : World} {g : Nat} {C : Array Value} {T : TypeId} (h : Rowz w g C T) (n : Nat) (e : TypeId) (hu : P.underlying T = some (.array n e)) (hi : (P.info? T).map (·.size) = some C.size) :
    (Instr.loadAt T (.pointer (some ⟨g, 0, none⟩))).run P w = .ok (.agg C) w := by
  simp only [Instr.loadAt, Instr.sureAddr, Sem.run_bind, Sem.run_pure, Result.andThen]
  exact run_loadVar_row w g T T C (0, 0) _ h hu rfl hi

theorem wpStill_load_row {P : Program} {ops : Array Oper} {rest : List Oper} {o : Oper} {a : Act} {w : World} {Q : Act → Prop} (hgd : o.guard = none) (ty : TypeId) (x : Operand) (ho : o.op = .load ty x)
    (g : Nat) (hx : a.eval x = .pointer (some ⟨g, 0, none⟩)) (t : TypeId) (cs : Array Value) (fr : Nat × Nat) (d : TypeDesc) (hg : w.heap[g]? = some (.cells cs t fr))
    (hu : P.underlying ty = some d) (hd : (match d with | .struct _ | .array _ _ => true | _ => false) = true) (hi : (P.info? ty).map (·.size) = some cs.size)
    (h : wpStill P ops w Q rest (a.put o.dst (.agg cs))) : wpStill P ops w Q (o :: rest) a := by
  rw [wpStill, if_pos (by simp [Region.wanted, hgd])]
  unfold Oper.still execOp
  simp only [ho, hx, Instr.loadAt, Instr.sureAddr, Sem.run_bind, Sem.run_pure, Result.andThen_ok, run_loadVar_row w g t ty cs fr d hg hu hd hi]
  exact ⟨rfl, h⟩

end Go.Proofs.Ytggpjhldmaflaaa
