/-
  Small laws for walks over strings: an index into a string, bytes made with room, bytes appended to a slice of the call's own. No condition.
-/
import Derived.Test.YthigdhdapbjakaaHexMath
import Derived.Lib.OthersKept
import Derived.Laws.RangeAny
namespace Go.Proofs.Ythigdhdapbjakaa
open Go.RowKit

theorem execIdxS {o : Oper} {t : Array Value} {x i : Operand} (s : ByteArray) (k c : Nat) (kd : IntKind) (w : World) (ho : o.op = .index 9 x i) (hx : evS t x = .string s) (hi : evS t i = .int kd (k : Int)) (hk : k < s.size) (hc : (s[k]).toNat = c) :
    (execOp (evS t) o).run Try.prog w = .ok (.value (.int .u8 (c : Int))) w := by
  subst hc
  have hr := run_index_string (P := Try.prog) w 9 s kd (k : Int) Try.underlying9
  rw [dif_pos ⟨by omega, by omega⟩] at hr
  unfold execOp
  simp only [ho, hx, hi, Sem.run_bind, Sem.run_pure, hr, Result.andThen_ok, Int.toNat_natCast]
theorem shr4 (c : Nat) : ((c : Int) / 2 ^ 4) = ((c / 16 : Nat) : Int) := by omega
theorem and15 (c : Nat) (hc : c < 256) : bits .and .u8 (c : Int) 15 = ((c % 16 : Nat) : Int) := by
  have h : ∀ n : Nat, n < 256 → bits .and .u8 (n : Int) 15 = ((n % 16 : Nat) : Int) := by decide +kernel
  exact h c hc
theorem or16 (a b : Nat) (ha : a < 16) (hb : b < 16) : bits .or .u8 ((16 * a : Nat) : Int) (b : Int) = ((16 * a + b : Nat) : Int) := by
  have h : ∀ a : Nat, a < 16 → ∀ b : Nat, b < 16 → bits .or .u8 ((16 * a : Nat) : Int) (b : Int) = ((16 * a + b : Nat) : Int) := by decide +kernel
  exact h a ha b hb
theorem execShr4 {o : Oper} {t : Array Value} {x y : Operand} (c : Nat) (w : World) (ho : o.op = .binOp .shr 5 x y 33) (hx : evS t x = .int .u8 (c : Int)) (hy : evS t y = .int .u64 4) :
    (execOp (evS t) o).run Try.prog w = .ok (.value (.int .u8 ((c / 16 : Nat) : Int))) w := by
  have h := shr4 c
  unfold execOp
  rw [ho]
  simp only [hx, hy]
  go_simp
theorem execAnd15 {o : Oper} {t : Array Value} {x y : Operand} (c : Nat) (w : World) (ho : o.op = .binOp .and 5 x y 5) (hx : evS t x = .int .u8 (c : Int)) (hy : evS t y = .int .u8 15) (hc : c < 256) :
    (execOp (evS t) o).run Try.prog w = .ok (.value (.int .u8 ((c % 16 : Nat) : Int))) w := by
  have h := and15 c hc
  unfold execOp
  rw [ho]
  simp only [hx, hy]
  go_simp
theorem run_build2b (x y : Int) (w : World) : (Instr.buildSlice 32 2 #[(0, .int .u8 x), (1, .int .u8 y)]).run Try.prog w = .ok (.slice (some ⟨w.heap.size, 0, none⟩) 2 2) (w.alloc (.cells #[.int .u8 x, .int .u8 y] 5)) := by kernel_rfl
theorem madeCells_b (n : Nat) : madeCells (Value.int .u8 0).cells n = bC n [] := by
  apply Array.ext
  · simp [madeCells, bC]
  · intro i h1 h2
    simp [madeCells, bC, Value.cells, Nat.mod_one]
/-- 'make([]byte, l, c)'. -/
theorem run_makeLC (l c : Nat) (w : World) (hl : l ≤ c) (hc : c ≤ 16000000) :
    (Instr.makeSlice 32 (.int .i64 (l : Int)) (.int .i64 (c : Int))).run Try.prog w = .ok (.slice (some ⟨w.heap.size, 0, none⟩) l c) (w.alloc (.cells (bC c []) 5)) := by
  obtain ⟨i, hi, hz, hs, hb⟩ : ∃ i, Try.prog.info? 5 = some i ∧ i.zero = some (.int .u8 0) ∧ i.size = 1 ∧ i.bytes = 1 := ⟨_, rfl, rfl, rfl, rfl⟩
  have h := run_makeSlice (P := Try.prog) w 32 5 i _ Try.underlying32 hi hz .i64 .i64 (l : Int) (c : Int) (by omega) (by omega) (by rw [hs]; omega) (by rw [hb]; omega) (by omega)
  rw [hs, Int.toNat_natCast, Int.toNat_natCast, Nat.mul_one, madeCells_b] at h
  exact h
/-- 'append(s, x...)' of bytes that lie in a row, onto a slice of the call's own. -/
theorem wpList_appendR {w : World} {ops : Array Oper} {rest : List Oper} {o : Oper} {a : Act} {Q : Exit → Act → World → Prop} (hgd : o.guard = none) (s x : Operand)
    (ho : o.op = .call { callee := .builtin .append, args := #[s, x], argTypes := #[32, 32] }) (W : World)
    (v : Value) (n : Nat) (l : List UInt8) (hs : a.eval s = v) (hown : Hid (w.ownsRow W.heap.size 5 1 v n (bvL l))) (g m : Nat) (news : List UInt8) (hx : a.eval x = .slice (some ⟨g, 0, none⟩) m m) (hm : news.length = m)
    (C : Array Value) (T : TypeId) (hr : Hid (Rowz w g C T)) (hC : C = (bvL news).toArray) (hb : n + m ≤ 1000000000) (hk : Hid (Kept W w))
    (h : ∀ v' w', Hid (w'.ownsRow W.heap.size 5 1 v' (n + m) (bvL (l ++ news))) → Hid (Kept W w') → Hid (w.grownBy w' v.ownBlock) → wpList Try.prog ops Q rest (a.put o.dst v') w') : wpList Try.prog ops Q (o :: rest) a w := by
  obtain ⟨i, hi, hz0, hz1, hz2⟩ := info_parts infoU8n
  refine wpList_append_own w hgd s x 32 ho W.heap.size 5 i (.int .u8 0) 1 1 Try.underlying32 hi hz0 hz1 hz2 rfl (by decide) v n (bvL l) hs hown.out ⟨g, 0, none⟩ m m (bvL news) hx (by simp [bvL, hm]) ?_ ?_ (by unfold maxLen; omega) (by omega) hk.out.size ?_
  · intro j y hj
    rw [show (⟨g, 0, none⟩ : Addr).add j = ⟨g, j, none⟩ by simp [Addr.add]; omega, hr.out.cell, hC]
    simpa using hj
  · intro y hy
    simp only [bvL, List.mem_map] at hy
    obtain ⟨u, _, rfl⟩ := hy
    rfl
  · intro v' w' ho' hg _
    refine h v' w' (Lib.hid ?_) (Lib.hid (hk.out.grownBy hg fun k hk' => (hown.out.lt k hk').1)) (Lib.hid hg)
    have e : bvL (l ++ news) = bvL l ++ bvL news := by simp [bvL]
    rw [e]
    exact ho'
/-! ### An iterator over a string, beside a slice of the call's own -/
theorem own_iter {w : World} {B e size n : Nat} {v : Value} {xs : List Value} {k : Nat} {s : ByteArray} {pos : Nat} (h : w.ownsRow B e size v n xs) (hk : w.heap[k]? = some (.stringIter s pos)) (pos' : Nat) : (w.iterAt k s pos').ownsRow B e size v n xs := by
  refine ⟨h.1, ?_⟩
  rcases h.2 with h | ⟨g, cap, cur, hv, hb, hg, rest⟩
  · exact .inl h
  · refine .inr ⟨g, cap, cur, hv, hb, ?_, rest⟩
    rw [Lib.iterAt_other _ _ _ _ _ (fun e => by subst e; rw [hk] at hg; cases hg)]
    exact hg
theorem own_not_iter {w : World} {B e size n : Nat} {v : Value} {xs : List Value} {k : Nat} {s : ByteArray} {pos : Nat} (h : w.ownsRow B e size v n xs) (hk : w.heap[k]? = some (.stringIter s pos)) : some k ≠ v.ownBlock := by
  intro e
  rcases h.2 with ⟨rfl, _⟩ | ⟨g, cap, cur, rfl, _, hg, _⟩
  · cases e
  · have : k = g := Option.some.inj e
    subst this
    rw [hk] at hg
    cases hg
theorem Kept.iterAt {a b : World} (h : Kept a b) {k : Nat} (hk : a.heap.size ≤ k) (s : ByteArray) (pos : Nat) : Kept a (b.iterAt k s pos) :=
  Kept.of h.1 h.2.1 fun i hi => (Lib.iterAt_other b k i s pos (by omega)).trans (h.block i hi)
theorem iterPos_of {w : World} {k : Nat} {s : ByteArray} {pos : Nat} (h : w.heap[k]? = some (.stringIter s pos)) : w.iterPos k = pos := by
  unfold World.iterPos
  rw [h]
theorem lt_iter {w : World} {k : Nat} {s : ByteArray} {pos : Nat} (h : w.heap[k]? = some (.stringIter s pos)) : k < w.heap.size := (Array.getElem?_eq_some_iff.1 h).1
end Go.Proofs.Ythigdhdapbjakaa
