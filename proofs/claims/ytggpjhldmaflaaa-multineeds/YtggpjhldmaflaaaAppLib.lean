/-
  'out = append(out, x)' on a slice of the call's own, elements of one cell: 'w.ownsRow' under Kept.
-/
import Derived.Test.YtggpjhldmaflaaaTailLib
import Derived.WalkKit
namespace Go.Proofs.Ytggpjhldmaflaaa
set_option maxRecDepth 4000
open Go.RowKit

theorem Kept.of {W w' : World} (ho : w'.os = W.os) (hp : w'.output = W.output) (hb : ∀ i, i < W.heap.size → w'.heap[i]? = W.heap[i]?) : Kept W w' := by
  refine ⟨ho, hp, fun i hi => ?_⟩
  rw [hb i hi]
  split <;> simp_all
theorem Kept.grownBy {W w w' : World} {row : Option Nat} (h : Kept W w) (hg : w.grownBy w' row) (hr : ∀ k, row = some k → W.heap.size ≤ k) : Kept W w' :=
  Kept.of (hg.os.trans h.1) (hg.output.trans h.2.1) (fun i hi => (hg.block i (Nat.lt_of_lt_of_le hi h.size) (fun e => by have := hr i e.symm; omega)).trans (h.block i hi))
theorem ownsRow_kept {w w' : World} {base : Nat} {e : TypeId} {size n : Nat} {v : Value} {xs : List Value} (h : w.ownsRow base e size v n xs) (hk : Kept w w') : w'.ownsRow base e size v n xs := by
  refine ⟨h.1, ?_⟩
  rcases h.2 with h | ⟨g, cap, cur, hv, hb, hg, h1, h2, h3, h4⟩
  · exact .inl h
  · refine .inr ⟨g, cap, cur, hv, hb, ?_, h1, h2, h3, h4⟩
    have hl : g < w.heap.size := by
      rcases Nat.lt_or_ge g w.heap.size with h | h
      · exact h
      · rw [Array.getElem?_eq_none h] at hg; cases hg
    rw [hk.block g hl]; exact hg
theorem wpList_append1 {P : Program} {w : World} {u : Value} {T : TypeId} {ops : Array Oper} {rest : List Oper} {o : Oper} {a : Act} {Q : Exit → Act → World → Prop} (hgd : o.guard = none) (s x : Operand) (t : TypeId)
    (ho : o.op = .call { callee := .builtin .append, args := #[s, x], argTypes := #[t, t] }) (W : World) (e : TypeId) (z : Value) (bytes : Nat) (ht : P.underlying t = some (.slice e))
    (hinfo : (P.info? e).map (fun i => (i.zero, i.size, i.bytes)) = some (some z, 1, bytes)) (hz : z.cells.size = 1)
    (v : Value) (n : Nat) (l : List Value) (hs : a.eval s = v) (hown : Hid (w.ownsRow W.heap.size e 1 v n l)) (h1 : u.oneCell' = true) (hx : a.eval x = .slice (some ⟨w.heap.size, 0, none⟩) 1 1)
    (h63 : n + 1 ≤ maxLen) (hbytes : (n + 1) * bytes ≤ 140737488355328) (hk : Hid (Kept W w))
    (h : ∀ v' w', Hid (w'.ownsRow W.heap.size e 1 v' (n + 1) (l ++ [u])) → Hid (Kept W w') → wpList P ops Q rest (a.put o.dst v') w') : wpList P ops Q (o :: rest) a (w.alloc (.cells #[u] T)) := by
  obtain ⟨i, hi, hz0, hz1, hz2⟩ := info_parts hinfo
  refine wpList_append_own (w.alloc (.cells #[u] T)) hgd s x t ho W.heap.size e i z 1 bytes ht hi hz0 hz1 hz2 hz (by decide) v n l hs (hown.out.alloc _) ⟨w.heap.size, 0, none⟩ 1 1 [u] hx rfl ?_ ?_ h63 hbytes (Nat.le_trans hk.out.size (by simp)) ?_
  · intro j y hj
    match j, hj with
    | 0, hj => simp at hj; subst hj; simp [Addr.add]
  · intro y hy; simp at hy; subst hy; exact h1
  · intro v' w' ho' hg _
    refine h v' w' (Lib.hid ho') (Lib.hid ((hk.out.alloc _).grownBy hg ?_))
    intro k hk'
    exact (hown.out.lt k hk').1
/-- What such a slice is good for at last: a row whose first cells are the list's. -/
theorem owns_row {w : World} {base : Nat} {e : TypeId} {v : Value} {n : Nat} {l : List Value} (h : w.ownsRow base e 1 v n l) (hn : 0 < n) :
    ∃ g cap cur, v = .slice (some ⟨g, 0, none⟩) n cap ∧ base ≤ g ∧ n ≤ cap ∧ Rowz w g cur e ∧ ∀ i, i < n → cur[i]? = l[i]? := by
  rcases h.2 with ⟨_, h0⟩ | ⟨g, cap, cur, hv, hb, hg, h1, h2, h3, h4⟩
  · omega
  · refine ⟨g, cap, cur, hv, hb, h1, hg, fun i hi => ?_⟩
    rw [← h4, List.getElem?_take, if_pos (by omega), Array.getElem?_toList]
end Go.Proofs.Ytggpjhldmaflaaa
