/-
  Slices of strings of the call's own: appends, cuts, what they hold. No condition.
-/
import Derived.Test.YtlfkkfacbcpogaaDoorStrLib
namespace Go.Proofs.YtlfkkfacbcpogaaDoor
set_option maxRecDepth 4000
open Go.RowKit

/-! ### Slices of strings of the call's own -/
def TxS (base : Nat) (L : List ByteArray) (v : Value) (w : World) : Prop := w.ownsRow base 9 1 v L.length (L.map Value.string)
theorem TxS.kept (base : Nat) (L : List ByteArray) (v : Value) (w w' : World) (K : Kept w w') (h : TxS base L v w) : TxS base L v w' := ownsRow_kept h K
theorem TxS.base {b b' : Nat} {L : List ByteArray} {v : Value} {w : World} (h : TxS b L v w) (hb : b' ≤ b) : TxS b' L v w := by
  refine ⟨h.1, ?_⟩
  rcases h.2 with h | ⟨g, cap, cur, hv, h0, rest⟩
  · exact .inl h
  · exact .inr ⟨g, cap, cur, hv, by omega, rest⟩
theorem TxS.nil (base : Nat) (w : World) : TxS base [] (.slice none 0 0) w := World.ownsRow_nil _ _ _ _
theorem TxS.one {base g : Nat} {s : ByteArray} {w : World} (h : Rowz w g #[.string s] 9) (hb : base ≤ g) : TxS base [s] (.slice (some ⟨g, 0, none⟩) 1 1) w :=
  ⟨rfl, .inr ⟨g, 1, _, rfl, hb, h, Nat.le_refl _, by unfold maxLen; omega, rfl, rfl⟩⟩
theorem TxS.some {base : Nat} {L : List ByteArray} {v : Value} {w : World} (h : TxS base L v w) (hL : 0 < L.length) :
    ∃ g cap cur, v = .slice (.some ⟨g, 0, none⟩) L.length cap ∧ base ≤ g ∧ L.length ≤ cap ∧ cap ≤ maxLen ∧ Rowz w g cur 9 ∧ ∀ i, i < L.length → cur[i]? = (L.map Value.string)[i]? := by
  rcases h.2 with ⟨_, h0⟩ | ⟨g, cap, cur, hv, hb, hg, h1, h2, h3, h4⟩
  · omega
  · refine ⟨g, cap, cur, hv, hb, h1, h2, hg, fun i hi => ?_⟩
    rw [← h4, List.getElem?_take, if_pos (by omega), Array.getElem?_toList]
theorem infoStr12 : (Tryd.prog.info? 9).map (fun i => (i.zero, i.size, i.bytes)) = Option.some (Option.some (.string ⟨#[]⟩), 1, 16) := by kernel_rfl
/-- 'append([]string{s}, l...)': new memory. -/
theorem execAppendFull {o : Oper} {t : Array Value} {x y : Operand} {v : Value} {w : World} {T : TypeId} (base g : Nat) (s : ByteArray) (L : List ByteArray)
    (ho : o.op = .call { callee := .builtin .append, args := #[x, y], argTypes := #[24, 24] }) (hx : evS t x = .slice (.some ⟨g, 0, none⟩) 1 1) (hy : evS t y = v)
    (hr : Rowz w g #[.string s] T) (hv : TxS base L v w) (hL : 0 < L.length) (hn : L.length ≤ 1000000) (hb : base ≤ w.heap.size) :
    ∃ v' w', (execOp (evS t) o).run Tryd.prog w = .ok (.value v') w' ∧ Kept w w' ∧ TxS base (s :: L) v' w' := by
  obtain ⟨i, hi, hz0, hz1, hz2⟩ := info_parts infoStr12
  obtain ⟨g2, cap, cur, rfl, _, hcap, _, hr2, hc2⟩ := hv.some hL
  have hrun := run_append_grow (P := Tryd.prog) w 24 o.type 9 i _ Tryd.underlying24 hi hz0 ⟨g, 0, none⟩ 1 1 [.string s] (by rw [hz1]; rfl) (fun j u hj => by
      rw [Addr.add_mid, hr.cell]
      simpa using hj) ⟨g2, 0, none⟩ L.length cap (L.map Value.string) (by rw [hz1]; simp) (fun j u hj => by
      have hj2 : j < L.length := by
        have := (List.getElem?_eq_some_iff.1 hj).1
        simpa using this
      rw [Addr.add_mid, hr2.cell, Nat.zero_add, hc2 j hj2, hj]) (by omega) (by omega) (growslice_fits (by omega) (by rw [hz2]; omega))
  refine ⟨.slice (.some ⟨w.heap.size, 0, none⟩) (1 + L.length) (grownCap w (1 + L.length) 1 9), w.drew.alloc (.cells ([Value.string s].toArray ++ (L.map Value.string).toArray ++ Builtin.zeroCells (Value.string ⟨#[]⟩).cells (grownCap w (1 + L.length) 1 9 - (1 + L.length))) 9), ?_, ?_, ?_⟩
  · unfold execOp
    simp only [ho, resolve, invoke, builtin, Sem.run_bind, Sem.run_pure, Result.andThen_ok, List.map_toArray, List.map_cons, List.map_nil, hx, hy, hrun]
  · exact (Kept.refl w).drew.alloc _
  · have hge := grownCap_ge w (1 + L.length) 1 9
    have hcm : grownCap w (1 + L.length) 1 9 ≤ maxLen := grownCap_le_maxLen w (1 + L.length) 1 9 (by unfold maxLen; omega)
    refine ⟨by simp, .inr ⟨w.heap.size, _, _, by simp [Nat.add_comm], hb, heap_alloc_new w.drew _, by simp; omega, hcm, ?_, ?_⟩⟩
    · simp only [Array.size_append, List.size_toArray, size_zeroCells, List.length_map, List.length_cons, List.length_nil, Value.cells]
      simp
      omega
    · simp
/-- 'append(s, l...)' on a slice of the call's own. -/
theorem wpList_append_strs {w : World} {ops : Array Oper} {rest : List Oper} {o : Oper} {a : Act} {Q : Exit → Act → World → Prop} (hgd : o.guard = none) (s x : Operand)
    (ho : o.op = .call { callee := .builtin .append, args := #[s, x], argTypes := #[24, 24] }) (W : World) (b : Nat)
    (v u : Value) (L M : List ByteArray) (hs : a.eval s = v) (hx : a.eval x = u) (hown : Hid (TxS W.heap.size L v w)) (hu : Hid (TxS b M u w)) (hM : 0 < M.length) (hn : L.length + M.length ≤ 1000000) (hk : Hid (Kept W w))
    (h : ∀ v' w', Hid (TxS W.heap.size (L ++ M) v' w') → Hid (Kept W w') → wpList Tryd.prog ops Q rest (a.put o.dst v') w') : wpList Tryd.prog ops Q (o :: rest) a w := by
  obtain ⟨i, hi, hz0, hz1, hz2⟩ := info_parts infoStr12
  obtain ⟨g, cap, cur, rfl, hb, h1, h2, hr, hc⟩ := hu.out.some hM
  refine wpList_append_own w hgd s x 24 ho W.heap.size 9 i _ 1 16 Tryd.underlying24 hi hz0 hz1 hz2 rfl (by decide) v L.length (L.map Value.string) hs hown.out ⟨g, 0, none⟩ M.length cap (M.map Value.string) hx (by simp) ?_ ?_ (by unfold maxLen; omega) (by omega) hk.out.size ?_
  · intro j y hj
    have hj2 : j < M.length := by
      have := (List.getElem?_eq_some_iff.1 hj).1
      simpa using this
    rw [Addr.add_mid, hr.cell, Nat.zero_add, hc j hj2, hj]
  · intro y hy
    simp only [List.mem_map] at hy
    obtain ⟨u, _, rfl⟩ := hy
    rfl
  · intro v' w' ho' hg _
    refine h v' w' (Lib.hid ?_) (Lib.hid (hk.out.grownBy hg fun k hk' => (hown.out.lt k hk').1))
    unfold TxS
    rw [List.length_append, List.map_append]
    exact ho'
theorem run_cutS_left (q : Addr) (n c m : Nat) (w : World) (hm : m ≤ c) :
    (Instr.sliceAt 24 (.slice (.some q) n c) none (.some (.int .i64 (m : Int))) none).run Tryd.prog w = .ok (.slice (.some q) m c) w := by
  have e : Tryd.prog.elem 24 = 9 := by kernel_rfl
  have hs := sizeStr12 w
  rw [run_sliceAt_slice w 24 _ _ _ _ Tryd.underlying24, run_slice_h w 24 (.some q) n c Tryd.underlying24 .i64 (m : Int) (by omega) (by omega), e, hs]
  simp [sliced, Result.andThen, Addr.add]
theorem run_cutS_right (q : Addr) (n c m : Nat) (w : World) (hm : m ≤ n) (hc : m < c) :
    (Instr.sliceAt 24 (.slice (.some q) n c) (.some (.int .i64 (m : Int))) none none).run Tryd.prog w = .ok (.slice (.some (q.add m)) (n - m) (c - m)) w := by
  have e : Tryd.prog.elem 24 = 9 := by kernel_rfl
  have hs := sizeStr12 w
  have hne : ¬ c = m := by omega
  rw [run_sliceAt_slice w 24 _ _ _ _ Tryd.underlying24, run_slice_l w 24 (.some q) n c Tryd.underlying24 .i64 (m : Int) (by omega) (by omega), e, hs]
  simp [sliced, Result.andThen, hne]

theorem TxS.mono {f : FuncId} {args : Array Value} {w : World} {L : List ByteArray} (b : Nat) (hb : b ≤ w.heap.size) (h : Calls Tryd.prog f args w fun e w' => ∃ v, e = .returned v ∧ TxS w.heap.size L v w' ∧ Kept w w') :
    Calls Tryd.prog f args w fun e w' => ∃ v, e = .returned v ∧ TxS b L v w' ∧ Kept w w' :=
  h.mono fun _ _ ⟨v, he, ht, hk⟩ => ⟨v, he, ht.base hb, hk⟩
theorem TxS.sat {base : Nat} {L : List ByteArray} {v : Value} {w : World} (h : TxS base L v w) (hL : 0 < L.length) :
    ∃ q cap, v = .slice (.some q) L.length cap ∧ L.length ≤ cap ∧ cap ≤ maxLen ∧ SAt w (.some q) L.length (fun i => L.getD i noB) := by
  obtain ⟨g, cap, cur, rfl, _, h1, h2, hr, hc⟩ := h.some hL
  refine ⟨⟨g, 0, none⟩, cap, rfl, h1, h2, fun i hi => ⟨_, rfl, hr.lt, ?_⟩⟩
  rw [Addr.add_mid, hr.cell, Nat.zero_add, hc i hi]
  simp [List.getD_eq_getElem?_getD, hi]
theorem execNeSYes {o : Oper} {t : Array Value} {x y : Operand} (a b : ByteArray) (hne : ¬ a = b) (w : World) (ho : o.op = .binOp .neq 9 x y 9) (hx : evS t x = .string a) (hy : evS t y = .string b) :
    (execOp (evS t) o).run Tryd.prog w = .ok (.value (.bool true)) w := by
  have := execNeS a b w ho hx hy
  rwa [decide_eq_false hne] at this
theorem execLenSt {o : Oper} {t : Array Value} {s : ByteArray} {x : Operand} (w : World) (ho : o.op = .call { callee := .builtin .len, args := #[x], argTypes := #[9] }) (hty : o.type = 3) (hx : evS t x = .string s) :
    (execOp (evS t) o).run Tryd.prog w = .ok (.value (.int .i64 (s.size : Int))) w := by
  unfold execOp
  rw [ho]
  simp only [hty]
  go_simp
end Go.Proofs.YtlfkkfacbcpogaaDoor
