/-
  Contracts of milepostlaw12.texts and Clashes. Conditions: at most a thousand leaves of at most a million bytes.
-/
import Derived.Test.YtbjomgbekkgdlaaDoorTreeLaw
namespace Go.Proofs.YtbjomgbekkgdlaaDoor
set_option maxRecDepth 4000
open Go.RowKit

/-! ### Slices of strings of the call's own -/
def TxS (base : Nat) (L : List ByteArray) (v : Value) (w : World) : Prop := w.ownsRow base 9 1 v L.length (L.map Value.string)
theorem TxS.kept (base : Nat) (L : List ByteArray) (v : Value) (w w' : World) (K : Kept w w') (h : TxS base L v w) : TxS base L v w' := ownsRow_kept h K
theorem TxS.base {b b' : Nat} {L : List ByteArray} {v : Value} {w : World} (h : TxS b L v w) (hb : b' ≤ b) : TxS b' L v w := by
  refine ⟨h.1, ?_⟩
  rcases h.2 with h | ⟨g, cap, cur, hv, h0, rest⟩
  · exact .inl h
  · exact .inr ⟨g, cap, cur, hv, by omega, rest⟩
theorem TxS.nil (base : Nat) (w : World) : TxS base [] (.slice none 0 0) w := World.ownsRow_nil _ _ _ _
theorem TxS.one {base g : Nat} {s : ByteArray} {w : World} (h : Rowz w g #[.string s] 9) (hb : base ≤ g) : TxS base [s] (.slice (some ⟨g, 0, none⟩) 1 1) w :=
  ⟨rfl, .inr ⟨g, 1, _, rfl, hb, h, Nat.le_refl _, by unfold maxLen; omega, rfl, rfl⟩⟩
theorem TxS.some {base : Nat} {L : List ByteArray} {v : Value} {w : World} (h : TxS base L v w) (hL : 0 < L.length) :
    ∃ g cap cur, v = .slice (.some ⟨g, 0, none⟩) L.length cap ∧ base ≤ g ∧ L.length ≤ cap ∧ cap ≤ maxLen ∧ Rowz w g cur 9 ∧ ∀ i, i < L.length → cur[i]? = (L.map Value.string)[i]? := by
  rcases h.2 with ⟨_, h0⟩ | ⟨g, cap, cur, hv, hb, hg, h1, h2, h3, h4⟩
  · omega
  · refine ⟨g, cap, cur, hv, hb, h1, h2, hg, fun i hi => ?_⟩
    rw [← h4, List.getElem?_take, if_pos (by omega), Array.getElem?_toList]
theorem infoStr12 : (Tryd.prog.info? 9).map (fun i => (i.zero, i.size, i.bytes)) = Option.some (Option.some (.string ⟨#[]⟩), 1, 16) := by kernel_rfl
/-- 'append([]string{s}, l...)': new memory. -/
theorem execAppendFull {o : Oper} {t : Array Value} {x y : Operand} {v : Value} {w : World} {T : TypeId} (base g : Nat) (s : ByteArray) (L : List ByteArray)
    (ho : o.op = .call { callee := .builtin .append, args := #[x, y], argTypes := #[22, 22] }) (hx : evS t x = .slice (.some ⟨g, 0, none⟩) 1 1) (hy : evS t y = v)
    (hr : Rowz w g #[.string s] T) (hv : TxS base L v w) (hL : 0 < L.length) (hn : L.length ≤ 1000000) (hb : base ≤ w.heap.size) :
    ∃ v' w', (execOp (evS t) o).run Tryd.prog w = .ok (.value v') w' ∧ Kept w w' ∧ TxS base (s :: L) v' w' := by
  obtain ⟨i, hi, hz0, hz1, hz2⟩ := info_parts infoStr12
  obtain ⟨g2, cap, cur, rfl, _, hcap, _, hr2, hc2⟩ := hv.some hL
  have hrun := run_append_grow (P := Tryd.prog) w 22 o.type 9 i _ Tryd.underlying22 hi hz0 ⟨g, 0, none⟩ 1 1 [.string s] (by rw [hz1]; rfl) (fun j u hj => by
      rw [Addr.add_mid, hr.cell]
      simpa using hj) ⟨g2, 0, none⟩ L.length cap (L.map Value.string) (by rw [hz1]; simp) (fun j u hj => by
      have hj2 : j < L.length := by
        have := (List.getElem?_eq_some_iff.1 hj).1
        simpa using this
      rw [Addr.add_mid, hr2.cell, Nat.zero_add, hc2 j hj2, hj]) (by omega) (by omega) (growslice_fits (by omega) (by rw [hz2]; omega))
  refine ⟨.slice (.some ⟨w.heap.size, 0, none⟩) (1 + L.length) (grownCap w (1 + L.length) 1 9), w.drew.alloc (.cells ([Value.string s].toArray ++ (L.map Value.string).toArray ++ Builtin.zeroCells (Value.string ⟨#[]⟩).cells (grownCap w (1 + L.length) 1 9 - (1 + L.length))) 9), ?_, ?_, ?_⟩
  · unfold execOp
    simp only [ho, resolve, invoke, builtin, Sem.run_bind, Sem.run_pure, Result.andThen_ok, List.map_toArray, List.map_cons, List.map_nil, hx, hy, hrun]
  · exact (Kept.refl w).drew.alloc _
  · have hge := grownCap_ge w (1 + L.length) 1 9
    have hcm : grownCap w (1 + L.length) 1 9 ≤ maxLen := grownCap_le_maxLen w (1 + L.length) 1 9 (by unfold maxLen; omega)
    refine ⟨by simp, .inr ⟨w.heap.size, _, _, by simp [Nat.add_comm], hb, heap_alloc_new w.drew _, by simp; omega, hcm, ?_, ?_⟩⟩
    · simp only [Array.size_append, List.size_toArray, size_zeroCells, List.length_map, List.length_cons, List.length_nil, Value.cells]
      simp
      omega
    · simp
/-- 'append(s, l...)' on a slice of the call's own. -/
theorem wpList_append_strs {w : World} {ops : Array Oper} {rest : List Oper} {o : Oper} {a : Act} {Q : Exit → Act → World → Prop} (hgd : o.guard = none) (s x : Operand)
    (ho : o.op = .call { callee := .builtin .append, args := #[s, x], argTypes := #[22, 22] }) (W : World) (b : Nat)
    (v u : Value) (L M : List ByteArray) (hs : a.eval s = v) (hx : a.eval x = u) (hown : Hid (TxS W.heap.size L v w)) (hu : Hid (TxS b M u w)) (hM : 0 < M.length) (hn : L.length + M.length ≤ 1000000) (hk : Hid (Kept W w))
    (h : ∀ v' w', Hid (TxS W.heap.size (L ++ M) v' w') → Hid (Kept W w') → wpList Tryd.prog ops Q rest (a.put o.dst v') w') : wpList Tryd.prog ops Q (o :: rest) a w := by
  obtain ⟨i, hi, hz0, hz1, hz2⟩ := info_parts infoStr12
  obtain ⟨g, cap, cur, rfl, hb, h1, h2, hr, hc⟩ := hu.out.some hM
  refine wpList_append_own w hgd s x 22 ho W.heap.size 9 i _ 1 16 Tryd.underlying22 hi hz0 hz1 hz2 rfl (by decide) v L.length (L.map Value.string) hs hown.out ⟨g, 0, none⟩ M.length cap (M.map Value.string) hx (by simp) ?_ ?_ (by unfold maxLen; omega) (by omega) hk.out.size ?_
  · intro j y hj
    have hj2 : j < M.length := by
      have := (List.getElem?_eq_some_iff.1 hj).1
      simpa using this
    rw [Addr.add_mid, hr.cell, Nat.zero_add, hc j hj2, hj]
  · intro y hy
    simp only [List.mem_map] at hy
    obtain ⟨u, _, rfl⟩ := hy
    rfl
  · intro v' w' ho' hg _
    refine h v' w' (Lib.hid ?_) (Lib.hid (hk.out.grownBy hg fun k hk' => (hown.out.lt k hk').1))
    unfold TxS
    rw [List.length_append, List.map_append]
    exact ho'
theorem run_build1s (x : ByteArray) (w : World) : (Instr.buildSlice 22 1 #[(0, .string x)]).run Tryd.prog w = .ok (.slice (.some ⟨w.heap.size, 0, none⟩) 1 1) (w.alloc (.cells #[.string x] 9)) := by kernel_rfl
theorem sizeStr12 (w : World) : (Go.sizeOf 9).run Tryd.prog w = .ok 1 w := by kernel_rfl
theorem run_cutS_left (q : Addr) (n c m : Nat) (w : World) (hm : m ≤ c) :
    (Instr.sliceAt 22 (.slice (.some q) n c) none (.some (.int .i64 (m : Int))) none).run Tryd.prog w = .ok (.slice (.some q) m c) w := by
  have e : Tryd.prog.elem 22 = 9 := by kernel_rfl
  have hs := sizeStr12 w
  rw [run_sliceAt_slice w 22 _ _ _ _ Tryd.underlying22, run_slice_h w 22 (.some q) n c Tryd.underlying22 .i64 (m : Int) (by omega) (by omega), e, hs]
  simp [sliced, Result.andThen, Addr.add]
theorem run_cutS_right (q : Addr) (n c m : Nat) (w : World) (hm : m ≤ n) (hc : m < c) :
    (Instr.sliceAt 22 (.slice (.some q) n c) (.some (.int .i64 (m : Int))) none none).run Tryd.prog w = .ok (.slice (.some (q.add m)) (n - m) (c - m)) w := by
  have e : Tryd.prog.elem 22 = 9 := by kernel_rfl
  have hs := sizeStr12 w
  have hne : ¬ c = m := by omega
  rw [run_sliceAt_slice w 22 _ _ _ _ Tryd.underlying22, run_slice_l w 22 (.some q) n c Tryd.underlying22 .i64 (m : Int) (by omega) (by omega), e, hs]
  simp [sliced, Result.andThen, hne]

/-! ### The texts of a tree -/
def TextsOk (f : FuncId) (n : Nat) : Prop := ∀ (p : Option Addr) (c : Nat) (S : Nat → ByteArray) (w : World), n ≤ c → c ≤ maxLen → SAt w p n S → (∀ i, i < n → (S i).size ≤ 1000000) → n ≤ 1000 →
    Calls Tryd.prog f #[.slice p n c] w fun e w' => ∃ v, e = .returned v ∧ TxS w.heap.size (txtsN S n) v w' ∧ Kept w w'
theorem TxS.mono {f : FuncId} {args : Array Value} {w : World} {L : List ByteArray} (b : Nat) (hb : b ≤ w.heap.size) (h : Calls Tryd.prog f args w fun e w' => ∃ v, e = .returned v ∧ TxS w.heap.size L v w' ∧ Kept w w') :
    Calls Tryd.prog f args w fun e w' => ∃ v, e = .returned v ∧ TxS b L v w' ∧ Kept w w' :=
  h.mono fun _ _ ⟨v, he, ht, hk⟩ => ⟨v, he, ht.base hb, hk⟩
set_option maxRecDepth 100000 in
set_option maxHeartbeats 2000000 in
theorem texts_any (n : Nat) : TextsOk 26 n := by
  induction n using Nat.strongRecOn with
  | _ n ih =>
    intro p c S w hc hm hS hz hn
    by_cases h0 : n = 0
    · subst h0
      rw [txtsN_zero]
      clear ih hS hz
      go_enter Tryd.func26, Tryd.ntmps26
      go_wp2
      go_ret
      exact ⟨_, rfl, TxS.nil _ _, Kept.refl w⟩
    · by_cases h1 : n = 1
      · subst h1
        rw [txtsN_one]
        obtain ⟨q, rfl, _⟩ := hS.some (by omega)
        have hcell := hS.cell 0 (by omega)
        have HL : Hid (∀ w, _) := Lib.hid fun w => refLeaf_any (S 0) w (by have := hz 0 (by omega); omega)
        clear ih hz hS
        generalize leafS (S 0) = r at HL ⊢
        rw [Addr.add_zero'] at hcell
        go_enter Tryd.func26, Tryd.ntmps26
        go_wp2_with fail
        refine (HL.out w).mono ?_
        rintro e w1 ⟨rfl, k1⟩
        have K1 := Lib.hid (Grown.kept k1)
        clear k1 HL hcell
        go_wp2_with fail
        go_ret
        exact ⟨_, rfl, TxS.one (Rowz.new _ _ _) K1.out.size, K1.out.alloc _⟩
      · have h2 : 2 ≤ n := by omega
        obtain ⟨q, rfl, _⟩ := hS.some (by omega)
        have hL := leftN_lt h2
        have hP := leftN_pos h2
        have HLf : Hid (∀ w, Calls Tryd.prog 24 #[.int .i64 (n : Int)] w fun e w' => e = .returned (.int .i64 (leftN n : Int)) ∧ w = w') := Lib.hid fun w => refLeft_any (n : Int) w (by omega)
        have HA : Hid (∀ w, SAt w (some q) n S → _) := Lib.hid fun w hS => refLeaves_at (some q) (leftN n) c S w (hS.left _ (by omega)) (fun i hi => hz i (by omega)) (by omega)
        have HB : Hid (∀ w, SAt w (some q) n S → _) := Lib.hid fun w hS => refLeaves_at (some (q.add (leftN n))) (n - leftN n) (c - leftN n) (fun i => S (leftN n + i)) w (hS.right _ (by omega)) (fun i hi => hz _ (by omega)) (by omega)
        have HTA : Hid (∀ v w, HSl (leftN n) (lf S) v w → _) := Lib.hid fun v w hv => (refTop_any (leftN n)).at hv
        have HTB : Hid (∀ v w, HSl (n - leftN n) (lf fun i => S (leftN n + i)) v w → _) := Lib.hid fun v w hv => (refTop_any (n - leftN n)).at hv
        have HXA : Hid (∀ w1 : World, w.heap.size ≤ w1.heap.size → SAt w1 (some q) n S → _) := Lib.hid fun w1 hb hS => TxS.mono w.heap.size hb (ih (leftN n) hL (some q) c S w1 (by omega) hm (hS.left _ (by omega)) (fun i hi => hz i (by omega)) (by omega))
        have HXB : Hid (∀ w1 : World, w.heap.size ≤ w1.heap.size → SAt w1 (some q) n S → _) := Lib.hid fun w1 hb hS => TxS.mono w.heap.size hb (ih (n - leftN n) (by omega) (some (q.add (leftN n))) (c - leftN n) (fun i => S (leftN n + i)) w1 (by omega) (by omega) (hS.right _ (by omega)) (fun i hi => hz _ (by omega)) (by omega))
        have hla := top_lf_length S (leftN n)
        have hlb := top_lf_length (fun i => S (leftN n + i)) (n - leftN n)
        have HND : Hid (∀ w, _) := Lib.hid fun w => refNode_any (topN (lf S) (leftN n)) (topN (lf fun i => S (leftN n + i)) (n - leftN n)) hla hlb w
        rw [txtsN_two S h2]
        have n1 := txtsN_len (leftN n) S hP
        have n2 := txtsN_len (n - leftN n) (fun i => S (leftN n + i)) (by omega)
        clear ih hla hlb
        generalize txtsN (fun i => S (leftN n + i)) (n - leftN n) = M at HXB n2 ⊢
        generalize txtsN S (leftN n) = L at HXA n1 ⊢
        generalize topN (lf fun i => S (leftN n + i)) (n - leftN n) = B at HTB HND ⊢
        generalize topN (lf S) (leftN n) = A at HTA HND ⊢
        generalize hGB : (fun i => S (leftN n + i)) = SB at HB HTB
        clear hGB
        generalize leftN n = l at hL hP HLf HA HB HTA HTB HXA HXB n1 n2
        have HS := Lib.hid hS
        clear hS hz
        have hd0 : decide ((n : Int) < 2) = false := decide_eq_false (by omega)
        have hM : 0 < M.length := by omega
        have hLl : 0 < L.length := by omega
        have hln : L.length ≤ 2000 := by omega
        have hmn : M.length ≤ 2000 := by omega
        clear n1 n2 h0 h1
        go_enter Tryd.func26, Tryd.ntmps26
        go_wp2_with (go_at_call 24; refine (HLf.out _).mono ?_; rintro e v1 ⟨rfl, rfl⟩)
        refine wp_region_made 12 [4, 5] [(20, .is (.slice (some q) n c)), (21, .is (.int .i64 (l : Int))), (22, .is (.slice (some q) l c)), (23, .such (HSl l (lf S)) (HSl.kept l (lf S))), (24, .is (.agg (bC 32 A))), (25, .is (.slice (some q) n c)), (26, .is (.int .i64 (l : Int))), (27, .is (.slice (some (q.add l)) (n - l) (c - l))), (28, .such (HSl (n - l) (lf SB)) (HSl.kept (n - l) (lf SB))), (29, .is (.agg (bC 32 B))), (4, .row ptrAt0 (bC 32 []) 29), (5, .row ptrAt0 (bC 32 []) 29)] (by kernel_rfl) (by kernel_rfl) (by kernel_rfl) ?_ ?_
        · refine ⟨fun t w1 hf hk hp => ?_, ?_⟩
          · have h0 : slot t 0 = .slice (some q) n c := hf 0 (by kernel_rfl)
            clear hf hp
            refine stepM_at (by kernel_rfl) ?_
            refine stepAt_plain rfl ?_
            exact stepOK_move _ (.inl rfl) h0
          refine ⟨fun t w1 hf hk hp => ?_, ?_⟩
          · have h3 : slot t 3 = .int .i64 (l : Int) := hf 3 (by kernel_rfl)
            clear hf hp
            refine stepM_at (by kernel_rfl) ?_
            refine stepAt_plain rfl ?_
            exact stepOK_move _ (.inl rfl) h3
          refine ⟨fun t w1 hf hk hp => ?_, ?_⟩
          · have h20 : slot t 20 = .slice (some q) n c := hp 20 (by kernel_rfl)
            have h21 : slot t 21 = .int .i64 (l : Int) := hp 21 (by kernel_rfl)
            clear hf hp
            refine stepM_at (by kernel_rfl) ?_
            refine stepAt_plain rfl ?_
            have hq0 := run_cutS_left q n c l w1 (by omega)
            exact stepOK_sem (.slice (some q) l c) (by simp only [execOp, evS, Option.map_some, Option.map_none, h20, h21]) hq0 rfl
          refine ⟨fun t w1 hf hk hp => ?_, ?_⟩
          · have h22 : slot t 22 = .slice (some q) l c := hp 22 (by kernel_rfl)
            clear hf hp
            refine stepM_at (by kernel_rfl) ?_
            refine stepAt_plain rfl ?_
            refine stepOK_call #[.slice (some q) l c] rfl (by simp only [List.map_toArray, List.map_cons, List.map_nil, evS, h22]) (by go_simp) ((HA.out w1 (HS.out.kept hk)).mono fun e w' ⟨v, he, hpv, hk'⟩ => ⟨v, he, hk', hpv⟩)
          refine ⟨fun t w1 hf hk hp => ?_, ?_⟩
          · obtain ⟨v23, h23, p23⟩ : ∃ v, slot t 23 = v ∧ (HSl l (lf S)) v w1 := ⟨_, rfl, hp 23 (by kernel_rfl)⟩
            clear hf hp
            refine stepM_at (by kernel_rfl) ?_
            refine stepAt_plain rfl ?_
            refine stepOK_call #[v23] rfl (by simp only [List.map_toArray, List.map_cons, List.map_nil, evS, h23]) (by go_simp) ((HTA.out v23 w1 p23).mono fun e w' ⟨he, hk'⟩ => ⟨_, he, hk', rfl⟩)
          refine ⟨fun t w1 hf hk hp => ?_, ?_⟩
          · have h0 : slot t 0 = .slice (some q) n c := hf 0 (by kernel_rfl)
            clear hf hp
            refine stepM_at (by kernel_rfl) ?_
            refine stepAt_plain rfl ?_
            exact stepOK_move _ (.inl rfl) h0
          refine ⟨fun t w1 hf hk hp => ?_, ?_⟩
          · have h3 : slot t 3 = .int .i64 (l : Int) := hf 3 (by kernel_rfl)
            clear hf hp
            refine stepM_at (by kernel_rfl) ?_
            refine stepAt_plain rfl ?_
            exact stepOK_move _ (.inl rfl) h3
          refine ⟨fun t w1 hf hk hp => ?_, ?_⟩
          · have h25 : slot t 25 = .slice (some q) n c := hp 25 (by kernel_rfl)
            have h26 : slot t 26 = .int .i64 (l : Int) := hp 26 (by kernel_rfl)
            clear hf hp
            refine stepM_at (by kernel_rfl) ?_
            refine stepAt_plain rfl ?_
            have hq0 := run_cutS_right q n c l w1 (by omega) (by omega)
            exact stepOK_sem (.slice (some (q.add l)) (n - l) (c - l)) (by simp only [execOp, evS, Option.map_some, Option.map_none, h25, h26]) hq0 rfl
          refine ⟨fun t w1 hf hk hp => ?_, ?_⟩
          · have h27 : slot t 27 = .slice (some (q.add l)) (n - l) (c - l) := hp 27 (by kernel_rfl)
            clear hf hp
            refine stepM_at (by kernel_rfl) ?_
            refine stepAt_plain rfl ?_
            refine stepOK_call #[.slice (some (q.add l)) (n - l) (c - l)] rfl (by simp only [List.map_toArray, List.map_cons, List.map_nil, evS, h27]) (by go_simp) ((HB.out w1 (HS.out.kept hk)).mono fun e w' ⟨v, he, hpv, hk'⟩ => ⟨v, he, hk', hpv⟩)
          refine ⟨fun t w1 hf hk hp => ?_, ?_⟩
          · obtain ⟨v28, h28, p28⟩ : ∃ v, slot t 28 = v ∧ (HSl (n - l) (lf SB)) v w1 := ⟨_, rfl, hp 28 (by kernel_rfl)⟩
            clear hf hp
            refine stepM_at (by kernel_rfl) ?_
            refine stepAt_plain rfl ?_
            refine stepOK_call #[v28] rfl (by simp only [List.map_toArray, List.map_cons, List.map_nil, evS, h28]) (by go_simp) ((HTB.out v28 w1 p28).mono fun e w' ⟨he, hk'⟩ => ⟨_, he, hk', rfl⟩)
          refine ⟨fun t w1 hf hk hp => ?_, ?_⟩
          · clear hf hp
            refine stepM_made (by kernel_rfl) ?_
            refine stepMade_new ((bC 32 [])) 29 rfl ?_ ⟨_, rfl, Rowz.new w1 _ _⟩
            simp only [execOp, ptrAt0]
            go_simp
            rfl
          refine ⟨fun t w1 hf hk hp => ?_, ?_⟩
          · clear hf hp
            refine stepM_made (by kernel_rfl) ?_
            refine stepMade_new ((bC 32 [])) 29 rfl ?_ ⟨_, rfl, Rowz.new w1 _ _⟩
            simp only [execOp, ptrAt0]
            go_simp
            rfl
          exact trivial
        · intro t w1 hsz hf hk hfacts hmd hap
          have h24 : slot t 24 = .agg (bC 32 A) := hfacts 4 _ (by decide) rfl 24 rfl
          have h29 : slot t 29 = .agg (bC 32 B) := hfacts 9 _ (by decide) rfl 29 rfl
          obtain ⟨g4, h4, r4⟩ : ∃ g, slot t 4 = ptrAt0 g ∧ Rowz w1 g (bC 32 []) 29 := hfacts 10 _ (by decide) rfl 4 rfl
          simp only [ptrAt0] at h4
          obtain ⟨g5, h5, r5⟩ : ∃ g, slot t 5 = ptrAt0 g ∧ Rowz w1 g (bC 32 []) 29 := hfacts 11 _ (by decide) rfl 5 rfl
          simp only [ptrAt0] at h5
          have h0 : slot t 0 = .slice (some q) n c := hf 0 (by kernel_rfl)
          have h3 : slot t 3 = .int .i64 (l : Int) := hf 3 (by kernel_rfl)
          have l4 := made_ge (hmd 4 (by kernel_rfl)) h4
          have l5 := made_ge (hmd 5 (by kernel_rfl)) h5
          have d4_5 := made_ne (hap 4 5 (by kernel_rfl) (by kernel_rfl) (by decide)) h4 h5
          have harr : t = #[slot t 0, slot t 1, slot t 2, slot t 3, slot t 4, slot t 5, slot t 6, slot t 7, slot t 8, slot t 9, slot t 10, slot t 11, slot t 12, slot t 13, slot t 14, slot t 15, slot t 16, slot t 17, slot t 18, slot t 19, slot t 20, slot t 21, slot t 22, slot t 23, slot t 24, slot t 25, slot t 26, slot t 27, slot t 28, slot t 29, slot t 30, slot t 31, slot t 32, slot t 33, slot t 34, slot t 35, slot t 36, slot t 37, slot t 38, slot t 39, slot t 40, slot t 41, slot t 42, slot t 43] := arr_eq t 44 hsz
          rw [harr, h24, h29, h4, h5, h0, h3]
          clear harr hfacts hf hmd hap h24 h29 h4 h5 h0 h3
          generalize slot t 1 = x1; generalize slot t 2 = x2; generalize slot t 6 = x6; generalize slot t 7 = x7; generalize slot t 8 = x8; generalize slot t 9 = x9; generalize slot t 10 = x10; generalize slot t 11 = x11; generalize slot t 12 = x12; generalize slot t 13 = x13; generalize slot t 14 = x14; generalize slot t 15 = x15
          generalize slot t 16 = x16; generalize slot t 17 = x17; generalize slot t 18 = x18; generalize slot t 19 = x19; generalize slot t 20 = x20; generalize slot t 21 = x21; generalize slot t 22 = x22; generalize slot t 23 = x23; generalize slot t 25 = x25; generalize slot t 26 = x26; generalize slot t 27 = x27; generalize slot t 28 = x28
          generalize slot t 30 = x30; generalize slot t 31 = x31; generalize slot t 32 = x32; generalize slot t 33 = x33; generalize slot t 34 = x34; generalize slot t 35 = x35; generalize slot t 36 = x36; generalize slot t 37 = x37; generalize slot t 38 = x38; generalize slot t 39 = x39; generalize slot t 40 = x40; generalize slot t 41 = x41
          generalize slot t 42 = x42; generalize slot t 43 = x43
          clear hsz t
          simp only [List.drop_succ_cons, List.drop_zero]
          have R4 := Lib.hid r4
          have R5 := Lib.hid r5
          have K1 := Lib.hid hk
          clear r4 r5 hk
          go_wp2_with (first
            | (refine wpList_store_row rfl 29 _ _ rfl g4 (bC 32 A) rfl rfl 29 (bC 32 []) R4.out (info_hash _) (by simp [bC_size]) (bC_one _ _) ?_; have Q4 := Lib.hid (R4.out.row (D := bC 32 A)); have Q5 := Lib.hid (R5.out.rowOther (D := bC 32 A) (fun e => d4_5 e.symm)); have K2 := Lib.hid (K1.out.setRow l4 (bC 32 A)); clear R4 R5 K1)
            | (refine wpList_store_row rfl 29 _ _ rfl g5 (bC 32 B) rfl rfl 29 (bC 32 []) Q5.out (info_hash _) (by simp [bC_size]) (bC_one _ _) ?_; have P4 := Lib.hid (Q4.out.rowOther (D := bC 32 B) d4_5); have P5 := Lib.hid (Q5.out.row (D := bC 32 B)); have K3 := Lib.hid (K2.out.setRow l5 (bC 32 B)); clear Q4 Q5 K2))
          generalize (w1.setRow g4 (bC 32 A)).setRow g5 (bC 32 B) = w2 at P4 P5 K3 ⊢
          refine wp_region_tail 13 [(30, .is (.agg (bC 32 A))), (31, .is (.agg (bC 32 B))), (32, .is (.string (nodeS A B))), (33, .row (sliceAt0 1) #[.string (nodeS A B)] 9), (34, .is (.slice (some q) n c)), (35, .is (.int .i64 (l : Int))), (36, .is (.slice (some q) l c)), (37, .such (TxS w.heap.size L) (TxS.kept w.heap.size L)), (38, .such (TxS w.heap.size (nodeS A B :: L)) (TxS.kept w.heap.size (nodeS A B :: L))), (39, .is (.slice (some q) n c)), (40, .is (.int .i64 (l : Int))), (41, .is (.slice (some (q.add l)) (n - l) (c - l))), (42, .such (TxS w.heap.size M) (TxS.kept w.heap.size M))] (by kernel_rfl) (by kernel_rfl) ?_ ?_
          · refine ⟨fun t w1 hf hk hp => ?_, ?_⟩
            · have h4 : slot t 4 = .pointer (some ⟨g4, 0, none⟩) := hf 4 (by kernel_rfl)
              clear hf hp
              refine stepM_at (by kernel_rfl) ?_
              refine stepAt_plain rfl ?_
              have hq0 := (P4.out.kept hk).load (P := Tryd.prog) 32 _ Tryd.underlying29 (info_hash A)
              exact stepOK_sem (.agg (bC 32 A)) (by simp only [execOp, evS, h4]) hq0 rfl
            refine ⟨fun t w1 hf hk hp => ?_, ?_⟩
            · have h5 : slot t 5 = .pointer (some ⟨g5, 0, none⟩) := hf 5 (by kernel_rfl)
              clear hf hp
              refine stepM_at (by kernel_rfl) ?_
              refine stepAt_plain rfl ?_
              have hq0 := (P5.out.kept hk).load (P := Tryd.prog) 32 _ Tryd.underlying29 (info_hash B)
              exact stepOK_sem (.agg (bC 32 B)) (by simp only [execOp, evS, h5]) hq0 rfl
            refine ⟨fun t w1 hf hk hp => ?_, ?_⟩
            · have h30 : slot t 30 = .agg (bC 32 A) := hp 30 (by kernel_rfl)
              have h31 : slot t 31 = .agg (bC 32 B) := hp 31 (by kernel_rfl)
              clear hf hp
              refine stepM_at (by kernel_rfl) ?_
              refine stepAt_plain rfl ?_
              refine stepOK_call #[.agg (bC 32 A), .agg (bC 32 B)] rfl (by simp only [List.map_toArray, List.map_cons, List.map_nil, evS, h30, h31]) (by go_simp) ((HND.out w1).mono fun e w' ⟨he, hk'⟩ => ⟨_, he, hk', rfl⟩)
            refine ⟨fun t w1 hf hk hp => ?_, ?_⟩
            · have h32 : slot t 32 = .string (nodeS A B) := hp 32 (by kernel_rfl)
              clear hf hp
              refine stepM_at (by kernel_rfl) ?_
              refine stepAt_plain rfl ?_
              have hq0 := run_build1s (nodeS A B) w1
              refine .value ((sliceAt0 1) w1.heap.size) (w1.alloc (.cells #[.string (nodeS A B)] 9)) ?_ ((Kept.refl w1).alloc _) ⟨_, rfl, Rowz.new w1 _ _⟩
              simp only [execOp, evS, List.map_toArray, List.map_cons, List.map_nil, h32, sliceAt0]
              go_simp
            refine ⟨fun t w1 hf hk hp => ?_, ?_⟩
            · have h0 : slot t 0 = .slice (some q) n c := hf 0 (by kernel_rfl)
              clear hf hp
              refine stepM_at (by kernel_rfl) ?_
              refine stepAt_plain rfl ?_
              exact stepOK_move _ (.inl rfl) h0
            refine ⟨fun t w1 hf hk hp => ?_, ?_⟩
            · have h3 : slot t 3 = .int .i64 (l : Int) := hf 3 (by kernel_rfl)
              clear hf hp
              refine stepM_at (by kernel_rfl) ?_
              refine stepAt_plain rfl ?_
              exact stepOK_move _ (.inl rfl) h3
            refine ⟨fun t w1 hf hk hp => ?_, ?_⟩
            · have h34 : slot t 34 = .slice (some q) n c := hp 34 (by kernel_rfl)
              have h35 : slot t 35 = .int .i64 (l : Int) := hp 35 (by kernel_rfl)
              clear hf hp
              refine stepM_at (by kernel_rfl) ?_
              refine stepAt_plain rfl ?_
              have hq0 := run_cutS_left q n c l w1 (by omega)
              exact stepOK_sem (.slice (some q) l c) (by simp only [execOp, evS, Option.map_some, Option.map_none, h34, h35]) hq0 rfl
            refine ⟨fun t w1 hf hk hp => ?_, ?_⟩
            · have h36 : slot t 36 = .slice (some q) l c := hp 36 (by kernel_rfl)
              clear hf hp
              refine stepM_at (by kernel_rfl) ?_
              refine stepAt_plain rfl ?_
              refine stepOK_call #[.slice (some q) l c] rfl (by simp only [List.map_toArray, List.map_cons, List.map_nil, evS, h36]) (by go_simp) ((HXA.out w1 (Nat.le_trans K3.out.size hk.size) (HS.out.kept (K3.out.trans hk))).mono fun e w' ⟨v, he, hpv, hk'⟩ => ⟨v, he, hk', hpv⟩)
            refine ⟨fun t w1 hf hk hp => ?_, ?_⟩
            · obtain ⟨g33, h33, r33⟩ : ∃ g, slot t 33 = (sliceAt0 1) g ∧ Rowz w1 g #[.string (nodeS A B)] 9 := hp 33 (by kernel_rfl)
              simp only [sliceAt0] at h33
              obtain ⟨v37, h37, p37⟩ : ∃ v, slot t 37 = v ∧ (TxS w.heap.size L) v w1 := ⟨_, rfl, hp 37 (by kernel_rfl)⟩
              clear hf hp
              refine stepM_at (by kernel_rfl) ?_
              refine stepAt_plain rfl ?_
              exact stepOK_val (execAppendFull w.heap.size g33 (nodeS A B) L rfl h33 h37 r33 p37 hLl (by omega) (Nat.le_trans K3.out.size hk.size))
            refine ⟨fun t w1 hf hk hp => ?_, ?_⟩
            · have h0 : slot t 0 = .slice (some q) n c := hf 0 (by kernel_rfl)
              clear hf hp
              refine stepM_at (by kernel_rfl) ?_
              refine stepAt_plain rfl ?_
              exact stepOK_move _ (.inl rfl) h0
            refine ⟨fun t w1 hf hk hp => ?_, ?_⟩
            · have h3 : slot t 3 = .int .i64 (l : Int) := hf 3 (by kernel_rfl)
              clear hf hp
              refine stepM_at (by kernel_rfl) ?_
              refine stepAt_plain rfl ?_
              exact stepOK_move _ (.inl rfl) h3
            refine ⟨fun t w1 hf hk hp => ?_, ?_⟩
            · have h39 : slot t 39 = .slice (some q) n c := hp 39 (by kernel_rfl)
              have h40 : slot t 40 = .int .i64 (l : Int) := hp 40 (by kernel_rfl)
              clear hf hp
              refine stepM_at (by kernel_rfl) ?_
              refine stepAt_plain rfl ?_
              have hq0 := run_cutS_right q n c l w1 (by omega) (by omega)
              exact stepOK_sem (.slice (some (q.add l)) (n - l) (c - l)) (by simp only [execOp, evS, Option.map_some, Option.map_none, h39, h40]) hq0 rfl
            refine ⟨fun t w1 hf hk hp => ?_, ?_⟩
            · have h41 : slot t 41 = .slice (some (q.add l)) (n - l) (c - l) := hp 41 (by kernel_rfl)
              clear hf hp
              refine stepM_at (by kernel_rfl) ?_
              refine stepAt_plain rfl ?_
              refine stepOK_call #[.slice (some (q.add l)) (n - l) (c - l)] rfl (by simp only [List.map_toArray, List.map_cons, List.map_nil, evS, h41]) (by go_simp) ((HXB.out w1 (Nat.le_trans K3.out.size hk.size) (HS.out.kept (K3.out.trans hk))).mono fun e w' ⟨v, he, hpv, hk'⟩ => ⟨v, he, hk', hpv⟩)
            exact trivial
          · intro t w1 hsz hf hk hfacts
            obtain ⟨v38, h38, p38⟩ : ∃ v, slot t 38 = v ∧ (TxS w.heap.size (nodeS A B :: L)) v w1 := ⟨_, rfl, hfacts 8 _ (by decide) rfl 38 rfl⟩
            obtain ⟨v42, h42, p42⟩ : ∃ v, slot t 42 = v ∧ (TxS w.heap.size M) v w1 := ⟨_, rfl, hfacts 12 _ (by decide) rfl 42 rfl⟩
            have h0 : slot t 0 = .slice (some q) n c := hf 0 (by kernel_rfl)
            have h3 : slot t 3 = .int .i64 (l : Int) := hf 3 (by kernel_rfl)
            have h4 : slot t 4 = .pointer (some ⟨g4, 0, none⟩) := hf 4 (by kernel_rfl)
            have h5 : slot t 5 = .pointer (some ⟨g5, 0, none⟩) := hf 5 (by kernel_rfl)
            have harr : t = #[slot t 0, slot t 1, slot t 2, slot t 3, slot t 4, slot t 5, slot t 6, slot t 7, slot t 8, slot t 9, slot t 10, slot t 11, slot t 12, slot t 13, slot t 14, slot t 15, slot t 16, slot t 17, slot t 18, slot t 19, slot t 20, slot t 21, slot t 22, slot t 23, slot t 24, slot t 25, slot t 26, slot t 27, slot t 28, slot t 29, slot t 30, slot t 31, slot t 32, slot t 33, slot t 34, slot t 35, slot t 36, slot t 37, slot t 38, slot t 39, slot t 40, slot t 41, slot t 42, slot t 43] := arr_eq t 44 hsz
            rw [harr, h38, h42, h0, h3, h4, h5]
            clear harr hfacts hf h38 h42 h0 h3 h4 h5
            generalize slot t 1 = x1; generalize slot t 2 = x2; generalize slot t 6 = x6; generalize slot t 7 = x7; generalize slot t 8 = x8; generalize slot t 9 = x9; generalize slot t 10 = x10; generalize slot t 11 = x11; generalize slot t 12 = x12; generalize slot t 13 = x13; generalize slot t 14 = x14; generalize slot t 15 = x15
            generalize slot t 16 = x16; generalize slot t 17 = x17; generalize slot t 18 = x18; generalize slot t 19 = x19; generalize slot t 20 = x20; generalize slot t 21 = x21; generalize slot t 22 = x22; generalize slot t 23 = x23; generalize slot t 24 = x24; generalize slot t 25 = x25; generalize slot t 26 = x26; generalize slot t 27 = x27
            generalize slot t 28 = x28; generalize slot t 29 = x29; generalize slot t 30 = x30; generalize slot t 31 = x31; generalize slot t 32 = x32; generalize slot t 33 = x33; generalize slot t 34 = x34; generalize slot t 35 = x35; generalize slot t 36 = x36; generalize slot t 37 = x37; generalize slot t 39 = x39; generalize slot t 40 = x40
            generalize slot t 41 = x41; generalize slot t 43 = x43
            clear hsz t
            simp only [List.drop_succ_cons, List.drop_zero]
            have T1 := Lib.hid p38
            have T2 := Lib.hid p42
            have K4 := Lib.hid (K3.out.trans hk)
            clear p38 p42 hk K3 P4 P5
            go_wp2_with (at_builtin; refine wpList_append_strs rfl _ _ rfl w w.heap.size v38 v42 (nodeS A B :: L) M rfl rfl T1 T2 hM (by simp; omega) K4 ?_; intro v' w' T3 K5)
            go_ret
            exact ⟨_, rfl, T3.out, K5.out⟩
end Go.Proofs.YtbjomgbekkgdlaaDoor
