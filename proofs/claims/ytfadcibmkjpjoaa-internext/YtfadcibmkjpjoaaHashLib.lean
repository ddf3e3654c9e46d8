/-
  Slices of hashes, wherever they lie and of the call's own: stored into, made, grown, cut, compared (the reference's Hashes). No condition.
-/
import Derived.Test.YtfadcibmkjpjoaaLawLibE
import Derived.Test.YtfadcibmkjpjoaaRawLib
import Derived.Test.YtfadcibmkjpjoaaBas
import Derived.Test.YtfadcibmkjpjoaaEqHash
import Derived.Test.YtfadcibmkjpjoaaGuardLib
import Derived.Laws.CopyRow
namespace Go.Proofs.Ytfadcibmkjpjoaa
set_option maxRecDepth 4000
open Go.RowKit

theorem store_partH (w : World) (g o : Nat) (t ty : TypeId) (cur cells : Array Value) (hg : w.heap[g]? = some (.cells cur t (0, 0))) (hi : (Try.prog.info? ty).map (·.size) = some cells.size)
    (ho : o + cells.size ≤ cur.size) (h1 : cells.all (·.oneCell') = true) :
    (storeVar ty ⟨g, o, none⟩ (.agg cells)).run Try.prog w = .ok () (w.setRow g (cur.toList.take o ++ cells.toList ++ cur.toList.drop (o + cells.size)).toArray) := by
  have := run_storeCells_at Try.prog g o t cells.toList 0 cur w hg (by simpa using ho) (fun v hv => (Array.all_eq_true_iff_forall_mem.1 h1) v (by simpa using hv))
  cases hq : Try.prog.info? ty with
  | none => simp [hq] at hi
  | some i =>
    have hs : cells.size = i.size := by simp [hq] at hi; omega
    simp only [Nat.add_zero, Array.length_toList] at this
    rw [← this]
    simp [storeVar, sizeOf, typeInfo, hq, Value.cells, hs]
/-- 'out[k] = h' on a row of hashes. -/
theorem wpList_store_hash {ops : Array Oper} {rest : List Oper} {o : Oper} {a : Act} {w : World} {Q : Exit → Act → World → Prop} (hgd : o.guard = none) (x y : Operand) (ho : o.op = .store 24 x y)
    (g k n : Nat) (F : Nat → List UInt8) (h : List UInt8) (T : TypeId) (hx : a.eval x = .pointer (some ⟨g, k * 32, none⟩)) (hy : a.eval y = .agg (bC 32 h)) (hr : Hid (Rowz w g (hC n F) T)) (hk : k < n)
    (next : wpList Try.prog ops Q rest (a.put o.dst undef) (w.setRow g (hC n (fun i => if i = k then h else F i)))) : wpList Try.prog ops Q (o :: rest) a w :=
  wpList_plain hgd fun _ hK => by
    have hs := store_partH w g (k * 32) T 24 (hC n F) (bC 32 h) hr.out (info_hash h) (by rw [hC_size, bC_size]; omega) (bC_one _ _)
    rw [bC_size, hC_put n F k h hk] at hs
    unfold Oper.wp execOp
    simp only [ho, hx, hy, Instr.storeAt, Instr.sureAddr, Sem.run_bind, Sem.run_pure, Result.andThen_ok, hs]
    exact hK _ _ next
theorem zero_hash : ((Try.prog.info? 24).bind (·.zero)).map (·.cells) = some (bC 32 []) := by kernel_rfl
theorem run_make_hashes (n : Nat) (w : World) (hn : n ≤ 1000000) :
    (Instr.makeSlice 22 (.int .i64 (n : Int)) (.int .i64 (n : Int))).run Try.prog w = .ok (.slice (some ⟨w.heap.size, 0, none⟩) n n) (w.alloc (.cells (hC n (fun _ => [])) 24)) := by
  obtain ⟨i, hi⟩ : ∃ i, Try.prog.info? 24 = some i := Option.isSome_iff_exists.1 (by kernel_rfl)
  have hs : i.size = 32 := by
    have h : (Try.prog.info? 24).map (·.size) = some 32 := by kernel_rfl
    rw [hi] at h; exact Option.some.inj h
  have hb : i.bytes = 32 := by
    have h : (Try.prog.info? 24).map (·.bytes) = some 32 := by kernel_rfl
    rw [hi] at h; exact Option.some.inj h
  have h0 := zero_hash
  rw [hi] at h0
  obtain ⟨z, hz⟩ : ∃ z, i.zero = some z := by cases e : i.zero with | none => simp [e] at h0 | some z => exact ⟨z, rfl⟩
  have hz' : z.cells = bC 32 [] := by simpa [hz] using h0
  have h := run_make (P := Try.prog) w 22 24 i _ Try.underlying22 hi hz .i64 .i64 (n : Int) (n : Int) (by omega) (by omega) (by rw [hb]; omega) (by omega)
  rw [hs, Int.toNat_natCast, hz', madeCells_hashes] at h
  exact h
/-- The first k hashes stand. -/
def upH (F : Nat → List UInt8) (k i : Nat) : List UInt8 := if i < k then F i else []
theorem upH_put (F : Nat → List UInt8) (n k : Nat) : hC n (fun i => if i = k then F k else upH F k i) = hC n (upH F (k + 1)) := hC_congr _ _ _ fun i _ => by
  unfold upH
  by_cases h : i = k
  · subst h; simp
  · by_cases h2 : i < k
    · rw [if_neg h, if_pos h2, if_pos (by omega)]
    · rw [if_neg h, if_neg h2, if_neg (by omega)]
theorem upH_all (F : Nat → List UInt8) (n : Nat) : hC n (upH F n) = hC n F := hC_congr _ _ _ fun i hi => by unfold upH; rw [if_pos hi]

theorem info_hash32 : (Try.prog.info? 24).map (fun i => (i.size, i.bytes)) = some (32, 32) := by kernel_rfl
/-- 'append(out, h)' on a slice of hashes of the call's own. -/
theorem wpList_append_hash {w : World} {T : TypeId} {h0 : List UInt8} {ops : Array Oper} {rest : List Oper} {o : Oper} {a : Act} {Q : Exit → Act → World → Prop} (hgd : o.guard = none) (s x : Operand)
    (ho : o.op = .call { callee := .builtin .append, args := #[s, x], argTypes := #[22, 22] }) (W : World)
    (v : Value) (n : Nat) (F : Nat → List UInt8) (hs : a.eval s = v) (hown : Hid (w.ownsRow W.heap.size 24 32 v n (hC n F).toList)) (hx : a.eval x = .slice (some ⟨w.heap.size, 0, none⟩) 1 1)
    (hn : n ≤ 1000000) (hk : Hid (Kept W w)) (hF : h0 = F n)
    (h : ∀ v' w', Hid (w'.ownsRow W.heap.size 24 32 v' (n + 1) (hC (n + 1) F).toList) → Hid (Kept W w') → wpList Try.prog ops Q rest (a.put o.dst v') w') :
    wpList Try.prog ops Q (o :: rest) a (w.alloc (.cells (bC 32 h0) T)) := by
  subst hF
  obtain ⟨i, hi⟩ : ∃ i, Try.prog.info? 24 = some i := Option.isSome_iff_exists.1 (by kernel_rfl)
  have h32 := info_hash32
  rw [hi] at h32
  have h0 := zero_hash
  rw [hi] at h0
  obtain ⟨z, hz⟩ : ∃ z, i.zero = some z := by cases e : i.zero with | none => simp [e] at h0 | some z => exact ⟨z, rfl⟩
  have hz' : z.cells = bC 32 [] := by simpa [hz] using h0
  have hs32 : i.size = 32 := by simpa using congrArg (Option.map (·.1)) h32
  have hb32 : i.bytes = 32 := by simpa using congrArg (Option.map (·.2)) h32
  refine wpList_append_own (w.alloc (.cells (bC 32 (F n)) T)) hgd s x 22 ho W.heap.size 24 i z 32 32 Try.underlying22 hi hz hs32 hb32 (by rw [hz', bC_size]) (by decide) v n (hC n F).toList hs (hown.out.alloc _) ⟨w.heap.size, 0, none⟩ 1 1 (bC 32 (F n)).toList hx (by rw [Array.length_toList, bC_size]) ?_ ?_ (by unfold maxLen; omega) (by omega) (Nat.le_trans hk.out.size (by simp)) ?_
  · intro j y hj
    rw [Addr.add_mid, (Rowz.new w _ _).cell, ← hj, Array.getElem?_toList]
    simp
  · intro y hy
    exact Array.all_eq_true_iff_forall_mem.1 (bC_one 32 (F n)) y (by simpa using hy)
  · intro v' w' ho' hg _
    refine h v' w' (Lib.hid (by rw [hC_snoc] at ho'; exact ho')) (Lib.hid ((hk.out.alloc _).grownBy hg ?_))
    intro k hk'
    exact (hown.out.lt k hk').1
theorem execBuild1 {P : Program} {ty : TypeId} {o : Oper} {t : Array Value} {x : Operand} {w w' : World} {a : Value} {u : Value} (ho : o.op = .buildSlice ty 1 #[(0, x)]) (hx : evS t x = a) (h : (Instr.buildSlice ty 1 #[(0, a)]).run P w = .ok u w') : (execOp (evS t) o).run P w = .ok (.value u) w' := by
  unfold execOp
  simp [ho, hx, h, Result.andThen_ok]
theorem run_build1h (l : List UInt8) (w : World) : (Instr.buildSlice 22 1 #[(0, .agg (bC 32 l))]).run Try.prog w = .ok (.slice (some ⟨w.heap.size, 0, none⟩) 1 1) (w.alloc (.cells (bC 32 l) 24)) := by kernel_rfl
/-- What a slice of the call's own holds, in the form of the slices that lie anywhere. -/
theorem HAt.ofOwns {w : World} {base n : Nat} {v : Value} {F : Nat → List UInt8} (h : w.ownsRow base 24 32 v n (hC n F).toList) (hl : ∀ i, i < n → (F i).length = 32) : ∃ p c, v = .slice p n c ∧ n ≤ c ∧ c ≤ maxLen ∧ HAt w p n F := by
  rcases h.2 with ⟨rfl, rfl⟩ | ⟨g, cap, cur, rfl, hb, hg, h1, h2, h3, h4⟩
  · exact ⟨none, 0, rfl, Nat.le_refl _, Nat.zero_le _, HAt.zero _ _ _⟩
  · refine ⟨_, _, rfl, h1, h2, HAt.ofCells (cur := cur) (T := 24) hg hl fun k hk => ?_⟩
    rw [← Array.getElem?_toList (xs := hC n F), ← h4, List.getElem?_take, if_pos hk, Array.getElem?_toList]

theorem sizeHash (w : World) : (Go.sizeOf 24).run Try.prog w = .ok 32 w := by kernel_rfl
theorem run_cutH_left (q : Addr) (n c m : Nat) (w : World) (hm : m ≤ c) :
    (Instr.sliceAt 22 (.slice (some q) n c) none (some (.int .i64 (m : Int))) none).run Try.prog w = .ok (.slice (some q) m c) w := by
  have e : Try.prog.elem 22 = 24 := by kernel_rfl
  have hs := sizeHash w
  rw [run_sliceAt_slice w 22 _ _ _ _ Try.underlying22, run_slice_h w 22 (some q) n c Try.underlying22 .i64 (m : Int) (by omega) (by omega), e, hs]
  simp [sliced, Result.andThen, Addr.add]
theorem run_cutH_right (q : Addr) (n c m : Nat) (w : World) (hm : m ≤ n) (hc : m < c) :
    (Instr.sliceAt 22 (.slice (some q) n c) (some (.int .i64 (m : Int))) none none).run Try.prog w = .ok (.slice (some (q.add (m * 32))) (n - m) (c - m)) w := by
  have e : Try.prog.elem 22 = 24 := by kernel_rfl
  have hs := sizeHash w
  have hne : ¬ c = m := by omega
  rw [run_sliceAt_slice w 22 _ _ _ _ Try.underlying22, run_slice_l w 22 (some q) n c Try.underlying22 .i64 (m : Int) (by omega) (by omega), e, hs]
  simp [sliced, Result.andThen, hne]

/-- A slice of n hashes, as a value. -/
def HSl (n : Nat) (F : Nat → List UInt8) (v : Value) (w : World) : Prop := ∃ p c, v = .slice p n c ∧ n ≤ c ∧ c ≤ maxLen ∧ HAt w p n F
theorem HSl.kept (n : Nat) (F : Nat → List UInt8) (v : Value) (w w' : World) (K : Kept w w') (h : HSl n F v w) : HSl n F v w' := by
  obtain ⟨p, c, hv, h1, h2, h3⟩ := h
  exact ⟨p, c, hv, h1, h2, h3.kept K⟩
theorem execNeHs {o : Oper} {t : Array Value} {x y : Operand} (l m : List UInt8) (hl : l.length = 32) (hm : m.length = 32) (w : World) (ho : o.op = .binOp .neq 24 x y 24) (hx : evS t x = .agg (bC 32 l)) (hy : evS t y = .agg (bC 32 m)) :
    (execOp (evS t) o).run Try.prog w = .ok (.value (.bool (!decide (l = m)))) w := by
  have hq0 := sameH l m hl hm w
  have hq1 := guardH
  unfold execOp
  rw [ho]
  simp only [hx, hy]
  go_simp
theorem execNeSelf {o : Oper} {t : Array Value} {x y : Operand} (l : List UInt8) (hl : l.length = 32) (w : World) (ho : o.op = .binOp .neq 24 x y 24) (hx : evS t x = .agg (bC 32 l)) (hy : evS t y = .agg (bC 32 l)) :
    (execOp (evS t) o).run Try.prog w = .ok (.value (.bool false)) w := by
  have := execNeHs l l hl hl w ho hx hy
  simpa using this
theorem execIndexH {o : Oper} {t : Array Value} {x y : Operand} (q : Addr) (n c k : Nat) (hk : k < n) (w : World) (ho : o.op = .indexAddr 22 x y) (hx : evS t x = .slice (some q) n c) (hy : evS t y = .int .i64 (k : Int)) :
    (execOp (evS t) o).run Try.prog w = .ok (.value (.pointer (some (q.add (k * 32))))) w := by
  have h1 : ((k : Int) < (n : Int)) := by omega
  have hs := sizeHash w
  unfold execOp
  rw [ho]
  simp only [hx, hy]
  go_simp

theorem execLenHs {o : Oper} {t : Array Value} {x : Operand} {p : Option Addr} {n c : Nat} (w : World) (ho : o.op = .call { callee := .builtin .len, args := #[x], argTypes := #[22] }) (hx : evS t x = .slice p n c) :
    (execOp (evS t) o).run Try.prog w = .ok (.value (.int .i64 (n : Int))) w := by
  unfold execOp
  rw [ho]
  go_simp
theorem execEqHsV {o : Oper} {t : Array Value} {x y : Operand} (l m : List UInt8) (hl : l.length = 32) (hm : m.length = 32) (b : Bool) (hb : decide (l = m) = b) (w : World) (ho : o.op = .binOp .eql 24 x y 24) (hx : evS t x = .agg (bC 32 l)) (hy : evS t y = .agg (bC 32 m)) :
    (execOp (evS t) o).run Try.prog w = .ok (.value (.bool b)) w := by
  rw [← hb]; exact execEqHs l m hl hm w ho hx hy
theorem load_h {w : World} {g : Nat} {l : List UInt8} {o : Oper} {t : Array Value} {x : Operand} (ho : o.op = .load 24 x) (hx : evS t x = .pointer (some ⟨g, 0, none⟩)) (hg : Rowz w g (bC 32 l) 24) :
    (execOp (evS t) o).run Try.prog w = .ok (.value (.agg (bC 32 l))) w :=
  execLoadRow 24 ho g hx _ 24 _ hg Try.underlying24 rfl (info_hash _)
theorem load_at {o : Oper} {t : Array Value} {x : Operand} {w : World} {q : Addr} {n : Nat} {F : Nat → List UInt8} (k : Nat) (ho : o.op = .load 24 x) (hx : evS t x = .pointer (some (q.add (k * 32)))) (hF : HAt w (some q) n F) (hk : k < n) :
    (execOp (evS t) o).run Try.prog w = .ok (.value (.agg (bC 32 (F k)))) w := by
  have hr := hF.load k hk
  unfold execOp
  simp only [ho, hx, Sem.run_bind, Sem.run_pure, hr, Result.andThen_ok]
set_option maxRecDepth 100000 in
set_option maxHeartbeats 1000000 in
theorem refHashes_any (n m : Nat) (F G : Nat → List UInt8) (v u : Value) (w : World) (hv : HSl n F v w) (hu : HSl m G u w) :
    Calls Try.prog 8 #[v, u] w fun e w' => ∃ B : Bool, e = .returned (.bool B) ∧ (B = true ↔ n = m ∧ ∀ i, i < n → F i = G i) ∧ Kept w w' := by
  obtain ⟨p, c, rfl, hc, hcm, hF⟩ := hv
  obtain ⟨p', c', rfl, hc', hcm', hG⟩ := hu
  by_cases hnm : n = m
  · subst hnm
    have HF := Lib.hid hF
    have HG := Lib.hid hG
    have hd0 : ((n : Int) != (n : Int)) = false := by simp
    have hn63 : n ≤ 9223372036854775807 := by unfold maxLen at hcm; omega
    clear hF hG hc hcm hc' hcm'
    go_enter Try.func8, Try.ntmps8
    go_wp2
    go_loopw [5] (fun i wr => ∃ k : Nat, k ≤ n ∧ i = .int .i64 k ∧ Hid (∀ i, i < k → F i = G i) ∧ Hid (Kept w wr)) (fun i _ => n - (intOf i).toNat)
    case atStart => exact ⟨0, by omega, rfl, Lib.hid (fun i hi => absurd hi (Nat.not_lt_zero i)), Lib.hid (Kept.refl w)⟩
    case round =>
      obtain ⟨k, hk, rfl, HU, HK⟩ := hrel
      by_cases hlt : k < n
      · have hd1 : decide ((k : Int) < (n : Int)) = true := decide_eq_true (by omega)
        have hd1' : decide (k < n) = true := decide_eq_true hlt
        obtain ⟨q, rfl, _⟩ := HF.out.some (by omega)
        obtain ⟨q', rfl, _⟩ := HG.out.some (by omega)
        have hl := HF.out.length k hlt
        have hl' := HG.out.length k hlt
        go_wp2_with fail
        refine wp_region_table [(17, .is (.slice (some q) n c)), (18, .is (.int .i64 (k : Int))), (19, .is (.pointer (some (q.add (k * 32))))), (20, .is (.agg (bC 32 (F k)))), (21, .is (.slice (some q') n c')), (22, .is (.int .i64 (k : Int))), (23, .is (.pointer (some (q'.add (k * 32))))), (24, .is (.agg (bC 32 (G k)))), (25, .is (.bool (!decide (F k = G k))))] (by kernel_rfl) (by kernel_rfl) ?_ ?_
        · refine ⟨fun t w1 hf hk hp => ?_, ?_⟩
          · have h0 : slot t 0 = .slice (some q) n c := hf 0 (by kernel_rfl)
            clear hf hp
            refine stepAt_plain rfl ?_
            exact stepOK_move _ (.inl rfl) h0
          refine ⟨fun t w1 hf hk hp => ?_, ?_⟩
          · have h5 : slot t 5 = .int .i64 (k : Int) := hf 5 (by kernel_rfl)
            clear hf hp
            refine stepAt_plain rfl ?_
            exact stepOK_move _ (.inl rfl) h5
          refine ⟨fun t w1 hf hk hp => ?_, ?_⟩
          · have h17 : slot t 17 = .slice (some q) n c := hp 17 (by kernel_rfl)
            have h18 : slot t 18 = .int .i64 (k : Int) := hp 18 (by kernel_rfl)
            clear hf hp
            refine stepAt_plain rfl ?_
            exact stepOK_pure (.pointer (some (q.add (k * 32)))) (execIndexH q n c k hlt w1 rfl h17 h18) rfl
          refine ⟨fun t w1 hf hk hp => ?_, ?_⟩
          · have h19 : slot t 19 = .pointer (some (q.add (k * 32))) := hp 19 (by kernel_rfl)
            clear hf hp
            refine stepAt_plain rfl ?_
            have hq0 := (HF.out.kept (HK.out.trans hk)).load k hlt
            exact stepOK_sem (.agg (bC 32 (F k))) (by simp only [execOp, evS, h19]) hq0 rfl
          refine ⟨fun t w1 hf hk hp => ?_, ?_⟩
          · have h1 : slot t 1 = .slice (some q') n c' := hf 1 (by kernel_rfl)
            clear hf hp
            refine stepAt_plain rfl ?_
            exact stepOK_move _ (.inl rfl) h1
          refine ⟨fun t w1 hf hk hp => ?_, ?_⟩
          · have h5 : slot t 5 = .int .i64 (k : Int) := hf 5 (by kernel_rfl)
            clear hf hp
            refine stepAt_plain rfl ?_
            exact stepOK_move _ (.inl rfl) h5
          refine ⟨fun t w1 hf hk hp => ?_, ?_⟩
          · have h21 : slot t 21 = .slice (some q') n c' := hp 21 (by kernel_rfl)
            have h22 : slot t 22 = .int .i64 (k : Int) := hp 22 (by kernel_rfl)
            clear hf hp
            refine stepAt_plain rfl ?_
            exact stepOK_pure (.pointer (some (q'.add (k * 32)))) (execIndexH q' n c' k hlt w1 rfl h21 h22) rfl
          refine ⟨fun t w1 hf hk hp => ?_, ?_⟩
          · have h23 : slot t 23 = .pointer (some (q'.add (k * 32))) := hp 23 (by kernel_rfl)
            clear hf hp
            refine stepAt_plain rfl ?_
            have hq0 := (HG.out.kept (HK.out.trans hk)).load k hlt
            exact stepOK_sem (.agg (bC 32 (G k))) (by simp only [execOp, evS, h23]) hq0 rfl
          refine ⟨fun t w1 hf hk hp => ?_, ?_⟩
          · have h20 : slot t 20 = .agg (bC 32 (F k)) := hp 20 (by kernel_rfl)
            have h24 : slot t 24 = .agg (bC 32 (G k)) := hp 24 (by kernel_rfl)
            clear hf hp
            refine stepAt_plain rfl ?_
            exact stepOK_pure (.bool (!decide (F k = G k))) (execNeHs (F k) (G k) hl hl' w1 rfl h20 h24) rfl
          exact trivial
        · intro t w1 hsz hf hk hfacts
          have h25 : slot t 25 = .bool (!decide (F k = G k)) := hfacts 8 _ rfl 25 rfl
          have h0 : slot t 0 = .slice (some q) n c := hf 0 (by kernel_rfl)
          have h1 : slot t 1 = .slice (some q') n c' := hf 1 (by kernel_rfl)
          have h5 : slot t 5 = .int .i64 (k : Int) := hf 5 (by kernel_rfl)
          have h2 := hf 2 (by kernel_rfl)
          conv at h2 => rhs; whnf
          try change slot t 2 = undef at h2
          have h3 := hf 3 (by kernel_rfl)
          conv at h3 => rhs; whnf
          try change slot t 3 = undef at h3
          have h4 := hf 4 (by kernel_rfl)
          conv at h4 => rhs; whnf
          try change slot t 4 = undef at h4
          have h6 := hf 6 (by kernel_rfl)
          conv at h6 => rhs; whnf
          try change slot t 6 = undef at h6
          have h7 := hf 7 (by kernel_rfl)
          conv at h7 => rhs; whnf
          try change slot t 7 = undef at h7
          have h8 := hf 8 (by kernel_rfl)
          conv at h8 => rhs; whnf
          try change slot t 8 = undef at h8
          have h9 := hf 9 (by kernel_rfl)
          conv at h9 => rhs; whnf
          try change slot t 9 = undef at h9
          have h10 := hf 10 (by kernel_rfl)
          conv at h10 => rhs; whnf
          try change slot t 10 = undef at h10
          have h11 := hf 11 (by kernel_rfl)
          conv at h11 => rhs; whnf
          try change slot t 11 = undef at h11
          have h12 := hf 12 (by kernel_rfl)
          conv at h12 => rhs; whnf
          try change slot t 12 = undef at h12
          have h13 := hf 13 (by kernel_rfl)
          conv at h13 => rhs; whnf
          try change slot t 13 = undef at h13
          have h14 := hf 14 (by kernel_rfl)
          conv at h14 => rhs; whnf
          try change slot t 14 = undef at h14
          have h15 := hf 15 (by kernel_rfl)
          conv at h15 => rhs; whnf
          try change slot t 15 = undef at h15
          have h16 := hf 16 (by kernel_rfl)
          conv at h16 => rhs; whnf
          try change slot t 16 = undef at h16
          have harr : t = #[slot t 0, slot t 1, slot t 2, slot t 3, slot t 4, slot t 5, slot t 6, slot t 7, slot t 8, slot t 9, slot t 10, slot t 11, slot t 12, slot t 13, slot t 14, slot t 15, slot t 16, slot t 17, slot t 18, slot t 19, slot t 20, slot t 21, slot t 22, slot t 23, slot t 24, slot t 25] := arr_eq t 26 hsz
          rw [harr, h25, h0, h1, h5, h2, h3, h4, h6, h7, h8, h9, h10, h11, h12, h13, h14, h15, h16]
          clear harr hfacts hf h25 h0 h1 h5 h2 h3 h4 h6 h7 h8 h9 h10 h11 h12 h13 h14 h15 h16
          generalize slot t 17 = x17; generalize slot t 18 = x18; generalize slot t 19 = x19; generalize slot t 20 = x20; generalize slot t 21 = x21; generalize slot t 22 = x22; generalize slot t 23 = x23; generalize slot t 24 = x24
          clear hsz t
          have HK1 := Lib.hid (HK.out.trans hk)
          clear hk HK
          by_cases he : F k = G k
          · have hd2 : decide (F k = G k) = true := decide_eq_true he
            have HU1 : Hid (∀ i, i < k + 1 → F i = G i) := Lib.hid (fun i hi => by
              rcases Nat.lt_or_eq_of_le (show i ≤ k by omega) with h | h
              · exact HU.out i h
              · subst h; exact he)
            rw [hd2]
            clear he hd2 HU
            go_wp2
            go_roundw
            case rel => exact ⟨k + 1, by omega, by go_num, HU1, HK1⟩
            case measure => simp [intOf]; omega
          · have hd2 : decide (F k = G k) = false := decide_eq_false he
            rw [hd2]
            have HE := Lib.hid he
            clear he hd2
            go_wp2
            go_ret
            exact ⟨_, rfl, ⟨fun h => by simp at h, fun h => absurd (h.2 k hlt) HE.out⟩, HK1.out⟩
      · have hd1 : decide ((k : Int) < (n : Int)) = false := decide_eq_false (by omega)
        have hd1' : decide (k < n) = false := decide_eq_false hlt
        obtain rfl : k = n := by omega
        go_wp2
        go_ret
        exact ⟨_, rfl, ⟨fun _ => ⟨trivial, HU.out⟩, fun _ => rfl⟩, HK.out⟩
  · have hd0 : ((n : Int) != (m : Int)) = true := by simp; omega
    have hd2 : ¬ (n : Int) = (m : Int) := by omega
    have HN := Lib.hid hnm
    clear hF hG hc hcm hc' hcm' hnm
    go_enter Try.func8, Try.ntmps8
    go_wp2
    go_ret
    exact ⟨_, rfl, ⟨fun h => by simp at h, fun h => absurd h.1 HN.out⟩, Kept.refl _⟩
end Go.Proofs.Ytfadcibmkjpjoaa
