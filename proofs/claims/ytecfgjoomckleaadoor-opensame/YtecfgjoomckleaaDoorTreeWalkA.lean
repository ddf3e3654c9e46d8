/-
  Contracts of tree.mapped (of strings, by tag.LeafSum), tree.Leaves and of the reference's Leaves. Conditions: at most a million leaves of at most a million bytes; sha's table of round constants stands.
-/
import Derived.Test.YtecfgjoomckleaaDoorTreeMath
import Derived.Test.YtecfgjoomckleaaDoorLawLibE
import Derived.Test.YtecfgjoomckleaaDoorTagSumA
import Derived.Test.YtecfgjoomckleaaDoorShapeWalkA
import Derived.Test.YtecfgjoomckleaaDoorGuardLib
import Derived.Laws.CopyRow
namespace Go.Proofs.YtecfgjoomckleaaDoor
set_option maxRecDepth 4000
open Go.RowKit

theorem store_partH (w : World) (g o : Nat) (t ty : TypeId) (cur cells : Array Value) (hg : w.heap[g]? = some (.cells cur t (0, 0))) (hi : (Tryd.prog.info? ty).map (·.size) = some cells.size)
    (ho : o + cells.size ≤ cur.size) (h1 : cells.all (·.oneCell') = true) :
    (storeVar ty ⟨g, o, none⟩ (.agg cells)).run Tryd.prog w = .ok () (w.setRow g (cur.toList.take o ++ cells.toList ++ cur.toList.drop (o + cells.size)).toArray) := by
  have := run_storeCells_at Tryd.prog g o t cells.toList 0 cur w hg (by simpa using ho) (fun v hv => (Array.all_eq_true_iff_forall_mem.1 h1) v (by simpa using hv))
  cases hq : Tryd.prog.info? ty with
  | none => simp [hq] at hi
  | some i =>
    have hs : cells.size = i.size := by simp [hq] at hi; omega
    simp only [Nat.add_zero, Array.length_toList] at this
    rw [← this]
    simp [storeVar, sizeOf, typeInfo, hq, Value.cells, hs]
/-- 'out[k] = h' on a row of hashes. -/
theorem wpList_store_hash {ops : Array Oper} {rest : List Oper} {o : Oper} {a : Act} {w : World} {Q : Exit → Act → World → Prop} (hgd : o.guard = none) (x y : Operand) (ho : o.op = .store 41 x y)
    (g k n : Nat) (F : Nat → List UInt8) (h : List UInt8) (T : TypeId) (hx : a.eval x = .pointer (some ⟨g, k * 32, none⟩)) (hy : a.eval y = .agg (bC 32 h)) (hr : Hid (Rowz w g (hC n F) T)) (hk : k < n)
    (next : wpList Tryd.prog ops Q rest (a.put o.dst undef) (w.setRow g (hC n (fun i => if i = k then h else F i)))) : wpList Tryd.prog ops Q (o :: rest) a w :=
  wpList_plain hgd fun _ hK => by
    have hs := store_partH w g (k * 32) T 41 (hC n F) (bC 32 h) hr.out (info_hash h) (by rw [hC_size, bC_size]; omega) (bC_one _ _)
    rw [bC_size, hC_put n F k h hk] at hs
    unfold Oper.wp execOp
    simp only [ho, hx, hy, Instr.storeAt, Instr.sureAddr, Sem.run_bind, Sem.run_pure, Result.andThen_ok, hs]
    exact hK _ _ next
theorem zero_hash : ((Tryd.prog.info? 41).bind (·.zero)).map (·.cells) = some (bC 32 []) := by kernel_rfl
theorem run_make_hashes (n : Nat) (w : World) (hn : n ≤ 1000000) :
    (Instr.makeSlice 25 (.int .i64 (n : Int)) (.int .i64 (n : Int))).run Tryd.prog w = .ok (.slice (some ⟨w.heap.size, 0, none⟩) n n) (w.alloc (.cells (hC n (fun _ => [])) 41)) := by
  obtain ⟨i, hi⟩ : ∃ i, Tryd.prog.info? 41 = some i := Option.isSome_iff_exists.1 (by kernel_rfl)
  have hs : i.size = 32 := by
    have h : (Tryd.prog.info? 41).map (·.size) = some 32 := by kernel_rfl
    rw [hi] at h; exact Option.some.inj h
  have hb : i.bytes = 32 := by
    have h : (Tryd.prog.info? 41).map (·.bytes) = some 32 := by kernel_rfl
    rw [hi] at h; exact Option.some.inj h
  have h0 := zero_hash
  rw [hi] at h0
  obtain ⟨z, hz⟩ : ∃ z, i.zero = some z := by cases e : i.zero with | none => simp [e] at h0 | some z => exact ⟨z, rfl⟩
  have hz' : z.cells = bC 32 [] := by simpa [hz] using h0
  have h := run_make (P := Tryd.prog) w 25 41 i _ Tryd.underlying25 hi hz .i64 .i64 (n : Int) (n : Int) (by omega) (by omega) (by rw [hb]; omega) (by omega)
  rw [hs, Int.toNat_natCast, hz', madeCells_hashes] at h
  exact h
/-- The first k hashes stand. -/
def upH (F : Nat → List UInt8) (k i : Nat) : List UInt8 := if i < k then F i else []
theorem upH_put (F : Nat → List UInt8) (n k : Nat) : hC n (fun i => if i = k then F k else upH F k i) = hC n (upH F (k + 1)) := hC_congr _ _ _ fun i _ => by
  unfold upH
  by_cases h : i = k
  · subst h; simp
  · by_cases h2 : i < k
    · rw [if_neg h, if_pos h2, if_pos (by omega)]
    · rw [if_neg h, if_neg h2, if_neg (by omega)]
theorem upH_all (F : Nat → List UInt8) (n : Nat) : hC n (upH F n) = hC n F := hC_congr _ _ _ fun i hi => by unfold upH; rw [if_pos hi]

set_option maxRecDepth 100000 in
set_option maxHeartbeats 1000000 in
theorem treeMapped_any (p : Option Addr) (n c : Nat) (S : Nat → ByteArray) (w : World) (hS : SAt w p n S) (hz : ∀ i, i < n → (S i).size ≤ 1000000) (hn : n ≤ 1000000) (ht : Tab w) :
    Calls Tryd.prog 22 #[.slice p n c, .func (.func 23) #[] #[]] w fun e w' => ∃ g, e = .returned (.slice (some ⟨g, 0, none⟩) n n) ∧ Rowz w' g (hC n (lf S)) 41 ∧ Kept w w' := by
  have HS := Lib.hid hS
  have HZ := Lib.hid hz
  have HT := Lib.hid ht
  have hm := run_make_hashes n w hn
  clear hS hz ht
  go_enter Tryd.func22, Tryd.ntmps22
  go_wp2_with fail
  clear hm
  have R1 := Lib.hid (Rowz.new w (hC n (fun _ => [])) 41)
  have K1 := Lib.hid ((Kept.refl w).alloc (.cells (hC n (fun _ => [])) 41))
  generalize w.alloc (.cells (hC n (fun _ => [])) 41) = v at R1 K1 ⊢
  obtain ⟨g, hg⟩ : ∃ g, g = w.heap.size := ⟨_, rfl⟩
  have HG : Hid (w.heap.size ≤ g) := Lib.hid (by omega)
  rw [← hg] at R1 ⊢
  clear hg
  go_loopw [13] (fun i wr => ∃ k : Nat, k ≤ n ∧ i = .int .i64 k ∧ Hid (Rowz wr g (hC n (upH (lf S) k)) 41) ∧ Hid (Kept w wr)) (fun i _ => n - (intOf i).toNat)
  case atStart => exact ⟨0, by omega, rfl, R1, K1⟩
  case round =>
    clear R1 K1
    obtain ⟨k, hk, rfl, R1, K1⟩ := hrel
    by_cases hlt : k < n
    · have hd : decide ((k : Int) < (n : Int)) = true := decide_eq_true (by omega)
      have hd' : decide (k < n) = true := decide_eq_true hlt
      obtain ⟨q, rfl, _⟩ := HS.out.some (by omega)
      have hcell := (HS.out.kept K1.out).cell k hlt
      have HL : Hid (∀ w, Tab w → Calls Tryd.prog 23 #[.string (S k)] w fun e w' => e = .returned (.agg (bC 32 (lf S k))) ∧ Kept w w') := Lib.hid fun w hw => tagLeafSum_any (S k) (HZ.out k hlt) w hw
      go_wp2_with fail
      refine (HL.out _ (HT.out.kept K1.out)).mono ?_
      rintro e v1 ⟨rfl, k1⟩
      have R2 := Lib.hid (R1.out.kept k1)
      have K2 := Lib.hid (K1.out.trans k1)
      clear R1 K1 k1 HL hcell
      go_wp2_with (refine wpList_store_hash rfl _ _ rfl g k n (upH (lf S) k) (lf S k) _ rfl rfl R2 hlt ?_)
      go_roundw
      case measure => simp [intOf]; omega
      case rel => exact ⟨k + 1, by omega, rfl, Lib.hid (by rw [← upH_put]; exact R2.out.row), Lib.hid (K2.out.setRow HG.out _)⟩
    · have hd : decide ((k : Int) < (n : Int)) = false := decide_eq_false (by omega)
      have hd' : decide (k < n) = false := decide_eq_false hlt
      obtain rfl : k = n := by omega
      go_wp2_with fail
      go_ret
      exact ⟨g, rfl, by rw [← upH_all]; exact R1.out, K1.out⟩

set_option maxHeartbeats 400000 in
theorem treeLeaves_any (p : Option Addr) (n c : Nat) (S : Nat → ByteArray) (w : World) (hS : SAt w p n S) (hz : ∀ i, i < n → (S i).size ≤ 1000000) (hn : n ≤ 1000000) (ht : Tab w) :
    Calls Tryd.prog 14 #[.slice p n c] w fun e w' => ∃ g, e = .returned (.slice (some ⟨g, 0, none⟩) n n) ∧ Rowz w' g (hC n (lf S)) 41 ∧ Kept w w' := by
  have HM := Lib.hid (treeMapped_any p n c S w hS hz hn ht)
  clear hS hz ht
  go_enter Tryd.func14, Tryd.ntmps14
  go_wp2_with fail
  refine HM.out.mono ?_
  rintro e w1 ⟨g, rfl, r1, k1⟩
  have R1 := Lib.hid r1
  have K1 := Lib.hid k1
  clear r1 k1 HM
  go_wp2_with fail
  go_ret
  exact ⟨g, rfl, R1.out, K1.out⟩

theorem info_hash32 : (Tryd.prog.info? 41).map (fun i => (i.size, i.bytes)) = some (32, 32) := by kernel_rfl
/-- 'append(out, h)' on a slice of hashes of the call's own. -/
theorem wpList_append_hash {w : World} {T : TypeId} {h0 : List UInt8} {ops : Array Oper} {rest : List Oper} {o : Oper} {a : Act} {Q : Exit → Act → World → Prop} (hgd : o.guard = none) (s x : Operand)
    (ho : o.op = .call { callee := .builtin .append, args := #[s, x], argTypes := #[25, 25] }) (W : World)
    (v : Value) (n : Nat) (F : Nat → List UInt8) (hs : a.eval s = v) (hown : Hid (w.ownsRow W.heap.size 41 32 v n (hC n F).toList)) (hx : a.eval x = .slice (some ⟨w.heap.size, 0, none⟩) 1 1)
    (hn : n ≤ 1000000) (hk : Hid (Kept W w)) (hF : h0 = F n)
    (h : ∀ v' w', Hid (w'.ownsRow W.heap.size 41 32 v' (n + 1) (hC (n + 1) F).toList) → Hid (Kept W w') → wpList Tryd.prog ops Q rest (a.put o.dst v') w') :
    wpList Tryd.prog ops Q (o :: rest) a (w.alloc (.cells (bC 32 h0) T)) := by
  subst hF
  obtain ⟨i, hi⟩ : ∃ i, Tryd.prog.info? 41 = some i := Option.isSome_iff_exists.1 (by kernel_rfl)
  have h32 := info_hash32
  rw [hi] at h32
  have h0 := zero_hash
  rw [hi] at h0
  obtain ⟨z, hz⟩ : ∃ z, i.zero = some z := by cases e : i.zero with | none => simp [e] at h0 | some z => exact ⟨z, rfl⟩
  have hz' : z.cells = bC 32 [] := by simpa [hz] using h0
  have hs32 : i.size = 32 := by simpa using congrArg (Option.map (·.1)) h32
  have hb32 : i.bytes = 32 := by simpa using congrArg (Option.map (·.2)) h32
  refine wpList_append_own (w.alloc (.cells (bC 32 (F n)) T)) hgd s x 25 ho W.heap.size 41 i z 32 32 Tryd.underlying25 hi hz hs32 hb32 (by rw [hz', bC_size]) (by decide) v n (hC n F).toList hs (hown.out.alloc _) ⟨w.heap.size, 0, none⟩ 1 1 (bC 32 (F n)).toList hx (by rw [Array.length_toList, bC_size]) ?_ ?_ (by unfold maxLen; omega) (by omega) (Nat.le_trans hk.out.size (by simp)) ?_
  · intro j y hj
    rw [Addr.add_mid, (Rowz.new w _ _).cell, ← hj, Array.getElem?_toList]
    simp
  · intro y hy
    exact Array.all_eq_true_iff_forall_mem.1 (bC_one 32 (F n)) y (by simpa using hy)
  · intro v' w' ho' hg _
    refine h v' w' (Lib.hid (by rw [hC_snoc] at ho'; exact ho')) (Lib.hid ((hk.out.alloc _).grownBy hg ?_))
    intro k hk'
    exact (hown.out.lt k hk').1
theorem execBuild1 {P : Program} {ty : TypeId} {o : Oper} {t : Array Value} {x : Operand} {w w' : World} {a : Value} {u : Value} (ho : o.op = .buildSlice ty 1 #[(0, x)]) (hx : evS t x = a) (h : (Instr.buildSlice ty 1 #[(0, a)]).run P w = .ok u w') : (execOp (evS t) o).run P w = .ok (.value u) w' := by
  unfold execOp
  simp [ho, hx, h, Result.andThen_ok]
theorem run_build1h (l : List UInt8) (w : World) : (Instr.buildSlice 25 1 #[(0, .agg (bC 32 l))]).run Tryd.prog w = .ok (.slice (some ⟨w.heap.size, 0, none⟩) 1 1) (w.alloc (.cells (bC 32 l) 41)) := by kernel_rfl
/-- What a slice of the call's own holds, in the form of the slices that lie anywhere. -/
theorem HAt.ofOwns {w : World} {base n : Nat} {v : Value} {F : Nat → List UInt8} (h : w.ownsRow base 41 32 v n (hC n F).toList) (hl : ∀ i, i < n → (F i).length = 32) : ∃ p c, v = .slice p n c ∧ n ≤ c ∧ c ≤ maxLen ∧ HAt w p n F := by
  rcases h.2 with ⟨rfl, rfl⟩ | ⟨g, cap, cur, rfl, hb, hg, h1, h2, h3, h4⟩
  · exact ⟨none, 0, rfl, Nat.le_refl _, Nat.zero_le _, HAt.zero _ _ _⟩
  · refine ⟨_, _, rfl, h1, h2, HAt.ofCells (cur := cur) (T := 41) hg hl fun k hk => ?_⟩
    rw [← Array.getElem?_toList (xs := hC n F), ← h4, List.getElem?_take, if_pos hk, Array.getElem?_toList]

set_option maxRecDepth 100000 in
set_option maxHeartbeats 1000000 in
theorem refLeaves_any (p : Option Addr) (n c : Nat) (S : Nat → ByteArray) (w : World) (hS : SAt w p n S) (hz : ∀ i, i < n → (S i).size ≤ 1000000) (hn : n ≤ 1000000) :
    Calls Tryd.prog 16 #[.slice p n c] w fun e w' => ∃ v, e = .returned v ∧ w'.ownsRow w.heap.size 41 32 v n (hC n (lf S)).toList ∧ Kept w w' := by
  have HS := Lib.hid hS
  have HZ := Lib.hid hz
  clear hS hz
  go_enter Tryd.func16, Tryd.ntmps16
  go_wp2_with fail
  go_loopw [3, 4] (fun v i wr => ∃ k : Nat, k ≤ n ∧ i = .int .i64 k ∧ Hid (wr.ownsRow w.heap.size 41 32 v k (hC k (lf S)).toList) ∧ Hid (Kept w wr)) (fun _ i _ => n - (intOf i).toNat)
  case atStart => exact ⟨0, by omega, rfl, Lib.hid (World.ownsRow_nil _ _ _ _), Lib.hid (Kept.refl w)⟩
  case round =>
    rename_i v _
    obtain ⟨k, hk, rfl, O1, K1⟩ := hrel
    by_cases hlt : k < n
    · have hd : decide ((k : Int) < (n : Int)) = true := decide_eq_true (by omega)
      have hd' : decide (k < n) = true := decide_eq_true hlt
      obtain ⟨q, rfl, _⟩ := HS.out.some (by omega)
      have hcell := (HS.out.kept K1.out).cell k hlt
      have HL : Hid (∀ w, Calls Tryd.prog 26 #[.string (S k)] w fun e w' => e = .returned (.agg (bC 32 (lf S k))) ∧ Kept w w') := Lib.hid fun w => refLeafSum_any (S k) (HZ.out k hlt) w
      go_wp2_with fail
      refine (HL.out _).mono ?_
      rintro e v1 ⟨rfl, k1⟩
      have O2 := Lib.hid (ownsRow_kept O1.out k1)
      have K2 := Lib.hid (K1.out.trans k1)
      clear O1 K1 k1 HL hcell
      go_wp2_with (refine park_at 17 rfl ?_)
      refine unpark ?_
      refine wpList_exec 17 rfl (by rfl) (.slice (some ⟨v1.heap.size, 0, none⟩) 1 1) (v1.alloc (.cells (bC 32 (lf S k)) 41)) (execBuild1 rfl rfl (run_build1h _ _)) ?_
      go_wp2_with (at_builtin; refine wpList_append_hash rfl _ _ rfl w _ k (lf S) rfl O2 rfl (by omega) K2 rfl ?_; intro v' w' O3 K3)
      go_roundw
      case measure => simp [intOf]; omega
      case rel => exact ⟨k + 1, by omega, rfl, O3, K3⟩
    · have hd : decide ((k : Int) < (n : Int)) = false := decide_eq_false (by omega)
      have hd' : decide (k < n) = false := decide_eq_false hlt
      obtain rfl : k = n := by omega
      go_wp2_with fail
      go_ret
      exact ⟨_, rfl, O1.out, K1.out⟩
end Go.Proofs.YtecfgjoomckleaaDoor
