/-
  The bytes of a hash as a string (hS); the contract of milepostref03.Raw. No condition.
  '==' and '!=' of arrays of integers, as the model reckons them: cell by cell; of hashes. No condition.
  '==' and '!=' of arrays of integers, as the model reckons them: cell by cell. No condition.
  Small laws for walks over records behind pointers: guarded operations taken whole, rows stored into new variables, results that are records, 'nothing but one block and new memory'. No condition.
  Slices of strings and slices of hashes, wherever they lie (SAt, HAt): among a law's arguments; cut in two; a hash loaded out of one. No condition.
  Contracts of package tag's texts and of their reference. Conditions: the parts fit.
  Contracts of the reference's texts (layer 3) and of the law's own examples. Conditions: the parts fit.
  Contracts of package tag's hashes and of their reference. Conditions: the parts fit; sha's table of round constants stands.
  For the laws of layer 3: hashes loaded out of an array of them; slices of strings made. No condition.
-/
import Derived.Test.YtlfkkfacbcpogaaDoorBas
import Derived.Laws.StructEq
import Derived.Test.YtlfkkfacbcpogaaDoorProg
import Derived.Deep.MidRow
import Derived.Test.YtlfkkfacbcpogaaDoorShelf
import Derived.Test.YtlfkkfacbcpogaaDoorShb
import Derived.Test.YtlfkkfacbcpogaaDoorSha
namespace Go.Proofs.YtlfkkfacbcpogaaDoor
set_option maxRecDepth 4000
open Go.RowKit

def hS (l : List UInt8) : ByteArray := ⟨l.toArray⟩
theorem hS_size (l : List UInt8) : (hS l).size = l.length := by simp [hS, ByteArray.size]
theorem run_str_hash (w : World) (g : Nat) (T : TypeId) (l : List UInt8) (hl : l.length = 32) (hr : Rowz w g (bC 32 l) T) : (convert 62 9 (.slice (some ⟨g, 0, none⟩) 32 32)).run Tryd.prog w = .ok (.string (hS l)) w := by
  have h := run_strB w g 0 32 l (fun j hj => by
    rw [hr.cell, Nat.zero_add]
    have : j < 32 := by omega
    simp [bC, this, hj])
  rw [hl] at h
  exact h
theorem info_hash (l : List UInt8) : (Tryd.prog.info? 31).map (·.size) = some (bC 32 l).size := by rw [bC_size]; kernel_rfl
theorem run_make32b (w : World) : (Instr.makeSlice 62 (.int .i64 32) (.int .i64 32)).run Tryd.prog w = .ok (.slice (some ⟨w.heap.size, 0, none⟩) 32 32) (w.alloc (.cells (bC 32 []) 5)) := by kernel_rfl
theorem take_step (l : List UInt8) (k : Nat) (h : k < l.length) : l.take k ++ [l.getD k 0] = l.take (k + 1) := by
  rw [List.take_add_one]
  simp [List.getD_eq_getElem?_getD, h]

set_option maxHeartbeats 400000 in
theorem refRaw_any (l : List UInt8) (hl : l.length = 32) (w : World) :
    Calls Tryd.prog 48 #[.agg (bC 32 l)] w fun e w' => e = .returned (.string (hS l)) ∧ Grown w w' := by
  have hm := run_make32b (w.alloc (.cells (bC 32 l) 31))
  go_enter Tryd.func48, Tryd.ntmps48
  go_wp2_with fail
  clear hm
  have F0 := Lib.hid ((Rowz.new w (bC 32 l) 31).alloc (.cells (bC 32 []) 5))
  have F1 := Lib.hid (Rowz.newEq1 w (.cells (bC 32 l) 31) (.cells (bC 32 []) 5) _ _ rfl)
  have F2 := Lib.hid (((Grown.refl w).alloc (bC 32 l) 31).alloc (bC 32 []) 5)
  generalize (w.alloc (.cells (bC 32 l) 31)).alloc (.cells (bC 32 []) 5) = v at F0 F1 F2 ⊢
  obtain ⟨b, hb⟩ : ∃ b, b = w.heap.size := ⟨_, rfl⟩
  have HB := Lib.hid hb
  rw [← hb] at F0 F1 ⊢
  clear hb
  go_loopw [4] (fun i wr => ∃ k : Nat, k ≤ 32 ∧ i = .int .i64 k ∧ Hid (Rowz wr b (bC 32 l) 31) ∧ Hid (Rowz wr (b + 1) (bC 32 (l.take k)) 5) ∧ Hid (Grown w wr)) (fun i _ => 32 - (intOf i).toNat)
  case atStart => exact ⟨0, by omega, rfl, F0, F1, F2⟩
  case round =>
    clear F0 F1 F2
    obtain ⟨k, hk, rfl, F0, F1, F2⟩ := hrel
    by_cases hlt : k < 32
    · have hd : decide ((k : Int) < 32) = true := by simp; omega
      have hc0 := F0.out.byte k hlt
      have hc1 := F1.out.byte k hlt
      have hf1 := F1.out.free k
      go_wp2
      go_roundw
      case measure => simp [intOf]; omega
      case rel =>
        have hkl : k < l.length := by omega
        have hv : ((l[k].toNat : Nat) : Int) = (((l.getD k 0).toNat : Nat) : Int) := by simp [List.getD_eq_getElem?_getD, hkl]
        exact ⟨k + 1, by omega, rfl, Lib.hid (F0.out.other _ _ (by simp)), Lib.hid (take_step l k (by omega) ▸ F1.out.pushB k (by simp; omega) _ _ hv), Lib.hid (F2.out.setCell (by rw [← HB.out]; simp) _)⟩
    · have hd : decide ((k : Int) < 32) = false := by simp; omega
      obtain rfl : k = 32 := by omega
      have hq := run_str_hash wr (b + 1) _ l hl (by have h := F1.out; rwa [List.take_of_length_le (by omega)] at h)
      go_wp2
      go_ret
      exact ⟨rfl, F2.out⟩
end Go.Proofs.YtlfkkfacbcpogaaDoor
namespace Go.Proofs.YtlfkkfacbcpogaaDoor
set_option maxRecDepth 4000
open Go.RowKit

/-- n cells of integers of kind k. -/
def iC (k : IntKind) (n : Nat) (f : Nat → Int) : Array Value := ((List.range n).map fun i => Value.int k (f i)).toArray
theorem iC_get (k : IntKind) (n : Nat) (f : Nat → Int) (i : Nat) (h : i < n) : (iC k n f)[i]? = some (.int k (f i)) := by simp [iC, h]

theorem run_equalIn_ints {P : Program} (w : World) (d : Nat) (t e : TypeId) (n : Nat) (k : IntKind) (ht : P.underlying t = some (.array n e)) (he : P.underlying e = some (.int k)) (hsz : ∀ w, (sizeOf e).run P w = .ok 1 w) (f g : Nat → Int) :
    (Op.equalIn (d + 2) t (.agg (iC k n f)) (.agg (iC k n g))).run P w = .ok ((List.range n).all fun i => f i == g i) w := by
  rw [List.range_eq_range', Op.equalIn]
  simp only [Sem.run_bind, run_underlying ht, Result.andThen_ok, hsz, Std.Legacy.Range.forIn_eq_forIn_range', Std.Legacy.Range.size, Nat.sub_zero, Nat.add_sub_cancel, Nat.div_one]
  have hl : ∀ i ∈ List.range' 0 n 1, i < n := fun i hi => by simpa using (List.mem_range'_1.1 hi).2
  generalize List.range' 0 n 1 = l at hl ⊢
  induction l with
  | nil => simp
  | cons i l ih =>
    have hi : i < n := hl i (by simp)
    have px : (part e (iC k n f) (i * 1)).run P w = .ok (.int k (f i)) w := by
      simp [part, isAgg, run_underlying he, iC_get k n f i hi]
    have py : (part e (iC k n g) (i * 1)).run P w = .ok (.int k (g i)) w := by
      simp [part, isAgg, run_underlying he, iC_get k n g i hi]
    have pe : (Op.equalIn (d + 1) e (.int k (f i)) (.int k (g i))).run P w = .ok (f i == g i) w := by
      rw [run_equalIn_int w d e k k _ _ he]
    simp only [List.forIn_cons, Sem.run_bind, px, py, pe, Result.andThen_ok, List.all_cons]
    cases hb : (f i == g i)
    · simp
    · simp only [Bool.not_true, Bool.false_eq_true, if_false, Sem.run_pure, Result.andThen_ok, Bool.true_and]
      exact ih fun j hj => hl j (by simp [hj])
theorem run_eql_ints {P : Program} (w : World) (t e : TypeId) (n : Nat) (k : IntKind) (ht : P.underlying t = some (.array n e)) (he : P.underlying e = some (.int k)) (hsz : ∀ w, (sizeOf e).run P w = .ok 1 w) (f g : Nat → Int) :
    (binOp .eql t (.agg (iC k n f)) (.agg (iC k n g))).run P w = .ok (.bool ((List.range n).all fun i => f i == g i)) w := by
  rw [run_eql_struct, run_equalIn_ints w 9998 t e n k ht he hsz f g]
  rfl
theorem run_neq_ints {P : Program} (w : World) (t e : TypeId) (n : Nat) (k : IntKind) (ht : P.underlying t = some (.array n e)) (he : P.underlying e = some (.int k)) (hsz : ∀ w, (sizeOf e).run P w = .ok 1 w) (f g : Nat → Int) :
    (binOp .neq t (.agg (iC k n f)) (.agg (iC k n g))).run P w = .ok (.bool (!((List.range n).all fun i => f i == g i))) w := by
  rw [run_neq_struct, run_equalIn_ints w 9998 t e n k ht he hsz f g]
  rfl
theorem all_same (n : Nat) (f : Nat → Int) : ((List.range n).all fun i => f i == f i) = true := by simp

theorem all_bytes (l m : List UInt8) (hl : l.length = 32) (hm : m.length = 32) : ((List.range 32).all fun i => (((l.getD i 0).toNat : Nat) : Int) == (((m.getD i 0).toNat : Nat) : Int)) = decide (l = m) := by
  by_cases h : l = m
  · subst h; simp
  · rw [decide_eq_false h, Bool.eq_false_iff]
    intro hall
    apply h
    rw [List.all_eq_true] at hall
    apply List.ext_getElem (by omega)
    intro i h1 h2
    have := hall i (by simp; omega)
    simp [List.getD_eq_getElem?_getD, h1, h2] at this
    exact UInt8.toNat_inj.1 (by omega)
theorem sameH (l m : List UInt8) (hl : l.length = 32) (hm : m.length = 32) (w : World) : (Op.equalIn 10000 31 (.agg (bC 32 l)) (.agg (bC 32 m))).run Tryd.prog w = .ok (decide (l = m)) w := by
  have h := run_equalIn_ints (P := Tryd.prog) w 9998 31 5 32 .u8 Tryd.underlying31 Tryd.underlying5 (fun w => by kernel_rfl) (fun i => (((l.getD i 0).toNat : Nat) : Int)) (fun i => (((m.getD i 0).toNat : Nat) : Int))
  rw [all_bytes l m hl hm] at h
  exact h
theorem guardH : Tryd.prog.eqGuardType Tryd.prog.depth 31 = false := by kernel_rfl
theorem sameH1 (l : List UInt8) (hl : l.length = 32) (w : World) : (Op.equalIn 10000 31 (.agg (bC 32 l)) (.agg (bC 32 l))).run Tryd.prog w = .ok true w := by
  have := sameH l l hl hl w
  simpa using this
end Go.Proofs.YtlfkkfacbcpogaaDoor
namespace Go.Proofs.YtlfkkfacbcpogaaDoor
set_option maxRecDepth 4000
open Go.RowKit

theorem eql_hash (L : List UInt8) (w : World) : (binOp .eql 31 (.agg (bC 32 L)) (.agg (bC 32 L))).run Tryd.prog w = .ok (.bool true) w := by
  have h := run_eql_ints (P := Tryd.prog) w 31 5 32 .u8 Tryd.underlying31 Tryd.underlying5 (fun w => by kernel_rfl) (fun i => (((L.getD i 0).toNat : Nat) : Int)) (fun i => (((L.getD i 0).toNat : Nat) : Int))
  rw [all_same] at h
  exact h
theorem neq_hash (L : List UInt8) (w : World) : (binOp .neq 31 (.agg (bC 32 L)) (.agg (bC 32 L))).run Tryd.prog w = .ok (.bool false) w := by
  have h := run_neq_ints (P := Tryd.prog) w 31 5 32 .u8 Tryd.underlying31 Tryd.underlying5 (fun w => by kernel_rfl) (fun i => (((L.getD i 0).toNat : Nat) : Int)) (fun i => (((L.getD i 0).toNat : Nat) : Int))
  rw [all_same] at h
  exact h
theorem eql_words8 (l : List Nat) (w : World) : (binOp .eql 76 (.agg (wC 8 l)) (.agg (wC 8 l))).run Tryd.prog w = .ok (.bool true) w := by
  have h := run_eql_ints (P := Tryd.prog) w 76 22 8 .u32 Tryd.underlying76 Tryd.underlying22 (fun w => by kernel_rfl) (fun i => ((l.getD i 0 : Nat) : Int)) (fun i => ((l.getD i 0 : Nat) : Int))
  rw [all_same] at h
  exact h
theorem eql_words64 (l : List Nat) (w : World) : (binOp .eql 87 (.agg (wC 64 l)) (.agg (wC 64 l))).run Tryd.prog w = .ok (.bool true) w := by
  have h := run_eql_ints (P := Tryd.prog) w 87 22 64 .u32 Tryd.underlying87 Tryd.underlying22 (fun w => by kernel_rfl) (fun i => ((l.getD i 0 : Nat) : Int)) (fun i => ((l.getD i 0 : Nat) : Int))
  rw [all_same] at h
  exact h
theorem same_hash (L : List UInt8) (w : World) : (Op.equalIn 10000 31 (.agg (bC 32 L)) (.agg (bC 32 L))).run Tryd.prog w = .ok true w := by
  have h := run_equalIn_ints (P := Tryd.prog) w 9998 31 5 32 .u8 Tryd.underlying31 Tryd.underlying5 (fun w => by kernel_rfl) (fun i => (((L.getD i 0).toNat : Nat) : Int)) (fun i => (((L.getD i 0).toNat : Nat) : Int))
  rw [all_same] at h
  exact h
theorem same_words8 (l : List Nat) (w : World) : (Op.equalIn 10000 76 (.agg (wC 8 l)) (.agg (wC 8 l))).run Tryd.prog w = .ok true w := by
  have h := run_equalIn_ints (P := Tryd.prog) w 9998 76 22 8 .u32 Tryd.underlying76 Tryd.underlying22 (fun w => by kernel_rfl) (fun i => ((l.getD i 0 : Nat) : Int)) (fun i => ((l.getD i 0 : Nat) : Int))
  rw [all_same] at h
  exact h
theorem same_words64 (l : List Nat) (w : World) : (Op.equalIn 10000 87 (.agg (wC 64 l)) (.agg (wC 64 l))).run Tryd.prog w = .ok true w := by
  have h := run_equalIn_ints (P := Tryd.prog) w 9998 87 22 64 .u32 Tryd.underlying87 Tryd.underlying22 (fun w => by kernel_rfl) (fun i => ((l.getD i 0 : Nat) : Int)) (fun i => ((l.getD i 0 : Nat) : Int))
  rw [all_same] at h
  exact h
theorem guard_hash : Tryd.prog.eqGuardType Tryd.prog.depth 31 = false := by kernel_rfl
theorem guard_words8 : Tryd.prog.eqGuardType Tryd.prog.depth 76 = false := by kernel_rfl
theorem guard_words64 : Tryd.prog.eqGuardType Tryd.prog.depth 87 = false := by kernel_rfl
end Go.Proofs.YtlfkkfacbcpogaaDoor
namespace Go.Proofs.YtlfkkfacbcpogaaDoor
set_option maxRecDepth 4000
open Go.RowKit

/-! ### The empty string -/
def noB : ByteArray := ⟨#[]⟩
theorem noB_size : noB.size = 0 := rfl
theorem size0 {s : ByteArray} (h : s.size = 0) : s = noB := by
  apply ByteArray.ext
  exact Array.eq_empty_of_size_eq_zero h
theorem isE_yes : noB.toList.isEmpty = true := by rw [ByteArray.toList_eq]; rfl
theorem isE_no {s : ByteArray} (h : ¬ s.size = 0) : s.toList.isEmpty = false := by
  rw [ByteArray.toList_eq]
  cases e : s.data.toList with
  | nil => exact absurd (show s.data.toList.length = 0 by rw [e]; rfl) h
  | cons a l => rfl
/-! ### Nothing but one block -/
/-- Nothing but block b, and new memory; nor the machine's own state. -/
def OnlyC (b : Nat) (w w' : World) : Prop := Only b w w' ∧ w'.os = w.os ∧ w'.output = w.output
theorem OnlyC.refl (b : Nat) (w : World) : OnlyC b w w := ⟨Only.refl b w, rfl, rfl⟩
theorem OnlyC.trans {b : Nat} {u v w : World} (h : OnlyC b u v) (k : OnlyC b v w) : OnlyC b u w := ⟨h.1.trans k.1, k.2.1.trans h.2.1, k.2.2.trans h.2.2⟩
theorem OnlyC.ofGrown {u v : World} (b : Nat) (h : Grown u v) : OnlyC b u v := ⟨Only.ofGrown b h, h.1.1, h.1.2.1⟩
theorem OnlyC.ofCell {b : Nat} (w : World) (i : Nat) (v : Value) : OnlyC b w (w.setCell ⟨b, i, none⟩ v) := ⟨Only.ofCell w i v, rfl, rfl⟩
theorem OnlyC.newRow {b g : Nat} {u v : World} {C : Array Value} {T : TypeId} (h : OnlyC b u v) (hr : Rowz v g C T) (hg : u.heap.size ≤ g) (D : Array Value) : OnlyC b u (v.setRow g D) := by
  refine ⟨⟨fun w0 g0 hb => Grown.setRow (h.1.1 w0 g0 hb) hr (Nat.le_trans g0.2.2 hg) D, fun i hi hn => ?_, by simpa using h.1.2.2⟩, h.2.1, h.2.2⟩
  rw [setRow_other v g i D (by omega)]
  exact h.1.2.1 i hi hn
theorem OnlyC.newCell {b g : Nat} {u v : World} (h : OnlyC b u v) (hg : u.heap.size ≤ g) (i : Nat) (x : Value) : OnlyC b u (v.setCell ⟨g, i, none⟩ x) := by
  refine ⟨⟨fun w0 g0 hb => (h.1.1 w0 g0 hb).setCell (Nat.le_trans g0.2.2 hg) x, fun j hj hn => ?_, by simpa using h.1.2.2⟩, h.2.1, h.2.2⟩
  rw [heap_setCell_other v _ j x (by simp; omega)]
  exact h.1.2.1 j hj hn
theorem OnlyC.grown {b : Nat} {u v : World} (h : OnlyC b u v) (w : World) (G : Grown w u) (hb : w.heap.size ≤ b) : Grown w v := h.1.1 w G hb
theorem OnlyC.kept {b : Nat} {u v : World} (h : OnlyC b u v) (w : World) (K : Kept w u) (hb : w.heap.size ≤ b) : Kept w v := by
  refine ⟨h.2.1.trans K.1, h.2.2.trans K.2.1, fun i hi => ?_⟩
  rw [h.1.2.1 i (Nat.lt_of_lt_of_le hi K.size) (by omega)]
  exact K.2.2 i hi
theorem OnlyC.size {b : Nat} {u v : World} (h : OnlyC b u v) : u.heap.size ≤ v.heap.size := h.1.2.2
theorem Rowz.onlyC {b g : Nat} {w w' : World} {C : Array Value} {T : TypeId} (h : Rowz w g C T) (k : OnlyC b w w') (hn : g ≠ b) : Rowz w' g C T := Rowz.only h k.1 hn
/-! ### Results -/
theorem results_tmp_row {P : Program} {fn : Func} {p u : Tmp} {ty : TypeId} (h : fn.results = #[.tmp u, .cell p ty]) (tmps : Array Value) (w : World) (g : Nat) (t : TypeId) (cs : Array Value) (d : TypeDesc) (v : Value)
    (hv : tmps.getD u undef = v) (hp : tmps.getD p undef = .pointer (some ⟨g, 0, none⟩)) (hg : Rowz w g cs t)
    (hu : P.underlying ty = some d) (hd : (match d with | .struct _ | .array _ _ => true | _ => false) = true) (hi : (P.info? ty).map (·.size) = some cs.size) :
    (results fn tmps).run P w = .ok (.tuple #[v, .agg cs]) w := by
  have hp' : tmps[p]?.getD undef = .pointer (some ⟨g, 0, none⟩) := by simpa using hp
  have hv' : tmps[u]?.getD undef = v := by simpa using hv
  simp [results, h, hp', hv', asAddr, run_loadVar_row w g t ty cs (0, 0) d hg hu hd hi, Result.andThen]

theorem results_row_row {P : Program} {fn : Func} {p u : Tmp} {ty ty2 : TypeId} (h : fn.results = #[.cell p ty, .cell u ty2]) (tmps : Array Value) (w : World) (g g2 : Nat) (t t2 : TypeId) (cs cs2 : Array Value) (d d2 : TypeDesc)
    (hp : tmps.getD p undef = .pointer (some ⟨g, 0, none⟩)) (hp2 : tmps.getD u undef = .pointer (some ⟨g2, 0, none⟩)) (hg : Rowz w g cs t) (hg2 : Rowz w g2 cs2 t2)
    (hu : P.underlying ty = some d) (hd : (match d with | .struct _ | .array _ _ => true | _ => false) = true) (hi : (P.info? ty).map (·.size) = some cs.size)
    (hu2 : P.underlying ty2 = some d2) (hd2 : (match d2 with | .struct _ | .array _ _ => true | _ => false) = true) (hi2 : (P.info? ty2).map (·.size) = some cs2.size) :
    (results fn tmps).run P w = .ok (.tuple #[.agg cs, .agg cs2]) w := by
  have hp' : tmps[p]?.getD undef = .pointer (some ⟨g, 0, none⟩) := by simpa using hp
  have hp2' : tmps[u]?.getD undef = .pointer (some ⟨g2, 0, none⟩) := by simpa using hp2
  simp [results, h, hp', hp2', asAddr, run_loadVar_row w g t ty cs (0, 0) d hg hu hd hi, run_loadVar_row w g2 t2 ty2 cs2 (0, 0) d2 hg2 hu2 hd2 hi2, Result.andThen]
/-! ### Operations taken whole -/
theorem wpList_exec {P : Program} {ops : Array Oper} {rest : List Oper} {o : Oper} {t : Array Value} {ds : List Deferred} {w : World} {Q : Exit → Act → World → Prop} (d : Nat) (hd : o.dst = some d) (hw : Region.wanted o (yielded ops t) = true) (v : Value) (w' : World)
    (hx : (execOp (evS t) o).run P w = .ok (.value v) w') (h : wpList P ops Q rest ⟨t.setIfInBounds d v, ds⟩ w') : wpList P ops Q (o :: rest) ⟨t, ds⟩ w := by
  have e : (Act.mk t ds).put o.dst v = ⟨t.setIfInBounds d v, ds⟩ := by rw [hd]; rfl
  rw [← e] at h
  rw [wpList, if_pos hw]
  left
  unfold Oper.wp
  rw [evS_eq, hx]
  exact h
/-- A step that makes memory, its value known by a property only. -/
theorem stepOK_val {P : Program} {F : Nat → Value → World → Prop} {d : Nat} {o : Oper} {t : Array Value} {w : World} (h : ∃ v w', (execOp (evS t) o).run P w = .ok (.value v) w' ∧ Kept w w' ∧ F d v w') : StepOK P F d o t w := by
  obtain ⟨v, w', h1, h2, h3⟩ := h
  exact .value v w' h1 h2 h3
theorem execLoadRow {P : Program} {o : Oper} {t : Array Value} {x : Operand} {w : World} (ty : TypeId) (ho : o.op = .load ty x) (g : Nat) (hx : evS t x = .pointer (some ⟨g, 0, none⟩)) (C : Array Value) (T : TypeId) (d : TypeDesc) (hg : Rowz w g C T)
    (hu : P.underlying ty = some d) (hd : (match d with | .struct _ | .array _ _ => true | _ => false) = true) (hi : (P.info? ty).map (·.size) = some C.size) : (execOp (evS t) o).run P w = .ok (.value (.agg C)) w := by
  unfold execOp
  simp only [ho, hx, Instr.loadAt, Instr.sureAddr, Sem.run_bind, Sem.run_pure, Result.andThen_ok, run_loadVar_row w g T ty C (0, 0) d hg hu hd hi]
theorem yieldsIf_exec {P : Program} {ops : Array Oper} {S : World → Prop} {op : Oper} {t : Array Value} {ds : List Deferred} {v : Value} (hw : Region.wanted op (yielded ops t) = true)
    (hx : ∀ w, S w → (execOp (evS t) op).run P w = .ok (.value v) w) : YieldsIf P ops S op v ⟨t, ds⟩ :=
  .inl ⟨hw, fun w h => by rw [evS_eq]; exact hx w h⟩
theorem wpList_store_madeG {P : Program} {ops : Array Oper} {rest : List Oper} {op : Oper} {a : Act} {Q : Exit → Act → World → Prop} (hgd : op.guard = none) (ty : TypeId) (x y : Operand) (ho : op.op = .store ty x y)
    (w : World) (o : Obj) (cells : Array Value) (hx : a.eval x = .pointer (some ⟨w.heap.size, 0, none⟩)) (hy : a.eval y = .agg cells) (t : TypeId) (cur : Array Value) (hob : o = .cells cur t)
    (hi : (P.info? ty).map (·.size) = some cells.size) (hs : cur.size = cells.size) (h1 : cells.all (·.oneCell') = true)
    (h : ∀ v, Hid (Rowz v w.heap.size cells t) → Hid (Grown w v) → wpList P ops Q rest (a.put op.dst undef) v) : wpList P ops Q (op :: rest) a (w.alloc o) := by
  subst hob
  have hr := Rowz.new w cur t
  exact wpList_store_row hgd ty x y ho w.heap.size cells hx hy t cur hr hi hs h1 (h _ (Lib.hid hr.row) (Lib.hid (Grown.setRow ((Grown.refl w).alloc _ _) hr (Nat.le_refl _) _)))
theorem wpList_store_rowN {P : Program} {ops : Array Oper} {rest : List Oper} {op : Oper} {a : Act} {w : World} {Q : Exit → Act → World → Prop} (hgd : op.guard = none) (ty : TypeId) (x y : Operand) (ho : op.op = .store ty x y)
    (g : Nat) (cells : Array Value) (hx : a.eval x = .pointer (some ⟨g, 0, none⟩)) (hy : a.eval y = .agg cells) (t : TypeId) (cur : Array Value) (hr : Rowz w g cur t)
    (hi : (P.info? ty).map (·.size) = some cells.size) (hs : cur.size = cells.size) (h1 : cells.all (·.oneCell') = true)
    (h : ∀ v, Hid (v = w.setRow g cells) → wpList P ops Q rest (a.put op.dst undef) v) : wpList P ops Q (op :: rest) a w :=
  wpList_store_row hgd ty x y ho g cells hx hy t cur hr hi hs h1 (h _ (Lib.hid rfl))
theorem park_none {P : Program} {ops : Array Oper} {Q : Exit → Act → World → Prop} {o : Oper} {rest : List Oper} {a : Act} {w : World} (_ : o.dst = none) (h : Parked (wpList P ops Q (o :: rest) a w)) : wpList P ops Q (o :: rest) a w := h.out
theorem execEqS {o : Oper} {t : Array Value} {x y : Operand} (a b : ByteArray) (w : World) (ho : o.op = .binOp .eql 9 x y 9) (hx : evS t x = .string a) (hy : evS t y = .string b) :
    (execOp (evS t) o).run Tryd.prog w = .ok (.value (.bool (a.toList == b.toList))) w := by
  unfold execOp
  rw [ho]
  simp only [hx, hy]
  go_simp
theorem execEq64 {o : Oper} {t : Array Value} {x y : Operand} (a b : Nat) (w : World) (ho : o.op = .binOp .eql 25 x y 25) (hx : evS t x = .int .u64 (a : Int)) (hy : evS t y = .int .u64 (b : Int)) :
    (execOp (evS t) o).run Tryd.prog w = .ok (.value (.bool ((a : Int) == (b : Int)))) w := by
  unfold execOp
  rw [ho]
  simp only [hx, hy]
  go_simp
theorem execEq8 {o : Oper} {t : Array Value} {x y : Operand} (a b : Nat) (w : World) (ho : o.op = .binOp .eql 5 x y 5) (hx : evS t x = .int .u8 (a : Int)) (hy : evS t y = .int .u8 (b : Int)) :
    (execOp (evS t) o).run Tryd.prog w = .ok (.value (.bool ((a : Int) == (b : Int)))) w := by
  unfold execOp
  rw [ho]
  simp only [hx, hy]
  go_simp
theorem run_cutT (s : ByteArray) (n : Nat) (w : World) (hn : n ≤ s.size) : (Instr.sliceAt 9 (.string s) (some (.int .i64 (n : Int))) none none).run Tryd.prog w = .ok (.string (s.extract n s.size)) w := by
  have h : (n : Int) ≤ (s.size : Int) := by omega
  go_simp
theorem run_cutH (s : ByteArray) (n : Nat) (w : World) (hn : n ≤ s.size) : (Instr.sliceAt 9 (.string s) none (some (.int .i64 (n : Int))) none).run Tryd.prog w = .ok (.string (s.extract 0 n)) w := by
  have h : (n : Int) ≤ (s.size : Int) := by omega
  go_simp
theorem sizeU8c : (Tryd.prog.info? 5).map (·.size) = some 1 := by kernel_rfl
theorem info32c (l : List UInt8) : (Tryd.prog.info? 31).map (·.size) = some (bC 32 l).size := by rw [bC_size]; kernel_rfl
theorem execEqHs {o : Oper} {t : Array Value} {x y : Operand} (l m : List UInt8) (hl : l.length = 32) (hm : m.length = 32) (w : World) (ho : o.op = .binOp .eql 31 x y 31) (hx : evS t x = .agg (bC 32 l)) (hy : evS t y = .agg (bC 32 m)) :
    (execOp (evS t) o).run Tryd.prog w = .ok (.value (.bool (decide (l = m)))) w := by
  have hq0 := sameH l m hl hm w
  have hq1 := guardH
  unfold execOp
  rw [ho]
  simp only [hx, hy]
  go_simp
theorem execEqH1 {o : Oper} {t : Array Value} {x y : Operand} (l : List UInt8) (hl : l.length = 32) (w : World) (ho : o.op = .binOp .eql 31 x y 31) (hx : evS t x = .agg (bC 32 l)) (hy : evS t y = .agg (bC 32 l)) :
    (execOp (evS t) o).run Tryd.prog w = .ok (.value (.bool true)) w := by
  have h := execEqHs l l hl hl w ho hx hy
  rw [decide_eq_true rfl] at h
  exact h
end Go.Proofs.YtlfkkfacbcpogaaDoor
namespace Go.Proofs.YtlfkkfacbcpogaaDoor
set_option maxRecDepth 4000
open Go.ChangeShapes Go.WideShapes Go.ChangeAt Go.RowKit

/-- n strings from p on. -/
def SAt (w : World) (p : Option Addr) (n : Nat) (S : Nat → ByteArray) : Prop := ∀ i, i < n → ∃ a : Addr, p = some a ∧ a.block < w.heap.size ∧ w.cell? (a.add i) = some (.string (S i))
/-- n hashes from p on. -/
def HAt (w : World) (p : Option Addr) (n : Nat) (F : Nat → List UInt8) : Prop :=
  ∀ i, i < n → (F i).length = 32 ∧ ∃ a : Addr, p = some a ∧ a.block < w.heap.size ∧ ∀ j u, (bC 32 (F i)).toList[j]? = some u → w.cell? (a.add (i * 32 + j)) = some u
theorem SAt.kept {w w' : World} {p : Option Addr} {n : Nat} {S : Nat → ByteArray} (h : SAt w p n S) (K : Kept w w') : SAt w' p n S := by
  intro i hi
  obtain ⟨a, hp, hb, hc⟩ := h i hi
  refine ⟨a, hp, Nat.lt_of_lt_of_le hb K.size, ?_⟩
  rw [Kept.cellAt K _ (by rw [add_block]; exact hb)]; exact hc
theorem HAt.kept {w w' : World} {p : Option Addr} {n : Nat} {F : Nat → List UInt8} (h : HAt w p n F) (K : Kept w w') : HAt w' p n F := by
  intro i hi
  obtain ⟨hl, a, hp, hb, hc⟩ := h i hi
  refine ⟨hl, a, hp, Nat.lt_of_lt_of_le hb K.size, fun j u hj => ?_⟩
  rw [Kept.cellAt K _ (by rw [add_block]; exact hb)]; exact hc j u hj
theorem SAt.zero (w : World) (p : Option Addr) (S : Nat → ByteArray) : SAt w p 0 S := fun i hi => absurd hi (Nat.not_lt_zero i)
theorem HAt.zero (w : World) (p : Option Addr) (F : Nat → List UInt8) : HAt w p 0 F := fun i hi => absurd hi (Nat.not_lt_zero i)
theorem SAt.some {w : World} {p : Option Addr} {n : Nat} {S : Nat → ByteArray} (h : SAt w p n S) (hn : 0 < n) : ∃ a, p = .some a ∧ a.block < w.heap.size := by
  obtain ⟨a, hp, hb, _⟩ := h 0 hn; exact ⟨a, hp, hb⟩
theorem HAt.some {w : World} {p : Option Addr} {n : Nat} {F : Nat → List UInt8} (h : HAt w p n F) (hn : 0 < n) : ∃ a, p = .some a ∧ a.block < w.heap.size := by
  obtain ⟨_, a, hp, hb, _⟩ := h 0 hn; exact ⟨a, hp, hb⟩
theorem SAt.cell {w : World} {a : Addr} {n : Nat} {S : Nat → ByteArray} (h : SAt w (.some a) n S) (i : Nat) (hi : i < n) : w.cell? (a.add i) = .some (.string (S i)) := by
  obtain ⟨q, e, _, hc⟩ := h i hi
  obtain rfl := Option.some.inj e
  exact hc
theorem SAt.left {w : World} {p : Option Addr} {n : Nat} {S : Nat → ByteArray} (h : SAt w p n S) (m : Nat) (hm : m ≤ n) : SAt w p m S := fun i hi => h i (by omega)
theorem HAt.left {w : World} {p : Option Addr} {n : Nat} {F : Nat → List UInt8} (h : HAt w p n F) (m : Nat) (hm : m ≤ n) : HAt w p m F := fun i hi => h i (by omega)
theorem SAt.right {w : World} {a : Addr} {n : Nat} {S : Nat → ByteArray} (h : SAt w (.some a) n S) (m : Nat) (hm : m ≤ n) : SAt w (.some (a.add m)) (n - m) (fun i => S (m + i)) := by
  intro i hi
  obtain ⟨q, e, hb, hc⟩ := h (m + i) (by omega)
  obtain rfl := Option.some.inj e
  exact ⟨_, rfl, by rw [add_block]; exact hb, by rw [Deep.add_add]; exact hc⟩
theorem HAt.right {w : World} {a : Addr} {n : Nat} {F : Nat → List UInt8} (h : HAt w (.some a) n F) (m : Nat) (hm : m ≤ n) : HAt w (.some (a.add (m * 32))) (n - m) (fun i => F (m + i)) := by
  intro i hi
  obtain ⟨hl, q, e, hb, hc⟩ := h (m + i) (by omega)
  obtain rfl := Option.some.inj e
  refine ⟨hl, _, rfl, by rw [add_block]; exact hb, fun j u hj => ?_⟩
  rw [Deep.add_add, show m * 32 + (i * 32 + j) = (m + i) * 32 + j by omega]
  exact hc j u hj
theorem HAt.length {w : World} {p : Option Addr} {n : Nat} {F : Nat → List UInt8} (h : HAt w p n F) : ∀ i, i < n → (F i).length = 32 := fun i hi => (h i hi).1
theorem HAt.load {w : World} {a : Addr} {n : Nat} {F : Nat → List UInt8} (h : HAt w (.some a) n F) (i : Nat) (hi : i < n) :
    (Instr.loadAt 31 (.pointer (.some (a.add (i * 32))))).run Tryd.prog w = .ok (.agg (bC 32 (F i))) w := by
  obtain ⟨hl, q, e, hb, hc⟩ := h i hi
  obtain rfl := Option.some.inj e
  have h1 := run_loadCells_list (P := Tryd.prog) w (a.add (i * 32)) (bC 32 (F i)).toList (fun j v hj => by rw [Deep.add_add]; exact hc j v hj)
  rw [Array.length_toList, bC_size, Array.toArray_toList] at h1
  have hagg : (isAgg 31).run Tryd.prog w = .ok true w := by
    unfold isAgg
    rw [Sem.run_bind, run_underlying Tryd.underlying31 w]
    rfl
  have hsz : (Go.sizeOf 31).run Tryd.prog w = .ok 32 w := by kernel_rfl
  simp only [Instr.loadAt, Instr.sureAddr, Sem.run_bind, Sem.run_pure, Result.andThen_ok, loadVar, hagg, hsz, h1, if_true]
theorem HAt.load0 {w : World} {a : Addr} {n : Nat} {F : Nat → List UInt8} (h : HAt w (.some a) n F) (hn : 0 < n) :
    (Instr.loadAt 31 (.pointer (.some a))).run Tryd.prog w = .ok (.agg (bC 32 (F 0))) w := by
  have := h.load 0 hn
  simpa [Addr.add] using this

/-! ### A row of hashes -/
/-- n hashes in a row, 32 cells each. -/
def hC (n : Nat) (F : Nat → List UInt8) : Array Value := ((List.range (n * 32)).map fun k => Value.int .u8 ((((F (k / 32)).getD (k % 32) 0).toNat : Nat) : Int)).toArray
theorem hC_size (n : Nat) (F : Nat → List UInt8) : (hC n F).size = n * 32 := by simp [hC]
theorem hC_get (n : Nat) (F : Nat → List UInt8) (k : Nat) (h : k < n * 32) : (hC n F)[k]? = .some (.int .u8 ((((F (k / 32)).getD (k % 32) 0).toNat : Nat) : Int)) := by simp [hC, h]
theorem hC_one (n : Nat) (F : Nat → List UInt8) : ∀ x ∈ (hC n F).toList, x.oneCell' = true := by
  intro x hx
  simp only [hC, List.mem_map] at hx
  obtain ⟨i, _, rfl⟩ := hx
  rfl
theorem hC_congr (n : Nat) (F G : Nat → List UInt8) (h : ∀ i, i < n → F i = G i) : hC n F = hC n G := by
  unfold hC
  congr 1
  apply List.map_congr_left
  intro k hk
  have : k < n * 32 := by simpa using hk
  rw [h (k / 32) (by omega)]
/-- One hash more, written into the row of n. -/
theorem hC_put (n : Nat) (F : Nat → List UInt8) (k : Nat) (h : List UInt8) (hk : k < n) :
    ((hC n F).toList.take (k * 32) ++ (bC 32 h).toList ++ (hC n F).toList.drop (k * 32 + 32)).toArray = hC n (fun i => if i = k then h else F i) := by
  apply Array.ext
  · simp [hC_size, bC_size]; omega
  · intro i h1 h2
    have hi : i < n * 32 := by rw [hC_size] at h2; exact h2
    apply Option.some.inj
    rw [← Array.getElem?_eq_getElem, ← Array.getElem?_eq_getElem, hC_get _ _ _ hi]
    simp only [List.getElem?_toArray]
    by_cases a1 : i < k * 32
    · rw [List.append_assoc, List.getElem?_append_left (by simp [hC_size]; omega), List.getElem?_take, if_pos a1, Array.getElem?_toList, hC_get _ _ _ hi, if_neg (by omega)]
    · by_cases a2 : i < k * 32 + 32
      · rw [List.getElem?_append_left (by simp [hC_size, bC_size]; omega), List.getElem?_append_right (by simp [hC_size]; omega), Array.getElem?_toList]
        simp only [List.length_take, Array.length_toList, hC_size]
        rw [show min (k * 32) (n * 32) = k * 32 by omega, bC_get _ _ _ (by omega), if_pos (by omega), show i - k * 32 = i % 32 by omega]
      · rw [List.getElem?_append_right (by simp [hC_size, bC_size]; omega), List.getElem?_drop, Array.getElem?_toList]
        simp only [List.length_append, List.length_take, Array.length_toList, hC_size, bC_size]
        rw [show k * 32 + 32 + (i - (min (k * 32) (n * 32) + 32)) = i by omega, hC_get _ _ _ hi, if_neg (by omega)]
theorem hC_snoc (k : Nat) (F : Nat → List UInt8) : (hC k F).toList ++ (bC 32 (F k)).toList = (hC (k + 1) F).toList := by
  apply List.ext_getElem?
  intro i
  by_cases a1 : i < k * 32
  · rw [List.getElem?_append_left (by simp [hC_size]; omega), Array.getElem?_toList, Array.getElem?_toList, hC_get _ _ _ a1, hC_get _ _ _ (by omega)]
  · rw [List.getElem?_append_right (by simp [hC_size]; omega), Array.length_toList, hC_size, Array.getElem?_toList, Array.getElem?_toList]
    by_cases a2 : i < (k + 1) * 32
    · rw [bC_get _ _ _ (by omega), hC_get _ _ _ a2, show i / 32 = k by omega, show i - k * 32 = i % 32 by omega]
    · rw [Array.getElem?_eq_none (by rw [bC_size]; omega), Array.getElem?_eq_none (by rw [hC_size]; omega)]
theorem madeCells_hashes (n : Nat) : madeCells (bC 32 []) (n * 32) = hC n (fun _ => []) := by
  apply Array.ext
  · simp [madeCells, hC]
  · intro i h1 h2
    have h3 : i % 32 < 32 := Nat.mod_lt _ (by decide)
    simp [madeCells, hC, bC, h3]
/-- A row of hashes, in a block of its own or at its head. -/
theorem HAt.ofCells {w : World} {g n : Nat} {F : Nat → List UInt8} {cur : Array Value} {T : TypeId} (h : Rowz w g cur T) (hl : ∀ i, i < n → (F i).length = 32) (hc : ∀ k, k < n * 32 → cur[k]? = (hC n F)[k]?) : HAt w (.some ⟨g, 0, none⟩) n F := by
  intro i hi
  refine ⟨hl i hi, _, rfl, h.lt, fun j u hj => ?_⟩
  have hj32 : j < 32 := by
    have := (List.getElem?_eq_some_iff.1 hj).1
    simpa [bC_size] using this
  have e : (⟨g, 0, none⟩ : Addr).add (i * 32 + j) = ⟨g, i * 32 + j, none⟩ := by rw [Addr.add_mid]; simp
  rw [e, h.cell, hc _ (by omega), hC_get _ _ _ (by omega), show (i * 32 + j) / 32 = i by omega, show (i * 32 + j) % 32 = j by omega, ← hj, Array.getElem?_toList, bC_get _ _ _ hj32]
theorem HAt.ofRow {w : World} {g n : Nat} {F : Nat → List UInt8} {T : TypeId} (h : Rowz w g (hC n F) T) (hl : ∀ i, i < n → (F i).length = 32) : HAt w (.some ⟨g, 0, none⟩) n F := HAt.ofCells h hl (fun _ _ => rfl)

/-! ### Among the arguments -/
section
variable {H : Type} {enc : TypeId × Value → H} {P : Program} {W : World}
theorem open_sslice {sp : Nat → Bool} {held : Bool} {t e : TypeId} {base : Nat} {v : Value} {d : DataW H} {ps : List MemPlace}
    (ht : P.underlying t = .some (.slice e)) (he : P.underlying e = .some .string) (hc : P.cellsOf e = 1) (hv : Value.okWide P W .any base t v) (h : DataW.Trod enc P W 0 sp held t v d ps) :
    ∃ (p : Option Addr) (n c : Nat) (S : Nat → ByteArray), (n ≤ c ∧ c ≤ maxLen) ∧ v = .slice p n c ∧ SAt W p n S ∧
      ∀ {ts : List TypeId} {ds : List (DataW H)} {J : Nat}, (DataW.weightsEach P ts ds).all (· ≤ reachBytes) = true → ts[J]? = .some t → ds[J]? = .some d → n * P.bytesOf e ≤ reachBytes ∧ ∀ i, i < n → (S i).size ≤ 140737488351232 := by
  obtain ⟨a0, len, cap, rfl⟩ := okWide_slice ht hv
  obtain ⟨fuel, hf⟩ := h
  rcases Deep.open_strs ht he hc hf with ⟨hcs, _⟩ | ⟨a, len', cap', m, Sx, hcs, _, hl, hm, hmm, hx0, hx⟩
  · have e1 : [Value.slice a0 len cap] = [Value.slice none 0 0] := hcs
    simp only [List.cons.injEq, Value.slice.injEq, and_true] at e1
    obtain ⟨rfl, rfl, rfl⟩ := e1
    exact ⟨none, 0, 0, fun _ => ByteArray.empty, ⟨Nat.le_refl _, Nat.zero_le _⟩, rfl, SAt.zero _ _ _, fun _ _ _ => ⟨by rw [Nat.zero_mul]; exact Nat.zero_le _, fun i hi => absurd hi (Nat.not_lt_zero i)⟩⟩
  · have e1 : [Value.slice a0 len cap] = [Value.slice (.some a) len' cap'] := hcs
    simp only [List.cons.injEq, Value.slice.injEq, and_true] at e1
    obtain ⟨rfl, rfl, rfl⟩ := e1
    have hlm : len ≤ m := by rw [hmm]; split <;> omega
    refine ⟨.some a, len, cap, Sx, ⟨hl, hm⟩, rfl, fun i hi => ?_, fun {ts ds J} hsz hT hD => ?_⟩
    · obtain ⟨h1, _⟩ := hx i (by omega)
      refine ⟨a, rfl, ?_, h1⟩
      have := lt_of_cell h1
      rwa [add_block] at this
    · have hd := congrArg Prod.fst hx0
      simp only at hd
      subst hd
      refine ⟨?_, fun i hi => ?_⟩
      · have h1 := sized_slice hsz hT hD ht
        simp only [List.length_map, List.length_range] at h1
        exact Nat.le_trans (Nat.mul_le_mul_right _ (by omega)) h1
      · have hm' : (Sx i).size ∈ (DataW.slice ((List.range len).map fun i => .lit (.string (Sx i).data.toList)) ((List.range (m - len)).map fun j => .lit (.string (Sx (len + j)).data.toList)) : DataW H).weights P t := by
          simp only [DataW.weights, ht]
          refine List.mem_cons_of_mem _ (List.mem_append_left _ (mem_weightsAll (x := .lit (.string (Sx i).data.toList)) ?_ (List.mem_map.2 ⟨i, List.mem_range.2 hi, rfl⟩)))
          have e : DataW.weights P e (.lit (.string (Sx i).data.toList) : DataW H) = [(Sx i).data.toList.length] := by rw [DataW.weights]
          rw [e, Array.length_toList]
          exact List.mem_singleton.2 rfl
        have := List.all_eq_true.1 hsz _ (DataW.weights_mem_each hT hD _ hm')
        exact of_decide_eq_true this
theorem open_hslice {sp : Nat → Bool} {held : Bool} {s t e : TypeId} {base : Nat} {v : Value} {d : DataW H} {ps : List MemPlace}
    (hs : P.underlying s = .some (.slice t)) (ht : P.underlying t = .some (.array 32 e)) (hct : P.cellsOf t = 32) (he : P.underlying e = .some (.int .u8)) (hce : P.cellsOf e = 1)
    (hv : Value.okWide P W .any base s v) (h : DataW.Trod enc P W 0 sp held s v d ps) :
    ∃ (p : Option Addr) (n c : Nat) (F : Nat → List UInt8), (n ≤ c ∧ c ≤ maxLen) ∧ v = .slice p n c ∧ HAt W p n F := by
  obtain ⟨a0, len, cap, rfl⟩ := okWide_slice hs hv
  obtain ⟨fuel, hf⟩ := h
  rcases Deep.open_slice hs hf with ⟨hcs, _⟩ | ⟨a, len', cap', m, n, D, Pl, hcs, _, hl, hm, hmm, _, hx⟩
  · have e1 : [Value.slice a0 len cap] = [Value.slice none 0 0] := hcs
    simp only [List.cons.injEq, Value.slice.injEq, and_true] at e1
    obtain ⟨rfl, rfl, rfl⟩ := e1
    exact ⟨none, 0, 0, fun _ => [], ⟨Nat.le_refl _, Nat.zero_le _⟩, rfl, HAt.zero _ _ _⟩
  · have e1 : [Value.slice a0 len cap] = [Value.slice (.some a) len' cap'] := hcs
    simp only [List.cons.injEq, Value.slice.injEq, and_true] at e1
    obtain ⟨rfl, rfl, rfl⟩ := e1
    have hlm : len ≤ m := by rw [hmm]; split <;> omega
    have each : ∀ i, i < len → ∃ l : List UInt8, l.length = 32 ∧ ∀ j u, (bC 32 l).toList[j]? = .some u → W.cell? (a.add (i * 32 + j)) = .some u := fun i hi => by
      obtain ⟨cs', h1, h2⟩ := hx i (by omega)
      rw [hct] at h1
      obtain ⟨_, hlen, hcell⟩ := World.cells?_some h1
      have hT : DataW.Trod enc P W 0 sp held t (.agg cs'.toArray) (D i) (Pl i) := ⟨n, h2⟩
      obtain ⟨l, hl32, er⟩ := open_hash ht he hce hct hT
      refine ⟨l, hl32, fun j u hj => ?_⟩
      have hj32 : j < 32 := by
        have := (List.getElem?_eq_some_iff.1 hj).1
        simpa [bC_size] using this
      have hc := hcell j hj32
      rw [Deep.add_add] at hc
      have er' : cs' = (bC 32 l).toList := by rw [← er]
      rw [hc, er', hj]
    obtain ⟨F, hF⟩ := Deep.choose_lt each
    refine ⟨.some a, len, cap, F, ⟨hl, hm⟩, rfl, fun i hi => ⟨(hF i hi).1, a, rfl, ?_, (hF i hi).2⟩⟩
    have hz : (bC 32 (F i)).toList[0]? = .some (.int .u8 ((((F i).getD 0 0).toNat : Nat) : Int)) := by rw [Array.getElem?_toList, bC_get _ _ _ (by omega)]
    have := lt_of_cell ((hF i hi).2 0 _ hz)
    rwa [add_block] at this
end
end Go.Proofs.YtlfkkfacbcpogaaDoor
namespace Go.Proofs.YtlfkkfacbcpogaaDoor
set_option maxRecDepth 4000
open Go.RowKit

def catS (xs : List ByteArray) : ByteArray := ⟨(Lib.join (xs.map (·.data.toList)) []).toArray⟩
def tagB (tg : Nat) : ByteArray := ⟨#[UInt8.ofNat tg]⟩
theorem tagB_size (tg : Nat) : (tagB tg).size = 1 := rfl
def tagS (tg : Nat) (s : ByteArray) : ByteArray := tagB tg ++ s

theorem join_any (bk c : Nat) (xs : List ByteArray) (w : World) (hcells : ∀ (j : Nat) x, xs[j]? = some x → w.cell? ⟨bk, j, none⟩ = some (.string x)) (hbk : bk < w.heap.size) (hN : xs.length ≤ c) (hc : xs.length ≤ 1000)
    (hlen : (catS xs).size ≤ 140737488355328) :
    Calls Tryd.prog 69 #[.slice (some ⟨bk, 0, none⟩) xs.length c, .string ⟨#[]⟩] w fun e w' => e = .returned (.string (catS xs)) ∧ Kept w w' :=
  (Tryd.strings_Join bk 0 c xs ⟨#[]⟩ w (fun j x h => by rw [Nat.zero_add]; exact hcells j x h) hbk (by omega) hN (by simpa [catS, ByteArray.size] using hlen)).mono fun e w' ⟨he, hb⟩ => ⟨he, kept_below hb⟩

theorem run_build1 (x : Int) (w : World) : (Instr.buildSlice 62 1 #[(0, .int .u8 x)]).run Tryd.prog w = .ok (.slice (some ⟨w.heap.size, 0, none⟩) 1 1) (w.alloc (.cells #[.int .u8 x] 5)) := by kernel_rfl
theorem run_strB1 (w : World) (g tg : Nat) (htg : tg < 256) (hr : Rowz w g #[.int .u8 tg] 5) : (convert 62 9 (.slice (some ⟨g, 0, none⟩) 1 1)).run Tryd.prog w = .ok (.string (tagB tg)) w :=
  run_strB w g 0 1 [UInt8.ofNat tg] (fun j hj => by
    obtain rfl : j = 0 := by simp at hj; omega
    rw [hr.cell]
    simp
    omega)

theorem cells_of_strs {w : World} {g : Nat} {xs : List ByteArray} {T : TypeId} (h : Rowz w g (xs.map Value.string).toArray T) (j : Nat) (x : ByteArray) (hx : xs[j]? = some x) : w.cell? ⟨g, j, none⟩ = some (.string x) := by
  rw [h.cell]
  simp [hx]
theorem catS_one (x : ByteArray) : catS [x] = x := by
  apply ByteArray.ext; simp [catS, Lib.join]
theorem catS_two (x y : ByteArray) : catS [x, y] = x ++ y := by
  apply ByteArray.ext; rw [ByteArray.data_append]; simp [catS, Lib.join]
theorem catS_three (x y z : ByteArray) : catS [x, y, z] = x ++ y ++ z := by
  apply ByteArray.ext; rw [ByteArray.data_append, ByteArray.data_append]; simp [catS, Lib.join]

theorem tagText_any (k : Int) (tg : Nat) (hk0 : k = tg) (htg : tg < 256) (g n : Nat) (T : TypeId) (xs : List ByteArray) (w : World) (hr : Rowz w g (xs.map Value.string).toArray T) (hn : xs.length = n) (hc : n ≤ 1000)
    (s : ByteArray) (hs : catS xs = s) (hlen : s.size ≤ 140737488355328) :
    Calls Tryd.prog 52 #[.int .u8 k, .slice (some ⟨g, 0, none⟩) n n] w fun e w' => e = .returned (.string (tagS tg s)) ∧ Kept w w' := by
  subst hk0; subst hs; subst hn
  have HR := Lib.hid hr
  clear hr
  go_enter Tryd.func52, Tryd.ntmps52
  go_wp2_with fail
  refine wp_region_table [(5, .is (.int .u8 tg)), (6, .row (sliceAt0 1) #[.int .u8 tg] 5), (7, .is (.string (tagB tg))), (8, .is (.slice (some ⟨g, 0, none⟩) xs.length xs.length)), (9, .is (.string (catS xs))), (10, .is (.string (tagS tg (catS xs)))), (4, .is (.string (tagS tg (catS xs))))] (by kernel_rfl) (by kernel_rfl) ?_ ?_
  · refine ⟨fun t w1 hf hk hp => ?_, ?_⟩
    · have h0 : slot t 0 = .int .u8 tg := hf 0 (by kernel_rfl)
      clear hf hp
      refine stepAt_plain rfl ?_
      exact stepOK_move _ (.inl rfl) h0
    refine ⟨fun t w1 hf hk hp => ?_, ?_⟩
    · have h5 : slot t 5 = .int .u8 tg := hp 5 (by kernel_rfl)
      clear hf hp
      refine stepAt_plain rfl ?_
      have hq0 := run_build1 tg w1
      refine .value ((sliceAt0 1) w1.heap.size) (w1.alloc (.cells #[.int .u8 tg] 5)) ?_ ((Kept.refl w1).alloc _) ⟨_, rfl, Rowz.new w1 _ _⟩
      simp only [execOp, evS, List.map_toArray, List.map_cons, List.map_nil, h5, sliceAt0]
      go_simp
    refine ⟨fun t w1 hf hk hp => ?_, ?_⟩
    · obtain ⟨g6, h6, r6⟩ : ∃ g, slot t 6 = (sliceAt0 1) g ∧ Rowz w1 g #[.int .u8 tg] 5 := hp 6 (by kernel_rfl)
      simp only [sliceAt0] at h6
      clear hf hp
      refine stepAt_plain rfl ?_
      have hq0 := run_strB1 w1 g6 tg htg r6
      exact stepOK_sem (.string (tagB tg)) (by simp only [execOp, evS, h6]) hq0 rfl
    refine ⟨fun t w1 hf hk hp => ?_, ?_⟩
    · have h1 : slot t 1 = .slice (some ⟨g, 0, none⟩) xs.length xs.length := hf 1 (by kernel_rfl)
      clear hf hp
      refine stepAt_plain rfl ?_
      exact stepOK_move _ (.inl rfl) h1
    refine ⟨fun t w1 hf hk hp => ?_, ?_⟩
    · have h8 : slot t 8 = .slice (some ⟨g, 0, none⟩) xs.length xs.length := hp 8 (by kernel_rfl)
      clear hf hp
      refine stepAt_plain rfl ?_
      refine stepOK_call #[.slice (some ⟨g, 0, none⟩) xs.length xs.length, Value.string { data := #[] }] rfl (by simp only [List.map_toArray, List.map_cons, List.map_nil, evS, h8]) (by go_simp) ((join_any g xs.length xs w1 (cells_of_strs (HR.out.kept hk)) (HR.out.kept hk).lt (Nat.le_refl _) hc hlen).mono fun e w' ⟨he, hk'⟩ => ⟨_, he, hk', rfl⟩)
    refine ⟨fun t w1 hf hk hp => ?_, ?_⟩
    · have h7 : slot t 7 = .string (tagB tg) := hp 7 (by kernel_rfl)
      have h9 : slot t 9 = .string (catS xs) := hp 9 (by kernel_rfl)
      clear hf hp
      refine stepAt_plain rfl ?_
      exact stepOK_add ((tagB tg)) ((catS xs)) ((tagS tg (catS xs))) rfl h7 h9 (by rw [tagB_size]; omega) (rfl) rfl
    refine ⟨fun t w1 hf hk hp => ?_, ?_⟩
    · have h10 : slot t 10 = .string (tagS tg (catS xs)) := hp 10 (by kernel_rfl)
      clear hf hp
      refine stepAt_plain rfl ?_
      exact stepOK_move _ (.inr rfl) h10
    exact trivial
  · intro t w1 hsz hf hk hfacts
    have h4 : slot t 4 = .string (tagS tg (catS xs)) := hfacts 6 _ rfl 4 rfl
    have h0 : slot t 0 = .int .u8 tg := hf 0 (by kernel_rfl)
    have h1 : slot t 1 = .slice (some ⟨g, 0, none⟩) xs.length xs.length := hf 1 (by kernel_rfl)
    have harr : t = #[slot t 0, slot t 1, slot t 2, slot t 3, slot t 4, slot t 5, slot t 6, slot t 7, slot t 8, slot t 9, slot t 10] := arr_eq t 11 hsz
    rw [harr, h4, h0, h1]
    clear harr hfacts hf h4 h0 h1
    generalize slot t 2 = x2; generalize slot t 3 = x3; generalize slot t 5 = x5; generalize slot t 6 = x6; generalize slot t 7 = x7; generalize slot t 8 = x8; generalize slot t 9 = x9; generalize slot t 10 = x10
    clear hsz t
    go_wp2_with fail
    go_ret
    exact ⟨rfl, hk⟩

/-! ### The four texts -/
def leafS (s : ByteArray) : ByteArray := tagS 0 s
def nodeS (a b : List UInt8) : ByteArray := tagS 1 (hS a ++ hS b)
def rootS (n : Nat) (a : List UInt8) : ByteArray := tagS 2 (beS 8 n ++ hS a)
def headS (s : ByteArray) : ByteArray := tagS 3 s

theorem tagLeaf_any (s : ByteArray) (w : World) (hs : s.size ≤ 140737488355328) :
    Calls Tryd.prog 56 #[.string s] w fun e w' => e = .returned (.string (leafS s)) ∧ Kept w w' := by
  have hc := tagText_any 0 0 rfl (by omega) w.heap.size 1 9 [s] (w.alloc (.cells #[.string s] 9)) (Rowz.new w _ _) rfl (by omega) s (catS_one s) hs
  go_enter Tryd.func56, Tryd.ntmps56
  go_wp2_with (go_at_call 52; refine hc.mono ?_; rintro e w' ⟨rfl, hk⟩)
  go_ret
  exact ⟨rfl, ((Kept.refl w).alloc _).trans hk⟩

theorem tag_slice_hash (g : Nat) (w : World) : (Instr.sliceAt 31 (.pointer (some ⟨g, 0, none⟩)) none none none).run Tryd.prog w = .ok (.slice (some ⟨g, 0, none⟩) 32 32) w := by kernel_rfl
theorem run_build2s (x y : ByteArray) (w : World) : (Instr.buildSlice 24 2 #[(0, .string x), (1, .string y)]).run Tryd.prog w = .ok (.slice (some ⟨w.heap.size, 0, none⟩) 2 2) (w.alloc (.cells #[.string x, .string y] 9)) := by kernel_rfl

theorem tagNode_any (a b : List UInt8) (ha : a.length = 32) (hb : b.length = 32) (w : World) :
    Calls Tryd.prog 55 #[.agg (bC 32 a), .agg (bC 32 b)] w fun e w' => e = .returned (.string (nodeS a b)) ∧ Kept w w' := by
  have hs : (hS a ++ hS b).size ≤ 140737488355328 := by rw [ByteArray.size_append, hS_size, hS_size]; omega
  go_enter Tryd.func55, Tryd.ntmps55
  go_wp2_with fail
  have F0 := Lib.hid ((Rowz.new w (bC 32 a) 31).alloc (.cells (bC 32 b) 31))
  have F1 := Lib.hid (Rowz.newEq1 w (.cells (bC 32 a) 31) (.cells (bC 32 b) 31) _ _ rfl)
  have F2 := Lib.hid (((Kept.refl w).alloc (.cells (bC 32 a) 31)).alloc (.cells (bC 32 b) 31))
  generalize (w.alloc (.cells (bC 32 a) 31)).alloc (.cells (bC 32 b) 31) = v at F0 F1 F2 ⊢
  refine wp_region_table [(5, .is (.slice (some ⟨w.heap.size, 0, none⟩) 32 32)), (6, .is (.string (hS a))), (7, .is (.slice (some ⟨w.heap.size + 1, 0, none⟩) 32 32)), (8, .is (.string (hS b))), (9, .row (sliceAt0 2) #[.string (hS a), .string (hS b)] 9), (10, .is (.string (nodeS a b))), (4, .is (.string (nodeS a b)))] (by kernel_rfl) (by kernel_rfl) ?_ ?_
  · refine ⟨fun t w1 hf hk hp => ?_, ?_⟩
    · have h2 : slot t 2 = .pointer (some ⟨w.heap.size, 0, none⟩) := hf 2 (by kernel_rfl)
      clear hf hp
      refine stepAt_plain rfl ?_
      have hq0 := tag_slice_hash w.heap.size w1
      refine stepOK_pure (.slice (some ⟨w.heap.size, 0, none⟩) 32 32) ?_ rfl
      simp only [execOp, evS, h2]
      go_simp
    refine ⟨fun t w1 hf hk hp => ?_, ?_⟩
    · have h5 : slot t 5 = .slice (some ⟨w.heap.size, 0, none⟩) 32 32 := hp 5 (by kernel_rfl)
      clear hf hp
      refine stepAt_plain rfl ?_
      have hq0 := run_str_hash w1 w.heap.size _ a ha (F0.out.kept hk)
      refine stepOK_pure (.string (hS a)) ?_ rfl
      simp only [execOp, evS, h5]
      go_simp
    refine ⟨fun t w1 hf hk hp => ?_, ?_⟩
    · have h3 : slot t 3 = .pointer (some ⟨w.heap.size + 1, 0, none⟩) := hf 3 (by kernel_rfl)
      clear hf hp
      refine stepAt_plain rfl ?_
      have hq0 := tag_slice_hash (w.heap.size + 1) w1
      refine stepOK_pure (.slice (some ⟨w.heap.size + 1, 0, none⟩) 32 32) ?_ rfl
      simp only [execOp, evS, h3]
      go_simp
    refine ⟨fun t w1 hf hk hp => ?_, ?_⟩
    · have h7 : slot t 7 = .slice (some ⟨w.heap.size + 1, 0, none⟩) 32 32 := hp 7 (by kernel_rfl)
      clear hf hp
      refine stepAt_plain rfl ?_
      have hq0 := run_str_hash w1 (w.heap.size + 1) _ b hb (F1.out.kept hk)
      refine stepOK_pure (.string (hS b)) ?_ rfl
      simp only [execOp, evS, h7]
      go_simp
    refine ⟨fun t w1 hf hk hp => ?_, ?_⟩
    · have h6 : slot t 6 = .string (hS a) := hp 6 (by kernel_rfl)
      have h8 : slot t 8 = .string (hS b) := hp 8 (by kernel_rfl)
      clear hf hp
      refine stepAt_plain rfl ?_
      have hq0 := run_build2s (hS a) (hS b) w1
      refine .value ((sliceAt0 2) w1.heap.size) (w1.alloc (.cells #[.string (hS a), .string (hS b)] 9)) ?_ ((Kept.refl w1).alloc _) ⟨_, rfl, Rowz.new w1 _ _⟩
      simp only [execOp, evS, List.map_toArray, List.map_cons, List.map_nil, h6, h8, sliceAt0]
      go_simp
    refine ⟨fun t w1 hf hk hp => ?_, ?_⟩
    · obtain ⟨g9, h9, r9⟩ : ∃ g, slot t 9 = (sliceAt0 2) g ∧ Rowz w1 g #[.string (hS a), .string (hS b)] 9 := hp 9 (by kernel_rfl)
      simp only [sliceAt0] at h9
      clear hf hp
      refine stepAt_plain rfl ?_
      refine stepOK_call #[.int .u8 1, .slice (some ⟨g9, 0, none⟩) 2 2] rfl (by simp only [List.map_toArray, List.map_cons, List.map_nil, evS, h9]) (by go_simp) ((tagText_any 1 1 rfl (by omega) g9 2 9 [hS a, hS b] w1 r9 rfl (by omega) (hS a ++ hS b) (catS_two _ _) hs).mono fun e w' ⟨he, hk'⟩ => ⟨_, he, hk', rfl⟩)
    refine ⟨fun t w1 hf hk hp => ?_, ?_⟩
    · have h10 : slot t 10 = .string (nodeS a b) := hp 10 (by kernel_rfl)
      clear hf hp
      refine stepAt_plain rfl ?_
      exact stepOK_move _ (.inr rfl) h10
    exact trivial
  · intro t w1 hsz hf hk hfacts
    have h4 : slot t 4 = .string (nodeS a b) := hfacts 6 _ rfl 4 rfl
    have h2 : slot t 2 = .pointer (some ⟨w.heap.size, 0, none⟩) := hf 2 (by kernel_rfl)
    have h3 : slot t 3 = .pointer (some ⟨w.heap.size + 1, 0, none⟩) := hf 3 (by kernel_rfl)
    have harr : t = #[slot t 0, slot t 1, slot t 2, slot t 3, slot t 4, slot t 5, slot t 6, slot t 7, slot t 8, slot t 9, slot t 10] := arr_eq t 11 hsz
    rw [harr, h4, h2, h3]
    clear harr hfacts hf h4 h2 h3
    generalize slot t 0 = x0; generalize slot t 1 = x1; generalize slot t 5 = x5; generalize slot t 6 = x6; generalize slot t 7 = x7; generalize slot t 8 = x8; generalize slot t 9 = x9; generalize slot t 10 = x10
    clear hsz t
    go_wp2_with fail
    go_ret
    exact ⟨rfl, F2.out.trans hk⟩

theorem tagRoot_any (n : Nat) (hn : n < 18446744073709551616) (a : List UInt8) (ha : a.length = 32) (w : World) :
    Calls Tryd.prog 38 #[.int .u64 n, .agg (bC 32 a)] w fun e w' => e = .returned (.string (rootS n a)) ∧ Kept w w' := by
  have hs : (beS 8 n ++ hS a).size ≤ 140737488355328 := by rw [ByteArray.size_append, hS_size, beS_size]; omega
  go_enter Tryd.func38, Tryd.ntmps38
  go_wp2_with fail
  have F0 := Lib.hid (Rowz.new w (bC 32 a) 31)
  have F2 := Lib.hid ((Kept.refl w).alloc (.cells (bC 32 a) 31))
  generalize w.alloc (.cells (bC 32 a) 31) = v at F0 F2 ⊢
  refine wp_region_table [(5, .is (.int .u64 n)), (6, .is (.string (beS 8 n))), (7, .is (.slice (some ⟨w.heap.size, 0, none⟩) 32 32)), (8, .is (.string (hS a))), (9, .row (sliceAt0 2) #[.string (beS 8 n), .string (hS a)] 9), (10, .is (.string (rootS n a))), (4, .is (.string (rootS n a)))] (by kernel_rfl) (by kernel_rfl) ?_ ?_
  · refine ⟨fun t w1 hf hk hp => ?_, ?_⟩
    · have h0 : slot t 0 = .int .u64 n := hf 0 (by kernel_rfl)
      clear hf hp
      refine stepAt_plain rfl ?_
      exact stepOK_move _ (.inl rfl) h0
    refine ⟨fun t w1 hf hk hp => ?_, ?_⟩
    · have h5 : slot t 5 = .int .u64 n := hp 5 (by kernel_rfl)
      clear hf hp
      refine stepAt_plain rfl ?_
      refine stepOK_call #[.int .u64 n] rfl (by simp only [List.map_toArray, List.map_cons, List.map_nil, evS, h5]) (by go_simp) ((put64_any n w1 hn).mono fun e w' ⟨he, hk'⟩ => ⟨_, he, Grown.kept hk', rfl⟩)
    refine ⟨fun t w1 hf hk hp => ?_, ?_⟩
    · have h3 : slot t 3 = .pointer (some ⟨w.heap.size, 0, none⟩) := hf 3 (by kernel_rfl)
      clear hf hp
      refine stepAt_plain rfl ?_
      have hq0 := tag_slice_hash w.heap.size w1
      refine stepOK_pure (.slice (some ⟨w.heap.size, 0, none⟩) 32 32) ?_ rfl
      simp only [execOp, evS, h3]
      go_simp
    refine ⟨fun t w1 hf hk hp => ?_, ?_⟩
    · have h7 : slot t 7 = .slice (some ⟨w.heap.size, 0, none⟩) 32 32 := hp 7 (by kernel_rfl)
      clear hf hp
      refine stepAt_plain rfl ?_
      have hq0 := run_str_hash w1 w.heap.size _ a ha (F0.out.kept hk)
      refine stepOK_pure (.string (hS a)) ?_ rfl
      simp only [execOp, evS, h7]
      go_simp
    refine ⟨fun t w1 hf hk hp => ?_, ?_⟩
    · have h6 : slot t 6 = .string (beS 8 n) := hp 6 (by kernel_rfl)
      have h8 : slot t 8 = .string (hS a) := hp 8 (by kernel_rfl)
      clear hf hp
      refine stepAt_plain rfl ?_
      have hq0 := run_build2s (beS 8 n) (hS a) w1
      refine .value ((sliceAt0 2) w1.heap.size) (w1.alloc (.cells #[.string (beS 8 n), .string (hS a)] 9)) ?_ ((Kept.refl w1).alloc _) ⟨_, rfl, Rowz.new w1 _ _⟩
      simp only [execOp, evS, List.map_toArray, List.map_cons, List.map_nil, h6, h8, sliceAt0]
      go_simp
    refine ⟨fun t w1 hf hk hp => ?_, ?_⟩
    · obtain ⟨g9, h9, r9⟩ : ∃ g, slot t 9 = (sliceAt0 2) g ∧ Rowz w1 g #[.string (beS 8 n), .string (hS a)] 9 := hp 9 (by kernel_rfl)
      simp only [sliceAt0] at h9
      clear hf hp
      refine stepAt_plain rfl ?_
      refine stepOK_call #[.int .u8 2, .slice (some ⟨g9, 0, none⟩) 2 2] rfl (by simp only [List.map_toArray, List.map_cons, List.map_nil, evS, h9]) (by go_simp) ((tagText_any 2 2 rfl (by omega) g9 2 9 [beS 8 n, hS a] w1 r9 rfl (by omega) (beS 8 n ++ hS a) (catS_two _ _) hs).mono fun e w' ⟨he, hk'⟩ => ⟨_, he, hk', rfl⟩)
    refine ⟨fun t w1 hf hk hp => ?_, ?_⟩
    · have h10 : slot t 10 = .string (rootS n a) := hp 10 (by kernel_rfl)
      clear hf hp
      refine stepAt_plain rfl ?_
      exact stepOK_move _ (.inr rfl) h10
    exact trivial
  · intro t w1 hsz hf hk hfacts
    have h4 : slot t 4 = .string (rootS n a) := hfacts 6 _ rfl 4 rfl
    have h0 : slot t 0 = .int .u64 n := hf 0 (by kernel_rfl)
    have h3 : slot t 3 = .pointer (some ⟨w.heap.size, 0, none⟩) := hf 3 (by kernel_rfl)
    have harr : t = #[slot t 0, slot t 1, slot t 2, slot t 3, slot t 4, slot t 5, slot t 6, slot t 7, slot t 8, slot t 9, slot t 10] := arr_eq t 11 hsz
    rw [harr, h4, h0, h3]
    clear harr hfacts hf h4 h0 h3
    generalize slot t 1 = x1; generalize slot t 2 = x2; generalize slot t 5 = x5; generalize slot t 6 = x6; generalize slot t 7 = x7; generalize slot t 8 = x8; generalize slot t 9 = x9; generalize slot t 10 = x10
    clear hsz t
    go_wp2_with fail
    go_ret
    exact ⟨rfl, F2.out.trans hk⟩
end Go.Proofs.YtlfkkfacbcpogaaDoor
namespace Go.Proofs.YtlfkkfacbcpogaaDoor
set_option maxRecDepth 4000
open Go.RowKit

theorem refLeaf_any (s : ByteArray) (w : World) (hs : s.size ≤ 140737488355328) :
    Calls Tryd.prog 63 #[.string s] w fun e w' => e = .returned (.string (leafS s)) ∧ Grown w w' := by
  have hn : ¬ (9223372036854775807 < 1 + s.size) := by omega
  go_enter Tryd.func63, Tryd.ntmps63
  go_wp2_with (go_at_call 61; refine (byte_any 0 _ (by omega)).mono ?_; rintro e w' ⟨rfl, hg⟩)
  go_ret
  exact ⟨rfl, hg⟩

theorem app_assoc (a b c : ByteArray) : a ++ b ++ c = a ++ (b ++ c) := by
  apply ByteArray.ext; simp [ByteArray.data_append]

theorem refNode_any (a b : List UInt8) (ha : a.length = 32) (hb : b.length = 32) (w : World) :
    Calls Tryd.prog 62 #[.agg (bC 32 a), .agg (bC 32 b)] w fun e w' => e = .returned (.string (nodeS a b)) ∧ Kept w w' := by
  go_enter Tryd.func62, Tryd.ntmps62
  go_wp2_with fail
  have F0 := Lib.hid ((Rowz.new w (bC 32 a) 31).alloc (.cells (bC 32 b) 31))
  have F1 := Lib.hid (Rowz.newEq1 w (.cells (bC 32 a) 31) (.cells (bC 32 b) 31) _ _ rfl)
  have F2 := Lib.hid (((Kept.refl w).alloc (.cells (bC 32 a) 31)).alloc (.cells (bC 32 b) 31))
  generalize (w.alloc (.cells (bC 32 a) 31)).alloc (.cells (bC 32 b) 31) = v at F0 F1 F2 ⊢
  refine wp_region_table [(5, .is (.string (tagB 1))), (6, .is (.agg (bC 32 a))), (7, .is (.string (hS a))), (8, .is (.string (tagB 1 ++ hS a))), (9, .is (.agg (bC 32 b))), (10, .is (.string (hS b))), (11, .is (.string (nodeS a b))), (4, .is (.string (nodeS a b)))] (by kernel_rfl) (by kernel_rfl) ?_ ?_
  · refine ⟨fun t w1 hf hk hp => ?_, ?_⟩
    · clear hf hp
      refine stepAt_plain rfl ?_
      refine stepOK_call #[.int .i64 1] rfl (by simp only [List.map_toArray, List.map_cons, List.map_nil, evS]) (by go_simp) ((byte_any 1 w1 (by omega)).mono fun e w' ⟨he, hk'⟩ => ⟨_, he, Grown.kept hk', rfl⟩)
    refine ⟨fun t w1 hf hk hp => ?_, ?_⟩
    · have h2 : slot t 2 = .pointer (some ⟨w.heap.size, 0, none⟩) := hf 2 (by kernel_rfl)
      clear hf hp
      refine stepAt_plain rfl ?_
      have hq0 := (F0.out.kept hk).load (P := Tryd.prog) 32 _ Tryd.underlying31 (info_hash a)
      exact stepOK_sem (.agg (bC 32 a)) (by simp only [execOp, evS, h2]) hq0 rfl
    refine ⟨fun t w1 hf hk hp => ?_, ?_⟩
    · have h6 : slot t 6 = .agg (bC 32 a) := hp 6 (by kernel_rfl)
      clear hf hp
      refine stepAt_plain rfl ?_
      refine stepOK_call #[.agg (bC 32 a)] rfl (by simp only [List.map_toArray, List.map_cons, List.map_nil, evS, h6]) (by go_simp) ((refRaw_any a ha w1).mono fun e w' ⟨he, hk'⟩ => ⟨_, he, Grown.kept hk', rfl⟩)
    refine ⟨fun t w1 hf hk hp => ?_, ?_⟩
    · have h5 : slot t 5 = .string (tagB 1) := hp 5 (by kernel_rfl)
      have h7 : slot t 7 = .string (hS a) := hp 7 (by kernel_rfl)
      clear hf hp
      refine stepAt_plain rfl ?_
      exact stepOK_add ((tagB 1)) ((hS a)) ((tagB 1 ++ hS a)) rfl h5 h7 (by rw [tagB_size, hS_size]; omega) (rfl) rfl
    refine ⟨fun t w1 hf hk hp => ?_, ?_⟩
    · have h3 : slot t 3 = .pointer (some ⟨w.heap.size + 1, 0, none⟩) := hf 3 (by kernel_rfl)
      clear hf hp
      refine stepAt_plain rfl ?_
      have hq0 := (F1.out.kept hk).load (P := Tryd.prog) 32 _ Tryd.underlying31 (info_hash b)
      exact stepOK_sem (.agg (bC 32 b)) (by simp only [execOp, evS, h3]) hq0 rfl
    refine ⟨fun t w1 hf hk hp => ?_, ?_⟩
    · have h9 : slot t 9 = .agg (bC 32 b) := hp 9 (by kernel_rfl)
      clear hf hp
      refine stepAt_plain rfl ?_
      refine stepOK_call #[.agg (bC 32 b)] rfl (by simp only [List.map_toArray, List.map_cons, List.map_nil, evS, h9]) (by go_simp) ((refRaw_any b hb w1).mono fun e w' ⟨he, hk'⟩ => ⟨_, he, Grown.kept hk', rfl⟩)
    refine ⟨fun t w1 hf hk hp => ?_, ?_⟩
    · have h8 : slot t 8 = .string (tagB 1 ++ hS a) := hp 8 (by kernel_rfl)
      have h10 : slot t 10 = .string (hS b) := hp 10 (by kernel_rfl)
      clear hf hp
      refine stepAt_plain rfl ?_
      exact stepOK_add ((tagB 1 ++ hS a)) ((hS b)) ((nodeS a b)) rfl h8 h10 (by rw [ByteArray.size_append, tagB_size, hS_size, hS_size]; omega) (app_assoc _ _ _) rfl
    refine ⟨fun t w1 hf hk hp => ?_, ?_⟩
    · have h11 : slot t 11 = .string (nodeS a b) := hp 11 (by kernel_rfl)
      clear hf hp
      refine stepAt_plain rfl ?_
      exact stepOK_move _ (.inr rfl) h11
    exact trivial
  · intro t w1 hsz hf hk hfacts
    have h4 : slot t 4 = .string (nodeS a b) := hfacts 7 _ rfl 4 rfl
    have h2 : slot t 2 = .pointer (some ⟨w.heap.size, 0, none⟩) := hf 2 (by kernel_rfl)
    have h3 : slot t 3 = .pointer (some ⟨w.heap.size + 1, 0, none⟩) := hf 3 (by kernel_rfl)
    have harr : t = #[slot t 0, slot t 1, slot t 2, slot t 3, slot t 4, slot t 5, slot t 6, slot t 7, slot t 8, slot t 9, slot t 10, slot t 11] := arr_eq t 12 hsz
    rw [harr, h4, h2, h3]
    clear harr hfacts hf h4 h2 h3
    generalize slot t 0 = x0; generalize slot t 1 = x1; generalize slot t 5 = x5; generalize slot t 6 = x6; generalize slot t 7 = x7; generalize slot t 8 = x8; generalize slot t 9 = x9; generalize slot t 10 = x10; generalize slot t 11 = x11
    clear hsz t
    go_wp2_with fail
    go_ret
    exact ⟨rfl, F2.out.trans hk⟩

theorem refRoot_any (n : Nat) (hn : n < 18446744073709551616) (a : List UInt8) (ha : a.length = 32) (w : World) :
    Calls Tryd.prog 44 #[.int .u64 n, .agg (bC 32 a)] w fun e w' => e = .returned (.string (rootS n a)) ∧ Kept w w' := by
  go_enter Tryd.func44, Tryd.ntmps44
  go_wp2_with fail
  have F0 := Lib.hid (Rowz.new w (bC 32 a) 31)
  have F2 := Lib.hid ((Kept.refl w).alloc (.cells (bC 32 a) 31))
  generalize w.alloc (.cells (bC 32 a) 31) = v at F0 F2 ⊢
  refine wp_region_table [(5, .is (.string (tagB 2))), (6, .is (.int .u64 n)), (7, .is (.string (beS 8 n))), (8, .is (.string (tagB 2 ++ beS 8 n))), (9, .is (.agg (bC 32 a))), (10, .is (.string (hS a))), (11, .is (.string (rootS n a))), (4, .is (.string (rootS n a)))] (by kernel_rfl) (by kernel_rfl) ?_ ?_
  · refine ⟨fun t w1 hf hk hp => ?_, ?_⟩
    · clear hf hp
      refine stepAt_plain rfl ?_
      refine stepOK_call #[.int .i64 2] rfl (by simp only [List.map_toArray, List.map_cons, List.map_nil, evS]) (by go_simp) ((byte_any 2 w1 (by omega)).mono fun e w' ⟨he, hk'⟩ => ⟨_, he, Grown.kept hk', rfl⟩)
    refine ⟨fun t w1 hf hk hp => ?_, ?_⟩
    · have h0 : slot t 0 = .int .u64 n := hf 0 (by kernel_rfl)
      clear hf hp
      refine stepAt_plain rfl ?_
      exact stepOK_move _ (.inl rfl) h0
    refine ⟨fun t w1 hf hk hp => ?_, ?_⟩
    · have h6 : slot t 6 = .int .u64 n := hp 6 (by kernel_rfl)
      clear hf hp
      refine stepAt_plain rfl ?_
      refine stepOK_call #[.int .u64 n, .int .i64 8] rfl (by simp only [List.map_toArray, List.map_cons, List.map_nil, evS, h6]) (by go_simp) ((refPut_any n 8 w1 hn (by omega)).mono fun e w' ⟨he, hk'⟩ => ⟨_, he, Grown.kept hk', rfl⟩)
    refine ⟨fun t w1 hf hk hp => ?_, ?_⟩
    · have h5 : slot t 5 = .string (tagB 2) := hp 5 (by kernel_rfl)
      have h7 : slot t 7 = .string (beS 8 n) := hp 7 (by kernel_rfl)
      clear hf hp
      refine stepAt_plain rfl ?_
      exact stepOK_add ((tagB 2)) ((beS 8 n)) ((tagB 2 ++ beS 8 n)) rfl h5 h7 (by rw [tagB_size, beS_size]; omega) (rfl) rfl
    refine ⟨fun t w1 hf hk hp => ?_, ?_⟩
    · have h3 : slot t 3 = .pointer (some ⟨w.heap.size, 0, none⟩) := hf 3 (by kernel_rfl)
      clear hf hp
      refine stepAt_plain rfl ?_
      have hq0 := (F0.out.kept hk).load (P := Tryd.prog) 32 _ Tryd.underlying31 (info_hash a)
      exact stepOK_sem (.agg (bC 32 a)) (by simp only [execOp, evS, h3]) hq0 rfl
    refine ⟨fun t w1 hf hk hp => ?_, ?_⟩
    · have h9 : slot t 9 = .agg (bC 32 a) := hp 9 (by kernel_rfl)
      clear hf hp
      refine stepAt_plain rfl ?_
      refine stepOK_call #[.agg (bC 32 a)] rfl (by simp only [List.map_toArray, List.map_cons, List.map_nil, evS, h9]) (by go_simp) ((refRaw_any a ha w1).mono fun e w' ⟨he, hk'⟩ => ⟨_, he, Grown.kept hk', rfl⟩)
    refine ⟨fun t w1 hf hk hp => ?_, ?_⟩
    · have h8 : slot t 8 = .string (tagB 2 ++ beS 8 n) := hp 8 (by kernel_rfl)
      have h10 : slot t 10 = .string (hS a) := hp 10 (by kernel_rfl)
      clear hf hp
      refine stepAt_plain rfl ?_
      exact stepOK_add ((tagB 2 ++ beS 8 n)) ((hS a)) ((rootS n a)) rfl h8 h10 (by rw [ByteArray.size_append, tagB_size, hS_size, beS_size]; omega) (app_assoc _ _ _) rfl
    refine ⟨fun t w1 hf hk hp => ?_, ?_⟩
    · have h11 : slot t 11 = .string (rootS n a) := hp 11 (by kernel_rfl)
      clear hf hp
      refine stepAt_plain rfl ?_
      exact stepOK_move _ (.inr rfl) h11
    exact trivial
  · intro t w1 hsz hf hk hfacts
    have h4 : slot t 4 = .string (rootS n a) := hfacts 7 _ rfl 4 rfl
    have h0 : slot t 0 = .int .u64 n := hf 0 (by kernel_rfl)
    have h3 : slot t 3 = .pointer (some ⟨w.heap.size, 0, none⟩) := hf 3 (by kernel_rfl)
    have harr : t = #[slot t 0, slot t 1, slot t 2, slot t 3, slot t 4, slot t 5, slot t 6, slot t 7, slot t 8, slot t 9, slot t 10, slot t 11] := arr_eq t 12 hsz
    rw [harr, h4, h0, h3]
    clear harr hfacts hf h4 h0 h3
    generalize slot t 1 = x1; generalize slot t 2 = x2; generalize slot t 5 = x5; generalize slot t 6 = x6; generalize slot t 7 = x7; generalize slot t 8 = x8; generalize slot t 9 = x9; generalize slot t 10 = x10; generalize slot t 11 = x11
    clear hsz t
    go_wp2_with fail
    go_ret
    exact ⟨rfl, F2.out.trans hk⟩

theorem run_build0 (w : World) : (Instr.build 31 #[]).run Tryd.prog w = .ok (.agg (bC 32 [])) w := by kernel_rfl
theorem tagS_size (k : Nat) (s : ByteArray) : (tagS k s).size = 1 + s.size := by rw [tagS, ByteArray.size_append, tagB_size]
end Go.Proofs.YtlfkkfacbcpogaaDoor
namespace Go.Proofs.YtlfkkfacbcpogaaDoor
set_option maxRecDepth 4000
open Go.RowKit

theorem Tab.kept {w w' : World} (h : Tab w) (k : Kept w w') : Tab w' := fun i hi => by rw [k.cellAt _ h.pos]; exact h i hi

set_option maxRecDepth 100000 in
set_option maxHeartbeats 1000000 in
theorem tagLeafSum_any (s : ByteArray) (hs : s.size ≤ 1000000) (w : World) (ht : Tab w) :
    Calls Tryd.prog 42 #[.string s] w fun e w' => e = .returned (.agg (bC 32 (shaL (leafS s)))) ∧ Kept w w' := by
  have hz : (leafS s).size ≤ 140737488351232 := by rw [leafS, tagS_size]; omega
  go_enter Tryd.func42, Tryd.ntmps42
  go_wp2_with fail
  change Calls _ _ _ (w.alloc (.cells (bC 32 []) 31)) _
  have A1 : Hid (Rowz (w.alloc (.cells (bC 32 []) 31)) w.heap.size (bC 32 []) 31) := Lib.hid (Rowz.new w _ _)
  have A3 : Hid (Kept w (w.alloc (.cells (bC 32 []) 31))) := Lib.hid ((Kept.refl w).alloc (.cells (bC 32 []) 31))
  have A4 := Lib.hid (ht.kept A3.out)
  generalize w.alloc (.cells (bC 32 []) 31) = v at A1 A3  A4 ⊢
  refine (tagLeaf_any s v (by omega)).mono ?_
  rintro e v1 ⟨rfl, hk1⟩
  have B1 := Lib.hid (A1.out.kept hk1)
  have B3 := Lib.hid (A3.out.trans hk1)
  have B4 := Lib.hid (A4.out.kept hk1)
  go_wp2_with fail
  refine (shaSum_any (leafS s) v1 B4.out hz).mono ?_
  rintro e v2 ⟨rfl, hk2⟩
  have E1 := Lib.hid (B1.out.grown hk2)
  have E3 := Lib.hid (B3.out.trans (Grown.kept hk2))
  go_wp2_with (refine wpList_store_row rfl 31 _ _ rfl w.heap.size (bC 32 (shaL (leafS s))) rfl rfl 31 (bC 32 []) E1.out (info_hash _) (by simp [bC_size]) (bC_one _ _) ?_)
  refine bodyPost_ret (v := .agg (bC 32 (shaL (leafS s)))) (results_cell_row Tryd.results42 _ _ w.heap.size 31 _ (0, 0) _ rfl E1.out.row Tryd.underlying31 rfl (info_hash _)) rfl ⟨rfl, ?_⟩
  exact E3.out.setRow (by omega) _
set_option maxRecDepth 100000 in
set_option maxHeartbeats 1000000 in
theorem refLeafSum_any (s : ByteArray) (hs : s.size ≤ 1000000) (w : World) :
    Calls Tryd.prog 47 #[.string s] w fun e w' => e = .returned (.agg (bC 32 (shaL (leafS s)))) ∧ Kept w w' := by
  have hz : (leafS s).size ≤ 140737488351232 := by rw [leafS, tagS_size]; omega
  go_enter Tryd.func47, Tryd.ntmps47
  go_wp2_with fail
  change Calls _ _ _ (w.alloc (.cells (bC 32 []) 31)) _
  have A1 : Hid (Rowz (w.alloc (.cells (bC 32 []) 31)) w.heap.size (bC 32 []) 31) := Lib.hid (Rowz.new w _ _)
  have A3 : Hid (Kept w (w.alloc (.cells (bC 32 []) 31))) := Lib.hid ((Kept.refl w).alloc (.cells (bC 32 []) 31))
  generalize w.alloc (.cells (bC 32 []) 31) = v at A1 A3  ⊢
  refine (refLeaf_any s v (by omega)).mono ?_
  rintro e v1 ⟨rfl, hk1⟩
  have B1 := Lib.hid (A1.out.kept (Grown.kept hk1))
  have B3 := Lib.hid (A3.out.trans (Grown.kept hk1))
  go_wp2_with fail
  refine (refSum_any (leafS s) v1 hz).mono ?_
  rintro e v2 ⟨rfl, hk2⟩
  have E1 := Lib.hid (B1.out.grown hk2)
  have E3 := Lib.hid (B3.out.trans (Grown.kept hk2))
  go_wp2_with (refine wpList_store_row rfl 31 _ _ rfl w.heap.size (bC 32 (shaL (leafS s))) rfl rfl 31 (bC 32 []) E1.out (info_hash _) (by simp [bC_size]) (bC_one _ _) ?_)
  refine bodyPost_ret (v := .agg (bC 32 (shaL (leafS s)))) (results_cell_row Tryd.results47 _ _ w.heap.size 31 _ (0, 0) _ rfl E1.out.row Tryd.underlying31 rfl (info_hash _)) rfl ⟨rfl, ?_⟩
  exact E3.out.setRow (by omega) _
set_option maxRecDepth 100000 in
set_option maxHeartbeats 1000000 in
theorem tagNodeSum_any (a b : List UInt8) (ha : a.length = 32) (hb : b.length = 32) (w : World) (ht : Tab w) :
    Calls Tryd.prog 40 #[.agg (bC 32 a), .agg (bC 32 b)] w fun e w' => e = .returned (.agg (bC 32 (shaL (nodeS a b)))) ∧ Kept w w' := by
  have hz : (nodeS a b).size ≤ 140737488351232 := by rw [nodeS, tagS_size, ByteArray.size_append, hS_size, hS_size, ha, hb]; omega
  go_enter Tryd.func40, Tryd.ntmps40
  go_wp2_with (first | (refine wpList_load_row rfl 31 _ rfl w.heap.size rfl 31 (bC 32 a) (0, 0) _ (by exact ((Rowz.new w _ _).alloc _).alloc _) Tryd.underlying31 rfl (info_hash _) ?_) | (refine wpList_load_row rfl 31 _ rfl (w.heap.size + 1) rfl 31 (bC 32 b) (0, 0) _ (by exact (Rowz.newEq1 w _ _ _ _ rfl).alloc _) Tryd.underlying31 rfl (info_hash _) ?_))
  change Calls _ _ _ (((w.alloc (.cells (bC 32 a) 31)).alloc (.cells (bC 32 b) 31)).alloc (.cells (bC 32 []) 31)) _
  have A1 : Hid (Rowz (((w.alloc (.cells (bC 32 a) 31)).alloc (.cells (bC 32 b) 31)).alloc (.cells (bC 32 []) 31)) (w.heap.size + 2) (bC 32 []) 31) := Lib.hid (by
    have h := Rowz.new ((w.alloc (.cells (bC 32 a) 31)).alloc (.cells (bC 32 b) 31)) (bC 32 []) 31
    simpa using h)
  have A3 : Hid (Kept w (((w.alloc (.cells (bC 32 a) 31)).alloc (.cells (bC 32 b) 31)).alloc (.cells (bC 32 []) 31))) := Lib.hid ((((Kept.refl w).alloc (.cells (bC 32 a) 31)).alloc (.cells (bC 32 b) 31)).alloc (.cells (bC 32 []) 31))
  have A4 := Lib.hid (ht.kept A3.out)
  generalize ((w.alloc (.cells (bC 32 a) 31)).alloc (.cells (bC 32 b) 31)).alloc (.cells (bC 32 []) 31) = v at A1 A3 A4 ⊢
  refine (tagNode_any a b ha hb v).mono ?_
  rintro e v1 ⟨rfl, hk1⟩
  have B1 := Lib.hid (A1.out.kept hk1)
  have B3 := Lib.hid (A3.out.trans hk1)
  have B4 := Lib.hid (A4.out.kept hk1)
  go_wp2_with fail
  refine (shaSum_any (nodeS a b) v1 B4.out hz).mono ?_
  rintro e v2 ⟨rfl, hk2⟩
  have E1 := Lib.hid (B1.out.grown hk2)
  have E3 := Lib.hid (B3.out.trans (Grown.kept hk2))
  go_wp2_with (refine wpList_store_row rfl 31 _ _ rfl (w.heap.size + 2) (bC 32 (shaL (nodeS a b))) rfl rfl 31 (bC 32 []) E1.out (info_hash _) (by simp [bC_size]) (bC_one _ _) ?_)
  refine bodyPost_ret (v := .agg (bC 32 (shaL (nodeS a b)))) (results_cell_row Tryd.results40 _ _ (w.heap.size + 2) 31 _ (0, 0) _ rfl E1.out.row Tryd.underlying31 rfl (info_hash _)) rfl ⟨rfl, ?_⟩
  exact E3.out.setRow (by omega) _
set_option maxRecDepth 100000 in
set_option maxHeartbeats 1000000 in
theorem refNodeSum_any (a b : List UInt8) (ha : a.length = 32) (hb : b.length = 32) (w : World) :
    Calls Tryd.prog 46 #[.agg (bC 32 a), .agg (bC 32 b)] w fun e w' => e = .returned (.agg (bC 32 (shaL (nodeS a b)))) ∧ Kept w w' := by
  have hz : (nodeS a b).size ≤ 140737488351232 := by rw [nodeS, tagS_size, ByteArray.size_append, hS_size, hS_size, ha, hb]; omega
  go_enter Tryd.func46, Tryd.ntmps46
  go_wp2_with (first | (refine wpList_load_row rfl 31 _ rfl w.heap.size rfl 31 (bC 32 a) (0, 0) _ (by exact ((Rowz.new w _ _).alloc _).alloc _) Tryd.underlying31 rfl (info_hash _) ?_) | (refine wpList_load_row rfl 31 _ rfl (w.heap.size + 1) rfl 31 (bC 32 b) (0, 0) _ (by exact (Rowz.newEq1 w _ _ _ _ rfl).alloc _) Tryd.underlying31 rfl (info_hash _) ?_))
  change Calls _ _ _ (((w.alloc (.cells (bC 32 a) 31)).alloc (.cells (bC 32 b) 31)).alloc (.cells (bC 32 []) 31)) _
  have A1 : Hid (Rowz (((w.alloc (.cells (bC 32 a) 31)).alloc (.cells (bC 32 b) 31)).alloc (.cells (bC 32 []) 31)) (w.heap.size + 2) (bC 32 []) 31) := Lib.hid (by
    have h := Rowz.new ((w.alloc (.cells (bC 32 a) 31)).alloc (.cells (bC 32 b) 31)) (bC 32 []) 31
    simpa using h)
  have A3 : Hid (Kept w (((w.alloc (.cells (bC 32 a) 31)).alloc (.cells (bC 32 b) 31)).alloc (.cells (bC 32 []) 31))) := Lib.hid ((((Kept.refl w).alloc (.cells (bC 32 a) 31)).alloc (.cells (bC 32 b) 31)).alloc (.cells (bC 32 []) 31))
  generalize ((w.alloc (.cells (bC 32 a) 31)).alloc (.cells (bC 32 b) 31)).alloc (.cells (bC 32 []) 31) = v at A1 A3 ⊢
  refine (refNode_any a b ha hb v).mono ?_
  rintro e v1 ⟨rfl, hk1⟩
  have B1 := Lib.hid (A1.out.kept hk1)
  have B3 := Lib.hid (A3.out.trans hk1)
  go_wp2_with fail
  refine (refSum_any (nodeS a b) v1 hz).mono ?_
  rintro e v2 ⟨rfl, hk2⟩
  have E1 := Lib.hid (B1.out.grown hk2)
  have E3 := Lib.hid (B3.out.trans (Grown.kept hk2))
  go_wp2_with (refine wpList_store_row rfl 31 _ _ rfl (w.heap.size + 2) (bC 32 (shaL (nodeS a b))) rfl rfl 31 (bC 32 []) E1.out (info_hash _) (by simp [bC_size]) (bC_one _ _) ?_)
  refine bodyPost_ret (v := .agg (bC 32 (shaL (nodeS a b)))) (results_cell_row Tryd.results46 _ _ (w.heap.size + 2) 31 _ (0, 0) _ rfl E1.out.row Tryd.underlying31 rfl (info_hash _)) rfl ⟨rfl, ?_⟩
  exact E3.out.setRow (by omega) _
set_option maxRecDepth 100000 in
set_option maxHeartbeats 1000000 in
theorem tagRootSum_any (n : Nat) (hn : n < 18446744073709551616) (a : List UInt8) (ha : a.length = 32) (w : World) (ht : Tab w) :
    Calls Tryd.prog 28 #[.int .u64 n, .agg (bC 32 a)] w fun e w' => e = .returned (.agg (bC 32 (shaL (rootS n a)))) ∧ Kept w w' := by
  have hz : (rootS n a).size ≤ 140737488351232 := by rw [rootS, tagS_size, ByteArray.size_append, hS_size, beS_size, ha]; omega
  go_enter Tryd.func28, Tryd.ntmps28
  go_wp2_with (first | (refine wpList_load_row rfl 31 _ rfl w.heap.size rfl 31 (bC 32 a) (0, 0) _ (by exact (Rowz.new w _ _).alloc _) Tryd.underlying31 rfl (info_hash _) ?_))
  change Calls _ _ _ ((w.alloc (.cells (bC 32 a) 31)).alloc (.cells (bC 32 []) 31)) _
  have A1 : Hid (Rowz ((w.alloc (.cells (bC 32 a) 31)).alloc (.cells (bC 32 []) 31)) (w.heap.size + 1) (bC 32 []) 31) := Lib.hid (Rowz.newEq1 w _ _ _ _ rfl)
  have A3 : Hid (Kept w ((w.alloc (.cells (bC 32 a) 31)).alloc (.cells (bC 32 []) 31))) := Lib.hid (((Kept.refl w).alloc (.cells (bC 32 a) 31)).alloc (.cells (bC 32 []) 31))
  have A4 := Lib.hid (ht.kept A3.out)
  generalize (w.alloc (.cells (bC 32 a) 31)).alloc (.cells (bC 32 []) 31) = v at A1 A3 A4 ⊢
  refine (tagRoot_any n hn a ha v).mono ?_
  rintro e v1 ⟨rfl, hk1⟩
  have B1 := Lib.hid (A1.out.kept hk1)
  have B3 := Lib.hid (A3.out.trans hk1)
  have B4 := Lib.hid (A4.out.kept hk1)
  go_wp2_with fail
  refine (shaSum_any (rootS n a) v1 B4.out hz).mono ?_
  rintro e v2 ⟨rfl, hk2⟩
  have E1 := Lib.hid (B1.out.grown hk2)
  have E3 := Lib.hid (B3.out.trans (Grown.kept hk2))
  go_wp2_with (refine wpList_store_row rfl 31 _ _ rfl (w.heap.size + 1) (bC 32 (shaL (rootS n a))) rfl rfl 31 (bC 32 []) E1.out (info_hash _) (by simp [bC_size]) (bC_one _ _) ?_)
  refine bodyPost_ret (v := .agg (bC 32 (shaL (rootS n a)))) (results_cell_row Tryd.results28 _ _ (w.heap.size + 1) 31 _ (0, 0) _ rfl E1.out.row Tryd.underlying31 rfl (info_hash _)) rfl ⟨rfl, ?_⟩
  exact E3.out.setRow (by omega) _
set_option maxRecDepth 100000 in
set_option maxHeartbeats 1000000 in
theorem refRootSum_any (n : Nat) (hn : n < 18446744073709551616) (a : List UInt8) (ha : a.length = 32) (w : World) :
    Calls Tryd.prog 33 #[.int .u64 n, .agg (bC 32 a)] w fun e w' => e = .returned (.agg (bC 32 (shaL (rootS n a)))) ∧ Kept w w' := by
  have hz : (rootS n a).size ≤ 140737488351232 := by rw [rootS, tagS_size, ByteArray.size_append, hS_size, beS_size, ha]; omega
  go_enter Tryd.func33, Tryd.ntmps33
  go_wp2_with (first | (refine wpList_load_row rfl 31 _ rfl w.heap.size rfl 31 (bC 32 a) (0, 0) _ (by exact (Rowz.new w _ _).alloc _) Tryd.underlying31 rfl (info_hash _) ?_))
  change Calls _ _ _ ((w.alloc (.cells (bC 32 a) 31)).alloc (.cells (bC 32 []) 31)) _
  have A1 : Hid (Rowz ((w.alloc (.cells (bC 32 a) 31)).alloc (.cells (bC 32 []) 31)) (w.heap.size + 1) (bC 32 []) 31) := Lib.hid (Rowz.newEq1 w _ _ _ _ rfl)
  have A3 : Hid (Kept w ((w.alloc (.cells (bC 32 a) 31)).alloc (.cells (bC 32 []) 31))) := Lib.hid (((Kept.refl w).alloc (.cells (bC 32 a) 31)).alloc (.cells (bC 32 []) 31))
  generalize (w.alloc (.cells (bC 32 a) 31)).alloc (.cells (bC 32 []) 31) = v at A1 A3 ⊢
  refine (refRoot_any n hn a ha v).mono ?_
  rintro e v1 ⟨rfl, hk1⟩
  have B1 := Lib.hid (A1.out.kept hk1)
  have B3 := Lib.hid (A3.out.trans hk1)
  go_wp2_with fail
  refine (refSum_any (rootS n a) v1 hz).mono ?_
  rintro e v2 ⟨rfl, hk2⟩
  have E1 := Lib.hid (B1.out.grown hk2)
  have E3 := Lib.hid (B3.out.trans (Grown.kept hk2))
  go_wp2_with (refine wpList_store_row rfl 31 _ _ rfl (w.heap.size + 1) (bC 32 (shaL (rootS n a))) rfl rfl 31 (bC 32 []) E1.out (info_hash _) (by simp [bC_size]) (bC_one _ _) ?_)
  refine bodyPost_ret (v := .agg (bC 32 (shaL (rootS n a)))) (results_cell_row Tryd.results33 _ _ (w.heap.size + 1) 31 _ (0, 0) _ rfl E1.out.row Tryd.underlying31 rfl (info_hash _)) rfl ⟨rfl, ?_⟩
  exact E3.out.setRow (by omega) _
end Go.Proofs.YtlfkkfacbcpogaaDoor
namespace Go.Proofs.YtlfkkfacbcpogaaDoor
set_option maxRecDepth 4000
open Go.RowKit

def xS : ByteArray := ⟨#[120]⟩
theorem xS_size : xS.size = 1 := rfl
theorem load_hash (w : World) (b i n : Nat) (T : TypeId) (l : List UInt8) (h : Rowz w b (bC n l) T) (hn : 32 * i + 32 ≤ n) :
    (Instr.loadAt 31 (.pointer (some ⟨b, 32 * i, none⟩))).run Tryd.prog w = .ok (.agg (bC 32 (hAt l i))) w := by
  have h1 := run_loadAt_mid (P := Tryd.prog) w b (32 * i) 31 (bC 32 (hAt l i)).toList _ (hash_range h i hn) Tryd.underlying31 rfl (by rw [Array.length_toList, bC_size]; kernel_rfl)
  simpa using h1
theorem run_build3s (x y z : ByteArray) (w : World) : (Instr.buildSlice 24 3 #[(0, .string x), (1, .string y), (2, .string z)]).run Tryd.prog w = .ok (.slice (some ⟨w.heap.size, 0, none⟩) 3 3) (w.alloc (.cells #[.string x, .string y, .string z] 9)) := by kernel_rfl
theorem run_build4s (x y z u : ByteArray) (w : World) : (Instr.buildSlice 24 4 #[(0, .string x), (1, .string y), (2, .string z), (3, .string u)]).run Tryd.prog w = .ok (.slice (some ⟨w.heap.size, 0, none⟩) 4 4) (w.alloc (.cells #[.string x, .string y, .string z, .string u] 9)) := by kernel_rfl
theorem beq_strs (a b : ByteArray) : (a.toList == b.toList) = decide (a = b) := by
  rw [ByteArray.toList_eq, ByteArray.toList_eq]
  by_cases h : a = b
  · subst h; simp
  · rw [decide_eq_false h, beq_eq_false_iff_ne]
    intro e
    exact h (ByteArray.ext (Array.toList_inj.1 e))
theorem beq_nats (a b : Nat) : (((a : Nat) : Int) == ((b : Nat) : Int)) = decide (a = b) := by
  by_cases h : a = b
  · subst h; simp
  · rw [decide_eq_false h, beq_eq_false_iff_ne]; omega
/-! ### Texts of different kinds are different -/
def txt (s : ByteArray) (a b : List UInt8) (n : Nat) : Nat → ByteArray
  | 0 => leafS s
  | 1 => nodeS a b
  | 2 => rootS n a
  | _ => headS s
def sameB (b0 b1 b2 b3 : Bool) : Nat → Bool
  | 0 => b0
  | 1 => b1 && b2
  | 2 => b3 && b1
  | _ => b0
def bvC (n : Nat) (f : Nat → Bool) : Array Value := ((List.range n).map fun i => Value.bool (f i)).toArray
theorem tagS_inj (k : Nat) (x y : ByteArray) : tagS k x = tagS k y ↔ x = y := by
  constructor
  · intro h
    have := congrArg ByteArray.data h
    simp only [tagS, ByteArray.data_append] at this
    exact ByteArray.ext (Array.append_right_inj _ |>.1 this)
  · rintro rfl; rfl
theorem tagS_head (k : Nat) (x : ByteArray) : (tagS k x).data.toList.head? = some (UInt8.ofNat k) := by
  simp [tagS, tagB, ByteArray.data_append]
theorem app_inj (x y u v : ByteArray) (h : x.size = u.size) : x ++ y = u ++ v ↔ x = u ∧ y = v := by
  constructor
  · intro e
    have := congrArg (fun b => b.data.toList) e
    simp only [ByteArray.data_append, Array.toList_append] at this
    have h2 := List.append_inj this (by rw [Array.length_toList, Array.length_toList]; exact h)
    exact ⟨ByteArray.ext (Array.toList_inj.1 h2.1), ByteArray.ext (Array.toList_inj.1 h2.2)⟩
  · rintro ⟨rfl, rfl⟩; rfl
theorem hS_inj (a b : List UInt8) : hS a = hS b ↔ a = b := by
  constructor
  · intro h; have := congrArg (fun x => x.data.toList) h; simpa [hS] using this
  · rintro rfl; rfl
theorem beS_inj (n m : Nat) (hn : n < 18446744073709551616) (hm : m < 18446744073709551616) : beS 8 n = beS 8 m ↔ n = m := by
  constructor
  · intro h
    have h1 := take_put' ByteArray.empty 8 n (by omega)
    have h2 := take_put' ByteArray.empty 8 m (by omega)
    rw [h] at h1
    omega
  · rintro rfl; rfl
theorem txt_apart (s s' : ByteArray) (a b a' b' : List UInt8) (n n' : Nat) (ha : a.length = 32) (ha' : a'.length = 32) (hn : n < 18446744073709551616) (hn' : n' < 18446744073709551616) (i k : Nat) (hi : i < 4) (hk : k < 4) :
    decide (txt s a b n i = txt s' a' b' n' k) = (decide (i = k) && sameB (decide (s = s')) (decide (a = a')) (decide (b = b')) (decide (n = n')) i) := by
  have hd : ∀ (s : ByteArray) (a b : List UInt8) (n j : Nat), j < 4 → (txt s a b n j).data.toList.head? = some (UInt8.ofNat j) := by
    intro s a b n j hj
    match j, hj with
    | 0, _ => exact tagS_head 0 _
    | 1, _ => exact tagS_head 1 _
    | 2, _ => exact tagS_head 2 _
    | 3, _ => exact tagS_head 3 _
  by_cases e : i = k
  · subst e
    rw [decide_eq_true rfl, Bool.true_and]
    match i, hi with
    | 0, _ => simp only [txt, sameB, leafS, tagS_inj]
    | 1, _ => simp only [txt, sameB, nodeS, tagS_inj, app_inj _ _ _ _ (show (hS a).size = (hS a').size by rw [hS_size, hS_size]; omega), hS_inj, Bool.decide_and]
    | 2, _ => simp only [txt, sameB, rootS, tagS_inj, app_inj _ _ _ _ (show (beS 8 n).size = (beS 8 n').size by rw [beS_size, beS_size]), hS_inj, beS_inj n n' hn hn', Bool.decide_and]
    | 3, _ => simp only [txt, sameB, headS, tagS_inj]
  · rw [decide_eq_false e, Bool.false_and]
    apply decide_eq_false
    intro h
    have h1 := hd s a b n i hi
    rw [h, hd s' a' b' n' k hk] at h1
    have h2 := congrArg UInt8.toNat (Option.some.inj h1)
    simp at h2
    omega
end Go.Proofs.YtlfkkfacbcpogaaDoor
