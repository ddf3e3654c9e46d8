/-
  What the laws of cur share: the example.
-/
import Derived.Test.YtbnaiojbkecofaaCurRefC
import Derived.Test.YtbnaiojbkecofaaEqHash
namespace Go.Proofs.Ytbnaiojbkecofaa
open Go.RowKit

/-! ### Guarded operations in a list -/
theorem wpList_exec {P : Program} {ops : Array Oper} {rest : List Oper} {o : Oper} {t : Array Value} {ds : List Deferred} {w : World} {Q : Exit → Act → World → Prop} (d : Nat) (hd : o.dst = some d) (hw : Region.wanted o (yielded ops t) = true) (v : Value) (w' : World)
    (hx : (execOp (evS t) o).run P w = .ok (.value v) w') (h : wpList P ops Q rest ⟨t.setIfInBounds d v, ds⟩ w') : wpList P ops Q (o :: rest) ⟨t, ds⟩ w := by
  have e : (Act.mk t ds).put o.dst v = ⟨t.setIfInBounds d v, ds⟩ := by rw [hd]; rfl
  rw [← e] at h
  rw [wpList, if_pos hw]
  left
  unfold Oper.wp
  rw [evS_eq, hx]
  exact h
theorem execLoadRow {P : Program} {o : Oper} {t : Array Value} {x : Operand} {w : World} (ty : TypeId) (ho : o.op = .load ty x) (g : Nat) (hx : evS t x = .pointer (some ⟨g, 0, none⟩)) (C : Array Value) (T : TypeId) (d : TypeDesc) (hg : Rowz w g C T)
    (hu : P.underlying ty = some d) (hd : (match d with | .struct _ | .array _ _ => true | _ => false) = true) (hi : (P.info? ty).map (·.size) = some C.size) : (execOp (evS t) o).run P w = .ok (.value (.agg C)) w := by
  unfold execOp
  simp only [ho, hx, Instr.loadAt, Instr.sureAddr, Sem.run_bind, Sem.run_pure, Result.andThen_ok, run_loadVar_row w g T ty C (0, 0) d hg hu hd hi]
theorem execEqHs {o : Oper} {t : Array Value} {x y : Operand} (l m : List UInt8) (hl : l.length = 32) (hm : m.length = 32) (w : World) (ho : o.op = .binOp .eql 46 x y 46) (hx : evS t x = .agg (bC 32 l)) (hy : evS t y = .agg (bC 32 m)) :
    (execOp (evS t) o).run Try.prog w = .ok (.value (.bool (decide (l = m)))) w := by
  have hq0 := sameH l m hl hm w
  have hq1 := guardH
  unfold execOp
  rw [ho]
  simp only [hx, hy]
  go_simp
theorem execEqH1 {o : Oper} {t : Array Value} {x y : Operand} (l : List UInt8) (hl : l.length = 32) (w : World) (ho : o.op = .binOp .eql 46 x y 46) (hx : evS t x = .agg (bC 32 l)) (hy : evS t y = .agg (bC 32 l)) :
    (execOp (evS t) o).run Try.prog w = .ok (.value (.bool true)) w := by
  have h := execEqHs l l hl hl w ho hx hy
  rw [decide_eq_true rfl] at h
  exact h
theorem wpList_store_madeG {P : Program} {ops : Array Oper} {rest : List Oper} {op : Oper} {a : Act} {Q : Exit → Act → World → Prop} (hgd : op.guard = none) (ty : TypeId) (x y : Operand) (ho : op.op = .store ty x y)
    (w : World) (o : Obj) (cells : Array Value) (hx : a.eval x = .pointer (some ⟨w.heap.size, 0, none⟩)) (hy : a.eval y = .agg cells) (t : TypeId) (cur : Array Value) (hob : o = .cells cur t)
    (hi : (P.info? ty).map (·.size) = some cells.size) (hs : cur.size = cells.size) (h1 : cells.all (·.oneCell') = true)
    (h : ∀ v, Hid (Rowz v w.heap.size cells t) → Hid (Grown w v) → wpList P ops Q rest (a.put op.dst undef) v) : wpList P ops Q (op :: rest) a (w.alloc o) := by
  subst hob
  have hr := Rowz.new w cur t
  exact wpList_store_row hgd ty x y ho w.heap.size cells hx hy t cur hr hi hs h1 (h _ (Lib.hid hr.row) (Lib.hid (Grown.setRow ((Grown.refl w).alloc _ _) hr (Nat.le_refl _) _)))
theorem zeroH : bC 32 [] = bC 32 (hashL noB) := hashL_row noB

def exC : Cu := ⟨⟨#[1, 2]⟩, 0⟩
theorem ex1 : rawP exC 1 = (⟨#[1]⟩, ⟨⟨#[2]⟩, 0⟩) := by
  rw [rawP, if_neg (by decide), if_neg (by decide)]
  rfl
theorem ex2 : numP ⟨⟨#[2]⟩, 0⟩ 1 = (0, ⟨noB, 3⟩) := by
  have e : tkL (sl ⟨#[2]⟩) = (2, 1, 0) := by decide
  rw [numP, e]
  simp only
  rw [if_neg (by decide), if_pos (by decide), failC_set _ _ rfl (by decide)]
theorem zero1 : rawP ⟨noB, 0⟩ 1 = (noB, ⟨noB, 1⟩) := by
  rw [rawP, if_neg (by decide), if_pos (by decide), failC_set _ _ rfl (by decide)]
theorem awake8_any (w : World) : Calls Try.prog 12 #[] w fun e w' => e = .returned (.bool true) ∧ Grown w w' := by
  have HA := Lib.hid (curRead_any ⟨#[1, 2]⟩ w)
  have HB : Hid (∀ w0, CurAt w0 w.heap.size exC → Calls Try.prog 16 #[.pointer (some ⟨w.heap.size, 0, none⟩)] w0 fun e w' => e = .returned (.int .u8 1) ∧ CurAt w' w.heap.size ⟨⟨#[2]⟩, 0⟩ ∧ OnlyC w.heap.size w0 w') := Lib.hid fun w0 h => by
    have := curByte_any w.heap.size exC w0 h
    rw [ex1] at this
    exact this
  have HN : Hid (∀ w0, CurAt w0 w.heap.size ⟨⟨#[2]⟩, 0⟩ → Calls Try.prog 17 #[.pointer (some ⟨w.heap.size, 0, none⟩), .int .u64 1] w0 fun e w' => e = .returned (.int .u64 0) ∧ CurAt w' w.heap.size ⟨noB, 3⟩ ∧ OnlyC w.heap.size w0 w') := Lib.hid fun w0 h => by
    have := curNum_any w.heap.size ⟨⟨#[2]⟩, 0⟩ 1 w0 h
    rw [ex2] at this
    exact this
  have HL : Hid (∀ w0, CurAt w0 w.heap.size ⟨noB, 3⟩ → Calls Try.prog 8 #[.pointer (some ⟨w.heap.size, 0, none⟩)] w0 fun e w' => e = .returned (.int .i64 0) ∧ w0 = w') := Lib.hid fun w0 h => curLeft_any _ ⟨noB, 3⟩ w0 h
  have HE : Hid (∀ w0, CurAt w0 w.heap.size ⟨noB, 3⟩ → Calls Try.prog 9 #[.pointer (some ⟨w.heap.size, 0, none⟩)] w0 fun e w' => e = .returned (.int .i64 3) ∧ w0 = w') := Lib.hid fun w0 h => curErr_any _ ⟨noB, 3⟩ w0 h
  go_enter Try.func12, Try.ntmps12
  go_wp2_with (first
    | (go_at_call 6; refine HA.out.mono ?_; rintro e w1 ⟨rfl, H1, G1⟩; replace H1 := Lib.hid H1; replace G1 := Lib.hid G1)
    | (go_at_call 16; refine (HB.out _ H1.out).mono ?_; rintro e w2 ⟨rfl, H2, O2⟩; replace H2 := Lib.hid H2; replace G1 := Lib.hid (O2.grown w G1.out (Nat.le_refl _)); clear O2 H1)
    | (go_at_call 17; refine (HN.out _ H2.out).mono ?_; rintro e w3 ⟨rfl, H3, O3⟩; replace H3 := Lib.hid H3; replace G1 := Lib.hid (O3.grown w G1.out (Nat.le_refl _)); clear O3 H2)
    | (go_at_call 8; refine (HL.out _ H3.out).mono ?_; rintro e w4 ⟨rfl, rfl⟩)
    | (go_at_call 9; refine (HE.out _ H3.out).mono ?_; rintro e w4 ⟨rfl, rfl⟩))
  go_ret
  exact ⟨rfl, G1.out⟩
end Go.Proofs.Ytbnaiojbkecofaa
