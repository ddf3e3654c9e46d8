/-
  A header in memory: its 66 cells (hdC), equality, the zero header, a header loaded whole, its fields. No condition.
-/
import Derived.Test.YtlfkkfacbcpogaaDoorHeadMath
import Derived.Test.YtlfkkfacbcpogaaDoorTag
import Derived.Laws.StructEq
namespace Go.Proofs.YtlfkkfacbcpogaaDoor
set_option maxRecDepth 4000
open Go.RowKit

def hdC (x : Hd) : Array Value := #[.int .u32 (x.h : Int)] ++ bC 32 x.l ++ bC 32 x.t ++ #[.int .u64 (x.n : Int)]
theorem hdC_size (x : Hd) : (hdC x).size = 66 := by simp [hdC, bC_size]
theorem hdC_one (x : Hd) : (hdC x).all (·.oneCell') = true := by
  rw [Array.all_eq_true_iff_forall_mem]
  intro y hy
  simp only [hdC, Array.mem_append] at hy
  rcases hy with ((hy | hy) | hy) | hy
  · obtain rfl : y = .int .u32 (x.h : Int) := by simpa using hy
    rfl
  · exact Array.all_eq_true_iff_forall_mem.1 (bC_one 32 x.l) y hy
  · exact Array.all_eq_true_iff_forall_mem.1 (bC_one 32 x.t) y hy
  · obtain rfl : y = .int .u64 (x.n : Int) := by simpa using hy
    rfl
theorem info_hdr (x : Hd) : (Tryd.prog.info? 33).map (·.size) = some (hdC x).size := by rw [hdC_size]; kernel_rfl
theorem hdC_zero : hdC ⟨0, [], [], 0⟩ = hdC hdZ := by kernel_rfl
theorem run_buildH0 (w : World) : (Instr.build 33 #[]).run Tryd.prog w = .ok (.agg (hdC hdZ)) w := by kernel_rfl
theorem run_buildHn (a b : Int) (w : World) (h n : Nat) (ha : a = (h : Int)) (hb : b = (n : Int)) : (Instr.build 33 #[(0, .int .u32 a), (3, .int .u64 b)]).run Tryd.prog w = .ok (.agg (hdC ⟨h, List.replicate 32 0, List.replicate 32 0, n⟩)) w := by
  subst ha; subst hb; kernel_rfl
theorem hdC_0 (x : Hd) : (hdC x)[0]? = some (.int .u32 (x.h : Int)) := by
  unfold hdC
  rw [Array.getElem?_append_left (by simp [bC_size]), Array.getElem?_append_left (by simp [bC_size]), Array.getElem?_append_left (by simp)]
  rfl
theorem hdC_l (x : Hd) (i : Nat) (h : i < 32) : (hdC x)[1 + i]? = some (.int .u8 (((x.l.getD i 0).toNat : Nat) : Int)) := by
  unfold hdC
  rw [Array.getElem?_append_left (by simp [bC_size]; omega), Array.getElem?_append_left (by simp [bC_size]; omega), Array.getElem?_append_right (by simp), show 1 + i - (#[Value.int .u32 (x.h : Int)] : Array Value).size = i by simp]
  exact bC_get _ _ _ h
theorem hdC_t (x : Hd) (i : Nat) (h : i < 32) : (hdC x)[33 + i]? = some (.int .u8 (((x.t.getD i 0).toNat : Nat) : Int)) := by
  unfold hdC
  rw [Array.getElem?_append_left (by simp [bC_size]; omega), Array.getElem?_append_right (by simp [bC_size]), show 33 + i - ((#[Value.int .u32 (x.h : Int)] : Array Value) ++ bC 32 x.l).size = i by simp [bC_size]]
  exact bC_get _ _ _ h
theorem hdC_65 (x : Hd) : (hdC x)[65]? = some (.int .u64 (x.n : Int)) := by
  unfold hdC
  rw [Array.getElem?_append_right (by simp [bC_size])]
  simp [bC_size]
theorem hdC_inj (x y : Hd) (hx : x.ok) (hy : y.ok) : hdC x = hdC y → x = y := by
  intro h
  obtain ⟨_, a1, a2, _⟩ := hx
  obtain ⟨_, b1, b2, _⟩ := hy
  have e0 : x.h = y.h := by have := hdC_0 x; rw [h, hdC_0 y] at this; simp at this; omega
  have e3 : x.n = y.n := by have := hdC_65 x; rw [h, hdC_65 y] at this; simp at this; omega
  have e1 : x.l = y.l := by
    apply List.ext_getElem (by omega)
    intro i h1 h2
    have := hdC_l x i (by omega)
    rw [h, hdC_l y i (by omega)] at this
    simp [List.getD_eq_getElem?_getD, h1, h2] at this
    exact UInt8.toNat_inj.1 (by omega)
  have e2 : x.t = y.t := by
    apply List.ext_getElem (by omega)
    intro i h1 h2
    have := hdC_t x i (by omega)
    rw [h, hdC_t y i (by omega)] at this
    simp [List.getD_eq_getElem?_getD, h1, h2] at this
    exact UInt8.toNat_inj.1 (by omega)
  cases x; cases y
  simp_all
theorem part_l (x : Hd) (w : World) : (part 31 (hdC x) 1).run Tryd.prog w = .ok (.agg (bC 32 x.l)) w := by kernel_rfl
theorem part_t (x : Hd) (w : World) : (part 31 (hdC x) 33).run Tryd.prog w = .ok (.agg (bC 32 x.t)) w := by kernel_rfl
theorem part_h (x : Hd) (w : World) : (part 22 (hdC x) 0).run Tryd.prog w = .ok (.int .u32 (x.h : Int)) w := by kernel_rfl
theorem part_n (x : Hd) (w : World) : (part 25 (hdC x) 65).run Tryd.prog w = .ok (.int .u64 (x.n : Int)) w := by kernel_rfl
theorem fields_hdr : ∃ f0 f1 f2 f3 : Field, (Tryd.prog.fieldsOf 33).toList = [f0, f1, f2, f3] ∧ (f0.name ≠ "_" ∧ f0.type = 22 ∧ f0.offset = 0) ∧ (f1.name ≠ "_" ∧ f1.type = 31 ∧ f1.offset = 1) ∧ (f2.name ≠ "_" ∧ f2.type = 31 ∧ f2.offset = 33) ∧ (f3.name ≠ "_" ∧ f3.type = 25 ∧ f3.offset = 65) := by
  have h : (Tryd.prog.fieldsOf 33).toList.map (fun f => (f.name != "_", f.type, f.offset)) = [(true, 22, 0), (true, 31, 1), (true, 31, 33), (true, 25, 65)] := by kernel_rfl
  generalize (Tryd.prog.fieldsOf 33).toList = L at h ⊢
  rcases L with _ | ⟨f0, _ | ⟨f1, _ | ⟨f2, _ | ⟨f3, _ | ⟨f4, L⟩⟩⟩⟩⟩
  · simp at h
  · simp at h
  · simp at h
  · simp at h
  · simp only [List.map_cons, List.map_nil, List.cons.injEq, Prod.mk.injEq, bne_iff_ne, ne_eq, and_true] at h
    exact ⟨f0, f1, f2, f3, rfl, h.1, h.2.1, h.2.2.1, h.2.2.2⟩
  · simp at h
theorem eqFields_step {P : Program} {d : Nat} {xs ys : Array Value} {f : Field} {fs : List Field} {a b : Value} {r : Bool} {w : World} (hn : f.name ≠ "_") (ha : (part f.type xs f.offset).run P w = .ok a w) (hb : (part f.type ys f.offset).run P w = .ok b w)
    (hr : (Op.equalIn d f.type a b).run P w = .ok r w) : (Op.eqFields d xs ys (f :: fs)).run P w = if r then (Op.eqFields d xs ys fs).run P w else .ok false w := by
  rw [Op.eqFields, if_pos hn]
  simp only [Sem.run_bind, ha, hb, hr, Result.andThen_ok]
  cases r <;> simp
theorem sameHd (x y : Hd) (hx : x.ok) (hy : y.ok) (w : World) : (Op.equalIn 10000 33 (.agg (hdC x)) (.agg (hdC y))).run Tryd.prog w = .ok (decide (x = y)) w := by
  obtain ⟨f0, f1, f2, f3, hf, ⟨n0, t0, o0⟩, ⟨n1, t1, o1⟩, ⟨n2, t2, o2⟩, ⟨n3, t3, o3⟩⟩ := fields_hdr
  obtain ⟨_, a1, a2, _⟩ := hx
  obtain ⟨_, b1, b2, _⟩ := hy
  have q1 := run_equalIn_ints (P := Tryd.prog) w 9997 31 5 32 .u8 Tryd.underlying31 Tryd.underlying5 (fun w => by kernel_rfl) (fun i => (((x.l.getD i 0).toNat : Nat) : Int)) (fun i => (((y.l.getD i 0).toNat : Nat) : Int))
  rw [all_bytes x.l y.l a1 b1] at q1
  have q2 := run_equalIn_ints (P := Tryd.prog) w 9997 31 5 32 .u8 Tryd.underlying31 Tryd.underlying5 (fun w => by kernel_rfl) (fun i => (((x.t.getD i 0).toNat : Nat) : Int)) (fun i => (((y.t.getD i 0).toNat : Nat) : Int))
  rw [all_bytes x.t y.t a2 b2] at q2
  have q1' : (Op.equalIn 9999 f1.type (.agg (bC 32 x.l)) (.agg (bC 32 y.l))).run Tryd.prog w = .ok (decide (x.l = y.l)) w := by rw [t1]; exact q1
  have q2' : (Op.equalIn 9999 f2.type (.agg (bC 32 x.t)) (.agg (bC 32 y.t))).run Tryd.prog w = .ok (decide (x.t = y.t)) w := by rw [t2]; exact q2
  have q0 : (Op.equalIn 9999 f0.type (.int .u32 (x.h : Int)) (.int .u32 (y.h : Int))).run Tryd.prog w = .ok ((x.h : Int) == (y.h : Int)) w := by rw [t0]; exact run_equalIn_int w 9998 _ _ _ _ _ Tryd.underlying22
  have q3 : (Op.equalIn 9999 f3.type (.int .u64 (x.n : Int)) (.int .u64 (y.n : Int))).run Tryd.prog w = .ok ((x.n : Int) == (y.n : Int)) w := by rw [t3]; exact run_equalIn_int w 9998 _ _ _ _ _ Tryd.underlying25
  have pa : ∀ z : Hd, (part f0.type (hdC z) f0.offset).run Tryd.prog w = .ok (.int .u32 (z.h : Int)) w := fun z => by rw [t0, o0]; exact part_h z w
  have pb : ∀ z : Hd, (part f1.type (hdC z) f1.offset).run Tryd.prog w = .ok (.agg (bC 32 z.l)) w := fun z => by rw [t1, o1]; exact part_l z w
  have pc : ∀ z : Hd, (part f2.type (hdC z) f2.offset).run Tryd.prog w = .ok (.agg (bC 32 z.t)) w := fun z => by rw [t2, o2]; exact part_t z w
  have pd : ∀ z : Hd, (part f3.type (hdC z) f3.offset).run Tryd.prog w = .ok (.int .u64 (z.n : Int)) w := fun z => by rw [t3, o3]; exact part_n z w
  rw [run_equalIn_struct w 9999 33 (hdC x) (hdC y) (by kernel_rfl) (by kernel_rfl), hf, eqFields_step n0 (pa x) (pa y) q0, eqFields_step n1 (pb x) (pb y) q1', eqFields_step n2 (pc x) (pc y) q2', eqFields_step n3 (pd x) (pd y) q3, Op.eqFields]
  by_cases h0 : x.h = y.h
  · by_cases h1 : x.l = y.l
    · by_cases h2 : x.t = y.t
      · by_cases h3 : x.n = y.n
        · have e : x = y := by cases x; cases y; simp_all
          simp [e]
        · have e : ¬ x = y := fun e => h3 (by rw [e])
          have h3' : ¬ (x.n : Int) = (y.n : Int) := by omega
          simp [h0, h1, h2, h3', e]
      · have e : ¬ x = y := fun e => h2 (by rw [e])
        simp [h0, h1, h2, e]
    · have e : ¬ x = y := fun e => h1 (by rw [e])
      simp [h0, h1, e]
  · have e : ¬ x = y := fun e => h0 (by rw [e])
    have h0' : ¬ (x.h : Int) = (y.h : Int) := by omega
    simp [h0', e]
theorem guardHd : Tryd.prog.eqGuardType Tryd.prog.depth 33 = false := by kernel_rfl
theorem execEqHd {o : Oper} {t : Array Value} {x y : Operand} (a b : Hd) (ha : a.ok) (hb : b.ok) (w : World) (ho : o.op = .binOp .eql 33 x y 33) (hx : evS t x = .agg (hdC a)) (hy : evS t y = .agg (hdC b)) :
    (execOp (evS t) o).run Tryd.prog w = .ok (.value (.bool (decide (a = b)))) w := by
  have hE : (binOp .eql 33 (.agg (hdC a)) (.agg (hdC b))).run Tryd.prog w = .ok (.bool (decide (a = b))) w := by
    rw [run_eql_struct, sameHd a b ha hb w]; rfl
  unfold execOp
  rw [ho]
  simp only [hx, hy, Sem.run_bind, run_eqGuard_agg w _ _ _ _ _ _ guardHd, hE, Result.andThen_ok, Sem.run_pure]
/-- A header loaded whole. -/
theorem loadHd {o : Oper} {t : Array Value} {x : Operand} {w : World} {g : Nat} {c : Hd} (ho : o.op = .load 33 x) (hx : evS t x = .pointer (some ⟨g, 0, none⟩)) (hg : Rowz w g (hdC c) 33) :
    (execOp (evS t) o).run Tryd.prog w = .ok (.value (.agg (hdC c))) w :=
  execLoadRow 33 ho g hx (hdC c) 33 _ hg Tryd.underlying33 rfl (info_hdr c)
attribute [irreducible] hdC
end Go.Proofs.YtlfkkfacbcpogaaDoor
