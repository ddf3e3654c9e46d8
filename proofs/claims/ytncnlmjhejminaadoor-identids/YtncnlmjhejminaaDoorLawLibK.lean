/-
  Slices of headers, wherever they lie (XAt): among a law's arguments; an element's address; a header loaded out of one. No condition.
-/
import Derived.Test.YtncnlmjhejminaaDoorLawLibJ
namespace Go.Proofs.YtncnlmjhejminaaDoor
set_option maxRecDepth 4000
open Go.ChangeShapes Go.WideShapes Go.ChangeAt Go.RowKit

/-- n headers from p on. -/
def XAt (w : World) (p : Option Addr) (n : Nat) (X : Nat → Hd) : Prop :=
  ∀ i, i < n → (X i).ok ∧ ∃ a : Addr, p = some a ∧ a.block < w.heap.size ∧ ∀ j u, (hdC (X i)).toList[j]? = some u → w.cell? (a.add (i * 66 + j)) = some u
theorem XAt.kept {w w' : World} {p : Option Addr} {n : Nat} {X : Nat → Hd} (h : XAt w p n X) (K : Kept w w') : XAt w' p n X := by
  intro i hi
  obtain ⟨hl, a, hp, hb, hc⟩ := h i hi
  refine ⟨hl, a, hp, Nat.lt_of_lt_of_le hb K.size, fun j u hj => ?_⟩
  rw [Kept.cellAt K _ (by rw [add_block]; exact hb)]; exact hc j u hj
theorem XAt.zero (w : World) (p : Option Addr) (X : Nat → Hd) : XAt w p 0 X := fun i hi => absurd hi (Nat.not_lt_zero i)
theorem XAt.some {w : World} {p : Option Addr} {n : Nat} {X : Nat → Hd} (h : XAt w p n X) (hn : 0 < n) : ∃ a, p = .some a ∧ a.block < w.heap.size := by
  obtain ⟨_, a, hp, hb, _⟩ := h 0 hn; exact ⟨a, hp, hb⟩
theorem XAt.oks {w : World} {p : Option Addr} {n : Nat} {X : Nat → Hd} (h : XAt w p n X) : ∀ i, i < n → (X i).ok := fun i hi => (h i hi).1
theorem XAt.load {w : World} {a : Addr} {n : Nat} {X : Nat → Hd} (h : XAt w (.some a) n X) (i : Nat) (hi : i < n) :
    (Instr.loadAt 32 (.pointer (.some (a.add (i * 66))))).run Tryd.prog w = .ok (.agg (hdC (X i))) w := by
  obtain ⟨hl, q, e, hb, hc⟩ := h i hi
  obtain rfl := Option.some.inj e
  have h1 := run_loadCells_list (P := Tryd.prog) w (a.add (i * 66)) (hdC (X i)).toList (fun j v hj => by rw [Deep.add_add]; exact hc j v hj)
  rw [Array.length_toList, hdC_size, Array.toArray_toList] at h1
  have hagg : (isAgg 32).run Tryd.prog w = .ok true w := by
    unfold isAgg
    rw [Sem.run_bind, run_underlying Tryd.underlying32 w]
    rfl
  have hsz : (Go.sizeOf 32).run Tryd.prog w = .ok 66 w := by kernel_rfl
  simp only [Instr.loadAt, Instr.sureAddr, Sem.run_bind, Sem.run_pure, Result.andThen_ok, loadVar, hagg, hsz, h1, if_true]
theorem XAt.ofCells {w : World} {g n : Nat} {X : Nat → Hd} {cur : Array Value} {T : TypeId} (h : Rowz w g cur T) (hl : ∀ i, i < n → (X i).ok) (hc : ∀ i, i < n → ∀ j u, (hdC (X i)).toList[j]? = .some u → cur[i * 66 + j]? = .some u) : XAt w (.some ⟨g, 0, none⟩) n X := by
  intro i hi
  refine ⟨hl i hi, _, rfl, h.lt, fun j u hj => ?_⟩
  have e : (⟨g, 0, none⟩ : Addr).add (i * 66 + j) = ⟨g, i * 66 + j, none⟩ := by rw [Addr.add_mid]; simp
  rw [e, h.cell]
  exact hc i hi j u hj
theorem execIndexX {o : Oper} {t : Array Value} {x y : Operand} (q : Addr) (n c k : Nat) (hk : k < n) (w : World) (ho : o.op = .indexAddr 22 x y) (hx : evS t x = .slice (some q) n c) (hy : evS t y = .int .i64 (k : Int)) :
    (execOp (evS t) o).run Tryd.prog w = .ok (.value (.pointer (some (q.add (k * 66))))) w := by
  have h1 : ((k : Int) < (n : Int)) := by omega
  have hs : (Go.sizeOf 32).run Tryd.prog w = .ok 66 w := by kernel_rfl
  unfold execOp
  rw [ho]
  simp only [hx, hy]
  go_simp
theorem execLenXs {o : Oper} {t : Array Value} {x : Operand} {p : Option Addr} {n c : Nat} (w : World) (ho : o.op = .call { callee := .builtin .len, args := #[x], argTypes := #[22] }) (hx : evS t x = .slice p n c) :
    (execOp (evS t) o).run Tryd.prog w = .ok (.value (.int .i64 (n : Int))) w := by
  unfold execOp
  rw [ho]
  go_simp
theorem load_xat {o : Oper} {t : Array Value} {x : Operand} {w : World} {q : Addr} {n : Nat} {X : Nat → Hd} (k : Nat) (ho : o.op = .load 32 x) (hx : evS t x = .pointer (some (q.add (k * 66)))) (hF : XAt w (some q) n X) (hk : k < n) :
    (execOp (evS t) o).run Tryd.prog w = .ok (.value (.agg (hdC (X k)))) w := by
  have hr := hF.load k hk
  unfold execOp
  simp only [ho, hx, Sem.run_bind, Sem.run_pure, hr, Result.andThen_ok]

/-! ### Among the arguments -/
section
variable {H : Type} {enc : TypeId × Value → H} {P : Program} {W : World}
theorem open_xslice {sp : Nat → Bool} {held : Bool} {s t e : TypeId} {f0 f1 f2 f3 : Field} {base : Nat} {v : Value} {d : DataW H} {ps : List MemPlace}
    (hs : P.underlying s = .some (.slice t)) (ht : P.underlying t = .some (.struct #[f0, f1, f2, f3])) (hct : P.cellsOf t = 66)
    (ho : f0.offset = 0 ∧ f1.offset = 1 ∧ f2.offset = 33 ∧ f3.offset = 65) (hc : P.cellsOf f0.type = 1 ∧ P.cellsOf f1.type = 32 ∧ P.cellsOf f2.type = 32 ∧ P.cellsOf f3.type = 1)
    (u0 : P.underlying f0.type = .some (.int .u32)) (u1 : P.underlying f1.type = .some (.array 32 e)) (u2 : P.underlying f2.type = .some (.array 32 e)) (u3 : P.underlying f3.type = .some (.int .u64)) (ue : P.underlying e = .some (.int .u8)) (ce : P.cellsOf e = 1)
    (hv : Value.okWide P W .any base s v) (h : DataW.Trod enc P W 0 sp held s v d ps) :
    ∃ (p : Option Addr) (n c : Nat) (X : Nat → Hd), (n ≤ c ∧ c ≤ maxLen) ∧ v = .slice p n c ∧ XAt W p n X := by
  obtain ⟨a0, len, cap, rfl⟩ := okWide_slice hs hv
  obtain ⟨fuel, hf⟩ := h
  rcases Deep.open_slice hs hf with ⟨hcs, _⟩ | ⟨a, len', cap', m, n, D, Pl, hcs, _, hl, hm, hmm, _, hx⟩
  · have e1 : [Value.slice a0 len cap] = [Value.slice none 0 0] := hcs
    simp only [List.cons.injEq, Value.slice.injEq, and_true] at e1
    obtain ⟨rfl, rfl, rfl⟩ := e1
    exact ⟨none, 0, 0, fun _ => hdZ, ⟨Nat.le_refl _, Nat.zero_le _⟩, rfl, XAt.zero _ _ _⟩
  · have e1 : [Value.slice a0 len cap] = [Value.slice (.some a) len' cap'] := hcs
    simp only [List.cons.injEq, Value.slice.injEq, and_true] at e1
    obtain ⟨rfl, rfl, rfl⟩ := e1
    have hlm : len ≤ m := by rw [hmm]; split <;> omega
    have each : ∀ i, i < len → ∃ y : Hd, y.ok ∧ ∀ j u, (hdC y).toList[j]? = .some u → W.cell? (a.add (i * 66 + j)) = .some u := fun i hi => by
      obtain ⟨cs', h1, h2⟩ := hx i (by omega)
      rw [hct] at h1
      obtain ⟨_, hlen, hcell⟩ := World.cells?_some h1
      obtain ⟨y, hy, er⟩ := open_headerL ht hct ho hc u0 u1 u2 u3 ue ce h2
      refine ⟨y, hy, fun j u hj => ?_⟩
      have hj66 : j < 66 := by
        have := (List.getElem?_eq_some_iff.1 hj).1
        simpa [hdC_size] using this
      have hc := hcell j hj66
      rw [Deep.add_add] at hc
      rw [hc, er, hj]
    haveI : Inhabited Hd := ⟨hdZ⟩
    obtain ⟨X, hX⟩ := Deep.choose_lt each
    refine ⟨.some a, len, cap, X, ⟨hl, hm⟩, rfl, fun i hi => ⟨(hX i hi).1, a, rfl, ?_, (hX i hi).2⟩⟩
    have hz : (hdC (X i)).toList[0]? = .some (.int .u32 ((X i).h : Int)) := by rw [Array.getElem?_toList, hdC_0]
    have := lt_of_cell ((hX i hi).2 0 _ hz)
    rwa [add_block] at this
end
end Go.Proofs.YtncnlmjhejminaaDoor
