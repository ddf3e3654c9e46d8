/-
  A struct of four integers among the arguments, and a slice of such structs. No condition.
-/
import Derived.Test.YtmccpbpnpdidbaaLawLib
import Derived.Deep.SlicePairs
namespace Go.Proofs.Ytmccpbpnpdidbaa
open Go.ChangeShapes Go.WideShapes Go.ChangeAt Go.RowKit

section
variable {H : Type} {enc : TypeId × Value → H} {P : Program} {W : World} {base : Nat} {sp : Nat → Bool} {held : Bool}
theorem open_quadL {t : TypeId} {f0 f1 f2 f3 : Field} {k0 k1 k2 k3 : IntKind} {fuel : Nat} {cs : List Value} {x : DataW H × List MemPlace} (ht : P.underlying t = some (.struct #[f0, f1, f2, f3])) (hct : P.cellsOf t = 4)
    (ho : f0.offset = 0 ∧ f1.offset = 1 ∧ f2.offset = 2 ∧ f3.offset = 3) (hc : P.cellsOf f0.type = 1 ∧ P.cellsOf f1.type = 1 ∧ P.cellsOf f2.type = 1 ∧ P.cellsOf f3.type = 1)
    (u0 : P.underlying f0.type = some (.int k0)) (u1 : P.underlying f1.type = some (.int k1)) (u2 : P.underlying f2.type = some (.int k2)) (u3 : P.underlying f3.type = some (.int k3))
    (h : DataW.trod enc P W base sp held fuel t cs = some x) :
    ∃ z0 z1 z2 z3 : Int, (Lit.int k0 z0).wf = true ∧ (Lit.int k1 z1).wf = true ∧ (Lit.int k2 z2).wf = true ∧ (Lit.int k3 z3).wf = true ∧ cs = [.int k0 z0, .int k1 z1, .int k2 z2, .int k3 z3] := by
  obtain ⟨o0, o1, o2, o3⟩ := ho
  obtain ⟨c0, c1, c2, c3⟩ := hc
  obtain ⟨xs, n, _, _, hl, hlen, hf⟩ := DataW.trod_struct ht h
  rw [hct] at hl
  match xs, hlen, cs, hl with
  | [y0, y1, y2, y3], _, [v0, v1, v2, v3], _ =>
    have g0 := hf 0 f0 rfl
    have g1 := hf 1 f1 rfl
    have g2 := hf 2 f2 rfl
    have g3 := hf 3 f3 rfl
    simp [o0, o1, o2, o3, c0, c1, c2, c3] at g0 g1 g2 g3
    obtain ⟨z0, e0, _, w0⟩ := DataW.trod_int u0 g0
    obtain ⟨z1, e1, _, w1⟩ := DataW.trod_int u1 g1
    obtain ⟨z2, e2, _, w2⟩ := DataW.trod_int u2 g2
    obtain ⟨z3, e3, _, w3⟩ := DataW.trod_int u3 g3
    refine ⟨z0, z1, z2, z3, w0, w1, w2, w3, ?_⟩
    rw [(List.cons.inj e0).1, (List.cons.inj e1).1, (List.cons.inj e2).1, (List.cons.inj e3).1]
/-- A struct of four integers. -/
theorem open_quad {t : TypeId} {f0 f1 f2 f3 : Field} {k0 k1 k2 k3 : IntKind} {cs : Array Value} {d : DataW H} {ps : List MemPlace} (ht : P.underlying t = some (.struct #[f0, f1, f2, f3])) (hct : P.cellsOf t = 4)
    (ho : f0.offset = 0 ∧ f1.offset = 1 ∧ f2.offset = 2 ∧ f3.offset = 3) (hc : P.cellsOf f0.type = 1 ∧ P.cellsOf f1.type = 1 ∧ P.cellsOf f2.type = 1 ∧ P.cellsOf f3.type = 1)
    (u0 : P.underlying f0.type = some (.int k0)) (u1 : P.underlying f1.type = some (.int k1)) (u2 : P.underlying f2.type = some (.int k2)) (u3 : P.underlying f3.type = some (.int k3))
    (h : DataW.Trod enc P W base sp held t (.agg cs) d ps) :
    ∃ z0 z1 z2 z3 : Int, (Lit.int k0 z0).wf = true ∧ (Lit.int k1 z1).wf = true ∧ (Lit.int k2 z2).wf = true ∧ (Lit.int k3 z3).wf = true ∧ cs = #[.int k0 z0, .int k1 z1, .int k2 z2, .int k3 z3] := by
  obtain ⟨fuel, hf⟩ := h
  obtain ⟨z0, z1, z2, z3, w0, w1, w2, w3, e⟩ := open_quadL ht hct ho hc u0 u1 u2 u3 hf
  exact ⟨z0, z1, z2, z3, w0, w1, w2, w3, Array.ext' e⟩
/-- A slice of such structs. -/
theorem open_quadsArg {t s : TypeId} {f0 f1 f2 f3 : Field} {k0 k1 k2 k3 : IntKind} {v : Value} {d : DataW H} {ps : List MemPlace} (hs : P.underlying s = some (.slice t)) (ht : P.underlying t = some (.struct #[f0, f1, f2, f3])) (hct : P.cellsOf t = 4)
    (ho : f0.offset = 0 ∧ f1.offset = 1 ∧ f2.offset = 2 ∧ f3.offset = 3) (hc : P.cellsOf f0.type = 1 ∧ P.cellsOf f1.type = 1 ∧ P.cellsOf f2.type = 1 ∧ P.cellsOf f3.type = 1)
    (u0 : P.underlying f0.type = some (.int k0)) (u1 : P.underlying f1.type = some (.int k1)) (u2 : P.underlying f2.type = some (.int k2)) (u3 : P.underlying f3.type = some (.int k3))
    (hv : Value.okWide P W .any base s v) (h : DataW.Trod enc P W 0 sp held s v d ps) :
    ∃ (p : Option Addr) (n c : Nat) (F : Nat → Int × Int × Int × Int), n ≤ maxLen ∧ v = .slice p n c ∧
      ∀ i, i < n → ((Lit.int k0 (F i).1).wf = true ∧ (Lit.int k1 (F i).2.1).wf = true ∧ (Lit.int k2 (F i).2.2.1).wf = true ∧ (Lit.int k3 (F i).2.2.2).wf = true) ∧
        ∃ a : Addr, p = some a ∧ a.block < W.heap.size ∧ W.cell? (a.add (i * 4)) = some (.int k0 (F i).1) ∧ W.cell? (a.add (i * 4 + 1)) = some (.int k1 (F i).2.1) ∧ W.cell? (a.add (i * 4 + 2)) = some (.int k2 (F i).2.2.1) ∧ W.cell? (a.add (i * 4 + 3)) = some (.int k3 (F i).2.2.2) := by
  obtain ⟨a0, len, cap, rfl⟩ := okWide_slice hs hv
  obtain ⟨fuel, hf⟩ := h
  rcases Deep.open_slice hs hf with ⟨hcs, _⟩ | ⟨a, len', cap', m, n, D, Pl, hcs, _, hl, hm, hmm, _, hx⟩
  · have e1 : [Value.slice a0 len cap] = [Value.slice none 0 0] := hcs
    simp only [List.cons.injEq, Value.slice.injEq, and_true] at e1
    obtain ⟨rfl, rfl, rfl⟩ := e1
    exact ⟨none, 0, 0, fun _ => (0, 0, 0, 0), Nat.zero_le _, rfl, fun i hi => absurd hi (Nat.not_lt_zero _)⟩
  · have e1 : [Value.slice a0 len cap] = [Value.slice (some a) len' cap'] := hcs
    simp only [List.cons.injEq, Value.slice.injEq, and_true] at e1
    obtain ⟨rfl, rfl, rfl⟩ := e1
    have hlm : len ≤ m := by rw [hmm]; split <;> omega
    have each : ∀ i, i < len → ∃ q : Int × Int × Int × Int, ((Lit.int k0 q.1).wf = true ∧ (Lit.int k1 q.2.1).wf = true ∧ (Lit.int k2 q.2.2.1).wf = true ∧ (Lit.int k3 q.2.2.2).wf = true) ∧
        W.cell? (a.add (i * 4)) = some (.int k0 q.1) ∧ W.cell? (a.add (i * 4 + 1)) = some (.int k1 q.2.1) ∧ W.cell? (a.add (i * 4 + 2)) = some (.int k2 q.2.2.1) ∧ W.cell? (a.add (i * 4 + 3)) = some (.int k3 q.2.2.2) := by
      intro i hi
      obtain ⟨cs', h1, h2⟩ := hx i (by omega)
      obtain ⟨z0, z1, z2, z3, w0, w1, w2, w3, rfl⟩ := open_quadL ht hct ho hc u0 u1 u2 u3 h2
      rw [hct] at h1
      obtain ⟨_, hlen, hcell⟩ := World.cells?_some h1
      have e0 := hcell 0 (by omega)
      have e1 := hcell 1 (by omega)
      have e2 := hcell 2 (by omega)
      have e3 := hcell 3 (by omega)
      rw [Deep.add_add] at e0 e1 e2 e3
      exact ⟨(z0, z1, z2, z3), ⟨w0, w1, w2, w3⟩, by simpa using e0, by simpa using e1, by simpa using e2, by simpa using e3⟩
    obtain ⟨q, hq⟩ := Deep.choose_lt each
    refine ⟨some a, len, cap, q, Nat.le_trans hl hm, rfl, fun i hi => ?_⟩
    obtain ⟨hw, h0, h1, h2, h3⟩ := hq i hi
    refine ⟨hw, a, rfl, ?_, h0, h1, h2, h3⟩
    have := lt_of_cell h0
    rwa [add_block] at this
end
end Go.Proofs.Ytmccpbpnpdidbaa
