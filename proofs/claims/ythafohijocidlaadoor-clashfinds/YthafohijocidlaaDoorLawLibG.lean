/-
  A struct of a string and an opening among a law's arguments. No condition.
-/
import Derived.Test.YthafohijocidlaaDoorOpe
namespace Go.Proofs.YthafohijocidlaaDoor
set_option maxRecDepth 4000
open Go.ChangeShapes Go.WideShapes Go.ChangeAt Go.RowKit

section
variable {H : Type} {enc : TypeId × Value → H} {P : Program} {W : World}
theorem open_textO {sp : Nat → Bool} {held : Bool} {t s e : TypeId} {k0 k1 f0 f1 f2 : Field} {cs : Array Value} {d : DataW H} {ps : List MemPlace} (ht : P.underlying t = some (.struct #[k0, k1])) (hct : P.cellsOf t = 4)
    (hk : k0.offset = 0 ∧ k1.offset = 1) (hkc : P.cellsOf k0.type = 1 ∧ P.cellsOf k1.type = 3) (v0 : P.underlying k0.type = some .string) (v1 : P.underlying k1.type = some (.struct #[f0, f1, f2]))
    (ho : f0.offset = 0 ∧ f1.offset = 1 ∧ f2.offset = 2) (hc : P.cellsOf f0.type = 1 ∧ P.cellsOf f1.type = 1 ∧ P.cellsOf f2.type = 1)
    (u0 : P.underlying f0.type = some (.int .i64)) (u1 : P.underlying f1.type = some (.int .i64)) (u2 : P.underlying f2.type = some (.slice s)) (us : P.underlying s = some (.array 32 e)) (cs32 : P.cellsOf s = 32) (ue : P.underlying e = some (.int .u8)) (ce : P.cellsOf e = 1)
    (h : DataW.Trod enc P W 0 sp held t (.agg cs) d ps) :
    ∃ (S : ByteArray) (I N : Int) (p : Option Addr) (n c : Nat) (F : Nat → List UInt8), S.size ≤ maxLen ∧ ((Lit.int .i64 I).wf = true ∧ (Lit.int .i64 N).wf = true) ∧ (n ≤ c ∧ c ≤ maxLen) ∧ cs = #[.string S, .int .i64 I, .int .i64 N, .slice p n c] ∧ HAt W p n F := by
  obtain ⟨o0, o1⟩ := hk
  obtain ⟨c0, c1⟩ := hkc
  obtain ⟨fuel, hf⟩ := h
  obtain ⟨xs, m, _, _, hl, hlen, hf⟩ := DataW.trod_struct ht hf
  rw [hct] at hl
  cases cs with
  | mk L =>
  match xs, hlen, L, hl with
  | [y0, y1], _, [w0, w1, w2, w3], _ =>
    have g0 := hf 0 k0 rfl
    have g1 := hf 1 k1 rfl
    simp [o0, o1, c0, c1] at g0 g1
    obtain ⟨z0, e0, _, b0⟩ := DataW.trod_string v0 g0
    obtain ⟨I, N, p, n, c, F, hw, hnc, e1, hF⟩ := open_openingL v1 c1 ho hc u0 u1 u2 us cs32 ue ce g1
    refine ⟨z0, I, N, p, n, c, F, b0, hw, hnc, ?_, hF⟩
    apply Array.ext'
    show [w0, w1, w2, w3] = _
    have e0' : [w0] = [Value.string z0] := e0
    have e1' : [w1, w2, w3] = [Value.int .i64 I, .int .i64 N, .slice p n c] := e1
    rw [(List.cons.inj e0').1, e1']
end
end Go.Proofs.YthafohijocidlaaDoor
