/-
  A struct {int, []int, []hash} among a law's arguments. No condition.
-/
import Derived.Test.YtggpjhldmaflaaaDoorOpe
import Derived.Test.YtggpjhldmaflaaaDoorLawLibI
namespace Go.Proofs.YtggpjhldmaflaaaDoor
set_option maxRecDepth 4000
open Go.ChangeShapes Go.WideShapes Go.ChangeAt Go.RowKit

section
variable {H : Type} {enc : TypeId × Value → H} {P : Program} {W : World}
theorem open_many {sp : Nat → Bool} {held : Bool} {t e1 h2 e : TypeId} {f0 f1 f2 : Field} {cs : Array Value} {d : DataW H} {ps : List MemPlace} (ht : P.underlying t = some (.struct #[f0, f1, f2])) (hct : P.cellsOf t = 3)
    (ho : f0.offset = 0 ∧ f1.offset = 1 ∧ f2.offset = 2) (hc : P.cellsOf f0.type = 1 ∧ P.cellsOf f1.type = 1 ∧ P.cellsOf f2.type = 1)
    (u0 : P.underlying f0.type = some (.int .i64)) (u1 : P.underlying f1.type = some (.slice e1)) (v1 : P.underlying e1 = some (.int .i64)) (cs1 : P.cellsOf e1 = 1)
    (u2 : P.underlying f2.type = some (.slice h2)) (us : P.underlying h2 = some (.array 32 e)) (cs32 : P.cellsOf h2 = 32) (ue : P.underlying e = some (.int .u8)) (ce : P.cellsOf e = 1)
    (h : DataW.Trod enc P W 0 sp held t (.agg cs) d ps) :
    ∃ (N : Int) (p : Option Addr) (n c : Nat) (I : Nat → Int) (q : Option Addr) (m k : Nat) (F : Nat → List UInt8), (Lit.int .i64 N).wf = true ∧ (n ≤ c ∧ c ≤ maxLen) ∧ (∀ i, i < n → (Lit.int .i64 (I i)).wf = true) ∧ (m ≤ k ∧ k ≤ maxLen) ∧
      cs = #[.int .i64 N, .slice p n c, .slice q m k] ∧ IAt W p n I ∧ HAt W q m F := by
  obtain ⟨o0, o1, o2⟩ := ho
  obtain ⟨c0, c1, c2⟩ := hc
  obtain ⟨fuel, hf⟩ := h
  obtain ⟨xs, m, _, _, hl, hlen, hf⟩ := DataW.trod_struct ht hf
  rw [hct] at hl
  cases cs with
  | mk L =>
  match xs, hlen, L, hl with
  | [y0, y1, y2], _, [v0, w1, w2], _ =>
    have g0 := hf 0 f0 rfl
    have g1 := hf 1 f1 rfl
    have g2 := hf 2 f2 rfl
    simp [o0, o1, o2, c0, c1, c2] at g0 g1 g2
    obtain ⟨z0, e0, _, w0⟩ := DataW.trod_int u0 g0
    obtain ⟨p, n, c, I, hnc, rfl, hI, hw⟩ := open_isliceL u1 v1 cs1 g1
    obtain ⟨q, m, k, F, hmk, rfl, hF⟩ := open_hsliceL u2 us cs32 ue ce g2
    refine ⟨z0, p, n, c, I, q, m, k, F, w0, hnc, hw, hmk, ?_, hI, hF⟩
    apply Array.ext'
    show [v0, Value.slice p n c, Value.slice q m k] = _
    rw [(List.cons.inj e0).1]
end
end Go.Proofs.YtggpjhldmaflaaaDoor
