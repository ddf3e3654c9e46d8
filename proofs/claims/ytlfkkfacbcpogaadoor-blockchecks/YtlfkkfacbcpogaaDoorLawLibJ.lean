/-
  A header (a struct {uint32, hash, hash, uint64}, 66 cells) among a law's arguments. No condition.
-/
import Derived.Test.YtlfkkfacbcpogaaDoorTag
import Derived.Test.YtlfkkfacbcpogaaDoorHeadLib
namespace Go.Proofs.YtlfkkfacbcpogaaDoor
set_option maxRecDepth 4000
open Go.ChangeShapes Go.WideShapes Go.ChangeAt Go.RowKit

theorem cut66 {α : Type} (L : List α) (h : L.length = 66) : L = L.take 1 ++ (L.drop 1).take 32 ++ (L.drop 33).take 32 ++ (L.drop 65).take 1 := by
  rw [List.append_assoc, List.append_assoc]
  have e3 : (L.drop 65).take 1 = L.drop 65 := List.take_of_length_le (by simp; omega)
  have e2 : (L.drop 33).take 32 ++ L.drop 65 = L.drop 33 := by
    have := List.take_append_drop 32 (L.drop 33)
    rwa [List.drop_drop] at this
  have e1 : (L.drop 1).take 32 ++ L.drop 33 = L.drop 1 := by
    have := List.take_append_drop 32 (L.drop 1)
    rwa [List.drop_drop] at this
  rw [e3, e2, e1, List.take_append_drop]
section
variable {H : Type} {enc : TypeId × Value → H} {P : Program} {W : World} {base : Nat} {sp : Nat → Bool} {held : Bool}
theorem open_headerL {t e : TypeId} {f0 f1 f2 f3 : Field} {fuel : Nat} {cs : List Value} {x : DataW H × List MemPlace} (ht : P.underlying t = some (.struct #[f0, f1, f2, f3])) (hct : P.cellsOf t = 66)
    (ho : f0.offset = 0 ∧ f1.offset = 1 ∧ f2.offset = 33 ∧ f3.offset = 65) (hc : P.cellsOf f0.type = 1 ∧ P.cellsOf f1.type = 32 ∧ P.cellsOf f2.type = 32 ∧ P.cellsOf f3.type = 1)
    (u0 : P.underlying f0.type = some (.int .u32)) (u1 : P.underlying f1.type = some (.array 32 e)) (u2 : P.underlying f2.type = some (.array 32 e)) (u3 : P.underlying f3.type = some (.int .u64)) (ue : P.underlying e = some (.int .u8)) (ce : P.cellsOf e = 1)
    (h : DataW.trod enc P W base sp held fuel t cs = some x) :
    ∃ y : Hd, y.ok ∧ cs = (hdC y).toList := by
  obtain ⟨o0, o1, o2, o3⟩ := ho
  obtain ⟨c0, c1, c2, c3⟩ := hc
  obtain ⟨xs, m, _, _, hl, hlen, hf⟩ := DataW.trod_struct ht h
  rw [hct] at hl
  match xs, hlen with
  | [y0, y1, y2, y3], _ =>
    have g0 := hf 0 f0 rfl
    have g1 := hf 1 f1 rfl
    have g2 := hf 2 f2 rfl
    have g3 := hf 3 f3 rfl
    simp only [o0, o1, o2, o3, c0, c1, c2, c3, List.drop_zero] at g0 g1 g2 g3
    have hl' := cut66 cs hl
    generalize cs.take 1 = r0 at g0 hl'
    generalize (cs.drop 1).take 32 = r1 at g1 hl'
    generalize (cs.drop 33).take 32 = r2 at g2 hl'
    generalize (cs.drop 65).take 1 = r3 at g3 hl'
    obtain ⟨z0, e0, _, w0⟩ := DataW.trod_int u0 g0
    obtain ⟨z3, e3, _, w3⟩ := DataW.trod_int u3 g3
    have hT1 : DataW.Trod enc P W base sp held f1.type (.agg r1.toArray) y1.1 y1.2 := ⟨m, g1⟩
    have hT2 : DataW.Trod enc P W base sp held f2.type (.agg r2.toArray) y2.1 y2.2 := ⟨m, g2⟩
    obtain ⟨l1, hl1, er1⟩ := open_hash u1 ue ce c1 hT1
    obtain ⟨l2, hl2, er2⟩ := open_hash u2 ue ce c2 hT2
    have b0 := bounds_u32 w0
    have b3 := bounds_u64 w3
    refine ⟨⟨z0.toNat, l1, l2, z3.toNat⟩, ⟨by show z0.toNat < 4294967296; omega, hl1, hl2, by show z3.toNat < 18446744073709551616; omega⟩, ?_⟩
    have er1' : r1 = (bC 32 l1).toList := by rw [← er1]
    have er2' : r2 = (bC 32 l2).toList := by rw [← er2]
    have n0 : ((z0.toNat : Nat) : Int) = z0 := by omega
    have n3 : ((z3.toNat : Nat) : Int) = z3 := by omega
    rw [hl', e0, e3, er1', er2', hdC, n0, n3]
    simp
theorem open_header {t e : TypeId} {f0 f1 f2 f3 : Field} {cs : Array Value} {d : DataW H} {ps : List MemPlace} (ht : P.underlying t = some (.struct #[f0, f1, f2, f3])) (hct : P.cellsOf t = 66)
    (ho : f0.offset = 0 ∧ f1.offset = 1 ∧ f2.offset = 33 ∧ f3.offset = 65) (hc : P.cellsOf f0.type = 1 ∧ P.cellsOf f1.type = 32 ∧ P.cellsOf f2.type = 32 ∧ P.cellsOf f3.type = 1)
    (u0 : P.underlying f0.type = some (.int .u32)) (u1 : P.underlying f1.type = some (.array 32 e)) (u2 : P.underlying f2.type = some (.array 32 e)) (u3 : P.underlying f3.type = some (.int .u64)) (ue : P.underlying e = some (.int .u8)) (ce : P.cellsOf e = 1)
    (h : DataW.Trod enc P W base sp held t (.agg cs) d ps) :
    ∃ y : Hd, y.ok ∧ cs = hdC y := by
  obtain ⟨fuel, hf⟩ := h
  obtain ⟨y, hy, e⟩ := open_headerL ht hct ho hc u0 u1 u2 u3 ue ce hf
  exact ⟨y, hy, Array.ext' e⟩
end
end Go.Proofs.YtlfkkfacbcpogaaDoor
