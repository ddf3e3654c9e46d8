/-
  An opening (a struct of two integers and a slice of hashes) among a law's arguments. No condition.
-/
import Derived.Test.YtlfkkfacbcpogaaDoorTag
namespace Go.Proofs.YtlfkkfacbcpogaaDoor
set_option maxRecDepth 4000
open Go.ChangeShapes Go.WideShapes Go.ChangeAt Go.RowKit

section
variable {H : Type} {enc : TypeId × Value → H} {P : Program} {W : World}
theorem open_hsliceL {sp : Nat → Bool} {held : Bool} {s t e : TypeId} {v : Value} {fuel : Nat} {x : DataW H × List MemPlace}
    (hs : P.underlying s = some (.slice t)) (ht : P.underlying t = some (.array 32 e)) (hct : P.cellsOf t = 32) (he : P.underlying e = some (.int .u8)) (hce : P.cellsOf e = 1)
    (h : DataW.trod enc P W 0 sp held fuel s [v] = some x) :
    ∃ (p : Option Addr) (n c : Nat) (F : Nat → List UInt8), (n ≤ c ∧ c ≤ maxLen) ∧ v = .slice p n c ∧ HAt W p n F := by
  rcases Deep.open_slice hs h with ⟨hcs, _⟩ | ⟨a, len, cap, m, n, D, Pl, hcs, _, hl, hm, hmm, _, hx⟩
  · obtain rfl : v = .slice none 0 0 := by simpa using hcs
    exact ⟨none, 0, 0, fun _ => [], ⟨Nat.le_refl _, Nat.zero_le _⟩, rfl, HAt.zero _ _ _⟩
  · obtain rfl : v = .slice (some a) len cap := by simpa using hcs
    have hlm : len ≤ m := by rw [hmm]; split <;> omega
    have each : ∀ i, i < len → ∃ l : List UInt8, l.length = 32 ∧ ∀ j u, (bC 32 l).toList[j]? = .some u → W.cell? (a.add (i * 32 + j)) = .some u := fun i hi => by
      obtain ⟨cs', h1, h2⟩ := hx i (by omega)
      rw [hct] at h1
      obtain ⟨_, hlen, hcell⟩ := World.cells?_some h1
      have hT : DataW.Trod enc P W 0 sp held t (.agg cs'.toArray) (D i) (Pl i) := ⟨n, h2⟩
      obtain ⟨l, hl32, er⟩ := open_hash ht he hce hct hT
      refine ⟨l, hl32, fun j u hj => ?_⟩
      have hj32 : j < 32 := by
        have := (List.getElem?_eq_some_iff.1 hj).1
        simpa [bC_size] using this
      have hc := hcell j hj32
      rw [Deep.add_add] at hc
      have er' : cs' = (bC 32 l).toList := by rw [← er]
      rw [hc, er', hj]
    obtain ⟨F, hF⟩ := Deep.choose_lt each
    refine ⟨.some a, len, cap, F, ⟨hl, hm⟩, rfl, fun i hi => ⟨(hF i hi).1, a, rfl, ?_, (hF i hi).2⟩⟩
    have hz : (bC 32 (F i)).toList[0]? = .some (.int .u8 ((((F i).getD 0 0).toNat : Nat) : Int)) := by rw [Array.getElem?_toList, bC_get _ _ _ (by omega)]
    have := lt_of_cell ((hF i hi).2 0 _ hz)
    rwa [add_block] at this
theorem open_openingL {sp : Nat → Bool} {held : Bool} {t s e : TypeId} {f0 f1 f2 : Field} {fuel : Nat} {cs : List Value} {x : DataW H × List MemPlace} (ht : P.underlying t = some (.struct #[f0, f1, f2])) (hct : P.cellsOf t = 3)
    (ho : f0.offset = 0 ∧ f1.offset = 1 ∧ f2.offset = 2) (hc : P.cellsOf f0.type = 1 ∧ P.cellsOf f1.type = 1 ∧ P.cellsOf f2.type = 1)
    (u0 : P.underlying f0.type = some (.int .i64)) (u1 : P.underlying f1.type = some (.int .i64)) (u2 : P.underlying f2.type = some (.slice s)) (us : P.underlying s = some (.array 32 e)) (cs32 : P.cellsOf s = 32) (ue : P.underlying e = some (.int .u8)) (ce : P.cellsOf e = 1)
    (h : DataW.trod enc P W 0 sp held fuel t cs = some x) :
    ∃ (I N : Int) (p : Option Addr) (n c : Nat) (F : Nat → List UInt8), ((Lit.int .i64 I).wf = true ∧ (Lit.int .i64 N).wf = true) ∧ (n ≤ c ∧ c ≤ maxLen) ∧ cs = [.int .i64 I, .int .i64 N, .slice p n c] ∧ HAt W p n F := by
  obtain ⟨o0, o1, o2⟩ := ho
  obtain ⟨c0, c1, c2⟩ := hc
  obtain ⟨xs, m, _, _, hl, hlen, hf⟩ := DataW.trod_struct ht h
  rw [hct] at hl
  match xs, hlen, cs, hl with
  | [y0, y1, y2], _, [v0, v1, v2], _ =>
    have g0 := hf 0 f0 rfl
    have g1 := hf 1 f1 rfl
    have g2 := hf 2 f2 rfl
    simp [o0, o1, o2, c0, c1, c2] at g0 g1 g2
    obtain ⟨z0, e0, _, w0⟩ := DataW.trod_int u0 g0
    obtain ⟨z1, e1, _, w1⟩ := DataW.trod_int u1 g1
    obtain ⟨p, n, c, F, hnc, rfl, hF⟩ := open_hsliceL u2 us cs32 ue ce g2
    refine ⟨z0, z1, p, n, c, F, ⟨w0, w1⟩, hnc, ?_, hF⟩
    rw [(List.cons.inj e0).1, (List.cons.inj e1).1]
theorem open_opening {sp : Nat → Bool} {held : Bool} {t s e : TypeId} {f0 f1 f2 : Field} {cs : Array Value} {d : DataW H} {ps : List MemPlace} (ht : P.underlying t = some (.struct #[f0, f1, f2])) (hct : P.cellsOf t = 3)
    (ho : f0.offset = 0 ∧ f1.offset = 1 ∧ f2.offset = 2) (hc : P.cellsOf f0.type = 1 ∧ P.cellsOf f1.type = 1 ∧ P.cellsOf f2.type = 1)
    (u0 : P.underlying f0.type = some (.int .i64)) (u1 : P.underlying f1.type = some (.int .i64)) (u2 : P.underlying f2.type = some (.slice s)) (us : P.underlying s = some (.array 32 e)) (cs32 : P.cellsOf s = 32) (ue : P.underlying e = some (.int .u8)) (ce : P.cellsOf e = 1)
    (h : DataW.Trod enc P W 0 sp held t (.agg cs) d ps) :
    ∃ (I N : Int) (p : Option Addr) (n c : Nat) (F : Nat → List UInt8), ((Lit.int .i64 I).wf = true ∧ (Lit.int .i64 N).wf = true) ∧ (n ≤ c ∧ c ≤ maxLen) ∧ cs = #[.int .i64 I, .int .i64 N, .slice p n c] ∧ HAt W p n F := by
  obtain ⟨fuel, hf⟩ := h
  obtain ⟨I, N, p, n, c, F, hw, hnc, e, hF⟩ := open_openingL ht hct ho hc u0 u1 u2 us cs32 ue ce hf
  exact ⟨I, N, p, n, c, F, hw, hnc, Array.ext' e, hF⟩
end
end Go.Proofs.YtlfkkfacbcpogaaDoor
