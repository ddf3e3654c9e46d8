/-
  Arrays of integers among a law's arguments, cell by cell.
-/
import Derived.Test.YtcjieaijcjinnaaLawLib
namespace Go.Proofs.Ytcjieaijcjinnaa
open Go.RowKit

/-- Two arrays of two integers each among the arguments: four cells. -/
theorem open_ints22 {H : Type} {enc : TypeId × Value → H} {P : Program} {W : World} {base : Nat} {sp : Nat → Bool} {held : Bool} {t e1 e : TypeId} {k : IntKind} {cs : Array Value} {d : DataW H} {ps : List MemPlace}
    (ht : P.underlying t = some (.array 2 e1)) (h1 : P.underlying e1 = some (.array 2 e)) (he : P.underlying e = some (.int k)) (hce : P.cellsOf e = 1) (hc1 : P.cellsOf e1 = 2) (hct : P.cellsOf t = 4)
    (h : DataW.Trod enc P W base sp held t (.agg cs) d ps) : ∃ f : Nat → Int, (∀ i, i < 4 → (Lit.int k (f i)).wf = true) ∧ cs = #[.int k (f 0), .int k (f 1), .int k (f 2), .int k (f 3)] := by
  obtain ⟨fuel, hf⟩ := h
  obtain ⟨xs, q, rfl, _, hl, hn, hel⟩ := DataW.trod_array ht hf
  rw [hct] at hl
  have hl' : cs.toList.length = 4 := hl
  have hcs : ∀ i, i < 4 → ∃ z, (Lit.int k z).wf = true ∧ cs.toList[i]? = some (Value.int k z) := by
    intro i hi
    have hj : i / 2 < 2 := by omega
    have g1 := hel (i / 2) hj
    rw [hc1, List.getElem?_eq_getElem (by omega)] at g1
    obtain ⟨ys, q', rfl, _, hl2, hn2, hel2⟩ := DataW.trod_array h1 g1
    have g2 := hel2 (i % 2) (by omega)
    rw [hce, Nat.mul_one, List.getElem?_eq_getElem (by omega)] at g2
    obtain ⟨z, hz, _, hw⟩ := DataW.trod_int he g2
    refine ⟨z, hw, ?_⟩
    have e0 : (Value.agg cs).cells.toList = cs.toList := rfl
    rw [e0] at hz
    have h3 := congrArg (fun l => l[0]?) hz
    simp only [List.getElem?_take, List.getElem?_drop] at h3
    rw [if_pos (by omega), if_pos (by omega), show i / 2 * 2 + (i % 2 + 0) = i by omega] at h3
    exact h3
  obtain ⟨z0, w0, g0⟩ := hcs 0 (by omega)
  obtain ⟨z1, w1, g1⟩ := hcs 1 (by omega)
  obtain ⟨z2, w2, g2⟩ := hcs 2 (by omega)
  obtain ⟨z3, w3, g3⟩ := hcs 3 (by omega)
  refine ⟨fun i => if i = 0 then z0 else if i = 1 then z1 else if i = 2 then z2 else z3, fun i hi => ?_, ?_⟩
  · have : i = 0 ∨ i = 1 ∨ i = 2 ∨ i = 3 := by omega
    rcases this with rfl | rfl | rfl | rfl <;> assumption
  · apply Array.ext'
    apply List.ext_getElem?
    intro i
    by_cases hi : i < 4
    · have : i = 0 ∨ i = 1 ∨ i = 2 ∨ i = 3 := by omega
      rcases this with rfl | rfl | rfl | rfl
      · exact g0.trans rfl
      · exact g1.trans rfl
      · exact g2.trans rfl
      · exact g3.trans rfl
    · rw [List.getElem?_eq_none (by omega), List.getElem?_eq_none (by simp; omega)]
end Go.Proofs.Ytcjieaijcjinnaa
