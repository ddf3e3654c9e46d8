/-
  Contracts of shape.Depth and shape.Sides: loops over the iterator.
-/
import Derived.Test.YtggpjhldmaflaaaShapeWalkB
namespace Go.Proofs.Ytggpjhldmaflaaa
set_option maxRecDepth 4000
open Go.RowKit Go.Shelf
attribute [local go_sem] Oper.semAt_some

/-- A row of bools. -/
def boC (l : List Bool) : Array Value := (l.map Value.bool).toArray
theorem boC_size (l : List Bool) : (boC l).size = l.length := by simp [boC]
theorem boC_get (l : List Bool) (i : Nat) (h : i < l.length) : (boC l)[i]? = some (.bool (l.getD i false)) := by
  simp [boC, List.getElem?_eq_getElem h]
theorem boC_set (l : List Bool) (i : Nat) (x : Bool) : (boC l).setIfInBounds i (.bool x) = boC (l.set i x) := by
  simp [boC, List.map_set]
theorem madeCells_bools (n : Nat) : madeCells (Value.bool false).cells n = boC (List.replicate n false) := by
  apply Array.ext
  · simp [madeCells, boC]
  · intro i h1 h2
    simp [madeCells, boC, Value.cells, Nat.mod_one]
/-- What has come lies at the end of the row, the last step first. -/
def fillB (L : Nat) (pre : List Bool) : List Bool := List.replicate (L - pre.length) false ++ pre.reverse
theorem fillB_nil (L : Nat) : fillB L [] = List.replicate L false := by simp [fillB]
theorem fillB_length (L : Nat) (pre : List Bool) (h : pre.length ≤ L) : (fillB L pre).length = L := by simp [fillB]; omega
theorem fillB_all (pre : List Bool) : fillB pre.length pre = pre.reverse := by simp [fillB]
theorem fillB_step (L : Nat) (pre : List Bool) (x : Bool) (h : pre.length < L) : (fillB L pre).set (L - pre.length - 1) x = fillB L (pre ++ [x]) := by
  obtain ⟨k, hk⟩ : ∃ k, L - pre.length = k + 1 := ⟨L - pre.length - 1, by omega⟩
  have h2 : L - (pre ++ [x]).length = k := by simp; omega
  rw [fillB, fillB, hk, h2, List.set_append_left _ _ (by simp), Nat.add_sub_cancel, List.replicate_succ', List.set_append_right _ _ (by simp)]
  simp

/-- 'The block is a row that holds f s' speaks of cells alone. -/
theorem rowz_own {β : Type} (g : Nat) (T : TypeId) (f : β → Array Value) : Own (fun s W => Rowz W g (f s) T) := fun s X Y row hs hg hrow =>
  (hg.block g hs.lt (fun e' => by obtain ⟨o, ho, hc⟩ := hrow g e'.symm; rw [show X.heap[g]? = _ from hs] at ho; cases ho; cases hc)).trans hs

/-- A slice of the bools l (nil, or a row whose first cells they are). -/
def BRow (w : World) (v : Value) (l : List Bool) : Prop := ∃ p cap, v = .slice p l.length cap ∧ (0 < l.length → ∃ g cur, p = some ⟨g, 0, none⟩ ∧ Rowz w g cur 4 ∧ ∀ i, i < l.length → cur[i]? = some (.bool (l.getD i false)))
theorem BRow.kept {w w' : World} {v : Value} {l : List Bool} (h : BRow w v l) (hk : Kept w w') : BRow w' v l := by
  obtain ⟨p, cap, hv, h⟩ := h
  exact ⟨p, cap, hv, fun hl => by obtain ⟨g, cur, hp, hr, hc⟩ := h hl; exact ⟨g, cur, hp, hr.kept hk, hc⟩⟩
theorem BRow.none (w : World) : BRow w (.slice none 0 0) [] := ⟨.none, 0, rfl, fun h => by simp at h⟩
theorem BRow.ofRow {w : World} {g : Nat} {l : List Bool} (h : Rowz w g (boC l) 4) : BRow w (.slice (some ⟨g, 0, .none⟩) l.length l.length) l := ⟨_, _, rfl, fun _ => ⟨g, _, rfl, h, fun i hi => boC_get l i hi⟩⟩
theorem BRow.ofOwns {w : World} {base n : Nat} {v : Value} {l : List Bool} (h : w.ownsRow base 4 1 v n (l.map Value.bool)) (hn : n = l.length) : BRow w v l := by
  subst hn
  rcases Nat.eq_zero_or_pos l.length with h0 | h0
  · rcases h.2 with ⟨hv, _⟩ | ⟨g, cap, cur, hv, _⟩
    · exact ⟨.none, 0, by rw [hv, h0], fun hl => by omega⟩
    · exact ⟨_, cap, hv, fun hl => by omega⟩
  · obtain ⟨g, cap, cur, hv, _, _, hr, hc⟩ := owns_row h h0
    exact ⟨_, cap, hv, fun _ => ⟨g, cur, rfl, hr, fun i hi => by rw [hc i hi]; simp [List.getElem?_eq_getElem hi]⟩⟩

theorem depthI_no {n i : Int} (h : ¬ (0 ≤ i ∧ i < n)) : depthI n i = -1 := by rw [depthI, if_neg h]
theorem depthI_yes {n i : Nat} (h : i < n) : depthI (n : Int) (i : Int) = ((dn n i).length : Int) := by rw [depthI, if_pos (by omega)]; simp [sidesN]
theorem sidesI_no {n i : Int} (h : ¬ (0 ≤ i ∧ i < n)) : sidesI n i = [] := by rw [sidesI, if_neg h]
theorem sidesI_yes {n i : Nat} (h : i < n) : sidesI (n : Int) (i : Int) = sidesN n i := by rw [sidesI, if_pos (by omega)]; simp

end Go.Proofs.Ytggpjhldmaflaaa
