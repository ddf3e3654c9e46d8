/-
  Rows of strings that are made (make([]string, n)) and filled one by one. No condition.
-/
import Derived.Test.YtlfkkfacbcpogaaDoorLinkMath
namespace Go.Proofs.YtlfkkfacbcpogaaDoor
set_option maxRecDepth 4000
open Go.RowKit

theorem sC_size (n : Nat) (S : Nat → ByteArray) : (sC n S).size = n := by simp [sC]
theorem sC_get (n : Nat) (S : Nat → ByteArray) (i : Nat) (h : i < n) : (sC n S)[i]? = some (.string (S i)) := by simp [sC, h]
theorem sC_congr (n : Nat) (S R : Nat → ByteArray) (h : ∀ i, i < n → S i = R i) : sC n S = sC n R := by
  unfold sC
  congr 1
  apply List.map_congr_left
  intro i hi
  rw [h i (by simpa using hi)]
/-- The first k strings stand. -/
def upS (S : Nat → ByteArray) (k i : Nat) : ByteArray := if i < k then S i else noB
theorem upS_put (S : Nat → ByteArray) (n k : Nat) : (sC n (upS S k)).setIfInBounds k (.string (S k)) = sC n (upS S (k + 1)) := by
  apply Array.ext
  · simp [sC]
  · intro i h1 h2
    have hi : i < n := by simpa [sC] using h2
    rw [Array.getElem_setIfInBounds (by simpa [sC] using h2)]
    by_cases e : k = i
    · subst e; simp [sC, upS]
    · simp only [sC, e, if_false, List.getElem_toArray, List.getElem_map, List.getElem_range, upS]
      by_cases h : i < k
      · rw [if_pos h, if_pos (by omega)]
      · rw [if_neg h, if_neg (by omega)]
theorem upS_all (S : Nat → ByteArray) (n : Nat) : sC n (upS S n) = sC n S := sC_congr _ _ _ fun i hi => by unfold upS; rw [if_pos hi]
theorem SSl.ofRow {w : World} {g n : Nat} {S : Nat → ByteArray} {T : TypeId} (h : Rowz w g (sC n S) T) (hn : n ≤ maxLen) : SSl n S (.slice (.some ⟨g, 0, none⟩) n n) w :=
  ⟨_, _, rfl, Nat.le_refl _, hn, fun i hi => ⟨_, rfl, h.lt, by rw [Addr.add_mid, h.cell, Nat.zero_add, sC_get _ _ _ hi]⟩⟩
theorem run_make_strs (n : Nat) (w : World) (hn : n ≤ 1000000) :
    (Instr.makeSlice 24 (.int .i64 (n : Int)) (.int .i64 (n : Int))).run Tryd.prog w = .ok (.slice (some ⟨w.heap.size, 0, none⟩) n n) (w.alloc (.cells (sC n (upS (fun _ => noB) 0)) 9)) := by
  obtain ⟨i, hi, hz0, hz1, hz2⟩ := info_parts infoStr12
  have h := run_make (P := Tryd.prog) w 24 9 i _ Tryd.underlying24 hi hz0 .i64 .i64 (n : Int) (n : Int) (by omega) (by omega) (by rw [hz2]; omega) (by omega)
  rw [hz1, Int.toNat_natCast, Nat.mul_one] at h
  have e : madeCells (Value.string ⟨#[]⟩).cells n = sC n (upS (fun _ => noB) 0) := by
    apply Array.ext
    · simp [madeCells, sC]
    · intro j h1 h2
      have hm : j % 1 = 0 := Nat.mod_one j
      simp [madeCells, sC, upS, Value.cells, noB, hm]
  rw [e] at h
  exact h
end Go.Proofs.YtlfkkfacbcpogaaDoor
