/-
  Contracts of package sha: a State in memory ('StIs': block b is the state of the message M); New, words, Len. Conditions: the variable 'rounds' holds the 64 constants where said.
-/
import Derived.Test.YtecfgjoomckleaaDoorShaWalkE
namespace Go.Proofs.YtecfgjoomckleaaDoor
set_option maxRecDepth 4000
open Go.RowKit

/-- A State's cells: eight words, 64 bytes, the count. -/
def stC (l : List Nat) (R : List UInt8) (c : Nat) : Array Value := ((wC 8 l).toList ++ ((bC 64 R).toList ++ [Value.int .u64 (c : Int)])).toArray
theorem wC_getAny (n : Nat) (l : List Nat) (i : Nat) : (wC n l)[i]? = if i < n then some (.int .u32 ((l.getD i 0 : Nat) : Int)) else none := by
  by_cases h : i < n
  · rw [if_pos h, wC_get n l i h]
  · rw [if_neg h, Array.getElem?_eq_none (by rw [wC_size]; omega)]
theorem stC_get (l : List Nat) (R : List UInt8) (c i : Nat) : (stC l R c)[i]? = if i < 8 then some (.int .u32 ((l.getD i 0 : Nat) : Int)) else if i < 72 then some (.int .u8 (((R.getD (i - 8) 0).toNat : Nat) : Int)) else if i = 72 then some (.int .u64 (c : Int)) else none := by
  unfold stC
  rw [List.getElem?_toArray, List.getElem?_append, Array.length_toList, wC_size, Array.getElem?_toList, wC_getAny, List.getElem?_append, Array.length_toList, bC_size, Array.getElem?_toList, bC_getAny]
  by_cases h1 : i < 8
  · simp [h1]
  · rw [if_neg h1, if_neg h1]
    by_cases h2 : i < 72
    · rw [if_pos (by omega), if_pos (by omega), if_pos h2]
    · rw [if_neg (by omega), if_neg h2]
      by_cases h3 : i = 72
      · subst h3; simp
      · rw [if_neg h3, List.getElem?_eq_none (by simp; omega)]
theorem stC_size (l : List Nat) (R : List UInt8) (c : Nat) : (stC l R c).size = 73 := by simp [stC, wC_size, bC_size]
theorem stC_count (l : List Nat) (R : List UInt8) (c d : Nat) : (stC l R c).setIfInBounds 72 (.int .u64 (d : Int)) = stC l R d := by
  apply Array.ext_getElem?
  intro i
  rw [Array.getElem?_setIfInBounds, stC_get, stC_get, stC_size]
  by_cases h : 72 = i
  · subst h; simp
  · rw [if_neg h]
    by_cases h1 : i < 8
    · simp [h1]
    · by_cases h2 : i < 72
      · simp [h1, h2]
      · rw [if_neg h1, if_neg h1, if_neg h2, if_neg h2, if_neg (by omega), if_neg (by omega)]
theorem stC_words (l m : List Nat) (R : List UInt8) (c : Nat) : spl (stC l R c) 0 (wC 8 m).toList = stC m R c := by
  apply Array.ext_getElem?
  intro i
  rw [spl_get _ _ _ _ (by rw [Array.length_toList, wC_size, stC_size]; decide), Array.length_toList, wC_size, Array.getElem?_toList, wC_getAny, stC_get, stC_get]
  by_cases h1 : i < 8
  · simp [h1]
  · simp [h1]
theorem stC_bytes (l : List Nat) (R m : List UInt8) (c o : Nat) (hR : R.length = 64) (h : o + m.length ≤ 64) : spl (stC l R c) (8 + o) (Lib.byteCells m) = stC l (R.take o ++ m ++ R.drop (o + m.length)) c := by
  apply Array.ext_getElem?
  intro i
  rw [spl_get _ _ _ _ (by rw [Lib.byteCells_length, stC_size]; omega), byteCells_get, Lib.byteCells_length, stC_get, stC_get]
  by_cases h1 : i < 8
  · rw [if_pos h1, if_pos (by omega), if_pos h1]
  · by_cases h2 : i < 72
    · rw [if_neg h1, if_pos h2, if_neg h1, if_pos h2, List.append_assoc, List.getD_eq_getElem?_getD, List.getD_eq_getElem?_getD, List.getElem?_append, List.length_take, Nat.min_eq_left (by omega)]
      by_cases h3 : i < 8 + o
      · rw [if_pos h3, if_pos (show i - 8 < o by omega), List.getElem?_take_of_lt (by omega)]
      · rw [if_neg h3, if_neg (show ¬ i - 8 < o by omega), List.getElem?_append]
        by_cases h4 : i < 8 + o + m.length
        · rw [if_pos h4, if_pos (show i - 8 - o < m.length by omega), show i - (8 + o) = i - 8 - o by omega, List.getElem?_eq_getElem (show i - 8 - o < m.length by omega)]; rfl
        · rw [if_neg h4, if_neg (show ¬ i - 8 - o < m.length by omega), List.getElem?_drop, show o + m.length + (i - 8 - o - m.length) = i - 8 by omega]
    · rw [if_neg h1, if_neg h2, if_neg (by omega), if_neg (by omega), if_neg h1, if_neg h2]
theorem Rowz.count {w : World} {b : Nat} {l : List Nat} {R : List UInt8} {c : Nat} {T : TypeId} (h : Rowz w b (stC l R c) T) : w.cell? ⟨b, 72, none⟩ = some (.int .u64 (c : Int)) := by
  rw [h.cell, stC_get]; rfl
theorem Rowz.words {w : World} {b : Nat} {l : List Nat} {R : List UInt8} {c : Nat} {T : TypeId} (h : Rowz w b (stC l R c) T) : w.rangeAt b 0 (wC 8 l).toList := by
  intro j v hv
  have hj : j < 8 := by have := (List.getElem?_eq_some_iff.1 hv).1; simpa [wC_size] using this
  rw [Array.getElem?_toList, wC_get 8 l j hj] at hv
  rw [Nat.zero_add, h.cell, stC_get, if_pos hj, hv]
theorem Rowz.bytes {w : World} {b : Nat} {l : List Nat} {R : List UInt8} {c : Nat} {T : TypeId} (h : Rowz w b (stC l R c) T) (j : Nat) (hj : j < 64) : w.cell? ⟨b, 8 + j, none⟩ = some (.int .u8 (((R.getD j 0).toNat : Nat) : Int)) := by
  rw [h.cell, stC_get, if_neg (by omega), if_pos (by omega), show 8 + j - 8 = j by omega]

/-- Block b is the State of the message M. -/
def StIs (w : World) (b : Nat) (M : ByteArray) : Prop := ∃ l R, Rowz w b (stC l R M.size) 68 ∧ l.length = 8 ∧ (∀ x ∈ l, x < 4294967296) ∧ R.length = 64 ∧ (64 ≤ M.size → l = mixN first8 M (M.size / 64)) ∧ R.take (M.size % 64) = M.data.toList.drop (64 * (M.size / 64))
theorem StIs.grown {w w' : World} {b : Nat} {M : ByteArray} (h : StIs w b M) (k : Grown w w') : StIs w' b M := by
  obtain ⟨l, R, hr, h⟩ := h
  exact ⟨l, R, hr.grown k, h⟩
theorem StIs.only {w w' : World} {b g : Nat} {M : ByteArray} (h : StIs w b M) (k : Only g w w') (hn : b ≠ g) : StIs w' b M := by
  obtain ⟨l, R, hr, h⟩ := h
  exact ⟨l, R, hr.only k hn, h⟩
theorem StIs.lt {w : World} {b : Nat} {M : ByteArray} (h : StIs w b M) : b < w.heap.size := by
  obtain ⟨l, R, hr, _⟩ := h
  exact hr.lt
theorem StIs.new {w : World} {b : Nat} (h : Rowz w b (stC [] [] 0) 68) : StIs w b ⟨#[]⟩ := by
  refine ⟨List.replicate 8 0, List.replicate 64 0, ?_, rfl, by simp, rfl, fun h => absurd h (by decide), rfl⟩
  have e : stC (List.replicate 8 0) (List.replicate 64 0) (ByteArray.mk #[]).size = stC [] [] 0 := by kernel_rfl
  rw [e]; exact h

theorem zeroState (w : World) : (zeroValue 68).run Tryd.prog w = .ok (.agg (stC [] [] 0)) w := by kernel_rfl

set_option maxRecDepth 100000 in
theorem shaNew_any (w : World) :
    Calls Tryd.prog 35 #[] w fun e w' => e = .returned (.pointer (some ⟨w.heap.size, 0, none⟩)) ∧ StIs w' w.heap.size ⟨#[]⟩ ∧ Grown w w' := by
  have hz := zeroState w
  go_enter Tryd.func35, Tryd.ntmps35
  go_wp2
  go_ret
  exact ⟨rfl, StIs.new (Rowz.new w _ _), (Grown.refl _).alloc _ _⟩

set_option maxRecDepth 100000 in
set_option maxHeartbeats 1000000 in
theorem words_any (b : Nat) (M : ByteArray) (w : World) (hs : StIs w b M) :
    Calls Tryd.prog 45 #[.pointer (some ⟨b, 0, none⟩)] w fun e w' => e = .returned (.agg (wC 8 (mixN first8 M (M.size / 64)))) ∧ Grown w w' := by
  obtain ⟨l, R, hr, hl, hlt, hR, hm, _⟩ := hs
  by_cases h64 : M.size < 64
  · have hd : decide ((M.size : Int) < 64) = true := by simp; omega
    have HE : Hid (mixN first8 M (M.size / 64) = first8) := Lib.hid (by rw [Nat.div_eq_of_lt h64]; rfl)
    have hc := (hr.alloc (.cells #[.int .u32 0, .int .u32 0, .int .u32 0, .int .u32 0, .int .u32 0, .int .u32 0, .int .u32 0, .int .u32 0] 65)).count
    go_enter Tryd.func45, Tryd.ntmps45
    go_wp2_with fail
    refine (shaFirst_any _).mono ?_
    rintro e v ⟨rfl, hg⟩
    have hv : Hid (Rowz v w.heap.size (wC 8 []) 65) := Lib.hid (Rowz.grown (Rowz.newEq w _ _ _ (by kernel_rfl)) hg)
    go_wp2_with (refine wpList_store_row rfl 65 _ _ rfl w.heap.size (wC 8 first8) rfl rfl 65 (wC 8 []) hv.out (info8W _) (by simp [wC_size]) (wC_one _ _) ?_)
    refine bodyPost_ret (v := .agg (wC 8 first8)) (results_cell_row Tryd.results45 _ _ w.heap.size 65 _ (0, 0) _ rfl hv.out.row Tryd.underlying65 rfl (info8W _)) rfl ⟨by rw [HE.out], ?_⟩
    exact Grown.setRow (Grown.trans ((Grown.refl _).alloc _ _) hg) hv.out (Nat.le_refl _) _
  · have hd : decide ((M.size : Int) < 64) = false := by simp; omega
    have HE := Lib.hid (hm (by omega))
    have hc := (hr.alloc (.cells #[.int .u32 0, .int .u32 0, .int .u32 0, .int .u32 0, .int .u32 0, .int .u32 0, .int .u32 0, .int .u32 0] 65)).count
    have hw := (hr.alloc (.cells #[.int .u32 0, .int .u32 0, .int .u32 0, .int .u32 0, .int .u32 0, .int .u32 0, .int .u32 0, .int .u32 0] 65)).words
    have hv : Hid (Rowz (w.alloc (.cells #[.int .u32 0, .int .u32 0, .int .u32 0, .int .u32 0, .int .u32 0, .int .u32 0, .int .u32 0, .int .u32 0] 65)) w.heap.size (wC 8 []) 65) := Lib.hid (Rowz.newEq w _ _ _ (by kernel_rfl))
    have HW := Lib.hid hw
    clear hw hm
    go_enter Tryd.func45, Tryd.ntmps45
    go_wp2_with (first
      | (refine wpList_load_mid rfl 65 _ rfl b 0 rfl (wC 8 l).toList _ HW.out Tryd.underlying65 rfl (by rw [Array.length_toList]; exact info8W _) ?_; rw [Array.toArray_toList])
      | (refine wpList_store_row rfl 65 _ _ rfl w.heap.size (wC 8 l) rfl rfl 65 (wC 8 []) hv.out (info8W _) (by simp [wC_size]) (wC_one _ _) ?_))
    refine bodyPost_ret (v := .agg (wC 8 l)) (results_cell_row Tryd.results45 _ _ w.heap.size 65 _ (0, 0) _ rfl hv.out.row Tryd.underlying65 rfl (info8W _)) rfl ⟨by rw [HE.out], ?_⟩
    exact Grown.setRow ((Grown.refl _).alloc _ _) hv.out (Nat.le_refl _) _
end Go.Proofs.YtecfgjoomckleaaDoor
