/-
  Contract of package sha: bytesOf. Conditions: the words fit their kind.
  Contracts of package sha: a State in memory ('StIs': block b is the state of the message M); New, words, Len. Conditions: the variable 'rounds' holds the 64 constants where said.
  Plain mathematics for layer 2: blocks of a message in pieces. No condition.
  Contract of package sha: the method Write of State. Conditions: the message keeps within 2^47 - 4096 bytes; the variable 'rounds' holds the 64 constants.
  Contracts of package sha: the method Sum of State, and Sum. Conditions: the message keeps within 2^47 - 4096 bytes; the variable 'rounds' holds the 64 constants.
  What the rows' condition on the variable 'rounds' gives the walks, and that the program's own start meets it. No condition.
-/
import Derived.Test.YtlfkkfacbcpogaaDoorSha
import Derived.Test.YtlfkkfacbcpogaaDoorBas
import Derived.Test.YtlfkkfacbcpogaaDoorRows
import Derived.LaidMore
import Derived.Lib.LaidTab
import Derived.Stop.Joined
import Derived.ProofKit
namespace Go.Proofs.YtlfkkfacbcpogaaDoor
set_option maxRecDepth 4000
open Go.RowKit

theorem sizeU8 : (Tryd.prog.info? 5).map (·.size) = some 1 := by kernel_rfl
theorem run_index_words (S : List Nat) (k : Nat) (w : World) (hk : k < 8) : (Instr.index 76 (.agg (wC 8 S)) (.int .i64 (k : Int))).run Tryd.prog w = .ok (.int .u32 ((S.getD k 0 : Nat) : Int)) w := by
  have h1 : (sizeOf 22).run Tryd.prog w = .ok 1 w := by kernel_rfl
  have h3 := wC_get 8 S k hk
  simp [Instr.index, run_underlying Tryd.underlying76, asIntOf, part, h1, h3]
  omega

theorem run_slice_hash (g p r : Nat) (w : World) (h1 : p + 4 = r) (h2 : r ≤ 32) :
    (Instr.sliceAt 31 (.pointer (some ⟨g, 0, none⟩)) (some (.int .i64 (p : Int))) (some (.int .i64 (r : Int))) (some (.int .i64 (r : Int)))).run Tryd.prog w = .ok (.slice (some ⟨g, p, none⟩) 4 4) w := by
  have ha : Tryd.prog.arrayLen 31 = 32 := by kernel_rfl
  have hs : (sizeOf (Tryd.prog.elem 31)).run Tryd.prog w = .ok 1 w := by kernel_rfl
  rw [run_sliceAt_array_lhm w 31 ⟨g, 0, none⟩ (by kernel_rfl) .i64 .i64 .i64 (p : Int) (r : Int) (r : Int) (by omega) (by omega) (by omega) (by rw [ha]; omega), hs]
  subst h1
  simp [Result.andThen, slicedAt, Addr.add_mid]
  omega

set_option maxRecDepth 100000 in
set_option maxHeartbeats 2000000 in
theorem bytesOf_any (S : List Nat) (w : World) (hl : S.length = 8) (hlt : ∀ x ∈ S, x < 4294967296) :
    Calls Tryd.prog 68 #[.agg (wC 8 S)] w fun e w' => e = .returned (.agg (bC 32 (bytesW S))) ∧ Grown w w' := by
  have HL8 := Lib.hid hl
  have HB8 := Lib.hid hlt
  clear hl hlt
  go_enter Tryd.func68, Tryd.ntmps68
  go_wp2_with (first
    | (refine wpList_load_row rfl 76 _ rfl w.heap.size rfl 76 (wC 8 S) (0, 0) _ (((Rowz.new w _ _).alloc _).alloc _) Tryd.underlying76 rfl (info8W _) ?_))
  go_loopw [7] (fun i wr => ∃ (k : Nat), k ≤ 8 ∧ i = .int .i64 (k : Int) ∧ Hid (Rowz wr (w.heap.size + 1 + 1) (bC 32 (bytesW (S.take k))) 31) ∧ Hid (Rowz wr (w.heap.size + 1) (bC 32 []) 31) ∧ Hid (Grown w wr)) (fun i _ => 8 - (intOf i).toNat)
  case atStart =>
    refine ⟨0, by omega, rfl, Lib.hid ?_, Lib.hid ((Rowz.newEq1 w _ _ _ _ (by kernel_rfl)).alloc _), Lib.hid ((((Grown.refl w).alloc _ _).alloc _ _).alloc _ _)⟩
    have h := Rowz.newEq1 (w.alloc (.cells (wC 8 S) 76)) (.cells (bC 32 []) 31) (.cells (bC 32 []) 31) (bC 32 []) 31 rfl
    have e : (w.alloc (.cells (wC 8 S) 76)).heap.size = w.heap.size + 1 := by simp
    rw [e] at h
    exact h
  case round =>
    obtain ⟨k, hk8, rfl, R5, R2, G0⟩ := hrel
    by_cases hk : k < 8
    · have hdk : decide ((k : Int) < 8) = true := by simp; omega
      have hxl := getD_lt S HB8.out k
      have hix := run_index_words S k wr hk
      have HTK : Hid (S.take (k + 1) = S.take k ++ [S.getD k 0]) := Lib.hid (by
        rw [List.take_succ_eq_append_getElem (by rw [HL8.out]; exact hk), List.getD_eq_getElem?_getD, List.getElem?_eq_getElem (by rw [HL8.out]; exact hk)]; rfl)
      have HBL : Hid ((bytesW (S.take k)).length = 4 * k) := Lib.hid (by rw [bytesW_length, List.length_take, HL8.out]; omega)
      obtain ⟨x, hx⟩ : ∃ x, x = S.getD k 0 := ⟨_, rfl⟩
      rw [← hx] at hxl HTK hix
      clear hx
      obtain ⟨p, hp⟩ : ∃ p, p = 4 * k := ⟨_, rfl⟩
      obtain ⟨r, hr⟩ : ∃ r, r = p + 4 := ⟨_, rfl⟩
      have hw1 : IntKind.i64.wrap (4 * (k : Int)) = (p : Int) := by rw [IntWalk.i64_in _ (by omega)]; omega
      have hw2 : IntKind.i64.wrap ((p : Int) + 4) = (r : Int) := by rw [IntWalk.i64_in _ (by omega)]; omega
      have hsl := fun w' => run_slice_hash (w.heap.size + 1 + 1) p r w' hr.symm (by omega)
      rw [← hp] at HBL
      have hp28 : p ≤ 28 := by omega
      clear hp hr
      go_wp2_with fail
      clear hix
      go_region_held3 (fun _ => True) (exact trivial)
        (first
          | (go_at_call 76; refine (put32_any x _ hxl).mono ?_; rintro e v ⟨rfl, hg⟩)
          | (refine step_copy_str rfl (.tmp 19) (.tmp 21) 62 9 rfl 5 Tryd.underlying62 sizeU8 (w.heap.size + 1 + 1) p 4 4 rfl (beS 4 x) rfl (bC 32 (bytesW (S.take k))) 31 (Rowz.grown (w := wr.drew) R5.out hg) 4 (by rw [beS_size]; rfl) (by rw [bC_size]; omega) ?_))
      have HR : Hid (Rowz (v.setRow (w.heap.size + 1 + 1) (spl (bC 32 (bytesW (S.take k))) p (Lib.byteCells (List.take 4 (beS 4 x).data.toList)))) (w.heap.size + 1 + 1) (bC 32 (bytesW (S.take (k + 1)))) 31) := Lib.hid (by
        have e1 : List.take 4 (beS 4 x).data.toList = be 4 x := by
          rw [show (beS 4 x).data.toList = be 4 x from rfl, List.take_of_length_le (by rw [be_length]; exact Nat.le_refl _)]
        rw [HTK.out, bytesW_snoc, ← bC_spl 32 (bytesW (S.take k)) (be 4 x) p HBL.out (by rw [be_length]; omega), e1]
        exact Rowz.row (Rowz.grown (w := wr.drew) R5.out hg))
      have HZ : Hid (Rowz (v.setRow (w.heap.size + 1 + 1) (spl (bC 32 (bytesW (S.take k))) p (Lib.byteCells (List.take 4 (beS 4 x).data.toList)))) (w.heap.size + 1) (bC 32 []) 31) := Lib.hid ((Rowz.grown (w := wr.drew) R2.out hg).rowOther (by omega))
      have HG : Hid (Grown w (v.setRow (w.heap.size + 1 + 1) (spl (bC 32 (bytesW (S.take k))) p (Lib.byteCells (List.take 4 (beS 4 x).data.toList))))) := Lib.hid (Grown.setRow (Grown.trans (b := wr.drew) G0.out hg) (Rowz.grown (w := wr.drew) R5.out hg) (by omega) _)
      generalize v.setRow (w.heap.size + 1 + 1) (spl (bC 32 (bytesW (S.take k))) p (Lib.byteCells (List.take 4 (beS 4 x).data.toList))) = v2 at HR HZ HG ⊢
      clear hsl hw1 hw2
      go_wp2_with fail
      go_roundw
      case rel => exact ⟨k + 1, by omega, by go_num, HR, HZ, HG⟩
      case measure => simp [intOf]; omega
    · have hdk : decide ((k : Int) < 8) = false := by simp; omega
      have R5' : Hid (Rowz wr (w.heap.size + 1 + 1) (bC 32 (bytesW S)) 31) := by
        have e : k = 8 := by omega
        rw [e, List.take_of_length_le (by rw [HL8.out]; exact Nat.le_refl _)] at R5
        exact R5
      go_wp2_with (first
        | (refine wpList_load_row rfl 31 _ rfl (w.heap.size + 1 + 1) rfl 31 (bC 32 (bytesW S)) (0, 0) _ R5'.out Tryd.underlying31 rfl (info32 _) ?_)
        | (refine wpList_store_row rfl 31 _ _ rfl (w.heap.size + 1) (bC 32 (bytesW S)) rfl rfl 31 (bC 32 []) R2.out (info32 _) (by simp [bC_size]) (bC_one _ _) ?_))
      refine bodyPost_ret (v := .agg (bC 32 (bytesW S))) (results_cell_row Tryd.results68 _ _ (w.heap.size + 1) 31 _ (0, 0) _ rfl R2.out.row Tryd.underlying31 rfl (info32 _)) rfl ⟨rfl, ?_⟩
      exact Grown.setRow G0.out R2.out (by omega) _
end Go.Proofs.YtlfkkfacbcpogaaDoor
namespace Go.Proofs.YtlfkkfacbcpogaaDoor
set_option maxRecDepth 4000
open Go.RowKit

/-- A State's cells: eight words, 64 bytes, the count. -/
def stC (l : List Nat) (R : List UInt8) (c : Nat) : Array Value := ((wC 8 l).toList ++ ((bC 64 R).toList ++ [Value.int .u64 (c : Int)])).toArray
theorem wC_getAny (n : Nat) (l : List Nat) (i : Nat) : (wC n l)[i]? = if i < n then some (.int .u32 ((l.getD i 0 : Nat) : Int)) else none := by
  by_cases h : i < n
  · rw [if_pos h, wC_get n l i h]
  · rw [if_neg h, Array.getElem?_eq_none (by rw [wC_size]; omega)]
theorem stC_get (l : List Nat) (R : List UInt8) (c i : Nat) : (stC l R c)[i]? = if i < 8 then some (.int .u32 ((l.getD i 0 : Nat) : Int)) else if i < 72 then some (.int .u8 (((R.getD (i - 8) 0).toNat : Nat) : Int)) else if i = 72 then some (.int .u64 (c : Int)) else none := by
  unfold stC
  rw [List.getElem?_toArray, List.getElem?_append, Array.length_toList, wC_size, Array.getElem?_toList, wC_getAny, List.getElem?_append, Array.length_toList, bC_size, Array.getElem?_toList, bC_getAny]
  by_cases h1 : i < 8
  · simp [h1]
  · rw [if_neg h1, if_neg h1]
    by_cases h2 : i < 72
    · rw [if_pos (by omega), if_pos (by omega), if_pos h2]
    · rw [if_neg (by omega), if_neg h2]
      by_cases h3 : i = 72
      · subst h3; simp
      · rw [if_neg h3, List.getElem?_eq_none (by simp; omega)]
theorem stC_size (l : List Nat) (R : List UInt8) (c : Nat) : (stC l R c).size = 73 := by simp [stC, wC_size, bC_size]
theorem stC_count (l : List Nat) (R : List UInt8) (c d : Nat) : (stC l R c).setIfInBounds 72 (.int .u64 (d : Int)) = stC l R d := by
  apply Array.ext_getElem?
  intro i
  rw [Array.getElem?_setIfInBounds, stC_get, stC_get, stC_size]
  by_cases h : 72 = i
  · subst h; simp
  · rw [if_neg h]
    by_cases h1 : i < 8
    · simp [h1]
    · by_cases h2 : i < 72
      · simp [h1, h2]
      · rw [if_neg h1, if_neg h1, if_neg h2, if_neg h2, if_neg (by omega), if_neg (by omega)]
theorem stC_words (l m : List Nat) (R : List UInt8) (c : Nat) : spl (stC l R c) 0 (wC 8 m).toList = stC m R c := by
  apply Array.ext_getElem?
  intro i
  rw [spl_get _ _ _ _ (by rw [Array.length_toList, wC_size, stC_size]; decide), Array.length_toList, wC_size, Array.getElem?_toList, wC_getAny, stC_get, stC_get]
  by_cases h1 : i < 8
  · simp [h1]
  · simp [h1]
theorem stC_bytes (l : List Nat) (R m : List UInt8) (c o : Nat) (hR : R.length = 64) (h : o + m.length ≤ 64) : spl (stC l R c) (8 + o) (Lib.byteCells m) = stC l (R.take o ++ m ++ R.drop (o + m.length)) c := by
  apply Array.ext_getElem?
  intro i
  rw [spl_get _ _ _ _ (by rw [Lib.byteCells_length, stC_size]; omega), byteCells_get, Lib.byteCells_length, stC_get, stC_get]
  by_cases h1 : i < 8
  · rw [if_pos h1, if_pos (by omega), if_pos h1]
  · by_cases h2 : i < 72
    · rw [if_neg h1, if_pos h2, if_neg h1, if_pos h2, List.append_assoc, List.getD_eq_getElem?_getD, List.getD_eq_getElem?_getD, List.getElem?_append, List.length_take, Nat.min_eq_left (by omega)]
      by_cases h3 : i < 8 + o
      · rw [if_pos h3, if_pos (show i - 8 < o by omega), List.getElem?_take_of_lt (by omega)]
      · rw [if_neg h3, if_neg (show ¬ i - 8 < o by omega), List.getElem?_append]
        by_cases h4 : i < 8 + o + m.length
        · rw [if_pos h4, if_pos (show i - 8 - o < m.length by omega), show i - (8 + o) = i - 8 - o by omega, List.getElem?_eq_getElem (show i - 8 - o < m.length by omega)]; rfl
        · rw [if_neg h4, if_neg (show ¬ i - 8 - o < m.length by omega), List.getElem?_drop, show o + m.length + (i - 8 - o - m.length) = i - 8 by omega]
    · rw [if_neg h1, if_neg h2, if_neg (by omega), if_neg (by omega), if_neg h1, if_neg h2]
theorem Rowz.count {w : World} {b : Nat} {l : List Nat} {R : List UInt8} {c : Nat} {T : TypeId} (h : Rowz w b (stC l R c) T) : w.cell? ⟨b, 72, none⟩ = some (.int .u64 (c : Int)) := by
  rw [h.cell, stC_get]; rfl
theorem Rowz.words {w : World} {b : Nat} {l : List Nat} {R : List UInt8} {c : Nat} {T : TypeId} (h : Rowz w b (stC l R c) T) : w.rangeAt b 0 (wC 8 l).toList := by
  intro j v hv
  have hj : j < 8 := by have := (List.getElem?_eq_some_iff.1 hv).1; simpa [wC_size] using this
  rw [Array.getElem?_toList, wC_get 8 l j hj] at hv
  rw [Nat.zero_add, h.cell, stC_get, if_pos hj, hv]
theorem Rowz.bytes {w : World} {b : Nat} {l : List Nat} {R : List UInt8} {c : Nat} {T : TypeId} (h : Rowz w b (stC l R c) T) (j : Nat) (hj : j < 64) : w.cell? ⟨b, 8 + j, none⟩ = some (.int .u8 (((R.getD j 0).toNat : Nat) : Int)) := by
  rw [h.cell, stC_get, if_neg (by omega), if_pos (by omega), show 8 + j - 8 = j by omega]

/-- Block b is the State of the message M. -/
def StIs (w : World) (b : Nat) (M : ByteArray) : Prop := ∃ l R, Rowz w b (stC l R M.size) 79 ∧ l.length = 8 ∧ (∀ x ∈ l, x < 4294967296) ∧ R.length = 64 ∧ (64 ≤ M.size → l = mixN first8 M (M.size / 64)) ∧ R.take (M.size % 64) = M.data.toList.drop (64 * (M.size / 64))
theorem StIs.grown {w w' : World} {b : Nat} {M : ByteArray} (h : StIs w b M) (k : Grown w w') : StIs w' b M := by
  obtain ⟨l, R, hr, h⟩ := h
  exact ⟨l, R, hr.grown k, h⟩
theorem StIs.only {w w' : World} {b g : Nat} {M : ByteArray} (h : StIs w b M) (k : Only g w w') (hn : b ≠ g) : StIs w' b M := by
  obtain ⟨l, R, hr, h⟩ := h
  exact ⟨l, R, hr.only k hn, h⟩
theorem StIs.lt {w : World} {b : Nat} {M : ByteArray} (h : StIs w b M) : b < w.heap.size := by
  obtain ⟨l, R, hr, _⟩ := h
  exact hr.lt
theorem StIs.new {w : World} {b : Nat} (h : Rowz w b (stC [] [] 0) 79) : StIs w b ⟨#[]⟩ := by
  refine ⟨List.replicate 8 0, List.replicate 64 0, ?_, rfl, by simp, rfl, fun h => absurd h (by decide), rfl⟩
  have e : stC (List.replicate 8 0) (List.replicate 64 0) (ByteArray.mk #[]).size = stC [] [] 0 := by kernel_rfl
  rw [e]; exact h

theorem zeroState (w : World) : (zeroValue 79).run Tryd.prog w = .ok (.agg (stC [] [] 0)) w := by kernel_rfl

set_option maxRecDepth 100000 in
theorem shaNew_any (w : World) :
    Calls Tryd.prog 49 #[] w fun e w' => e = .returned (.pointer (some ⟨w.heap.size, 0, none⟩)) ∧ StIs w' w.heap.size ⟨#[]⟩ ∧ Grown w w' := by
  have hz := zeroState w
  go_enter Tryd.func49, Tryd.ntmps49
  go_wp2
  go_ret
  exact ⟨rfl, StIs.new (Rowz.new w _ _), (Grown.refl _).alloc _ _⟩

set_option maxRecDepth 100000 in
set_option maxHeartbeats 1000000 in
theorem words_any (b : Nat) (M : ByteArray) (w : World) (hs : StIs w b M) :
    Calls Tryd.prog 64 #[.pointer (some ⟨b, 0, none⟩)] w fun e w' => e = .returned (.agg (wC 8 (mixN first8 M (M.size / 64)))) ∧ Grown w w' := by
  obtain ⟨l, R, hr, hl, hlt, hR, hm, _⟩ := hs
  by_cases h64 : M.size < 64
  · have hd : decide ((M.size : Int) < 64) = true := by simp; omega
    have HE : Hid (mixN first8 M (M.size / 64) = first8) := Lib.hid (by rw [Nat.div_eq_of_lt h64]; rfl)
    have hc := (hr.alloc (.cells #[.int .u32 0, .int .u32 0, .int .u32 0, .int .u32 0, .int .u32 0, .int .u32 0, .int .u32 0, .int .u32 0] 76)).count
    go_enter Tryd.func64, Tryd.ntmps64
    go_wp2_with fail
    refine (shaFirst_any _).mono ?_
    rintro e v ⟨rfl, hg⟩
    have hv : Hid (Rowz v w.heap.size (wC 8 []) 76) := Lib.hid (Rowz.grown (Rowz.newEq w _ _ _ (by kernel_rfl)) hg)
    go_wp2_with (refine wpList_store_row rfl 76 _ _ rfl w.heap.size (wC 8 first8) rfl rfl 76 (wC 8 []) hv.out (info8W _) (by simp [wC_size]) (wC_one _ _) ?_)
    refine bodyPost_ret (v := .agg (wC 8 first8)) (results_cell_row Tryd.results64 _ _ w.heap.size 76 _ (0, 0) _ rfl hv.out.row Tryd.underlying76 rfl (info8W _)) rfl ⟨by rw [HE.out], ?_⟩
    exact Grown.setRow (Grown.trans ((Grown.refl _).alloc _ _) hg) hv.out (Nat.le_refl _) _
  · have hd : decide ((M.size : Int) < 64) = false := by simp; omega
    have HE := Lib.hid (hm (by omega))
    have hc := (hr.alloc (.cells #[.int .u32 0, .int .u32 0, .int .u32 0, .int .u32 0, .int .u32 0, .int .u32 0, .int .u32 0, .int .u32 0] 76)).count
    have hw := (hr.alloc (.cells #[.int .u32 0, .int .u32 0, .int .u32 0, .int .u32 0, .int .u32 0, .int .u32 0, .int .u32 0, .int .u32 0] 76)).words
    have hv : Hid (Rowz (w.alloc (.cells #[.int .u32 0, .int .u32 0, .int .u32 0, .int .u32 0, .int .u32 0, .int .u32 0, .int .u32 0, .int .u32 0] 76)) w.heap.size (wC 8 []) 76) := Lib.hid (Rowz.newEq w _ _ _ (by kernel_rfl))
    have HW := Lib.hid hw
    clear hw hm
    go_enter Tryd.func64, Tryd.ntmps64
    go_wp2_with (first
      | (refine wpList_load_mid rfl 76 _ rfl b 0 rfl (wC 8 l).toList _ HW.out Tryd.underlying76 rfl (by rw [Array.length_toList]; exact info8W _) ?_; rw [Array.toArray_toList])
      | (refine wpList_store_row rfl 76 _ _ rfl w.heap.size (wC 8 l) rfl rfl 76 (wC 8 []) hv.out (info8W _) (by simp [wC_size]) (wC_one _ _) ?_))
    refine bodyPost_ret (v := .agg (wC 8 l)) (results_cell_row Tryd.results64 _ _ w.heap.size 76 _ (0, 0) _ rfl hv.out.row Tryd.underlying76 rfl (info8W _)) rfl ⟨by rw [HE.out], ?_⟩
    exact Grown.setRow ((Grown.refl _).alloc _ _) hv.out (Nat.le_refl _) _
end Go.Proofs.YtlfkkfacbcpogaaDoor
namespace Go.Proofs.YtlfkkfacbcpogaaDoor
set_option maxRecDepth 4000

theorem ba_ext {a b : ByteArray} (h : a.data.toList = b.data.toList) : a = b := by
  apply ByteArray.ext
  exact Array.ext' h
theorem ba_append (a b : ByteArray) : (a ++ b).data.toList = a.data.toList ++ b.data.toList := by simp
theorem ba_extract (a : ByteArray) (i j : Nat) : (a.extract i j).data.toList = (a.data.toList.take j).drop i := by
  rw [ByteArray.data_extract, Array.toList_extract, List.extract_eq_take_drop, List.drop_take]
theorem ba_len (a : ByteArray) : a.data.toList.length = a.size := by simp

theorem extract_left (M s : ByteArray) (i j : Nat) (h : j ≤ M.size) : (M ++ s).extract i j = M.extract i j := by
  apply ba_ext
  rw [ba_extract, ba_extract, ba_append, List.take_append_of_le_length (by rw [ba_len]; exact h)]

theorem mixN_append (l : List Nat) (M s : ByteArray) : ∀ k, 64 * k ≤ M.size → mixN l (M ++ s) k = mixN l M k
  | 0, _ => rfl
  | k + 1, h => by
    show mixW (mixN l (M ++ s) k) _ = mixW (mixN l M k) _
    rw [mixN_append l M s k (by omega), extract_left M s _ _ (by omega)]
theorem mixN_add (l : List Nat) (t : ByteArray) (q : Nat) : ∀ m, 64 * (q + m) ≤ t.size → mixN l t (q + m) = mixN (mixN l t q) (t.extract (64 * q) t.size) m
  | 0, _ => rfl
  | m + 1, h => by
    show mixW (mixN l t (q + m)) (t.extract (64 * (q + m)) (64 * (q + m) + 64)) = mixW (mixN (mixN l t q) _ m) _
    rw [mixN_add l t q m (by omega), ByteArray.extract_extract, Nat.min_eq_left (by omega), show 64 * (q + m) = 64 * q + 64 * m by omega, show 64 * q + 64 * m + 64 = 64 * q + (64 * m + 64) by omega]
theorem sumW_mixN (t : ByteArray) : ∀ n, sumW t n = mixN first8 t n
  | 0 => rfl
  | n + 1 => by
    show mixW (sumW t n) _ = mixW (mixN first8 t n) _
    rw [sumW_mixN t n]

theorem shaL_split (M p : ByteArray) (hp : p = M.extract (64 * (M.size / 64)) M.size) :
    shaL M = bytesW (mixN (mixN first8 M (M.size / 64)) (p ++ padS M.size) ((p ++ padS M.size).size / 64)) := by
  have hps : p.size = M.size % 64 := by rw [hp, ByteArray.size_extract]; omega
  have hT : (M ++ padS M.size).size = M.size + (9 + zeros M.size) := by rw [ByteArray.size_append, padS_size]
  have hP : (p ++ padS M.size).size = M.size % 64 + (9 + zeros M.size) := by rw [ByteArray.size_append, padS_size, hps]
  have hw := pad_whole M.size
  have hq : (M ++ padS M.size).size / 64 = M.size / 64 + (p ++ padS M.size).size / 64 := by rw [hT, hP]; omega
  have hx : (M ++ padS M.size).extract (64 * (M.size / 64)) (M ++ padS M.size).size = p ++ padS M.size := by
    apply ba_ext
    rw [ba_extract, ba_append, ba_append, hp, ba_extract, List.take_of_length_le (by rw [← ba_append, ba_len]; exact Nat.le_refl _), List.take_of_length_le (l := M.data.toList) (by rw [ba_len]; exact Nat.le_refl _), List.drop_append_of_le_length (by rw [ba_len]; omega)]
  unfold shaL
  rw [sumW_mixN, hq, mixN_add _ _ _ _ (by rw [hT, hP]; omega), hx, mixN_append first8 M (padS M.size) (M.size / 64) (by omega)]

/-- What Write leaves in a state whose pending bytes do not fill a block. -/
theorem write_less (M s : ByteArray) (l : List Nat) (R : List UInt8) (hR : R.length = 64) (hm : 64 ≤ M.size → l = mixN first8 M (M.size / 64)) (hp : R.take (M.size % 64) = M.data.toList.drop (64 * (M.size / 64)))
    (h : M.size % 64 + s.size < 64) :
    (64 ≤ (M ++ s).size → l = mixN first8 (M ++ s) ((M ++ s).size / 64)) ∧
    (R.take (M.size % 64) ++ s.data.toList ++ R.drop (M.size % 64 + s.data.toList.length)).take ((M ++ s).size % 64) = (M ++ s).data.toList.drop (64 * ((M ++ s).size / 64)) := by
  have hs : (M ++ s).size = M.size + s.size := ByteArray.size_append
  have hq : (M ++ s).size / 64 = M.size / 64 := by rw [hs]; omega
  have hr : (M ++ s).size % 64 = M.size % 64 + s.size := by rw [hs]; omega
  refine ⟨fun h64 => ?_, ?_⟩
  · rw [hq, mixN_append _ _ _ _ (by omega)]
    exact hm (by rw [hs] at h64; omega)
  · rw [hq, hr, List.take_append_of_le_length (by rw [List.length_append, List.length_take, ba_len]; omega), List.take_of_length_le (by rw [List.length_append, List.length_take, ba_len]; omega), hp, ba_append, List.drop_append_of_le_length (by rw [ba_len]; omega)]

/-- The block that Write fills up. -/
theorem write_block (M s : ByteArray) (R : List UInt8) (hR : R.length = 64) (hp : R.take (M.size % 64) = M.data.toList.drop (64 * (M.size / 64))) (n : Nat) (hn : M.size % 64 + n = 64) (hs : n ≤ s.size) :
    mixW (mixN first8 M (M.size / 64)) ⟨(R.take (M.size % 64) ++ s.data.toList.take n ++ R.drop (M.size % 64 + (s.data.toList.take n).length)).toArray⟩ = mixN first8 (M ++ s) (M.size / 64 + 1) := by
  show _ = mixW (mixN first8 (M ++ s) (M.size / 64)) ((M ++ s).extract (64 * (M.size / 64)) (64 * (M.size / 64) + 64))
  rw [mixN_append _ _ _ _ (by omega)]
  congr 1
  apply ba_ext
  have hl : (s.data.toList.take n).length = n := by rw [List.length_take, ba_len]; omega
  rw [ba_extract, ba_append, hl, hn, List.drop_of_length_le (by omega), List.append_nil, hp, List.take_append, List.take_of_length_le (l := M.data.toList) (by rw [ba_len]; omega), ba_len, show 64 * (M.size / 64) + 64 - M.size = n by omega, List.drop_append_of_le_length (by rw [ba_len]; omega)]

/-- What Write leaves behind whole blocks. -/
theorem write_more (M s t : ByteArray) (R : List UInt8) (n : Nat) (hn : M.size % 64 + n = 64) (hs : n ≤ s.size) (ht : t = s.extract n s.size) :
    mixN (mixN first8 (M ++ s) (M.size / 64 + 1)) t (t.size / 64) = mixN first8 (M ++ s) ((M ++ s).size / 64) ∧
    (R.take 0 ++ (t.extract (64 * (t.size / 64)) t.size).data.toList ++ R.drop (0 + (t.extract (64 * (t.size / 64)) t.size).data.toList.length)).take ((M ++ s).size % 64) = (M ++ s).data.toList.drop (64 * ((M ++ s).size / 64)) := by
  have hsz : (M ++ s).size = M.size + s.size := ByteArray.size_append
  have hts : t.size = s.size - n := by rw [ht, ByteArray.size_extract]; omega
  have hq : (M ++ s).size / 64 = M.size / 64 + 1 + t.size / 64 := by rw [hsz, hts]; omega
  have hr : (M ++ s).size % 64 = t.size % 64 := by rw [hsz, hts]; omega
  have hx : (M ++ s).extract (64 * (M.size / 64 + 1)) (M ++ s).size = t := by
    apply ba_ext
    rw [ba_extract, ba_append, ht, ba_extract, List.take_of_length_le (by rw [← ba_append, ba_len]; exact Nat.le_refl _), List.take_of_length_le (l := s.data.toList) (by rw [ba_len]; exact Nat.le_refl _), List.drop_append, List.drop_of_length_le (by rw [ba_len]; omega), ba_len, List.nil_append]
    congr 1
    omega
  refine ⟨?_, ?_⟩
  · rw [hq, mixN_add first8 (M ++ s) (M.size / 64 + 1) (t.size / 64) (by rw [hsz, hts]; omega), hx]
  · have hl : (t.extract (64 * (t.size / 64)) t.size).data.toList.length = t.size % 64 := by rw [ba_len, ByteArray.size_extract]; omega
    rw [List.take_zero, List.nil_append, hr, List.take_append_of_le_length (by omega), List.take_of_length_le (by omega), ba_extract, List.take_of_length_le (by rw [ba_len]; exact Nat.le_refl _), hq,
      show 64 * (M.size / 64 + 1 + t.size / 64) = 64 * (M.size / 64 + 1) + 64 * (t.size / 64) by omega, ← List.drop_drop]
    congr 1
    have := congrArg (fun x => x.data.toList) hx
    simp only [ba_extract] at this
    rw [List.take_of_length_le (by rw [ba_len]; exact Nat.le_refl _)] at this
    exact this.symm

end Go.Proofs.YtlfkkfacbcpogaaDoor
namespace Go.Proofs.YtlfkkfacbcpogaaDoor
set_option maxRecDepth 4000
open Go.RowKit

theorem Tab.only {w w' : World} {b : Nat} (h : Tab w) (k : Only b w w') (hb : 0 ≠ b) : Tab w' := by
  intro i hi
  rw [← h i hi]
  simp only [World.cell?]
  rw [k.2.1 0 h.pos hb]

theorem run_slice_rest (b h : Nat) (w : World) (hh : h < 64) :
    (Instr.sliceAt 77 (.pointer (some ⟨b, 8, none⟩)) (some (.int .i64 (h : Int))) none none).run Tryd.prog w = .ok (.slice (some ⟨b, 8 + h, none⟩) (64 - h) (64 - h)) w := by
  have ha : Tryd.prog.arrayLen 77 = 64 := by kernel_rfl
  have hs : (sizeOf (Tryd.prog.elem 77)).run Tryd.prog w = .ok 1 w := by kernel_rfl
  rw [run_sliceAt_array_l w 77 ⟨b, 8, none⟩ (by kernel_rfl) .i64 (h : Int) (by omega) (by rw [ha]; omega), hs]
  simp [Result.andThen, slicedAt, Addr.add_mid, ha]
  omega

theorem run_slice_whole (b : Nat) (w : World) :
    (Instr.sliceAt 77 (.pointer (some ⟨b, 8, none⟩)) none none none).run Tryd.prog w = .ok (.slice (some ⟨b, 8, none⟩) 64 64) w := by kernel_rfl
theorem Only.newRow {b g : Nat} {u v : World} {C : Array Value} {T : TypeId} (h : Only b u v) (hr : Rowz v g C T) (hg : u.heap.size ≤ g) (D : Array Value) : Only b u (v.setRow g D) := by
  refine ⟨fun w0 g0 hb => Grown.setRow (h.1 w0 g0 hb) hr (Nat.le_trans g0.2.2 hg) D, fun i hi hn => ?_, by simpa using h.2.2⟩
  rw [setRow_other v g i D (by omega)]
  exact h.2.1 i hi hn

set_option maxRecDepth 100000 in
set_option maxHeartbeats 4000000 in
theorem shaWrite_any (b : Nat) (M s : ByteArray) (w : World) (hs : StIs w b M) (ht : Tab w) (hb0 : 0 ≠ b) (hsz : M.size + s.size ≤ 140737488351232) :
    Calls Tryd.prog 50 #[.pointer (some ⟨b, 0, none⟩), .string s] w fun e w' => e = .returned (.tuple #[]) ∧ StIs w' b (M ++ s) ∧ Only b w w' := by
  have hbl := hs.lt
  have hpos := ht.pos
  obtain ⟨q, hq⟩ : ∃ q, q = M.size / 64 := ⟨_, rfl⟩
  obtain ⟨h0, hh0⟩ : ∃ h, h = M.size % 64 := ⟨_, rfl⟩
  have hh64 : h0 < 64 := by omega
  have hrem : ((M.size : Int)).tmod 64 = (h0 : Int) := by rw [Int.tmod_eq_emod_of_nonneg (by omega)]; omega
  have hwr : IntKind.i64.wrap (h0 : Int) = (h0 : Int) := IntWalk.i64_in _ (by omega)
  have HQ := Lib.hid hq
  have HH := Lib.hid hh0
  clear hq hh0
  have hcnt : ∀ w', StIs w' b M → w'.cell? ⟨b, 72, none⟩ = some (.int .u64 (M.size : Int)) := fun w' h => by
    obtain ⟨l, R, hr, _⟩ := h; exact hr.count
  have HC := Lib.hid hcnt
  clear hcnt
  have A0 := Lib.hid hs
  have A4 := Lib.hid ht
  clear hs ht
  go_enter Tryd.func50, Tryd.ntmps50
  go_wp2_with fail
  go_cut [4, 5] from 7 to 16 (fun s4 s5 wx => ∃ g, s4 = .pointer (some ⟨g, 0, none⟩) ∧ s5 = .int .i64 (h0 : Int) ∧ w.heap.size ≤ g ∧ Hid (Rowz wx g (wC 8 (mixN first8 M q)) 76) ∧ Hid (StIs wx b M) ∧ Hid (Grown w wx) ∧ Hid (Tab wx))
  case first =>
    refine wp_region_held_drew (S := fun w' => StIs w' b M) (by kernel_rfl) A0.out (fun _ => ?_)
    refine wpAnyH_take (i := 0) (v := .pointer (some ⟨b, 0, none⟩)) rfl (by kernel_rfl) (by kernel_rfl) (by kernel_rfl) (fun _ _ _ h => h) (Or.inl ⟨by rfl, fun _ _ => by rfl⟩) A0.out ?_
    refine wpAnyH_take (i := 2) (v := .pointer (some ⟨b, 0, none⟩)) rfl (by kernel_rfl) (by kernel_rfl) (by kernel_rfl) (fun _ _ _ h => h) (Or.inl ⟨by rfl, fun _ _ => by rfl⟩) A0.out ?_
    refine wpAnyH_take (i := 3) (v := .pointer (some ⟨b, 0, none⟩)) rfl (by kernel_rfl) (by kernel_rfl) (by kernel_rfl) (fun _ _ _ h => h) (Or.inl ⟨by rfl, fun _ _ => by go_simp⟩) A0.out ?_
    refine wpAnyH_take (i := 4) (v := .pointer (some ⟨b, 72, none⟩)) rfl (by kernel_rfl) (by kernel_rfl) (by kernel_rfl) (fun _ _ _ h => h) (Or.inl ⟨by rfl, fun _ _ => by go_simp⟩) A0.out ?_
    refine wpAnyH_take (i := 5) (v := .int .u64 (M.size : Int)) rfl (by kernel_rfl) (by kernel_rfl) (by kernel_rfl) (fun _ _ _ h => h) (Or.inl ⟨by rfl, fun w' h' => by have hc := HC.out w' h'; go_simp⟩) A0.out ?_
    refine wpAnyH_take (i := 6) (v := .int .u64 (h0 : Int)) rfl (by kernel_rfl) (by kernel_rfl) (by kernel_rfl) (fun _ _ _ h => h) (Or.inl ⟨by rfl, fun _ _ => by go_simp⟩) A0.out ?_
    refine wpAnyH_take (i := 7) (v := .int .i64 (h0 : Int)) rfl (by kernel_rfl) (by kernel_rfl) (by kernel_rfl) (fun _ _ _ h => h) (Or.inl ⟨by rfl, fun _ _ => by go_simp⟩) A0.out ?_
    refine wpAnyH_ready (rs := [1, 8]) (by kernel_rfl) (by simp) (AllReadyH.cons rfl (fun K hK => ?_) (AllReadyH.cons rfl (fun K hK => ?_) AllReadyH.nil))
    · rw [if_pos (by rfl)]
      go_simp
      refine (words_any b M w.drew A0.out).mono ?_
      rintro e v1 ⟨rfl, hg⟩
      rw [← HQ.out]
      have B0 : Hid (StIs v1 b M) := Lib.hid (StIs.grown (w := w.drew) A0.out hg)
      have B3 : Hid (Grown w v1) := Lib.hid hg
      have B4 : Hid (Tab v1) := Lib.hid (Tab.grown (w := w.drew) A4.out hg)
      have hz1 : w.heap.size ≤ v1.heap.size := hg.2.2
      refine hK.out _ _ B0.out (fun _ => ?_)
      clear hK K
      refine wpAnyH_ready (rs := [8]) (by kernel_rfl) (by simp) (AllReadyH.cons rfl (fun K hK => ?_) AllReadyH.nil)
      rw [if_pos (by rfl)]
      go_simp
      have C0 : Hid (StIs (v1.alloc (.cells #[.int .u32 0, .int .u32 0, .int .u32 0, .int .u32 0, .int .u32 0, .int .u32 0, .int .u32 0, .int .u32 0] 76)) b M) := Lib.hid (B0.out.grown ((Grown.refl _).alloc _ _))
      have C3 : Hid (Grown w (v1.alloc (.cells #[.int .u32 0, .int .u32 0, .int .u32 0, .int .u32 0, .int .u32 0, .int .u32 0, .int .u32 0, .int .u32 0] 76))) := Lib.hid (B3.out.alloc _ _)
      have C4 : Hid (Tab (v1.alloc (.cells #[.int .u32 0, .int .u32 0, .int .u32 0, .int .u32 0, .int .u32 0, .int .u32 0, .int .u32 0, .int .u32 0] 76))) := Lib.hid (B4.out.alloc _)
      have C5 : Hid (Rowz (v1.alloc (.cells #[.int .u32 0, .int .u32 0, .int .u32 0, .int .u32 0, .int .u32 0, .int .u32 0, .int .u32 0, .int .u32 0] 76)) v1.heap.size (wC 8 []) 76) := Lib.hid (Rowz.newEq v1 _ _ _ (by kernel_rfl))
      refine hK.out _ _ C0.out (fun _ => ?_)
      clear hK K
      generalize v1.alloc (.cells #[.int .u32 0, .int .u32 0, .int .u32 0, .int .u32 0, .int .u32 0, .int .u32 0, .int .u32 0, .int .u32 0] 76) = v2 at C0 C3 C4 C5 ⊢
      refine wpAnyH_ready (rs := [9]) (by kernel_rfl) (by simp) (AllReadyH.cons rfl (fun K hK => ?_) AllReadyH.nil)
      rw [if_pos (by rfl)]
      refine wp_store_row 76 _ _ rfl v1.heap.size (wC 8 (mixN first8 M q)) rfl rfl 76 (wC 8 []) C5.out (info8W _) (by simp [wC_size]) (wC_one _ _) ?_
      have D0 := Lib.hid (StIs.only C0.out (Only.ofRow C5.out (wC 8 (mixN first8 M q))) (by omega))
      have D3 := Lib.hid (Grown.setRow C3.out C5.out (by omega) (wC 8 (mixN first8 M q)))
      have D4 := Lib.hid (C4.out.setRow v1.heap.size (wC 8 (mixN first8 M q)) (by omega))
      have D5 := Lib.hid (Rowz.row (D := wC 8 (mixN first8 M q)) C5.out)
      refine hK.out _ _ D0.out (fun _ => ?_)
      clear hK K
      refine wpAnyH_ready (rs := [10]) (by kernel_rfl) (by simp) (AllReadyH.cons rfl (fun K hK => ?_) AllReadyH.nil)
      rw [if_pos (by rfl)]
      go_simp
      refine hK.out _ _ D0.out (fun _ => ?_)
      clear hK K
      refine wpAnyH_done (by kernel_rfl) ?_ _
      go_wp2_with fail
      go_meet
      case rel => exact ⟨v1.heap.size, rfl, rfl, by omega, D5, D0, D3, D4⟩
    · rw [if_pos (by rfl)]
      go_simp
      have B3 : Hid (Grown w (w.alloc (.cells #[.int .u32 0, .int .u32 0, .int .u32 0, .int .u32 0, .int .u32 0, .int .u32 0, .int .u32 0, .int .u32 0] 76)).drew) := Lib.hid (by apply Grown.drew; exact (Grown.refl w).alloc _ _)
      have B0 : Hid (StIs (w.alloc (.cells #[.int .u32 0, .int .u32 0, .int .u32 0, .int .u32 0, .int .u32 0, .int .u32 0, .int .u32 0, .int .u32 0] 76)).drew b M) := Lib.hid (StIs.grown A0.out B3.out)
      have B4 : Hid (Tab (w.alloc (.cells #[.int .u32 0, .int .u32 0, .int .u32 0, .int .u32 0, .int .u32 0, .int .u32 0, .int .u32 0, .int .u32 0] 76)).drew) := Lib.hid (Tab.grown A4.out B3.out)
      have B5 : Hid (Rowz (w.alloc (.cells #[.int .u32 0, .int .u32 0, .int .u32 0, .int .u32 0, .int .u32 0, .int .u32 0, .int .u32 0, .int .u32 0] 76)).drew w.heap.size (wC 8 []) 76) := Lib.hid (Rowz.newEq w _ _ _ (by kernel_rfl))
      refine hK.out _ _ B0.out (fun _ => ?_)
      clear hK K
      generalize (w.alloc (.cells #[.int .u32 0, .int .u32 0, .int .u32 0, .int .u32 0, .int .u32 0, .int .u32 0, .int .u32 0, .int .u32 0] 76)).drew = v1 at B0 B3 B4 B5 ⊢
      refine wpAnyH_ready (rs := [1]) (by kernel_rfl) (by simp) (AllReadyH.cons rfl (fun K hK => ?_) AllReadyH.nil)
      rw [if_pos (by rfl)]
      go_simp
      refine (words_any b M _ B0.out).mono ?_
      rintro e v2 ⟨rfl, hg⟩
      rw [← HQ.out]
      have C0 : Hid (StIs v2 b M) := Lib.hid (B0.out.grown hg)
      have C3 : Hid (Grown w v2) := Lib.hid (Grown.trans B3.out hg)
      have C4 : Hid (Tab v2) := Lib.hid (B4.out.grown hg)
      have C5 : Hid (Rowz v2 w.heap.size (wC 8 []) 76) := Lib.hid (B5.out.grown hg)
      clear hg
      refine hK.out _ _ C0.out (fun _ => ?_)
      clear hK K
      refine wpAnyH_ready (rs := [9]) (by kernel_rfl) (by simp) (AllReadyH.cons rfl (fun K hK => ?_) AllReadyH.nil)
      rw [if_pos (by rfl)]
      refine wp_store_row 76 _ _ rfl w.heap.size (wC 8 (mixN first8 M q)) rfl rfl 76 (wC 8 []) C5.out (info8W _) (by simp [wC_size]) (wC_one _ _) ?_
      have D0 := Lib.hid (StIs.only C0.out (Only.ofRow C5.out (wC 8 (mixN first8 M q))) (by omega))
      have D3 := Lib.hid (Grown.setRow C3.out C5.out (by omega) (wC 8 (mixN first8 M q)))
      have D4 := Lib.hid (C4.out.setRow w.heap.size (wC 8 (mixN first8 M q)) (by omega))
      have D5 := Lib.hid (Rowz.row (D := wC 8 (mixN first8 M q)) C5.out)
      refine hK.out _ _ D0.out (fun _ => ?_)
      clear hK K
      refine wpAnyH_ready (rs := [10]) (by kernel_rfl) (by simp) (AllReadyH.cons rfl (fun K hK => ?_) AllReadyH.nil)
      rw [if_pos (by rfl)]
      go_simp
      refine hK.out _ _ D0.out (fun _ => ?_)
      clear hK K
      refine wpAnyH_done (by kernel_rfl) ?_ _
      go_wp2_with fail
      go_meet
      case rel => exact ⟨w.heap.size, rfl, rfl, by omega, D5, D0, D3, D4⟩
  case rest =>
    clear A0 A4
    obtain ⟨g, rfl, rfl, hg, R4, ST, G0, T0⟩ := hcut
    obtain ⟨l, R, hr, hl, hlt, hR, hm, hp⟩ := ST.out
    clear ST
    have hgb : g ≠ b := by omega
    have hc := hr.count
    have hf := hr.free 72
    obtain ⟨c, hcc⟩ : ∃ c, c = (M ++ s).size := ⟨_, rfl⟩
    have hcv : c = M.size + s.size := by rw [hcc, ByteArray.size_append]
    have hw1 : IntKind.u64.wrap (s.size : Int) = (s.size : Int) := by rw [IntKind.wrap_u64]; omega
    have hw2 : IntKind.u64.wrap ((M.size : Int) + (s.size : Int)) = (c : Int) := by rw [IntKind.wrap_u64]; omega
    have hsl := fun w' => run_slice_rest b h0 w' (by omega)
    have hrow : Hid (Rowz (wc.setCell ⟨b, 72, none⟩ (.int .u64 (c : Int))) b (stC l R c) 79) := Lib.hid (by
      rw [← stC_count l R M.size c]; exact hr.set 72 _)
    have V4 := Lib.hid (R4.out.other ⟨b, 72, none⟩ (.int .u64 (c : Int)) (by simpa using hgb))
    have V3 := Lib.hid (Only.trans (Only.ofGrown b G0.out) (Only.ofCell wc 72 (.int .u64 (c : Int))))
    have VT := Lib.hid (T0.out.setCell ⟨b, 72, none⟩ (.int .u64 (c : Int)) hb0)
    have HL := Lib.hid hl
    have HLT := Lib.hid hlt
    have HR := Lib.hid hR
    have HM := Lib.hid hm
    have HP := Lib.hid hp
    have HCC := Lib.hid hcc
    clear hl hlt hR hm hp R4 G0 T0 hr hcc hcv
    by_cases hless : h0 + s.size < 64
    · obtain ⟨n, hn⟩ : ∃ n, n = s.size := ⟨_, rfl⟩
      have HN := Lib.hid hn
      have HNM : Hid (n = min s.size (64 - h0)) := Lib.hid (by omega)
      have hn64 : h0 + n < 64 := by omega
      have hd : decide ((h0 : Int) + (n : Int) < 64) = true := by simp; omega
      have hfit : 8 + h0 + n ≤ (stC l R c).size := by rw [stC_size]; omega
      clear hn
      go_wp2_with (refine wpList_copy_str rfl (.tmp 31) (.tmp 32) 62 9 rfl 5 Tryd.underlying62 sizeU8 b (8 + h0) (64 - h0) (64 - h0) rfl s rfl (stC l R c) 79 hrow.out n HNM.out hfit ?_)
      refine bodyPost_ret (v := .tuple #[]) (results_none Tryd.results50 _ _ _) rfl ⟨rfl, ?_, Only.trans V3.out (Only.ofRow hrow.out _)⟩
      have e1 : s.data.toList.take n = s.data.toList := List.take_of_length_le (by rw [ba_len, HN.out]; exact Nat.le_refl _)
      have hw := write_less M s l R HR.out HM.out HP.out (by rw [← HH.out]; exact hless)
      rw [e1, stC_bytes l R s.data.toList c h0 HR.out (by rw [ba_len]; omega)]
      rw [← HH.out] at hw
      refine ⟨l, _, ?_, HL.out, HLT.out, ?_, hw.1, hw.2⟩
      · rw [← HCC.out]; exact hrow.out.row
      · rw [List.length_append, List.length_append, List.length_take, List.length_drop, ba_len, HR.out]; omega
    · obtain ⟨n, hn⟩ : ∃ n, n = 64 - h0 := ⟨_, rfl⟩
      have HNM : Hid (n = min s.size (64 - h0)) := Lib.hid (by omega)
      have hd : decide ((h0 : Int) + (n : Int) < 64) = false := by simp; omega
      have hfit : 8 + h0 + n ≤ (stC l R c).size := by rw [stC_size]; omega
      have hns : n ≤ s.size := by omega
      have hn64 : h0 + n = 64 := by omega
      have hnI : (n : Int) ≤ (s.size : Int) := by omega
      clear hn
      go_wp2_with (refine wpList_copy_str rfl (.tmp 31) (.tmp 32) 62 9 rfl 5 Tryd.underlying62 sizeU8 b (8 + h0) (64 - h0) (64 - h0) rfl s rfl (stC l R c) 79 hrow.out n HNM.out hfit ?_)
      obtain ⟨R2, hR2⟩ : ∃ R2, R2 = R.take h0 ++ s.data.toList.take n ++ R.drop (h0 + (s.data.toList.take n).length) := ⟨_, rfl⟩
      have hl2 : (s.data.toList.take n).length = n := by rw [List.length_take, ba_len]; omega
      have eR : spl (stC l R c) (8 + h0) (Lib.byteCells (s.data.toList.take n)) = stC l R2 c := by
        rw [stC_bytes l R _ c h0 HR.out (by omega), hR2]
      rw [eR]
      have LR2 : R2.length = 64 := by rw [hR2, List.length_append, List.length_append, List.length_take, List.length_drop, hl2, HR.out]; omega
      have HB : Hid (mixW (mixN first8 M q) ⟨R2.toArray⟩ = mixN first8 (M ++ s) (q + 1)) := Lib.hid (by
        rw [hR2, HQ.out, HH.out]; exact write_block M s R HR.out HP.out n (by rw [← HH.out]; exact hn64) hns)
      clear hR2 hl2 eR
      have W5 := Lib.hid (hrow.out.row (D := stC l R2 c))
      have W4 := Lib.hid (V4.out.rowOther (D := stC l R2 c) (k := b) hgb)
      have W3 := Lib.hid (Only.trans V3.out (Only.ofRow hrow.out (stC l R2 c)))
      have WT := Lib.hid (VT.out.setRow b (stC l R2 c) hb0)
      generalize (wc.setCell ⟨b, 72, none⟩ (.int .u64 (c : Int))).setRow b (stC l R2 c) = v at W5 W4 W3 WT ⊢
      clear V4 V3 VT hrow hsl hc hf hw1 hw2 hd hfit
      have hcvt : ∀ w', Rowz w' b (stC l R2 c) 79 → (convert 62 9 (.slice (some ⟨b, 8, none⟩) 64 64)).run Tryd.prog w' = .ok (.string ⟨R2.toArray⟩) w' := by
        intro w' h
        have := run_strB w' b 8 64 R2 (fun j hj => by
          rw [h.bytes j (by omega), List.getD_eq_getElem?_getD, List.getElem?_eq_getElem hj]; rfl)
        rw [LR2] at this
        exact this
      have hS : Rowz v.drew b (stC l R2 c) 79 := W5.out
      refine wp_region_held_drew (S := fun w' => Rowz w' b (stC l R2 c) 79) (by kernel_rfl) hS (fun _ => ?_)
      refine wpAnyH_take1 1 40 (.pointer (some ⟨b, 0, none⟩)) rfl rfl (by kernel_rfl) (by kernel_rfl) (by kernel_rfl) (fun _ _ _ h => h) hS (Or.inl ⟨by rfl, fun _ _ => by rfl⟩) ?_
      simp only [List.setIfInBounds_toArray, List.set_cons_zero, List.set_cons_succ]
      refine wpAnyH_take1 2 41 (.pointer (some ⟨b, 0, none⟩)) rfl rfl (by kernel_rfl) (by kernel_rfl) (by kernel_rfl) (fun _ _ _ h => h) hS (Or.inl ⟨by rfl, fun _ _ => by kernel_rfl⟩) ?_
      simp only [List.setIfInBounds_toArray, List.set_cons_zero, List.set_cons_succ]
      refine wpAnyH_take1 3 42 (.pointer (some ⟨b, 8, none⟩)) rfl rfl (by kernel_rfl) (by kernel_rfl) (by kernel_rfl) (fun _ _ _ h => h) hS (Or.inl ⟨by rfl, fun _ _ => by kernel_rfl⟩) ?_
      simp only [List.setIfInBounds_toArray, List.set_cons_zero, List.set_cons_succ]
      refine wpAnyH_take1 4 43 (.slice (some ⟨b, 8, none⟩) 64 64) rfl rfl (by kernel_rfl) (by kernel_rfl) (by kernel_rfl) (fun _ _ _ h => h) hS (Or.inl ⟨by rfl, fun _ _ => by kernel_rfl⟩) ?_
      simp only [List.setIfInBounds_toArray, List.set_cons_zero, List.set_cons_succ]
      refine wpAnyH_take1 5 44 (.string ⟨R2.toArray⟩) rfl rfl (by kernel_rfl) (by kernel_rfl) (by kernel_rfl) (fun _ _ _ h => h) hS (yieldsIf_convert rfl 62 9 _ rfl (.slice (some ⟨b, 8, none⟩) 64 64) _ rfl (fun w' h => hcvt w' h)) ?_
      simp only [List.setIfInBounds_toArray, List.set_cons_zero, List.set_cons_succ]
      refine wpAnyH_take1 7 46 (.string s) rfl rfl (by kernel_rfl) (by kernel_rfl) (by kernel_rfl) (fun _ _ _ h => h) hS (Or.inl ⟨by rfl, fun _ _ => by rfl⟩) ?_
      simp only [List.setIfInBounds_toArray, List.set_cons_zero, List.set_cons_succ]
      refine wpAnyH_take1 8 47 (.int .i64 (n : Int)) rfl rfl (by kernel_rfl) (by kernel_rfl) (by kernel_rfl) (fun _ _ _ h => h) hS (Or.inl ⟨by rfl, fun _ _ => by rfl⟩) ?_
      simp only [List.setIfInBounds_toArray, List.set_cons_zero, List.set_cons_succ]
      refine wpAnyH_take1 9 48 (.string (s.extract n s.size)) rfl rfl (by kernel_rfl) (by kernel_rfl) (by kernel_rfl) (fun _ _ _ h => h) hS (yieldsIf_slice rfl 9 _ _ _ _ rfl (.string s) _ (some (.int .i64 (n : Int))) none none rfl rfl rfl rfl (fun w' _ => run_slice_tail s n w' hns)) ?_
      simp only [List.setIfInBounds_toArray, List.set_cons_zero, List.set_cons_succ]
      refine wpAnyH_ready (rs := [0]) (by kernel_rfl) (by simp) (AllReadyH.cons rfl (fun K hK => ?_) AllReadyH.nil)
      rw [if_pos (by rfl)]
      refine wp_load_row 76 _ rfl g rfl 76 (wC 8 (mixN first8 M q)) (0, 0) _ W4.out Tryd.underlying76 rfl (info8W _) ?_
      refine hK.out _ _ hS (fun _ => ?_)
      clear hK K
      refine wpAnyH_ready (rs := [6]) (by kernel_rfl) (by simp) (AllReadyH.cons rfl (fun K hK => ?_) AllReadyH.nil)
      rw [if_pos (by rfl)]
      go_simp
      have hr2 : (⟨R2.toArray⟩ : ByteArray).size = 64 := by rw [← ba_len]; simpa using LR2
      refine (shaMix_any (mixN first8 M q) ⟨R2.toArray⟩ v.drew (by rw [hr2]; decide) (mixN_length _ _ rfl _) (mixN_lt _ _ (by decide) _) WT.out).mono ?_
      rintro e v1 ⟨rfl, hg1⟩
      rw [HB.out]
      have X5 : Hid (Rowz v1 b (stC l R2 c) 79) := Lib.hid (Rowz.grown (w := v.drew) W5.out hg1)
      have X4 : Hid (Rowz v1 g (wC 8 (mixN first8 M q)) 76) := Lib.hid (Rowz.grown (w := v.drew) W4.out hg1)
      have X3 : Hid (Only b w v1) := Lib.hid (Only.trans (v := v.drew) W3.out (Only.ofGrown b hg1))
      have XT : Hid (Tab v1) := Lib.hid (Tab.grown (w := v.drew) WT.out hg1)
      refine hK.out _ _ X5.out (fun _ => ?_)
      clear hK K hg1 hS
      refine wpAnyH_ready (rs := [10]) (by kernel_rfl) (by simp) (AllReadyH.cons rfl (fun K hK => ?_) AllReadyH.nil)
      rw [if_pos (by rfl)]
      go_simp
      obtain ⟨t, ht⟩ : ∃ t, t = s.extract n s.size := ⟨_, rfl⟩
      have hts : t.size ≤ maxLen := by rw [ht, ByteArray.size_extract]; unfold maxLen; omega
      rw [← ht]
      have HTT := Lib.hid ht
      clear ht
      refine (mixAll_any (mixN first8 (M ++ s) (q + 1)) t v1 hts (mixN_length _ _ rfl _) (mixN_lt _ _ (by decide) _) XT.out).mono ?_
      rintro e v2 ⟨rfl, hg1⟩
      obtain ⟨X, hX⟩ : ∃ X, X = mixN (mixN first8 (M ++ s) (q + 1)) t (t.size / 64) := ⟨_, rfl⟩
      obtain ⟨r, hrr⟩ : ∃ r, r = t.extract (64 * (t.size / 64)) t.size := ⟨_, rfl⟩
      have hrs : r.size < 64 := by rw [hrr, ByteArray.size_extract]; omega
      have hXl : X.length = 8 := by rw [hX]; exact mixN_length _ _ (mixN_length _ _ rfl _) _
      have hXt : ∀ x ∈ X, x < 4294967296 := by rw [hX]; exact mixN_lt _ _ (mixN_lt _ _ (by decide) _) _
      have HXL := Lib.hid hXl
      have HXT := Lib.hid hXt
      have HX := Lib.hid hX
      have HRR := Lib.hid hrr
      rw [← hX, ← hrr]
      clear hX hrr hXl hXt
      have Y5 : Hid (Rowz v2 b (stC l R2 c) 79) := Lib.hid (X5.out.grown hg1)
      have Y4 : Hid (Rowz v2 g (wC 8 (mixN first8 M q)) 76) := Lib.hid (X4.out.grown hg1)
      have Y3 : Hid (Only b w v2) := Lib.hid (Only.trans X3.out (Only.ofGrown b hg1))
      have hS : Rowz v2 b (stC l R2 c) 79 := Y5.out
      refine hK.out _ _ hS (fun _ => ?_)
      clear hK K hg1 X5 X4 X3 XT
      refine wpAnyH_take1 11 38 (.tuple #[.agg (wC 8 X), .string r]) rfl rfl (by kernel_rfl) (by kernel_rfl) (by kernel_rfl) (fun _ _ _ h => h) hS (Or.inl ⟨by rfl, fun _ _ => by rfl⟩) ?_
      simp only [List.setIfInBounds_toArray, List.set_cons_zero, List.set_cons_succ]
      refine wpAnyH_take1 12 50 (.agg (wC 8 X)) rfl rfl (by kernel_rfl) (by kernel_rfl) (by kernel_rfl) (fun _ _ _ h => h) hS (Or.inl ⟨by rfl, fun _ _ => by go_simp⟩) ?_
      simp only [List.setIfInBounds_toArray, List.set_cons_zero, List.set_cons_succ]
      refine wpAnyH_take1 13 51 (.string r) rfl rfl (by kernel_rfl) (by kernel_rfl) (by kernel_rfl) (fun _ _ _ h => h) hS (Or.inl ⟨by rfl, fun _ _ => by go_simp⟩) ?_
      simp only [List.setIfInBounds_toArray, List.set_cons_zero, List.set_cons_succ]
      refine wpAnyH_ready (rs := [14]) (by kernel_rfl) (by simp) (AllReadyH.cons rfl (fun K hK => ?_) AllReadyH.nil)
      rw [if_pos (by rfl)]
      refine wp_store_row 76 _ _ rfl g (wC 8 X) rfl rfl 76 (wC 8 (mixN first8 M q)) Y4.out (info8W _) (by simp [wC_size]) (wC_one _ _) ?_
      have hgw : w.heap.size ≤ g := hg
      have Z5 : Hid (Rowz (v2.setRow g (wC 8 X)) b (stC l R2 c) 79) := Lib.hid (Y5.out.rowOther (fun e => hgb e.symm))
      have Z4 : Hid (Rowz (v2.setRow g (wC 8 X)) g (wC 8 X) 76) := Lib.hid Y4.out.row
      have Z3 : Hid (Only b w (v2.setRow g (wC 8 X))) := Lib.hid (Only.newRow Y3.out Y4.out hgw _)
      refine hK.out _ _ Z5.out (fun _ => ?_)
      clear hK K Y5 Y4 Y3 hS
      generalize v2.setRow g (wC 8 X) = v3 at Z5 Z4 Z3 ⊢
      refine wpAnyH_ready (rs := [15]) (by kernel_rfl) (by simp) (AllReadyH.cons rfl (fun K hK => ?_) AllReadyH.nil)
      rw [if_pos (by rfl)]
      go_simp
      refine hK.out _ _ Z5.out (fun _ => ?_)
      clear hK K
      refine wpAnyH_done (by kernel_rfl) ?_ _
      have hsl := fun w' => run_slice_whole b w'
      have hrfit : 8 + 0 + r.size ≤ (stC X R2 c).size := by rw [stC_size]; omega
      have HFit : Hid (r.size = min r.size 64) := Lib.hid (by omega)
      have Zr : Hid (Rowz (v3.setRow b (spl (stC l R2 c) 0 (wC 8 X).toList)) b (stC X R2 c) 79) := Lib.hid (by rw [stC_words]; exact Z5.out.row)
      go_wp2_with (first
        | (refine wpList_load_row rfl 76 _ rfl g rfl 76 (wC 8 X) (0, 0) _ Z4.out Tryd.underlying76 rfl (info8W _) ?_)
        | (refine wpList_store_part rfl 76 _ _ rfl b 0 (wC 8 X) rfl rfl 79 (stC l R2 c) Z5.out (by rw [wC_size, stC_size]; decide) (info8W _) (wC_one _ _) ?_)
        | (refine wpList_copy_str rfl (.tmp 59) (.tmp 60) 62 9 rfl 5 Tryd.underlying62 sizeU8 b (8 + 0) 64 64 rfl r rfl (stC X R2 c) 79 Zr.out r.size HFit.out hrfit ?_))
      have e1 : r.data.toList.take r.size = r.data.toList := List.take_of_length_le (by rw [ba_len]; exact Nat.le_refl _)
      have hw := write_more M s t R2 n (by rw [← HH.out]; exact hn64) hns HTT.out
      rw [← HQ.out, ← HX.out, ← HRR.out] at hw
      have eR : spl (stC X R2 c) 8 (Lib.byteCells (List.take r.size r.data.toList)) = stC X (R2.take 0 ++ r.data.toList ++ R2.drop (0 + r.data.toList.length)) c := by
        rw [e1]; exact stC_bytes X R2 r.data.toList c 0 LR2 (by rw [ba_len]; omega)
      rw [eR]
      refine ⟨rfl, .tuple #[], results_none Tryd.results50 _ _ _, rfl, ?_, Only.trans (Only.trans Z3.out (Only.ofRow Z5.out _)) (Only.ofRow Zr.out _)⟩
      refine ⟨X, _, ?_, HXL.out, HXT.out, ?_, fun _ => hw.1, hw.2⟩
      · rw [← HCC.out]; exact Zr.out.row
      · rw [List.length_append, List.length_append, List.length_take, List.length_drop, ba_len, LR2]; omega

theorem shaWrite_nil (s : ByteArray) (w : World) :
    Calls Tryd.prog 50 #[.pointer none, .string s] w fun e w' => e = .returned (.tuple #[]) ∧ w = w' := by
  go_enter Tryd.func50, Tryd.ntmps50
  go_wp2
  exact bodyPost_ret (v := .tuple #[]) (results_none Tryd.results50 _ _ _) rfl ⟨rfl, rfl⟩
end Go.Proofs.YtlfkkfacbcpogaaDoor
namespace Go.Proofs.YtlfkkfacbcpogaaDoor
set_option maxRecDepth 4000
open Go.RowKit

theorem run_slice_held (b h : Nat) (w : World) (hh : h < 64) :
    (Instr.sliceAt 77 (.pointer (some ⟨b, 8, none⟩)) none (some (.int .u64 (h : Int))) none).run Tryd.prog w = .ok (.slice (some ⟨b, 8, none⟩) h 64) w := by
  have ha : Tryd.prog.arrayLen 77 = 64 := by kernel_rfl
  have hs : (sizeOf (Tryd.prog.elem 77)).run Tryd.prog w = .ok 1 w := by kernel_rfl
  rw [run_sliceAt_array_h w 77 ⟨b, 8, none⟩ (by kernel_rfl) .u64 (h : Int) (by omega) (by rw [ha]; omega), hs]
  simp [Result.andThen, slicedAt, Addr.add_mid, ha]

theorem pend_str (b : Nat) (M p : ByteArray) (h0 : Nat) (hh : h0 = M.size % 64) (hp : p = M.extract (64 * (M.size / 64)) M.size) (w' : World) (h : StIs w' b M) :
    (convert 62 9 (.slice (some ⟨b, 8, none⟩) h0 64)).run Tryd.prog w' = .ok (.string p) w' := by
  obtain ⟨l, R, hr, _, _, hR, _, hpd⟩ := h
  have hpl : p.data.toList = R.take h0 := by
    rw [hp, ba_extract, List.take_of_length_le (by rw [ba_len]; exact Nat.le_refl _), hh, hpd]
  have hlen : (R.take h0).length = h0 := by rw [List.length_take]; omega
  have := run_strB w' b 8 64 (R.take h0) (fun j hj => by
    rw [hr.bytes j (by omega), List.getD_eq_getElem?_getD, List.getElem?_eq_getElem (by omega)]
    simp)
  rw [hlen] at this
  rw [this, ← hpl]

set_option maxRecDepth 100000 in
set_option maxHeartbeats 2000000 in
theorem stateSum_any (b : Nat) (M : ByteArray) (w : World) (hs : StIs w b M) (ht : Tab w) (hM : M.size ≤ 140737488351232) :
    Calls Tryd.prog 51 #[.pointer (some ⟨b, 0, none⟩)] w fun e w' => e = .returned (.agg (bC 32 (shaL M))) ∧ Grown w w' := by
  obtain ⟨h0, hh0⟩ : ∃ h, h = M.size % 64 := ⟨_, rfl⟩
  obtain ⟨p, hp⟩ : ∃ p, p = M.extract (64 * (M.size / 64)) M.size := ⟨_, rfl⟩
  have hh64 : h0 < 64 := by omega
  have hps : p.size = h0 := by rw [hp, ByteArray.size_extract]; omega
  have hrem : ((M.size : Int)).tmod 64 = (h0 : Int) := by rw [Int.tmod_eq_emod_of_nonneg (by omega)]; omega
  have hcvt := fun w' h => pend_str b M p h0 hh0 hp w' h
  have HSP := Lib.hid (shaL_split M p hp)
  have HC : Hid (∀ w', StIs w' b M → w'.cell? ⟨b, 72, none⟩ = some (.int .u64 (M.size : Int))) := Lib.hid (fun w' h => by
    obtain ⟨l, R, hr, _⟩ := h; exact hr.count)
  have hpd : (padS M.size).size ≤ 72 := by rw [padS_size]; have := zeros_le M.size; omega
  clear hh0 hp
  go_enter Tryd.func51, Tryd.ntmps51
  go_wp2_with fail
  change Code.wp _ _ _ _ (w.alloc (.cells (bC 32 []) 31))
  have A0 := Lib.hid (hs.grown ((Grown.refl w).alloc (bC 32 []) 31))
  have A1 := Lib.hid (Rowz.new w (bC 32 []) 31)
  have A3 := Lib.hid ((Grown.refl w).alloc (bC 32 []) 31)
  have A4 := Lib.hid (ht.alloc (.cells (bC 32 []) 31))
  clear hs ht
  generalize w.alloc (.cells (bC 32 []) 31) = v at A0 A1 A3 A4 ⊢
  have hS : StIs v.drew b M := A0.out
  refine wp_region_held_drew (S := fun w' => StIs w' b M) (by kernel_rfl) hS (fun _ => ?_)
  refine wpAnyH_take1 0 10 (.pointer (some ⟨b, 0, none⟩)) rfl rfl (by kernel_rfl) (by kernel_rfl) (by kernel_rfl) (fun _ _ _ h => h) hS (Or.inl ⟨by rfl, fun _ _ => by rfl⟩) ?_
  simp only [List.setIfInBounds_toArray, List.set_cons_zero, List.set_cons_succ]
  refine wpAnyH_take1 1 11 (.pointer (some ⟨b, 0, none⟩)) rfl rfl (by kernel_rfl) (by kernel_rfl) (by kernel_rfl) (fun _ _ _ h => h) hS (Or.inl ⟨by rfl, fun _ _ => by kernel_rfl⟩) ?_
  simp only [List.setIfInBounds_toArray, List.set_cons_zero, List.set_cons_succ]
  refine wpAnyH_take1 2 12 (.pointer (some ⟨b, 8, none⟩)) rfl rfl (by kernel_rfl) (by kernel_rfl) (by kernel_rfl) (fun _ _ _ h => h) hS (Or.inl ⟨by rfl, fun _ _ => by kernel_rfl⟩) ?_
  simp only [List.setIfInBounds_toArray, List.set_cons_zero, List.set_cons_succ]
  refine wpAnyH_take1 3 13 (.pointer (some ⟨b, 0, none⟩)) rfl rfl (by kernel_rfl) (by kernel_rfl) (by kernel_rfl) (fun _ _ _ h => h) hS (Or.inl ⟨by rfl, fun _ _ => by rfl⟩) ?_
  simp only [List.setIfInBounds_toArray, List.set_cons_zero, List.set_cons_succ]
  refine wpAnyH_take1 4 14 (.pointer (some ⟨b, 0, none⟩)) rfl rfl (by kernel_rfl) (by kernel_rfl) (by kernel_rfl) (fun _ _ _ h => h) hS (Or.inl ⟨by rfl, fun _ _ => by kernel_rfl⟩) ?_
  simp only [List.setIfInBounds_toArray, List.set_cons_zero, List.set_cons_succ]
  refine wpAnyH_take1 5 15 (.pointer (some ⟨b, 72, none⟩)) rfl rfl (by kernel_rfl) (by kernel_rfl) (by kernel_rfl) (fun _ _ _ h => h) hS (Or.inl ⟨by rfl, fun _ _ => by kernel_rfl⟩) ?_
  simp only [List.setIfInBounds_toArray, List.set_cons_zero, List.set_cons_succ]
  refine wpAnyH_take1 6 16 (.int .u64 (M.size : Int)) rfl rfl (by kernel_rfl) (by kernel_rfl) (by kernel_rfl) (fun _ _ _ h => h) hS (Or.inl ⟨by rfl, fun w' h => by have hc := HC.out w' h; go_simp⟩) ?_
  simp only [List.setIfInBounds_toArray, List.set_cons_zero, List.set_cons_succ]
  refine wpAnyH_take1 7 17 (.int .u64 (h0 : Int)) rfl rfl (by kernel_rfl) (by kernel_rfl) (by kernel_rfl) (fun _ _ _ h => h) hS (Or.inl ⟨by rfl, fun _ _ => by go_simp⟩) ?_
  simp only [List.setIfInBounds_toArray, List.set_cons_zero, List.set_cons_succ]
  refine wpAnyH_take1 8 18 (.slice (some ⟨b, 8, none⟩) h0 64) rfl rfl (by kernel_rfl) (by kernel_rfl) (by kernel_rfl) (fun _ _ _ h => h) hS (yieldsIf_slice rfl 77 _ _ _ _ rfl (.pointer (some ⟨b, 8, none⟩)) _ none (some (.int .u64 (h0 : Int))) none rfl rfl rfl rfl (fun w' _ => run_slice_held b h0 w' hh64)) ?_
  simp only [List.setIfInBounds_toArray, List.set_cons_zero, List.set_cons_succ]
  refine wpAnyH_take1 9 19 (.string p) rfl rfl (by kernel_rfl) (by kernel_rfl) (by kernel_rfl) (fun _ _ _ h => h) hS (yieldsIf_convert rfl 62 9 _ rfl (.slice (some ⟨b, 8, none⟩) h0 64) _ rfl (fun w' h => hcvt w' h)) ?_
  simp only [List.setIfInBounds_toArray, List.set_cons_zero, List.set_cons_succ]
  refine wpAnyH_take1 10 20 (.pointer (some ⟨b, 0, none⟩)) rfl rfl (by kernel_rfl) (by kernel_rfl) (by kernel_rfl) (fun _ _ _ h => h) hS (Or.inl ⟨by rfl, fun _ _ => by rfl⟩) ?_
  simp only [List.setIfInBounds_toArray, List.set_cons_zero, List.set_cons_succ]
  refine wpAnyH_take1 11 21 (.pointer (some ⟨b, 0, none⟩)) rfl rfl (by kernel_rfl) (by kernel_rfl) (by kernel_rfl) (fun _ _ _ h => h) hS (Or.inl ⟨by rfl, fun _ _ => by kernel_rfl⟩) ?_
  simp only [List.setIfInBounds_toArray, List.set_cons_zero, List.set_cons_succ]
  refine wpAnyH_take1 12 22 (.pointer (some ⟨b, 72, none⟩)) rfl rfl (by kernel_rfl) (by kernel_rfl) (by kernel_rfl) (fun _ _ _ h => h) hS (Or.inl ⟨by rfl, fun _ _ => by kernel_rfl⟩) ?_
  simp only [List.setIfInBounds_toArray, List.set_cons_zero, List.set_cons_succ]
  refine wpAnyH_take1 13 23 (.int .u64 (M.size : Int)) rfl rfl (by kernel_rfl) (by kernel_rfl) (by kernel_rfl) (fun _ _ _ h => h) hS (Or.inl ⟨by rfl, fun w' h => by have hc := HC.out w' h; go_simp⟩) ?_
  simp only [List.setIfInBounds_toArray, List.set_cons_zero, List.set_cons_succ]
  refine wpAnyH_ready (rs := [14]) (by kernel_rfl) (by simp) (AllReadyH.cons rfl (fun K hK => ?_) AllReadyH.nil)
  rw [if_pos (by rfl)]
  go_simp
  refine (shaPad_any M.size _ (by omega)).mono ?_
  rintro e v1 ⟨rfl, hg1⟩
  have B0 : Hid (StIs v1 b M) := Lib.hid (StIs.grown (w := v.drew) A0.out hg1)
  have B1 : Hid (Rowz v1 w.heap.size (bC 32 []) 31) := Lib.hid (Rowz.grown (w := v.drew) A1.out hg1)
  have B3 : Hid (Grown w v1) := Lib.hid (Grown.trans (b := v.drew) A3.out hg1)
  have B4 : Hid (Tab v1) := Lib.hid (Tab.grown (w := v.drew) A4.out hg1)
  refine hK.out _ _ B0.out (fun _ => ?_)
  clear hK K hg1 A0 A1 A3 A4 hS hcvt
  have hadd : ¬ 9223372036854775807 < h0 + (padS M.size).size := by omega
  refine wpAnyH_ready (rs := [15]) (by kernel_rfl) (by simp) (AllReadyH.cons rfl (fun K hK => ?_) AllReadyH.nil)
  rw [if_pos (by rfl)]
  go_simp
  refine hK.out _ _ B0.out (fun _ => ?_)
  clear hK K hadd
  refine wpAnyH_ready (rs := [16]) (by kernel_rfl) (by simp) (AllReadyH.cons rfl (fun K hK => ?_) AllReadyH.nil)
  rw [if_pos (by rfl)]
  go_simp
  refine hK.out _ _ B0.out (fun _ => ?_)
  clear hK K
  refine wpAnyH_done (by kernel_rfl) ?_ _
  obtain ⟨t, ht⟩ : ∃ t, t = p ++ padS M.size := ⟨_, rfl⟩
  have hts : t.size ≤ maxLen := by rw [ht, ByteArray.size_append]; unfold maxLen; omega
  rw [← ht] at HSP ⊢
  have HTS := Lib.hid hts
  clear ht hts hps hpd hrem
  obtain ⟨X, hX⟩ : ∃ X, X = mixN (mixN first8 M (M.size / 64)) t (t.size / 64) := ⟨_, rfl⟩
  have hXl : X.length = 8 := by rw [hX]; exact mixN_length _ _ (mixN_length _ _ rfl _) _
  have hXt : ∀ x ∈ X, x < 4294967296 := by rw [hX]; exact mixN_lt _ _ (mixN_lt _ _ (by decide) _) _
  have HXL := Lib.hid hXl
  have HXT := Lib.hid hXt
  have HX := Lib.hid hX
  rw [← hX] at HSP
  clear hX hXl hXt
  go_wp2_with fail
  refine (words_any b M v1 B0.out).mono ?_
  rintro e v2 ⟨rfl, hg1⟩
  have C1 := Lib.hid (B1.out.grown hg1)
  have C3 := Lib.hid (Grown.trans B3.out hg1)
  have C4 := Lib.hid (B4.out.grown hg1)
  clear hg1 B0 B1 B3 B4
  go_wp2_with fail
  refine (mixAll_any (mixN first8 M (M.size / 64)) t v2 HTS.out (mixN_length _ _ rfl _) (mixN_lt _ _ (by decide) _) C4.out).mono ?_
  rintro e v3 ⟨rfl, hg1⟩
  rw [← HX.out]
  have D1 := Lib.hid (C1.out.grown hg1)
  have D3 := Lib.hid (Grown.trans C3.out hg1)
  clear hg1 C1 C3 C4
  go_wp2_with (first
    | (refine wpList_store_row rfl 76 _ _ rfl v3.heap.size (wC 8 X) rfl rfl 76 _ (Rowz.new v3 _ _) (info8W _) (by rw [wC_size]; rfl) (wC_one _ _) ?_; rw [World.setRow_alloc_new])
    | (refine wpList_load_row rfl 76 _ rfl v3.heap.size rfl 76 (wC 8 X) (0, 0) _ (Rowz.new v3 _ _) Tryd.underlying76 rfl (info8W _) ?_))
  refine (bytesOf_any X _ HXL.out HXT.out).mono ?_
  rintro e v4 ⟨rfl, hg1⟩
  rw [← HSP.out]
  have E1 := Lib.hid ((D1.out.alloc (.cells (wC 8 X) 76)).grown hg1)
  have E3 := Lib.hid (Grown.trans (D3.out.alloc (wC 8 X) 76) hg1)
  go_wp2_with (refine wpList_store_row rfl 31 _ _ rfl w.heap.size (bC 32 (shaL M)) rfl rfl 31 (bC 32 []) E1.out (info32 _) (by simp [bC_size]) (bC_one _ _) ?_)
  refine bodyPost_ret (v := .agg (bC 32 (shaL M))) (results_cell_row Tryd.results51 _ _ w.heap.size 31 _ (0, 0) _ rfl E1.out.row Tryd.underlying31 rfl (info32 _)) rfl ⟨rfl, ?_⟩
  exact Grown.setRow E3.out E1.out (Nat.le_refl _) _

set_option maxRecDepth 100000 in
set_option maxHeartbeats 1000000 in
theorem stateSum_nil (w : World) (ht : Tab w) :
    Calls Tryd.prog 51 #[.pointer none] w fun e w' => e = .returned (.agg (bC 32 (shaL ⟨#[]⟩))) ∧ Grown w w' := by
  go_enter Tryd.func51, Tryd.ntmps51
  go_wp2_with fail
  change Calls _ _ _ (w.alloc (.cells (bC 32 []) 31)) _
  have A1 := Lib.hid (Rowz.new w (bC 32 []) 31)
  have A3 := Lib.hid ((Grown.refl w).alloc (bC 32 []) 31)
  have A4 := Lib.hid (ht.alloc (.cells (bC 32 []) 31))
  clear ht
  generalize w.alloc (.cells (bC 32 []) 31) = v at A1 A3 A4 ⊢
  refine (shaNew_any v).mono ?_
  rintro e v1 ⟨rfl, hst, hg1⟩
  go_wp2_with fail
  refine (stateSum_any v.heap.size ⟨#[]⟩ v1 hst (A4.out.grown hg1) (by decide)).mono ?_
  rintro e v2 ⟨rfl, hg2⟩
  have E1 := Lib.hid ((A1.out.grown hg1).grown hg2)
  have E3 := Lib.hid (Grown.trans (Grown.trans A3.out hg1) hg2)
  go_wp2_with (refine wpList_store_row rfl 31 _ _ rfl w.heap.size (bC 32 (shaL ⟨#[]⟩)) rfl rfl 31 (bC 32 []) E1.out (info32 _) (by simp [bC_size]) (bC_one _ _) ?_)
  refine bodyPost_ret (v := .agg (bC 32 (shaL ⟨#[]⟩))) (results_cell_row Tryd.results51 _ _ w.heap.size 31 _ (0, 0) _ rfl E1.out.row Tryd.underlying31 rfl (info32 _)) rfl ⟨rfl, ?_⟩
  exact Grown.setRow E3.out E1.out (Nat.le_refl _) _

theorem ba_nil_append (s : ByteArray) : (⟨#[]⟩ : ByteArray) ++ s = s := by
  apply ba_ext; rw [ba_append]; rfl

set_option maxRecDepth 100000 in
set_option maxHeartbeats 1000000 in
theorem shaSum_any (s : ByteArray) (w : World) (ht : Tab w) (hs : s.size ≤ 140737488351232) :
    Calls Tryd.prog 37 #[.string s] w fun e w' => e = .returned (.agg (bC 32 (shaL s))) ∧ Grown w w' := by
  have hpos := ht.pos
  have e0 : (⟨#[]⟩ : ByteArray).size = 0 := rfl
  go_enter Tryd.func37, Tryd.ntmps37
  go_wp2_with fail
  change Calls _ _ _ (w.alloc (.cells (bC 32 []) 31)) _
  have A1 := Lib.hid (Rowz.new w (bC 32 []) 31)
  have A3 := Lib.hid ((Grown.refl w).alloc (bC 32 []) 31)
  have A4 := Lib.hid (ht.alloc (.cells (bC 32 []) 31))
  have hvs : (w.alloc (.cells (bC 32 []) 31)).heap.size = w.heap.size + 1 := by simp
  clear ht
  generalize w.alloc (.cells (bC 32 []) 31) = v at A1 A3 A4 hvs ⊢
  refine (shaNew_any v).mono ?_
  rintro e v1 ⟨rfl, hst, hg1⟩
  rw [hvs] at hst
  have B1 := Lib.hid (A1.out.grown hg1)
  have B4 := Lib.hid (A4.out.grown hg1)
  have B3 := Lib.hid (Grown.trans A3.out hg1)
  go_wp2_with fail
  refine (shaWrite_any (w.heap.size + 1) ⟨#[]⟩ s v1 hst B4.out (by omega) (by rw [e0]; omega)).mono ?_
  rintro e v2 ⟨rfl, hst2, hon⟩
  rw [ba_nil_append] at hst2
  have C1 := Lib.hid (B1.out.only hon (by omega))
  have C4 := Lib.hid (B4.out.only hon (by omega))
  have C3 := Lib.hid (hon.1 w B3.out (by omega))
  go_wp2_with fail
  refine (stateSum_any (w.heap.size + 1) s v2 hst2 C4.out hs).mono ?_
  rintro e v3 ⟨rfl, hg2⟩
  have E1 := Lib.hid (C1.out.grown hg2)
  have E3 := Lib.hid (Grown.trans C3.out hg2)
  go_wp2_with (refine wpList_store_row rfl 31 _ _ rfl w.heap.size (bC 32 (shaL s)) rfl rfl 31 (bC 32 []) E1.out (info32 _) (by simp [bC_size]) (bC_one _ _) ?_)
  refine bodyPost_ret (v := .agg (bC 32 (shaL s))) (results_cell_row Tryd.results37 _ _ w.heap.size 31 _ (0, 0) _ rfl E1.out.row Tryd.underlying31 rfl (info32 _)) rfl ⟨rfl, ?_⟩
  exact Grown.setRow E3.out E1.out (Nat.le_refl _) _
end Go.Proofs.YtlfkkfacbcpogaaDoor
namespace Go.Proofs.YtlfkkfacbcpogaaDoor
set_option maxRecDepth 4000
open Go.ChangeShapes Go.WideShapes Go.ChangeAt Go.RowKit

theorem rounds_data : (Rows.laid_milepost_sha_rounds : DataW Unit) = Lib.tabData .u32 (rks.map fun n : Nat => (n : Int)) := by kernel_rfl

theorem tab_of_laid {W : World} (h : laidMetH Tryd.prog [("milepost/sha.rounds", Rows.laid_milepost_sha_rounds)] W) : Tab W := by
  rw [MakeChecks.laidMetH_plain _ _ _ (by kernel_rfl), rounds_data] at h
  have ht := Lib.tabIs_of_head (g := 0) (t := 87) (e := 22) (n := 64) (by kernel_rfl) (by kernel_rfl) Tryd.underlying87 Tryd.underlying22 (by kernel_rfl) (by kernel_rfl) h
  intro i hi
  have hl : rks.length = 64 := by decide
  rw [ht.cell (g := 0) (by kernel_rfl) i (by rw [List.length_map, hl]; exact hi)]
  rw [List.getD_eq_getElem?_getD, List.getD_eq_getElem?_getD, List.getElem?_map, List.getElem?_eq_getElem (by omega)]
  rfl

theorem door_met (os : Os) (args : Array Value) : laidMetH Tryd.prog [("milepost/sha.rounds", Rows.laid_milepost_sha_rounds)] ((World.doorLaid Tryd.prog 400 os).forCall (fun _ _ => 0) ⟨#[], args, []⟩).memory :=
  laidMetH_of_parts3 (fuel := 8) (laidMet_of_run' 8 (by kernel_rfl) (by kernel_rfl)) (by kernel_rfl) (by kernel_rfl)
end Go.Proofs.YtlfkkfacbcpogaaDoor
