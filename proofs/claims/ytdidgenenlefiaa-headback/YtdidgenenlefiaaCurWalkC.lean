/-
  Contracts of cur: Text and Hash, on a cursor and on none.
-/
import Derived.Test.YtdidgenenlefiaaCurWalkB
namespace Go.Proofs.Ytdidgenenlefiaa
set_option maxRecDepth 4000
open Go.RowKit

def hashL (s : ByteArray) : List UInt8 := (List.range 32).map fun i => (sl s).getD i 0
theorem hashL_length (s : ByteArray) : (hashL s).length = 32 := by simp [hashL]
theorem hashL_row (s : ByteArray) : bC 32 (sl s) = bC 32 (hashL s) := by
  apply Array.ext_getElem?
  intro i
  rw [bC_getAny, bC_getAny]
  by_cases h : i < 32
  · rw [if_pos h, if_pos h]
    simp [hashL, List.getD_eq_getElem?_getD, h]
  · rw [if_neg h, if_neg h]
theorem run_slice_hashc (g : Nat) (w : World) : (Instr.sliceAt 24 (.pointer (some ⟨g, 0, none⟩)) none none none).run Try.prog w = .ok (.slice (some ⟨g, 0, none⟩) 32 32) w := by kernel_rfl
theorem rawP_size32 (c : Cu) : (rawP c 32).1.size ≤ 32 := by
  unfold rawP
  rw [if_neg (by decide)]
  split
  · exact Nat.zero_le _
  · show (c.b.extract 0 32).size ≤ 32
    rw [ByteArray.size_extract]; omega

set_option maxRecDepth 100000 in
set_option maxHeartbeats 1000000 in
theorem curHash_any (g : Nat) (c : Cu) (w : World) (h : CurAt w g c) :
    Calls Try.prog 25 #[.pointer (some ⟨g, 0, none⟩)] w fun e w' => e = .returned (.agg (bC 32 (hashL (rawP c 32).1))) ∧ CurAt w' g (rawP c 32).2 ∧ OnlyC g w w' := by
  have hgl : g < w.heap.size := Rowz.lt h
  have H := Lib.hid h
  have HR : Hid (∀ w, CurAt w g c → Calls Try.prog 23 #[.pointer (some ⟨g, 0, none⟩), .int .i64 32] w fun e w' => e = .returned (.string (rawP c 32).1) ∧ CurAt w' g (rawP c 32).2 ∧ OnlyC g w w') := Lib.hid fun w h => curRaw_any g c 32 w h
  have HS := Lib.hid (rawP_size32 c)
  clear h
  generalize rawP c 32 = r at HR HS ⊢
  obtain ⟨s, c'⟩ := r
  have hsl := run_slice_hashc (w.heap.size + 1)
  go_enter Try.func25, Try.ntmps25
  go_wp2_with fail
  have H0 : Hid (CurAt ((w.alloc (.cells (bC 32 []) 24)).alloc (.cells (bC 32 []) 24)).drew g c) := Lib.hid (Rowz.alloc (Rowz.alloc H.out _) _)
  have R3 : Hid (Rowz ((w.alloc (.cells (bC 32 []) 24)).alloc (.cells (bC 32 []) 24)).drew (w.heap.size + 1) (bC 32 []) 24) := Lib.hid (Rowz.newEq1 w _ _ _ _ rfl)
  have R2 : Hid (Rowz ((w.alloc (.cells (bC 32 []) 24)).alloc (.cells (bC 32 []) 24)).drew w.heap.size (bC 32 []) 24) := Lib.hid ((Rowz.newEq w _ _ _ rfl).alloc _)
  have G0 : Hid (Grown w ((w.alloc (.cells (bC 32 []) 24)).alloc (.cells (bC 32 []) 24)).drew) := Lib.hid (((Grown.refl w).alloc _ _).alloc _ _)
  go_region_held3 (fun _ => True) (exact trivial)
    (first
      | (go_at_call 23; refine (HR.out _ H0.out).mono ?_; rintro e v ⟨rfl, H1, O1⟩; replace H1 := Lib.hid H1; replace O1 := Lib.hid O1)
      | (refine step_copy_str rfl (.tmp 4) (.tmp 6) 47 9 rfl 5 Try.underlying47 sizeU8c (w.heap.size + 1) 0 32 32 rfl s rfl (bC 32 []) 24 (Rowz.onlyC R3.out O1.out (by omega)) s.size (by have : s.size ≤ 32 := HS.out; omega) (by rw [bC_size]; have : s.size ≤ 32 := HS.out; omega) ?_))
  have hsz : s.size ≤ 32 := HS.out
  have r3 := Rowz.onlyC R3.out O1.out (show w.heap.size + 1 ≠ g by omega)
  have r2 := Rowz.onlyC R2.out O1.out (show w.heap.size ≠ g by omega)
  have e1 : spl (bC 32 []) 0 (Lib.byteCells (List.take s.size s.data.toList)) = bC 32 (hashL s) := by
    rw [bC_spl 32 [] _ 0 rfl (by rw [List.length_take]; omega), List.nil_append, ← hashL_row]
    congr 1
    exact List.take_of_length_le (Nat.le_refl _)
  rw [e1]
  have H2 : Hid (CurAt (v.setRow (w.heap.size + 1) (bC 32 (hashL s))) g c') := Lib.hid (Rowz.rowOther H1.out (by omega))
  have Q3 : Hid (Rowz (v.setRow (w.heap.size + 1) (bC 32 (hashL s))) (w.heap.size + 1) (bC 32 (hashL s)) 24) := Lib.hid r3.row
  have Q2 : Hid (Rowz (v.setRow (w.heap.size + 1) (bC 32 (hashL s))) w.heap.size (bC 32 []) 24) := Lib.hid (r2.rowOther (by omega))
  have O2 : Hid (OnlyC g w (v.setRow (w.heap.size + 1) (bC 32 (hashL s)))) := Lib.hid (OnlyC.newRow (OnlyC.trans (OnlyC.ofGrown g G0.out) O1.out) r3 (by omega) _)
  generalize v.setRow (w.heap.size + 1) (bC 32 (hashL s)) = v2 at H2 Q3 Q2 O2 ⊢
  clear r3 r2 hsl e1
  go_wp2_with (first
    | (refine wpList_load_row rfl 24 _ rfl (w.heap.size + 1) rfl 24 (bC 32 (hashL s)) (0, 0) _ Q3.out Try.underlying24 rfl (info32c _) ?_)
    | (refine wpList_store_row rfl 24 _ _ rfl w.heap.size (bC 32 (hashL s)) rfl rfl 24 (bC 32 []) Q2.out (info32c _) (by simp [bC_size]) (bC_one _ _) ?_))
  refine bodyPost_ret (v := .agg (bC 32 (hashL s))) (results_cell_row Try.results25 _ _ w.heap.size 24 _ (0, 0) _ rfl Q2.out.row Try.underlying24 rfl (info32c _)) rfl ⟨rfl, ?_, ?_⟩
  · exact Rowz.rowOther H2.out (by omega)
  · exact OnlyC.newRow O2.out Q2.out (by omega) _
set_option maxRecDepth 100000 in
set_option maxHeartbeats 1000000 in
theorem curHash_nil (w : World) :
    Calls Try.prog 25 #[.pointer none] w fun e w' => e = .returned (.agg (bC 32 [])) ∧ Grown w w' := by
  have HR : Hid (∀ w, Calls Try.prog 23 #[.pointer none, .int .i64 32] w fun e w' => e = .returned (.string noB) ∧ Grown w w') := Lib.hid fun w => (curRaw_nil 32 w).mono fun e w' ⟨h, h2⟩ => ⟨h, h2 ▸ Grown.refl w⟩
  have hsl := run_slice_hashc (w.heap.size + 1)
  go_enter Try.func25, Try.ntmps25
  go_wp2_with fail
  have R3 : Hid (Rowz ((w.alloc (.cells (bC 32 []) 24)).alloc (.cells (bC 32 []) 24)).drew (w.heap.size + 1) (bC 32 []) 24) := Lib.hid (Rowz.newEq1 w _ _ _ _ rfl)
  have R2 : Hid (Rowz ((w.alloc (.cells (bC 32 []) 24)).alloc (.cells (bC 32 []) 24)).drew w.heap.size (bC 32 []) 24) := Lib.hid ((Rowz.newEq w _ _ _ rfl).alloc _)
  have G0 : Hid (Grown w ((w.alloc (.cells (bC 32 []) 24)).alloc (.cells (bC 32 []) 24)).drew) := Lib.hid (((Grown.refl w).alloc _ _).alloc _ _)
  go_region_held3 (fun _ => True) (exact trivial)
    (first
      | (go_at_call 23; refine (HR.out _).mono ?_; rintro e v ⟨rfl, O1⟩)
      | (refine step_copy_str rfl (.tmp 4) (.tmp 6) 47 9 rfl 5 Try.underlying47 sizeU8c (w.heap.size + 1) 0 32 32 rfl noB rfl (bC 32 []) 24 (Rowz.grown R3.out O1) 0 rfl (Nat.zero_le _) ?_))
  have e1 : spl (bC 32 []) 0 (Lib.byteCells (List.take 0 noB.data.toList)) = bC 32 [] := by
    rw [bC_spl 32 [] _ 0 rfl (by simp), List.nil_append]; rfl
  rw [e1]
  have r3 := Rowz.grown R3.out O1
  have r2 := Rowz.grown R2.out O1
  have g0 := Grown.trans G0.out O1
  have Q3 : Hid (Rowz (v.setRow (w.heap.size + 1) (bC 32 [])) (w.heap.size + 1) (bC 32 []) 24) := Lib.hid r3.row
  have Q2 : Hid (Rowz (v.setRow (w.heap.size + 1) (bC 32 [])) w.heap.size (bC 32 []) 24) := Lib.hid (r2.rowOther (by omega))
  have O2 : Hid (Grown w (v.setRow (w.heap.size + 1) (bC 32 []))) := Lib.hid (Grown.setRow g0 r3 (by omega) _)
  generalize v.setRow (w.heap.size + 1) (bC 32 []) = v2 at Q3 Q2 O2 ⊢
  clear r3 r2 hsl e1 g0 R3 R2 G0 O1
  go_wp2_with (first
    | (refine wpList_load_row rfl 24 _ rfl (w.heap.size + 1) rfl 24 (bC 32 []) (0, 0) _ Q3.out Try.underlying24 rfl (info32c _) ?_)
    | (refine wpList_store_row rfl 24 _ _ rfl w.heap.size (bC 32 []) rfl rfl 24 (bC 32 []) Q2.out (info32c _) (by simp [bC_size]) (bC_one _ _) ?_))
  refine bodyPost_ret (v := .agg (bC 32 [])) (results_cell_row Try.results25 _ _ w.heap.size 24 _ (0, 0) _ rfl Q2.out.row Try.underlying24 rfl (info32c _)) rfl ⟨rfl, ?_⟩
  exact Grown.setRow O2.out Q2.out (by omega) _
end Go.Proofs.Ytdidgenenlefiaa
