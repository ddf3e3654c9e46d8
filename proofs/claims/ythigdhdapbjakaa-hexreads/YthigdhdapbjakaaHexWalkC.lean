/-
  Contract of hex.Sum. Condition: a string has at most a million bytes.
-/
import Derived.Test.YthigdhdapbjakaaHexWalkB
namespace Go.Proofs.Ythigdhdapbjakaa
open Go.RowKit

theorem zeros32 : bC 32 [] = bC 32 (List.replicate 32 0) := by kernel_rfl
theorem ret_sum {s : ByteArray} {l : List UInt8} {b : Bool} (hl : bC 32 (sumL s) = bC 32 l) (hb : sumB s = b) : Ending.returned (.tuple #[.agg (bC 32 l), .bool b]) = .returned (.tuple #[.agg (bC 32 (sumL s)), .bool (sumB s)]) := by rw [hl, hb]
theorem run_slice_hashx (g : Nat) (w : World) : (Instr.sliceAt 28 (.pointer (some ⟨g, 0, none⟩)) none none none).run Try.prog w = .ok (.slice (some ⟨g, 0, none⟩) 32 32) w := by kernel_rfl
set_option maxRecDepth 100000 in
set_option maxHeartbeats 1000000 in
theorem hexSum_any (s : ByteArray) (w : World) (hs : s.size ≤ 1000000) :
    Calls Try.prog 11 #[.string s] w fun e w' => e = .returned (.tuple #[.agg (bC 32 (sumL s)), .bool (sumB s)]) ∧ Kept w w' := by
  have HB : Hid (∀ w, Calls Try.prog 9 #[.string s] w fun e w' => e = .returned (.tuple #[.string (unS s), .bool (unB s)]) ∧ Kept w w') := Lib.hid fun w => hexBytes_any s w hs
  have hsl := run_slice_hashx (w.heap.size + 1)
  have hle : (unS s).size ≤ 1000000 := Nat.le_trans (unS_le s) hs
  cases hu : unB s with
  | false =>
    have HN : Hid (sumB s = false) := Lib.hid (by rw [sumB, hu]; rfl)
    rw [hu] at HB
    generalize unS s = b at HB hle
    clear hu
    go_enter Try.func11, Try.ntmps11
    go_wp2_with (first
      | (go_at_call 9; refine (HB.out _).mono ?_; rintro e v ⟨rfl, K1⟩; have R2 := Lib.hid (((Rowz.newEq w _ (bC 32 []) 28 rfl).alloc _).kept K1); have K0 := Lib.hid ((((Kept.refl w).alloc _).alloc _).trans K1))
      | (refine wpList_store_row rfl 28 _ _ rfl w.heap.size (bC 32 []) rfl rfl 28 (bC 32 []) R2.out (info32c _) (by simp [bC_size]) (bC_one _ _) ?_))
    refine bodyPost_ret (v := .tuple #[.agg (bC 32 []), .bool false]) (results_row_tmp Try.results11 _ _ w.heap.size 28 _ _ _ rfl rfl R2.out.row Try.underlying28 rfl (info32c _)) rfl ⟨ret_sum ?_ HN.out, K0.out.setRow (Nat.le_refl _) _⟩
    rw [sumL_no HN.out, zeros32]
  | true =>
    rw [hu] at HB
    by_cases h32 : (unS s).size = 32
    · have HY : Hid (sumB s = true) := Lib.hid (by rw [sumB, hu, decide_eq_true h32]; rfl)
      have HL := Lib.hid (sumL_yes HY.out)
      have hd : (((unS s).size : Int) != 32) = false := by rw [h32]; rfl
      have HZ : Hid ((unS s).size = 32) := Lib.hid h32
      have HP : Hid (spl (bC 32 []) 0 (Lib.byteCells (List.take 32 (unS s).data.toList)) = bC 32 (sl (unS s))) := Lib.hid (by
        rw [bC_spl 32 [] _ 0 rfl (by rw [List.length_take]; omega), List.nil_append, List.take_of_length_le (by have : (sl (unS s)).length = 32 := h32; exact Nat.le_of_eq this)]
        rfl)
      generalize unS s = b at HB HL HZ HP hd hle
      clear hu h32
      go_enter Try.func11, Try.ntmps11
      go_wp2_with (first
        | (go_at_call 9; refine (HB.out _).mono ?_; rintro e v ⟨rfl, K1⟩; have R2 := Lib.hid (((Rowz.newEq w _ (bC 32 []) 28 rfl).alloc _).kept K1); have R4 := Lib.hid ((Rowz.newEq1 w _ _ (bC 32 []) 28 rfl).kept K1); have K0 := Lib.hid ((((Kept.refl w).alloc _).alloc _).trans K1))
        | (refine wpList_copy_str rfl (.tmp 20) (.tmp 21) 32 9 rfl 5 Try.underlying32 sizeU8c (w.heap.size + 1) 0 32 32 rfl b rfl (bC 32 []) 28 R4.out 32 (by rw [HZ.out]; rfl) (by rw [bC_size]; omega) ?_; rw [HP.out]; have Q4 := Lib.hid (R4.out.row (D := bC 32 (sl b))); have Q2 := Lib.hid (R2.out.rowOther (D := bC 32 (sl b)) (show w.heap.size ≠ w.heap.size + 1 by omega)); have Q0 := Lib.hid (K0.out.setRow (show w.heap.size ≤ w.heap.size + 1 by omega) (bC 32 (sl b))))
        | (refine wpList_load_row rfl 28 _ rfl (w.heap.size + 1) rfl 28 (bC 32 (sl b)) (0, 0) _ Q4.out Try.underlying28 rfl (info32c _) ?_)
        | (refine wpList_store_row rfl 28 _ _ rfl w.heap.size (bC 32 (sl b)) rfl rfl 28 (bC 32 []) Q2.out (info32c _) (by simp [bC_size]) (bC_one _ _) ?_))
      refine bodyPost_ret (v := .tuple #[.agg (bC 32 (sl b)), .bool true]) (results_row_tmp Try.results11 _ _ w.heap.size 28 _ _ _ rfl rfl Q2.out.row Try.underlying28 rfl (info32c _)) rfl ⟨ret_sum ?_ HY.out, Q0.out.setRow (Nat.le_refl _) _⟩
      rw [HL.out]
    · have HN : Hid (sumB s = false) := Lib.hid (by rw [sumB, hu, decide_eq_false h32]; rfl)
      have hd : (((unS s).size : Int) != 32) = true := by simp; omega
      generalize unS s = b at HB hd hle
      clear hu h32
      go_enter Try.func11, Try.ntmps11
      go_wp2_with (first
        | (go_at_call 9; refine (HB.out _).mono ?_; rintro e v ⟨rfl, K1⟩; have R2 := Lib.hid (((Rowz.newEq w _ (bC 32 []) 28 rfl).alloc _).kept K1); have K0 := Lib.hid ((((Kept.refl w).alloc _).alloc _).trans K1))
        | (refine wpList_store_row rfl 28 _ _ rfl w.heap.size (bC 32 []) rfl rfl 28 (bC 32 []) R2.out (info32c _) (by simp [bC_size]) (bC_one _ _) ?_))
      refine bodyPost_ret (v := .tuple #[.agg (bC 32 []), .bool false]) (results_row_tmp Try.results11 _ _ w.heap.size 28 _ _ _ rfl rfl R2.out.row Try.underlying28 rfl (info32c _)) rfl ⟨ret_sum ?_ HN.out, K0.out.setRow (Nat.le_refl _) _⟩
      rw [sumL_no HN.out, zeros32]
end Go.Proofs.Ythigdhdapbjakaa
