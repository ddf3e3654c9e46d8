/-
  Contract of package sha: bytesOf. Conditions: the words fit their kind.
-/
import Derived.Test.YtecfgjoomckleaaDoorShaWalkD
import Derived.Test.YtecfgjoomckleaaDoorMemLib
namespace Go.Proofs.YtecfgjoomckleaaDoor
set_option maxRecDepth 4000
open Go.RowKit

theorem sizeU8 : (Tryd.prog.info? 5).map (·.size) = some 1 := by kernel_rfl
theorem run_index_words (S : List Nat) (k : Nat) (w : World) (hk : k < 8) : (Instr.index 65 (.agg (wC 8 S)) (.int .i64 (k : Int))).run Tryd.prog w = .ok (.int .u32 ((S.getD k 0 : Nat) : Int)) w := by
  have h1 : (sizeOf 56).run Tryd.prog w = .ok 1 w := by kernel_rfl
  have h3 := wC_get 8 S k hk
  simp [Instr.index, run_underlying Tryd.underlying65, asIntOf, part, h1, h3]
  omega

theorem run_slice_hash (g p r : Nat) (w : World) (h1 : p + 4 = r) (h2 : r ≤ 32) :
    (Instr.sliceAt 41 (.pointer (some ⟨g, 0, none⟩)) (some (.int .i64 (p : Int))) (some (.int .i64 (r : Int))) (some (.int .i64 (r : Int)))).run Tryd.prog w = .ok (.slice (some ⟨g, p, none⟩) 4 4) w := by
  have ha : Tryd.prog.arrayLen 41 = 32 := by kernel_rfl
  have hs : (sizeOf (Tryd.prog.elem 41)).run Tryd.prog w = .ok 1 w := by kernel_rfl
  rw [run_sliceAt_array_lhm w 41 ⟨g, 0, none⟩ (by kernel_rfl) .i64 .i64 .i64 (p : Int) (r : Int) (r : Int) (by omega) (by omega) (by omega) (by rw [ha]; omega), hs]
  subst h1
  simp [Result.andThen, slicedAt, Addr.add_mid]
  omega

set_option maxRecDepth 100000 in
set_option maxHeartbeats 2000000 in
theorem bytesOf_any (S : List Nat) (w : World) (hl : S.length = 8) (hlt : ∀ x ∈ S, x < 4294967296) :
    Calls Tryd.prog 49 #[.agg (wC 8 S)] w fun e w' => e = .returned (.agg (bC 32 (bytesW S))) ∧ Grown w w' := by
  have HL8 := Lib.hid hl
  have HB8 := Lib.hid hlt
  clear hl hlt
  go_enter Tryd.func49, Tryd.ntmps49
  go_wp2_with (first
    | (refine wpList_load_row rfl 65 _ rfl w.heap.size rfl 65 (wC 8 S) (0, 0) _ (((Rowz.new w _ _).alloc _).alloc _) Tryd.underlying65 rfl (info8W _) ?_))
  go_loopw [7] (fun i wr => ∃ (k : Nat), k ≤ 8 ∧ i = .int .i64 (k : Int) ∧ Hid (Rowz wr (w.heap.size + 1 + 1) (bC 32 (bytesW (S.take k))) 41) ∧ Hid (Rowz wr (w.heap.size + 1) (bC 32 []) 41) ∧ Hid (Grown w wr)) (fun i _ => 8 - (intOf i).toNat)
  case atStart =>
    refine ⟨0, by omega, rfl, Lib.hid ?_, Lib.hid ((Rowz.newEq1 w _ _ _ _ (by kernel_rfl)).alloc _), Lib.hid ((((Grown.refl w).alloc _ _).alloc _ _).alloc _ _)⟩
    have h := Rowz.newEq1 (w.alloc (.cells (wC 8 S) 65)) (.cells (bC 32 []) 41) (.cells (bC 32 []) 41) (bC 32 []) 41 rfl
    have e : (w.alloc (.cells (wC 8 S) 65)).heap.size = w.heap.size + 1 := by simp
    rw [e] at h
    exact h
  case round =>
    obtain ⟨k, hk8, rfl, R5, R2, G0⟩ := hrel
    by_cases hk : k < 8
    · have hdk : decide ((k : Int) < 8) = true := by simp; omega
      have hxl := getD_lt S HB8.out k
      have hix := run_index_words S k wr hk
      have HTK : Hid (S.take (k + 1) = S.take k ++ [S.getD k 0]) := Lib.hid (by
        rw [List.take_succ_eq_append_getElem (by rw [HL8.out]; exact hk), List.getD_eq_getElem?_getD, List.getElem?_eq_getElem (by rw [HL8.out]; exact hk)]; rfl)
      have HBL : Hid ((bytesW (S.take k)).length = 4 * k) := Lib.hid (by rw [bytesW_length, List.length_take, HL8.out]; omega)
      obtain ⟨x, hx⟩ : ∃ x, x = S.getD k 0 := ⟨_, rfl⟩
      rw [← hx] at hxl HTK hix
      clear hx
      obtain ⟨p, hp⟩ : ∃ p, p = 4 * k := ⟨_, rfl⟩
      obtain ⟨r, hr⟩ : ∃ r, r = p + 4 := ⟨_, rfl⟩
      have hw1 : IntKind.i64.wrap (4 * (k : Int)) = (p : Int) := by rw [IntWalk.i64_in _ (by omega)]; omega
      have hw2 : IntKind.i64.wrap ((p : Int) + 4) = (r : Int) := by rw [IntWalk.i64_in _ (by omega)]; omega
      have hsl := fun w' => run_slice_hash (w.heap.size + 1 + 1) p r w' hr.symm (by omega)
      rw [← hp] at HBL
      have hp28 : p ≤ 28 := by omega
      clear hp hr
      go_wp2_with fail
      clear hix
      go_region_held3 (fun _ => True) (exact trivial)
        (first
          | (go_at_call 59; refine (put32_any x _ hxl).mono ?_; rintro e v ⟨rfl, hg⟩)
          | (refine step_copy_str rfl (.tmp 19) (.tmp 21) 64 9 rfl 5 Tryd.underlying64 sizeU8 (w.heap.size + 1 + 1) p 4 4 rfl (beS 4 x) rfl (bC 32 (bytesW (S.take k))) 41 (Rowz.grown (w := wr.drew) R5.out hg) 4 (by rw [beS_size]; rfl) (by rw [bC_size]; omega) ?_))
      have HR : Hid (Rowz (v.setRow (w.heap.size + 1 + 1) (spl (bC 32 (bytesW (S.take k))) p (Lib.byteCells (List.take 4 (beS 4 x).data.toList)))) (w.heap.size + 1 + 1) (bC 32 (bytesW (S.take (k + 1)))) 41) := Lib.hid (by
        have e1 : List.take 4 (beS 4 x).data.toList = be 4 x := by
          rw [show (beS 4 x).data.toList = be 4 x from rfl, List.take_of_length_le (by rw [be_length]; exact Nat.le_refl _)]
        rw [HTK.out, bytesW_snoc, ← bC_spl 32 (bytesW (S.take k)) (be 4 x) p HBL.out (by rw [be_length]; omega), e1]
        exact Rowz.row (Rowz.grown (w := wr.drew) R5.out hg))
      have HZ : Hid (Rowz (v.setRow (w.heap.size + 1 + 1) (spl (bC 32 (bytesW (S.take k))) p (Lib.byteCells (List.take 4 (beS 4 x).data.toList)))) (w.heap.size + 1) (bC 32 []) 41) := Lib.hid ((Rowz.grown (w := wr.drew) R2.out hg).rowOther (by omega))
      have HG : Hid (Grown w (v.setRow (w.heap.size + 1 + 1) (spl (bC 32 (bytesW (S.take k))) p (Lib.byteCells (List.take 4 (beS 4 x).data.toList))))) := Lib.hid (Grown.setRow (Grown.trans (b := wr.drew) G0.out hg) (Rowz.grown (w := wr.drew) R5.out hg) (by omega) _)
      generalize v.setRow (w.heap.size + 1 + 1) (spl (bC 32 (bytesW (S.take k))) p (Lib.byteCells (List.take 4 (beS 4 x).data.toList))) = v2 at HR HZ HG ⊢
      clear hsl hw1 hw2
      go_wp2_with fail
      go_roundw
      case rel => exact ⟨k + 1, by omega, by go_num, HR, HZ, HG⟩
      case measure => simp [intOf]; omega
    · have hdk : decide ((k : Int) < 8) = false := by simp; omega
      have R5' : Hid (Rowz wr (w.heap.size + 1 + 1) (bC 32 (bytesW S)) 41) := by
        have e : k = 8 := by omega
        rw [e, List.take_of_length_le (by rw [HL8.out]; exact Nat.le_refl _)] at R5
        exact R5
      go_wp2_with (first
        | (refine wpList_load_row rfl 41 _ rfl (w.heap.size + 1 + 1) rfl 41 (bC 32 (bytesW S)) (0, 0) _ R5'.out Tryd.underlying41 rfl (info32 _) ?_)
        | (refine wpList_store_row rfl 41 _ _ rfl (w.heap.size + 1) (bC 32 (bytesW S)) rfl rfl 41 (bC 32 []) R2.out (info32 _) (by simp [bC_size]) (bC_one _ _) ?_))
      refine bodyPost_ret (v := .agg (bC 32 (bytesW S))) (results_cell_row Tryd.results49 _ _ (w.heap.size + 1) 41 _ (0, 0) _ rfl R2.out.row Tryd.underlying41 rfl (info32 _)) rfl ⟨rfl, ?_⟩
      exact Grown.setRow G0.out R2.out (by omega) _
end Go.Proofs.YtecfgjoomckleaaDoor
