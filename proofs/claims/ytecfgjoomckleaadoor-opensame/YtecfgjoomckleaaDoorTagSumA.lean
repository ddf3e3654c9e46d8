/-
  Contracts of package tag's hashes and of their reference. Conditions: the parts fit; sha's table of round constants stands.
-/
import Derived.Test.YtecfgjoomckleaaDoorTagRefA
import Derived.Test.YtecfgjoomckleaaDoorShaWalkH
import Derived.Test.YtecfgjoomckleaaDoorShaRefC
import Derived.Test.YtecfgjoomckleaaDoorTailLib
namespace Go.Proofs.YtecfgjoomckleaaDoor
set_option maxRecDepth 4000
open Go.RowKit

theorem Tab.kept {w w' : World} (h : Tab w) (k : Kept w w') : Tab w' := fun i hi => by rw [k.cellAt _ h.pos]; exact h i hi

set_option maxRecDepth 100000 in
set_option maxHeartbeats 1000000 in
theorem tagLeafSum_any (s : ByteArray) (hs : s.size ≤ 1000000) (w : World) (ht : Tab w) :
    Calls Tryd.prog 23 #[.string s] w fun e w' => e = .returned (.agg (bC 32 (shaL (leafS s)))) ∧ Kept w w' := by
  have hz : (leafS s).size ≤ 140737488351232 := by rw [leafS, tagS_size]; omega
  go_enter Tryd.func23, Tryd.ntmps23
  go_wp2_with fail
  change Calls _ _ _ (w.alloc (.cells (bC 32 []) 41)) _
  have A1 : Hid (Rowz (w.alloc (.cells (bC 32 []) 41)) w.heap.size (bC 32 []) 41) := Lib.hid (Rowz.new w _ _)
  have A3 : Hid (Kept w (w.alloc (.cells (bC 32 []) 41))) := Lib.hid ((Kept.refl w).alloc (.cells (bC 32 []) 41))
  have A4 := Lib.hid (ht.kept A3.out)
  generalize w.alloc (.cells (bC 32 []) 41) = v at A1 A3  A4 ⊢
  refine (tagLeaf_any s v (by omega)).mono ?_
  rintro e v1 ⟨rfl, hk1⟩
  have B1 := Lib.hid (A1.out.kept hk1)
  have B3 := Lib.hid (A3.out.trans hk1)
  have B4 := Lib.hid (A4.out.kept hk1)
  go_wp2_with fail
  refine (shaSum_any (leafS s) v1 B4.out hz).mono ?_
  rintro e v2 ⟨rfl, hk2⟩
  have E1 := Lib.hid (B1.out.grown hk2)
  have E3 := Lib.hid (B3.out.trans (Grown.kept hk2))
  go_wp2_with (refine wpList_store_row rfl 41 _ _ rfl w.heap.size (bC 32 (shaL (leafS s))) rfl rfl 41 (bC 32 []) E1.out (info_hash _) (by simp [bC_size]) (bC_one _ _) ?_)
  refine bodyPost_ret (v := .agg (bC 32 (shaL (leafS s)))) (results_cell_row Tryd.results23 _ _ w.heap.size 41 _ (0, 0) _ rfl E1.out.row Tryd.underlying41 rfl (info_hash _)) rfl ⟨rfl, ?_⟩
  exact E3.out.setRow (by omega) _
set_option maxRecDepth 100000 in
set_option maxHeartbeats 1000000 in
theorem refLeafSum_any (s : ByteArray) (hs : s.size ≤ 1000000) (w : World) :
    Calls Tryd.prog 26 #[.string s] w fun e w' => e = .returned (.agg (bC 32 (shaL (leafS s)))) ∧ Kept w w' := by
  have hz : (leafS s).size ≤ 140737488351232 := by rw [leafS, tagS_size]; omega
  go_enter Tryd.func26, Tryd.ntmps26
  go_wp2_with fail
  change Calls _ _ _ (w.alloc (.cells (bC 32 []) 41)) _
  have A1 : Hid (Rowz (w.alloc (.cells (bC 32 []) 41)) w.heap.size (bC 32 []) 41) := Lib.hid (Rowz.new w _ _)
  have A3 : Hid (Kept w (w.alloc (.cells (bC 32 []) 41))) := Lib.hid ((Kept.refl w).alloc (.cells (bC 32 []) 41))
  generalize w.alloc (.cells (bC 32 []) 41) = v at A1 A3  ⊢
  refine (refLeaf_any s v (by omega)).mono ?_
  rintro e v1 ⟨rfl, hk1⟩
  have B1 := Lib.hid (A1.out.kept (Grown.kept hk1))
  have B3 := Lib.hid (A3.out.trans (Grown.kept hk1))
  go_wp2_with fail
  refine (refSum_any (leafS s) v1 hz).mono ?_
  rintro e v2 ⟨rfl, hk2⟩
  have E1 := Lib.hid (B1.out.grown hk2)
  have E3 := Lib.hid (B3.out.trans (Grown.kept hk2))
  go_wp2_with (refine wpList_store_row rfl 41 _ _ rfl w.heap.size (bC 32 (shaL (leafS s))) rfl rfl 41 (bC 32 []) E1.out (info_hash _) (by simp [bC_size]) (bC_one _ _) ?_)
  refine bodyPost_ret (v := .agg (bC 32 (shaL (leafS s)))) (results_cell_row Tryd.results26 _ _ w.heap.size 41 _ (0, 0) _ rfl E1.out.row Tryd.underlying41 rfl (info_hash _)) rfl ⟨rfl, ?_⟩
  exact E3.out.setRow (by omega) _
set_option maxRecDepth 100000 in
set_option maxHeartbeats 1000000 in
theorem tagNodeSum_any (a b : List UInt8) (ha : a.length = 32) (hb : b.length = 32) (w : World) (ht : Tab w) :
    Calls Tryd.prog 28 #[.agg (bC 32 a), .agg (bC 32 b)] w fun e w' => e = .returned (.agg (bC 32 (shaL (nodeS a b)))) ∧ Kept w w' := by
  have hz : (nodeS a b).size ≤ 140737488351232 := by rw [nodeS, tagS_size, ByteArray.size_append, hS_size, hS_size, ha, hb]; omega
  go_enter Tryd.func28, Tryd.ntmps28
  go_wp2_with (first | (refine wpList_load_row rfl 41 _ rfl w.heap.size rfl 41 (bC 32 a) (0, 0) _ (by exact ((Rowz.new w _ _).alloc _).alloc _) Tryd.underlying41 rfl (info_hash _) ?_) | (refine wpList_load_row rfl 41 _ rfl (w.heap.size + 1) rfl 41 (bC 32 b) (0, 0) _ (by exact (Rowz.newEq1 w _ _ _ _ rfl).alloc _) Tryd.underlying41 rfl (info_hash _) ?_))
  change Calls _ _ _ (((w.alloc (.cells (bC 32 a) 41)).alloc (.cells (bC 32 b) 41)).alloc (.cells (bC 32 []) 41)) _
  have A1 : Hid (Rowz (((w.alloc (.cells (bC 32 a) 41)).alloc (.cells (bC 32 b) 41)).alloc (.cells (bC 32 []) 41)) (w.heap.size + 2) (bC 32 []) 41) := Lib.hid (by
    have h := Rowz.new ((w.alloc (.cells (bC 32 a) 41)).alloc (.cells (bC 32 b) 41)) (bC 32 []) 41
    simpa using h)
  have A3 : Hid (Kept w (((w.alloc (.cells (bC 32 a) 41)).alloc (.cells (bC 32 b) 41)).alloc (.cells (bC 32 []) 41))) := Lib.hid ((((Kept.refl w).alloc (.cells (bC 32 a) 41)).alloc (.cells (bC 32 b) 41)).alloc (.cells (bC 32 []) 41))
  have A4 := Lib.hid (ht.kept A3.out)
  generalize ((w.alloc (.cells (bC 32 a) 41)).alloc (.cells (bC 32 b) 41)).alloc (.cells (bC 32 []) 41) = v at A1 A3 A4 ⊢
  refine (tagNode_any a b ha hb v).mono ?_
  rintro e v1 ⟨rfl, hk1⟩
  have B1 := Lib.hid (A1.out.kept hk1)
  have B3 := Lib.hid (A3.out.trans hk1)
  have B4 := Lib.hid (A4.out.kept hk1)
  go_wp2_with fail
  refine (shaSum_any (nodeS a b) v1 B4.out hz).mono ?_
  rintro e v2 ⟨rfl, hk2⟩
  have E1 := Lib.hid (B1.out.grown hk2)
  have E3 := Lib.hid (B3.out.trans (Grown.kept hk2))
  go_wp2_with (refine wpList_store_row rfl 41 _ _ rfl (w.heap.size + 2) (bC 32 (shaL (nodeS a b))) rfl rfl 41 (bC 32 []) E1.out (info_hash _) (by simp [bC_size]) (bC_one _ _) ?_)
  refine bodyPost_ret (v := .agg (bC 32 (shaL (nodeS a b)))) (results_cell_row Tryd.results28 _ _ (w.heap.size + 2) 41 _ (0, 0) _ rfl E1.out.row Tryd.underlying41 rfl (info_hash _)) rfl ⟨rfl, ?_⟩
  exact E3.out.setRow (by omega) _
set_option maxRecDepth 100000 in
set_option maxHeartbeats 1000000 in
theorem refNodeSum_any (a b : List UInt8) (ha : a.length = 32) (hb : b.length = 32) (w : World) :
    Calls Tryd.prog 31 #[.agg (bC 32 a), .agg (bC 32 b)] w fun e w' => e = .returned (.agg (bC 32 (shaL (nodeS a b)))) ∧ Kept w w' := by
  have hz : (nodeS a b).size ≤ 140737488351232 := by rw [nodeS, tagS_size, ByteArray.size_append, hS_size, hS_size, ha, hb]; omega
  go_enter Tryd.func31, Tryd.ntmps31
  go_wp2_with (first | (refine wpList_load_row rfl 41 _ rfl w.heap.size rfl 41 (bC 32 a) (0, 0) _ (by exact ((Rowz.new w _ _).alloc _).alloc _) Tryd.underlying41 rfl (info_hash _) ?_) | (refine wpList_load_row rfl 41 _ rfl (w.heap.size + 1) rfl 41 (bC 32 b) (0, 0) _ (by exact (Rowz.newEq1 w _ _ _ _ rfl).alloc _) Tryd.underlying41 rfl (info_hash _) ?_))
  change Calls _ _ _ (((w.alloc (.cells (bC 32 a) 41)).alloc (.cells (bC 32 b) 41)).alloc (.cells (bC 32 []) 41)) _
  have A1 : Hid (Rowz (((w.alloc (.cells (bC 32 a) 41)).alloc (.cells (bC 32 b) 41)).alloc (.cells (bC 32 []) 41)) (w.heap.size + 2) (bC 32 []) 41) := Lib.hid (by
    have h := Rowz.new ((w.alloc (.cells (bC 32 a) 41)).alloc (.cells (bC 32 b) 41)) (bC 32 []) 41
    simpa using h)
  have A3 : Hid (Kept w (((w.alloc (.cells (bC 32 a) 41)).alloc (.cells (bC 32 b) 41)).alloc (.cells (bC 32 []) 41))) := Lib.hid ((((Kept.refl w).alloc (.cells (bC 32 a) 41)).alloc (.cells (bC 32 b) 41)).alloc (.cells (bC 32 []) 41))
  generalize ((w.alloc (.cells (bC 32 a) 41)).alloc (.cells (bC 32 b) 41)).alloc (.cells (bC 32 []) 41) = v at A1 A3 ⊢
  refine (refNode_any a b ha hb v).mono ?_
  rintro e v1 ⟨rfl, hk1⟩
  have B1 := Lib.hid (A1.out.kept hk1)
  have B3 := Lib.hid (A3.out.trans hk1)
  go_wp2_with fail
  refine (refSum_any (nodeS a b) v1 hz).mono ?_
  rintro e v2 ⟨rfl, hk2⟩
  have E1 := Lib.hid (B1.out.grown hk2)
  have E3 := Lib.hid (B3.out.trans (Grown.kept hk2))
  go_wp2_with (refine wpList_store_row rfl 41 _ _ rfl (w.heap.size + 2) (bC 32 (shaL (nodeS a b))) rfl rfl 41 (bC 32 []) E1.out (info_hash _) (by simp [bC_size]) (bC_one _ _) ?_)
  refine bodyPost_ret (v := .agg (bC 32 (shaL (nodeS a b)))) (results_cell_row Tryd.results31 _ _ (w.heap.size + 2) 41 _ (0, 0) _ rfl E1.out.row Tryd.underlying41 rfl (info_hash _)) rfl ⟨rfl, ?_⟩
  exact E3.out.setRow (by omega) _
end Go.Proofs.YtecfgjoomckleaaDoor
