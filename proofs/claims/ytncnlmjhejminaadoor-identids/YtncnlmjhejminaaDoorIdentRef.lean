/-
  Contract of the reference's Id of headers (milepostref17). Condition: a header's parts fit.
-/
import Derived.Test.YtncnlmjhejminaaDoorIdentForm
import Derived.Test.YtncnlmjhejminaaDoorHeadRef
namespace Go.Proofs.YtncnlmjhejminaaDoor
set_option maxRecDepth 4000
open Go.RowKit

set_option maxRecDepth 100000 in
set_option maxHeartbeats 1000000 in
theorem refId17_any (x : Hd) (w : World) (hx : x.ok) : Calls Tryd.prog 8 #[.agg (hdC x)] w fun e w' => e = .returned (.agg (bC 32 (idH x))) ∧ Kept w w' := by
  have hz := hdS_size x hx
  have hz2 := headS_size x hx
  have H1 : Hid (∀ w, _) := Lib.hid fun w => refBytes17_any x hx w
  have H2 : Hid (∀ w, _) := Lib.hid fun w => refHead_any (hdS x) w (by omega)
  have H3 : Hid (∀ w, Calls Tryd.prog 14 #[.string (headS (hdS x))] w fun e w' => e = .returned (.agg (bC 32 (idH x))) ∧ Grown w w') := Lib.hid fun w => refSum_any (headS (hdS x)) w (by omega)
  generalize idH x = I at H3 ⊢
  generalize headS (hdS x) = T at H2 H3 hz2
  generalize hdS x = B at H1 H2 hz
  have R1 := Lib.hid ((Rowz.new w (hdC x) 32).alloc (.cells (bC 32 []) 27))
  have R2 := Lib.hid (Rowz.newEq1 w (.cells (hdC x) 32) _ (bC 32 []) 27 rfl)
  have K1 := Lib.hid (((Kept.refl w).alloc (.cells (hdC x) 32)).alloc (.cells (bC 32 []) 27))
  go_enter Tryd.func8, Tryd.ntmps8
  go_wp2_with (refine wpList_exec 3 rfl (by rfl) _ _ (loadHd rfl rfl R1.out) ?_)
  change Calls _ _ _ ((w.alloc (.cells (hdC x) 32)).alloc (.cells (bC 32 []) 27)) _
  generalize (w.alloc (.cells (hdC x) 32)).alloc (.cells (bC 32 []) 27) = v1 at R1 R2 K1 ⊢
  refine (H1.out v1).mono ?_
  rintro e v2 ⟨rfl, k2⟩
  replace R2 := Lib.hid (R2.out.kept k2)
  replace K1 := Lib.hid (K1.out.trans k2)
  clear k2 R1 H1
  go_wp2_with fail
  refine (H2.out v2).mono ?_
  rintro e v3 ⟨rfl, k3⟩
  replace R2 := Lib.hid (R2.out.kept (Grown.kept k3))
  replace K1 := Lib.hid (K1.out.trans (Grown.kept k3))
  clear k3 H2
  go_wp2_with fail
  refine (H3.out v3).mono ?_
  rintro e v4 ⟨rfl, k4⟩
  replace R2 := Lib.hid (R2.out.kept (Grown.kept k4))
  replace K1 := Lib.hid (K1.out.trans (Grown.kept k4))
  clear k4 H3
  go_wp2_with (refine wpList_store_row rfl 27 _ _ rfl (w.heap.size + 1) (bC 32 I) rfl rfl 27 (bC 32 []) R2.out (info_hash _) (by simp [bC_size]) (bC_one _ _) ?_)
  refine bodyPost_ret (v := .agg (bC 32 I)) (results_cell_row Tryd.results8 _ _ (w.heap.size + 1) 27 _ (0, 0) _ rfl R2.out.row Tryd.underlying27 rfl (info_hash _)) rfl ⟨rfl, ?_⟩
  exact K1.out.setRow (by omega) _
end Go.Proofs.YtncnlmjhejminaaDoor
