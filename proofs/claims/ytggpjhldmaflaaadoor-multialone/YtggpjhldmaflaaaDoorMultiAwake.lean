/-
  awake of milepostlaw16 (the chapter's examples of Need). No condition.
-/
import Derived.Test.YtggpjhldmaflaaaDoorMultiWalkN
namespace Go.Proofs.YtggpjhldmaflaaaDoor
set_option maxRecDepth 4000
open Go.RowKit

def upI (i : Nat) : Int := (i : Int)
theorem need42 : needI 4 2 upI = 1 := by
  have hr : risP ((4 : Nat) : Int) 2 upI := ⟨by omega, fun i hi => by unfold upI; omega⟩
  have h1 : hasQ (qP 2 upI) 0 4 = true := by decide
  have h2 : hasQ (qP 2 upI) 0 2 = true := by decide
  have h3 : hasQ (qP 2 upI) 2 2 = false := by decide
  have h4 : hasQ (qP 2 upI) 0 1 = true := by decide
  have h5 : hasQ (qP 2 upI) 1 1 = true := by decide
  have e := needI_yes hr
  rw [needN_two h1 (by omega), leftN4, needN_two h2 (by omega), leftN2, needN_one h4 (by omega), needN_one h5 (by omega), needN_none h3] at e
  exact e
theorem need44 : needI 4 4 upI = 0 := by
  have hr : risP ((4 : Nat) : Int) 4 upI := ⟨by omega, fun i hi => by unfold upI; omega⟩
  have h1 : hasQ (qP 4 upI) 0 4 = true := by decide
  have h2 : hasQ (qP 4 upI) 0 2 = true := by decide
  have h3 : hasQ (qP 4 upI) 2 2 = true := by decide
  have h4 : hasQ (qP 4 upI) 0 1 = true := by decide
  have h5 : hasQ (qP 4 upI) 1 1 = true := by decide
  have h6 : hasQ (qP 4 upI) 2 1 = true := by decide
  have h7 : hasQ (qP 4 upI) 3 1 = true := by decide
  have e := needI_yes hr
  rw [needN_two h1 (by omega), leftN4, needN_two h2 (by omega), needN_two h3 (by omega), leftN2, needN_one h4 (by omega), needN_one h5 (by omega), needN_one h6 (by omega), needN_one h7 (by omega)] at e
  exact e
theorem need40 : needI 4 0 upI = -1 := needI_no fun h => Nat.lt_irrefl 0 h.1
theorem run_buildI2 (w : World) : (Instr.buildSlice 23 2 #[(0, .int .i64 0), (1, .int .i64 1)]).run Tryd.prog w = .ok (.slice (some ⟨w.heap.size, 0, none⟩) 2 2) (w.alloc (.cells #[.int .i64 0, .int .i64 1] 3)) := by kernel_rfl
theorem run_buildI4 (w : World) : (Instr.buildSlice 23 4 #[(0, .int .i64 0), (1, .int .i64 1), (2, .int .i64 2), (3, .int .i64 3)]).run Tryd.prog w = .ok (.slice (some ⟨w.heap.size, 0, none⟩) 4 4) (w.alloc (.cells #[.int .i64 0, .int .i64 1, .int .i64 2, .int .i64 3] 3)) := by kernel_rfl
set_option maxRecDepth 100000 in
set_option maxHeartbeats 1000000 in
theorem awake16_any (w : World) : Calls Tryd.prog 8 #[] w fun e w' => e = .returned (.bool true) ∧ Kept w w' := by
  have H1 : Hid (∀ (w : World) (g : Nat), Rowz w g #[.int .i64 0, .int .i64 1] 3 → Calls Tryd.prog 26 #[.int .i64 4, .slice (some ⟨g, 0, none⟩) 2 2] w fun e w' => e = .returned (.int .i64 1) ∧ Kept w w') := Lib.hid fun w g h => by
    have := multiNeed_any 4 (some ⟨g, 0, none⟩) 2 2 upI w (by omega) (IAt.ofRow h fun k hk => by
      rcases (show k = 0 ∨ k = 1 by omega) with rfl | rfl <;> rfl) (by omega) (by unfold maxLen; omega) (by omega)
    rwa [need42] at this
  have H2 : Hid (∀ (w : World) (g : Nat), Rowz w g #[.int .i64 0, .int .i64 1, .int .i64 2, .int .i64 3] 3 → Calls Tryd.prog 26 #[.int .i64 4, .slice (some ⟨g, 0, none⟩) 4 4] w fun e w' => e = .returned (.int .i64 0) ∧ Kept w w') := Lib.hid fun w g h => by
    have := multiNeed_any 4 (some ⟨g, 0, none⟩) 4 4 upI w (by omega) (IAt.ofRow h fun k hk => by
      rcases (show k = 0 ∨ k = 1 ∨ k = 2 ∨ k = 3 by omega) with rfl | rfl | rfl | rfl <;> rfl) (by omega) (by unfold maxLen; omega) (by omega)
    rwa [need44] at this
  have H3 : Hid (∀ w : World, Calls Tryd.prog 26 #[.int .i64 4, .slice none 0 0] w fun e w' => e = .returned (.int .i64 (-1)) ∧ Kept w w') := Lib.hid fun w => by
    have := multiNeed_any 4 none 0 0 upI w (by omega) (IAt.zero _ _ _) (by omega) (by omega) (by omega)
    rwa [need40] at this
  go_enter Tryd.func8, Tryd.ntmps8
  go_wp2_with fail
  refine (H1.out _ _ (Rowz.new _ _ _)).mono ?_
  rintro e w1 ⟨rfl, k1⟩
  have K1 := Lib.hid (((Kept.refl w).alloc _).trans k1)
  clear k1 H1
  go_wp2_with fail
  refine (H2.out _ _ (Rowz.new _ _ _)).mono ?_
  rintro e w2 ⟨rfl, k2⟩
  have K2 := Lib.hid ((K1.out.alloc _).trans k2)
  clear k2 H2 K1
  go_wp2_with fail
  refine (H3.out _).mono ?_
  rintro e w3 ⟨rfl, k3⟩
  have K3 := Lib.hid (K2.out.trans k3)
  clear k3 H3 K2
  go_wp2_with fail
  go_ret
  exact ⟨rfl, K3.out⟩
end Go.Proofs.YtggpjhldmaflaaaDoor
