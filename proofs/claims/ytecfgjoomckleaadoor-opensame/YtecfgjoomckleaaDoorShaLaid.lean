/-
  What the rows' condition on the variable 'rounds' gives the walks, and that the program's own start meets it. No condition.
-/
import Derived.Test.YtecfgjoomckleaaDoorRows
import Derived.Test.YtecfgjoomckleaaDoorShaWalkB
import Derived.LaidMore
import Derived.Lib.LaidTab
import Derived.Stop.Joined
import Derived.ProofKit
namespace Go.Proofs.YtecfgjoomckleaaDoor
set_option maxRecDepth 4000
open Go.ChangeShapes Go.WideShapes Go.ChangeAt Go.RowKit

theorem rounds_data : (Rows.laid_milepost_sha_rounds : DataW Unit) = Lib.tabData .u32 (rks.map fun n : Nat => (n : Int)) := by kernel_rfl

theorem tab_of_laid {W : World} (h : laidMetH Tryd.prog [("milepost/sha.rounds", Rows.laid_milepost_sha_rounds)] W) : Tab W := by
  rw [MakeChecks.laidMetH_plain _ _ _ (by kernel_rfl), rounds_data] at h
  have ht := Lib.tabIs_of_head (g := 0) (t := 76) (e := 56) (n := 64) (by kernel_rfl) (by kernel_rfl) Tryd.underlying76 Tryd.underlying56 (by kernel_rfl) (by kernel_rfl) h
  intro i hi
  have hl : rks.length = 64 := by decide
  rw [ht.cell (g := 0) (by kernel_rfl) i (by rw [List.length_map, hl]; exact hi)]
  rw [List.getD_eq_getElem?_getD, List.getD_eq_getElem?_getD, List.getElem?_map, List.getElem?_eq_getElem (by omega)]
  rfl

theorem door_met (os : Os) (args : Array Value) : laidMetH Tryd.prog [("milepost/sha.rounds", Rows.laid_milepost_sha_rounds)] ((World.doorLaid Tryd.prog 400 os).forCall (fun _ _ => 0) ⟨#[], args, []⟩).memory :=
  laidMetH_of_parts3 (fuel := 8) (laidMet_of_run' 8 (by kernel_rfl) (by kernel_rfl)) (by kernel_rfl) (by kernel_rfl)
end Go.Proofs.YtecfgjoomckleaaDoor
