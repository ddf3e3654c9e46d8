/-
  Contract of the examples of layer 2's laws ('awake'). Conditions: the variable 'rounds' holds the 64 constants.
-/
import Derived.Test.YtfckjiamcdlfmaaDoorShaWalkH
namespace Go.Proofs.YtfckjiamcdlfmaaDoor
open Go.RowKit

theorem abc_sum : shaL ⟨#[97, 98, 99]⟩ = [186, 120, 22, 191, 143, 1, 207, 234, 65, 65, 64, 222, 93, 174, 34, 35, 176, 3, 97, 163, 150, 23, 122, 156, 180, 16, 255, 97, 242, 0, 21, 173] := by decide +kernel
theorem pad0_size : (padS 0).size = 64 := by decide +kernel

set_option maxRecDepth 100000 in
set_option maxHeartbeats 1000000 in
theorem awakeSha_any (w : World) (ht : Tab w) : Calls Tryd.prog 11 #[] w fun e w' => e = .returned (.bool true) ∧ Grown w w' := by
  go_enter Tryd.func11, Tryd.ntmps11
  go_wp2_with fail
  refine (shaSum_any ⟨#[97, 98, 99]⟩ w ht (by decide)).mono ?_
  rintro e v1 ⟨rfl, hg1⟩
  have h0 : (bC 32 (shaL ⟨#[97, 98, 99]⟩))[0]? = some (.int .u8 186) := by rw [abc_sum]; rfl
  have h1 : (bC 32 (shaL ⟨#[97, 98, 99]⟩))[1]? = some (.int .u8 120) := by rw [abc_sum]; rfl
  have h2 : (bC 32 (shaL ⟨#[97, 98, 99]⟩))[2]? = some (.int .u8 22) := by rw [abc_sum]; rfl
  have h3 : (bC 32 (shaL ⟨#[97, 98, 99]⟩))[3]? = some (.int .u8 191) := by rw [abc_sum]; rfl
  have h31 : (bC 32 (shaL ⟨#[97, 98, 99]⟩))[31]? = some (.int .u8 173) := by rw [abc_sum]; rfl
  generalize shaL ⟨#[97, 98, 99]⟩ = L at h0 h1 h2 h3 h31 ⊢
  have hp0 := pad0_size
  go_wp2_with (first
    | (refine wpList_store_row rfl 23 _ _ rfl v1.heap.size (bC 32 L) rfl rfl 23 _ (Rowz.new v1 _ _) (info32 _) (by rw [bC_size]; rfl) (bC_one _ _) ?_; rw [World.setRow_alloc_new])
    | (go_at_call 18; refine (shaPad_any 0 _ (by decide)).mono ?_; rintro e v2 ⟨rfl, hg2⟩))
  go_ret
  exact ⟨rfl, Grown.trans (Grown.trans hg1 ((Grown.refl _).alloc _ _)) hg2⟩
end Go.Proofs.YtfckjiamcdlfmaaDoor
