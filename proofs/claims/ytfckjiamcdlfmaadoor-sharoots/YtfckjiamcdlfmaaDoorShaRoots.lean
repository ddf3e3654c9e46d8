/-
  sha.First returns the bits behind the point of the square roots of the first eight primes, as the reference finds them bit by bit; the law's examples hold: 'ShaRoots' returns true for every input.
  Conditions: none beyond the card's own (the variable 'rounds' is tied to the program's text).
-/
import Derived.Test.YtfckjiamcdlfmaaDoorRows
import Derived.Test.YtfckjiamcdlfmaaDoorShaLawA
import Derived.WalkKit
import Derived.ProofKit
import Derived.OpenShut
import Derived.ShutString
import Derived.SizedLaws
import Derived.LaidMore
import Derived.SevenTiedAt
import Derived.Test.YtfckjiamcdlfmaaDoorCards
import Derived.Test.YtfckjiamcdlfmaaDoorTie
import Derived.Test.YtfckjiamcdlfmaaDoorShaLaid
namespace Go.Proofs.YtfckjiamcdlfmaaDoor.shaRoots
open Go.ChangeShapes Go.WideShapes Go.ChangeAt Go.RowKit
open Go.ChangeMaps (open_string shut_string)
set_option linter.unusedVariables false

theorem own : ownKnob Tryd.prog.godebug = none := by kernel_rfl

theorem walk (a0 : Int) (w0 : (Lit.int .i64 a0).wf = true) (w : World) (hT : Tab w) :
    Calls Tryd.prog 5 #[.int .i64 a0] w fun e w' => e = .returned (.bool true) ∧ Grown w w' := by
  obtain ⟨k, hk, hand⟩ := and7 a0
  have HPC := Lib.hid (p8_cell k hk)
  have HPL := p8_lt k hk
  have HPR := Lib.hid (p8_roots k hk)
  obtain ⟨p, hp⟩ : ∃ p, p = p8.getD k 0 := ⟨_, rfl⟩
  obtain ⟨f, hf⟩ : ∃ f, f = first8.getD k 0 := ⟨_, rfl⟩
  rw [← hp] at HPC HPL HPR
  rw [← hf] at HPR
  have HF := Lib.hid hf
  clear hp hf
  have hkI : (k : Int) < 8 := by omega
  go_enter Tryd.func5, Tryd.ntmps5
  go_wp2_with fail
  refine (shaFirst_any _).mono ?_
  rintro e v1 ⟨rfl, hg1⟩
  have A0 : v1.cell? ⟨w.heap.size, k, none⟩ = some (.int .u64 (p : Int)) := by
    rw [(Rowz.grown (Rowz.new w _ _) hg1).cell, HPC.out]
  have A3 : Hid (Grown w v1) := Lib.hid (Grown.trans ((Grown.refl w).alloc _ _) hg1)
  have hlt : w.heap.size < v1.heap.size := (Rowz.grown (Rowz.new w _ _) hg1).lt
  have B1 : Rowz (v1.alloc (.cells (wC 8 first8) 29)) v1.heap.size (wC 8 first8) 29 := Rowz.new v1 _ _
  have B0 : (v1.alloc (.cells (wC 8 first8) 29)).cell? ⟨w.heap.size, k, none⟩ = some (.int .u64 (p : Int)) := by
    rw [← A0]; simp only [World.cell?]; rw [Below.heap_alloc v1 _ w.heap.size hlt]
  have C1 : (v1.alloc (.cells (wC 8 first8) 29)).cell? ⟨v1.heap.size, k, none⟩ = some (.int .u32 (f : Int)) := by
    rw [B1.word k hk, HF.out]
  have C3 : Hid (Grown w (v1.alloc (.cells (wC 8 first8) 29))) := Lib.hid (A3.out.alloc _ _)
  have CT : Hid (Tab (v1.alloc (.cells (wC 8 first8) 29))) := Lib.hid (hT.grown C3.out)
  clear A0 B1 hg1
  go_wp2_with (refine wpList_store_row rfl 29 _ _ rfl v1.heap.size (wC 8 first8) rfl rfl 29 _ (Rowz.new v1 _ _) (info8W _) (by rw [wC_size]; rfl) (wC_one _ _) ?_; rw [World.setRow_alloc_new])
  generalize v1.alloc (.cells (wC 8 first8) 29) = v2 at B0 C1 C3 CT ⊢
  refine wp_region_still_tail 10 (by kernel_rfl) (by kernel_rfl) ?_
  simp only [List.take_succ_cons, List.take_zero, List.drop_succ_cons, List.drop_zero]
  change wpStill _ _ v2.drew (fun a' => wpList _ _ _ _ a' v2.drew) _ _
  replace B0 : v2.drew.cell? ⟨w.heap.size, k, none⟩ = some (.int .u64 (p : Int)) := B0
  replace C1 : v2.drew.cell? ⟨v1.heap.size, k, none⟩ = some (.int .u32 (f : Int)) := C1
  replace C3 : Hid (Grown w v2.drew) := C3
  replace CT : Hid (Tab v2.drew) := CT
  generalize v2.drew = v3 at B0 C1 C3 CT ⊢
  repeat (first
    | still_step
    | (refine wpStill_step (fun K hK => ?_); go_simp; refine ⟨_, rootOf p f _ HPL HPR.out, hK _ ?_⟩; clear hK K))
  refine wpStill_nil ?_
  go_wp2_with (go_at_call 11; refine (awakeSha_any _ CT.out).mono ?_; rintro e v4 ⟨rfl, hg4⟩)
  go_ret
  exact ⟨rfl, Grown.trans C3.out hg4⟩

set_option maxRecDepth 100000 in
theorem lifted (os : Os) (started : os.Started) (H : Type) (enc : TypeId × Value → H) :
    ReturnsInHanded {} Tryd.checked os 5 .any (fun w args => (Rows.shaRootsSpec.pre enc Tryd.prog Tryd.f5 [] false w args ∧ laidMetH Tryd.prog Rows.shaRootsRow.laid w) ∧ sizedMet enc Tryd.prog Tryd.f5 (OpenSpec.ofChange Rows.shaRootsSpec) false w args)
      (Rows.shaRootsSpec.post enc Tryd.prog Tryd.f5 false true false false) := by
  refine returnsInHanded_of_change_and (C := Tryd.checked) (X := fun w _ => laidMetH Tryd.prog Rows.shaRootsRow.laid w) (fun _ _ _ hh h => h.of_heap hh) own started (by kernel_rfl) Tryd.func5
    (ChangeSpec.witness_shaped (enc := enc) (C := Tryd.checked) (os := os) (X := fun w _ => laidMetH Tryd.prog Rows.shaRootsRow.laid w) false (World.doorLaid Tryd.prog 400 os) #[.int .i64 0] 8 rfl (World.shaped_of_RefB (by kernel_rfl) (by kernel_rfl)) (by kernel_rfl) (by kernel_rfl) (by kernel_rfl) (door_met os _)) ?_
  intro W base args ds gs before hval0 hW _ hsz0 hL _
  have hsz : (DataW.weightsEach Tryd.prog (Tryd.f5.params.toList ++ Rows.shaRootsSpec.plain.varTypes Tryd.prog) (ds ++ gs)).all (· ≤ reachBytes) = true := hsz0
  have hval : ∀ (j : Nat) t v, Tryd.f5.params[j]? = some t → args[j]? = some v → Value.okWide Tryd.prog W .any base t v := hval0
  have hW' := hW
  obtain ⟨p, q, hA0, hV, rfl, hfz, hnd⟩ := hW
  have hA : DataW.TrodAll enc Tryd.prog W 0 (fun _ => true) true Tryd.f5.params.toList args.toList ds p := hA0
  rw [Tryd.params5] at hA hval hsz
  obtain ⟨v0, vs0, d0, ds0, p0, q0, hargs, rfl, rfl, h0, r0⟩ := trodAll_cons hA
  obtain ⟨rfl, rfl, rfl⟩ := trodAll_nil r0
  obtain rfl : args = #[v0] := by cases args; simp_all
  obtain ⟨rfl, rfl⟩ := trodVars_none hV
  obtain ⟨a0, rfl, rfl, rfl, w0⟩ := open_int Tryd.underlying3 (hval 0 3 v0 rfl rfl) h0
  clear hA0 hval0
  simp only [List.append_nil] at hW'
  refine (walk a0 w0 W (tab_of_laid hL)).mono fun e W' ⟨he, hg⟩ => ?_
  subst he
  exact ⟨_, rfl, post_of_same (pa := []) (pv := []) hW' (fun _ _ _ => (trodAll_cons_mk (shut_bool Tryd.underlying4 _) trodAll_mk0)) (fun sp _ => (trodAll_cons_mk (shut_int Tryd.underlying3 w0) trodAll_mk0)) (fun _ _ => rfl) rfl
    (hg.frame _) hg.2.1 (ok_one (by kernel_rfl) rfl (okWide_bool_mk Tryd.underlying4 _))⟩

theorem over : Rows.shaRootsRow.holds Tryd.pinned (OpenSpec.ofChange Rows.shaRootsSpec) :=
  OpenClaim.holds_of_wide 5 Tryd.f5 rfl rfl rfl rfl rfl rfl rfl ⟨rfl, rfl, rfl, rfl, rfl⟩ rfl rfl rfl rfl rfl (by kernel_rfl) Tryd.func5 (by kernel_rfl)
    (of_decide_eq_true (by kernel_rfl)) (by unfold Func.isWrapper; first | (rw [if_pos (by decide +kernel)]; kernel_rfl) | (rw [if_neg (by decide +kernel)]; exact ⟨rfl, rfl⟩))
    (fun os started H enc _ => lifted os started H enc)

theorem proved : Rows.ShaRootsSaid :=
  over
end Go.Proofs.YtfckjiamcdlfmaaDoor.shaRoots
namespace Go.Proofs.YtfckjiamcdlfmaaDoor
theorem shaRoots_holds : Rows.ShaRootsSaid := shaRoots.proved
theorem shaRoots_card : Rows.ShaRootsCardSaid :=
  Claim7.holds_tied_plain_at .later [] [.data] true (true, "3fd9c09119dcb6742678292bf1f0da0b5e8780ac195f2e9e26683ee4bf1d4650") false
    shaRoots_holds (fun _ h => by cases h) (by kernel_rfl) (fun _ h => by cases h) shaRoots_row_tie rfl ⟨rfl, rfl⟩ (by kernel_rfl) rfl
    (fun f fn hf hfn => by
      obtain rfl : f = 5 := Option.some.inj ((show Tryd.prog.funcNamed "milepost/milepostlaw02.ShaRoots" = some 5 by kernel_rfl).symm.trans hf) |>.symm
      obtain rfl : fn = Tryd.f5 := (Option.some.inj (Tryd.func5.symm.trans hfn)).symm
      refine ⟨by kernel_rfl, fun j t ht => ?_⟩
      have hm : t ∈ Tryd.f5.params.toList := by simpa using Array.mem_of_getElem? ht
      have hall : (Tryd.f5.params.toList.all fun u => !Tryd.prog.wantsStandIn u) = true := by kernel_rfl
      exact (show Tryd.prog.wantsStandIn t = false by simpa using List.all_eq_true.1 hall t hm))
    (by kernel_rfl)
#print axioms shaRoots_card
end Go.Proofs.YtfckjiamcdlfmaaDoor
