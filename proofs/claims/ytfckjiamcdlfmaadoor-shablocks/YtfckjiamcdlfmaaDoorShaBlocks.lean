/-
  sha.Spread and sha.Mix agree with the reference for every block and every eight words; the law's examples hold: 'ShaBlocks' returns true for every input.
  Conditions: none beyond the card's own (the variable 'rounds' is tied to the program's text).
-/
import Derived.Test.YtfckjiamcdlfmaaDoorRows
import Derived.Test.YtfckjiamcdlfmaaDoorShaWalkI
import Derived.Test.YtfckjiamcdlfmaaDoorEqLib
import Derived.WalkKit
import Derived.ProofKit
import Derived.OpenShut
import Derived.ShutString
import Derived.SizedLaws
import Derived.Test.YtfckjiamcdlfmaaDoorLawLib
import Derived.LaidMore
import Derived.SevenTiedAt
import Derived.Test.YtfckjiamcdlfmaaDoorCards
import Derived.Test.YtfckjiamcdlfmaaDoorTie
import Derived.Test.YtfckjiamcdlfmaaDoorShaLaid
namespace Go.Proofs.YtfckjiamcdlfmaaDoor.shaBlocks
open Go.ChangeShapes Go.WideShapes Go.ChangeAt Go.RowKit
open Go.ChangeMaps (open_string shut_string)
set_option linter.unusedVariables false

theorem own : ownKnob Tryd.prog.godebug = none := by kernel_rfl
theorem laidOut : laidOutB Tryd.prog = true := by kernel_rfl

set_option maxRecDepth 100000 in
set_option maxHeartbeats 4000000 in
theorem walk (a0 : List Nat) (n0 : a0.length = 8) (b0 : ∀ x ∈ a0, x < 4294967296) (a1 : ByteArray) (w1 : a1.size ≤ maxLen) (r1 : a1.size ≤ 140737488351232) (w : World)  (hT : Tab w) :
    Calls Tryd.prog 4 #[.agg (wC 8 a0), .string a1] w fun e w' => e = .returned (.bool true) ∧ Grown w w' := by
  go_enter Tryd.func4, Tryd.ntmps4
  go_wp2_with fail
  have F0 := Lib.hid (Rowz.new w (wC 8 a0) 29)
  have F3 := Lib.hid ((Grown.refl w).alloc (wC 8 a0) 29)
  have F4 := Lib.hid (hT.alloc (.cells (wC 8 a0) 29))
  clear hT
  generalize w.alloc (.cells (wC 8 a0) 29) = v at F0 F3 F4 ⊢
  have hS : Rowz v.drew w.heap.size (wC 8 a0) 29 := F0.out
  refine wp_region_held_drew (S := fun w' => Rowz w' w.heap.size (wC 8 a0) 29) (by kernel_rfl) hS (fun _ => ?_)
  refine wpAnyH_take1 0 5 (.string a1) rfl rfl (by kernel_rfl) (by kernel_rfl) (by kernel_rfl) (fun _ _ _ h => h) hS (Or.inl ⟨by rfl, fun _ _ => by rfl⟩) ?_
  simp only [List.setIfInBounds_toArray, List.set_cons_zero, List.set_cons_succ]
  refine wpAnyH_take1 2 7 (.string a1) rfl rfl (by kernel_rfl) (by kernel_rfl) (by kernel_rfl) (fun _ _ _ h => h) hS (Or.inl ⟨by rfl, fun _ _ => by rfl⟩) ?_
  simp only [List.setIfInBounds_toArray, List.set_cons_zero, List.set_cons_succ]
  refine wpAnyH_ready (rs := [1]) (by kernel_rfl) (by simp) (AllReadyH.cons rfl (fun K hK => ?_) AllReadyH.nil)
  rw [if_pos (by rfl)]
  go_simp
  refine (shaSpread_any a1 _ w1).mono ?_
  rintro e v1 ⟨rfl, hg⟩
  have A0 : Hid (Rowz v1 w.heap.size (wC 8 a0) 29) := Lib.hid (Rowz.grown (w := v.drew) F0.out hg)
  have A3 : Hid (Grown w v1) := Lib.hid (Grown.trans (b := v.drew) F3.out hg)
  have A4 : Hid (Tab v1) := Lib.hid (Tab.grown (w := v.drew) F4.out hg)
  clear hg
  have hS : Rowz v1 w.heap.size (wC 8 a0) 29 := A0.out
  refine hK.out _ _ hS (fun _ => ?_)
  clear hK K
  refine wpAnyH_ready (rs := [3]) (by kernel_rfl) (by simp) (AllReadyH.cons rfl (fun K hK => ?_) AllReadyH.nil)
  rw [if_pos (by rfl)]
  go_simp
  refine (refSpread_any a1 _ w1).mono ?_
  rintro e v2 ⟨rfl, hg⟩
  have B0 : Hid (Rowz v2 w.heap.size (wC 8 a0) 29) := Lib.hid (Rowz.grown (w := v1) A0.out hg)
  have B3 : Hid (Grown w v2) := Lib.hid (Grown.trans (b := v1) A3.out hg)
  have B4 : Hid (Tab v2) := Lib.hid (Tab.grown (w := v1) A4.out hg)
  clear hg
  have hS : Rowz v2 w.heap.size (wC 8 a0) 29 := B0.out
  refine hK.out _ _ hS (fun _ => ?_)
  clear hK K
  refine wpAnyH_take1 4 9 (.bool true) rfl rfl (by kernel_rfl) (by kernel_rfl) (by kernel_rfl) (fun _ _ _ h => h) hS (Or.inl ⟨by rfl, fun w' _ => by have hq := same_words64 (spread a1) w'; have hq2 := guard_words64; go_simp⟩) ?_
  simp only [List.setIfInBounds_toArray, List.set_cons_zero, List.set_cons_succ]
  refine wpAnyH_take1 5 10 (.bool true) rfl rfl (by kernel_rfl) (by kernel_rfl) (by kernel_rfl) (fun _ _ _ h => h) hS (Or.inl ⟨by rfl, fun _ _ => by rfl⟩) ?_
  simp only [List.setIfInBounds_toArray, List.set_cons_zero, List.set_cons_succ]
  refine wpAnyH_take1 6 11 (.agg (wC 8 a0)) rfl rfl (by kernel_rfl) (by kernel_rfl) (by kernel_rfl) (fun _ _ _ h => h) hS (yieldsIf_load_row rfl 29 _ rfl w.heap.size rfl (wC 8 a0) 29 _ (fun _ h => h) Tryd.underlying29 rfl (info8W _)) ?_
  simp only [List.setIfInBounds_toArray, List.set_cons_zero, List.set_cons_succ]
  refine wpAnyH_take1 7 12 (.string a1) rfl rfl (by kernel_rfl) (by kernel_rfl) (by kernel_rfl) (fun _ _ _ h => h) hS (Or.inl ⟨by rfl, fun _ _ => by rfl⟩) ?_
  simp only [List.setIfInBounds_toArray, List.set_cons_zero, List.set_cons_succ]
  refine wpAnyH_take1 9 14 (.agg (wC 8 a0)) rfl rfl (by kernel_rfl) (by kernel_rfl) (by kernel_rfl) (fun _ _ _ h => h) hS (yieldsIf_load_row rfl 29 _ rfl w.heap.size rfl (wC 8 a0) 29 _ (fun _ h => h) Tryd.underlying29 rfl (info8W _)) ?_
  simp only [List.setIfInBounds_toArray, List.set_cons_zero, List.set_cons_succ]
  refine wpAnyH_take1 10 15 (.string a1) rfl rfl (by kernel_rfl) (by kernel_rfl) (by kernel_rfl) (fun _ _ _ h => h) hS (Or.inl ⟨by rfl, fun _ _ => by rfl⟩) ?_
  simp only [List.setIfInBounds_toArray, List.set_cons_zero, List.set_cons_succ]
  refine wpAnyH_ready (rs := [8]) (by kernel_rfl) (by simp) (AllReadyH.cons rfl (fun K hK => ?_) AllReadyH.nil)
  rw [if_pos (by rfl)]
  go_simp
  refine (shaMix_any a0 a1 _ w1 n0 b0 B4.out).mono ?_
  rintro e v3 ⟨rfl, hg⟩
  have C0 : Hid (Rowz v3 w.heap.size (wC 8 a0) 29) := Lib.hid (Rowz.grown (w := v2) B0.out hg)
  have C3 : Hid (Grown w v3) := Lib.hid (Grown.trans (b := v2) B3.out hg)
  have C4 : Hid (Tab v3) := Lib.hid (Tab.grown (w := v2) B4.out hg)
  clear hg
  have hS : Rowz v3 w.heap.size (wC 8 a0) 29 := C0.out
  refine hK.out _ _ hS (fun _ => ?_)
  clear hK K
  refine wpAnyH_ready (rs := [11]) (by kernel_rfl) (by simp) (AllReadyH.cons rfl (fun K hK => ?_) AllReadyH.nil)
  rw [if_pos (by rfl)]
  go_simp
  refine (refMix_any a0 a1 _ w1 n0 b0).mono ?_
  rintro e v4 ⟨rfl, hg⟩
  have D0 : Hid (Rowz v4 w.heap.size (wC 8 a0) 29) := Lib.hid (Rowz.grown (w := v3) C0.out hg)
  have D3 : Hid (Grown w v4) := Lib.hid (Grown.trans (b := v3) C3.out hg)
  have D4 : Hid (Tab v4) := Lib.hid (Tab.grown (w := v3) C4.out hg)
  clear hg
  have hS : Rowz v4 w.heap.size (wC 8 a0) 29 := D0.out
  refine hK.out _ _ hS (fun _ => ?_)
  clear hK K
  refine wpAnyH_take1 12 17 (.bool true) rfl rfl (by kernel_rfl) (by kernel_rfl) (by kernel_rfl) (fun _ _ _ h => h) hS (Or.inl ⟨by rfl, fun w' _ => by have hq := same_words8 (mixW a0 a1) w'; have hq2 := guard_words8; go_simp⟩) ?_
  simp only [List.setIfInBounds_toArray, List.set_cons_zero, List.set_cons_succ]
  refine wpAnyH_take1 13 18 (.bool true) rfl rfl (by kernel_rfl) (by kernel_rfl) (by kernel_rfl) (fun _ _ _ h => h) hS (Or.inl ⟨by rfl, fun _ _ => by rfl⟩) ?_
  simp only [List.setIfInBounds_toArray, List.set_cons_zero, List.set_cons_succ]
  refine wpAnyH_take1 14 19 (.bool true) rfl rfl (by kernel_rfl) (by kernel_rfl) (by kernel_rfl) (fun _ _ _ h => h) hS (Or.inl ⟨by rfl, fun _ _ => by rfl⟩) ?_
  simp only [List.setIfInBounds_toArray, List.set_cons_zero, List.set_cons_succ]
  refine wpAnyH_ready (rs := [15]) (by kernel_rfl) (by simp) (AllReadyH.cons rfl (fun K hK => ?_) AllReadyH.nil)
  rw [if_pos (by rfl)]
  go_simp
  refine (awakeSha_any _ D4.out).mono ?_
  rintro e v5 ⟨rfl, hg⟩
  have E0 : Hid (Rowz v5 w.heap.size (wC 8 a0) 29) := Lib.hid (Rowz.grown (w := v4) D0.out hg)
  have E3 : Hid (Grown w v5) := Lib.hid (Grown.trans (b := v4) D3.out hg)
  have E4 : Hid (Tab v5) := Lib.hid (Tab.grown (w := v4) D4.out hg)
  clear hg
  have hS : Rowz v5 w.heap.size (wC 8 a0) 29 := E0.out
  refine hK.out _ _ hS (fun _ => ?_)
  clear hK K
  refine wpAnyH_take1 16 21 (.bool true) rfl rfl (by kernel_rfl) (by kernel_rfl) (by kernel_rfl) (fun _ _ _ h => h) hS (Or.inl ⟨by rfl, fun _ _ => by rfl⟩) ?_
  simp only [List.setIfInBounds_toArray, List.set_cons_zero, List.set_cons_succ]
  refine wpAnyH_take1 17 4 (.bool true) rfl rfl (by kernel_rfl) (by kernel_rfl) (by kernel_rfl) (fun _ _ _ h => h) hS (Or.inl ⟨by rfl, fun _ _ => by rfl⟩) ?_
  simp only [List.setIfInBounds_toArray, List.set_cons_zero, List.set_cons_succ]
  refine wpAnyH_done (by kernel_rfl) ?_ _
  go_wp2_with fail
  go_ret
  exact ⟨rfl, E3.out⟩

set_option maxRecDepth 100000 in
set_option maxHeartbeats 1000000 in
theorem lifted (os : Os) (started : os.Started) (H : Type) (enc : TypeId × Value → H) :
    ReturnsInHanded {} Tryd.checked os 4 .any (fun w args => (Rows.shaBlocksSpec.pre enc Tryd.prog Tryd.f4 [] false w args ∧ laidMetH Tryd.prog Rows.shaBlocksRow.laid w) ∧ sizedMet enc Tryd.prog Tryd.f4 (OpenSpec.ofChange Rows.shaBlocksSpec) false w args)
      (Rows.shaBlocksSpec.post enc Tryd.prog Tryd.f4 false true false false) := by
  refine returnsInHanded_of_change_and (C := Tryd.checked) (X := fun w _ => laidMetH Tryd.prog Rows.shaBlocksRow.laid w) (fun _ _ _ hh h => h.of_heap hh) own started (by kernel_rfl) Tryd.func4
    (ChangeSpec.witness_shaped (enc := enc) (C := Tryd.checked) (os := os) (X := fun w _ => laidMetH Tryd.prog Rows.shaBlocksRow.laid w) false (World.doorLaid Tryd.prog 400 os) #[.agg #[.int .u32 0, .int .u32 0, .int .u32 0, .int .u32 0, .int .u32 0, .int .u32 0, .int .u32 0, .int .u32 0], .string ByteArray.empty] 8 rfl (World.shaped_of_RefB (by kernel_rfl) (by kernel_rfl)) (by kernel_rfl) (by kernel_rfl) (by kernel_rfl) (door_met os _)) ?_
  intro W base args ds gs before hval0 hW _ hsz0 hL _
  have hval : ∀ (j : Nat) t v, Tryd.f4.params[j]? = some t → args[j]? = some v → Value.okWide Tryd.prog W .any base t v := hval0
  have hsz : (DataW.weightsEach Tryd.prog (Tryd.f4.params.toList ++ Rows.shaBlocksSpec.plain.varTypes Tryd.prog) (ds ++ gs)).all (· ≤ reachBytes) = true := hsz0
  have hW' := hW
  obtain ⟨p, q, hA0, hV, rfl, hfz, hnd⟩ := hW
  have hA : DataW.TrodAll enc Tryd.prog W 0 (fun _ => true) true Tryd.f4.params.toList args.toList ds p := hA0
  have hAk := hA
  rw [Tryd.params4] at hA hval hsz
  obtain ⟨v0, vs0, d0, ds0, p0_, q0_, hargs, rfl, rfl, h0, r0_⟩ := trodAll_cons hA
  obtain ⟨v1, vs1, d1, ds1, p1_, q1_, rfl, rfl, rfl, h1, r1_⟩ := trodAll_cons r0_
  obtain ⟨rfl, rfl, rfl⟩ := trodAll_nil r1_
  obtain rfl : args = #[v0, v1] := by cases args; simp_all
  obtain ⟨rfl, rfl⟩ := trodVars_none hV
  have hlt : ∀ x ∈ (p0_ ++ (p1_ ++ ([]))), x.block < W.heap.size := fun x hx => by simpa using hW'.lt x (by simpa using hx)
  obtain ⟨cs0, rfl⟩ : ∃ cs, v0 = .agg cs := by
    have := hval 0 29 v0 rfl rfl
    simp only [Value.okWide, Tryd.underlying29] at this
    obtain ⟨cs, h, _⟩ := this
    exact ⟨cs, h⟩
  obtain ⟨a0, n0, b0, rfl⟩ := open_words Tryd.underlying29 Tryd.underlying27 (by kernel_rfl) (by kernel_rfl) h0
  obtain ⟨a1, rfl, rfl, rfl, w1⟩ := open_string Tryd.underlying9 (hval 1 9 v1 rfl rfl) h1
  have r1 : a1.size ≤ 140737488351232 := by have := sized_string hsz (j := 1) (t := 9) rfl rfl; simpa [reachBytes] using this
  clear hA0 hval0
  refine (walk a0 n0 b0 a1 w1 r1 W  (tab_of_laid hL)).mono fun e W' ⟨he, hg⟩ => ?_
  subst he
  exact ⟨_, rfl, post_of_same (pv := []) hW' (fun _ _ _ => (trodAll_cons_mk (shut_bool Tryd.underlying4 _) trodAll_mk0)) (fun sp hsp => trodAll_stays laidOut hg (by kernel_rfl) hAk hlt (fun x hx => hsp x (by simpa using hx))) (fun _ _ => rfl) rfl
    (hg.frame _) hg.2.1 (ok_one (by kernel_rfl) rfl (okWide_bool_mk Tryd.underlying4 _))⟩

theorem over : Rows.shaBlocksRow.holds Tryd.pinned (OpenSpec.ofChange Rows.shaBlocksSpec) :=
  OpenClaim.holds_of_wide 4 Tryd.f4 rfl rfl rfl rfl rfl rfl rfl ⟨rfl, rfl, rfl, rfl, rfl⟩ rfl rfl rfl rfl rfl (by kernel_rfl) Tryd.func4 (by kernel_rfl)
    (of_decide_eq_true (by kernel_rfl)) (by unfold Func.isWrapper; first | (rw [if_pos (by decide +kernel)]; kernel_rfl) | (rw [if_neg (by decide +kernel)]; exact ⟨rfl, rfl⟩))
    (fun os started H enc _ => lifted os started H enc)
end Go.Proofs.YtfckjiamcdlfmaaDoor.shaBlocks
namespace Go.Proofs.YtfckjiamcdlfmaaDoor
theorem shaBlocks_holds : Rows.ShaBlocksSaid := shaBlocks.over
theorem shaBlocks_card : Rows.ShaBlocksCardSaid :=
  Claim7.holds_tied_plain_at .later [] [.data] true (true, "3fd9c09119dcb6742678292bf1f0da0b5e8780ac195f2e9e26683ee4bf1d4650") false
    shaBlocks_holds (fun _ h => by cases h) (by kernel_rfl) (fun _ h => by cases h) shaBlocks_row_tie rfl ⟨rfl, rfl⟩ (by kernel_rfl) rfl
    (fun f fn hf hfn => by
      obtain rfl : f = 4 := Option.some.inj ((show Tryd.prog.funcNamed "milepost/milepostlaw02.ShaBlocks" = some 4 by kernel_rfl).symm.trans hf) |>.symm
      obtain rfl : fn = Tryd.f4 := (Option.some.inj (Tryd.func4.symm.trans hfn)).symm
      refine ⟨by kernel_rfl, fun j t ht => ?_⟩
      have hm : t ∈ Tryd.f4.params.toList := by simpa using Array.mem_of_getElem? ht
      have hall : (Tryd.f4.params.toList.all fun u => !Tryd.prog.wantsStandIn u) = true := by kernel_rfl
      exact (show Tryd.prog.wantsStandIn t = false by simpa using List.all_eq_true.1 hall t hm))
    (by kernel_rfl)
#print axioms shaBlocks_card
end Go.Proofs.YtfckjiamcdlfmaaDoor
