/-
  The hashes of the leaves and the root of any list are the reference's, and the law's example holds: 'TreeRoots' returns true for every input.
  Conditions: those of the given card (sha's table of round constants as the program's text lays it).
-/
import Derived.Test.YtbjomgbekkgdlaaDoorRows
import Derived.Test.YtbjomgbekkgdlaaDoorTreeLaw
import Derived.Test.YtbjomgbekkgdlaaDoorLawLibE
import Derived.WalkKit
import Derived.ProofKit
import Derived.OpenShut
import Derived.ShutString
import Derived.SizedLaws
import Derived.Test.YtbjomgbekkgdlaaDoorLawLib
import Derived.LaidMore
import Derived.SevenTiedAt
import Derived.Test.YtbjomgbekkgdlaaDoorCards
import Derived.Test.YtbjomgbekkgdlaaDoorTie
import Derived.Test.YtbjomgbekkgdlaaDoorShaLaid
namespace Go.Proofs.YtbjomgbekkgdlaaDoor.treeRoots
open Go.ChangeShapes Go.WideShapes Go.ChangeAt Go.RowKit
open Go.ChangeMaps (open_string shut_string)
set_option linter.unusedVariables false

theorem own : ownKnob Tryd.prog.godebug = none := by kernel_rfl
theorem laidOut : laidOutB Tryd.prog = true := by kernel_rfl

set_option maxRecDepth 100000 in
set_option maxHeartbeats 4000000 in
theorem walk (p0 : Option Addr) (n0 c0 : Nat) (S0 : Nat → ByteArray) (z0 : n0 ≤ c0 ∧ c0 ≤ maxLen) (r0 : ∀ i, i < n0 → (S0 i).size ≤ 140737488351232) (w : World) (e0 : SAt w p0 n0 S0) (hT : Tab w) :
    Calls Tryd.prog 3 #[.slice p0 n0 c0] w fun e w' => e = .returned (.bool true) ∧ Kept w w' := by
  have HM := Lib.hid (much12_any p0 n0 c0 S0 w e0 r0 (by unfold maxLen at z0; omega))
  have HT := Lib.hid hT
  have HS := Lib.hid e0
  clear e0 r0 z0 hT
  go_enter Tryd.func3, Tryd.ntmps3
  go_wp2_with fail
  refine HM.out.mono ?_
  rintro e w1 ⟨B, rfl, rfl, hB⟩
  cases B with
  | true =>
    go_wp2_with fail
    refine (awake12_any w HT.out).mono ?_
    rintro e w1 ⟨rfl, k1⟩
    replace k1 := Lib.hid k1
    go_wp2_with fail
    go_ret
    exact ⟨rfl, k1.out⟩
  | false =>
    obtain ⟨hn, hz⟩ := hB rfl
    clear hB HM
    have hz' : ∀ i, i < n0 → (S0 i).size ≤ 1000000 := fun i hi => Nat.le_trans (hz i hi) (by omega)
    have H1 : Hid (∀ w, SAt w p0 n0 S0 → Tab w → Calls Tryd.prog 9 #[.slice p0 n0 c0] w fun e w' => ∃ v, e = .returned v ∧ HSl n0 (lf S0) v w' ∧ Kept w w') := Lib.hid fun w hS ht => (treeLeaves_any p0 n0 c0 S0 w hS hz' (by omega) ht).mono fun e w' ⟨g, he, hr, hk⟩ => ⟨_, he, HSl.ofRow hr (by omega), hk⟩
    have H2 : Hid (∀ w, SAt w p0 n0 S0 → _) := Lib.hid fun w hS => refLeaves_at p0 n0 c0 S0 w hS hz' (by omega)
    have H3 : Hid (∀ w, SAt w p0 n0 S0 → Tab w → _) := Lib.hid fun w hS ht => treeRoot_any p0 n0 c0 S0 w hS hz' (by omega) ht
    have H4 : Hid (∀ w, SAt w p0 n0 S0 → _) := Lib.hid fun w hS => refRoot11_any p0 n0 c0 S0 w hS hz' (by omega)
    have hl : (rootL S0 n0).length = 32 := shaL_length _
    generalize rootL S0 n0 = A at H3 H4 hl
    clear hz hz' hn
    go_wp2_with fail
    refine (H1.out w HS.out HT.out).mono ?_
    rintro e w1 ⟨v, rfl, hv, k1⟩
    have HV := Lib.hid hv
    have K1 := Lib.hid k1
    clear hv k1 H1
    go_wp2_with fail
    refine (H2.out w1 (HS.out.kept K1.out)).mono ?_
    rintro e w2 ⟨u, rfl, hu, k2⟩
    have HU := Lib.hid hu
    replace HV := Lib.hid (HSl.kept _ _ _ _ _ k2 HV.out)
    have K2 := Lib.hid (K1.out.trans k2)
    clear hu k2 K1 H2
    go_wp2_with fail
    refine (refHashes_any n0 n0 (lf S0) (lf S0) v u w2 HV.out HU.out).mono ?_
    rintro e w3 ⟨B, rfl, hB, k3⟩
    obtain rfl : B = true := hB.2 ⟨rfl, fun _ _ => rfl⟩
    have K3 := Lib.hid (K2.out.trans k3)
    clear hB k3 K2 HU HV
    go_wp2_with fail
    refine (H3.out w3 (HS.out.kept K3.out) (HT.out.kept K3.out)).mono ?_
    rintro e w4 ⟨rfl, k4⟩
    have K4 := Lib.hid (K3.out.trans k4)
    clear k4 K3 H3
    go_wp2_with fail
    refine (H4.out w4 (HS.out.kept K4.out)).mono ?_
    rintro e w5 ⟨rfl, k5⟩
    have K5 := Lib.hid (K4.out.trans k5)
    clear k5 K4 H4
    go_wp2_with (refine wpList_exec 16 rfl (by rfl) (.bool true) _ (execEqH1 A hl _ rfl rfl rfl) ?_)
    refine (awake12_any _ (HT.out.kept K5.out)).mono ?_
    rintro e w6 ⟨rfl, k6⟩
    have K6 := Lib.hid (K5.out.trans k6)
    clear k6 K5
    go_wp2_with fail
    go_ret
    exact ⟨rfl, K6.out⟩

set_option maxRecDepth 100000 in
set_option maxHeartbeats 1000000 in
theorem lifted (os : Os) (started : os.Started) (H : Type) (enc : TypeId × Value → H) :
    ReturnsInHanded {} Tryd.checked os 3 .any (fun w args => (Rows.treeRootsSpec.pre enc Tryd.prog Tryd.f3 [] false w args ∧ laidMetH Tryd.prog Rows.treeRootsRow.laid w) ∧ sizedMet enc Tryd.prog Tryd.f3 (OpenSpec.ofChange Rows.treeRootsSpec) false w args)
      (Rows.treeRootsSpec.post enc Tryd.prog Tryd.f3 false true false false) := by
  refine returnsInHanded_of_change_and (C := Tryd.checked) (X := fun w _ => laidMetH Tryd.prog Rows.treeRootsRow.laid w) (fun _ _ _ hh h => h.of_heap hh) own started (by kernel_rfl) Tryd.func3
    (ChangeSpec.witness_shaped (enc := enc) (C := Tryd.checked) (os := os) (X := fun w _ => laidMetH Tryd.prog Rows.treeRootsRow.laid w) false (World.doorLaid Tryd.prog 400 os) #[.slice none 0 0] 8 rfl (World.shaped_of_RefB (by kernel_rfl) (by kernel_rfl)) (by kernel_rfl) (by kernel_rfl) (by kernel_rfl) (door_met os _)) ?_
  intro W base args ds gs before hval0 hW _ hsz0 hL _
  have hval : ∀ (j : Nat) t v, Tryd.f3.params[j]? = some t → args[j]? = some v → Value.okWide Tryd.prog W .any base t v := hval0
  have hsz : (DataW.weightsEach Tryd.prog (Tryd.f3.params.toList ++ Rows.treeRootsSpec.plain.varTypes Tryd.prog) (ds ++ gs)).all (· ≤ reachBytes) = true := hsz0
  have hW' := hW
  obtain ⟨p, q, hA0, hV, rfl, hfz, hnd⟩ := hW
  have hA : DataW.TrodAll enc Tryd.prog W 0 (fun _ => true) true Tryd.f3.params.toList args.toList ds p := hA0
  have hAk := hA
  rw [Tryd.params3] at hA hval hsz
  obtain ⟨v0, vs0, d0, ds0, p0_, q0_, hargs, rfl, rfl, h0, r0_⟩ := trodAll_cons hA
  obtain ⟨rfl, rfl, rfl⟩ := trodAll_nil r0_
  obtain rfl : args = #[v0] := by cases args; simp_all
  obtain ⟨rfl, rfl⟩ := trodVars_none hV
  have hlt : ∀ x ∈ (p0_ ++ ([])), x.block < W.heap.size := fun x hx => by simpa using hW'.lt x (by simpa using hx)
  obtain ⟨p0, n0, c0, S0, z0, rfl, e0, rr0⟩ := open_sslice Tryd.underlying22 Tryd.underlying9 (by kernel_rfl) (hval 0 22 v0 rfl rfl) h0
  have r0 := (rr0 hsz (J := 0) rfl rfl).2
  clear hA0 hval0
  refine (walk p0 n0 c0 S0 z0 r0 W e0 (tab_of_laid hL)).mono fun e W' ⟨he, hg⟩ => ?_
  subst he
  exact ⟨_, rfl, ⟨_, _, _, [], _, [], hW', trodAll_cons_mk (shut_bool Tryd.underlying4 _) trodAll_mk0, trodAll_stays laidOut hg (by kernel_rfl) hAk hlt (fun x hx => by simpa using hlt x hx), rfl, Kept.frame hg _, fun h => by cases h⟩⟩

theorem over : Rows.treeRootsRow.holds Tryd.pinned (OpenSpec.ofChange Rows.treeRootsSpec) :=
  OpenClaim.holds_of_wide 3 Tryd.f3 rfl rfl rfl rfl rfl rfl rfl ⟨rfl, rfl, rfl, rfl, rfl⟩ rfl rfl rfl rfl rfl (by kernel_rfl) Tryd.func3 (by kernel_rfl)
    (of_decide_eq_true (by kernel_rfl)) (by unfold Func.isWrapper; first | (rw [if_pos (by decide +kernel)]; kernel_rfl) | (rw [if_neg (by decide +kernel)]; exact ⟨rfl, rfl⟩))
    (fun os started H enc _ => lifted os started H enc)
end Go.Proofs.YtbjomgbekkgdlaaDoor.treeRoots
namespace Go.Proofs.YtbjomgbekkgdlaaDoor
theorem treeRoots_holds : Rows.TreeRootsSaid := treeRoots.over
theorem treeRoots_card : Rows.TreeRootsCardSaid :=
  Claim7.holds_tied_plain_at .later [] [.data] true (true, "16680ee99572903cff2778b9fdd74bc0ae8ae01935b64b2c2c76b27edb33b269") false
    treeRoots_holds (fun _ h => by cases h) (by kernel_rfl) (fun _ h => by cases h) treeRoots_row_tie rfl ⟨rfl, rfl⟩ (by kernel_rfl) rfl
    (fun f fn hf hfn => by
      obtain rfl : f = 3 := Option.some.inj ((show Tryd.prog.funcNamed "milepost/milepostlaw12.TreeRoots" = some 3 by kernel_rfl).symm.trans hf) |>.symm
      obtain rfl : fn = Tryd.f3 := (Option.some.inj (Tryd.func3.symm.trans hfn)).symm
      refine ⟨by kernel_rfl, fun j t ht => ?_⟩
      have hm : t ∈ Tryd.f3.params.toList := by simpa using Array.mem_of_getElem? ht
      have hall : (Tryd.f3.params.toList.all fun u => !Tryd.prog.wantsStandIn u) = true := by kernel_rfl
      exact (show Tryd.prog.wantsStandIn t = false by simpa using List.all_eq_true.1 hall t hm))
    (by kernel_rfl)
#print axioms treeRoots_card
end Go.Proofs.YtbjomgbekkgdlaaDoor
