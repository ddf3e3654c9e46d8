/-
  Is tells of two texts that they are a hash collision if and only if they are different and the reference's hashes of them are the same; the law's example holds: 'ClashIs' returns true for every input.
  Conditions: those of the given card (sha's table of round constants as the program's text lays it).
-/
import Derived.Test.YthafohijocidlaaDoorRows
import Derived.Test.YthafohijocidlaaDoorClashLaw
import Derived.Test.YthafohijocidlaaDoorLawLibG
import Derived.WalkKit
import Derived.ProofKit
import Derived.OpenShut
import Derived.ShutString
import Derived.SizedLaws
import Derived.Test.YthafohijocidlaaDoorBas
import Derived.LaidMore
import Derived.SevenTiedAt
import Derived.Test.YthafohijocidlaaDoorCards
import Derived.Test.YthafohijocidlaaDoorTie
import Derived.Test.YthafohijocidlaaDoorShb
namespace Go.Proofs.YthafohijocidlaaDoor.clashIs
open Go.ChangeShapes Go.WideShapes Go.ChangeAt Go.RowKit
open Go.ChangeMaps (open_string shut_string)
set_option linter.unusedVariables false

theorem own : ownKnob Tryd.prog.godebug = none := by kernel_rfl
theorem laidOut : laidOutB Tryd.prog = true := by kernel_rfl

set_option maxRecDepth 100000 in
set_option maxHeartbeats 4000000 in
theorem walk (a0 : ByteArray) (w0 : a0.size ≤ maxLen) (r0 : a0.size ≤ 140737488351232) (a1 : ByteArray) (w1 : a1.size ≤ maxLen) (r1 : a1.size ≤ 140737488351232) (w : World)  (hT : Tab w) :
    Calls Tryd.prog 3 #[.string a0, .string a1] w fun e w' => e = .returned (.bool true) ∧ Kept w w' := by
  have HT := Lib.hid hT
  have HA : Hid (∀ w, Tab w → _) := Lib.hid fun w ht => awake15_any w ht
  by_cases h0 : 2000 < a0.size
  · have hd1 : decide ((a0.size : Int) > 2000) = true := decide_eq_true (by omega)
    have hd1' : decide ((2000 : Int) < (a0.size : Int)) = true := decide_eq_true (by omega)
    clear hT w0 w1 r0 r1
    go_enter Tryd.func3, Tryd.ntmps3
    go_wp2_with fail
    refine (HA.out _ HT.out).mono ?_
    rintro e u1 ⟨rfl, k1⟩
    have K1 := Lib.hid k1
    clear k1
    go_wp2_with fail
    go_ret
    exact ⟨rfl, K1.out⟩
  · have hd1 : decide ((a0.size : Int) > 2000) = false := decide_eq_false (by omega)
    have hd1' : decide ((2000 : Int) < (a0.size : Int)) = false := decide_eq_false (by omega)
    by_cases h1 : 2000 < a1.size
    · have hd2 : decide ((a1.size : Int) > 2000) = true := decide_eq_true (by omega)
      have hd2' : decide ((2000 : Int) < (a1.size : Int)) = true := decide_eq_true (by omega)
      clear hT w0 w1 r0 r1
      go_enter Tryd.func3, Tryd.ntmps3
      go_wp2_with fail
      refine (HA.out _ HT.out).mono ?_
      rintro e u1 ⟨rfl, k1⟩
      have K1 := Lib.hid k1
      clear k1
      go_wp2_with fail
      go_ret
      exact ⟨rfl, K1.out⟩
    · have hd2 : decide ((a1.size : Int) > 2000) = false := decide_eq_false (by omega)
      have hd2' : decide ((2000 : Int) < (a1.size : Int)) = false := decide_eq_false (by omega)
      have HI : Hid (∀ w, Tab w → _) := Lib.hid fun w ht => clashIs_any a0 a1 r0 r1 w ht
      by_cases h : a0 = a1
      · have e1 : (a0.toList == a1.toList) = true := by rw [h]; simp
        have e2 : (a0.toList != a1.toList) = false := by rw [h]; simp
        rw [show (!decide (a0 = a1) && decide (shaL a0 = shaL a1)) = false by simp [h]] at HI
        clear hT w0 w1 r0 r1 h
        go_enter Tryd.func3, Tryd.ntmps3
        go_wp2_with fail
        refine (HI.out _ HT.out).mono ?_
        rintro e u1 ⟨rfl, k1⟩
        have K1 := Lib.hid k1
        clear k1
        go_wp2_with fail
        refine (HA.out _ (HT.out.kept K1.out)).mono ?_
        rintro e u2 ⟨rfl, k2⟩
        have K2 := Lib.hid (K1.out.trans k2)
        clear k2
        go_wp2_with fail
        go_ret
        exact ⟨rfl, K2.out⟩
      · have e1 : (a0.toList == a1.toList) = false := by rw [beq_strs]; simpa using h
        have e2 : (a0.toList != a1.toList) = true := by rw [bne, e1]; rfl
        rw [show (!decide (a0 = a1) && decide (shaL a0 = shaL a1)) = decide (shaL a0 = shaL a1) by simp [h]] at HI
        have H0 : Hid (∀ w, _) := Lib.hid fun w => refSum_any a0 w r0
        have H1 : Hid (∀ w, _) := Lib.hid fun w => refSum_any a1 w r1
        have la := shaL_length a0
        have lb := shaL_length a1
        generalize shaL a0 = A at HI H0 la
        generalize shaL a1 = B at HI H1 lb
        obtain ⟨D, hD⟩ : ∃ D, D = decide (A = B) := ⟨_, rfl⟩
        rw [← hD] at HI
        replace hD := Lib.hid hD
        have hDD : (D == D) = true := by simp
        clear hT w0 w1 r0 r1 h
        go_enter Tryd.func3, Tryd.ntmps3
        go_wp2_with fail
        refine (HI.out _ HT.out).mono ?_
        rintro e u1 ⟨rfl, k1⟩
        have K1 := Lib.hid k1
        clear k1
        go_wp2_with fail
        refine (H0.out _).mono ?_
        rintro e u2 ⟨rfl, k2⟩
        have K2 := Lib.hid (K1.out.trans (Grown.kept k2))
        clear k2 K1
        go_wp2_with fail
        refine (H1.out _).mono ?_
        rintro e u3 ⟨rfl, k3⟩
        have K3 := Lib.hid (K2.out.trans (Grown.kept k3))
        clear k3 K2
        go_wp2_with (refine wpList_exec 25 rfl (by rfl) (.bool D) _ (by rw [hD.out]; exact execEqHs A B la lb _ rfl rfl rfl) ?_)
        refine (HA.out _ (HT.out.kept K3.out)).mono ?_
        rintro e u4 ⟨rfl, k4⟩
        have K4 := Lib.hid (K3.out.trans k4)
        clear k4 K3
        go_wp2_with fail
        go_ret
        exact ⟨rfl, K4.out⟩

set_option maxRecDepth 100000 in
set_option maxHeartbeats 1000000 in
theorem lifted (os : Os) (started : os.Started) (H : Type) (enc : TypeId × Value → H) :
    ReturnsInHanded {} Tryd.checked os 3 .any (fun w args => (Rows.clashIsSpec.pre enc Tryd.prog Tryd.f3 [] false w args ∧ laidMetH Tryd.prog Rows.clashIsRow.laid w) ∧ sizedMet enc Tryd.prog Tryd.f3 (OpenSpec.ofChange Rows.clashIsSpec) false w args)
      (Rows.clashIsSpec.post enc Tryd.prog Tryd.f3 false true false false) := by
  refine returnsInHanded_of_change_and (C := Tryd.checked) (X := fun w _ => laidMetH Tryd.prog Rows.clashIsRow.laid w) (fun _ _ _ hh h => h.of_heap hh) own started (by kernel_rfl) Tryd.func3
    (ChangeSpec.witness_shaped (enc := enc) (C := Tryd.checked) (os := os) (X := fun w _ => laidMetH Tryd.prog Rows.clashIsRow.laid w) false (World.doorLaid Tryd.prog 400 os) #[.string ByteArray.empty, .string ByteArray.empty] 8 rfl (World.shaped_of_RefB (by kernel_rfl) (by kernel_rfl)) (by kernel_rfl) (by kernel_rfl) (by kernel_rfl) (door_met os _)) ?_
  intro W base args ds gs before hval0 hW _ hsz0 hL _
  have hval : ∀ (j : Nat) t v, Tryd.f3.params[j]? = some t → args[j]? = some v → Value.okWide Tryd.prog W .any base t v := hval0
  have hsz : (DataW.weightsEach Tryd.prog (Tryd.f3.params.toList ++ Rows.clashIsSpec.plain.varTypes Tryd.prog) (ds ++ gs)).all (· ≤ reachBytes) = true := hsz0
  have hW' := hW
  obtain ⟨p, q, hA0, hV, rfl, hfz, hnd⟩ := hW
  have hA : DataW.TrodAll enc Tryd.prog W 0 (fun _ => true) true Tryd.f3.params.toList args.toList ds p := hA0
  have hAk := hA
  rw [Tryd.params3] at hA hval hsz
  obtain ⟨v0, vs0, d0, ds0, p0_, q0_, hargs, rfl, rfl, h0, r0_⟩ := trodAll_cons hA
  obtain ⟨v1, vs1, d1, ds1, p1_, q1_, rfl, rfl, rfl, h1, r1_⟩ := trodAll_cons r0_
  obtain ⟨rfl, rfl, rfl⟩ := trodAll_nil r1_
  obtain rfl : args = #[v0, v1] := by cases args; simp_all
  obtain ⟨rfl, rfl⟩ := trodVars_none hV
  have hlt : ∀ x ∈ (p0_ ++ (p1_ ++ ([]))), x.block < W.heap.size := fun x hx => by simpa using hW'.lt x (by simpa using hx)
  obtain ⟨a0, rfl, rfl, rfl, w0⟩ := open_string Tryd.underlying9 (hval 0 9 v0 rfl rfl) h0
  obtain ⟨a1, rfl, rfl, rfl, w1⟩ := open_string Tryd.underlying9 (hval 1 9 v1 rfl rfl) h1
  have r0 : a0.size ≤ 140737488351232 := by have := sized_string hsz (j := 0) (t := 9) rfl rfl; simpa [reachBytes] using this
  have r1 : a1.size ≤ 140737488351232 := by have := sized_string hsz (j := 1) (t := 9) rfl rfl; simpa [reachBytes] using this
  clear hA0 hval0
  refine (walk a0 w0 r0 a1 w1 r1 W  (tab_of_laid hL)).mono fun e W' ⟨he, hg⟩ => ?_
  subst he
  exact ⟨_, rfl, ⟨_, _, _, [], _, [], hW', trodAll_cons_mk (shut_bool Tryd.underlying4 _) trodAll_mk0, trodAll_stays laidOut hg (by kernel_rfl) hAk hlt (fun x hx => by simpa using hlt x hx), rfl, Kept.frame hg _, fun h => by cases h⟩⟩

theorem over : Rows.clashIsRow.holds Tryd.pinned (OpenSpec.ofChange Rows.clashIsSpec) :=
  OpenClaim.holds_of_wide 3 Tryd.f3 rfl rfl rfl rfl rfl rfl rfl ⟨rfl, rfl, rfl, rfl, rfl⟩ rfl rfl rfl rfl rfl (by kernel_rfl) Tryd.func3 (by kernel_rfl)
    (of_decide_eq_true (by kernel_rfl)) (by unfold Func.isWrapper; first | (rw [if_pos (by decide +kernel)]; kernel_rfl) | (rw [if_neg (by decide +kernel)]; exact ⟨rfl, rfl⟩))
    (fun os started H enc _ => lifted os started H enc)
end Go.Proofs.YthafohijocidlaaDoor.clashIs
namespace Go.Proofs.YthafohijocidlaaDoor
theorem clashIs_holds : Rows.ClashIsSaid := clashIs.over
theorem clashIs_card : Rows.ClashIsCardSaid :=
  Claim7.holds_tied_plain_at .later [] [.data] true (true, "0bff8d42d30ff236f4d1af1c11e02f2c110f2f64fb2728ec241eab8c73aa2bee") false
    clashIs_holds (fun _ h => by cases h) (by kernel_rfl) (fun _ h => by cases h) clashIs_row_tie rfl ⟨rfl, rfl⟩ (by kernel_rfl) rfl
    (fun f fn hf hfn => by
      obtain rfl : f = 3 := Option.some.inj ((show Tryd.prog.funcNamed "milepost/milepostlaw15.ClashIs" = some 3 by kernel_rfl).symm.trans hf) |>.symm
      obtain rfl : fn = Tryd.f3 := (Option.some.inj (Tryd.func3.symm.trans hfn)).symm
      refine ⟨by kernel_rfl, fun j t ht => ?_⟩
      have hm : t ∈ Tryd.f3.params.toList := by simpa using Array.mem_of_getElem? ht
      have hall : (Tryd.f3.params.toList.all fun u => !Tryd.prog.wantsStandIn u) = true := by kernel_rfl
      exact (show Tryd.prog.wantsStandIn t = false by simpa using List.all_eq_true.1 hall t hm))
    (by kernel_rfl)
#print axioms clashIs_card
end Go.Proofs.YthafohijocidlaaDoor
