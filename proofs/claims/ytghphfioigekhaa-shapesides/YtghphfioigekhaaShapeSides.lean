/-
  shape.Sides and shape.Depth agree with the reference for every number of leaves and every index; the law's examples hold: 'ShapeSides' returns true for every input.
  Conditions: none.
-/
import Derived.Test.YtghphfioigekhaaRows
import Derived.Test.YtghphfioigekhaaShapeLaw
import Derived.Test.YtghphfioigekhaaLawLib
import Derived.WalkKit
import Derived.ProofKit
import Derived.OpenShut
import Derived.ShutString
import Derived.SizedLaws
import Derived.Test.YtghphfioigekhaaLawLib
namespace Go.Proofs.Ytghphfioigekhaa.shapeSides
open Go.ChangeShapes Go.WideShapes Go.ChangeAt Go.RowKit
open Go.ChangeMaps (open_string shut_string)
set_option linter.unusedVariables false

theorem own : ownKnob Try.prog.godebug = none := by kernel_rfl
theorem laidOut : laidOutB Try.prog = true := by kernel_rfl

set_option maxRecDepth 100000 in
set_option maxHeartbeats 4000000 in
theorem walk (a0 : Int) (w0 : (Lit.int .i64 a0).wf = true) (a1 : Int) (w1 : (Lit.int .i64 a1).wf = true) (w : World)  :
    Calls Try.prog 4 #[.int .i64 a0, .int .i64 a1] w fun e w' => e = .returned (.bool true) ∧ Kept w w' := by
  obtain ⟨hl, hu⟩ := bounds_i64 w0
  have hlen : (sidesI a0 a1).length ≤ 1000 := by
    unfold sidesI
    split
    · rw [sidesN_length]; have := dn_len63 (n := a0.toNat) a1.toNat (by omega); omega
    · simp
  have H1 : Hid (∀ w, Calls Try.prog 10 #[.int .i64 a0, .int .i64 a1] w fun e w' => ∃ v, e = .returned v ∧ BRow w' v (sidesI a0 a1) ∧ Kept w w') := Lib.hid fun w => shapeSides_any a0 a1 w (by omega)
  have H2 : Hid (∀ w, Calls Try.prog 11 #[.int .i64 a0, .int .i64 a1] w fun e w' => ∃ v, e = .returned v ∧ BRow w' v (sidesI a0 a1) ∧ Kept w w') := Lib.hid fun w => refSides_any a0 a1 w (by omega)
  have H3 : Hid (∀ w, Calls Try.prog 12 #[.int .i64 a0, .int .i64 a1] w fun e w' => e = .returned (.int .i64 (depthI a0 a1)) ∧ Kept w w') := Lib.hid fun w => shapeDepth_any a0 a1 w (by omega)
  have H4 : Hid (∀ w, Calls Try.prog 13 #[.int .i64 a0, .int .i64 a1] w fun e w' => e = .returned (.int .i64 (depthI a0 a1)) ∧ Kept w w') := Lib.hid fun w => refDepth_any a0 a1 w (by omega)
  generalize sidesI a0 a1 = l at H1 H2 hlen
  generalize depthI a0 a1 = d at H3 H4
  clear w0 w1
  go_enter Try.func4, Try.ntmps4
  go_wp2_with fail
  refine (H1.out _).mono ?_
  rintro e w1 ⟨v1, rfl, b1, k1⟩
  have K1 := Lib.hid k1
  have B1 := Lib.hid b1
  clear k1 b1
  go_wp2_with fail
  refine (H2.out _).mono ?_
  rintro e w2 ⟨v2, rfl, b2, k2⟩
  have K2 := Lib.hid (K1.out.trans k2)
  replace B1 := Lib.hid (B1.out.kept k2)
  have B2 := Lib.hid b2
  clear k2 b2 K1
  go_wp2_with fail
  refine (same11_any l l _ _ _ B1.out B2.out hlen).mono ?_
  rw [decide_eq_true (rfl : l = l)]
  rintro e w3 ⟨rfl, k3⟩
  have K3 := Lib.hid (K2.out.trans k3)
  clear k3 B1 B2 K2
  go_wp2_with fail
  refine (H3.out _).mono ?_
  rintro e w4 ⟨rfl, k4⟩
  have K4 := Lib.hid (K3.out.trans k4)
  clear k4 K3
  go_wp2_with fail
  refine (H4.out _).mono ?_
  rintro e w5 ⟨rfl, k5⟩
  have K5 := Lib.hid (K4.out.trans k5)
  clear k5 K4
  go_wp2_with fail
  refine (awake11_any _).mono ?_
  rintro e w6 ⟨rfl, k6⟩
  have K6 := Lib.hid (K5.out.trans k6)
  clear k6 K5
  go_wp2_with fail
  go_ret
  exact ⟨rfl, K6.out⟩

set_option maxRecDepth 100000 in
set_option maxHeartbeats 1000000 in
theorem lifted (os : Os) (started : os.Started) (H : Type) (enc : TypeId × Value → H) :
    ReturnsInHanded {} Try.checked os 4 .any (Rows.shapeSidesSpec.pre6 enc Try.prog Try.f4 Rows.shapeSidesRow.domain false) (Rows.shapeSidesSpec.post enc Try.prog Try.f4 false true false false) := by
  refine returnsInHanded_of_change_sized (C := Try.checked) own started (by kernel_rfl) Try.func4
    (ChangeSpec.witness6 (enc := enc) (C := Try.checked) false ⟨#[], #[.int .i64 0, .int .i64 0], []⟩ 8 (by kernel_rfl) (by kernel_rfl) (by kernel_rfl) (by kernel_rfl)) ?_
  intro W base args ds gs before hval0 hW hcnd hsz0 _
  have hval : ∀ (j : Nat) t v, Try.f4.params[j]? = some t → args[j]? = some v → Value.okWide Try.prog W .any base t v := hval0
  have hsz : (DataW.weightsEach Try.prog (Try.f4.params.toList ++ Rows.shapeSidesSpec.plain.varTypes Try.prog) (ds ++ gs)).all (· ≤ reachBytes) = true := hsz0
  have hW' := hW
  obtain ⟨p, q, hA0, hV, rfl, hfz, hnd⟩ := hW
  have hA : DataW.TrodAll enc Try.prog W 0 (fun _ => true) true Try.f4.params.toList args.toList ds p := hA0
  have hAk := hA
  rw [Try.params4] at hA hval hsz
  obtain ⟨v0, vs0, d0, ds0, p0_, q0_, hargs, rfl, rfl, h0, r0_⟩ := trodAll_cons hA
  obtain ⟨v1, vs1, d1, ds1, p1_, q1_, rfl, rfl, rfl, h1, r1_⟩ := trodAll_cons r0_
  obtain ⟨rfl, rfl, rfl⟩ := trodAll_nil r1_
  obtain rfl : args = #[v0, v1] := by cases args; simp_all
  obtain ⟨rfl, rfl⟩ := trodVars_none hV
  have hlt : ∀ x ∈ (p0_ ++ (p1_ ++ ([]))), x.block < W.heap.size := fun x hx => by simpa using hW'.lt x (by simpa using hx)
  obtain ⟨a0, rfl, rfl, rfl, w0⟩ := open_int Try.underlying3 (hval 0 3 v0 rfl rfl) h0
  obtain ⟨a1, rfl, rfl, rfl, w1⟩ := open_int Try.underlying3 (hval 1 3 v1 rfl rfl) h1
  clear hA0 hval0
  refine (walk a0 w0 a1 w1 W ).mono fun e W' ⟨he, hg⟩ => ?_
  subst he
  exact ⟨_, rfl, ⟨_, _, _, [], _, [], hW', trodAll_cons_mk (shut_bool Try.underlying4 _) trodAll_mk0, trodAll_stays laidOut hg (by kernel_rfl) hAk hlt (fun x hx => by simpa using hlt x hx), rfl, Kept.frame hg _, fun h => by cases h⟩⟩

theorem over : Rows.shapeSidesRow.holds Try.pinned (OpenSpec.ofChange Rows.shapeSidesSpec) :=
  OpenClaim.holds_of_wide 4 Try.f4 rfl rfl rfl rfl rfl rfl rfl ⟨rfl, rfl, rfl, rfl, rfl⟩ rfl rfl rfl rfl rfl (by kernel_rfl) Try.func4 (by kernel_rfl)
    (of_decide_eq_true (by kernel_rfl)) (by unfold Func.isWrapper; first | (rw [if_pos (by decide +kernel)]; kernel_rfl) | (rw [if_neg (by decide +kernel)]; exact ⟨rfl, rfl⟩))
    (fun os started H enc _ => lifted os started H enc)
end Go.Proofs.Ytghphfioigekhaa.shapeSides
namespace Go.Proofs.Ytghphfioigekhaa
theorem shapeSides_holds : Rows.ShapeSidesSaid := shapeSides.over
#print axioms shapeSides_holds
end Go.Proofs.Ytghphfioigekhaa
