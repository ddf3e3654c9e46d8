/-
  Need of any number of leaves and any places answers as the reference; the law's example holds: 'MultiNeeds' returns true for every input. No condition.
-/
import Derived.Test.YtggpjhldmaflaaaRows
import Derived.Test.YtggpjhldmaflaaaMultiAwake
import Derived.Test.YtggpjhldmaflaaaLawLibI
import Derived.WalkKit
import Derived.ProofKit
import Derived.OpenShut
import Derived.ShutString
import Derived.SizedLaws
import Derived.Test.YtggpjhldmaflaaaLawLib
namespace Go.Proofs.Ytggpjhldmaflaaa.multiNeeds
open Go.ChangeShapes Go.WideShapes Go.ChangeAt Go.RowKit
open Go.ChangeMaps (open_string shut_string)
set_option linter.unusedVariables false

theorem own : ownKnob Try.prog.godebug = none := by kernel_rfl
theorem laidOut : laidOutB Try.prog = true := by kernel_rfl

set_option maxRecDepth 100000 in
set_option maxHeartbeats 4000000 in
theorem walk (a0 : Int) (w0 : (Lit.int .i64 a0).wf = true) (p1 : Option Addr) (n1 c1 : Nat) (I1 : Nat → Int) (z1 : n1 ≤ c1 ∧ c1 ≤ maxLen) (y1 : ∀ i, i < n1 → (Lit.int .i64 (I1 i)).wf = true) (w : World) (e1 : IAt w p1 n1 I1) :
    Calls Try.prog 3 #[.int .i64 a0, .slice p1 n1 c1] w fun e w' => e = .returned (.bool true) ∧ Kept w w' := by
  have HA : Hid (∀ w, _) := Lib.hid fun w => awake16_any w
  have HI := Lib.hid e1
  clear e1 w0 y1
  by_cases h0 : 100 < a0
  · have hd1 : decide (a0 > 100) = true := decide_eq_true h0
    have hd1' : decide (100 < a0) = true := decide_eq_true h0
    clear h0
    go_enter Try.func3, Try.ntmps3
    go_wp2_with fail
    refine (HA.out w).mono ?_
    rintro e u1 ⟨rfl, k1⟩
    have K1 := Lib.hid k1
    clear k1
    go_wp2_with fail
    go_ret
    exact ⟨rfl, K1.out⟩
  · have hd1 : decide (a0 > 100) = false := decide_eq_false h0
    have hd1' : decide (100 < a0) = false := decide_eq_false h0
    by_cases h1 : 200 < n1
    · have hd2 : decide ((n1 : Int) > 200) = true := decide_eq_true (by omega)
      have hd2' : decide ((200 : Int) < (n1 : Int)) = true := decide_eq_true (by omega)
      clear h0 h1
      go_enter Try.func3, Try.ntmps3
      go_wp2_with fail
      refine (HA.out w).mono ?_
      rintro e u1 ⟨rfl, k1⟩
      have K1 := Lib.hid k1
      clear k1
      go_wp2_with fail
      go_ret
      exact ⟨rfl, K1.out⟩
    · have hd2 : decide ((n1 : Int) > 200) = false := decide_eq_false (by omega)
      have hd2' : decide ((200 : Int) < (n1 : Int)) = false := decide_eq_false (by omega)
      have HR := Lib.hid (refRising_any a0 p1 n1 c1 I1 w HI.out (by omega))
      have HN : Hid (∀ w, IAt w p1 n1 I1 → _) := Lib.hid fun w h => multiNeed_any a0 p1 n1 c1 I1 w (by omega) h z1.1 z1.2 (by omega)
      by_cases hr : risP a0 n1 I1
      · obtain ⟨n, rfl, hn⟩ := risP_nat hr
        have HNd : Hid (∀ w, IAt w p1 n1 I1 → Calls Try.prog 6 #[.slice p1 n1 c1, .int .i64 0, .int .i64 (n : Int)] w fun e w' => e = .returned (.int .i64 (needN (qP n1 I1) 0 n : Int)) ∧ w = w') := Lib.hid fun w h => refNeed_any n p1 n1 c1 I1 0 n w h (by omega) hn (by omega) (by omega)
        rw [decide_eq_true hr] at HR
        rw [needI_yes hr] at HN
        generalize needN (qP n1 I1) 0 n = m at HN HNd
        have hee : ((m : Int) == (m : Int)) = true := by simp
        clear hr hn h0 h1 z1
        go_enter Try.func3, Try.ntmps3
        go_wp2_with fail
        refine HR.out.mono ?_
        rintro e u1 ⟨rfl, k1⟩
        have K1 := Lib.hid k1
        clear k1 HR
        go_wp2_with fail
        refine (HNd.out u1 (HI.out.kept K1.out)).mono ?_
        rintro e u2 ⟨rfl, rfl⟩
        go_wp2_with fail
        refine (HN.out u1 (HI.out.kept K1.out)).mono ?_
        rintro e u3 ⟨rfl, k3⟩
        have K3 := Lib.hid (K1.out.trans k3)
        clear k3 HN HNd
        go_wp2_with fail
        refine (HA.out u3).mono ?_
        rintro e u4 ⟨rfl, k4⟩
        have K4 := Lib.hid (K3.out.trans k4)
        clear k4
        go_wp2_with fail
        go_ret
        exact ⟨rfl, K4.out⟩
      · rw [decide_eq_false hr] at HR
        rw [needI_no hr] at HN
        clear hr h0 h1 z1
        go_enter Try.func3, Try.ntmps3
        go_wp2_with fail
        refine HR.out.mono ?_
        rintro e u1 ⟨rfl, k1⟩
        have K1 := Lib.hid k1
        clear k1 HR
        go_wp2_with fail
        refine (HN.out u1 (HI.out.kept K1.out)).mono ?_
        rintro e u3 ⟨rfl, k3⟩
        have K3 := Lib.hid (K1.out.trans k3)
        clear k3 HN
        go_wp2_with fail
        refine (HA.out u3).mono ?_
        rintro e u4 ⟨rfl, k4⟩
        have K4 := Lib.hid (K3.out.trans k4)
        clear k4
        go_wp2_with fail
        go_ret
        exact ⟨rfl, K4.out⟩

set_option maxRecDepth 100000 in
set_option maxHeartbeats 1000000 in
theorem lifted (os : Os) (started : os.Started) (H : Type) (enc : TypeId × Value → H) :
    ReturnsInHanded {} Try.checked os 3 .any (Rows.multiNeedsSpec.pre6 enc Try.prog Try.f3 Rows.multiNeedsRow.domain false) (Rows.multiNeedsSpec.post enc Try.prog Try.f3 false true false false) := by
  refine returnsInHanded_of_change_sized (C := Try.checked) own started (by kernel_rfl) Try.func3
    (ChangeSpec.witness6 (enc := enc) (C := Try.checked) false ⟨#[], #[.int .i64 0, .slice none 0 0], []⟩ 8 (by kernel_rfl) (by kernel_rfl) (by kernel_rfl) (by kernel_rfl)) ?_
  intro W base args ds gs before hval0 hW hcnd hsz0 _
  have hval : ∀ (j : Nat) t v, Try.f3.params[j]? = some t → args[j]? = some v → Value.okWide Try.prog W .any base t v := hval0
  have hsz : (DataW.weightsEach Try.prog (Try.f3.params.toList ++ Rows.multiNeedsSpec.plain.varTypes Try.prog) (ds ++ gs)).all (· ≤ reachBytes) = true := hsz0
  have hW' := hW
  obtain ⟨p, q, hA0, hV, rfl, hfz, hnd⟩ := hW
  have hA : DataW.TrodAll enc Try.prog W 0 (fun _ => true) true Try.f3.params.toList args.toList ds p := hA0
  have hAk := hA
  rw [Try.params3] at hA hval hsz
  obtain ⟨v0, vs0, d0, ds0, p0_, q0_, hargs, rfl, rfl, h0, r0_⟩ := trodAll_cons hA
  obtain ⟨v1, vs1, d1, ds1, p1_, q1_, rfl, rfl, rfl, h1, r1_⟩ := trodAll_cons r0_
  obtain ⟨rfl, rfl, rfl⟩ := trodAll_nil r1_
  obtain rfl : args = #[v0, v1] := by cases args; simp_all
  obtain ⟨rfl, rfl⟩ := trodVars_none hV
  have hlt : ∀ x ∈ (p0_ ++ (p1_ ++ ([]))), x.block < W.heap.size := fun x hx => by simpa using hW'.lt x (by simpa using hx)
  obtain ⟨a0, rfl, rfl, rfl, w0⟩ := open_int Try.underlying3 (hval 0 3 v0 rfl rfl) h0
  obtain ⟨p1, n1, c1, I1, z1, rfl, e1, y1⟩ := open_islice Try.underlying22 Try.underlying3 (by kernel_rfl) (hval 1 22 v1 rfl rfl) h1
  clear hA0 hval0
  refine (walk a0 w0 p1 n1 c1 I1 z1 y1 W e1).mono fun e W' ⟨he, hg⟩ => ?_
  subst he
  exact ⟨_, rfl, ⟨_, _, _, [], _, [], hW', trodAll_cons_mk (shut_bool Try.underlying4 _) trodAll_mk0, trodAll_stays laidOut hg (by kernel_rfl) hAk hlt (fun x hx => by simpa using hlt x hx), rfl, Kept.frame hg _, fun h => by cases h⟩⟩

theorem over : Rows.multiNeedsRow.holds Try.pinned (OpenSpec.ofChange Rows.multiNeedsSpec) :=
  OpenClaim.holds_of_wide 3 Try.f3 rfl rfl rfl rfl rfl rfl rfl ⟨rfl, rfl, rfl, rfl, rfl⟩ rfl rfl rfl rfl rfl (by kernel_rfl) Try.func3 (by kernel_rfl)
    (of_decide_eq_true (by kernel_rfl)) (by unfold Func.isWrapper; first | (rw [if_pos (by decide +kernel)]; kernel_rfl) | (rw [if_neg (by decide +kernel)]; exact ⟨rfl, rfl⟩))
    (fun os started H enc _ => lifted os started H enc)
end Go.Proofs.Ytggpjhldmaflaaa.multiNeeds
namespace Go.Proofs.Ytggpjhldmaflaaa
theorem multiNeeds_holds : Rows.MultiNeedsSaid := multiNeeds.over
#print axioms multiNeeds_holds
end Go.Proofs.Ytggpjhldmaflaaa
