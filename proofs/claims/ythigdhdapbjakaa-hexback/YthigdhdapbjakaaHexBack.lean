/-
  hex.Bytes reads what hex.Text told as the very bytes, and hex.Text tells what hex.Bytes read as the very text, for every string of at most 5000 bytes; the law's examples hold: 'HexBack' returns true for every input.
  Conditions: none.
-/
import Derived.Test.YthigdhdapbjakaaRows
import Derived.Test.YthigdhdapbjakaaHexLaw
import Derived.Test.YthigdhdapbjakaaLawLib
import Derived.WalkKit
import Derived.ProofKit
import Derived.OpenShut
import Derived.ShutString
import Derived.SizedLaws
import Derived.Test.YthigdhdapbjakaaLawLib
namespace Go.Proofs.Ythigdhdapbjakaa.hexBack
open Go.ChangeShapes Go.WideShapes Go.ChangeAt Go.RowKit
open Go.ChangeMaps (open_string shut_string)
set_option linter.unusedVariables false

theorem own : ownKnob Try.prog.godebug = none := by kernel_rfl
theorem laidOut : laidOutB Try.prog = true := by kernel_rfl

set_option maxRecDepth 100000 in
set_option maxHeartbeats 4000000 in
theorem walk (a0 : ByteArray) (w0 : a0.size ≤ maxLen) (r0 : a0.size ≤ 140737488351232) (w : World)  :
    Calls Try.prog 5 #[.string a0] w fun e w' => e = .returned (.bool true) ∧ Kept w w' := by
  have hw0 : a0.size ≤ 9223372036854775807 := w0
  clear w0
  by_cases hl : a0.size ≤ 5000
  · have hd : decide ((a0.size : Int) > 5000) = false := decide_eq_false (by omega)
    have H1 : Hid (∀ w, Calls Try.prog 6 #[.string a0] w fun e w' => e = .returned (.string (hexS a0)) ∧ Kept w w') := Lib.hid fun w => hexText_any a0 w (by omega)
    have H2 : Hid (∀ w, Calls Try.prog 9 #[.string (hexS a0)] w fun e w' => e = .returned (.tuple #[.string a0, .bool true]) ∧ Kept w w') := Lib.hid fun w => by
      have h := hexBytes_any (hexS a0) w (by have := hexS_le a0; omega)
      rwa [(un_hex a0).1, (un_hex a0).2] at h
    have H3 : Hid (∀ w, Calls Try.prog 9 #[.string a0] w fun e w' => e = .returned (.tuple #[.string (unS a0), .bool (unB a0)]) ∧ Kept w w') := Lib.hid fun w => hexBytes_any a0 w (by omega)
    have H4 : Hid (unB a0 = true → ∀ w, Calls Try.prog 6 #[.string (unS a0)] w fun e w' => e = .returned (.string a0) ∧ Kept w w') := Lib.hid fun hb w => by
      have h := hexText_any (unS a0) w (by have := unS_le a0; omega)
      rwa [hex_un a0 hb] at h
    generalize hexS a0 = t at H1 H2
    generalize unS a0 = u at H3 H4
    generalize unB a0 = b at H3 H4
    cases b with
    | false =>
      clear H4
      go_enter Try.func5, Try.ntmps5
      go_wp2_with fail
      refine (H1.out _).mono ?_
      rintro e w1 ⟨rfl, k1⟩
      have K1 := Lib.hid k1; clear k1
      go_wp2_with fail
      refine (H2.out _).mono ?_
      rintro e w2 ⟨rfl, k2⟩
      have K2 := Lib.hid (K1.out.trans k2); clear k2
      go_wp2_with fail
      refine (H3.out _).mono ?_
      rintro e w3 ⟨rfl, k3⟩
      have K3 := Lib.hid (K2.out.trans k3); clear k3
      go_wp2_with fail
      refine (awake10_any _).mono ?_
      rintro e w4 ⟨rfl, k4⟩
      have K4 := Lib.hid (K3.out.trans k4); clear k4
      go_wp2_with fail
      go_ret
      exact ⟨rfl, K4.out⟩
    | true =>
      go_enter Try.func5, Try.ntmps5
      go_wp2_with fail
      refine (H1.out _).mono ?_
      rintro e w1 ⟨rfl, k1⟩
      have K1 := Lib.hid k1; clear k1
      go_wp2_with fail
      refine (H2.out _).mono ?_
      rintro e w2 ⟨rfl, k2⟩
      have K2 := Lib.hid (K1.out.trans k2); clear k2
      go_wp2_with fail
      refine (H3.out _).mono ?_
      rintro e w3 ⟨rfl, k3⟩
      have K3 := Lib.hid (K2.out.trans k3); clear k3
      go_wp2_with fail
      refine (H4.out trivial _).mono ?_
      rintro e w5 ⟨rfl, k5⟩
      have K5 := Lib.hid (K3.out.trans k5); clear k5
      go_wp2_with fail
      refine (awake10_any _).mono ?_
      rintro e w4 ⟨rfl, k4⟩
      have K4 := Lib.hid (K5.out.trans k4); clear k4
      go_wp2_with fail
      go_ret
      exact ⟨rfl, K4.out⟩
  · have hd : decide ((a0.size : Int) > 5000) = true := decide_eq_true (by omega)
    clear hl
    go_enter Try.func5, Try.ntmps5
    go_wp2_with (go_at_call 8; refine (awake10_any _).mono ?_; rintro e w3 ⟨rfl, k3⟩; have K3 := Lib.hid k3; clear k3)
    go_ret
    exact ⟨rfl, K3.out⟩

set_option maxRecDepth 100000 in
set_option maxHeartbeats 1000000 in
theorem lifted (os : Os) (started : os.Started) (H : Type) (enc : TypeId × Value → H) :
    ReturnsInHanded {} Try.checked os 5 .any (Rows.hexBackSpec.pre6 enc Try.prog Try.f5 Rows.hexBackRow.domain false) (Rows.hexBackSpec.post enc Try.prog Try.f5 false true false false) := by
  refine returnsInHanded_of_change_sized (C := Try.checked) own started (by kernel_rfl) Try.func5
    (ChangeSpec.witness6 (enc := enc) (C := Try.checked) false ⟨#[], #[.string ByteArray.empty], []⟩ 8 (by kernel_rfl) (by kernel_rfl) (by kernel_rfl) (by kernel_rfl)) ?_
  intro W base args ds gs before hval0 hW hcnd hsz0 _
  have hval : ∀ (j : Nat) t v, Try.f5.params[j]? = some t → args[j]? = some v → Value.okWide Try.prog W .any base t v := hval0
  have hsz : (DataW.weightsEach Try.prog (Try.f5.params.toList ++ Rows.hexBackSpec.plain.varTypes Try.prog) (ds ++ gs)).all (· ≤ reachBytes) = true := hsz0
  have hW' := hW
  obtain ⟨p, q, hA0, hV, rfl, hfz, hnd⟩ := hW
  have hA : DataW.TrodAll enc Try.prog W 0 (fun _ => true) true Try.f5.params.toList args.toList ds p := hA0
  have hAk := hA
  rw [Try.params5] at hA hval hsz
  obtain ⟨v0, vs0, d0, ds0, p0_, q0_, hargs, rfl, rfl, h0, r0_⟩ := trodAll_cons hA
  obtain ⟨rfl, rfl, rfl⟩ := trodAll_nil r0_
  obtain rfl : args = #[v0] := by cases args; simp_all
  obtain ⟨rfl, rfl⟩ := trodVars_none hV
  have hlt : ∀ x ∈ (p0_ ++ ([])), x.block < W.heap.size := fun x hx => by simpa using hW'.lt x (by simpa using hx)
  obtain ⟨a0, rfl, rfl, rfl, w0⟩ := open_string Try.underlying9 (hval 0 9 v0 rfl rfl) h0
  have r0 : a0.size ≤ 140737488351232 := by have := sized_string hsz (j := 0) (t := 9) rfl rfl; simpa [reachBytes] using this
  clear hA0 hval0
  refine (walk a0 w0 r0 W ).mono fun e W' ⟨he, hg⟩ => ?_
  subst he
  exact ⟨_, rfl, ⟨_, _, _, [], _, [], hW', trodAll_cons_mk (shut_bool Try.underlying4 _) trodAll_mk0, trodAll_stays laidOut hg (by kernel_rfl) hAk hlt (fun x hx => by simpa using hlt x hx), rfl, Kept.frame hg _, fun h => by cases h⟩⟩

theorem over : Rows.hexBackRow.holds Try.pinned (OpenSpec.ofChange Rows.hexBackSpec) :=
  OpenClaim.holds_of_wide 5 Try.f5 rfl rfl rfl rfl rfl rfl rfl ⟨rfl, rfl, rfl, rfl, rfl⟩ rfl rfl rfl rfl rfl (by kernel_rfl) Try.func5 (by kernel_rfl)
    (of_decide_eq_true (by kernel_rfl)) (by unfold Func.isWrapper; first | (rw [if_pos (by decide +kernel)]; kernel_rfl) | (rw [if_neg (by decide +kernel)]; exact ⟨rfl, rfl⟩))
    (fun os started H enc _ => lifted os started H enc)
end Go.Proofs.Ythigdhdapbjakaa.hexBack
namespace Go.Proofs.Ythigdhdapbjakaa
theorem hexBack_holds : Rows.HexBackSaid := hexBack.over
#print axioms hexBack_holds
end Go.Proofs.Ythigdhdapbjakaa
