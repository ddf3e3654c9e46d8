/-
  hex.Bytes returns what the reference returns, and hex.Sum the hash of the same bytes where they are 32 and the zero hash elsewhere, for every string of at most 5000 bytes; the law's examples hold: 'HexReads' returns true for every input.
  Conditions: none.
-/
import Derived.Test.YthigdhdapbjakaaRows
import Derived.Test.YthigdhdapbjakaaHexLawB
import Derived.Test.YthigdhdapbjakaaLawLib
import Derived.WalkKit
import Derived.ProofKit
import Derived.OpenShut
import Derived.ShutString
import Derived.SizedLaws
import Derived.Test.YthigdhdapbjakaaLawLib
namespace Go.Proofs.Ythigdhdapbjakaa.hexReads
open Go.ChangeShapes Go.WideShapes Go.ChangeAt Go.RowKit
open Go.ChangeMaps (open_string shut_string)
set_option linter.unusedVariables false

theorem own : ownKnob Try.prog.godebug = none := by kernel_rfl
theorem laidOut : laidOutB Try.prog = true := by kernel_rfl

set_option maxRecDepth 100000 in
set_option maxHeartbeats 4000000 in
theorem walk (a0 : ByteArray) (w0 : a0.size ≤ maxLen) (r0 : a0.size ≤ 140737488351232) (w : World)  :
    Calls Try.prog 4 #[.string a0] w fun e w' => e = .returned (.bool true) ∧ Kept w w' := by
  have hw0 : a0.size ≤ 9223372036854775807 := w0
  clear w0
  by_cases hl : a0.size ≤ 5000
  · have hd : decide ((a0.size : Int) > 5000) = false := decide_eq_false (by omega)
    have H1 : Hid (∀ w, Calls Try.prog 9 #[.string a0] w fun e w' => e = .returned (.tuple #[.string (unS a0), .bool (unB a0)]) ∧ Kept w w') := Lib.hid fun w => hexBytes_any a0 w (by omega)
    have H2 : Hid (∀ w, Calls Try.prog 10 #[.string a0] w fun e w' => e = .returned (.tuple #[.string (unS a0), .bool (unB a0)]) ∧ Grown w w') := Lib.hid fun w => refBytes_any a0 w (by omega)
    have H3 : Hid (∀ w, Calls Try.prog 11 #[.string a0] w fun e w' => e = .returned (.tuple #[.agg (bC 32 (sumL a0)), .bool (sumB a0)]) ∧ Kept w w') := Lib.hid fun w => hexSum_any a0 w (by omega)
    have hu5 : (unS a0).size ≤ 5000 := Nat.le_trans (unS_le a0) hl
    cases hb : sumB a0 with
    | true =>
      obtain ⟨hb1, hb2⟩ := sum_size hb
      have HL := Lib.hid (sumL_length a0)
      have HE : Hid (lS (sumL a0) = unS a0) := Lib.hid (by rw [sumL_yes hb, lS_sl])
      rw [hb] at H3
      rw [hb1] at H1 H2
      have he : (((unS a0).size : Int) == 32) = true := by rw [hb2]; rfl
      clear hb hb1 hb2
      generalize unS a0 = u at H1 H2 HE he hu5
      generalize sumL a0 = L at H3 HL HE
      have HR : Hid (∀ w, Calls Try.prog 12 #[.agg (bC 32 L)] w fun e w' => e = .returned (.string u) ∧ Grown w w') := Lib.hid fun w => by
        have h := refRaw_l L HL.out w
        rwa [HE.out] at h
      go_enter Try.func4, Try.ntmps4
      go_wp2_with (first
        | (go_at_call 9; refine (H1.out _).mono ?_; rintro e w1 ⟨rfl, k1⟩; have K1 := Lib.hid k1; clear k1)
        | (go_at_call 10; refine (H2.out _).mono ?_; rintro e w2 ⟨rfl, k2⟩; have K2 := Lib.hid (K1.out.trans (Grown.kept k2)); clear k2)
        | (go_at_call 11; refine (H3.out _).mono ?_; rintro e w3 ⟨rfl, k3⟩; have K3 := Lib.hid (K2.out.trans k3); clear k3)
        | (refine wpList_store_madeG rfl 28 _ _ rfl w3 _ (bC 32 L) rfl rfl 28 (bC 32 []) rfl (info32c _) (by simp [bC_size]) (bC_one _ _) ?_; intro w4 R4 G4; have K4 := Lib.hid (K3.out.trans (Grown.kept G4.out)))
        | (refine park_at 39 rfl ?_))
      refine unpark ?_
      refine wpList_exec 39 rfl (by rfl) (.agg (bC 32 L)) _ (execLoadRow 28 rfl w3.heap.size rfl (bC 32 L) 28 _ R4.out Try.underlying28 rfl (info32c _)) ?_
      go_wp2_with (first
        | (go_at_call 12; refine (HR.out _).mono ?_; rintro e w5 ⟨rfl, k5⟩; have K5 := Lib.hid (K4.out.trans (Grown.kept k5)); clear k5)
        | (go_at_call 8; refine (awake10_any _).mono ?_; rintro e w6 ⟨rfl, k6⟩; have K6 := Lib.hid (K5.out.trans k6); clear k6))
      go_ret
      exact ⟨rfl, K6.out⟩
    | false =>
      have HB := Lib.hid (sum_no hb)
      have HZ : Hid (sumL a0 = zl) := Lib.hid (sumL_no hb)
      rw [hb, HZ.out] at H3
      clear hb HZ
      generalize unS a0 = u at H1 H2 HB hu5
      generalize unB a0 = b at H1 H2 HB
      obtain ⟨hb, he⟩ | ⟨hb, he⟩ : (b = false ∧ True) ∨ (b = true ∧ ((u.size : Int) == 32) = false) := by
        rcases HB.out with h | ⟨h, h2⟩
        · exact .inl ⟨h, trivial⟩
        · exact .inr ⟨h, by simp; omega⟩
      all_goals
        subst hb
        clear HB
        go_enter Try.func4, Try.ntmps4
        go_wp2_with (first
          | (go_at_call 9; refine (H1.out _).mono ?_; rintro e w1 ⟨rfl, k1⟩; have K1 := Lib.hid k1; clear k1)
          | (go_at_call 10; refine (H2.out _).mono ?_; rintro e w2 ⟨rfl, k2⟩; have K2 := Lib.hid (K1.out.trans (Grown.kept k2)); clear k2)
          | (go_at_call 11; refine (H3.out _).mono ?_; rintro e w3 ⟨rfl, k3⟩; have K3 := Lib.hid (K2.out.trans k3); clear k3)
          | (refine wpList_store_madeG rfl 28 _ _ rfl w3 _ (bC 32 zl) rfl rfl 28 (bC 32 []) rfl (info32c _) (by simp [bC_size]) (bC_one _ _) ?_; intro w4 R4 G4; have K4 := Lib.hid (K3.out.trans (Grown.kept G4.out)))
          | (refine park_at 49 rfl ?_))
        refine unpark ?_
        refine wpList_exec 49 rfl (by rfl) (.agg (bC 32 zl)) _ (execLoadRow 28 rfl w3.heap.size rfl (bC 32 zl) 28 _ R4.out Try.underlying28 rfl (info32c _)) ?_
        go_wp2_with (refine park_at 51 rfl ?_)
        refine unpark ?_
        refine wpList_exec 51 rfl (by rfl) (.bool false) _ (execNeH1 zl zl_len _ rfl rfl rfl) ?_
        go_wp2_with (go_at_call 8; refine (awake10_any _).mono ?_; rintro e w6 ⟨rfl, k6⟩; have K6 := Lib.hid (K4.out.trans k6); clear k6)
        go_ret
        exact ⟨rfl, K6.out⟩
  · have hd : decide ((a0.size : Int) > 5000) = true := decide_eq_true (by omega)
    clear hl
    go_enter Try.func4, Try.ntmps4
    go_wp2_with (go_at_call 8; refine (awake10_any _).mono ?_; rintro e w3 ⟨rfl, k3⟩; have K3 := Lib.hid k3; clear k3)
    go_ret
    exact ⟨rfl, K3.out⟩

set_option maxRecDepth 100000 in
set_option maxHeartbeats 1000000 in
theorem lifted (os : Os) (started : os.Started) (H : Type) (enc : TypeId × Value → H) :
    ReturnsInHanded {} Try.checked os 4 .any (Rows.hexReadsSpec.pre6 enc Try.prog Try.f4 Rows.hexReadsRow.domain false) (Rows.hexReadsSpec.post enc Try.prog Try.f4 false true false false) := by
  refine returnsInHanded_of_change_sized (C := Try.checked) own started (by kernel_rfl) Try.func4
    (ChangeSpec.witness6 (enc := enc) (C := Try.checked) false ⟨#[], #[.string ByteArray.empty], []⟩ 8 (by kernel_rfl) (by kernel_rfl) (by kernel_rfl) (by kernel_rfl)) ?_
  intro W base args ds gs before hval0 hW hcnd hsz0 _
  have hval : ∀ (j : Nat) t v, Try.f4.params[j]? = some t → args[j]? = some v → Value.okWide Try.prog W .any base t v := hval0
  have hsz : (DataW.weightsEach Try.prog (Try.f4.params.toList ++ Rows.hexReadsSpec.plain.varTypes Try.prog) (ds ++ gs)).all (· ≤ reachBytes) = true := hsz0
  have hW' := hW
  obtain ⟨p, q, hA0, hV, rfl, hfz, hnd⟩ := hW
  have hA : DataW.TrodAll enc Try.prog W 0 (fun _ => true) true Try.f4.params.toList args.toList ds p := hA0
  have hAk := hA
  rw [Try.params4] at hA hval hsz
  obtain ⟨v0, vs0, d0, ds0, p0_, q0_, hargs, rfl, rfl, h0, r0_⟩ := trodAll_cons hA
  obtain ⟨rfl, rfl, rfl⟩ := trodAll_nil r0_
  obtain rfl : args = #[v0] := by cases args; simp_all
  obtain ⟨rfl, rfl⟩ := trodVars_none hV
  have hlt : ∀ x ∈ (p0_ ++ ([])), x.block < W.heap.size := fun x hx => by simpa using hW'.lt x (by simpa using hx)
  obtain ⟨a0, rfl, rfl, rfl, w0⟩ := open_string Try.underlying9 (hval 0 9 v0 rfl rfl) h0
  have r0 : a0.size ≤ 140737488351232 := by have := sized_string hsz (j := 0) (t := 9) rfl rfl; simpa [reachBytes] using this
  clear hA0 hval0
  refine (walk a0 w0 r0 W ).mono fun e W' ⟨he, hg⟩ => ?_
  subst he
  exact ⟨_, rfl, ⟨_, _, _, [], _, [], hW', trodAll_cons_mk (shut_bool Try.underlying4 _) trodAll_mk0, trodAll_stays laidOut hg (by kernel_rfl) hAk hlt (fun x hx => by simpa using hlt x hx), rfl, Kept.frame hg _, fun h => by cases h⟩⟩

theorem over : Rows.hexReadsRow.holds Try.pinned (OpenSpec.ofChange Rows.hexReadsSpec) :=
  OpenClaim.holds_of_wide 4 Try.f4 rfl rfl rfl rfl rfl rfl rfl ⟨rfl, rfl, rfl, rfl, rfl⟩ rfl rfl rfl rfl rfl (by kernel_rfl) Try.func4 (by kernel_rfl)
    (of_decide_eq_true (by kernel_rfl)) (by unfold Func.isWrapper; first | (rw [if_pos (by decide +kernel)]; kernel_rfl) | (rw [if_neg (by decide +kernel)]; exact ⟨rfl, rfl⟩))
    (fun os started H enc _ => lifted os started H enc)
end Go.Proofs.Ythigdhdapbjakaa.hexReads
namespace Go.Proofs.Ythigdhdapbjakaa
theorem hexReads_holds : Rows.HexReadsSaid := hexReads.over
#print axioms hexReads_holds
end Go.Proofs.Ythigdhdapbjakaa
