/-
  A cursor that is not there takes nothing and answers ErrNone, and one that no call made reads no bytes; the law's example holds: 'CurNone' returns true for every input.
  Conditions: none.
-/
import Derived.Test.YtbnaiojbkecofaaRows
import Derived.Test.YtbnaiojbkecofaaCurLaw
import Derived.Test.YtbnaiojbkecofaaLawLibC
import Derived.WalkKit
import Derived.ProofKit
import Derived.OpenShut
import Derived.ShutString
import Derived.SizedLaws
import Derived.Test.YtbnaiojbkecofaaLawLib
namespace Go.Proofs.Ytbnaiojbkecofaa.curNone
open Go.ChangeShapes Go.WideShapes Go.ChangeAt Go.RowKit
open Go.ChangeMaps (open_string shut_string)
set_option linter.unusedVariables false

theorem own : ownKnob Try.prog.godebug = none := by kernel_rfl
theorem laidOut : laidOutB Try.prog = true := by kernel_rfl

set_option maxRecDepth 100000 in
set_option maxHeartbeats 4000000 in
theorem walk (a0_0 : Int) (w0_0 : (Lit.int .i64 a0_0).wf = true) (a0_1 : Int) (w0_1 : (Lit.int .i64 a0_1).wf = true) (a0_2 : Int) (w0_2 : (Lit.int .u64 a0_2).wf = true) (a0_3 : Int) (w0_3 : (Lit.int .i64 a0_3).wf = true) (w : World)  :
    Calls Try.prog 5 #[.agg #[.int .i64 a0_0, .int .i64 a0_1, .int .u64 a0_2, .int .i64 a0_3]] w fun e w' => e = .returned (.bool true) ∧ Kept w w' := by
  have b1 := bounds_i64 w0_1
  have HA := Lib.hid awake8_any
  have hbE : noB.toList.isEmpty = true := isE_yes
  have HH := Lib.hid curHash_nil
  have HF := Lib.hid (curFail_nil a0_3)
  have HB := Lib.hid curByte_nil
  have HN := Lib.hid (curNum_nil a0_2)
  have HR := Lib.hid (curRaw_nil a0_1)
  have HT := Lib.hid fun w => curText_nil a0_1 w (by omega) (by omega)
  have HL := Lib.hid curLeft_nil
  have HE := Lib.hid curErr_nil
  have HD := Lib.hid curDone_nil
  clear b1 w0_0 w0_1 w0_2 w0_3
  obtain ⟨v, hv⟩ : ∃ v, v = (w.alloc (.cells #[.int .i64 a0_0, .int .i64 a0_1, .int .u64 a0_2, .int .i64 a0_3] 32)).alloc (.cells #[.string noB, .int .i64 0] 44) := ⟨_, rfl⟩
  have R1 : Hid (Rowz v w.heap.size #[.int .i64 a0_0, .int .i64 a0_1, .int .u64 a0_2, .int .i64 a0_3] 32) := Lib.hid (hv ▸ (Rowz.new w _ _).alloc _)
  have R4 : Hid (CurAt v (w.heap.size + 1) ⟨noB, 0⟩) := Lib.hid (hv ▸ Rowz.newEq1 w _ _ _ _ rfl)
  have G0 : Hid (Grown w v) := Lib.hid (hv ▸ ((Grown.refl w).alloc _ _).alloc _ _)
  have HHv := Lib.hid (curHash_nil v)
  rw [hv] at HHv
  go_enter Try.func5, Try.ntmps5
  go_wp2_with fail
  refine HHv.out.mono ?_
  rintro e v1 ⟨rfl, G1⟩
  rw [← hv] at G1
  replace R1 := Lib.hid (Rowz.grown R1.out G1)
  replace R4 := Lib.hid (CurAt.grown R4.out G1)
  replace G0 := Lib.hid (Grown.trans G0.out G1)
  clear G1 HHv HH hv
  have hl4 : w.heap.size + 1 < v1.heap.size := Rowz.lt R4.out
  go_wp2_with (refine wpList_store_madeG rfl 46 _ _ rfl v1 _ (bC 32 []) rfl rfl 46 (bC 32 []) (by kernel_rfl) (info32c _) rfl (bC_one _ _) ?_; intro v2 N5 G2; replace R1 := Lib.hid (Rowz.grown R1.out G2.out); replace R4 := Lib.hid (CurAt.grown R4.out G2.out); replace G0 := Lib.hid (Grown.trans G0.out G2.out); clear G2; have c1 := R1.out.cell 1; have c2 := R1.out.cell 2; have c3 := R1.out.cell 3; simp only [List.getElem?_toArray, List.getElem?_cons_succ, List.getElem?_cons_zero] at c1 c2 c3)
  generalize bC 32 [] = C2
  refine (HF.out _).mono ?_
  rintro e w' ⟨rfl, rfl⟩
  go_wp2_with fail
  refine (HB.out _).mono ?_
  rintro e w' ⟨rfl, rfl⟩
  go_wp2_with fail
  refine (HN.out _).mono ?_
  rintro e w' ⟨rfl, rfl⟩
  go_wp2_with fail
  refine (HR.out _).mono ?_
  rintro e w' ⟨rfl, rfl⟩
  go_wp2_with (refine park_at 32 rfl ?_)
  refine unpark ?_
  have N6 : Rowz v2 v1.heap.size (bC 32 (hashL noB)) 46 := zeroH ▸ N5.out
  refine wpList_exec 32 rfl (by rfl) (.agg (bC 32 (hashL noB))) v2 (execLoadRow 46 rfl v1.heap.size rfl _ 46 _ N6 Try.underlying46 rfl (info32c _)) ?_
  simp only [List.setIfInBounds_toArray, List.set_cons_zero, List.set_cons_succ]
  refine wpList_exec 33 rfl (by rfl) (.agg (bC 32 (hashL noB))) v2 (by kernel_rfl) ?_
  simp only [List.setIfInBounds_toArray, List.set_cons_zero, List.set_cons_succ]
  refine wpList_exec 34 rfl (by rfl) (.bool true) v2 (execEqH1 (hashL noB) (hashL_length _) v2 rfl rfl rfl) ?_
  simp only [List.setIfInBounds_toArray, List.set_cons_zero, List.set_cons_succ]
  clear HF HB HN HR N5 N6
  generalize bC 32 (hashL noB) = C1
  go_wp2_with fail
  refine (HT.out _).mono ?_
  rintro e w' ⟨rfl, rfl⟩
  go_wp2_with fail
  refine (HL.out _).mono ?_
  rintro e w' ⟨rfl, rfl⟩
  go_wp2_with fail
  refine (HE.out _).mono ?_
  rintro e w' ⟨rfl, rfl⟩
  go_wp2_with fail
  refine (HD.out _).mono ?_
  rintro e w' ⟨rfl, rfl⟩
  go_wp2_with fail
  clear HT HL HE HD c1 c2 c3 R1
  have HZ : Hid (Calls Try.prog 10 #[.pointer (some ⟨w.heap.size + 1, 0, none⟩)] v2 fun e w' => e = .returned (.int .i64 0) ∧ v2 = w') := Lib.hid (curDone_any _ ⟨noB, 0⟩ v2 R4.out)
  have HB : Hid (Calls Try.prog 16 #[.pointer (some ⟨w.heap.size + 1, 0, none⟩)] v2 fun e w' => e = .returned (.int .u8 0) ∧ CurAt w' (w.heap.size + 1) ⟨noB, 1⟩ ∧ OnlyC (w.heap.size + 1) v2 w') := Lib.hid (by
    have := curByte_any _ ⟨noB, 0⟩ v2 R4.out
    rw [zero1] at this
    exact this)
  have HE : Hid (∀ v, CurAt v (w.heap.size + 1) ⟨noB, 1⟩ → Calls Try.prog 9 #[.pointer (some ⟨w.heap.size + 1, 0, none⟩)] v fun e w' => e = .returned (.int .i64 1) ∧ v = w') := Lib.hid fun v h => curErr_any _ ⟨noB, 1⟩ v h
  refine HZ.out.mono ?_
  rintro e w' ⟨rfl, rfl⟩
  go_wp2_with fail
  refine HB.out.mono ?_
  rintro e v3 ⟨rfl, R5, O5⟩
  replace R5 := Lib.hid R5
  replace G0 := Lib.hid (O5.grown w G0.out (by omega))
  clear O5
  go_wp2_with fail
  refine (HE.out _ R5.out).mono ?_
  rintro e w' ⟨rfl, rfl⟩
  go_wp2_with fail
  refine (HA.out _).mono ?_
  rintro e v4 ⟨rfl, G4⟩
  go_wp2_with fail
  go_ret
  exact ⟨rfl, Grown.kept (Grown.trans G0.out G4)⟩

set_option maxRecDepth 100000 in
set_option maxHeartbeats 1000000 in
theorem lifted (os : Os) (started : os.Started) (H : Type) (enc : TypeId × Value → H) :
    ReturnsInHanded {} Try.checked os 5 .any (Rows.curNoneSpec.pre6 enc Try.prog Try.f5 Rows.curNoneRow.domain false) (Rows.curNoneSpec.post enc Try.prog Try.f5 false true false false) := by
  refine returnsInHanded_of_change_sized (C := Try.checked) own started (by kernel_rfl) Try.func5
    (ChangeSpec.witness6 (enc := enc) (C := Try.checked) false ⟨#[], #[.agg #[.int .i64 0, .int .i64 0, .int .u64 0, .int .i64 0]], []⟩ 8 (by kernel_rfl) (by kernel_rfl) (by kernel_rfl) (by kernel_rfl)) ?_
  intro W base args ds gs before hval0 hW hcnd hsz0 _
  have hval : ∀ (j : Nat) t v, Try.f5.params[j]? = some t → args[j]? = some v → Value.okWide Try.prog W .any base t v := hval0
  have hsz : (DataW.weightsEach Try.prog (Try.f5.params.toList ++ Rows.curNoneSpec.plain.varTypes Try.prog) (ds ++ gs)).all (· ≤ reachBytes) = true := hsz0
  have hW' := hW
  obtain ⟨p, q, hA0, hV, rfl, hfz, hnd⟩ := hW
  have hA : DataW.TrodAll enc Try.prog W 0 (fun _ => true) true Try.f5.params.toList args.toList ds p := hA0
  have hAk := hA
  rw [Try.params5] at hA hval hsz
  obtain ⟨v0, vs0, d0, ds0, p0_, q0_, hargs, rfl, rfl, h0, r0_⟩ := trodAll_cons hA
  obtain ⟨rfl, rfl, rfl⟩ := trodAll_nil r0_
  obtain rfl : args = #[v0] := by cases args; simp_all
  obtain ⟨rfl, rfl⟩ := trodVars_none hV
  have hlt : ∀ x ∈ (p0_ ++ ([])), x.block < W.heap.size := fun x hx => by simpa using hW'.lt x (by simpa using hx)
  obtain ⟨cs0, rfl, _⟩ := okWide_struct Try.underlying32 (hval 0 32 v0 rfl rfl)
  obtain ⟨a0_0, a0_1, a0_2, a0_3, w0_0, w0_1, w0_2, w0_3, rfl⟩ := open_quad Try.underlying32 (by kernel_rfl) ⟨rfl, rfl, rfl, rfl⟩ ⟨by kernel_rfl, by kernel_rfl, by kernel_rfl, by kernel_rfl⟩ Try.underlying3 Try.underlying3 Try.underlying30 Try.underlying3 h0
  clear hA0 hval0
  refine (walk a0_0 w0_0 a0_1 w0_1 a0_2 w0_2 a0_3 w0_3 W ).mono fun e W' ⟨he, hg⟩ => ?_
  subst he
  exact ⟨_, rfl, ⟨_, _, _, [], _, [], hW', trodAll_cons_mk (shut_bool Try.underlying4 _) trodAll_mk0, trodAll_stays laidOut hg (by kernel_rfl) hAk hlt (fun x hx => by simpa using hlt x hx), rfl, Kept.frame hg _, fun h => by cases h⟩⟩

theorem over : Rows.curNoneRow.holds Try.pinned (OpenSpec.ofChange Rows.curNoneSpec) :=
  OpenClaim.holds_of_wide 5 Try.f5 rfl rfl rfl rfl rfl rfl rfl ⟨rfl, rfl, rfl, rfl, rfl⟩ rfl rfl rfl rfl rfl (by kernel_rfl) Try.func5 (by kernel_rfl)
    (of_decide_eq_true (by kernel_rfl)) (by unfold Func.isWrapper; first | (rw [if_pos (by decide +kernel)]; kernel_rfl) | (rw [if_neg (by decide +kernel)]; exact ⟨rfl, rfl⟩))
    (fun os started H enc _ => lifted os started H enc)
end Go.Proofs.Ytbnaiojbkecofaa.curNone
namespace Go.Proofs.Ytbnaiojbkecofaa
theorem curNone_holds : Rows.CurNoneSaid := curNone.over
#print axioms curNone_holds
end Go.Proofs.Ytbnaiojbkecofaa
