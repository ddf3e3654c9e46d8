/-
  What num.Take takes is what num.Put writes as just those bytes, for every string; where it returns an error, the number and the count are 0; the law's examples hold: 'NumOne' returns true for every input.
  Conditions: none.
-/
import Derived.Test.YtgaaiefmfdpmnaaRows
import Derived.Test.YtgaaiefmfdpmnaaNumLawB
import Derived.Test.YtgaaiefmfdpmnaaLawLib
import Derived.WalkKit
import Derived.ProofKit
import Derived.OpenShut
import Derived.ShutString
import Derived.SizedLaws
import Derived.Test.YtgaaiefmfdpmnaaLawLib
namespace Go.Proofs.Ytgaaiefmfdpmnaa.numOne
open Go.ChangeShapes Go.WideShapes Go.ChangeAt Go.RowKit
open Go.ChangeMaps (open_string shut_string)
set_option linter.unusedVariables false

theorem own : ownKnob Try.prog.godebug = none := by kernel_rfl
theorem laidOut : laidOutB Try.prog = true := by kernel_rfl

set_option maxRecDepth 100000 in
set_option maxHeartbeats 4000000 in
theorem walk (a0 : ByteArray) (w0 : a0.size ≤ maxLen) (r0 : a0.size ≤ 140737488351232) (w : World)  :
    Calls Try.prog 6 #[.string a0] w fun e w' => e = .returned (.bool true) ∧ Kept w w' := by
  have err : ∀ e : Nat, 0 < e → e < 4 → tkL (sl a0) = (0, 0, e) → Calls Try.prog 6 #[.string a0] w fun e w' => e = .returned (.bool true) ∧ Kept w w' := by
    intro e h1 h2 hT
    have H1 := Lib.hid (numTake_at a0 0 0 e hT)
    clear hT
    go_enter Try.func6, Try.ntmps6
    go_wp2_with (first
      | (go_at_call 11; refine (H1.out _).mono ?_; rintro e w1 ⟨rfl, rfl⟩)
      | (go_at_call 10; refine (awake7_any _).mono ?_; rintro e w4 ⟨rfl, k4⟩))
    go_ret
    exact ⟨rfl, k4⟩
  rcases tk_cases (sl a0) with h | h | h | ⟨k, hU, h10, hlt, hc, hz, h9, hT⟩
  · exact err 2 (by omega) (by omega) h
  · exact err 1 (by omega) (by omega) h
  · exact err 3 (by omega) (by omega) h
  · clear err
    have hX := val_fits (sl a0) k h10 hlt h9
    have HE := Lib.hid (vS_taken a0 (k + 1) _ (vs_taken (sl a0) k hU hlt hc hz))
    have H1 := Lib.hid (numTake_at a0 _ (k + 1) 0 hT)
    rw [sl_length] at hlt
    generalize valL ((sl a0).take (k + 1)) = X at hX HE H1
    have H2 : Hid (∀ w, Calls Try.prog 7 #[.int .u64 (X : Int)] w fun e w' => e = .returned (.string (vS X)) ∧ Kept w w') := Lib.hid fun w => numPut_any X w hX
    obtain ⟨n, hn⟩ : ∃ n, n = k + 1 := ⟨_, rfl⟩
    rw [← hn] at HE H1
    rw [HE.out] at H2
    have hns : n ≤ a0.size := by omega
    have hn11 : n < 11 := by omega
    clear hc hz h9 hT hU hn h10 hlt
    go_enter Try.func6, Try.ntmps6
    go_wp2_with (go_at_call 11; refine (H1.out _).mono ?_; rintro e w1 ⟨rfl, rfl⟩)
    refine wp_region_table [(23, .is (.int .i64 n)), (24, .is (.string a0)), (25, .is (.int .i64 a0.size)), (26, .is (.bool true)), (27, .is (.bool true)), (28, .is (.int .u64 X)), (29, .is (.string (a0.extract 0 n))), (30, .is (.string a0)), (31, .is (.int .i64 n)), (32, .is (.string (a0.extract 0 n))), (33, .is (.bool true)), (34, .is (.bool true)), (35, .is (.bool true)), (36, .is (.bool true)), (37, .is (.bool true)), (2, .is (.bool true))] (by kernel_rfl) (by kernel_rfl) ?_ ?_
    · refine ⟨fun t w1 hf hk hp => ?_, ?_⟩
      · have h4 : slot t 4 = .int .i64 n := hf 4 (by kernel_rfl)
        clear hf hp
        refine stepAt_plain rfl ?_
        exact stepOK_move _ (.inl rfl) h4
      refine ⟨fun t w1 hf hk hp => ?_, ?_⟩
      · have h0 : slot t 0 = .string a0 := hf 0 (by kernel_rfl)
        clear hf hp
        refine stepAt_plain rfl ?_
        exact stepOK_move _ (.inl rfl) h0
      refine ⟨fun t w1 hf hk hp => ?_, ?_⟩
      · have h24 : slot t 24 = .string a0 := hp 24 (by kernel_rfl)
        clear hf hp
        refine stepAt_plain rfl ?_
        exact stepOK_pure (.int .i64 a0.size) (execLenS w1 rfl rfl h24) rfl
      refine ⟨fun t w1 hf hk hp => ?_, ?_⟩
      · have h23 : slot t 23 = .int .i64 n := hp 23 (by kernel_rfl)
        have h25 : slot t 25 = .int .i64 a0.size := hp 25 (by kernel_rfl)
        clear hf hp
        refine stepAt_plain rfl ?_
        refine stepOK_pure (.bool true) ?_ rfl
        simp only [execOp, evS, h23, h25]
        go_simp
      refine ⟨fun t w1 hf hk hp => ?_, ?_⟩
      · have h26 : slot t 26 = .bool true := hp 26 (by kernel_rfl)
        clear hf hp
        refine stepAt_plain rfl ?_
        exact stepOK_move _ (.inl rfl) h26
      refine ⟨fun t w1 hf hk hp => ?_, ?_⟩
      · have h3 : slot t 3 = .int .u64 X := hf 3 (by kernel_rfl)
        have h27 : slot t 27 = .bool true := hp 27 (by kernel_rfl)
        clear hf hp
        refine stepAt_on 27 true (by kernel_rfl) h27 ?_
        exact stepOK_move _ (.inl rfl) h3
      refine ⟨fun t w1 hf hk hp => ?_, ?_⟩
      · have h28 : slot t 28 = .int .u64 X := hp 28 (by kernel_rfl)
        have h27 : slot t 27 = .bool true := hp 27 (by kernel_rfl)
        clear hf hp
        refine stepAt_on 27 true (by kernel_rfl) h27 ?_
        refine stepOK_call #[.int .u64 X] rfl (by simp only [List.map_toArray, List.map_cons, List.map_nil, evS, h28]) (by go_simp) ((H2.out w1).mono fun e w' ⟨he, hk'⟩ => ⟨_, he, hk', rfl⟩)
      refine ⟨fun t w1 hf hk hp => ?_, ?_⟩
      · have h0 : slot t 0 = .string a0 := hf 0 (by kernel_rfl)
        have h27 : slot t 27 = .bool true := hp 27 (by kernel_rfl)
        clear hf hp
        refine stepAt_on 27 true (by kernel_rfl) h27 ?_
        exact stepOK_move _ (.inl rfl) h0
      refine ⟨fun t w1 hf hk hp => ?_, ?_⟩
      · have h4 : slot t 4 = .int .i64 n := hf 4 (by kernel_rfl)
        have h27 : slot t 27 = .bool true := hp 27 (by kernel_rfl)
        clear hf hp
        refine stepAt_on 27 true (by kernel_rfl) h27 ?_
        exact stepOK_move _ (.inl rfl) h4
      refine ⟨fun t w1 hf hk hp => ?_, ?_⟩
      · have h30 : slot t 30 = .string a0 := hp 30 (by kernel_rfl)
        have h31 : slot t 31 = .int .i64 n := hp 31 (by kernel_rfl)
        have h27 : slot t 27 = .bool true := hp 27 (by kernel_rfl)
        clear hf hp
        refine stepAt_on 27 true (by kernel_rfl) h27 ?_
        exact stepOK_pure (.string (a0.extract 0 n)) (execCutS w1 rfl h30 h31 hns) rfl
      refine ⟨fun t w1 hf hk hp => ?_, ?_⟩
      · have h29 : slot t 29 = .string (a0.extract 0 n) := hp 29 (by kernel_rfl)
        have h32 : slot t 32 = .string (a0.extract 0 n) := hp 32 (by kernel_rfl)
        have h27 : slot t 27 = .bool true := hp 27 (by kernel_rfl)
        clear hf hp
        refine stepAt_on 27 true (by kernel_rfl) h27 ?_
        refine stepOK_pure (.bool true) ?_ rfl
        simp only [execOp, evS, h29, h32]
        go_simp
      refine ⟨fun t w1 hf hk hp => ?_, ?_⟩
      · have h27 : slot t 27 = .bool true := hp 27 (by kernel_rfl)
        have h33 : slot t 33 = .bool true := hp 33 (by kernel_rfl)
        clear hf hp
        refine stepAt_plain rfl ?_
        refine stepOK_pure (.bool true) ?_ rfl
        simp only [execOp, evS, h27, h33]
        go_simp
      refine ⟨fun t w1 hf hk hp => ?_, ?_⟩
      · have h34 : slot t 34 = .bool true := hp 34 (by kernel_rfl)
        clear hf hp
        refine stepAt_plain rfl ?_
        exact stepOK_move _ (.inl rfl) h34
      refine ⟨fun t w1 hf hk hp => ?_, ?_⟩
      · have h35 : slot t 35 = .bool true := hp 35 (by kernel_rfl)
        clear hf hp
        refine stepAt_on 35 true (by kernel_rfl) h35 ?_
        refine stepOK_call #[] rfl (by simp only [List.map_toArray, List.map_nil]) (by go_simp) ((awake7_any w1).mono fun e w' ⟨he, hk'⟩ => ⟨_, he, hk', rfl⟩)
      refine ⟨fun t w1 hf hk hp => ?_, ?_⟩
      · have h35 : slot t 35 = .bool true := hp 35 (by kernel_rfl)
        have h36 : slot t 36 = .bool true := hp 36 (by kernel_rfl)
        clear hf hp
        refine stepAt_plain rfl ?_
        refine stepOK_pure (.bool true) ?_ rfl
        simp only [execOp, evS, h35, h36]
        go_simp
      refine ⟨fun t w1 hf hk hp => ?_, ?_⟩
      · have h37 : slot t 37 = .bool true := hp 37 (by kernel_rfl)
        clear hf hp
        refine stepAt_plain rfl ?_
        exact stepOK_move _ (.inr rfl) h37
      exact trivial
    · intro t w1 hsz hf hk hfacts
      have h2 : slot t 2 = .bool true := hfacts 15 _ rfl 2 rfl
      have h0 : slot t 0 = .string a0 := hf 0 (by kernel_rfl)
      have h3 : slot t 3 = .int .u64 X := hf 3 (by kernel_rfl)
      have h4 : slot t 4 = .int .i64 n := hf 4 (by kernel_rfl)
      have harr : t = #[slot t 0, slot t 1, slot t 2, slot t 3, slot t 4, slot t 5, slot t 6, slot t 7, slot t 8, slot t 9, slot t 10, slot t 11, slot t 12, slot t 13, slot t 14, slot t 15, slot t 16, slot t 17, slot t 18, slot t 19, slot t 20, slot t 21, slot t 22, slot t 23, slot t 24, slot t 25, slot t 26, slot t 27, slot t 28, slot t 29, slot t 30, slot t 31, slot t 32, slot t 33, slot t 34, slot t 35, slot t 36, slot t 37] := arr_eq t 38 hsz
      rw [harr, h2, h0, h3, h4]
      clear harr hfacts hf h2 h0 h3 h4
      generalize slot t 1 = x1; generalize slot t 5 = x5; generalize slot t 6 = x6; generalize slot t 7 = x7; generalize slot t 8 = x8; generalize slot t 9 = x9; generalize slot t 10 = x10; generalize slot t 11 = x11; generalize slot t 12 = x12; generalize slot t 13 = x13; generalize slot t 14 = x14; generalize slot t 15 = x15
      generalize slot t 16 = x16; generalize slot t 17 = x17; generalize slot t 18 = x18; generalize slot t 19 = x19; generalize slot t 20 = x20; generalize slot t 21 = x21; generalize slot t 22 = x22; generalize slot t 23 = x23; generalize slot t 24 = x24; generalize slot t 25 = x25; generalize slot t 26 = x26; generalize slot t 27 = x27
      generalize slot t 28 = x28; generalize slot t 29 = x29; generalize slot t 30 = x30; generalize slot t 31 = x31; generalize slot t 32 = x32; generalize slot t 33 = x33; generalize slot t 34 = x34; generalize slot t 35 = x35; generalize slot t 36 = x36; generalize slot t 37 = x37
      clear hsz t
      go_wp2_with fail
      go_ret
      exact ⟨rfl, hk⟩

set_option maxRecDepth 100000 in
set_option maxHeartbeats 1000000 in
theorem lifted (os : Os) (started : os.Started) (H : Type) (enc : TypeId × Value → H) :
    ReturnsInHanded {} Try.checked os 6 .any (Rows.numOneSpec.pre6 enc Try.prog Try.f6 Rows.numOneRow.domain false) (Rows.numOneSpec.post enc Try.prog Try.f6 false true false false) := by
  refine returnsInHanded_of_change_sized (C := Try.checked) own started (by kernel_rfl) Try.func6
    (ChangeSpec.witness6 (enc := enc) (C := Try.checked) false ⟨#[], #[.string ByteArray.empty], []⟩ 8 (by kernel_rfl) (by kernel_rfl) (by kernel_rfl) (by kernel_rfl)) ?_
  intro W base args ds gs before hval0 hW hcnd hsz0 _
  have hval : ∀ (j : Nat) t v, Try.f6.params[j]? = some t → args[j]? = some v → Value.okWide Try.prog W .any base t v := hval0
  have hsz : (DataW.weightsEach Try.prog (Try.f6.params.toList ++ Rows.numOneSpec.plain.varTypes Try.prog) (ds ++ gs)).all (· ≤ reachBytes) = true := hsz0
  have hW' := hW
  obtain ⟨p, q, hA0, hV, rfl, hfz, hnd⟩ := hW
  have hA : DataW.TrodAll enc Try.prog W 0 (fun _ => true) true Try.f6.params.toList args.toList ds p := hA0
  have hAk := hA
  rw [Try.params6] at hA hval hsz
  obtain ⟨v0, vs0, d0, ds0, p0_, q0_, hargs, rfl, rfl, h0, r0_⟩ := trodAll_cons hA
  obtain ⟨rfl, rfl, rfl⟩ := trodAll_nil r0_
  obtain rfl : args = #[v0] := by cases args; simp_all
  obtain ⟨rfl, rfl⟩ := trodVars_none hV
  have hlt : ∀ x ∈ (p0_ ++ ([])), x.block < W.heap.size := fun x hx => by simpa using hW'.lt x (by simpa using hx)
  obtain ⟨a0, rfl, rfl, rfl, w0⟩ := open_string Try.underlying9 (hval 0 9 v0 rfl rfl) h0
  have r0 : a0.size ≤ 140737488351232 := by have := sized_string hsz (j := 0) (t := 9) rfl rfl; simpa [reachBytes] using this
  clear hA0 hval0
  refine (walk a0 w0 r0 W ).mono fun e W' ⟨he, hg⟩ => ?_
  subst he
  exact ⟨_, rfl, ⟨_, _, _, [], _, [], hW', trodAll_cons_mk (shut_bool Try.underlying4 _) trodAll_mk0, trodAll_stays laidOut hg (by kernel_rfl) hAk hlt (fun x hx => by simpa using hlt x hx), rfl, Kept.frame hg _, fun h => by cases h⟩⟩

theorem over : Rows.numOneRow.holds Try.pinned (OpenSpec.ofChange Rows.numOneSpec) :=
  OpenClaim.holds_of_wide 6 Try.f6 rfl rfl rfl rfl rfl rfl rfl ⟨rfl, rfl, rfl, rfl, rfl⟩ rfl rfl rfl rfl rfl (by kernel_rfl) Try.func6 (by kernel_rfl)
    (of_decide_eq_true (by kernel_rfl)) (by unfold Func.isWrapper; first | (rw [if_pos (by decide +kernel)]; kernel_rfl) | (rw [if_neg (by decide +kernel)]; exact ⟨rfl, rfl⟩))
    (fun os started H enc _ => lifted os started H enc)
end Go.Proofs.Ytgaaiefmfdpmnaa.numOne
namespace Go.Proofs.Ytgaaiefmfdpmnaa
theorem numOne_holds : Rows.NumOneSaid := numOne.over
#print axioms numOne_holds
end Go.Proofs.Ytgaaiefmfdpmnaa
