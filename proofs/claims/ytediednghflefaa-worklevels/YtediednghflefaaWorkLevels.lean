/-
  Whether any id has work by any target, and its level, are the reference's answers; chapter 19's examples hold: 'WorkLevels' returns true.
  Conditions: none.
-/
import Derived.Test.YtediednghflefaaRows
import Derived.Test.YtediednghflefaaWorkLaw
import Derived.Test.YtediednghflefaaWorkRef
import Derived.WalkKit
import Derived.ProofKit
import Derived.OpenShut
import Derived.ShutString
import Derived.SizedLaws
import Derived.Test.YtediednghflefaaBas
namespace Go.Proofs.Ytediednghflefaa.workLevels
open Go.ChangeShapes Go.WideShapes Go.ChangeAt Go.RowKit
open Go.ChangeMaps (open_string shut_string)
set_option linter.unusedVariables false

theorem own : ownKnob Try.prog.godebug = none := by kernel_rfl
theorem laidOut : laidOutB Try.prog = true := by kernel_rfl

set_option maxRecDepth 100000 in
set_option maxHeartbeats 4000000 in
theorem walk (a0 : List UInt8) (n0 : a0.length = 32) (a1 : List UInt8) (n1 : a1.length = 32) (w : World)  :
    Calls Try.prog 3 #[.agg (bC 32 a0), .agg (bC 32 a1)] w fun e w' => e = .returned (.bool true) ∧ Kept w w' := by
  obtain ⟨A, hA, rfl⟩ := hash_num a0 n0
  obtain ⟨T, hT, rfl⟩ := hash_num a1 n1
  have H1 : Hid (∀ w, _) := Lib.hid fun w => workOk_any A T w hA hT
  have H2 : Hid (∀ w, _) := Lib.hid fun w => refOk17_any A T w hA hT
  have H3 : Hid (∀ w, _) := Lib.hid fun w => workLevel_any A T w hA hT
  have H4 : Hid (∀ w, _) := Lib.hid fun w => refLevel17_any A T w hA hT
  clear hA hT n0 n1
  generalize decide (A ≤ T) = b at H1 H2
  generalize lvl A T = l at H3 H4
  have hb : (b == b) = true := by simp
  have hl : (l == l) = true := by simp
  have F2 := Lib.hid ((Rowz.new w (bC 32 (be 32 A)) 23).alloc (.cells (bC 32 (be 32 T)) 23))
  have F3 := Lib.hid (Rowz.newEq1 w (.cells (bC 32 (be 32 A)) 23) _ (bC 32 (be 32 T)) 23 rfl)
  have K1 := Lib.hid (((Kept.refl w).alloc (.cells (bC 32 (be 32 A)) 23)).alloc (.cells (bC 32 (be 32 T)) 23))
  go_enter Try.func3, Try.ntmps3
  go_wp2_with fail
  generalize (w.alloc (.cells (bC 32 (be 32 A)) 23)).alloc (.cells (bC 32 (be 32 T)) 23) = v1 at F2 F3 K1 ⊢
  refine wp_region_table [(5, .is (.agg (bC 32 (be 32 A)))), (6, .is (.agg (bC 32 (be 32 T)))), (7, .is (.bool b)), (8, .is (.agg (bC 32 (be 32 A)))), (9, .is (.agg (bC 32 (be 32 T)))), (10, .is (.bool b)), (11, .is (.bool true)), (12, .is (.bool true)), (13, .is (.agg (bC 32 (be 32 A)))), (14, .is (.agg (bC 32 (be 32 T)))), (15, .is (.int .i64 l)), (16, .is (.agg (bC 32 (be 32 A)))), (17, .is (.agg (bC 32 (be 32 T)))), (18, .is (.int .i64 l)), (19, .is (.bool true)), (20, .is (.bool true)), (21, .is (.bool true)), (22, .is (.bool true)), (23, .is (.bool true)), (4, .is (.bool true))] (by kernel_rfl) (by kernel_rfl) ?_ ?_
  · refine ⟨fun t w1 hf hk hp => ?_, ?_⟩
    · have h2 : slot t 2 = .pointer (some ⟨w.heap.size, 0, none⟩) := hf 2 (by kernel_rfl)
      clear hf hp
      refine stepAt_plain rfl ?_
      exact stepOK_pure (.agg (bC 32 (be 32 A))) (loadH19 rfl h2 (F2.out.kept hk)) rfl
    refine ⟨fun t w1 hf hk hp => ?_, ?_⟩
    · have h3 : slot t 3 = .pointer (some ⟨w.heap.size + 1, 0, none⟩) := hf 3 (by kernel_rfl)
      clear hf hp
      refine stepAt_plain rfl ?_
      exact stepOK_pure (.agg (bC 32 (be 32 T))) (loadH19 rfl h3 (F3.out.kept hk)) rfl
    refine ⟨fun t w1 hf hk hp => ?_, ?_⟩
    · have h5 : slot t 5 = .agg (bC 32 (be 32 A)) := hp 5 (by kernel_rfl)
      have h6 : slot t 6 = .agg (bC 32 (be 32 T)) := hp 6 (by kernel_rfl)
      clear hf hp
      refine stepAt_plain rfl ?_
      refine stepOK_call #[.agg (bC 32 (be 32 A)), .agg (bC 32 (be 32 T))] rfl (by simp only [List.map_toArray, List.map_cons, List.map_nil, evS, h5, h6]) (by go_simp) ((H1.out w1).mono fun e w' ⟨he, hk'⟩ => ⟨_, he, hk', rfl⟩)
    refine ⟨fun t w1 hf hk hp => ?_, ?_⟩
    · have h2 : slot t 2 = .pointer (some ⟨w.heap.size, 0, none⟩) := hf 2 (by kernel_rfl)
      clear hf hp
      refine stepAt_plain rfl ?_
      exact stepOK_pure (.agg (bC 32 (be 32 A))) (loadH19 rfl h2 (F2.out.kept hk)) rfl
    refine ⟨fun t w1 hf hk hp => ?_, ?_⟩
    · have h3 : slot t 3 = .pointer (some ⟨w.heap.size + 1, 0, none⟩) := hf 3 (by kernel_rfl)
      clear hf hp
      refine stepAt_plain rfl ?_
      exact stepOK_pure (.agg (bC 32 (be 32 T))) (loadH19 rfl h3 (F3.out.kept hk)) rfl
    refine ⟨fun t w1 hf hk hp => ?_, ?_⟩
    · have h8 : slot t 8 = .agg (bC 32 (be 32 A)) := hp 8 (by kernel_rfl)
      have h9 : slot t 9 = .agg (bC 32 (be 32 T)) := hp 9 (by kernel_rfl)
      clear hf hp
      refine stepAt_plain rfl ?_
      refine stepOK_call #[.agg (bC 32 (be 32 A)), .agg (bC 32 (be 32 T))] rfl (by simp only [List.map_toArray, List.map_cons, List.map_nil, evS, h8, h9]) (by go_simp) ((H2.out w1).mono fun e w' ⟨he, hk'⟩ => ⟨_, he, hk', rfl⟩)
    refine ⟨fun t w1 hf hk hp => ?_, ?_⟩
    · have h7 : slot t 7 = .bool b := hp 7 (by kernel_rfl)
      have h10 : slot t 10 = .bool b := hp 10 (by kernel_rfl)
      clear hf hp
      refine stepAt_plain rfl ?_
      have hq0 := hb
      refine stepOK_pure (.bool true) ?_ rfl
      simp only [execOp, evS, h7, h10]
      go_simp
    refine ⟨fun t w1 hf hk hp => ?_, ?_⟩
    · have h11 : slot t 11 = .bool true := hp 11 (by kernel_rfl)
      clear hf hp
      refine stepAt_plain rfl ?_
      exact stepOK_move _ (.inl rfl) h11
    refine ⟨fun t w1 hf hk hp => ?_, ?_⟩
    · have h2 : slot t 2 = .pointer (some ⟨w.heap.size, 0, none⟩) := hf 2 (by kernel_rfl)
      have h12 : slot t 12 = .bool true := hp 12 (by kernel_rfl)
      clear hf hp
      refine stepAt_on 12 true (by kernel_rfl) h12 ?_
      exact stepOK_pure (.agg (bC 32 (be 32 A))) (loadH19 rfl h2 (F2.out.kept hk)) rfl
    refine ⟨fun t w1 hf hk hp => ?_, ?_⟩
    · have h3 : slot t 3 = .pointer (some ⟨w.heap.size + 1, 0, none⟩) := hf 3 (by kernel_rfl)
      have h12 : slot t 12 = .bool true := hp 12 (by kernel_rfl)
      clear hf hp
      refine stepAt_on 12 true (by kernel_rfl) h12 ?_
      exact stepOK_pure (.agg (bC 32 (be 32 T))) (loadH19 rfl h3 (F3.out.kept hk)) rfl
    refine ⟨fun t w1 hf hk hp => ?_, ?_⟩
    · have h13 : slot t 13 = .agg (bC 32 (be 32 A)) := hp 13 (by kernel_rfl)
      have h14 : slot t 14 = .agg (bC 32 (be 32 T)) := hp 14 (by kernel_rfl)
      have h12 : slot t 12 = .bool true := hp 12 (by kernel_rfl)
      clear hf hp
      refine stepAt_on 12 true (by kernel_rfl) h12 ?_
      refine stepOK_call #[.agg (bC 32 (be 32 A)), .agg (bC 32 (be 32 T))] rfl (by simp only [List.map_toArray, List.map_cons, List.map_nil, evS, h13, h14]) (by go_simp) ((H3.out w1).mono fun e w' ⟨he, hk'⟩ => ⟨_, he, hk', rfl⟩)
    refine ⟨fun t w1 hf hk hp => ?_, ?_⟩
    · have h2 : slot t 2 = .pointer (some ⟨w.heap.size, 0, none⟩) := hf 2 (by kernel_rfl)
      have h12 : slot t 12 = .bool true := hp 12 (by kernel_rfl)
      clear hf hp
      refine stepAt_on 12 true (by kernel_rfl) h12 ?_
      exact stepOK_pure (.agg (bC 32 (be 32 A))) (loadH19 rfl h2 (F2.out.kept hk)) rfl
    refine ⟨fun t w1 hf hk hp => ?_, ?_⟩
    · have h3 : slot t 3 = .pointer (some ⟨w.heap.size + 1, 0, none⟩) := hf 3 (by kernel_rfl)
      have h12 : slot t 12 = .bool true := hp 12 (by kernel_rfl)
      clear hf hp
      refine stepAt_on 12 true (by kernel_rfl) h12 ?_
      exact stepOK_pure (.agg (bC 32 (be 32 T))) (loadH19 rfl h3 (F3.out.kept hk)) rfl
    refine ⟨fun t w1 hf hk hp => ?_, ?_⟩
    · have h16 : slot t 16 = .agg (bC 32 (be 32 A)) := hp 16 (by kernel_rfl)
      have h17 : slot t 17 = .agg (bC 32 (be 32 T)) := hp 17 (by kernel_rfl)
      have h12 : slot t 12 = .bool true := hp 12 (by kernel_rfl)
      clear hf hp
      refine stepAt_on 12 true (by kernel_rfl) h12 ?_
      refine stepOK_call #[.agg (bC 32 (be 32 A)), .agg (bC 32 (be 32 T))] rfl (by simp only [List.map_toArray, List.map_cons, List.map_nil, evS, h16, h17]) (by go_simp) ((H4.out w1).mono fun e w' ⟨he, hk'⟩ => ⟨_, he, hk', rfl⟩)
    refine ⟨fun t w1 hf hk hp => ?_, ?_⟩
    · have h15 : slot t 15 = .int .i64 l := hp 15 (by kernel_rfl)
      have h18 : slot t 18 = .int .i64 l := hp 18 (by kernel_rfl)
      have h12 : slot t 12 = .bool true := hp 12 (by kernel_rfl)
      clear hf hp
      refine stepAt_on 12 true (by kernel_rfl) h12 ?_
      have hq0 := hl
      refine stepOK_pure (.bool true) ?_ rfl
      simp only [execOp, evS, h15, h18]
      go_simp
    refine ⟨fun t w1 hf hk hp => ?_, ?_⟩
    · have h12 : slot t 12 = .bool true := hp 12 (by kernel_rfl)
      have h19 : slot t 19 = .bool true := hp 19 (by kernel_rfl)
      clear hf hp
      refine stepAt_plain rfl ?_
      refine stepOK_pure (.bool true) ?_ rfl
      simp only [execOp, evS, h12, h19]
      go_simp
    refine ⟨fun t w1 hf hk hp => ?_, ?_⟩
    · have h20 : slot t 20 = .bool true := hp 20 (by kernel_rfl)
      clear hf hp
      refine stepAt_plain rfl ?_
      exact stepOK_move _ (.inl rfl) h20
    refine ⟨fun t w1 hf hk hp => ?_, ?_⟩
    · have h21 : slot t 21 = .bool true := hp 21 (by kernel_rfl)
      clear hf hp
      refine stepAt_on 21 true (by kernel_rfl) h21 ?_
      refine stepOK_call #[] rfl (by simp only [List.map_toArray, List.map_nil]) (by go_simp) ((awake19_any w1).mono fun e w' ⟨he, hk'⟩ => ⟨_, he, hk', rfl⟩)
    refine ⟨fun t w1 hf hk hp => ?_, ?_⟩
    · have h21 : slot t 21 = .bool true := hp 21 (by kernel_rfl)
      have h22 : slot t 22 = .bool true := hp 22 (by kernel_rfl)
      clear hf hp
      refine stepAt_plain rfl ?_
      refine stepOK_pure (.bool true) ?_ rfl
      simp only [execOp, evS, h21, h22]
      go_simp
    refine ⟨fun t w1 hf hk hp => ?_, ?_⟩
    · have h23 : slot t 23 = .bool true := hp 23 (by kernel_rfl)
      clear hf hp
      refine stepAt_plain rfl ?_
      exact stepOK_move _ (.inr rfl) h23
    exact trivial
  · intro t w1 hsz hf hk hfacts
    have h4 : slot t 4 = .bool true := hfacts 19 _ rfl 4 rfl
    have h2 : slot t 2 = .pointer (some ⟨w.heap.size, 0, none⟩) := hf 2 (by kernel_rfl)
    have h3 : slot t 3 = .pointer (some ⟨w.heap.size + 1, 0, none⟩) := hf 3 (by kernel_rfl)
    have harr : t = #[slot t 0, slot t 1, slot t 2, slot t 3, slot t 4, slot t 5, slot t 6, slot t 7, slot t 8, slot t 9, slot t 10, slot t 11, slot t 12, slot t 13, slot t 14, slot t 15, slot t 16, slot t 17, slot t 18, slot t 19, slot t 20, slot t 21, slot t 22, slot t 23] := arr_eq t 24 hsz
    rw [harr, h4, h2, h3]
    clear harr hfacts hf h4 h2 h3
    generalize slot t 0 = x0; generalize slot t 1 = x1; generalize slot t 5 = x5; generalize slot t 6 = x6; generalize slot t 7 = x7; generalize slot t 8 = x8; generalize slot t 9 = x9; generalize slot t 10 = x10; generalize slot t 11 = x11; generalize slot t 12 = x12; generalize slot t 13 = x13; generalize slot t 14 = x14
    generalize slot t 15 = x15; generalize slot t 16 = x16; generalize slot t 17 = x17; generalize slot t 18 = x18; generalize slot t 19 = x19; generalize slot t 20 = x20; generalize slot t 21 = x21; generalize slot t 22 = x22; generalize slot t 23 = x23
    clear hsz t
    have K2 := Lib.hid (K1.out.trans hk)
    clear hk
    go_wp2_with fail
    go_ret
    exact ⟨rfl, K2.out⟩

set_option maxRecDepth 100000 in
set_option maxHeartbeats 1000000 in
theorem lifted (os : Os) (started : os.Started) (H : Type) (enc : TypeId × Value → H) :
    ReturnsInHanded {} Try.checked os 3 .any (Rows.workLevelsSpec.pre6 enc Try.prog Try.f3 Rows.workLevelsRow.domain false) (Rows.workLevelsSpec.post enc Try.prog Try.f3 false true false false) := by
  refine returnsInHanded_of_change_sized (C := Try.checked) own started (by kernel_rfl) Try.func3
    (ChangeSpec.witness6 (enc := enc) (C := Try.checked) false ⟨#[], #[.agg #[.int .u8 0, .int .u8 0, .int .u8 0, .int .u8 0, .int .u8 0, .int .u8 0, .int .u8 0, .int .u8 0, .int .u8 0, .int .u8 0, .int .u8 0, .int .u8 0, .int .u8 0, .int .u8 0, .int .u8 0, .int .u8 0, .int .u8 0, .int .u8 0, .int .u8 0, .int .u8 0, .int .u8 0, .int .u8 0, .int .u8 0, .int .u8 0, .int .u8 0, .int .u8 0, .int .u8 0, .int .u8 0, .int .u8 0, .int .u8 0, .int .u8 0, .int .u8 0], .agg #[.int .u8 0, .int .u8 0, .int .u8 0, .int .u8 0, .int .u8 0, .int .u8 0, .int .u8 0, .int .u8 0, .int .u8 0, .int .u8 0, .int .u8 0, .int .u8 0, .int .u8 0, .int .u8 0, .int .u8 0, .int .u8 0, .int .u8 0, .int .u8 0, .int .u8 0, .int .u8 0, .int .u8 0, .int .u8 0, .int .u8 0, .int .u8 0, .int .u8 0, .int .u8 0, .int .u8 0, .int .u8 0, .int .u8 0, .int .u8 0, .int .u8 0, .int .u8 0]], []⟩ 8 (by kernel_rfl) (by kernel_rfl) (by kernel_rfl) (by kernel_rfl)) ?_
  intro W base args ds gs before hval0 hW hcnd hsz0 _
  have hval : ∀ (j : Nat) t v, Try.f3.params[j]? = some t → args[j]? = some v → Value.okWide Try.prog W .any base t v := hval0
  have hsz : (DataW.weightsEach Try.prog (Try.f3.params.toList ++ Rows.workLevelsSpec.plain.varTypes Try.prog) (ds ++ gs)).all (· ≤ reachBytes) = true := hsz0
  have hW' := hW
  obtain ⟨p, q, hA0, hV, rfl, hfz, hnd⟩ := hW
  have hA : DataW.TrodAll enc Try.prog W 0 (fun _ => true) true Try.f3.params.toList args.toList ds p := hA0
  have hAk := hA
  rw [Try.params3] at hA hval hsz
  obtain ⟨v0, vs0, d0, ds0, p0_, q0_, hargs, rfl, rfl, h0, r0_⟩ := trodAll_cons hA
  obtain ⟨v1, vs1, d1, ds1, p1_, q1_, rfl, rfl, rfl, h1, r1_⟩ := trodAll_cons r0_
  obtain ⟨rfl, rfl, rfl⟩ := trodAll_nil r1_
  obtain rfl : args = #[v0, v1] := by cases args; simp_all
  obtain ⟨rfl, rfl⟩ := trodVars_none hV
  have hlt : ∀ x ∈ (p0_ ++ (p1_ ++ ([]))), x.block < W.heap.size := fun x hx => by simpa using hW'.lt x (by simpa using hx)
  obtain ⟨cs0, rfl⟩ : ∃ cs, v0 = .agg cs := by
    have := hval 0 23 v0 rfl rfl
    simp only [Value.okWide, Try.underlying23] at this
    obtain ⟨cs, h, _⟩ := this
    exact ⟨cs, h⟩
  obtain ⟨a0, n0, rfl⟩ := open_hash Try.underlying23 Try.underlying5 (by kernel_rfl) (by kernel_rfl) h0
  obtain ⟨cs1, rfl⟩ : ∃ cs, v1 = .agg cs := by
    have := hval 1 23 v1 rfl rfl
    simp only [Value.okWide, Try.underlying23] at this
    obtain ⟨cs, h, _⟩ := this
    exact ⟨cs, h⟩
  obtain ⟨a1, n1, rfl⟩ := open_hash Try.underlying23 Try.underlying5 (by kernel_rfl) (by kernel_rfl) h1
  clear hA0 hval0
  refine (walk a0 n0 a1 n1 W ).mono fun e W' ⟨he, hg⟩ => ?_
  subst he
  exact ⟨_, rfl, ⟨_, _, _, [], _, [], hW', trodAll_cons_mk (shut_bool Try.underlying4 _) trodAll_mk0, trodAll_stays laidOut hg (by kernel_rfl) hAk hlt (fun x hx => by simpa using hlt x hx), rfl, Kept.frame hg _, fun h => by cases h⟩⟩

theorem over : Rows.workLevelsRow.holds Try.pinned (OpenSpec.ofChange Rows.workLevelsSpec) :=
  OpenClaim.holds_of_wide 3 Try.f3 rfl rfl rfl rfl rfl rfl rfl ⟨rfl, rfl, rfl, rfl, rfl⟩ rfl rfl rfl rfl rfl (by kernel_rfl) Try.func3 (by kernel_rfl)
    (of_decide_eq_true (by kernel_rfl)) (by unfold Func.isWrapper; first | (rw [if_pos (by decide +kernel)]; kernel_rfl) | (rw [if_neg (by decide +kernel)]; exact ⟨rfl, rfl⟩))
    (fun os started H enc _ => lifted os started H enc)
end Go.Proofs.Ytediednghflefaa.workLevels
namespace Go.Proofs.Ytediednghflefaa
theorem workLevels_holds : Rows.WorkLevelsSaid := workLevels.over
#print axioms workLevels_holds
end Go.Proofs.Ytediednghflefaa
