/-
  The greatest id of any level is the target divided by that power of two, as the reference reckons it; chapter 19's examples hold: 'WorkMost' returns true.
  Conditions: none.
-/
import Derived.Test.YtediednghflefaaRows
import Derived.Test.YtediednghflefaaWorkLaw
import Derived.Test.YtediednghflefaaWorkRef
import Derived.WalkKit
import Derived.ProofKit
import Derived.OpenShut
import Derived.ShutString
import Derived.SizedLaws
import Derived.Test.YtediednghflefaaBas
namespace Go.Proofs.Ytediednghflefaa.workMost
open Go.ChangeShapes Go.WideShapes Go.ChangeAt Go.RowKit
open Go.ChangeMaps (open_string shut_string)
set_option linter.unusedVariables false

theorem own : ownKnob Try.prog.godebug = none := by kernel_rfl
theorem laidOut : laidOutB Try.prog = true := by kernel_rfl

set_option maxRecDepth 100000 in
set_option maxHeartbeats 4000000 in
theorem walk (a0 : List UInt8) (n0 : a0.length = 32) (a1 : Int) (w1 : (Lit.int .i64 a1).wf = true) (w : World)  :
    Calls Try.prog 4 #[.agg (bC 32 a0), .int .i64 a1] w fun e w' => e = .returned (.bool true) ∧ Kept w w' := by
  obtain ⟨T, hT, rfl⟩ := hash_num a0 n0
  obtain ⟨h1, h2⟩ := bounds_i64 w1
  have H1 : Hid (∀ w, _) := Lib.hid fun w => workMost_any T a1 w hT h1 h2
  have H2 : Hid (∀ w, _) := Lib.hid fun w => refOf4_any T w
  have H3 : Hid (∀ v w, Bits T v w → _) := Lib.hid fun v w hv => refShr4_any T a1 v w hv hT h1 h2
  have H4 : Hid (∀ v w, Bits (shr256 T a1) v w → _) := Lib.hid fun v w hv => refHash4_any (shr256 T a1) v w hv
  clear hT n0 h1 h2 w1
  have F2 := Lib.hid (Rowz.new w (bC 32 (be 32 T)) 23)
  have K1 := Lib.hid ((Kept.refl w).alloc (.cells (bC 32 (be 32 T)) 23))
  go_enter Try.func4, Try.ntmps4
  go_wp2_with fail
  generalize w.alloc (.cells (bC 32 (be 32 T)) 23) = v1 at F2 K1 ⊢
  refine wp_region_table [(5, .is (.agg (bC 32 (be 32 T)))), (6, .is (.int .i64 a1)), (7, .is (.agg (bC 32 (be 32 (shr256 T a1))))), (8, .is (.agg (bC 32 (be 32 T)))), (9, .such (Bits T) bits_kept), (10, .is (.int .i64 a1)), (11, .such (Bits (shr256 T a1)) bits_kept), (12, .is (.agg (bC 32 (be 32 (shr256 T a1))))), (13, .is (.bool true)), (14, .is (.bool true)), (15, .is (.bool true)), (16, .is (.bool true)), (4, .is (.bool true))] (by kernel_rfl) (by kernel_rfl) ?_ ?_
  · refine ⟨fun t w1 hf hk hp => ?_, ?_⟩
    · have h2 : slot t 2 = .pointer (some ⟨w.heap.size, 0, none⟩) := hf 2 (by kernel_rfl)
      clear hf hp
      refine stepAt_plain rfl ?_
      exact stepOK_pure (.agg (bC 32 (be 32 T))) (loadH19 rfl h2 (F2.out.kept hk)) rfl
    refine ⟨fun t w1 hf hk hp => ?_, ?_⟩
    · have h1 : slot t 1 = .int .i64 a1 := hf 1 (by kernel_rfl)
      clear hf hp
      refine stepAt_plain rfl ?_
      exact stepOK_move _ (.inl rfl) h1
    refine ⟨fun t w1 hf hk hp => ?_, ?_⟩
    · have h5 : slot t 5 = .agg (bC 32 (be 32 T)) := hp 5 (by kernel_rfl)
      have h6 : slot t 6 = .int .i64 a1 := hp 6 (by kernel_rfl)
      clear hf hp
      refine stepAt_plain rfl ?_
      refine stepOK_call #[.agg (bC 32 (be 32 T)), .int .i64 a1] rfl (by simp only [List.map_toArray, List.map_cons, List.map_nil, evS, h5, h6]) (by go_simp) ((H1.out w1).mono fun e w' ⟨he, hk'⟩ => ⟨_, he, hk', rfl⟩)
    refine ⟨fun t w1 hf hk hp => ?_, ?_⟩
    · have h2 : slot t 2 = .pointer (some ⟨w.heap.size, 0, none⟩) := hf 2 (by kernel_rfl)
      clear hf hp
      refine stepAt_plain rfl ?_
      exact stepOK_pure (.agg (bC 32 (be 32 T))) (loadH19 rfl h2 (F2.out.kept hk)) rfl
    refine ⟨fun t w1 hf hk hp => ?_, ?_⟩
    · have h8 : slot t 8 = .agg (bC 32 (be 32 T)) := hp 8 (by kernel_rfl)
      clear hf hp
      refine stepAt_plain rfl ?_
      refine stepOK_call #[.agg (bC 32 (be 32 T))] rfl (by simp only [List.map_toArray, List.map_cons, List.map_nil, evS, h8]) (by go_simp) ((H2.out w1).mono fun e w' ⟨v, he, hpv, hk'⟩ => ⟨v, he, hk', hpv⟩)
    refine ⟨fun t w1 hf hk hp => ?_, ?_⟩
    · have h1 : slot t 1 = .int .i64 a1 := hf 1 (by kernel_rfl)
      clear hf hp
      refine stepAt_plain rfl ?_
      exact stepOK_move _ (.inl rfl) h1
    refine ⟨fun t w1 hf hk hp => ?_, ?_⟩
    · obtain ⟨v9, h9, p9⟩ : ∃ v, slot t 9 = v ∧ (Bits T) v w1 := ⟨_, rfl, hp 9 (by kernel_rfl)⟩
      have h10 : slot t 10 = .int .i64 a1 := hp 10 (by kernel_rfl)
      clear hf hp
      refine stepAt_plain rfl ?_
      refine stepOK_call #[v9, .int .i64 a1] rfl (by simp only [List.map_toArray, List.map_cons, List.map_nil, evS, h9, h10]) (by go_simp) ((H3.out _ w1 p9).mono fun e w' ⟨v, he, hpv, hk'⟩ => ⟨v, he, hk', hpv⟩)
    refine ⟨fun t w1 hf hk hp => ?_, ?_⟩
    · obtain ⟨v11, h11, p11⟩ : ∃ v, slot t 11 = v ∧ (Bits (shr256 T a1)) v w1 := ⟨_, rfl, hp 11 (by kernel_rfl)⟩
      clear hf hp
      refine stepAt_plain rfl ?_
      refine stepOK_call #[v11] rfl (by simp only [List.map_toArray, List.map_cons, List.map_nil, evS, h11]) (by go_simp) ((H4.out _ w1 p11).mono fun e w' ⟨he, hk'⟩ => ⟨_, he, hk', rfl⟩)
    refine ⟨fun t w1 hf hk hp => ?_, ?_⟩
    · have h7 : slot t 7 = .agg (bC 32 (be 32 (shr256 T a1))) := hp 7 (by kernel_rfl)
      have h12 : slot t 12 = .agg (bC 32 (be 32 (shr256 T a1))) := hp 12 (by kernel_rfl)
      clear hf hp
      refine stepAt_plain rfl ?_
      exact stepOK_pure (.bool true) (execEqH (be 32 (shr256 T a1)) (be_length 32 _) w1 rfl h7 h12) rfl
    refine ⟨fun t w1 hf hk hp => ?_, ?_⟩
    · have h13 : slot t 13 = .bool true := hp 13 (by kernel_rfl)
      clear hf hp
      refine stepAt_plain rfl ?_
      exact stepOK_move _ (.inl rfl) h13
    refine ⟨fun t w1 hf hk hp => ?_, ?_⟩
    · have h14 : slot t 14 = .bool true := hp 14 (by kernel_rfl)
      clear hf hp
      refine stepAt_on 14 true (by kernel_rfl) h14 ?_
      refine stepOK_call #[] rfl (by simp only [List.map_toArray, List.map_nil]) (by go_simp) ((awake19_any w1).mono fun e w' ⟨he, hk'⟩ => ⟨_, he, hk', rfl⟩)
    refine ⟨fun t w1 hf hk hp => ?_, ?_⟩
    · have h14 : slot t 14 = .bool true := hp 14 (by kernel_rfl)
      have h15 : slot t 15 = .bool true := hp 15 (by kernel_rfl)
      clear hf hp
      refine stepAt_plain rfl ?_
      refine stepOK_pure (.bool true) ?_ rfl
      simp only [execOp, evS, h14, h15]
      go_simp
    refine ⟨fun t w1 hf hk hp => ?_, ?_⟩
    · have h16 : slot t 16 = .bool true := hp 16 (by kernel_rfl)
      clear hf hp
      refine stepAt_plain rfl ?_
      exact stepOK_move _ (.inr rfl) h16
    exact trivial
  · intro t w1 hsz hf hk hfacts
    have h4 : slot t 4 = .bool true := hfacts 12 _ rfl 4 rfl
    have h1 : slot t 1 = .int .i64 a1 := hf 1 (by kernel_rfl)
    have h2 : slot t 2 = .pointer (some ⟨w.heap.size, 0, none⟩) := hf 2 (by kernel_rfl)
    have harr : t = #[slot t 0, slot t 1, slot t 2, slot t 3, slot t 4, slot t 5, slot t 6, slot t 7, slot t 8, slot t 9, slot t 10, slot t 11, slot t 12, slot t 13, slot t 14, slot t 15, slot t 16] := arr_eq t 17 hsz
    rw [harr, h4, h1, h2]
    clear harr hfacts hf h4 h1 h2
    generalize slot t 0 = x0; generalize slot t 3 = x3; generalize slot t 5 = x5; generalize slot t 6 = x6; generalize slot t 7 = x7; generalize slot t 8 = x8; generalize slot t 9 = x9; generalize slot t 10 = x10; generalize slot t 11 = x11; generalize slot t 12 = x12; generalize slot t 13 = x13; generalize slot t 14 = x14
    generalize slot t 15 = x15; generalize slot t 16 = x16
    clear hsz t
    have K2 := Lib.hid (K1.out.trans hk)
    clear hk
    go_wp2_with fail
    go_ret
    exact ⟨rfl, K2.out⟩

set_option maxRecDepth 100000 in
set_option maxHeartbeats 1000000 in
theorem lifted (os : Os) (started : os.Started) (H : Type) (enc : TypeId × Value → H) :
    ReturnsInHanded {} Try.checked os 4 .any (Rows.workMostSpec.pre6 enc Try.prog Try.f4 Rows.workMostRow.domain false) (Rows.workMostSpec.post enc Try.prog Try.f4 false true false false) := by
  refine returnsInHanded_of_change_sized (C := Try.checked) own started (by kernel_rfl) Try.func4
    (ChangeSpec.witness6 (enc := enc) (C := Try.checked) false ⟨#[], #[.agg #[.int .u8 0, .int .u8 0, .int .u8 0, .int .u8 0, .int .u8 0, .int .u8 0, .int .u8 0, .int .u8 0, .int .u8 0, .int .u8 0, .int .u8 0, .int .u8 0, .int .u8 0, .int .u8 0, .int .u8 0, .int .u8 0, .int .u8 0, .int .u8 0, .int .u8 0, .int .u8 0, .int .u8 0, .int .u8 0, .int .u8 0, .int .u8 0, .int .u8 0, .int .u8 0, .int .u8 0, .int .u8 0, .int .u8 0, .int .u8 0, .int .u8 0, .int .u8 0], .int .i64 0], []⟩ 8 (by kernel_rfl) (by kernel_rfl) (by kernel_rfl) (by kernel_rfl)) ?_
  intro W base args ds gs before hval0 hW hcnd hsz0 _
  have hval : ∀ (j : Nat) t v, Try.f4.params[j]? = some t → args[j]? = some v → Value.okWide Try.prog W .any base t v := hval0
  have hsz : (DataW.weightsEach Try.prog (Try.f4.params.toList ++ Rows.workMostSpec.plain.varTypes Try.prog) (ds ++ gs)).all (· ≤ reachBytes) = true := hsz0
  have hW' := hW
  obtain ⟨p, q, hA0, hV, rfl, hfz, hnd⟩ := hW
  have hA : DataW.TrodAll enc Try.prog W 0 (fun _ => true) true Try.f4.params.toList args.toList ds p := hA0
  have hAk := hA
  rw [Try.params4] at hA hval hsz
  obtain ⟨v0, vs0, d0, ds0, p0_, q0_, hargs, rfl, rfl, h0, r0_⟩ := trodAll_cons hA
  obtain ⟨v1, vs1, d1, ds1, p1_, q1_, rfl, rfl, rfl, h1, r1_⟩ := trodAll_cons r0_
  obtain ⟨rfl, rfl, rfl⟩ := trodAll_nil r1_
  obtain rfl : args = #[v0, v1] := by cases args; simp_all
  obtain ⟨rfl, rfl⟩ := trodVars_none hV
  have hlt : ∀ x ∈ (p0_ ++ (p1_ ++ ([]))), x.block < W.heap.size := fun x hx => by simpa using hW'.lt x (by simpa using hx)
  obtain ⟨cs0, rfl⟩ : ∃ cs, v0 = .agg cs := by
    have := hval 0 23 v0 rfl rfl
    simp only [Value.okWide, Try.underlying23] at this
    obtain ⟨cs, h, _⟩ := this
    exact ⟨cs, h⟩
  obtain ⟨a0, n0, rfl⟩ := open_hash Try.underlying23 Try.underlying5 (by kernel_rfl) (by kernel_rfl) h0
  obtain ⟨a1, rfl, rfl, rfl, w1⟩ := open_int Try.underlying3 (hval 1 3 v1 rfl rfl) h1
  clear hA0 hval0
  refine (walk a0 n0 a1 w1 W ).mono fun e W' ⟨he, hg⟩ => ?_
  subst he
  exact ⟨_, rfl, ⟨_, _, _, [], _, [], hW', trodAll_cons_mk (shut_bool Try.underlying4 _) trodAll_mk0, trodAll_stays laidOut hg (by kernel_rfl) hAk hlt (fun x hx => by simpa using hlt x hx), rfl, Kept.frame hg _, fun h => by cases h⟩⟩

theorem over : Rows.workMostRow.holds Try.pinned (OpenSpec.ofChange Rows.workMostSpec) :=
  OpenClaim.holds_of_wide 4 Try.f4 rfl rfl rfl rfl rfl rfl rfl ⟨rfl, rfl, rfl, rfl, rfl⟩ rfl rfl rfl rfl rfl (by kernel_rfl) Try.func4 (by kernel_rfl)
    (of_decide_eq_true (by kernel_rfl)) (by unfold Func.isWrapper; first | (rw [if_pos (by decide +kernel)]; kernel_rfl) | (rw [if_neg (by decide +kernel)]; exact ⟨rfl, rfl⟩))
    (fun os started H enc _ => lifted os started H enc)
end Go.Proofs.Ytediednghflefaa.workMost
namespace Go.Proofs.Ytediednghflefaa
theorem workMost_holds : Rows.WorkMostSaid := workMost.over
#print axioms workMost_holds
end Go.Proofs.Ytediednghflefaa
