/-
  An id has work by the greatest id of each level up to its own, and of none above it; its level lies between -1 and 255, and is none if and only if it has no work; chapter 19's examples hold: 'WorkJust' returns true.
  Conditions: none.
-/
import Derived.Test.YtediednghflefaaRows
import Derived.Test.YtediednghflefaaWorkLaw
import Derived.Test.YtediednghflefaaWorkRef
import Derived.WalkKit
import Derived.ProofKit
import Derived.OpenShut
import Derived.ShutString
import Derived.SizedLaws
import Derived.Test.YtediednghflefaaBas
namespace Go.Proofs.Ytediednghflefaa.workJust
open Go.ChangeShapes Go.WideShapes Go.ChangeAt Go.RowKit
open Go.ChangeMaps (open_string shut_string)
set_option linter.unusedVariables false

theorem own : ownKnob Try.prog.godebug = none := by kernel_rfl
theorem laidOut : laidOutB Try.prog = true := by kernel_rfl

set_option maxRecDepth 100000 in
set_option maxHeartbeats 4000000 in
theorem walk (a0 : List UInt8) (n0 : a0.length = 32) (a1 : List UInt8) (n1 : a1.length = 32) (a2 : Int) (w2 : (Lit.int .i64 a2).wf = true) (w : World)  :
    Calls Try.prog 5 #[.agg (bC 32 a0), .agg (bC 32 a1), .int .i64 a2] w fun e w' => e = .returned (.bool true) ∧ Kept w w' := by
  obtain ⟨A, hA, rfl⟩ := hash_num a0 n0
  obtain ⟨T, hT, rfl⟩ := hash_num a1 n1
  obtain ⟨b1, b2⟩ := bounds_i64 w2
  have H1 : Hid (∀ w, _) := Lib.hid fun w => workLevel_any A T w hA hT
  have H2 : Hid (∀ w, _) := Lib.hid fun w => workOk_any A T w hA hT
  have H3 : Hid (∀ w, _) := Lib.hid fun w => workMost_any T a2 w hT b1 b2
  have H4 : Hid (∀ w, _) := Lib.hid fun w => workOk_any A (shr256 T a2) w hA (shr256_lt T a2 hT)
  have hlb := lvl_bounds A T
  have hok := lvl_ok A T
  rw [hok] at H2
  have hj : 0 ≤ a2 → a2 ≤ 255 → decide (A ≤ shr256 T a2) = decide (a2 ≤ lvl A T) := fun c1 c2 => by
    obtain ⟨L, rfl⟩ : ∃ L : Nat, a2 = (L : Int) := ⟨a2.toNat, by omega⟩
    rw [shr_nat]
    exact decide_eq_decide.2 (lvl_just A T L (by omega))
  generalize lvl A T = l at H1 H2 hlb hj
  clear hok hA hT n0 n1 w2
  have d1 : decide (l < -1) = false := decide_eq_false (by omega)
  have d2 : decide (l > 255) = false := decide_eq_false (by omega)
  have d2' : decide (255 < l) = false := decide_eq_false (by omega)
  obtain ⟨q, hq⟩ : ∃ q, q = decide (0 ≤ l) := ⟨_, rfl⟩
  have d3 : decide (l ≥ 0) = q := hq.symm
  have d3' : decide (0 ≤ l) = q := hq.symm
  rw [← hq] at H2
  have d4 : (q != q) = false := by cases q <;> rfl
  clear hq hlb
  have F3 := Lib.hid ((Rowz.new w (bC 32 (be 32 A)) 23).alloc (.cells (bC 32 (be 32 T)) 23))
  have F4 := Lib.hid (Rowz.newEq1 w (.cells (bC 32 (be 32 A)) 23) _ (bC 32 (be 32 T)) 23 rfl)
  have K1 := Lib.hid (((Kept.refl w).alloc (.cells (bC 32 (be 32 A)) 23)).alloc (.cells (bC 32 (be 32 T)) 23))
  go_enter Try.func5, Try.ntmps5
  go_wp2_with (first
    | (refine wpList_exec 8 rfl (by rfl) _ _ (loadH19 rfl rfl F3.out) ?_)
    | (refine wpList_exec 9 rfl (by rfl) _ _ (loadH19 rfl rfl F4.out) ?_))
  generalize (w.alloc (.cells (bC 32 (be 32 A)) 23)).alloc (.cells (bC 32 (be 32 T)) 23) = v1 at F3 F4 K1 ⊢
  refine (H1.out v1).mono ?_
  rintro e v2 ⟨rfl, k2⟩
  replace F3 := Lib.hid (F3.out.kept k2)
  replace F4 := Lib.hid (F4.out.kept k2)
  replace K1 := Lib.hid (K1.out.trans k2)
  clear k2 H1
  go_wp2_with (first
    | (refine wpList_exec 20 rfl (by rfl) _ _ (loadH19 rfl rfl F3.out) ?_)
    | (refine wpList_exec 21 rfl (by rfl) _ _ (loadH19 rfl rfl F4.out) ?_))
  refine (H2.out v2).mono ?_
  rintro e v3 ⟨rfl, k3⟩
  replace F3 := Lib.hid (F3.out.kept k3)
  replace F4 := Lib.hid (F4.out.kept k3)
  replace K1 := Lib.hid (K1.out.trans k3)
  clear k3 H2
  by_cases c1 : 0 ≤ a2 ∧ a2 ≤ 255
  · have g1 : decide (a2 < 0) = false := decide_eq_false (by omega)
    have g2 : decide (a2 > 255) = false := decide_eq_false (by omega)
    have g2' : decide (255 < a2) = false := decide_eq_false (by omega)
    have HJ := hj c1.1 c1.2
    obtain ⟨r, hr⟩ : ∃ r, r = decide (a2 ≤ l) := ⟨_, rfl⟩
    rw [HJ, ← hr] at H4
    have g3 : decide (a2 ≤ l) = r := hr.symm
    have g4 : (r == r) = true := by simp
    clear c1 hj HJ hr b1 b2
    go_wp2_with fail
    refine wp_region_table [(32, .is (.agg (bC 32 (be 32 A)))), (33, .is (.agg (bC 32 (be 32 T)))), (34, .is (.int .i64 a2)), (35, .is (.agg (bC 32 (be 32 (shr256 T a2))))), (36, .is (.bool r)), (37, .is (.int .i64 a2)), (38, .is (.int .i64 l)), (39, .is (.bool r)), (40, .is (.bool true)), (41, .is (.bool true)), (42, .is (.bool true)), (43, .is (.bool true)), (6, .is (.bool true))] (by kernel_rfl) (by kernel_rfl) ?_ ?_
    · refine ⟨fun t w1 hf hk hp => ?_, ?_⟩
      · have h3 : slot t 3 = .pointer (some ⟨w.heap.size, 0, none⟩) := hf 3 (by kernel_rfl)
        clear hf hp
        refine stepAt_plain rfl ?_
        exact stepOK_pure (.agg (bC 32 (be 32 A))) (loadH19 rfl h3 (F3.out.kept hk)) rfl
      refine ⟨fun t w1 hf hk hp => ?_, ?_⟩
      · have h4 : slot t 4 = .pointer (some ⟨w.heap.size + 1, 0, none⟩) := hf 4 (by kernel_rfl)
        clear hf hp
        refine stepAt_plain rfl ?_
        exact stepOK_pure (.agg (bC 32 (be 32 T))) (loadH19 rfl h4 (F4.out.kept hk)) rfl
      refine ⟨fun t w1 hf hk hp => ?_, ?_⟩
      · have h2 : slot t 2 = .int .i64 a2 := hf 2 (by kernel_rfl)
        clear hf hp
        refine stepAt_plain rfl ?_
        exact stepOK_move _ (.inl rfl) h2
      refine ⟨fun t w1 hf hk hp => ?_, ?_⟩
      · have h33 : slot t 33 = .agg (bC 32 (be 32 T)) := hp 33 (by kernel_rfl)
        have h34 : slot t 34 = .int .i64 a2 := hp 34 (by kernel_rfl)
        clear hf hp
        refine stepAt_plain rfl ?_
        refine stepOK_call #[.agg (bC 32 (be 32 T)), .int .i64 a2] rfl (by simp only [List.map_toArray, List.map_cons, List.map_nil, evS, h33, h34]) (by go_simp) ((H3.out w1).mono fun e w' ⟨he, hk'⟩ => ⟨_, he, hk', rfl⟩)
      refine ⟨fun t w1 hf hk hp => ?_, ?_⟩
      · have h32 : slot t 32 = .agg (bC 32 (be 32 A)) := hp 32 (by kernel_rfl)
        have h35 : slot t 35 = .agg (bC 32 (be 32 (shr256 T a2))) := hp 35 (by kernel_rfl)
        clear hf hp
        refine stepAt_plain rfl ?_
        refine stepOK_call #[.agg (bC 32 (be 32 A)), .agg (bC 32 (be 32 (shr256 T a2)))] rfl (by simp only [List.map_toArray, List.map_cons, List.map_nil, evS, h32, h35]) (by go_simp) ((H4.out w1).mono fun e w' ⟨he, hk'⟩ => ⟨_, he, hk', rfl⟩)
      refine ⟨fun t w1 hf hk hp => ?_, ?_⟩
      · have h2 : slot t 2 = .int .i64 a2 := hf 2 (by kernel_rfl)
        clear hf hp
        refine stepAt_plain rfl ?_
        exact stepOK_move _ (.inl rfl) h2
      refine ⟨fun t w1 hf hk hp => ?_, ?_⟩
      · have h7 : slot t 7 = .int .i64 l := hf 7 (by kernel_rfl)
        clear hf hp
        refine stepAt_plain rfl ?_
        exact stepOK_move _ (.inl rfl) h7
      refine ⟨fun t w1 hf hk hp => ?_, ?_⟩
      · have h37 : slot t 37 = .int .i64 a2 := hp 37 (by kernel_rfl)
        have h38 : slot t 38 = .int .i64 l := hp 38 (by kernel_rfl)
        clear hf hp
        refine stepAt_plain rfl ?_
        have hq0 := g3
        refine stepOK_pure (.bool r) ?_ rfl
        simp only [execOp, evS, h37, h38]
        go_simp
      refine ⟨fun t w1 hf hk hp => ?_, ?_⟩
      · have h36 : slot t 36 = .bool r := hp 36 (by kernel_rfl)
        have h39 : slot t 39 = .bool r := hp 39 (by kernel_rfl)
        clear hf hp
        refine stepAt_plain rfl ?_
        have hq0 := g4
        refine stepOK_pure (.bool true) ?_ rfl
        simp only [execOp, evS, h36, h39]
        go_simp
      refine ⟨fun t w1 hf hk hp => ?_, ?_⟩
      · have h40 : slot t 40 = .bool true := hp 40 (by kernel_rfl)
        clear hf hp
        refine stepAt_plain rfl ?_
        exact stepOK_move _ (.inl rfl) h40
      refine ⟨fun t w1 hf hk hp => ?_, ?_⟩
      · have h41 : slot t 41 = .bool true := hp 41 (by kernel_rfl)
        clear hf hp
        refine stepAt_on 41 true (by kernel_rfl) h41 ?_
        refine stepOK_call #[] rfl (by simp only [List.map_toArray, List.map_nil]) (by go_simp) ((awake19_any w1).mono fun e w' ⟨he, hk'⟩ => ⟨_, he, hk', rfl⟩)
      refine ⟨fun t w1 hf hk hp => ?_, ?_⟩
      · have h41 : slot t 41 = .bool true := hp 41 (by kernel_rfl)
        have h42 : slot t 42 = .bool true := hp 42 (by kernel_rfl)
        clear hf hp
        refine stepAt_plain rfl ?_
        refine stepOK_pure (.bool true) ?_ rfl
        simp only [execOp, evS, h41, h42]
        go_simp
      refine ⟨fun t w1 hf hk hp => ?_, ?_⟩
      · have h43 : slot t 43 = .bool true := hp 43 (by kernel_rfl)
        clear hf hp
        refine stepAt_plain rfl ?_
        exact stepOK_move _ (.inr rfl) h43
      exact trivial
    · intro t w1 hsz hf hk hfacts
      have h6 : slot t 6 = .bool true := hfacts 12 _ rfl 6 rfl
      have h2 : slot t 2 = .int .i64 a2 := hf 2 (by kernel_rfl)
      have h3 : slot t 3 = .pointer (some ⟨w.heap.size, 0, none⟩) := hf 3 (by kernel_rfl)
      have h4 : slot t 4 = .pointer (some ⟨w.heap.size + 1, 0, none⟩) := hf 4 (by kernel_rfl)
      have h7 : slot t 7 = .int .i64 l := hf 7 (by kernel_rfl)
      have harr : t = #[slot t 0, slot t 1, slot t 2, slot t 3, slot t 4, slot t 5, slot t 6, slot t 7, slot t 8, slot t 9, slot t 10, slot t 11, slot t 12, slot t 13, slot t 14, slot t 15, slot t 16, slot t 17, slot t 18, slot t 19, slot t 20, slot t 21, slot t 22, slot t 23, slot t 24, slot t 25, slot t 26, slot t 27, slot t 28, slot t 29, slot t 30, slot t 31, slot t 32, slot t 33, slot t 34, slot t 35, slot t 36, slot t 37, slot t 38, slot t 39, slot t 40, slot t 41, slot t 42, slot t 43] := arr_eq t 44 hsz
      rw [harr, h6, h2, h3, h4, h7]
      clear harr hfacts hf h6 h2 h3 h4 h7
      generalize slot t 0 = x0; generalize slot t 1 = x1; generalize slot t 5 = x5; generalize slot t 8 = x8; generalize slot t 9 = x9; generalize slot t 10 = x10; generalize slot t 11 = x11; generalize slot t 12 = x12; generalize slot t 13 = x13; generalize slot t 14 = x14; generalize slot t 15 = x15; generalize slot t 16 = x16
      generalize slot t 17 = x17; generalize slot t 18 = x18; generalize slot t 19 = x19; generalize slot t 20 = x20; generalize slot t 21 = x21; generalize slot t 22 = x22; generalize slot t 23 = x23; generalize slot t 24 = x24; generalize slot t 25 = x25; generalize slot t 26 = x26; generalize slot t 27 = x27; generalize slot t 28 = x28
      generalize slot t 29 = x29; generalize slot t 30 = x30; generalize slot t 31 = x31; generalize slot t 32 = x32; generalize slot t 33 = x33; generalize slot t 34 = x34; generalize slot t 35 = x35; generalize slot t 36 = x36; generalize slot t 37 = x37; generalize slot t 38 = x38; generalize slot t 39 = x39; generalize slot t 40 = x40
      generalize slot t 41 = x41; generalize slot t 42 = x42; generalize slot t 43 = x43
      clear hsz t
      have K2 := Lib.hid (K1.out.trans hk)
      clear hk
      go_wp2_with fail
      go_ret
      exact ⟨rfl, K2.out⟩
  · by_cases c2 : a2 < 0
    · have g1 : decide (a2 < 0) = true := decide_eq_true c2
      go_wp2_with fail
      refine (awake19_any _).mono ?_
      rintro e v4 ⟨rfl, k4⟩
      replace K1 := Lib.hid (K1.out.trans k4)
      go_wp2_with fail
      go_ret
      exact ⟨rfl, K1.out⟩
    · have g1 : decide (a2 < 0) = false := decide_eq_false c2
      have g2 : decide (a2 > 255) = true := decide_eq_true (by omega)
      have g2' : decide (255 < a2) = true := decide_eq_true (by omega)
      go_wp2_with fail
      refine (awake19_any _).mono ?_
      rintro e v4 ⟨rfl, k4⟩
      replace K1 := Lib.hid (K1.out.trans k4)
      go_wp2_with fail
      go_ret
      exact ⟨rfl, K1.out⟩

set_option maxRecDepth 100000 in
set_option maxHeartbeats 1000000 in
theorem lifted (os : Os) (started : os.Started) (H : Type) (enc : TypeId × Value → H) :
    ReturnsInHanded {} Try.checked os 5 .any (Rows.workJustSpec.pre6 enc Try.prog Try.f5 Rows.workJustRow.domain false) (Rows.workJustSpec.post enc Try.prog Try.f5 false true false false) := by
  refine returnsInHanded_of_change_sized (C := Try.checked) own started (by kernel_rfl) Try.func5
    (ChangeSpec.witness6 (enc := enc) (C := Try.checked) false ⟨#[], #[.agg #[.int .u8 0, .int .u8 0, .int .u8 0, .int .u8 0, .int .u8 0, .int .u8 0, .int .u8 0, .int .u8 0, .int .u8 0, .int .u8 0, .int .u8 0, .int .u8 0, .int .u8 0, .int .u8 0, .int .u8 0, .int .u8 0, .int .u8 0, .int .u8 0, .int .u8 0, .int .u8 0, .int .u8 0, .int .u8 0, .int .u8 0, .int .u8 0, .int .u8 0, .int .u8 0, .int .u8 0, .int .u8 0, .int .u8 0, .int .u8 0, .int .u8 0, .int .u8 0], .agg #[.int .u8 0, .int .u8 0, .int .u8 0, .int .u8 0, .int .u8 0, .int .u8 0, .int .u8 0, .int .u8 0, .int .u8 0, .int .u8 0, .int .u8 0, .int .u8 0, .int .u8 0, .int .u8 0, .int .u8 0, .int .u8 0, .int .u8 0, .int .u8 0, .int .u8 0, .int .u8 0, .int .u8 0, .int .u8 0, .int .u8 0, .int .u8 0, .int .u8 0, .int .u8 0, .int .u8 0, .int .u8 0, .int .u8 0, .int .u8 0, .int .u8 0, .int .u8 0], .int .i64 0], []⟩ 8 (by kernel_rfl) (by kernel_rfl) (by kernel_rfl) (by kernel_rfl)) ?_
  intro W base args ds gs before hval0 hW hcnd hsz0 _
  have hval : ∀ (j : Nat) t v, Try.f5.params[j]? = some t → args[j]? = some v → Value.okWide Try.prog W .any base t v := hval0
  have hsz : (DataW.weightsEach Try.prog (Try.f5.params.toList ++ Rows.workJustSpec.plain.varTypes Try.prog) (ds ++ gs)).all (· ≤ reachBytes) = true := hsz0
  have hW' := hW
  obtain ⟨p, q, hA0, hV, rfl, hfz, hnd⟩ := hW
  have hA : DataW.TrodAll enc Try.prog W 0 (fun _ => true) true Try.f5.params.toList args.toList ds p := hA0
  have hAk := hA
  rw [Try.params5] at hA hval hsz
  obtain ⟨v0, vs0, d0, ds0, p0_, q0_, hargs, rfl, rfl, h0, r0_⟩ := trodAll_cons hA
  obtain ⟨v1, vs1, d1, ds1, p1_, q1_, rfl, rfl, rfl, h1, r1_⟩ := trodAll_cons r0_
  obtain ⟨v2, vs2, d2, ds2, p2_, q2_, rfl, rfl, rfl, h2, r2_⟩ := trodAll_cons r1_
  obtain ⟨rfl, rfl, rfl⟩ := trodAll_nil r2_
  obtain rfl : args = #[v0, v1, v2] := by cases args; simp_all
  obtain ⟨rfl, rfl⟩ := trodVars_none hV
  have hlt : ∀ x ∈ (p0_ ++ (p1_ ++ (p2_ ++ ([])))), x.block < W.heap.size := fun x hx => by simpa using hW'.lt x (by simpa using hx)
  obtain ⟨cs0, rfl⟩ : ∃ cs, v0 = .agg cs := by
    have := hval 0 23 v0 rfl rfl
    simp only [Value.okWide, Try.underlying23] at this
    obtain ⟨cs, h, _⟩ := this
    exact ⟨cs, h⟩
  obtain ⟨a0, n0, rfl⟩ := open_hash Try.underlying23 Try.underlying5 (by kernel_rfl) (by kernel_rfl) h0
  obtain ⟨cs1, rfl⟩ : ∃ cs, v1 = .agg cs := by
    have := hval 1 23 v1 rfl rfl
    simp only [Value.okWide, Try.underlying23] at this
    obtain ⟨cs, h, _⟩ := this
    exact ⟨cs, h⟩
  obtain ⟨a1, n1, rfl⟩ := open_hash Try.underlying23 Try.underlying5 (by kernel_rfl) (by kernel_rfl) h1
  obtain ⟨a2, rfl, rfl, rfl, w2⟩ := open_int Try.underlying3 (hval 2 3 v2 rfl rfl) h2
  clear hA0 hval0
  refine (walk a0 n0 a1 n1 a2 w2 W ).mono fun e W' ⟨he, hg⟩ => ?_
  subst he
  exact ⟨_, rfl, ⟨_, _, _, [], _, [], hW', trodAll_cons_mk (shut_bool Try.underlying4 _) trodAll_mk0, trodAll_stays laidOut hg (by kernel_rfl) hAk hlt (fun x hx => by simpa using hlt x hx), rfl, Kept.frame hg _, fun h => by cases h⟩⟩

theorem over : Rows.workJustRow.holds Try.pinned (OpenSpec.ofChange Rows.workJustSpec) :=
  OpenClaim.holds_of_wide 5 Try.f5 rfl rfl rfl rfl rfl rfl rfl ⟨rfl, rfl, rfl, rfl, rfl⟩ rfl rfl rfl rfl rfl (by kernel_rfl) Try.func5 (by kernel_rfl)
    (of_decide_eq_true (by kernel_rfl)) (by unfold Func.isWrapper; first | (rw [if_pos (by decide +kernel)]; kernel_rfl) | (rw [if_neg (by decide +kernel)]; exact ⟨rfl, rfl⟩))
    (fun os started H enc _ => lifted os started H enc)
end Go.Proofs.Ytediednghflefaa.workJust
namespace Go.Proofs.Ytediednghflefaa
theorem workJust_holds : Rows.WorkJustSaid := workJust.over
#print axioms workJust_holds
end Go.Proofs.Ytediednghflefaa
