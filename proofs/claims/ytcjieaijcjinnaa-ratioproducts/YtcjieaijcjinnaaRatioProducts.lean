/-
  ratio.Product is what digit arithmetic tells, at every two numbers of 32 bits and every power, and 0 and false where up is not between 0 and 255; chapter 6's examples hold: 'RatioProducts' returns true.
  Conditions: none.
-/
import Derived.Test.YtcjieaijcjinnaaRows
import Derived.Test.YtcjieaijcjinnaaRatioWalkB
import Derived.Test.YtcjieaijcjinnaaLawLibB
import Derived.WalkKit
import Derived.ProofKit
import Derived.OpenShut
import Derived.ShutString
import Derived.SizedLaws
import Derived.Test.YtcjieaijcjinnaaLawLib
namespace Go.Proofs.Ytcjieaijcjinnaa.ratioProducts
open Go.ChangeShapes Go.WideShapes Go.ChangeAt Go.RowKit
open Go.ChangeMaps (open_string shut_string)
set_option linter.unusedVariables false

theorem own : ownKnob Try.prog.godebug = none := by kernel_rfl
theorem laidOut : laidOutB Try.prog = true := by kernel_rfl

set_option maxRecDepth 100000 in
set_option maxHeartbeats 4000000 in
theorem walk (a0 : Int) (w0 : (Lit.int .u32 a0).wf = true) (a1 : Int) (w1 : (Lit.int .u32 a1).wf = true) (a2 : Int) (w2 : (Lit.int .i64 a2).wf = true) (w : World)  :
    Calls Try.prog 8 #[.int .u32 a0, .int .u32 a1, .int .i64 a2] w fun e w' => e = .returned (.bool true) ∧ Kept w w' := by
  obtain ⟨h1, h2⟩ := bounds_u32 w0
  obtain ⟨h3, h4⟩ := bounds_u32 w1
  obtain ⟨n, rfl⟩ : ∃ n : Nat, a0 = (n : Int) := ⟨a0.toNat, by omega⟩
  obtain ⟨b, rfl⟩ : ∃ b : Nat, a1 = (b : Int) := ⟨a1.toNat, by omega⟩
  have hn : n < 4294967296 := by omega
  have hb : b < 4294967296 := by omega
  clear w0 w1 w2 h1 h2 h3 h4
  have hgd := guardL
  by_cases hu : a2 < 0 ∨ 255 < a2
  · have hs0 : ∀ w, (Op.equalIn 10000 24 (.agg (lC 0 5)) (.agg (lC 0 5))).run Try.prog w = .ok true w := fun w => by rw [sameL 0 0 pos320 pos320 w]; rfl
    have CP := Lib.hid fun w => product_bad n b a2 w hu
    by_cases h0 : a2 < 0
    · have hd1 : decide (a2 < 0) = true := decide_eq_true h0
      clear hu h0
      go_enter Try.func8, Try.ntmps8
      go_wp2_with (first
        | (go_at_call 36; refine (CP.out _).mono ?_; rintro e v2 ⟨rfl, k2⟩)
        | (refine wpList_store_made rfl 24 (.tmp 7) (.tmp 15) rfl v2 _ (lC 0 5) rfl rfl 24 (lC 0 0) (by kernel_rfl) (infoL _ _) (by simp [lC_size]) (lC_one _ _) ?_; intro v3 R7 K7)
        | (refine park_at 26 rfl ?_))
      refine unpark ?_
      refine wpList_table 8 [(26, .is (.agg (lC 0 5))), (27, .is (.agg (lC 0 5))), (28, .is (.bool true)), (29, .is (.bool true)), (30, .is (.bool true)), (31, .is (.bool true)), (32, .is (.bool true)), (6, .is (.bool true))] (by kernel_rfl) ?_ ?_
      · refine ⟨fun t w1 hf hk hp => ?_, ?_⟩
        · have h7 : slot t 7 = .pointer (some ⟨v2.heap.size, 0, none⟩) := hf 7 (by kernel_rfl)
          have h25 : slot t 25 = .bool true := hf 25 (by kernel_rfl)
          clear hf hp
          refine stepAt_on 25 true (by kernel_rfl) h25 ?_
          have hq0 := Rowz.load (R7.out.kept hk) 5 22 Try.underlying24 (infoL _ _)
          exact stepOK_sem (.agg (lC 0 5)) (by simp only [execOp, evS, h7]) hq0 rfl
        refine ⟨fun t w1 hf hk hp => ?_, ?_⟩
        · have h25 : slot t 25 = .bool true := hf 25 (by kernel_rfl)
          clear hf hp
          refine stepAt_on 25 true (by kernel_rfl) h25 ?_
          refine stepOK_pure (.agg (lC 0 5)) ?_ rfl
          simp only [execOp, evS]
          go_simp
          kernel_rfl
        refine ⟨fun t w1 hf hk hp => ?_, ?_⟩
        · have h26 : slot t 26 = .agg (lC 0 5) := hp 26 (by kernel_rfl)
          have h27 : slot t 27 = .agg (lC 0 5) := hp 27 (by kernel_rfl)
          have h25 : slot t 25 = .bool true := hf 25 (by kernel_rfl)
          clear hf hp
          refine stepAt_on 25 true (by kernel_rfl) h25 ?_
          have hq0 := hs0 w1
          have hq1 := hgd
          refine stepOK_pure (.bool true) ?_ rfl
          simp only [execOp, evS, h26, h27]
          go_simp
        refine ⟨fun t w1 hf hk hp => ?_, ?_⟩
        · have h25 : slot t 25 = .bool true := hf 25 (by kernel_rfl)
          have h28 : slot t 28 = .bool true := hp 28 (by kernel_rfl)
          clear hf hp
          refine stepAt_plain rfl ?_
          refine stepOK_pure (.bool true) ?_ rfl
          simp only [execOp, evS, h25, h28]
          go_simp
        refine ⟨fun t w1 hf hk hp => ?_, ?_⟩
        · have h29 : slot t 29 = .bool true := hp 29 (by kernel_rfl)
          clear hf hp
          refine stepAt_plain rfl ?_
          exact stepOK_move _ (.inl rfl) h29
        refine ⟨fun t w1 hf hk hp => ?_, ?_⟩
        · have h30 : slot t 30 = .bool true := hp 30 (by kernel_rfl)
          clear hf hp
          refine stepAt_on 30 true (by kernel_rfl) h30 ?_
          refine stepOK_call #[] rfl (by simp only [List.map_toArray, List.map_nil]) (by go_simp) ((awake6_any w1).mono fun e w' ⟨he, hk'⟩ => ⟨_, he, hk', rfl⟩)
        refine ⟨fun t w1 hf hk hp => ?_, ?_⟩
        · have h30 : slot t 30 = .bool true := hp 30 (by kernel_rfl)
          have h31 : slot t 31 = .bool true := hp 31 (by kernel_rfl)
          clear hf hp
          refine stepAt_plain rfl ?_
          refine stepOK_pure (.bool true) ?_ rfl
          simp only [execOp, evS, h30, h31]
          go_simp
        refine ⟨fun t w1 hf hk hp => ?_, ?_⟩
        · have h32 : slot t 32 = .bool true := hp 32 (by kernel_rfl)
          clear hf hp
          refine stepAt_plain rfl ?_
          exact stepOK_move _ (.inr rfl) h32
        exact trivial
      · intro t w1 hsz hf hk hfacts
        have h6 : slot t 6 = .bool true := hfacts 6 (by kernel_rfl)
        have h7 : slot t 7 = .pointer (some ⟨v2.heap.size, 0, none⟩) := hf 7 (by kernel_rfl)
        have h25 : slot t 25 = .bool true := hf 25 (by kernel_rfl)
        have harr : t = #[slot t 0, slot t 1, slot t 2, slot t 3, slot t 4, slot t 5, slot t 6, slot t 7, slot t 8, slot t 9, slot t 10, slot t 11, slot t 12, slot t 13, slot t 14, slot t 15, slot t 16, slot t 17, slot t 18, slot t 19, slot t 20, slot t 21, slot t 22, slot t 23, slot t 24, slot t 25, slot t 26, slot t 27, slot t 28, slot t 29, slot t 30, slot t 31, slot t 32, slot t 33, slot t 34, slot t 35, slot t 36, slot t 37, slot t 38, slot t 39, slot t 40, slot t 41, slot t 42, slot t 43, slot t 44, slot t 45, slot t 46, slot t 47, slot t 48, slot t 49, slot t 50, slot t 51, slot t 52, slot t 53] := arr_eq t 54 hsz
        rw [harr, h6, h7, h25]
        clear harr hfacts hf h6 h7 h25
        generalize slot t 0 = x0; generalize slot t 1 = x1; generalize slot t 2 = x2; generalize slot t 3 = x3; generalize slot t 4 = x4; generalize slot t 5 = x5; generalize slot t 8 = x8; generalize slot t 9 = x9; generalize slot t 10 = x10; generalize slot t 11 = x11; generalize slot t 12 = x12; generalize slot t 13 = x13
        generalize slot t 14 = x14; generalize slot t 15 = x15; generalize slot t 16 = x16; generalize slot t 17 = x17; generalize slot t 18 = x18; generalize slot t 19 = x19; generalize slot t 20 = x20; generalize slot t 21 = x21; generalize slot t 22 = x22; generalize slot t 23 = x23; generalize slot t 24 = x24; generalize slot t 26 = x26
        generalize slot t 27 = x27; generalize slot t 28 = x28; generalize slot t 29 = x29; generalize slot t 30 = x30; generalize slot t 31 = x31; generalize slot t 32 = x32; generalize slot t 33 = x33; generalize slot t 34 = x34; generalize slot t 35 = x35; generalize slot t 36 = x36; generalize slot t 37 = x37; generalize slot t 38 = x38
        generalize slot t 39 = x39; generalize slot t 40 = x40; generalize slot t 41 = x41; generalize slot t 42 = x42; generalize slot t 43 = x43; generalize slot t 44 = x44; generalize slot t 45 = x45; generalize slot t 46 = x46; generalize slot t 47 = x47; generalize slot t 48 = x48; generalize slot t 49 = x49; generalize slot t 50 = x50
        generalize slot t 51 = x51; generalize slot t 52 = x52; generalize slot t 53 = x53
        clear hsz t
        simp only [List.drop_succ_cons, List.drop_zero]
        go_wp2
        go_ret
        exact ⟨rfl, (k2.trans K7.out).trans hk⟩
    · have hd1 : decide (a2 < 0) = false := decide_eq_false h0
      have hd2 : decide (255 < a2) = true := decide_eq_true (by omega)
      clear hu h0
      go_enter Try.func8, Try.ntmps8
      go_wp2_with (first
        | (go_at_call 36; refine (CP.out _).mono ?_; rintro e v2 ⟨rfl, k2⟩)
        | (refine wpList_store_made rfl 24 (.tmp 7) (.tmp 15) rfl v2 _ (lC 0 5) rfl rfl 24 (lC 0 0) (by kernel_rfl) (infoL _ _) (by simp [lC_size]) (lC_one _ _) ?_; intro v3 R7 K7)
        | (refine park_at 26 rfl ?_))
      refine unpark ?_
      refine wpList_table 8 [(26, .is (.agg (lC 0 5))), (27, .is (.agg (lC 0 5))), (28, .is (.bool true)), (29, .is (.bool true)), (30, .is (.bool true)), (31, .is (.bool true)), (32, .is (.bool true)), (6, .is (.bool true))] (by kernel_rfl) ?_ ?_
      · refine ⟨fun t w1 hf hk hp => ?_, ?_⟩
        · have h7 : slot t 7 = .pointer (some ⟨v2.heap.size, 0, none⟩) := hf 7 (by kernel_rfl)
          have h25 : slot t 25 = .bool true := hf 25 (by kernel_rfl)
          clear hf hp
          refine stepAt_on 25 true (by kernel_rfl) h25 ?_
          have hq0 := Rowz.load (R7.out.kept hk) 5 22 Try.underlying24 (infoL _ _)
          exact stepOK_sem (.agg (lC 0 5)) (by simp only [execOp, evS, h7]) hq0 rfl
        refine ⟨fun t w1 hf hk hp => ?_, ?_⟩
        · have h25 : slot t 25 = .bool true := hf 25 (by kernel_rfl)
          clear hf hp
          refine stepAt_on 25 true (by kernel_rfl) h25 ?_
          refine stepOK_pure (.agg (lC 0 5)) ?_ rfl
          simp only [execOp, evS]
          go_simp
          kernel_rfl
        refine ⟨fun t w1 hf hk hp => ?_, ?_⟩
        · have h26 : slot t 26 = .agg (lC 0 5) := hp 26 (by kernel_rfl)
          have h27 : slot t 27 = .agg (lC 0 5) := hp 27 (by kernel_rfl)
          have h25 : slot t 25 = .bool true := hf 25 (by kernel_rfl)
          clear hf hp
          refine stepAt_on 25 true (by kernel_rfl) h25 ?_
          have hq0 := hs0 w1
          have hq1 := hgd
          refine stepOK_pure (.bool true) ?_ rfl
          simp only [execOp, evS, h26, h27]
          go_simp
        refine ⟨fun t w1 hf hk hp => ?_, ?_⟩
        · have h25 : slot t 25 = .bool true := hf 25 (by kernel_rfl)
          have h28 : slot t 28 = .bool true := hp 28 (by kernel_rfl)
          clear hf hp
          refine stepAt_plain rfl ?_
          refine stepOK_pure (.bool true) ?_ rfl
          simp only [execOp, evS, h25, h28]
          go_simp
        refine ⟨fun t w1 hf hk hp => ?_, ?_⟩
        · have h29 : slot t 29 = .bool true := hp 29 (by kernel_rfl)
          clear hf hp
          refine stepAt_plain rfl ?_
          exact stepOK_move _ (.inl rfl) h29
        refine ⟨fun t w1 hf hk hp => ?_, ?_⟩
        · have h30 : slot t 30 = .bool true := hp 30 (by kernel_rfl)
          clear hf hp
          refine stepAt_on 30 true (by kernel_rfl) h30 ?_
          refine stepOK_call #[] rfl (by simp only [List.map_toArray, List.map_nil]) (by go_simp) ((awake6_any w1).mono fun e w' ⟨he, hk'⟩ => ⟨_, he, hk', rfl⟩)
        refine ⟨fun t w1 hf hk hp => ?_, ?_⟩
        · have h30 : slot t 30 = .bool true := hp 30 (by kernel_rfl)
          have h31 : slot t 31 = .bool true := hp 31 (by kernel_rfl)
          clear hf hp
          refine stepAt_plain rfl ?_
          refine stepOK_pure (.bool true) ?_ rfl
          simp only [execOp, evS, h30, h31]
          go_simp
        refine ⟨fun t w1 hf hk hp => ?_, ?_⟩
        · have h32 : slot t 32 = .bool true := hp 32 (by kernel_rfl)
          clear hf hp
          refine stepAt_plain rfl ?_
          exact stepOK_move _ (.inr rfl) h32
        exact trivial
      · intro t w1 hsz hf hk hfacts
        have h6 : slot t 6 = .bool true := hfacts 6 (by kernel_rfl)
        have h7 : slot t 7 = .pointer (some ⟨v2.heap.size, 0, none⟩) := hf 7 (by kernel_rfl)
        have h25 : slot t 25 = .bool true := hf 25 (by kernel_rfl)
        have harr : t = #[slot t 0, slot t 1, slot t 2, slot t 3, slot t 4, slot t 5, slot t 6, slot t 7, slot t 8, slot t 9, slot t 10, slot t 11, slot t 12, slot t 13, slot t 14, slot t 15, slot t 16, slot t 17, slot t 18, slot t 19, slot t 20, slot t 21, slot t 22, slot t 23, slot t 24, slot t 25, slot t 26, slot t 27, slot t 28, slot t 29, slot t 30, slot t 31, slot t 32, slot t 33, slot t 34, slot t 35, slot t 36, slot t 37, slot t 38, slot t 39, slot t 40, slot t 41, slot t 42, slot t 43, slot t 44, slot t 45, slot t 46, slot t 47, slot t 48, slot t 49, slot t 50, slot t 51, slot t 52, slot t 53] := arr_eq t 54 hsz
        rw [harr, h6, h7, h25]
        clear harr hfacts hf h6 h7 h25
        generalize slot t 0 = x0; generalize slot t 1 = x1; generalize slot t 2 = x2; generalize slot t 3 = x3; generalize slot t 4 = x4; generalize slot t 5 = x5; generalize slot t 8 = x8; generalize slot t 9 = x9; generalize slot t 10 = x10; generalize slot t 11 = x11; generalize slot t 12 = x12; generalize slot t 13 = x13
        generalize slot t 14 = x14; generalize slot t 15 = x15; generalize slot t 16 = x16; generalize slot t 17 = x17; generalize slot t 18 = x18; generalize slot t 19 = x19; generalize slot t 20 = x20; generalize slot t 21 = x21; generalize slot t 22 = x22; generalize slot t 23 = x23; generalize slot t 24 = x24; generalize slot t 26 = x26
        generalize slot t 27 = x27; generalize slot t 28 = x28; generalize slot t 29 = x29; generalize slot t 30 = x30; generalize slot t 31 = x31; generalize slot t 32 = x32; generalize slot t 33 = x33; generalize slot t 34 = x34; generalize slot t 35 = x35; generalize slot t 36 = x36; generalize slot t 37 = x37; generalize slot t 38 = x38
        generalize slot t 39 = x39; generalize slot t 40 = x40; generalize slot t 41 = x41; generalize slot t 42 = x42; generalize slot t 43 = x43; generalize slot t 44 = x44; generalize slot t 45 = x45; generalize slot t 46 = x46; generalize slot t 47 = x47; generalize slot t 48 = x48; generalize slot t 49 = x49; generalize slot t 50 = x50
        generalize slot t 51 = x51; generalize slot t 52 = x52; generalize slot t 53 = x53
        clear hsz t
        simp only [List.drop_succ_cons, List.drop_zero]
        go_wp2
        go_ret
        exact ⟨rfl, (k2.trans K7.out).trans hk⟩
  · obtain ⟨u, rfl⟩ : ∃ u : Nat, a2 = (u : Int) := ⟨a2.toNat, by omega⟩
    have hu255 : u ≤ 255 := by omega
    have CP := Lib.hid fun w => product_any n b u w hn hb hu255
    have hXL := prod_lt n b u hn hb hu255
    have HXL := Lib.hid hXL
    have hdx : dl (n * b * 2 ^ u) ≤ 1000000 := Nat.le_trans (dl20 _ hXL) (by decide)
    have hdnb : dl (n * b) ≤ 1000 := Nat.le_trans (dl20 _ (by have h := prod_lt n b 0 hn hb (by omega); rwa [Nat.pow_zero, Nat.mul_one] at h)) (by decide)
    have hdp : dl (2 ^ u) ≤ 1000 := by rw [dl_pow]; omega
    have hdn : dl n ≤ 1000 := dl_small n hn
    have hdb : dl b ≤ 1000 := dl_small b hb
    have hu1 : u ≤ 1000 := by omega
    have C1 := Lib.hid fun w => refOf5_any n w (by omega)
    have C2 := Lib.hid fun w => refOf5_any b w (by omega)
    have hd1 : decide ((u : Int) < 0) = false := decide_eq_false (by omega)
    have hd2 : decide ((255 : Int) < (u : Int)) = false := decide_eq_false (by omega)
    have hw1 : IntKind.u64.wrap (b : Int) = (b : Int) := by rw [IntKind.wrap_u64]; omega
    have hw3 : IntKind.u64.wrap (n : Int) = (n : Int) := by rw [IntKind.wrap_u64]; omega
    clear hu hXL
    go_enter Try.func8, Try.ntmps8
    go_wp2_with (first
      | (go_at_call 36; refine (CP.out _).mono ?_; rintro e v2 ⟨rfl, k2⟩)
      | (refine wpList_store_made rfl 24 (.tmp 7) (.tmp 15) rfl v2 _ (lC (n * b * 2 ^ u) 5) rfl rfl 24 (lC 0 0) (by kernel_rfl) (infoL _ _) (by simp [lC_size]) (lC_one _ _) ?_; intro v3 R7 K7)
      | (go_at_call 21; refine (C1.out _).mono ?_; rintro e u1 ⟨x1, rfl, d1, q1⟩; clear C1)
      | (go_at_call 21; refine (C2.out _).mono ?_; rintro e u2 ⟨x2, rfl, d2, q2⟩; clear C2; replace d1 := dig_kept _ _ _ q2 d1)
      | (go_at_call 20; refine (refMul5_any n b _ _ _ d1 d2 hdn hdb).mono ?_; rintro e u3 ⟨x3, rfl, d3, q3⟩; clear d1 d2)
      | (go_at_call 23; refine (refPower5_any u _ hu1).mono ?_; rintro e u4 ⟨x4, rfl, d4, q4⟩; replace d3 := dig_kept _ _ _ q4 d3)
      | (go_at_call 20; refine (refMul5_any (n * b) (2 ^ u) _ _ _ d3 d4 hdnb hdp).mono ?_; rintro e u5 ⟨x5, rfl, d5, q5⟩; clear d3 d4)
      | (refine park_at 45 rfl ?_))
    have KQ := Lib.hid ((((q1.trans q2).trans q3).trans q4).trans q5)
    have R9 := Lib.hid (R7.out.kept KQ.out)
    have KK := Lib.hid ((k2.trans K7.out).trans KQ.out)
    have D5 := Lib.hid d5
    clear q1 q2 q3 q4 q5 R7 k2 K7 KQ d5
    refine unpark ?_
    refine wpList_table 10 [(45, .is (.slice (some ⟨v2.heap.size, 0, none⟩) 5 5)), (46, .such (Dig (n * b * 2 ^ u)) dig_kept), (47, .is (x5)), (48, .is (.int .i64 0)), (49, .is (.bool true)), (50, .is (.bool true)), (51, .is (.bool true)), (52, .is (.bool true)), (53, .is (.bool true)), (6, .is (.bool true))] (by kernel_rfl) ?_ ?_
    · refine ⟨fun t w1 hf hk hp => ?_, ?_⟩
      · have h7 : slot t 7 = .pointer (some ⟨v2.heap.size, 0, none⟩) := hf 7 (by kernel_rfl)
        have h44 : slot t 44 = .bool true := hf 44 (by kernel_rfl)
        clear hf hp
        refine stepAt_on 44 true (by kernel_rfl) h44 ?_
        have hq0 := run_all5 v2.heap.size w1
        exact stepOK_sem (.slice (some ⟨v2.heap.size, 0, none⟩) 5 5) (by simp only [execOp, evS, Option.map_none, h7]) hq0 rfl
      refine ⟨fun t w1 hf hk hp => ?_, ?_⟩
      · have h45 : slot t 45 = .slice (some ⟨v2.heap.size, 0, none⟩) 5 5 := hp 45 (by kernel_rfl)
        have h44 : slot t 44 = .bool true := hf 44 (by kernel_rfl)
        clear hf hp
        refine stepAt_on 44 true (by kernel_rfl) h44 ?_
        refine stepOK_call #[.slice (some ⟨v2.heap.size, 0, none⟩) 5 5] rfl (by simp only [List.map_toArray, List.map_cons, List.map_nil, evS, h45]) (by go_simp) ((limbs5_any (n * b * 2 ^ u) _ w1 (R9.out.kept hk) HXL.out).mono fun e w' ⟨v, he, hpv, hk'⟩ => ⟨v, he, hk', hpv⟩)
      refine ⟨fun t w1 hf hk hp => ?_, ?_⟩
      · have h9 : slot t 9 = x5 := hf 9 (by kernel_rfl)
        have h44 : slot t 44 = .bool true := hf 44 (by kernel_rfl)
        clear hf hp
        refine stepAt_on 44 true (by kernel_rfl) h44 ?_
        exact stepOK_move _ (.inl rfl) h9
      refine ⟨fun t w1 hf hk hp => ?_, ?_⟩
      · obtain ⟨v46, h46, p46⟩ : ∃ v, slot t 46 = v ∧ (Dig (n * b * 2 ^ u)) v w1 := ⟨_, rfl, hp 46 (by kernel_rfl)⟩
        have h47 : slot t 47 = x5 := hp 47 (by kernel_rfl)
        have h44 : slot t 44 = .bool true := hf 44 (by kernel_rfl)
        clear hf hp
        refine stepAt_on 44 true (by kernel_rfl) h44 ?_
        refine stepOK_call #[v46, x5] rfl (by simp only [List.map_toArray, List.map_cons, List.map_nil, evS, h46, h47]) (by go_simp) ((refCmpEq_any (n * b * 2 ^ u) _ _ w1 p46 (dig_kept _ _ _ hk D5.out) hdx).mono fun e w' ⟨he, hk'⟩ => ⟨_, he, hk', rfl⟩)
      refine ⟨fun t w1 hf hk hp => ?_, ?_⟩
      · have h48 : slot t 48 = .int .i64 0 := hp 48 (by kernel_rfl)
        have h44 : slot t 44 = .bool true := hf 44 (by kernel_rfl)
        clear hf hp
        refine stepAt_on 44 true (by kernel_rfl) h44 ?_
        refine stepOK_pure (.bool true) ?_ rfl
        simp only [execOp, evS, h48]
        go_simp
      refine ⟨fun t w1 hf hk hp => ?_, ?_⟩
      · have h44 : slot t 44 = .bool true := hf 44 (by kernel_rfl)
        have h49 : slot t 49 = .bool true := hp 49 (by kernel_rfl)
        clear hf hp
        refine stepAt_plain rfl ?_
        refine stepOK_pure (.bool true) ?_ rfl
        simp only [execOp, evS, h44, h49]
        go_simp
      refine ⟨fun t w1 hf hk hp => ?_, ?_⟩
      · have h50 : slot t 50 = .bool true := hp 50 (by kernel_rfl)
        clear hf hp
        refine stepAt_plain rfl ?_
        exact stepOK_move _ (.inl rfl) h50
      refine ⟨fun t w1 hf hk hp => ?_, ?_⟩
      · have h51 : slot t 51 = .bool true := hp 51 (by kernel_rfl)
        clear hf hp
        refine stepAt_on 51 true (by kernel_rfl) h51 ?_
        refine stepOK_call #[] rfl (by simp only [List.map_toArray, List.map_nil]) (by go_simp) ((awake6_any w1).mono fun e w' ⟨he, hk'⟩ => ⟨_, he, hk', rfl⟩)
      refine ⟨fun t w1 hf hk hp => ?_, ?_⟩
      · have h51 : slot t 51 = .bool true := hp 51 (by kernel_rfl)
        have h52 : slot t 52 = .bool true := hp 52 (by kernel_rfl)
        clear hf hp
        refine stepAt_plain rfl ?_
        refine stepOK_pure (.bool true) ?_ rfl
        simp only [execOp, evS, h51, h52]
        go_simp
      refine ⟨fun t w1 hf hk hp => ?_, ?_⟩
      · have h53 : slot t 53 = .bool true := hp 53 (by kernel_rfl)
        clear hf hp
        refine stepAt_plain rfl ?_
        exact stepOK_move _ (.inr rfl) h53
      exact trivial
    · intro t w1 hsz hf hk hfacts
      have h6 : slot t 6 = .bool true := hfacts 6 (by kernel_rfl)
      have h7 : slot t 7 = .pointer (some ⟨v2.heap.size, 0, none⟩) := hf 7 (by kernel_rfl)
      have h9 : slot t 9 = x5 := hf 9 (by kernel_rfl)
      have h44 : slot t 44 = .bool true := hf 44 (by kernel_rfl)
      have harr : t = #[slot t 0, slot t 1, slot t 2, slot t 3, slot t 4, slot t 5, slot t 6, slot t 7, slot t 8, slot t 9, slot t 10, slot t 11, slot t 12, slot t 13, slot t 14, slot t 15, slot t 16, slot t 17, slot t 18, slot t 19, slot t 20, slot t 21, slot t 22, slot t 23, slot t 24, slot t 25, slot t 26, slot t 27, slot t 28, slot t 29, slot t 30, slot t 31, slot t 32, slot t 33, slot t 34, slot t 35, slot t 36, slot t 37, slot t 38, slot t 39, slot t 40, slot t 41, slot t 42, slot t 43, slot t 44, slot t 45, slot t 46, slot t 47, slot t 48, slot t 49, slot t 50, slot t 51, slot t 52, slot t 53] := arr_eq t 54 hsz
      rw [harr, h6, h7, h9, h44]
      clear harr hfacts hf h6 h7 h9 h44
      generalize slot t 0 = x0; generalize slot t 1 = x1; generalize slot t 2 = x2; generalize slot t 3 = x3; generalize slot t 4 = x4; generalize slot t 5 = x5; generalize slot t 8 = x8; generalize slot t 10 = x10; generalize slot t 11 = x11; generalize slot t 12 = x12; generalize slot t 13 = x13; generalize slot t 14 = x14
      generalize slot t 15 = x15; generalize slot t 16 = x16; generalize slot t 17 = x17; generalize slot t 18 = x18; generalize slot t 19 = x19; generalize slot t 20 = x20; generalize slot t 21 = x21; generalize slot t 22 = x22; generalize slot t 23 = x23; generalize slot t 24 = x24; generalize slot t 25 = x25; generalize slot t 26 = x26
      generalize slot t 27 = x27; generalize slot t 28 = x28; generalize slot t 29 = x29; generalize slot t 30 = x30; generalize slot t 31 = x31; generalize slot t 32 = x32; generalize slot t 33 = x33; generalize slot t 34 = x34; generalize slot t 35 = x35; generalize slot t 36 = x36; generalize slot t 37 = x37; generalize slot t 38 = x38
      generalize slot t 39 = x39; generalize slot t 40 = x40; generalize slot t 41 = x41; generalize slot t 42 = x42; generalize slot t 43 = x43; generalize slot t 45 = x45; generalize slot t 46 = x46; generalize slot t 47 = x47; generalize slot t 48 = x48; generalize slot t 49 = x49; generalize slot t 50 = x50; generalize slot t 51 = x51
      generalize slot t 52 = x52; generalize slot t 53 = x53
      clear hsz t
      simp only [List.drop_succ_cons, List.drop_zero]
      go_wp2
      go_ret
      exact ⟨rfl, KK.out.trans hk⟩

set_option maxRecDepth 100000 in
set_option maxHeartbeats 1000000 in
theorem lifted (os : Os) (started : os.Started) (H : Type) (enc : TypeId × Value → H) :
    ReturnsInHanded {} Try.checked os 8 .any (Rows.ratioProductsSpec.pre6 enc Try.prog Try.f8 Rows.ratioProductsRow.domain false) (Rows.ratioProductsSpec.post enc Try.prog Try.f8 false true false false) := by
  refine returnsInHanded_of_change_sized (C := Try.checked) own started (by kernel_rfl) Try.func8
    (ChangeSpec.witness6 (enc := enc) (C := Try.checked) false ⟨#[], #[.int .u32 0, .int .u32 0, .int .i64 0], []⟩ 8 (by kernel_rfl) (by kernel_rfl) (by kernel_rfl) (by kernel_rfl)) ?_
  intro W base args ds gs before hval0 hW hcnd hsz0 _
  have hval : ∀ (j : Nat) t v, Try.f8.params[j]? = some t → args[j]? = some v → Value.okWide Try.prog W .any base t v := hval0
  have hsz : (DataW.weightsEach Try.prog (Try.f8.params.toList ++ Rows.ratioProductsSpec.plain.varTypes Try.prog) (ds ++ gs)).all (· ≤ reachBytes) = true := hsz0
  have hW' := hW
  obtain ⟨p, q, hA0, hV, rfl, hfz, hnd⟩ := hW
  have hA : DataW.TrodAll enc Try.prog W 0 (fun _ => true) true Try.f8.params.toList args.toList ds p := hA0
  have hAk := hA
  rw [Try.params8] at hA hval hsz
  obtain ⟨v0, vs0, d0, ds0, p0_, q0_, hargs, rfl, rfl, h0, r0_⟩ := trodAll_cons hA
  obtain ⟨v1, vs1, d1, ds1, p1_, q1_, rfl, rfl, rfl, h1, r1_⟩ := trodAll_cons r0_
  obtain ⟨v2, vs2, d2, ds2, p2_, q2_, rfl, rfl, rfl, h2, r2_⟩ := trodAll_cons r1_
  obtain ⟨rfl, rfl, rfl⟩ := trodAll_nil r2_
  obtain rfl : args = #[v0, v1, v2] := by cases args; simp_all
  obtain ⟨rfl, rfl⟩ := trodVars_none hV
  have hlt : ∀ x ∈ (p0_ ++ (p1_ ++ (p2_ ++ ([])))), x.block < W.heap.size := fun x hx => by simpa using hW'.lt x (by simpa using hx)
  obtain ⟨a0, rfl, rfl, rfl, w0⟩ := open_int Try.underlying56 (hval 0 56 v0 rfl rfl) h0
  obtain ⟨a1, rfl, rfl, rfl, w1⟩ := open_int Try.underlying56 (hval 1 56 v1 rfl rfl) h1
  obtain ⟨a2, rfl, rfl, rfl, w2⟩ := open_int Try.underlying3 (hval 2 3 v2 rfl rfl) h2
  clear hA0 hval0
  refine (walk a0 w0 a1 w1 a2 w2 W ).mono fun e W' ⟨he, hg⟩ => ?_
  subst he
  exact ⟨_, rfl, ⟨_, _, _, [], _, [], hW', trodAll_cons_mk (shut_bool Try.underlying4 _) trodAll_mk0, trodAll_stays laidOut hg (by kernel_rfl) hAk hlt (fun x hx => by simpa using hlt x hx), rfl, Kept.frame hg _, fun h => by cases h⟩⟩

theorem over : Rows.ratioProductsRow.holds Try.pinned (OpenSpec.ofChange Rows.ratioProductsSpec) :=
  OpenClaim.holds_of_wide 8 Try.f8 rfl rfl rfl rfl rfl rfl rfl ⟨rfl, rfl, rfl, rfl, rfl⟩ rfl rfl rfl rfl rfl (by kernel_rfl) Try.func8 (by kernel_rfl)
    (of_decide_eq_true (by kernel_rfl)) (by unfold Func.isWrapper; first | (rw [if_pos (by decide +kernel)]; kernel_rfl) | (rw [if_neg (by decide +kernel)]; exact ⟨rfl, rfl⟩))
    (fun os started H enc _ => lifted os started H enc)
end Go.Proofs.Ytcjieaijcjinnaa.ratioProducts
namespace Go.Proofs.Ytcjieaijcjinnaa
theorem ratioProducts_holds : Rows.RatioProductsSaid := ratioProducts.over
#print axioms ratioProducts_holds
end Go.Proofs.Ytcjieaijcjinnaa
