/-
  ratio's May, Above and Least are what the reference's digits tell, at every input; chapter 6's examples hold: 'RatioAsks' returns true.
  Conditions: none.
-/
import Derived.Test.YtcjieaijcjinnaaRows
import Derived.Test.YtcjieaijcjinnaaRatioWalkB
import Derived.Test.YtcjieaijcjinnaaLawLibB
import Derived.WalkKit
import Derived.ProofKit
import Derived.OpenShut
import Derived.ShutString
import Derived.SizedLaws
import Derived.Test.YtcjieaijcjinnaaLawLib
namespace Go.Proofs.Ytcjieaijcjinnaa.ratioAsks
open Go.ChangeShapes Go.WideShapes Go.ChangeAt Go.RowKit
open Go.ChangeMaps (open_string shut_string)
set_option linter.unusedVariables false

theorem own : ownKnob Try.prog.godebug = none := by kernel_rfl
theorem laidOut : laidOutB Try.prog = true := by kernel_rfl

set_option maxRecDepth 100000 in
set_option maxHeartbeats 4000000 in
theorem walk (a0 : Int) (w0 : (Lit.int .u32 a0).wf = true) (a1 : Int) (w1 : (Lit.int .u32 a1).wf = true) (a2_0 : Int) (w2_0 : (Lit.int .i64 a2_0).wf = true) (a2_1 : Int) (w2_1 : (Lit.int .i64 a2_1).wf = true) (a2_2 : Int) (w2_2 : (Lit.int .i64 a2_2).wf = true) (w : World)  :
    Calls Try.prog 7 #[.int .u32 a0, .int .u32 a1, .agg #[.int .i64 a2_0, .int .i64 a2_1, .int .i64 a2_2]] w fun e w' => e = .returned (.bool true) ∧ Kept w w' := by
  obtain ⟨h1, h2⟩ := bounds_u32 w0
  obtain ⟨h3, h4⟩ := bounds_u32 w1
  obtain ⟨n, rfl⟩ : ∃ n : Nat, a0 = (n : Int) := ⟨a0.toNat, by omega⟩
  obtain ⟨o, rfl⟩ : ∃ o : Nat, a1 = (o : Int) := ⟨a1.toNat, by omega⟩
  have hn : n < 4294967296 := by omega
  have ho : o < 4294967296 := by omega
  obtain ⟨hb1, hb2⟩ := bounds_i64 w2_2
  have CC := Lib.hid fun w => refCmp6_any n o a2_0 a2_1 a2_2 w hn ho
  have CA := Lib.hid fun w => above_any n o a2_0 a2_1 a2_2 w hn ho hb1 hb2
  have CL := Lib.hid fun w => least_any n o a2_0 a2_1 a2_2 w hn ho hb1 hb2
  have HA := Lib.hid (above_cmp n o a2_0 a2_1 a2_2)
  have HL := Lib.hid (least_cmp n o a2_0 a2_1 a2_2)
  have HM := Lib.hid fun w => may_any a2_1 a2_2 w
  have HM2 := Lib.hid fun w => refMay6_any a2_1 a2_2 w
  generalize cmp6 n o a2_0 a2_1 a2_2 = x at CC HA HL
  generalize aboveB n o a2_0 a2_1 a2_2 = ab at CA HA
  generalize leastB n o a2_0 a2_1 a2_2 = le at CL HL
  generalize mayB a2_1 a2_2 = m at HM HM2
  clear w0 w1 w2_0 w2_1 w2_2 h1 h2 h3 h4 hn ho hb1 hb2
  have F0 := Lib.hid (Rowz.new w #[.int .i64 a2_0, .int .i64 a2_1, .int .i64 a2_2] 57)
  have K0 := Lib.hid ((Kept.refl w).alloc (.cells #[.int .i64 a2_0, .int .i64 a2_1, .int .i64 a2_2] 57))
  have c0 := Lib.hid (F0.out.cell 0)
  have hmm : (m == m) = true := by cases m <;> rfl
  have hxa : (ab == (x == 1)) = true := by rw [HA.out]; cases ab <;> rfl
  go_enter Try.func7, Try.ntmps7
  go_wp2_with (go_at_call 30; refine (CC.out _).mono ?_; rintro e v2 ⟨rfl, k2⟩)
  have R5 := Lib.hid (F0.out.kept k2)
  have KK := Lib.hid (K0.out.trans k2)
  clear F0 K0 k2 CC c0
  cases hx0 : (x == 0) with
  | true =>
    have hle : (le == true) = true := by have h := HL.out; rw [hx0] at h; rw [← h]; rfl
    refine wp_region_table [(17, .is (.pointer (some ⟨w.heap.size, 1, none⟩))), (18, .is (.int .i64 a2_1)), (19, .is (.pointer (some ⟨w.heap.size, 2, none⟩))), (20, .is (.int .i64 a2_2)), (21, .is (.bool m)), (22, .is (.pointer (some ⟨w.heap.size, 1, none⟩))), (23, .is (.int .i64 a2_1)), (24, .is (.pointer (some ⟨w.heap.size, 2, none⟩))), (25, .is (.int .i64 a2_2)), (26, .is (.bool m)), (27, .is (.bool true)), (28, .is (.bool true)), (29, .is (.int .u32 (n : Int))), (30, .is (.int .u32 (o : Int))), (31, .is (.pointer (some ⟨w.heap.size, 0, none⟩))), (32, .is (.int .i64 a2_0)), (33, .is (.pointer (some ⟨w.heap.size, 1, none⟩))), (34, .is (.int .i64 a2_1)), (35, .is (.pointer (some ⟨w.heap.size, 2, none⟩))), (36, .is (.int .i64 a2_2)), (37, .is (.bool ab)), (38, .is (.int .i64 x)), (39, .is (.bool (x == 1))), (40, .is (.bool true)), (41, .is (.bool true)), (42, .is (.bool true)), (43, .is (.int .u32 (n : Int))), (44, .is (.int .u32 (o : Int))), (45, .is (.pointer (some ⟨w.heap.size, 0, none⟩))), (46, .is (.int .i64 a2_0)), (47, .is (.pointer (some ⟨w.heap.size, 1, none⟩))), (48, .is (.int .i64 a2_1)), (49, .is (.pointer (some ⟨w.heap.size, 2, none⟩))), (50, .is (.int .i64 a2_2)), (51, .is (.bool le)), (52, .is (.int .i64 x)), (53, .is (.bool true)), (54, .is (.bool true)), (55, .is (undef)), (56, .is (undef)), (57, .is (.bool true)), (58, .is (.bool true)), (59, .is (.bool true)), (60, .is (.bool true)), (61, .is (.bool true)), (62, .is (.bool true)), (6, .is (.bool true))] (by kernel_rfl) (by kernel_rfl) ?_ ?_
    · refine ⟨fun t w1 hf hk hp => ?_, ?_⟩
      · have h5 : slot t 5 = .pointer (some ⟨w.heap.size, 0, none⟩) := hf 5 (by kernel_rfl)
        clear hf hp
        refine stepAt_plain rfl ?_
        refine stepOK_pure (.pointer (some ⟨w.heap.size, 1, none⟩)) ?_ rfl
        simp only [execOp, evS, h5]
        go_simp
      refine ⟨fun t w1 hf hk hp => ?_, ?_⟩
      · have h17 : slot t 17 = .pointer (some ⟨w.heap.size, 1, none⟩) := hp 17 (by kernel_rfl)
        clear hf hp
        refine stepAt_plain rfl ?_
        have hq0 := (R5.out.kept hk).cell 1
        refine stepOK_pure (.int .i64 a2_1) ?_ rfl
        simp only [execOp, evS, h17]
        go_simp
      refine ⟨fun t w1 hf hk hp => ?_, ?_⟩
      · have h5 : slot t 5 = .pointer (some ⟨w.heap.size, 0, none⟩) := hf 5 (by kernel_rfl)
        clear hf hp
        refine stepAt_plain rfl ?_
        refine stepOK_pure (.pointer (some ⟨w.heap.size, 2, none⟩)) ?_ rfl
        simp only [execOp, evS, h5]
        go_simp
      refine ⟨fun t w1 hf hk hp => ?_, ?_⟩
      · have h19 : slot t 19 = .pointer (some ⟨w.heap.size, 2, none⟩) := hp 19 (by kernel_rfl)
        clear hf hp
        refine stepAt_plain rfl ?_
        have hq0 := (R5.out.kept hk).cell 2
        refine stepOK_pure (.int .i64 a2_2) ?_ rfl
        simp only [execOp, evS, h19]
        go_simp
      refine ⟨fun t w1 hf hk hp => ?_, ?_⟩
      · have h18 : slot t 18 = .int .i64 a2_1 := hp 18 (by kernel_rfl)
        have h20 : slot t 20 = .int .i64 a2_2 := hp 20 (by kernel_rfl)
        clear hf hp
        refine stepAt_plain rfl ?_
        refine stepOK_call #[.int .i64 a2_1, .int .i64 a2_2] rfl (by simp only [List.map_toArray, List.map_cons, List.map_nil, evS, h18, h20]) (by go_simp) ((HM.out w1).mono fun e w' ⟨he, hk'⟩ => ⟨_, he, Kept.same hk', rfl⟩)
      refine ⟨fun t w1 hf hk hp => ?_, ?_⟩
      · have h5 : slot t 5 = .pointer (some ⟨w.heap.size, 0, none⟩) := hf 5 (by kernel_rfl)
        clear hf hp
        refine stepAt_plain rfl ?_
        refine stepOK_pure (.pointer (some ⟨w.heap.size, 1, none⟩)) ?_ rfl
        simp only [execOp, evS, h5]
        go_simp
      refine ⟨fun t w1 hf hk hp => ?_, ?_⟩
      · have h22 : slot t 22 = .pointer (some ⟨w.heap.size, 1, none⟩) := hp 22 (by kernel_rfl)
        clear hf hp
        refine stepAt_plain rfl ?_
        have hq0 := (R5.out.kept hk).cell 1
        refine stepOK_pure (.int .i64 a2_1) ?_ rfl
        simp only [execOp, evS, h22]
        go_simp
      refine ⟨fun t w1 hf hk hp => ?_, ?_⟩
      · have h5 : slot t 5 = .pointer (some ⟨w.heap.size, 0, none⟩) := hf 5 (by kernel_rfl)
        clear hf hp
        refine stepAt_plain rfl ?_
        refine stepOK_pure (.pointer (some ⟨w.heap.size, 2, none⟩)) ?_ rfl
        simp only [execOp, evS, h5]
        go_simp
      refine ⟨fun t w1 hf hk hp => ?_, ?_⟩
      · have h24 : slot t 24 = .pointer (some ⟨w.heap.size, 2, none⟩) := hp 24 (by kernel_rfl)
        clear hf hp
        refine stepAt_plain rfl ?_
        have hq0 := (R5.out.kept hk).cell 2
        refine stepOK_pure (.int .i64 a2_2) ?_ rfl
        simp only [execOp, evS, h24]
        go_simp
      refine ⟨fun t w1 hf hk hp => ?_, ?_⟩
      · have h23 : slot t 23 = .int .i64 a2_1 := hp 23 (by kernel_rfl)
        have h25 : slot t 25 = .int .i64 a2_2 := hp 25 (by kernel_rfl)
        clear hf hp
        refine stepAt_plain rfl ?_
        refine stepOK_call #[.int .i64 a2_1, .int .i64 a2_2] rfl (by simp only [List.map_toArray, List.map_cons, List.map_nil, evS, h23, h25]) (by go_simp) ((HM2.out w1).mono fun e w' ⟨he, hk'⟩ => ⟨_, he, Kept.same hk', rfl⟩)
      refine ⟨fun t w1 hf hk hp => ?_, ?_⟩
      · have h21 : slot t 21 = .bool m := hp 21 (by kernel_rfl)
        have h26 : slot t 26 = .bool m := hp 26 (by kernel_rfl)
        clear hf hp
        refine stepAt_plain rfl ?_
        have hq0 := hmm
        refine stepOK_pure (.bool true) ?_ rfl
        simp only [execOp, evS, h21, h26]
        go_simp
      refine ⟨fun t w1 hf hk hp => ?_, ?_⟩
      · have h27 : slot t 27 = .bool true := hp 27 (by kernel_rfl)
        clear hf hp
        refine stepAt_plain rfl ?_
        exact stepOK_move _ (.inl rfl) h27
      refine ⟨fun t w1 hf hk hp => ?_, ?_⟩
      · have h0 : slot t 0 = .int .u32 (n : Int) := hf 0 (by kernel_rfl)
        have h28 : slot t 28 = .bool true := hp 28 (by kernel_rfl)
        clear hf hp
        refine stepAt_on 28 true (by kernel_rfl) h28 ?_
        exact stepOK_move _ (.inl rfl) h0
      refine ⟨fun t w1 hf hk hp => ?_, ?_⟩
      · have h1 : slot t 1 = .int .u32 (o : Int) := hf 1 (by kernel_rfl)
        have h28 : slot t 28 = .bool true := hp 28 (by kernel_rfl)
        clear hf hp
        refine stepAt_on 28 true (by kernel_rfl) h28 ?_
        exact stepOK_move _ (.inl rfl) h1
      refine ⟨fun t w1 hf hk hp => ?_, ?_⟩
      · have h5 : slot t 5 = .pointer (some ⟨w.heap.size, 0, none⟩) := hf 5 (by kernel_rfl)
        have h28 : slot t 28 = .bool true := hp 28 (by kernel_rfl)
        clear hf hp
        refine stepAt_on 28 true (by kernel_rfl) h28 ?_
        refine stepOK_pure (.pointer (some ⟨w.heap.size, 0, none⟩)) ?_ rfl
        simp only [execOp, evS, h5]
        go_simp
      refine ⟨fun t w1 hf hk hp => ?_, ?_⟩
      · have h31 : slot t 31 = .pointer (some ⟨w.heap.size, 0, none⟩) := hp 31 (by kernel_rfl)
        have h28 : slot t 28 = .bool true := hp 28 (by kernel_rfl)
        clear hf hp
        refine stepAt_on 28 true (by kernel_rfl) h28 ?_
        have hq0 := (R5.out.kept hk).cell 0
        refine stepOK_pure (.int .i64 a2_0) ?_ rfl
        simp only [execOp, evS, h31]
        go_simp
      refine ⟨fun t w1 hf hk hp => ?_, ?_⟩
      · have h5 : slot t 5 = .pointer (some ⟨w.heap.size, 0, none⟩) := hf 5 (by kernel_rfl)
        have h28 : slot t 28 = .bool true := hp 28 (by kernel_rfl)
        clear hf hp
        refine stepAt_on 28 true (by kernel_rfl) h28 ?_
        refine stepOK_pure (.pointer (some ⟨w.heap.size, 1, none⟩)) ?_ rfl
        simp only [execOp, evS, h5]
        go_simp
      refine ⟨fun t w1 hf hk hp => ?_, ?_⟩
      · have h33 : slot t 33 = .pointer (some ⟨w.heap.size, 1, none⟩) := hp 33 (by kernel_rfl)
        have h28 : slot t 28 = .bool true := hp 28 (by kernel_rfl)
        clear hf hp
        refine stepAt_on 28 true (by kernel_rfl) h28 ?_
        have hq0 := (R5.out.kept hk).cell 1
        refine stepOK_pure (.int .i64 a2_1) ?_ rfl
        simp only [execOp, evS, h33]
        go_simp
      refine ⟨fun t w1 hf hk hp => ?_, ?_⟩
      · have h5 : slot t 5 = .pointer (some ⟨w.heap.size, 0, none⟩) := hf 5 (by kernel_rfl)
        have h28 : slot t 28 = .bool true := hp 28 (by kernel_rfl)
        clear hf hp
        refine stepAt_on 28 true (by kernel_rfl) h28 ?_
        refine stepOK_pure (.pointer (some ⟨w.heap.size, 2, none⟩)) ?_ rfl
        simp only [execOp, evS, h5]
        go_simp
      refine ⟨fun t w1 hf hk hp => ?_, ?_⟩
      · have h35 : slot t 35 = .pointer (some ⟨w.heap.size, 2, none⟩) := hp 35 (by kernel_rfl)
        have h28 : slot t 28 = .bool true := hp 28 (by kernel_rfl)
        clear hf hp
        refine stepAt_on 28 true (by kernel_rfl) h28 ?_
        have hq0 := (R5.out.kept hk).cell 2
        refine stepOK_pure (.int .i64 a2_2) ?_ rfl
        simp only [execOp, evS, h35]
        go_simp
      refine ⟨fun t w1 hf hk hp => ?_, ?_⟩
      · have h29 : slot t 29 = .int .u32 (n : Int) := hp 29 (by kernel_rfl)
        have h30 : slot t 30 = .int .u32 (o : Int) := hp 30 (by kernel_rfl)
        have h32 : slot t 32 = .int .i64 a2_0 := hp 32 (by kernel_rfl)
        have h34 : slot t 34 = .int .i64 a2_1 := hp 34 (by kernel_rfl)
        have h36 : slot t 36 = .int .i64 a2_2 := hp 36 (by kernel_rfl)
        have h28 : slot t 28 = .bool true := hp 28 (by kernel_rfl)
        clear hf hp
        refine stepAt_on 28 true (by kernel_rfl) h28 ?_
        refine stepOK_call #[.int .u32 (n : Int), .int .u32 (o : Int), .int .i64 a2_0, .int .i64 a2_1, .int .i64 a2_2] rfl (by simp only [List.map_toArray, List.map_cons, List.map_nil, evS, h29, h30, h32, h34, h36]) (by go_simp) ((CA.out w1).mono fun e w' ⟨he, hk'⟩ => ⟨_, he, hk', rfl⟩)
      refine ⟨fun t w1 hf hk hp => ?_, ?_⟩
      · have h7 : slot t 7 = .int .i64 x := hf 7 (by kernel_rfl)
        have h28 : slot t 28 = .bool true := hp 28 (by kernel_rfl)
        clear hf hp
        refine stepAt_on 28 true (by kernel_rfl) h28 ?_
        exact stepOK_move _ (.inl rfl) h7
      refine ⟨fun t w1 hf hk hp => ?_, ?_⟩
      · have h38 : slot t 38 = .int .i64 x := hp 38 (by kernel_rfl)
        have h28 : slot t 28 = .bool true := hp 28 (by kernel_rfl)
        clear hf hp
        refine stepAt_on 28 true (by kernel_rfl) h28 ?_
        refine stepOK_pure (.bool (x == 1)) ?_ rfl
        simp only [execOp, evS, h38]
        go_simp
      refine ⟨fun t w1 hf hk hp => ?_, ?_⟩
      · have h37 : slot t 37 = .bool ab := hp 37 (by kernel_rfl)
        have h39 : slot t 39 = .bool (x == 1) := hp 39 (by kernel_rfl)
        have h28 : slot t 28 = .bool true := hp 28 (by kernel_rfl)
        clear hf hp
        refine stepAt_on 28 true (by kernel_rfl) h28 ?_
        have hq0 := hxa
        refine stepOK_pure (.bool true) ?_ rfl
        simp only [execOp, evS, h37, h39]
        go_simp
      refine ⟨fun t w1 hf hk hp => ?_, ?_⟩
      · have h28 : slot t 28 = .bool true := hp 28 (by kernel_rfl)
        have h40 : slot t 40 = .bool true := hp 40 (by kernel_rfl)
        clear hf hp
        refine stepAt_plain rfl ?_
        refine stepOK_pure (.bool true) ?_ rfl
        simp only [execOp, evS, h28, h40]
        go_simp
      refine ⟨fun t w1 hf hk hp => ?_, ?_⟩
      · have h41 : slot t 41 = .bool true := hp 41 (by kernel_rfl)
        clear hf hp
        refine stepAt_plain rfl ?_
        exact stepOK_move _ (.inl rfl) h41
      refine ⟨fun t w1 hf hk hp => ?_, ?_⟩
      · have h0 : slot t 0 = .int .u32 (n : Int) := hf 0 (by kernel_rfl)
        have h42 : slot t 42 = .bool true := hp 42 (by kernel_rfl)
        clear hf hp
        refine stepAt_on 42 true (by kernel_rfl) h42 ?_
        exact stepOK_move _ (.inl rfl) h0
      refine ⟨fun t w1 hf hk hp => ?_, ?_⟩
      · have h1 : slot t 1 = .int .u32 (o : Int) := hf 1 (by kernel_rfl)
        have h42 : slot t 42 = .bool true := hp 42 (by kernel_rfl)
        clear hf hp
        refine stepAt_on 42 true (by kernel_rfl) h42 ?_
        exact stepOK_move _ (.inl rfl) h1
      refine ⟨fun t w1 hf hk hp => ?_, ?_⟩
      · have h5 : slot t 5 = .pointer (some ⟨w.heap.size, 0, none⟩) := hf 5 (by kernel_rfl)
        have h42 : slot t 42 = .bool true := hp 42 (by kernel_rfl)
        clear hf hp
        refine stepAt_on 42 true (by kernel_rfl) h42 ?_
        refine stepOK_pure (.pointer (some ⟨w.heap.size, 0, none⟩)) ?_ rfl
        simp only [execOp, evS, h5]
        go_simp
      refine ⟨fun t w1 hf hk hp => ?_, ?_⟩
      · have h45 : slot t 45 = .pointer (some ⟨w.heap.size, 0, none⟩) := hp 45 (by kernel_rfl)
        have h42 : slot t 42 = .bool true := hp 42 (by kernel_rfl)
        clear hf hp
        refine stepAt_on 42 true (by kernel_rfl) h42 ?_
        have hq0 := (R5.out.kept hk).cell 0
        refine stepOK_pure (.int .i64 a2_0) ?_ rfl
        simp only [execOp, evS, h45]
        go_simp
      refine ⟨fun t w1 hf hk hp => ?_, ?_⟩
      · have h5 : slot t 5 = .pointer (some ⟨w.heap.size, 0, none⟩) := hf 5 (by kernel_rfl)
        have h42 : slot t 42 = .bool true := hp 42 (by kernel_rfl)
        clear hf hp
        refine stepAt_on 42 true (by kernel_rfl) h42 ?_
        refine stepOK_pure (.pointer (some ⟨w.heap.size, 1, none⟩)) ?_ rfl
        simp only [execOp, evS, h5]
        go_simp
      refine ⟨fun t w1 hf hk hp => ?_, ?_⟩
      · have h47 : slot t 47 = .pointer (some ⟨w.heap.size, 1, none⟩) := hp 47 (by kernel_rfl)
        have h42 : slot t 42 = .bool true := hp 42 (by kernel_rfl)
        clear hf hp
        refine stepAt_on 42 true (by kernel_rfl) h42 ?_
        have hq0 := (R5.out.kept hk).cell 1
        refine stepOK_pure (.int .i64 a2_1) ?_ rfl
        simp only [execOp, evS, h47]
        go_simp
      refine ⟨fun t w1 hf hk hp => ?_, ?_⟩
      · have h5 : slot t 5 = .pointer (some ⟨w.heap.size, 0, none⟩) := hf 5 (by kernel_rfl)
        have h42 : slot t 42 = .bool true := hp 42 (by kernel_rfl)
        clear hf hp
        refine stepAt_on 42 true (by kernel_rfl) h42 ?_
        refine stepOK_pure (.pointer (some ⟨w.heap.size, 2, none⟩)) ?_ rfl
        simp only [execOp, evS, h5]
        go_simp
      refine ⟨fun t w1 hf hk hp => ?_, ?_⟩
      · have h49 : slot t 49 = .pointer (some ⟨w.heap.size, 2, none⟩) := hp 49 (by kernel_rfl)
        have h42 : slot t 42 = .bool true := hp 42 (by kernel_rfl)
        clear hf hp
        refine stepAt_on 42 true (by kernel_rfl) h42 ?_
        have hq0 := (R5.out.kept hk).cell 2
        refine stepOK_pure (.int .i64 a2_2) ?_ rfl
        simp only [execOp, evS, h49]
        go_simp
      refine ⟨fun t w1 hf hk hp => ?_, ?_⟩
      · have h43 : slot t 43 = .int .u32 (n : Int) := hp 43 (by kernel_rfl)
        have h44 : slot t 44 = .int .u32 (o : Int) := hp 44 (by kernel_rfl)
        have h46 : slot t 46 = .int .i64 a2_0 := hp 46 (by kernel_rfl)
        have h48 : slot t 48 = .int .i64 a2_1 := hp 48 (by kernel_rfl)
        have h50 : slot t 50 = .int .i64 a2_2 := hp 50 (by kernel_rfl)
        have h42 : slot t 42 = .bool true := hp 42 (by kernel_rfl)
        clear hf hp
        refine stepAt_on 42 true (by kernel_rfl) h42 ?_
        refine stepOK_call #[.int .u32 (n : Int), .int .u32 (o : Int), .int .i64 a2_0, .int .i64 a2_1, .int .i64 a2_2] rfl (by simp only [List.map_toArray, List.map_cons, List.map_nil, evS, h43, h44, h46, h48, h50]) (by go_simp) ((CL.out w1).mono fun e w' ⟨he, hk'⟩ => ⟨_, he, hk', rfl⟩)
      refine ⟨fun t w1 hf hk hp => ?_, ?_⟩
      · have h7 : slot t 7 = .int .i64 x := hf 7 (by kernel_rfl)
        have h42 : slot t 42 = .bool true := hp 42 (by kernel_rfl)
        clear hf hp
        refine stepAt_on 42 true (by kernel_rfl) h42 ?_
        exact stepOK_move _ (.inl rfl) h7
      refine ⟨fun t w1 hf hk hp => ?_, ?_⟩
      · have h52 : slot t 52 = .int .i64 x := hp 52 (by kernel_rfl)
        have h42 : slot t 42 = .bool true := hp 42 (by kernel_rfl)
        clear hf hp
        refine stepAt_on 42 true (by kernel_rfl) h42 ?_
        have hq0 := hx0
        refine stepOK_pure (.bool true) ?_ rfl
        simp only [execOp, evS, h52]
        go_simp
      refine ⟨fun t w1 hf hk hp => ?_, ?_⟩
      · have h53 : slot t 53 = .bool true := hp 53 (by kernel_rfl)
        have h42 : slot t 42 = .bool true := hp 42 (by kernel_rfl)
        clear hf hp
        refine stepAt_on 42 true (by kernel_rfl) h42 ?_
        exact stepOK_move _ (.inl rfl) h53
      refine ⟨fun t w1 hf hk hp => ?_, ?_⟩
      · have h54 : slot t 54 = .bool true := hp 54 (by kernel_rfl)
        clear hf hp
        exact stepAt_off 54 false (by kernel_rfl) h54 rfl
      refine ⟨fun t w1 hf hk hp => ?_, ?_⟩
      · have h54 : slot t 54 = .bool true := hp 54 (by kernel_rfl)
        clear hf hp
        exact stepAt_off 54 false (by kernel_rfl) h54 rfl
      refine ⟨fun t w1 hf hk hp => ?_, ?_⟩
      · have h54 : slot t 54 = .bool true := hp 54 (by kernel_rfl)
        have h56 : slot t 56 = undef := hp 56 (by kernel_rfl)
        have h42 : slot t 42 = .bool true := hp 42 (by kernel_rfl)
        clear hf hp
        refine stepAt_on 42 true (by kernel_rfl) h42 ?_
        refine stepOK_pure (.bool true) ?_ rfl
        simp only [execOp, evS, h54, h56]
        go_simp
      refine ⟨fun t w1 hf hk hp => ?_, ?_⟩
      · have h51 : slot t 51 = .bool le := hp 51 (by kernel_rfl)
        have h57 : slot t 57 = .bool true := hp 57 (by kernel_rfl)
        have h42 : slot t 42 = .bool true := hp 42 (by kernel_rfl)
        clear hf hp
        refine stepAt_on 42 true (by kernel_rfl) h42 ?_
        have hq0 := hle
        refine stepOK_pure (.bool true) ?_ rfl
        simp only [execOp, evS, h51, h57]
        go_simp
      refine ⟨fun t w1 hf hk hp => ?_, ?_⟩
      · have h42 : slot t 42 = .bool true := hp 42 (by kernel_rfl)
        have h58 : slot t 58 = .bool true := hp 58 (by kernel_rfl)
        clear hf hp
        refine stepAt_plain rfl ?_
        refine stepOK_pure (.bool true) ?_ rfl
        simp only [execOp, evS, h42, h58]
        go_simp
      refine ⟨fun t w1 hf hk hp => ?_, ?_⟩
      · have h59 : slot t 59 = .bool true := hp 59 (by kernel_rfl)
        clear hf hp
        refine stepAt_plain rfl ?_
        exact stepOK_move _ (.inl rfl) h59
      refine ⟨fun t w1 hf hk hp => ?_, ?_⟩
      · have h60 : slot t 60 = .bool true := hp 60 (by kernel_rfl)
        clear hf hp
        refine stepAt_on 60 true (by kernel_rfl) h60 ?_
        refine stepOK_call #[] rfl (by simp only [List.map_toArray, List.map_nil]) (by go_simp) ((awake6_any w1).mono fun e w' ⟨he, hk'⟩ => ⟨_, he, hk', rfl⟩)
      refine ⟨fun t w1 hf hk hp => ?_, ?_⟩
      · have h60 : slot t 60 = .bool true := hp 60 (by kernel_rfl)
        have h61 : slot t 61 = .bool true := hp 61 (by kernel_rfl)
        clear hf hp
        refine stepAt_plain rfl ?_
        refine stepOK_pure (.bool true) ?_ rfl
        simp only [execOp, evS, h60, h61]
        go_simp
      refine ⟨fun t w1 hf hk hp => ?_, ?_⟩
      · have h62 : slot t 62 = .bool true := hp 62 (by kernel_rfl)
        clear hf hp
        refine stepAt_plain rfl ?_
        exact stepOK_move _ (.inr rfl) h62
      exact trivial
    · intro t w1 hsz hf hk hfacts
      have h6 : slot t 6 = .bool true := hfacts 46 _ rfl 6 rfl
      have h0 : slot t 0 = .int .u32 (n : Int) := hf 0 (by kernel_rfl)
      have h1 : slot t 1 = .int .u32 (o : Int) := hf 1 (by kernel_rfl)
      have h5 : slot t 5 = .pointer (some ⟨w.heap.size, 0, none⟩) := hf 5 (by kernel_rfl)
      have h7 : slot t 7 = .int .i64 x := hf 7 (by kernel_rfl)
      have harr : t = #[slot t 0, slot t 1, slot t 2, slot t 3, slot t 4, slot t 5, slot t 6, slot t 7, slot t 8, slot t 9, slot t 10, slot t 11, slot t 12, slot t 13, slot t 14, slot t 15, slot t 16, slot t 17, slot t 18, slot t 19, slot t 20, slot t 21, slot t 22, slot t 23, slot t 24, slot t 25, slot t 26, slot t 27, slot t 28, slot t 29, slot t 30, slot t 31, slot t 32, slot t 33, slot t 34, slot t 35, slot t 36, slot t 37, slot t 38, slot t 39, slot t 40, slot t 41, slot t 42, slot t 43, slot t 44, slot t 45, slot t 46, slot t 47, slot t 48, slot t 49, slot t 50, slot t 51, slot t 52, slot t 53, slot t 54, slot t 55, slot t 56, slot t 57, slot t 58, slot t 59, slot t 60, slot t 61, slot t 62] := arr_eq t 63 hsz
      rw [harr, h6, h0, h1, h5, h7]
      clear harr hfacts hf h6 h0 h1 h5 h7
      generalize slot t 2 = x2; generalize slot t 3 = x3; generalize slot t 4 = x4; generalize slot t 8 = x8; generalize slot t 9 = x9; generalize slot t 10 = x10; generalize slot t 11 = x11; generalize slot t 12 = x12; generalize slot t 13 = x13; generalize slot t 14 = x14; generalize slot t 15 = x15; generalize slot t 16 = x16
      generalize slot t 17 = x17; generalize slot t 18 = x18; generalize slot t 19 = x19; generalize slot t 20 = x20; generalize slot t 21 = x21; generalize slot t 22 = x22; generalize slot t 23 = x23; generalize slot t 24 = x24; generalize slot t 25 = x25; generalize slot t 26 = x26; generalize slot t 27 = x27; generalize slot t 28 = x28
      generalize slot t 29 = x29; generalize slot t 30 = x30; generalize slot t 31 = x31; generalize slot t 32 = x32; generalize slot t 33 = x33; generalize slot t 34 = x34; generalize slot t 35 = x35; generalize slot t 36 = x36; generalize slot t 37 = x37; generalize slot t 38 = x38; generalize slot t 39 = x39; generalize slot t 40 = x40
      generalize slot t 41 = x41; generalize slot t 42 = x42; generalize slot t 43 = x43; generalize slot t 44 = x44; generalize slot t 45 = x45; generalize slot t 46 = x46; generalize slot t 47 = x47; generalize slot t 48 = x48; generalize slot t 49 = x49; generalize slot t 50 = x50; generalize slot t 51 = x51; generalize slot t 52 = x52
      generalize slot t 53 = x53; generalize slot t 54 = x54; generalize slot t 55 = x55; generalize slot t 56 = x56; generalize slot t 57 = x57; generalize slot t 58 = x58; generalize slot t 59 = x59; generalize slot t 60 = x60; generalize slot t 61 = x61; generalize slot t 62 = x62
      clear hsz t
      go_wp2
      go_ret
      exact ⟨rfl, KK.out.trans hk⟩
  | false =>
    have hle : (le == (x == 1)) = true := by have h := HL.out; rw [hx0, Bool.false_or] at h; rw [h]; cases le <;> rfl
    refine wp_region_table [(17, .is (.pointer (some ⟨w.heap.size, 1, none⟩))), (18, .is (.int .i64 a2_1)), (19, .is (.pointer (some ⟨w.heap.size, 2, none⟩))), (20, .is (.int .i64 a2_2)), (21, .is (.bool m)), (22, .is (.pointer (some ⟨w.heap.size, 1, none⟩))), (23, .is (.int .i64 a2_1)), (24, .is (.pointer (some ⟨w.heap.size, 2, none⟩))), (25, .is (.int .i64 a2_2)), (26, .is (.bool m)), (27, .is (.bool true)), (28, .is (.bool true)), (29, .is (.int .u32 (n : Int))), (30, .is (.int .u32 (o : Int))), (31, .is (.pointer (some ⟨w.heap.size, 0, none⟩))), (32, .is (.int .i64 a2_0)), (33, .is (.pointer (some ⟨w.heap.size, 1, none⟩))), (34, .is (.int .i64 a2_1)), (35, .is (.pointer (some ⟨w.heap.size, 2, none⟩))), (36, .is (.int .i64 a2_2)), (37, .is (.bool ab)), (38, .is (.int .i64 x)), (39, .is (.bool (x == 1))), (40, .is (.bool true)), (41, .is (.bool true)), (42, .is (.bool true)), (43, .is (.int .u32 (n : Int))), (44, .is (.int .u32 (o : Int))), (45, .is (.pointer (some ⟨w.heap.size, 0, none⟩))), (46, .is (.int .i64 a2_0)), (47, .is (.pointer (some ⟨w.heap.size, 1, none⟩))), (48, .is (.int .i64 a2_1)), (49, .is (.pointer (some ⟨w.heap.size, 2, none⟩))), (50, .is (.int .i64 a2_2)), (51, .is (.bool le)), (52, .is (.int .i64 x)), (53, .is (.bool false)), (54, .is (.bool false)), (55, .is (.int .i64 x)), (56, .is (.bool (x == 1))), (57, .is (.bool (x == 1))), (58, .is (.bool true)), (59, .is (.bool true)), (60, .is (.bool true)), (61, .is (.bool true)), (62, .is (.bool true)), (6, .is (.bool true))] (by kernel_rfl) (by kernel_rfl) ?_ ?_
    · refine ⟨fun t w1 hf hk hp => ?_, ?_⟩
      · have h5 : slot t 5 = .pointer (some ⟨w.heap.size, 0, none⟩) := hf 5 (by kernel_rfl)
        clear hf hp
        refine stepAt_plain rfl ?_
        refine stepOK_pure (.pointer (some ⟨w.heap.size, 1, none⟩)) ?_ rfl
        simp only [execOp, evS, h5]
        go_simp
      refine ⟨fun t w1 hf hk hp => ?_, ?_⟩
      · have h17 : slot t 17 = .pointer (some ⟨w.heap.size, 1, none⟩) := hp 17 (by kernel_rfl)
        clear hf hp
        refine stepAt_plain rfl ?_
        have hq0 := (R5.out.kept hk).cell 1
        refine stepOK_pure (.int .i64 a2_1) ?_ rfl
        simp only [execOp, evS, h17]
        go_simp
      refine ⟨fun t w1 hf hk hp => ?_, ?_⟩
      · have h5 : slot t 5 = .pointer (some ⟨w.heap.size, 0, none⟩) := hf 5 (by kernel_rfl)
        clear hf hp
        refine stepAt_plain rfl ?_
        refine stepOK_pure (.pointer (some ⟨w.heap.size, 2, none⟩)) ?_ rfl
        simp only [execOp, evS, h5]
        go_simp
      refine ⟨fun t w1 hf hk hp => ?_, ?_⟩
      · have h19 : slot t 19 = .pointer (some ⟨w.heap.size, 2, none⟩) := hp 19 (by kernel_rfl)
        clear hf hp
        refine stepAt_plain rfl ?_
        have hq0 := (R5.out.kept hk).cell 2
        refine stepOK_pure (.int .i64 a2_2) ?_ rfl
        simp only [execOp, evS, h19]
        go_simp
      refine ⟨fun t w1 hf hk hp => ?_, ?_⟩
      · have h18 : slot t 18 = .int .i64 a2_1 := hp 18 (by kernel_rfl)
        have h20 : slot t 20 = .int .i64 a2_2 := hp 20 (by kernel_rfl)
        clear hf hp
        refine stepAt_plain rfl ?_
        refine stepOK_call #[.int .i64 a2_1, .int .i64 a2_2] rfl (by simp only [List.map_toArray, List.map_cons, List.map_nil, evS, h18, h20]) (by go_simp) ((HM.out w1).mono fun e w' ⟨he, hk'⟩ => ⟨_, he, Kept.same hk', rfl⟩)
      refine ⟨fun t w1 hf hk hp => ?_, ?_⟩
      · have h5 : slot t 5 = .pointer (some ⟨w.heap.size, 0, none⟩) := hf 5 (by kernel_rfl)
        clear hf hp
        refine stepAt_plain rfl ?_
        refine stepOK_pure (.pointer (some ⟨w.heap.size, 1, none⟩)) ?_ rfl
        simp only [execOp, evS, h5]
        go_simp
      refine ⟨fun t w1 hf hk hp => ?_, ?_⟩
      · have h22 : slot t 22 = .pointer (some ⟨w.heap.size, 1, none⟩) := hp 22 (by kernel_rfl)
        clear hf hp
        refine stepAt_plain rfl ?_
        have hq0 := (R5.out.kept hk).cell 1
        refine stepOK_pure (.int .i64 a2_1) ?_ rfl
        simp only [execOp, evS, h22]
        go_simp
      refine ⟨fun t w1 hf hk hp => ?_, ?_⟩
      · have h5 : slot t 5 = .pointer (some ⟨w.heap.size, 0, none⟩) := hf 5 (by kernel_rfl)
        clear hf hp
        refine stepAt_plain rfl ?_
        refine stepOK_pure (.pointer (some ⟨w.heap.size, 2, none⟩)) ?_ rfl
        simp only [execOp, evS, h5]
        go_simp
      refine ⟨fun t w1 hf hk hp => ?_, ?_⟩
      · have h24 : slot t 24 = .pointer (some ⟨w.heap.size, 2, none⟩) := hp 24 (by kernel_rfl)
        clear hf hp
        refine stepAt_plain rfl ?_
        have hq0 := (R5.out.kept hk).cell 2
        refine stepOK_pure (.int .i64 a2_2) ?_ rfl
        simp only [execOp, evS, h24]
        go_simp
      refine ⟨fun t w1 hf hk hp => ?_, ?_⟩
      · have h23 : slot t 23 = .int .i64 a2_1 := hp 23 (by kernel_rfl)
        have h25 : slot t 25 = .int .i64 a2_2 := hp 25 (by kernel_rfl)
        clear hf hp
        refine stepAt_plain rfl ?_
        refine stepOK_call #[.int .i64 a2_1, .int .i64 a2_2] rfl (by simp only [List.map_toArray, List.map_cons, List.map_nil, evS, h23, h25]) (by go_simp) ((HM2.out w1).mono fun e w' ⟨he, hk'⟩ => ⟨_, he, Kept.same hk', rfl⟩)
      refine ⟨fun t w1 hf hk hp => ?_, ?_⟩
      · have h21 : slot t 21 = .bool m := hp 21 (by kernel_rfl)
        have h26 : slot t 26 = .bool m := hp 26 (by kernel_rfl)
        clear hf hp
        refine stepAt_plain rfl ?_
        have hq0 := hmm
        refine stepOK_pure (.bool true) ?_ rfl
        simp only [execOp, evS, h21, h26]
        go_simp
      refine ⟨fun t w1 hf hk hp => ?_, ?_⟩
      · have h27 : slot t 27 = .bool true := hp 27 (by kernel_rfl)
        clear hf hp
        refine stepAt_plain rfl ?_
        exact stepOK_move _ (.inl rfl) h27
      refine ⟨fun t w1 hf hk hp => ?_, ?_⟩
      · have h0 : slot t 0 = .int .u32 (n : Int) := hf 0 (by kernel_rfl)
        have h28 : slot t 28 = .bool true := hp 28 (by kernel_rfl)
        clear hf hp
        refine stepAt_on 28 true (by kernel_rfl) h28 ?_
        exact stepOK_move _ (.inl rfl) h0
      refine ⟨fun t w1 hf hk hp => ?_, ?_⟩
      · have h1 : slot t 1 = .int .u32 (o : Int) := hf 1 (by kernel_rfl)
        have h28 : slot t 28 = .bool true := hp 28 (by kernel_rfl)
        clear hf hp
        refine stepAt_on 28 true (by kernel_rfl) h28 ?_
        exact stepOK_move _ (.inl rfl) h1
      refine ⟨fun t w1 hf hk hp => ?_, ?_⟩
      · have h5 : slot t 5 = .pointer (some ⟨w.heap.size, 0, none⟩) := hf 5 (by kernel_rfl)
        have h28 : slot t 28 = .bool true := hp 28 (by kernel_rfl)
        clear hf hp
        refine stepAt_on 28 true (by kernel_rfl) h28 ?_
        refine stepOK_pure (.pointer (some ⟨w.heap.size, 0, none⟩)) ?_ rfl
        simp only [execOp, evS, h5]
        go_simp
      refine ⟨fun t w1 hf hk hp => ?_, ?_⟩
      · have h31 : slot t 31 = .pointer (some ⟨w.heap.size, 0, none⟩) := hp 31 (by kernel_rfl)
        have h28 : slot t 28 = .bool true := hp 28 (by kernel_rfl)
        clear hf hp
        refine stepAt_on 28 true (by kernel_rfl) h28 ?_
        have hq0 := (R5.out.kept hk).cell 0
        refine stepOK_pure (.int .i64 a2_0) ?_ rfl
        simp only [execOp, evS, h31]
        go_simp
      refine ⟨fun t w1 hf hk hp => ?_, ?_⟩
      · have h5 : slot t 5 = .pointer (some ⟨w.heap.size, 0, none⟩) := hf 5 (by kernel_rfl)
        have h28 : slot t 28 = .bool true := hp 28 (by kernel_rfl)
        clear hf hp
        refine stepAt_on 28 true (by kernel_rfl) h28 ?_
        refine stepOK_pure (.pointer (some ⟨w.heap.size, 1, none⟩)) ?_ rfl
        simp only [execOp, evS, h5]
        go_simp
      refine ⟨fun t w1 hf hk hp => ?_, ?_⟩
      · have h33 : slot t 33 = .pointer (some ⟨w.heap.size, 1, none⟩) := hp 33 (by kernel_rfl)
        have h28 : slot t 28 = .bool true := hp 28 (by kernel_rfl)
        clear hf hp
        refine stepAt_on 28 true (by kernel_rfl) h28 ?_
        have hq0 := (R5.out.kept hk).cell 1
        refine stepOK_pure (.int .i64 a2_1) ?_ rfl
        simp only [execOp, evS, h33]
        go_simp
      refine ⟨fun t w1 hf hk hp => ?_, ?_⟩
      · have h5 : slot t 5 = .pointer (some ⟨w.heap.size, 0, none⟩) := hf 5 (by kernel_rfl)
        have h28 : slot t 28 = .bool true := hp 28 (by kernel_rfl)
        clear hf hp
        refine stepAt_on 28 true (by kernel_rfl) h28 ?_
        refine stepOK_pure (.pointer (some ⟨w.heap.size, 2, none⟩)) ?_ rfl
        simp only [execOp, evS, h5]
        go_simp
      refine ⟨fun t w1 hf hk hp => ?_, ?_⟩
      · have h35 : slot t 35 = .pointer (some ⟨w.heap.size, 2, none⟩) := hp 35 (by kernel_rfl)
        have h28 : slot t 28 = .bool true := hp 28 (by kernel_rfl)
        clear hf hp
        refine stepAt_on 28 true (by kernel_rfl) h28 ?_
        have hq0 := (R5.out.kept hk).cell 2
        refine stepOK_pure (.int .i64 a2_2) ?_ rfl
        simp only [execOp, evS, h35]
        go_simp
      refine ⟨fun t w1 hf hk hp => ?_, ?_⟩
      · have h29 : slot t 29 = .int .u32 (n : Int) := hp 29 (by kernel_rfl)
        have h30 : slot t 30 = .int .u32 (o : Int) := hp 30 (by kernel_rfl)
        have h32 : slot t 32 = .int .i64 a2_0 := hp 32 (by kernel_rfl)
        have h34 : slot t 34 = .int .i64 a2_1 := hp 34 (by kernel_rfl)
        have h36 : slot t 36 = .int .i64 a2_2 := hp 36 (by kernel_rfl)
        have h28 : slot t 28 = .bool true := hp 28 (by kernel_rfl)
        clear hf hp
        refine stepAt_on 28 true (by kernel_rfl) h28 ?_
        refine stepOK_call #[.int .u32 (n : Int), .int .u32 (o : Int), .int .i64 a2_0, .int .i64 a2_1, .int .i64 a2_2] rfl (by simp only [List.map_toArray, List.map_cons, List.map_nil, evS, h29, h30, h32, h34, h36]) (by go_simp) ((CA.out w1).mono fun e w' ⟨he, hk'⟩ => ⟨_, he, hk', rfl⟩)
      refine ⟨fun t w1 hf hk hp => ?_, ?_⟩
      · have h7 : slot t 7 = .int .i64 x := hf 7 (by kernel_rfl)
        have h28 : slot t 28 = .bool true := hp 28 (by kernel_rfl)
        clear hf hp
        refine stepAt_on 28 true (by kernel_rfl) h28 ?_
        exact stepOK_move _ (.inl rfl) h7
      refine ⟨fun t w1 hf hk hp => ?_, ?_⟩
      · have h38 : slot t 38 = .int .i64 x := hp 38 (by kernel_rfl)
        have h28 : slot t 28 = .bool true := hp 28 (by kernel_rfl)
        clear hf hp
        refine stepAt_on 28 true (by kernel_rfl) h28 ?_
        refine stepOK_pure (.bool (x == 1)) ?_ rfl
        simp only [execOp, evS, h38]
        go_simp
      refine ⟨fun t w1 hf hk hp => ?_, ?_⟩
      · have h37 : slot t 37 = .bool ab := hp 37 (by kernel_rfl)
        have h39 : slot t 39 = .bool (x == 1) := hp 39 (by kernel_rfl)
        have h28 : slot t 28 = .bool true := hp 28 (by kernel_rfl)
        clear hf hp
        refine stepAt_on 28 true (by kernel_rfl) h28 ?_
        have hq0 := hxa
        refine stepOK_pure (.bool true) ?_ rfl
        simp only [execOp, evS, h37, h39]
        go_simp
      refine ⟨fun t w1 hf hk hp => ?_, ?_⟩
      · have h28 : slot t 28 = .bool true := hp 28 (by kernel_rfl)
        have h40 : slot t 40 = .bool true := hp 40 (by kernel_rfl)
        clear hf hp
        refine stepAt_plain rfl ?_
        refine stepOK_pure (.bool true) ?_ rfl
        simp only [execOp, evS, h28, h40]
        go_simp
      refine ⟨fun t w1 hf hk hp => ?_, ?_⟩
      · have h41 : slot t 41 = .bool true := hp 41 (by kernel_rfl)
        clear hf hp
        refine stepAt_plain rfl ?_
        exact stepOK_move _ (.inl rfl) h41
      refine ⟨fun t w1 hf hk hp => ?_, ?_⟩
      · have h0 : slot t 0 = .int .u32 (n : Int) := hf 0 (by kernel_rfl)
        have h42 : slot t 42 = .bool true := hp 42 (by kernel_rfl)
        clear hf hp
        refine stepAt_on 42 true (by kernel_rfl) h42 ?_
        exact stepOK_move _ (.inl rfl) h0
      refine ⟨fun t w1 hf hk hp => ?_, ?_⟩
      · have h1 : slot t 1 = .int .u32 (o : Int) := hf 1 (by kernel_rfl)
        have h42 : slot t 42 = .bool true := hp 42 (by kernel_rfl)
        clear hf hp
        refine stepAt_on 42 true (by kernel_rfl) h42 ?_
        exact stepOK_move _ (.inl rfl) h1
      refine ⟨fun t w1 hf hk hp => ?_, ?_⟩
      · have h5 : slot t 5 = .pointer (some ⟨w.heap.size, 0, none⟩) := hf 5 (by kernel_rfl)
        have h42 : slot t 42 = .bool true := hp 42 (by kernel_rfl)
        clear hf hp
        refine stepAt_on 42 true (by kernel_rfl) h42 ?_
        refine stepOK_pure (.pointer (some ⟨w.heap.size, 0, none⟩)) ?_ rfl
        simp only [execOp, evS, h5]
        go_simp
      refine ⟨fun t w1 hf hk hp => ?_, ?_⟩
      · have h45 : slot t 45 = .pointer (some ⟨w.heap.size, 0, none⟩) := hp 45 (by kernel_rfl)
        have h42 : slot t 42 = .bool true := hp 42 (by kernel_rfl)
        clear hf hp
        refine stepAt_on 42 true (by kernel_rfl) h42 ?_
        have hq0 := (R5.out.kept hk).cell 0
        refine stepOK_pure (.int .i64 a2_0) ?_ rfl
        simp only [execOp, evS, h45]
        go_simp
      refine ⟨fun t w1 hf hk hp => ?_, ?_⟩
      · have h5 : slot t 5 = .pointer (some ⟨w.heap.size, 0, none⟩) := hf 5 (by kernel_rfl)
        have h42 : slot t 42 = .bool true := hp 42 (by kernel_rfl)
        clear hf hp
        refine stepAt_on 42 true (by kernel_rfl) h42 ?_
        refine stepOK_pure (.pointer (some ⟨w.heap.size, 1, none⟩)) ?_ rfl
        simp only [execOp, evS, h5]
        go_simp
      refine ⟨fun t w1 hf hk hp => ?_, ?_⟩
      · have h47 : slot t 47 = .pointer (some ⟨w.heap.size, 1, none⟩) := hp 47 (by kernel_rfl)
        have h42 : slot t 42 = .bool true := hp 42 (by kernel_rfl)
        clear hf hp
        refine stepAt_on 42 true (by kernel_rfl) h42 ?_
        have hq0 := (R5.out.kept hk).cell 1
        refine stepOK_pure (.int .i64 a2_1) ?_ rfl
        simp only [execOp, evS, h47]
        go_simp
      refine ⟨fun t w1 hf hk hp => ?_, ?_⟩
      · have h5 : slot t 5 = .pointer (some ⟨w.heap.size, 0, none⟩) := hf 5 (by kernel_rfl)
        have h42 : slot t 42 = .bool true := hp 42 (by kernel_rfl)
        clear hf hp
        refine stepAt_on 42 true (by kernel_rfl) h42 ?_
        refine stepOK_pure (.pointer (some ⟨w.heap.size, 2, none⟩)) ?_ rfl
        simp only [execOp, evS, h5]
        go_simp
      refine ⟨fun t w1 hf hk hp => ?_, ?_⟩
      · have h49 : slot t 49 = .pointer (some ⟨w.heap.size, 2, none⟩) := hp 49 (by kernel_rfl)
        have h42 : slot t 42 = .bool true := hp 42 (by kernel_rfl)
        clear hf hp
        refine stepAt_on 42 true (by kernel_rfl) h42 ?_
        have hq0 := (R5.out.kept hk).cell 2
        refine stepOK_pure (.int .i64 a2_2) ?_ rfl
        simp only [execOp, evS, h49]
        go_simp
      refine ⟨fun t w1 hf hk hp => ?_, ?_⟩
      · have h43 : slot t 43 = .int .u32 (n : Int) := hp 43 (by kernel_rfl)
        have h44 : slot t 44 = .int .u32 (o : Int) := hp 44 (by kernel_rfl)
        have h46 : slot t 46 = .int .i64 a2_0 := hp 46 (by kernel_rfl)
        have h48 : slot t 48 = .int .i64 a2_1 := hp 48 (by kernel_rfl)
        have h50 : slot t 50 = .int .i64 a2_2 := hp 50 (by kernel_rfl)
        have h42 : slot t 42 = .bool true := hp 42 (by kernel_rfl)
        clear hf hp
        refine stepAt_on 42 true (by kernel_rfl) h42 ?_
        refine stepOK_call #[.int .u32 (n : Int), .int .u32 (o : Int), .int .i64 a2_0, .int .i64 a2_1, .int .i64 a2_2] rfl (by simp only [List.map_toArray, List.map_cons, List.map_nil, evS, h43, h44, h46, h48, h50]) (by go_simp) ((CL.out w1).mono fun e w' ⟨he, hk'⟩ => ⟨_, he, hk', rfl⟩)
      refine ⟨fun t w1 hf hk hp => ?_, ?_⟩
      · have h7 : slot t 7 = .int .i64 x := hf 7 (by kernel_rfl)
        have h42 : slot t 42 = .bool true := hp 42 (by kernel_rfl)
        clear hf hp
        refine stepAt_on 42 true (by kernel_rfl) h42 ?_
        exact stepOK_move _ (.inl rfl) h7
      refine ⟨fun t w1 hf hk hp => ?_, ?_⟩
      · have h52 : slot t 52 = .int .i64 x := hp 52 (by kernel_rfl)
        have h42 : slot t 42 = .bool true := hp 42 (by kernel_rfl)
        clear hf hp
        refine stepAt_on 42 true (by kernel_rfl) h42 ?_
        have hq0 := hx0
        refine stepOK_pure (.bool false) ?_ rfl
        simp only [execOp, evS, h52]
        go_simp
      refine ⟨fun t w1 hf hk hp => ?_, ?_⟩
      · have h53 : slot t 53 = .bool false := hp 53 (by kernel_rfl)
        have h42 : slot t 42 = .bool true := hp 42 (by kernel_rfl)
        clear hf hp
        refine stepAt_on 42 true (by kernel_rfl) h42 ?_
        exact stepOK_move _ (.inl rfl) h53
      refine ⟨fun t w1 hf hk hp => ?_, ?_⟩
      · have h7 : slot t 7 = .int .i64 x := hf 7 (by kernel_rfl)
        have h54 : slot t 54 = .bool false := hp 54 (by kernel_rfl)
        clear hf hp
        refine stepAt_on 54 false (by kernel_rfl) h54 ?_
        exact stepOK_move _ (.inl rfl) h7
      refine ⟨fun t w1 hf hk hp => ?_, ?_⟩
      · have h55 : slot t 55 = .int .i64 x := hp 55 (by kernel_rfl)
        have h54 : slot t 54 = .bool false := hp 54 (by kernel_rfl)
        clear hf hp
        refine stepAt_on 54 false (by kernel_rfl) h54 ?_
        refine stepOK_pure (.bool (x == 1)) ?_ rfl
        simp only [execOp, evS, h55]
        go_simp
      refine ⟨fun t w1 hf hk hp => ?_, ?_⟩
      · have h54 : slot t 54 = .bool false := hp 54 (by kernel_rfl)
        have h56 : slot t 56 = .bool (x == 1) := hp 56 (by kernel_rfl)
        have h42 : slot t 42 = .bool true := hp 42 (by kernel_rfl)
        clear hf hp
        refine stepAt_on 42 true (by kernel_rfl) h42 ?_
        refine stepOK_pure (.bool (x == 1)) ?_ rfl
        simp only [execOp, evS, h54, h56]
        go_simp
      refine ⟨fun t w1 hf hk hp => ?_, ?_⟩
      · have h51 : slot t 51 = .bool le := hp 51 (by kernel_rfl)
        have h57 : slot t 57 = .bool (x == 1) := hp 57 (by kernel_rfl)
        have h42 : slot t 42 = .bool true := hp 42 (by kernel_rfl)
        clear hf hp
        refine stepAt_on 42 true (by kernel_rfl) h42 ?_
        have hq0 := hle
        refine stepOK_pure (.bool true) ?_ rfl
        simp only [execOp, evS, h51, h57]
        go_simp
      refine ⟨fun t w1 hf hk hp => ?_, ?_⟩
      · have h42 : slot t 42 = .bool true := hp 42 (by kernel_rfl)
        have h58 : slot t 58 = .bool true := hp 58 (by kernel_rfl)
        clear hf hp
        refine stepAt_plain rfl ?_
        refine stepOK_pure (.bool true) ?_ rfl
        simp only [execOp, evS, h42, h58]
        go_simp
      refine ⟨fun t w1 hf hk hp => ?_, ?_⟩
      · have h59 : slot t 59 = .bool true := hp 59 (by kernel_rfl)
        clear hf hp
        refine stepAt_plain rfl ?_
        exact stepOK_move _ (.inl rfl) h59
      refine ⟨fun t w1 hf hk hp => ?_, ?_⟩
      · have h60 : slot t 60 = .bool true := hp 60 (by kernel_rfl)
        clear hf hp
        refine stepAt_on 60 true (by kernel_rfl) h60 ?_
        refine stepOK_call #[] rfl (by simp only [List.map_toArray, List.map_nil]) (by go_simp) ((awake6_any w1).mono fun e w' ⟨he, hk'⟩ => ⟨_, he, hk', rfl⟩)
      refine ⟨fun t w1 hf hk hp => ?_, ?_⟩
      · have h60 : slot t 60 = .bool true := hp 60 (by kernel_rfl)
        have h61 : slot t 61 = .bool true := hp 61 (by kernel_rfl)
        clear hf hp
        refine stepAt_plain rfl ?_
        refine stepOK_pure (.bool true) ?_ rfl
        simp only [execOp, evS, h60, h61]
        go_simp
      refine ⟨fun t w1 hf hk hp => ?_, ?_⟩
      · have h62 : slot t 62 = .bool true := hp 62 (by kernel_rfl)
        clear hf hp
        refine stepAt_plain rfl ?_
        exact stepOK_move _ (.inr rfl) h62
      exact trivial
    · intro t w1 hsz hf hk hfacts
      have h6 : slot t 6 = .bool true := hfacts 46 _ rfl 6 rfl
      have h0 : slot t 0 = .int .u32 (n : Int) := hf 0 (by kernel_rfl)
      have h1 : slot t 1 = .int .u32 (o : Int) := hf 1 (by kernel_rfl)
      have h5 : slot t 5 = .pointer (some ⟨w.heap.size, 0, none⟩) := hf 5 (by kernel_rfl)
      have h7 : slot t 7 = .int .i64 x := hf 7 (by kernel_rfl)
      have harr : t = #[slot t 0, slot t 1, slot t 2, slot t 3, slot t 4, slot t 5, slot t 6, slot t 7, slot t 8, slot t 9, slot t 10, slot t 11, slot t 12, slot t 13, slot t 14, slot t 15, slot t 16, slot t 17, slot t 18, slot t 19, slot t 20, slot t 21, slot t 22, slot t 23, slot t 24, slot t 25, slot t 26, slot t 27, slot t 28, slot t 29, slot t 30, slot t 31, slot t 32, slot t 33, slot t 34, slot t 35, slot t 36, slot t 37, slot t 38, slot t 39, slot t 40, slot t 41, slot t 42, slot t 43, slot t 44, slot t 45, slot t 46, slot t 47, slot t 48, slot t 49, slot t 50, slot t 51, slot t 52, slot t 53, slot t 54, slot t 55, slot t 56, slot t 57, slot t 58, slot t 59, slot t 60, slot t 61, slot t 62] := arr_eq t 63 hsz
      rw [harr, h6, h0, h1, h5, h7]
      clear harr hfacts hf h6 h0 h1 h5 h7
      generalize slot t 2 = x2; generalize slot t 3 = x3; generalize slot t 4 = x4; generalize slot t 8 = x8; generalize slot t 9 = x9; generalize slot t 10 = x10; generalize slot t 11 = x11; generalize slot t 12 = x12; generalize slot t 13 = x13; generalize slot t 14 = x14; generalize slot t 15 = x15; generalize slot t 16 = x16
      generalize slot t 17 = x17; generalize slot t 18 = x18; generalize slot t 19 = x19; generalize slot t 20 = x20; generalize slot t 21 = x21; generalize slot t 22 = x22; generalize slot t 23 = x23; generalize slot t 24 = x24; generalize slot t 25 = x25; generalize slot t 26 = x26; generalize slot t 27 = x27; generalize slot t 28 = x28
      generalize slot t 29 = x29; generalize slot t 30 = x30; generalize slot t 31 = x31; generalize slot t 32 = x32; generalize slot t 33 = x33; generalize slot t 34 = x34; generalize slot t 35 = x35; generalize slot t 36 = x36; generalize slot t 37 = x37; generalize slot t 38 = x38; generalize slot t 39 = x39; generalize slot t 40 = x40
      generalize slot t 41 = x41; generalize slot t 42 = x42; generalize slot t 43 = x43; generalize slot t 44 = x44; generalize slot t 45 = x45; generalize slot t 46 = x46; generalize slot t 47 = x47; generalize slot t 48 = x48; generalize slot t 49 = x49; generalize slot t 50 = x50; generalize slot t 51 = x51; generalize slot t 52 = x52
      generalize slot t 53 = x53; generalize slot t 54 = x54; generalize slot t 55 = x55; generalize slot t 56 = x56; generalize slot t 57 = x57; generalize slot t 58 = x58; generalize slot t 59 = x59; generalize slot t 60 = x60; generalize slot t 61 = x61; generalize slot t 62 = x62
      clear hsz t
      go_wp2
      go_ret
      exact ⟨rfl, KK.out.trans hk⟩

set_option maxRecDepth 100000 in
set_option maxHeartbeats 1000000 in
theorem lifted (os : Os) (started : os.Started) (H : Type) (enc : TypeId × Value → H) :
    ReturnsInHanded {} Try.checked os 7 .any (Rows.ratioAsksSpec.pre6 enc Try.prog Try.f7 Rows.ratioAsksRow.domain false) (Rows.ratioAsksSpec.post enc Try.prog Try.f7 false true false false) := by
  refine returnsInHanded_of_change_sized (C := Try.checked) own started (by kernel_rfl) Try.func7
    (ChangeSpec.witness6 (enc := enc) (C := Try.checked) false ⟨#[], #[.int .u32 0, .int .u32 0, .agg #[.int .i64 0, .int .i64 0, .int .i64 0]], []⟩ 8 (by kernel_rfl) (by kernel_rfl) (by kernel_rfl) (by kernel_rfl)) ?_
  intro W base args ds gs before hval0 hW hcnd hsz0 _
  have hval : ∀ (j : Nat) t v, Try.f7.params[j]? = some t → args[j]? = some v → Value.okWide Try.prog W .any base t v := hval0
  have hsz : (DataW.weightsEach Try.prog (Try.f7.params.toList ++ Rows.ratioAsksSpec.plain.varTypes Try.prog) (ds ++ gs)).all (· ≤ reachBytes) = true := hsz0
  have hW' := hW
  obtain ⟨p, q, hA0, hV, rfl, hfz, hnd⟩ := hW
  have hA : DataW.TrodAll enc Try.prog W 0 (fun _ => true) true Try.f7.params.toList args.toList ds p := hA0
  have hAk := hA
  rw [Try.params7] at hA hval hsz
  obtain ⟨v0, vs0, d0, ds0, p0_, q0_, hargs, rfl, rfl, h0, r0_⟩ := trodAll_cons hA
  obtain ⟨v1, vs1, d1, ds1, p1_, q1_, rfl, rfl, rfl, h1, r1_⟩ := trodAll_cons r0_
  obtain ⟨v2, vs2, d2, ds2, p2_, q2_, rfl, rfl, rfl, h2, r2_⟩ := trodAll_cons r1_
  obtain ⟨rfl, rfl, rfl⟩ := trodAll_nil r2_
  obtain rfl : args = #[v0, v1, v2] := by cases args; simp_all
  obtain ⟨rfl, rfl⟩ := trodVars_none hV
  have hlt : ∀ x ∈ (p0_ ++ (p1_ ++ (p2_ ++ ([])))), x.block < W.heap.size := fun x hx => by simpa using hW'.lt x (by simpa using hx)
  obtain ⟨a0, rfl, rfl, rfl, w0⟩ := open_int Try.underlying56 (hval 0 56 v0 rfl rfl) h0
  obtain ⟨a1, rfl, rfl, rfl, w1⟩ := open_int Try.underlying56 (hval 1 56 v1 rfl rfl) h1
  obtain ⟨cs2, rfl⟩ : ∃ cs, v2 = .agg cs := by
    have := hval 2 57 v2 rfl rfl
    simp only [Value.okWide, Try.underlying57] at this
    obtain ⟨cs, h, _⟩ := this
    exact ⟨cs, h⟩
  obtain ⟨F2, W2, E2⟩ := open_intArr Try.underlying57 Try.underlying3 (by kernel_rfl) (by kernel_rfl) h2
  obtain rfl : cs2 = #[.int .i64 (F2 0), .int .i64 (F2 1), .int .i64 (F2 2)] := E2
  clear hA0 hval0
  refine (walk a0 w0 a1 w1 (F2 0) (W2 0 (by omega)) (F2 1) (W2 1 (by omega)) (F2 2) (W2 2 (by omega)) W ).mono fun e W' ⟨he, hg⟩ => ?_
  subst he
  exact ⟨_, rfl, ⟨_, _, _, [], _, [], hW', trodAll_cons_mk (shut_bool Try.underlying4 _) trodAll_mk0, trodAll_stays laidOut hg (by kernel_rfl) hAk hlt (fun x hx => by simpa using hlt x hx), rfl, Kept.frame hg _, fun h => by cases h⟩⟩

theorem over : Rows.ratioAsksRow.holds Try.pinned (OpenSpec.ofChange Rows.ratioAsksSpec) :=
  OpenClaim.holds_of_wide 7 Try.f7 rfl rfl rfl rfl rfl rfl rfl ⟨rfl, rfl, rfl, rfl, rfl⟩ rfl rfl rfl rfl rfl (by kernel_rfl) Try.func7 (by kernel_rfl)
    (of_decide_eq_true (by kernel_rfl)) (by unfold Func.isWrapper; first | (rw [if_pos (by decide +kernel)]; kernel_rfl) | (rw [if_neg (by decide +kernel)]; exact ⟨rfl, rfl⟩))
    (fun os started H enc _ => lifted os started H enc)
end Go.Proofs.Ytcjieaijcjinnaa.ratioAsks
namespace Go.Proofs.Ytcjieaijcjinnaa
theorem ratioAsks_holds : Rows.RatioAsksSaid := ratioAsks.over
#print axioms ratioAsks_holds
end Go.Proofs.Ytcjieaijcjinnaa
