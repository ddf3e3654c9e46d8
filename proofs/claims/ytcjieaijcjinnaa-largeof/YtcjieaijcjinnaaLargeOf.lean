/-
  large's Of and Wide take a number over as it is, at every number of 64 bits and at every hash; chapter 5's examples hold: 'LargeOf' returns true.
  Conditions: none.
-/
import Derived.Test.YtcjieaijcjinnaaRows
import Derived.Test.YtcjieaijcjinnaaLargeLaw
import Derived.Test.YtcjieaijcjinnaaLawLib
import Derived.Test.YtcjieaijcjinnaaLargeWalkH
import Derived.Test.YtcjieaijcjinnaaWideWalkA
import Derived.WalkKit
import Derived.ProofKit
import Derived.OpenShut
import Derived.ShutString
import Derived.SizedLaws
import Derived.Test.YtcjieaijcjinnaaLawLib
namespace Go.Proofs.Ytcjieaijcjinnaa.largeOf
open Go.ChangeShapes Go.WideShapes Go.ChangeAt Go.RowKit
open Go.ChangeMaps (open_string shut_string)
set_option linter.unusedVariables false

theorem own : ownKnob Try.prog.godebug = none := by kernel_rfl
theorem laidOut : laidOutB Try.prog = true := by kernel_rfl

set_option maxRecDepth 100000 in
set_option maxHeartbeats 4000000 in
theorem walk (a0 : Int) (w0 : (Lit.int .u64 a0).wf = true) (a1 : List UInt8) (n1 : a1.length = 32) (w : World)  :
    Calls Try.prog 5 #[.int .u64 a0, .agg (bC 32 a1)] w fun e w' => e = .returned (.bool true) ∧ Kept w w' := by
  obtain ⟨h1, h2⟩ := bounds_u64 w0
  obtain ⟨N, hN, rfl⟩ := hash_num a1 n1
  obtain ⟨x, rfl⟩ : ∃ x : Nat, a0 = (x : Int) := ⟨a0.toNat, by omega⟩
  have hx : x < 18446744073709551616 := by omega
  have HX := Lib.hid hx
  have HN := Lib.hid hN
  have HN5 : Hid (N < 2 ^ 320) := Lib.hid (Nat.lt_trans hN (by decide +kernel))
  have HLX := Lib.hid (lC_of x hx)
  have HL5 : Hid (lC N 5 = #[.int .u64 ((lmb N 0 : Nat) : Int), .int .u64 ((lmb N 1 : Nat) : Int), .int .u64 ((lmb N 2 : Nat) : Int), .int .u64 ((lmb N 3 : Nat) : Int), .int .u64 0]) := Lib.hid (by
    have h4 := lmb_high N 4 hN (by omega)
    simp [lC, List.range, List.range.loop, h4])
  have hsx : ∀ w, (Op.equalIn 10000 24 (.agg (lC x 5)) (.agg (lC x 5))).run Try.prog w = .ok true w := fun w => by
    have h : x < 2 ^ 320 := Nat.lt_trans hx (by decide +kernel)
    rw [sameL x x h h w]; simp
  have hsn : ∀ w, (Op.equalIn 10000 24 (.agg (lC N 5)) (.agg (lC N 5))).run Try.prog w = .ok true w := fun w => by
    rw [sameL N N HN5.out HN5.out w]; simp
  have hgd := guardL
  clear hN n1 w0 h1 h2 hx
  have F0 := Lib.hid (Rowz.new w (bC 32 (be 32 N)) 45)
  have K0 := Lib.hid ((Kept.refl w).alloc (.cells (bC 32 (be 32 N)) 45))
  have CO := Lib.hid fun w => wideOf_any N w
  have CW := Lib.hid fun w => largeWide_any N w HN.out
  go_enter Try.func5, Try.ntmps5
  go_wp2_with (first
    | (refine wpList_load_row rfl 45 (.tmp 3) rfl w.heap.size rfl 45 (bC 32 (be 32 N)) (0, 0) _ F0.out Try.underlying45 rfl (infoH _) ?_)
    | (go_at_call 24; refine (CO.out _).mono ?_; rintro e v2 ⟨rfl, k2⟩)
    | (refine wpList_store_made rfl 47 (.tmp 5) (.tmp 8) rfl v2 _ (nC N 4) rfl rfl 47 (nC 0 0) (by kernel_rfl) (infoN _ _) (by simp [nC_size]) (nC_one _ _) ?_; intro v3 R5 K5)
    | (refine wpList_load_row rfl 47 (.tmp 5) rfl v2.heap.size rfl 47 (nC N 4) (0, 0) _ R5.out Try.underlying47 rfl (infoN _ _) ?_)
    | (go_at_call 25; refine (CW.out _).mono ?_; rintro e v4 ⟨rfl, k4⟩)
    | (refine wpList_store_made rfl 24 (.tmp 6) (.tmp 10) rfl v4 _ (lC N 5) rfl rfl 24 (lC 0 0) (by kernel_rfl) (infoL _ _) (by simp [lC_size]) (lC_one _ _) ?_; intro v5 R6 K6))
  have KK := Lib.hid ((((K0.out.trans (Grown.kept k2)).trans K5.out).trans k4).trans K6.out)
  have R5' := Lib.hid ((R5.out.kept k4).kept K6.out)
  clear F0 K0 k2 K5 k4 K6 R5 CO CW
  refine wp_region_table [(11, .is (.int .u64 (x : Int))), (12, .is (.agg (lC x 5))), (13, .is (.int .u64 (x : Int))), (14, .is (.agg (lC x 5))), (15, .is (.bool true)), (16, .is (.bool true)), (17, .is (.agg (lC N 5))), (18, .is (.pointer (some ⟨v2.heap.size, 0, none⟩))), (19, .is (.int .u64 ((lmb N 0 : Nat) : Int))), (20, .is (.pointer (some ⟨v2.heap.size, 1, none⟩))), (21, .is (.int .u64 ((lmb N 1 : Nat) : Int))), (22, .is (.pointer (some ⟨v2.heap.size, 2, none⟩))), (23, .is (.int .u64 ((lmb N 2 : Nat) : Int))), (24, .is (.pointer (some ⟨v2.heap.size, 3, none⟩))), (25, .is (.int .u64 ((lmb N 3 : Nat) : Int))), (26, .is (.agg (lC N 5))), (27, .is (.bool true)), (28, .is (.bool true)), (29, .is (.bool true)), (30, .is (.agg (lC N 5))), (31, .is (.int .i64 ((bl N : Nat) : Int))), (32, .is (.agg (nC N 4))), (33, .is (.int .i64 ((bl N : Nat) : Int))), (34, .is (.bool true)), (35, .is (.bool true)), (36, .is (.bool true)), (37, .is (.bool true)), (38, .is (.bool true)), (4, .is (.bool true))] (by kernel_rfl) (by kernel_rfl) ?_ ?_
  · refine ⟨fun t w1 hf hk hp => ?_, ?_⟩
    · have h0 : slot t 0 = .int .u64 (x : Int) := hf 0 (by kernel_rfl)
      clear hf hp
      refine stepAt_plain rfl ?_
      exact stepOK_move _ (.inl rfl) h0
    refine ⟨fun t w1 hf hk hp => ?_, ?_⟩
    · have h11 : slot t 11 = .int .u64 (x : Int) := hp 11 (by kernel_rfl)
      clear hf hp
      refine stepAt_plain rfl ?_
      refine stepOK_call #[.int .u64 (x : Int)] rfl (by simp only [List.map_toArray, List.map_cons, List.map_nil, evS, h11]) (by go_simp) ((largeOf_any x w1 HX.out).mono fun e w' ⟨he, hk'⟩ => ⟨_, he, Grown.kept hk', rfl⟩)
    refine ⟨fun t w1 hf hk hp => ?_, ?_⟩
    · have h0 : slot t 0 = .int .u64 (x : Int) := hf 0 (by kernel_rfl)
      clear hf hp
      refine stepAt_plain rfl ?_
      exact stepOK_move _ (.inl rfl) h0
    refine ⟨fun t w1 hf hk hp => ?_, ?_⟩
    · have h13 : slot t 13 = .int .u64 (x : Int) := hp 13 (by kernel_rfl)
      clear hf hp
      refine stepAt_plain rfl ?_
      refine stepOK_pure (.agg (lC x 5)) ?_ rfl
      simp only [execOp, evS]
      go_simp
      rw [HLX.out]
    refine ⟨fun t w1 hf hk hp => ?_, ?_⟩
    · have h12 : slot t 12 = .agg (lC x 5) := hp 12 (by kernel_rfl)
      have h14 : slot t 14 = .agg (lC x 5) := hp 14 (by kernel_rfl)
      clear hf hp
      refine stepAt_plain rfl ?_
      have hq0 := hsx w1
      have hq1 := hgd
      refine stepOK_pure (.bool true) ?_ rfl
      simp only [execOp, evS, h12, h14]
      go_simp
    refine ⟨fun t w1 hf hk hp => ?_, ?_⟩
    · have h15 : slot t 15 = .bool true := hp 15 (by kernel_rfl)
      clear hf hp
      refine stepAt_plain rfl ?_
      exact stepOK_move _ (.inl rfl) h15
    refine ⟨fun t w1 hf hk hp => ?_, ?_⟩
    · have h6 : slot t 6 = .pointer (some ⟨v4.heap.size, 0, none⟩) := hf 6 (by kernel_rfl)
      have h16 : slot t 16 = .bool true := hp 16 (by kernel_rfl)
      clear hf hp
      refine stepAt_on 16 true (by kernel_rfl) h16 ?_
      have hq0 := Rowz.load (R6.out.kept hk) 5 22 Try.underlying24 (infoL _ _)
      exact stepOK_sem (.agg (lC N 5)) (by simp only [execOp, evS, h6]) hq0 rfl
    refine ⟨fun t w1 hf hk hp => ?_, ?_⟩
    · have h5 : slot t 5 = .pointer (some ⟨v2.heap.size, 0, none⟩) := hf 5 (by kernel_rfl)
      have h16 : slot t 16 = .bool true := hp 16 (by kernel_rfl)
      clear hf hp
      refine stepAt_on 16 true (by kernel_rfl) h16 ?_
      refine stepOK_pure (.pointer (some ⟨v2.heap.size, 0, none⟩)) ?_ rfl
      simp only [execOp, evS, h5]
      go_simp
    refine ⟨fun t w1 hf hk hp => ?_, ?_⟩
    · have h18 : slot t 18 = .pointer (some ⟨v2.heap.size, 0, none⟩) := hp 18 (by kernel_rfl)
      have h16 : slot t 16 = .bool true := hp 16 (by kernel_rfl)
      clear hf hp
      refine stepAt_on 16 true (by kernel_rfl) h16 ?_
      have hq0 := ((R5'.out.kept hk).cell 0).trans (nC_get N 4 0 (by omega) (by omega))
      refine stepOK_pure (.int .u64 ((lmb N 0 : Nat) : Int)) ?_ rfl
      simp only [execOp, evS, h18]
      go_simp
    refine ⟨fun t w1 hf hk hp => ?_, ?_⟩
    · have h5 : slot t 5 = .pointer (some ⟨v2.heap.size, 0, none⟩) := hf 5 (by kernel_rfl)
      have h16 : slot t 16 = .bool true := hp 16 (by kernel_rfl)
      clear hf hp
      refine stepAt_on 16 true (by kernel_rfl) h16 ?_
      refine stepOK_pure (.pointer (some ⟨v2.heap.size, 1, none⟩)) ?_ rfl
      simp only [execOp, evS, h5]
      go_simp
    refine ⟨fun t w1 hf hk hp => ?_, ?_⟩
    · have h20 : slot t 20 = .pointer (some ⟨v2.heap.size, 1, none⟩) := hp 20 (by kernel_rfl)
      have h16 : slot t 16 = .bool true := hp 16 (by kernel_rfl)
      clear hf hp
      refine stepAt_on 16 true (by kernel_rfl) h16 ?_
      have hq0 := ((R5'.out.kept hk).cell 1).trans (nC_get N 4 1 (by omega) (by omega))
      refine stepOK_pure (.int .u64 ((lmb N 1 : Nat) : Int)) ?_ rfl
      simp only [execOp, evS, h20]
      go_simp
    refine ⟨fun t w1 hf hk hp => ?_, ?_⟩
    · have h5 : slot t 5 = .pointer (some ⟨v2.heap.size, 0, none⟩) := hf 5 (by kernel_rfl)
      have h16 : slot t 16 = .bool true := hp 16 (by kernel_rfl)
      clear hf hp
      refine stepAt_on 16 true (by kernel_rfl) h16 ?_
      refine stepOK_pure (.pointer (some ⟨v2.heap.size, 2, none⟩)) ?_ rfl
      simp only [execOp, evS, h5]
      go_simp
    refine ⟨fun t w1 hf hk hp => ?_, ?_⟩
    · have h22 : slot t 22 = .pointer (some ⟨v2.heap.size, 2, none⟩) := hp 22 (by kernel_rfl)
      have h16 : slot t 16 = .bool true := hp 16 (by kernel_rfl)
      clear hf hp
      refine stepAt_on 16 true (by kernel_rfl) h16 ?_
      have hq0 := ((R5'.out.kept hk).cell 2).trans (nC_get N 4 2 (by omega) (by omega))
      refine stepOK_pure (.int .u64 ((lmb N 2 : Nat) : Int)) ?_ rfl
      simp only [execOp, evS, h22]
      go_simp
    refine ⟨fun t w1 hf hk hp => ?_, ?_⟩
    · have h5 : slot t 5 = .pointer (some ⟨v2.heap.size, 0, none⟩) := hf 5 (by kernel_rfl)
      have h16 : slot t 16 = .bool true := hp 16 (by kernel_rfl)
      clear hf hp
      refine stepAt_on 16 true (by kernel_rfl) h16 ?_
      refine stepOK_pure (.pointer (some ⟨v2.heap.size, 3, none⟩)) ?_ rfl
      simp only [execOp, evS, h5]
      go_simp
    refine ⟨fun t w1 hf hk hp => ?_, ?_⟩
    · have h24 : slot t 24 = .pointer (some ⟨v2.heap.size, 3, none⟩) := hp 24 (by kernel_rfl)
      have h16 : slot t 16 = .bool true := hp 16 (by kernel_rfl)
      clear hf hp
      refine stepAt_on 16 true (by kernel_rfl) h16 ?_
      have hq0 := ((R5'.out.kept hk).cell 3).trans (nC_get N 4 3 (by omega) (by omega))
      refine stepOK_pure (.int .u64 ((lmb N 3 : Nat) : Int)) ?_ rfl
      simp only [execOp, evS, h24]
      go_simp
    refine ⟨fun t w1 hf hk hp => ?_, ?_⟩
    · have h19 : slot t 19 = .int .u64 ((lmb N 0 : Nat) : Int) := hp 19 (by kernel_rfl)
      have h21 : slot t 21 = .int .u64 ((lmb N 1 : Nat) : Int) := hp 21 (by kernel_rfl)
      have h23 : slot t 23 = .int .u64 ((lmb N 2 : Nat) : Int) := hp 23 (by kernel_rfl)
      have h25 : slot t 25 = .int .u64 ((lmb N 3 : Nat) : Int) := hp 25 (by kernel_rfl)
      have h16 : slot t 16 = .bool true := hp 16 (by kernel_rfl)
      clear hf hp
      refine stepAt_on 16 true (by kernel_rfl) h16 ?_
      refine stepOK_pure (.agg (lC N 5)) ?_ rfl
      simp only [execOp, evS]
      go_simp
      rw [HL5.out]
    refine ⟨fun t w1 hf hk hp => ?_, ?_⟩
    · have h17 : slot t 17 = .agg (lC N 5) := hp 17 (by kernel_rfl)
      have h26 : slot t 26 = .agg (lC N 5) := hp 26 (by kernel_rfl)
      have h16 : slot t 16 = .bool true := hp 16 (by kernel_rfl)
      clear hf hp
      refine stepAt_on 16 true (by kernel_rfl) h16 ?_
      have hq0 := hsn w1
      have hq1 := hgd
      refine stepOK_pure (.bool true) ?_ rfl
      simp only [execOp, evS, h17, h26]
      go_simp
    refine ⟨fun t w1 hf hk hp => ?_, ?_⟩
    · have h16 : slot t 16 = .bool true := hp 16 (by kernel_rfl)
      have h27 : slot t 27 = .bool true := hp 27 (by kernel_rfl)
      clear hf hp
      refine stepAt_plain rfl ?_
      refine stepOK_pure (.bool true) ?_ rfl
      simp only [execOp, evS, h16, h27]
      go_simp
    refine ⟨fun t w1 hf hk hp => ?_, ?_⟩
    · have h28 : slot t 28 = .bool true := hp 28 (by kernel_rfl)
      clear hf hp
      refine stepAt_plain rfl ?_
      exact stepOK_move _ (.inl rfl) h28
    refine ⟨fun t w1 hf hk hp => ?_, ?_⟩
    · have h6 : slot t 6 = .pointer (some ⟨v4.heap.size, 0, none⟩) := hf 6 (by kernel_rfl)
      have h29 : slot t 29 = .bool true := hp 29 (by kernel_rfl)
      clear hf hp
      refine stepAt_on 29 true (by kernel_rfl) h29 ?_
      have hq0 := Rowz.load (R6.out.kept hk) 5 22 Try.underlying24 (infoL _ _)
      exact stepOK_sem (.agg (lC N 5)) (by simp only [execOp, evS, h6]) hq0 rfl
    refine ⟨fun t w1 hf hk hp => ?_, ?_⟩
    · have h30 : slot t 30 = .agg (lC N 5) := hp 30 (by kernel_rfl)
      have h29 : slot t 29 = .bool true := hp 29 (by kernel_rfl)
      clear hf hp
      refine stepAt_on 29 true (by kernel_rfl) h29 ?_
      refine stepOK_call #[.agg (lC N 5)] rfl (by simp only [List.map_toArray, List.map_cons, List.map_nil, evS, h30]) (by go_simp) ((largeLen_any N w1 HN5.out).mono fun e w' ⟨he, hk'⟩ => ⟨_, he, Grown.kept hk', rfl⟩)
    refine ⟨fun t w1 hf hk hp => ?_, ?_⟩
    · have h5 : slot t 5 = .pointer (some ⟨v2.heap.size, 0, none⟩) := hf 5 (by kernel_rfl)
      have h29 : slot t 29 = .bool true := hp 29 (by kernel_rfl)
      clear hf hp
      refine stepAt_on 29 true (by kernel_rfl) h29 ?_
      have hq0 := Rowz.load (R5'.out.kept hk) 4 22 Try.underlying47 (infoN _ _)
      exact stepOK_sem (.agg (nC N 4)) (by simp only [execOp, evS, h5]) hq0 rfl
    refine ⟨fun t w1 hf hk hp => ?_, ?_⟩
    · have h32 : slot t 32 = .agg (nC N 4) := hp 32 (by kernel_rfl)
      have h29 : slot t 29 = .bool true := hp 29 (by kernel_rfl)
      clear hf hp
      refine stepAt_on 29 true (by kernel_rfl) h29 ?_
      refine stepOK_call #[.agg (nC N 4)] rfl (by simp only [List.map_toArray, List.map_cons, List.map_nil, evS, h32]) (by go_simp) ((wideLen_any N w1 HN.out).mono fun e w' ⟨he, hk'⟩ => ⟨_, he, Grown.kept hk', rfl⟩)
    refine ⟨fun t w1 hf hk hp => ?_, ?_⟩
    · have h31 : slot t 31 = .int .i64 ((bl N : Nat) : Int) := hp 31 (by kernel_rfl)
      have h33 : slot t 33 = .int .i64 ((bl N : Nat) : Int) := hp 33 (by kernel_rfl)
      have h29 : slot t 29 = .bool true := hp 29 (by kernel_rfl)
      clear hf hp
      refine stepAt_on 29 true (by kernel_rfl) h29 ?_
      refine stepOK_pure (.bool true) ?_ rfl
      simp only [execOp, evS, h31, h33]
      go_simp
    refine ⟨fun t w1 hf hk hp => ?_, ?_⟩
    · have h29 : slot t 29 = .bool true := hp 29 (by kernel_rfl)
      have h34 : slot t 34 = .bool true := hp 34 (by kernel_rfl)
      clear hf hp
      refine stepAt_plain rfl ?_
      refine stepOK_pure (.bool true) ?_ rfl
      simp only [execOp, evS, h29, h34]
      go_simp
    refine ⟨fun t w1 hf hk hp => ?_, ?_⟩
    · have h35 : slot t 35 = .bool true := hp 35 (by kernel_rfl)
      clear hf hp
      refine stepAt_plain rfl ?_
      exact stepOK_move _ (.inl rfl) h35
    refine ⟨fun t w1 hf hk hp => ?_, ?_⟩
    · have h36 : slot t 36 = .bool true := hp 36 (by kernel_rfl)
      clear hf hp
      refine stepAt_on 36 true (by kernel_rfl) h36 ?_
      refine stepOK_call #[] rfl (by simp only [List.map_toArray, List.map_nil]) (by go_simp) ((awake5_any w1).mono fun e w' ⟨he, hk'⟩ => ⟨_, he, hk', rfl⟩)
    refine ⟨fun t w1 hf hk hp => ?_, ?_⟩
    · have h36 : slot t 36 = .bool true := hp 36 (by kernel_rfl)
      have h37 : slot t 37 = .bool true := hp 37 (by kernel_rfl)
      clear hf hp
      refine stepAt_plain rfl ?_
      refine stepOK_pure (.bool true) ?_ rfl
      simp only [execOp, evS, h36, h37]
      go_simp
    refine ⟨fun t w1 hf hk hp => ?_, ?_⟩
    · have h38 : slot t 38 = .bool true := hp 38 (by kernel_rfl)
      clear hf hp
      refine stepAt_plain rfl ?_
      exact stepOK_move _ (.inr rfl) h38
    exact trivial
  · intro t w1 hsz hf hk hfacts
    have h4 : slot t 4 = .bool true := hfacts 28 _ rfl 4 rfl
    have h0 : slot t 0 = .int .u64 (x : Int) := hf 0 (by kernel_rfl)
    have h5 : slot t 5 = .pointer (some ⟨v2.heap.size, 0, none⟩) := hf 5 (by kernel_rfl)
    have h6 : slot t 6 = .pointer (some ⟨v4.heap.size, 0, none⟩) := hf 6 (by kernel_rfl)
    have harr : t = #[slot t 0, slot t 1, slot t 2, slot t 3, slot t 4, slot t 5, slot t 6, slot t 7, slot t 8, slot t 9, slot t 10, slot t 11, slot t 12, slot t 13, slot t 14, slot t 15, slot t 16, slot t 17, slot t 18, slot t 19, slot t 20, slot t 21, slot t 22, slot t 23, slot t 24, slot t 25, slot t 26, slot t 27, slot t 28, slot t 29, slot t 30, slot t 31, slot t 32, slot t 33, slot t 34, slot t 35, slot t 36, slot t 37, slot t 38] := arr_eq t 39 hsz
    rw [harr, h4, h0, h5, h6]
    clear harr hfacts hf h4 h0 h5 h6
    generalize slot t 1 = x1; generalize slot t 2 = x2; generalize slot t 3 = x3; generalize slot t 7 = x7; generalize slot t 8 = x8; generalize slot t 9 = x9; generalize slot t 10 = x10; generalize slot t 11 = x11; generalize slot t 12 = x12; generalize slot t 13 = x13; generalize slot t 14 = x14; generalize slot t 15 = x15
    generalize slot t 16 = x16; generalize slot t 17 = x17; generalize slot t 18 = x18; generalize slot t 19 = x19; generalize slot t 20 = x20; generalize slot t 21 = x21; generalize slot t 22 = x22; generalize slot t 23 = x23; generalize slot t 24 = x24; generalize slot t 25 = x25; generalize slot t 26 = x26; generalize slot t 27 = x27
    generalize slot t 28 = x28; generalize slot t 29 = x29; generalize slot t 30 = x30; generalize slot t 31 = x31; generalize slot t 32 = x32; generalize slot t 33 = x33; generalize slot t 34 = x34; generalize slot t 35 = x35; generalize slot t 36 = x36; generalize slot t 37 = x37; generalize slot t 38 = x38
    clear hsz t
    go_wp2
    go_ret
    exact ⟨rfl, KK.out.trans hk⟩

set_option maxRecDepth 100000 in
set_option maxHeartbeats 1000000 in
theorem lifted (os : Os) (started : os.Started) (H : Type) (enc : TypeId × Value → H) :
    ReturnsInHanded {} Try.checked os 5 .any (Rows.largeOfSpec.pre6 enc Try.prog Try.f5 Rows.largeOfRow.domain false) (Rows.largeOfSpec.post enc Try.prog Try.f5 false true false false) := by
  refine returnsInHanded_of_change_sized (C := Try.checked) own started (by kernel_rfl) Try.func5
    (ChangeSpec.witness6 (enc := enc) (C := Try.checked) false ⟨#[], #[.int .u64 0, .agg #[.int .u8 0, .int .u8 0, .int .u8 0, .int .u8 0, .int .u8 0, .int .u8 0, .int .u8 0, .int .u8 0, .int .u8 0, .int .u8 0, .int .u8 0, .int .u8 0, .int .u8 0, .int .u8 0, .int .u8 0, .int .u8 0, .int .u8 0, .int .u8 0, .int .u8 0, .int .u8 0, .int .u8 0, .int .u8 0, .int .u8 0, .int .u8 0, .int .u8 0, .int .u8 0, .int .u8 0, .int .u8 0, .int .u8 0, .int .u8 0, .int .u8 0, .int .u8 0]], []⟩ 8 (by kernel_rfl) (by kernel_rfl) (by kernel_rfl) (by kernel_rfl)) ?_
  intro W base args ds gs before hval0 hW hcnd hsz0 _
  have hval : ∀ (j : Nat) t v, Try.f5.params[j]? = some t → args[j]? = some v → Value.okWide Try.prog W .any base t v := hval0
  have hsz : (DataW.weightsEach Try.prog (Try.f5.params.toList ++ Rows.largeOfSpec.plain.varTypes Try.prog) (ds ++ gs)).all (· ≤ reachBytes) = true := hsz0
  have hW' := hW
  obtain ⟨p, q, hA0, hV, rfl, hfz, hnd⟩ := hW
  have hA : DataW.TrodAll enc Try.prog W 0 (fun _ => true) true Try.f5.params.toList args.toList ds p := hA0
  have hAk := hA
  rw [Try.params5] at hA hval hsz
  obtain ⟨v0, vs0, d0, ds0, p0_, q0_, hargs, rfl, rfl, h0, r0_⟩ := trodAll_cons hA
  obtain ⟨v1, vs1, d1, ds1, p1_, q1_, rfl, rfl, rfl, h1, r1_⟩ := trodAll_cons r0_
  obtain ⟨rfl, rfl, rfl⟩ := trodAll_nil r1_
  obtain rfl : args = #[v0, v1] := by cases args; simp_all
  obtain ⟨rfl, rfl⟩ := trodVars_none hV
  have hlt : ∀ x ∈ (p0_ ++ (p1_ ++ ([]))), x.block < W.heap.size := fun x hx => by simpa using hW'.lt x (by simpa using hx)
  obtain ⟨a0, rfl, rfl, rfl, w0⟩ := open_int Try.underlying22 (hval 0 22 v0 rfl rfl) h0
  obtain ⟨cs1, rfl⟩ : ∃ cs, v1 = .agg cs := by
    have := hval 1 45 v1 rfl rfl
    simp only [Value.okWide, Try.underlying45] at this
    obtain ⟨cs, h, _⟩ := this
    exact ⟨cs, h⟩
  obtain ⟨a1, n1, rfl⟩ := open_hash Try.underlying45 Try.underlying5 (by kernel_rfl) (by kernel_rfl) h1
  clear hA0 hval0
  refine (walk a0 w0 a1 n1 W ).mono fun e W' ⟨he, hg⟩ => ?_
  subst he
  exact ⟨_, rfl, ⟨_, _, _, [], _, [], hW', trodAll_cons_mk (shut_bool Try.underlying4 _) trodAll_mk0, trodAll_stays laidOut hg (by kernel_rfl) hAk hlt (fun x hx => by simpa using hlt x hx), rfl, Kept.frame hg _, fun h => by cases h⟩⟩

theorem over : Rows.largeOfRow.holds Try.pinned (OpenSpec.ofChange Rows.largeOfSpec) :=
  OpenClaim.holds_of_wide 5 Try.f5 rfl rfl rfl rfl rfl rfl rfl ⟨rfl, rfl, rfl, rfl, rfl⟩ rfl rfl rfl rfl rfl (by kernel_rfl) Try.func5 (by kernel_rfl)
    (of_decide_eq_true (by kernel_rfl)) (by unfold Func.isWrapper; first | (rw [if_pos (by decide +kernel)]; kernel_rfl) | (rw [if_neg (by decide +kernel)]; exact ⟨rfl, rfl⟩))
    (fun os started H enc _ => lifted os started H enc)
end Go.Proofs.Ytcjieaijcjinnaa.largeOf
namespace Go.Proofs.Ytcjieaijcjinnaa
theorem largeOf_holds : Rows.LargeOfSaid := largeOf.over
#print axioms largeOf_holds
end Go.Proofs.Ytcjieaijcjinnaa
