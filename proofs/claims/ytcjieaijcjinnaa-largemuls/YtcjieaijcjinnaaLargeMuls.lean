/-
  large's Mul and Shl are what digit arithmetic tells, at every number, factor and shift, too many bits included; chapter 5's examples hold: 'LargeMuls' returns true.
  Conditions: none.
-/
import Derived.Test.YtcjieaijcjinnaaRows
import Derived.Test.YtcjieaijcjinnaaLargeLaw
import Derived.Test.YtcjieaijcjinnaaLawLib
import Derived.Test.YtcjieaijcjinnaaLargeRefB
import Derived.Test.YtcjieaijcjinnaaLargeRefC
import Derived.WalkKit
import Derived.ProofKit
import Derived.OpenShut
import Derived.ShutString
import Derived.SizedLaws
import Derived.Test.YtcjieaijcjinnaaLawLib
namespace Go.Proofs.Ytcjieaijcjinnaa.largeMuls
open Go.ChangeShapes Go.WideShapes Go.ChangeAt Go.RowKit
open Go.ChangeMaps (open_string shut_string)
set_option linter.unusedVariables false

theorem own : ownKnob Try.prog.godebug = none := by kernel_rfl
theorem laidOut : laidOutB Try.prog = true := by kernel_rfl

set_option maxRecDepth 100000 in
set_option maxHeartbeats 4000000 in
theorem walk (a0 : List Nat) (n0 : a0.length = 5) (b0 : ∀ x ∈ a0, x < 18446744073709551616) (a1 : Int) (w1 : (Lit.int .u64 a1).wf = true) (a2 : Int) (w2 : (Lit.int .i64 a2).wf = true) (w : World)  :
    Calls Try.prog 4 #[.agg (qC 5 a0), .int .u64 a1, .int .i64 a2] w fun e w' => e = .returned (.bool true) ∧ Kept w w' := by
  obtain ⟨A, hA, e0⟩ := limbs_num a0 n0 b0
  obtain ⟨h1, h2⟩ := bounds_u64 w1
  obtain ⟨h3, h4⟩ := bounds_i64 w2
  rw [e0]
  obtain ⟨y, rfl⟩ : ∃ y : Nat, a1 = (y : Int) := ⟨a1.toNat, by omega⟩
  have hy : y < 18446744073709551616 := by omega
  have HA := Lib.hid hA
  have hA20 := dl20 A hA
  have hy4 : dl y ≤ 4 := by have := bl_le y 64 hy; unfold dl; omega
  have HM : Hid (dl (A * y) ≤ 1000000) := Lib.hid (by
    have h := dl_le (A * y) (dl A + dl y) (by rw [Nat.pow_add]; exact Nat.mul_lt_mul'' (dl_lt A) (dl_lt y))
    omega)
  clear e0 b0 n0 w1 w2 a0 hA h1 h2
  have F0 := Lib.hid (Rowz.new w (lC A 5) 24)
  have K0 := Lib.hid ((Kept.refl w).alloc (.cells (lC A 5) 24))
  have CL := Lib.hid (limbs5_any A w.heap.size _ F0.out HA.out)
  have hal := run_all5 w.heap.size
  have CM := Lib.hid fun w => largeMul_any A y w HA.out hy
  go_enter Try.func4, Try.ntmps4
  go_wp2_with (first
    | (go_at_call 10; refine CL.out.mono ?_; rintro e wa ⟨v7, rfl, d7, k1⟩; have R1 := Lib.hid (F0.out.kept k1))
    | (refine wpList_load_row rfl 24 (.tmp 3) rfl w.heap.size rfl 24 (lC A 5) (0, 0) _ R1.out Try.underlying24 rfl (infoL _ _) ?_)
    | (go_at_call 19; refine (CM.out _).mono ?_; rintro e v2 ⟨rfl, k2⟩)
    | (refine wpList_store_made rfl 24 (.tmp 8) (.tmp 18) rfl v2 _ (lC (cut (A * y)) 5) rfl rfl 24 (lC 0 0) (by kernel_rfl) (infoL _ _) (by simp [lC_size]) (lC_one _ _) ?_; intro v3 R8 K8))
  have R3 := Lib.hid ((R1.out.grown k2).kept K8.out)
  have KK := Lib.hid (((K0.out.trans k1).trans (Grown.kept k2)).trans K8.out)
  have D7 := Lib.hid (dig_kept _ _ _ ((Grown.kept k2).trans K8.out) d7)
  clear R1 F0 K0 k1 k2 K8 CM CL d7 hal
  refine wp_region_table [(20, .is (.agg (lC (cut (A * y)) 5))), (21, .is (.bool (fit (A * y)))), (22, .is (v7)), (23, .is (.int .u64 (y : Int))), (24, .such (Dig y) dig_kept), (25, .such (Dig (A * y)) dig_kept), (26, .is (.bool true)), (27, .is (.bool false))] (by kernel_rfl) (by kernel_rfl) ?_ ?_
  · refine ⟨fun t w1 hf hk hp => ?_, ?_⟩
    · have h8 : slot t 8 = .pointer (some ⟨v2.heap.size, 0, none⟩) := hf 8 (by kernel_rfl)
      clear hf hp
      refine stepAt_plain rfl ?_
      have hq0 := Rowz.load (R8.out.kept hk) 5 22 Try.underlying24 (infoL _ _)
      exact stepOK_sem (.agg (lC (cut (A * y)) 5)) (by simp only [execOp, evS, h8]) hq0 rfl
    refine ⟨fun t w1 hf hk hp => ?_, ?_⟩
    · have h9 : slot t 9 = .bool (fit (A * y)) := hf 9 (by kernel_rfl)
      clear hf hp
      refine stepAt_plain rfl ?_
      exact stepOK_move _ (.inl rfl) h9
    refine ⟨fun t w1 hf hk hp => ?_, ?_⟩
    · have h7 : slot t 7 = v7 := hf 7 (by kernel_rfl)
      clear hf hp
      refine stepAt_plain rfl ?_
      exact stepOK_move _ (.inl rfl) h7
    refine ⟨fun t w1 hf hk hp => ?_, ?_⟩
    · have h1 : slot t 1 = .int .u64 (y : Int) := hf 1 (by kernel_rfl)
      clear hf hp
      refine stepAt_plain rfl ?_
      exact stepOK_move _ (.inl rfl) h1
    refine ⟨fun t w1 hf hk hp => ?_, ?_⟩
    · have h23 : slot t 23 = .int .u64 (y : Int) := hp 23 (by kernel_rfl)
      clear hf hp
      refine stepAt_plain rfl ?_
      refine stepOK_call #[.int .u64 (y : Int)] rfl (by simp only [List.map_toArray, List.map_cons, List.map_nil, evS, h23]) (by go_simp) ((refOf5_any y w1 hy).mono fun e w' ⟨v, he, hpv, hk'⟩ => ⟨v, he, hk', hpv⟩)
    refine ⟨fun t w1 hf hk hp => ?_, ?_⟩
    · have h22 : slot t 22 = v7 := hp 22 (by kernel_rfl)
      obtain ⟨v24, h24, p24⟩ : ∃ v, slot t 24 = v ∧ (Dig y) v w1 := ⟨_, rfl, hp 24 (by kernel_rfl)⟩
      clear hf hp
      refine stepAt_plain rfl ?_
      refine stepOK_call #[v7, v24] rfl (by simp only [List.map_toArray, List.map_cons, List.map_nil, evS, h22, h24]) (by go_simp) ((refMul5_any A y _ _ w1 (dig_kept _ _ _ hk D7.out) p24 (by omega) (by omega)).mono fun e w' ⟨v, he, hpv, hk'⟩ => ⟨v, he, hk', hpv⟩)
    refine ⟨fun t w1 hf hk hp => ?_, ?_⟩
    · have h20 : slot t 20 = .agg (lC (cut (A * y)) 5) := hp 20 (by kernel_rfl)
      have h21 : slot t 21 = .bool (fit (A * y)) := hp 21 (by kernel_rfl)
      obtain ⟨v25, h25, p25⟩ : ∃ v, slot t 25 = v ∧ (Dig (A * y)) v w1 := ⟨_, rfl, hp 25 (by kernel_rfl)⟩
      clear hf hp
      refine stepAt_plain rfl ?_
      refine stepOK_call #[.agg (lC (cut (A * y)) 5), .bool (fit (A * y)), v25] rfl (by simp only [List.map_toArray, List.map_cons, List.map_nil, evS, h20, h21, h25]) (by go_simp) ((same5_any (A * y) _ w1 p25 HM.out).mono fun e w' ⟨he, hk'⟩ => ⟨_, he, hk', rfl⟩)
    refine ⟨fun t w1 hf hk hp => ?_, ?_⟩
    · have h26 : slot t 26 = .bool true := hp 26 (by kernel_rfl)
      clear hf hp
      refine stepAt_plain rfl ?_
      refine stepOK_pure (.bool false) ?_ rfl
      simp only [execOp, evS, h26]
      go_simp
    exact trivial
  · intro t w1 hsz hf hk hfacts
    have h27 : slot t 27 = .bool false := hfacts 7 _ rfl 27 rfl
    have h1 : slot t 1 = .int .u64 (y : Int) := hf 1 (by kernel_rfl)
    have h2 : slot t 2 = .int .i64 a2 := hf 2 (by kernel_rfl)
    have h3 : slot t 3 = .pointer (some ⟨w.heap.size, 0, none⟩) := hf 3 (by kernel_rfl)
    have h7 : slot t 7 = v7 := hf 7 (by kernel_rfl)
    have h8 : slot t 8 = .pointer (some ⟨v2.heap.size, 0, none⟩) := hf 8 (by kernel_rfl)
    have h9 : slot t 9 = .bool (fit (A * y)) := hf 9 (by kernel_rfl)
    have harr : t = #[slot t 0, slot t 1, slot t 2, slot t 3, slot t 4, slot t 5, slot t 6, slot t 7, slot t 8, slot t 9, slot t 10, slot t 11, slot t 12, slot t 13, slot t 14, slot t 15, slot t 16, slot t 17, slot t 18, slot t 19, slot t 20, slot t 21, slot t 22, slot t 23, slot t 24, slot t 25, slot t 26, slot t 27, slot t 28, slot t 29, slot t 30, slot t 31, slot t 32, slot t 33, slot t 34, slot t 35, slot t 36, slot t 37, slot t 38, slot t 39, slot t 40, slot t 41, slot t 42, slot t 43, slot t 44, slot t 45, slot t 46, slot t 47, slot t 48, slot t 49, slot t 50, slot t 51, slot t 52, slot t 53, slot t 54, slot t 55, slot t 56, slot t 57, slot t 58, slot t 59, slot t 60, slot t 61, slot t 62, slot t 63, slot t 64, slot t 65, slot t 66] := arr_eq t 67 hsz
    rw [harr, h27, h1, h2, h3, h7, h8, h9]
    clear harr hfacts hf h27 h1 h2 h3 h7 h8 h9
    generalize slot t 0 = x0; generalize slot t 4 = x4; generalize slot t 5 = x5; generalize slot t 6 = x6; generalize slot t 10 = x10; generalize slot t 11 = x11; generalize slot t 12 = x12; generalize slot t 13 = x13; generalize slot t 14 = x14; generalize slot t 15 = x15; generalize slot t 16 = x16; generalize slot t 17 = x17
    generalize slot t 18 = x18; generalize slot t 19 = x19; generalize slot t 20 = x20; generalize slot t 21 = x21; generalize slot t 22 = x22; generalize slot t 23 = x23; generalize slot t 24 = x24; generalize slot t 25 = x25; generalize slot t 26 = x26; generalize slot t 28 = x28; generalize slot t 29 = x29; generalize slot t 30 = x30
    generalize slot t 31 = x31; generalize slot t 32 = x32; generalize slot t 33 = x33; generalize slot t 34 = x34; generalize slot t 35 = x35; generalize slot t 36 = x36; generalize slot t 37 = x37; generalize slot t 38 = x38; generalize slot t 39 = x39; generalize slot t 40 = x40; generalize slot t 41 = x41; generalize slot t 42 = x42
    generalize slot t 43 = x43; generalize slot t 44 = x44; generalize slot t 45 = x45; generalize slot t 46 = x46; generalize slot t 47 = x47; generalize slot t 48 = x48; generalize slot t 49 = x49; generalize slot t 50 = x50; generalize slot t 51 = x51; generalize slot t 52 = x52; generalize slot t 53 = x53; generalize slot t 54 = x54
    generalize slot t 55 = x55; generalize slot t 56 = x56; generalize slot t 57 = x57; generalize slot t 58 = x58; generalize slot t 59 = x59; generalize slot t 60 = x60; generalize slot t 61 = x61; generalize slot t 62 = x62; generalize slot t 63 = x63; generalize slot t 64 = x64; generalize slot t 65 = x65; generalize slot t 66 = x66
    clear hsz t
    have R4 := Lib.hid (R3.out.kept hk)
    have K4 := Lib.hid (KK.out.trans hk)
    have D8 := Lib.hid (dig_kept _ _ _ hk D7.out)
    clear R3 KK D7 R8 HM hk
    have hgd := guardL
    have hs0 : ∀ w, (Op.equalIn 10000 24 (.agg (lC 0 5)) (.agg (lC 0 5))).run Try.prog w = .ok true w := fun w => by rw [sameL 0 0 pos320 pos320 w]; rfl
    by_cases hneg : a2 < 0
    · have CS := Lib.hid fun w => largeShl_neg A a2 w hneg
      have hd1 : decide (a2 < 0) = true := decide_eq_true hneg
      have hd2 : decide (0 < a2) = false := decide_eq_false (by omega)
      clear hneg
      go_wp2_with (first
        | (refine wpList_load_row rfl 24 (.tmp 3) rfl w.heap.size rfl 24 (lC A 5) (0, 0) _ R4.out Try.underlying24 rfl (infoL _ _) ?_)
        | (go_at_call 22; refine (CS.out _).mono ?_; rintro e v5 ⟨rfl, k5⟩)
        | (refine wpList_store_made rfl 24 (.tmp 10) (.tmp 32) rfl v5 _ (lC (0) 5) rfl rfl 24 (lC 0 0) (by kernel_rfl) (infoL _ _) (by simp [lC_size]) (lC_one _ _) ?_; intro v6 R10 K10)
        | (refine park_at 50 rfl ?_))
      have K6 := Lib.hid ((K4.out.trans k5).trans K10.out)
      clear K4 k5 K10 R4 CS
      refine unpark ?_
      refine wpList_table 8 [(50, .is (.agg (lC 0 5))), (51, .is (.agg (lC 0 5))), (52, .is (.bool true)), (53, .is (.bool true)), (54, .is (.bool true)), (55, .is (.bool true)), (56, .is (.bool true)), (6, .is (.bool true))] (by kernel_rfl) ?_ ?_
      · refine ⟨fun t w1 hf hk hp => ?_, ?_⟩
        · have h10 : slot t 10 = .pointer (some ⟨v5.heap.size, 0, none⟩) := hf 10 (by kernel_rfl)
          have h49 : slot t 49 = .bool true := hf 49 (by kernel_rfl)
          clear hf hp
          refine stepAt_on 49 true (by kernel_rfl) h49 ?_
          have hq0 := Rowz.load (R10.out.kept hk) 5 22 Try.underlying24 (infoL _ _)
          exact stepOK_sem (.agg (lC 0 5)) (by simp only [execOp, evS, h10]) hq0 rfl
        refine ⟨fun t w1 hf hk hp => ?_, ?_⟩
        · have h49 : slot t 49 = .bool true := hf 49 (by kernel_rfl)
          clear hf hp
          refine stepAt_on 49 true (by kernel_rfl) h49 ?_
          refine stepOK_pure (.agg (lC 0 5)) ?_ rfl
          simp only [execOp, evS]
          go_simp
          kernel_rfl
        refine ⟨fun t w1 hf hk hp => ?_, ?_⟩
        · have h50 : slot t 50 = .agg (lC 0 5) := hp 50 (by kernel_rfl)
          have h51 : slot t 51 = .agg (lC 0 5) := hp 51 (by kernel_rfl)
          have h49 : slot t 49 = .bool true := hf 49 (by kernel_rfl)
          clear hf hp
          refine stepAt_on 49 true (by kernel_rfl) h49 ?_
          have hq0 := hs0 w1
          have hq1 := hgd
          refine stepOK_pure (.bool true) ?_ rfl
          simp only [execOp, evS, h50, h51]
          go_simp
        refine ⟨fun t w1 hf hk hp => ?_, ?_⟩
        · have h49 : slot t 49 = .bool true := hf 49 (by kernel_rfl)
          have h52 : slot t 52 = .bool true := hp 52 (by kernel_rfl)
          clear hf hp
          refine stepAt_plain rfl ?_
          refine stepOK_pure (.bool true) ?_ rfl
          simp only [execOp, evS, h49, h52]
          go_simp
        refine ⟨fun t w1 hf hk hp => ?_, ?_⟩
        · have h53 : slot t 53 = .bool true := hp 53 (by kernel_rfl)
          clear hf hp
          refine stepAt_plain rfl ?_
          exact stepOK_move _ (.inl rfl) h53
        refine ⟨fun t w1 hf hk hp => ?_, ?_⟩
        · have h54 : slot t 54 = .bool true := hp 54 (by kernel_rfl)
          clear hf hp
          refine stepAt_on 54 true (by kernel_rfl) h54 ?_
          refine stepOK_call #[] rfl (by simp only [List.map_toArray, List.map_nil]) (by go_simp) ((awake5_any w1).mono fun e w' ⟨he, hk'⟩ => ⟨_, he, hk', rfl⟩)
        refine ⟨fun t w1 hf hk hp => ?_, ?_⟩
        · have h54 : slot t 54 = .bool true := hp 54 (by kernel_rfl)
          have h55 : slot t 55 = .bool true := hp 55 (by kernel_rfl)
          clear hf hp
          refine stepAt_plain rfl ?_
          refine stepOK_pure (.bool true) ?_ rfl
          simp only [execOp, evS, h54, h55]
          go_simp
        refine ⟨fun t w1 hf hk hp => ?_, ?_⟩
        · have h56 : slot t 56 = .bool true := hp 56 (by kernel_rfl)
          clear hf hp
          refine stepAt_plain rfl ?_
          exact stepOK_move _ (.inr rfl) h56
        exact trivial
      · intro t w1 hsz hf hk hfacts
        have h6 : slot t 6 = .bool true := hfacts 6 (by kernel_rfl)
        have h10 : slot t 10 = .pointer (some ⟨v5.heap.size, 0, none⟩) := hf 10 (by kernel_rfl)
        have h49 : slot t 49 = .bool true := hf 49 (by kernel_rfl)
        have harr : t = #[slot t 0, slot t 1, slot t 2, slot t 3, slot t 4, slot t 5, slot t 6, slot t 7, slot t 8, slot t 9, slot t 10, slot t 11, slot t 12, slot t 13, slot t 14, slot t 15, slot t 16, slot t 17, slot t 18, slot t 19, slot t 20, slot t 21, slot t 22, slot t 23, slot t 24, slot t 25, slot t 26, slot t 27, slot t 28, slot t 29, slot t 30, slot t 31, slot t 32, slot t 33, slot t 34, slot t 35, slot t 36, slot t 37, slot t 38, slot t 39, slot t 40, slot t 41, slot t 42, slot t 43, slot t 44, slot t 45, slot t 46, slot t 47, slot t 48, slot t 49, slot t 50, slot t 51, slot t 52, slot t 53, slot t 54, slot t 55, slot t 56, slot t 57, slot t 58, slot t 59, slot t 60, slot t 61, slot t 62, slot t 63, slot t 64, slot t 65, slot t 66] := arr_eq t 67 hsz
        rw [harr, h6, h10, h49]
        clear harr hfacts hf h6 h10 h49
        generalize slot t 0 = x0; generalize slot t 1 = x1; generalize slot t 2 = x2; generalize slot t 3 = x3; generalize slot t 4 = x4; generalize slot t 5 = x5; generalize slot t 7 = x7; generalize slot t 8 = x8; generalize slot t 9 = x9; generalize slot t 11 = x11; generalize slot t 12 = x12; generalize slot t 13 = x13
        generalize slot t 14 = x14; generalize slot t 15 = x15; generalize slot t 16 = x16; generalize slot t 17 = x17; generalize slot t 18 = x18; generalize slot t 19 = x19; generalize slot t 20 = x20; generalize slot t 21 = x21; generalize slot t 22 = x22; generalize slot t 23 = x23; generalize slot t 24 = x24; generalize slot t 25 = x25
        generalize slot t 26 = x26; generalize slot t 27 = x27; generalize slot t 28 = x28; generalize slot t 29 = x29; generalize slot t 30 = x30; generalize slot t 31 = x31; generalize slot t 32 = x32; generalize slot t 33 = x33; generalize slot t 34 = x34; generalize slot t 35 = x35; generalize slot t 36 = x36; generalize slot t 37 = x37
        generalize slot t 38 = x38; generalize slot t 39 = x39; generalize slot t 40 = x40; generalize slot t 41 = x41; generalize slot t 42 = x42; generalize slot t 43 = x43; generalize slot t 44 = x44; generalize slot t 45 = x45; generalize slot t 46 = x46; generalize slot t 47 = x47; generalize slot t 48 = x48; generalize slot t 50 = x50
        generalize slot t 51 = x51; generalize slot t 52 = x52; generalize slot t 53 = x53; generalize slot t 54 = x54; generalize slot t 55 = x55; generalize slot t 56 = x56; generalize slot t 57 = x57; generalize slot t 58 = x58; generalize slot t 59 = x59; generalize slot t 60 = x60; generalize slot t 61 = x61; generalize slot t 62 = x62
        generalize slot t 63 = x63; generalize slot t 64 = x64; generalize slot t 65 = x65; generalize slot t 66 = x66
        clear hsz t
        simp only [List.drop_succ_cons, List.drop_zero]
        go_wp2
        go_ret
        exact ⟨rfl, K6.out.trans hk⟩
    · obtain ⟨n, rfl⟩ : ∃ n : Nat, a2 = (n : Int) := ⟨a2.toNat, by omega⟩
      have hn : n ≤ 9223372036854775807 := by omega
      have CS := Lib.hid fun w => largeShl_any A n w HA.out hn
      have hd1 : decide ((n : Int) < 0) = false := decide_eq_false hneg
      clear hneg
      by_cases hbig : 400 < n
      · have hd2 : decide ((400 : Int) < (n : Int)) = true := decide_eq_true (by omega)
        have hd3 : decide ((0 : Int) < (n : Int)) = true := decide_eq_true (by omega)
        have hd4 : decide (0 < n) = true := decide_eq_true (by omega)
        have hd5 : decide (400 < n) = true := decide_eq_true (by omega)
        obtain ⟨p, cap, rfl, hc, hp⟩ := D8.out
        clear D8 hp hc
        by_cases hA0 : A = 0
        · have hl : dl A = 0 := by rw [hA0]; rfl
          have hx1 : cut (A * 2 ^ n) = 0 := by rw [hA0, Nat.zero_mul]; exact cut_of pos320
          have hx2 : fit (A * 2 ^ n) = true := by rw [hA0, Nat.zero_mul]; exact fit_of pos320
          rw [hx1, hx2] at CS
          rw [hl]
          clear hx1 hx2 hl hA0 hA20
          go_wp2_with (first
            | (refine wpList_load_row rfl 24 (.tmp 3) rfl w.heap.size rfl 24 (lC A 5) (0, 0) _ R4.out Try.underlying24 rfl (infoL _ _) ?_)
            | (go_at_call 22; refine (CS.out _).mono ?_; rintro e v5 ⟨rfl, k5⟩)
            | (refine wpList_store_made rfl 24 (.tmp 10) (.tmp 32) rfl v5 _ (lC (0) 5) rfl rfl 24 (lC 0 0) (by kernel_rfl) (infoL _ _) (by simp [lC_size]) (lC_one _ _) ?_; intro v6 R10 K10)
            | (refine park_at 50 rfl ?_))
          have K6 := Lib.hid ((K4.out.trans k5).trans K10.out)
          clear K4 k5 K10 R4 CS
          refine unpark ?_
          refine wpList_table 8 [(50, .is (.agg (lC 0 5))), (51, .is (.agg (lC 0 5))), (52, .is (.bool true)), (53, .is (.bool true)), (54, .is (.bool true)), (55, .is (.bool true)), (56, .is (.bool true)), (6, .is (.bool true))] (by kernel_rfl) ?_ ?_
          · refine ⟨fun t w1 hf hk hp => ?_, ?_⟩
            · have h10 : slot t 10 = .pointer (some ⟨v5.heap.size, 0, none⟩) := hf 10 (by kernel_rfl)
              have h49 : slot t 49 = .bool true := hf 49 (by kernel_rfl)
              clear hf hp
              refine stepAt_on 49 true (by kernel_rfl) h49 ?_
              have hq0 := Rowz.load (R10.out.kept hk) 5 22 Try.underlying24 (infoL _ _)
              exact stepOK_sem (.agg (lC 0 5)) (by simp only [execOp, evS, h10]) hq0 rfl
            refine ⟨fun t w1 hf hk hp => ?_, ?_⟩
            · have h49 : slot t 49 = .bool true := hf 49 (by kernel_rfl)
              clear hf hp
              refine stepAt_on 49 true (by kernel_rfl) h49 ?_
              refine stepOK_pure (.agg (lC 0 5)) ?_ rfl
              simp only [execOp, evS]
              go_simp
              kernel_rfl
            refine ⟨fun t w1 hf hk hp => ?_, ?_⟩
            · have h50 : slot t 50 = .agg (lC 0 5) := hp 50 (by kernel_rfl)
              have h51 : slot t 51 = .agg (lC 0 5) := hp 51 (by kernel_rfl)
              have h49 : slot t 49 = .bool true := hf 49 (by kernel_rfl)
              clear hf hp
              refine stepAt_on 49 true (by kernel_rfl) h49 ?_
              have hq0 := hs0 w1
              have hq1 := hgd
              refine stepOK_pure (.bool true) ?_ rfl
              simp only [execOp, evS, h50, h51]
              go_simp
            refine ⟨fun t w1 hf hk hp => ?_, ?_⟩
            · have h49 : slot t 49 = .bool true := hf 49 (by kernel_rfl)
              have h52 : slot t 52 = .bool true := hp 52 (by kernel_rfl)
              clear hf hp
              refine stepAt_plain rfl ?_
              refine stepOK_pure (.bool true) ?_ rfl
              simp only [execOp, evS, h49, h52]
              go_simp
            refine ⟨fun t w1 hf hk hp => ?_, ?_⟩
            · have h53 : slot t 53 = .bool true := hp 53 (by kernel_rfl)
              clear hf hp
              refine stepAt_plain rfl ?_
              exact stepOK_move _ (.inl rfl) h53
            refine ⟨fun t w1 hf hk hp => ?_, ?_⟩
            · have h54 : slot t 54 = .bool true := hp 54 (by kernel_rfl)
              clear hf hp
              refine stepAt_on 54 true (by kernel_rfl) h54 ?_
              refine stepOK_call #[] rfl (by simp only [List.map_toArray, List.map_nil]) (by go_simp) ((awake5_any w1).mono fun e w' ⟨he, hk'⟩ => ⟨_, he, hk', rfl⟩)
            refine ⟨fun t w1 hf hk hp => ?_, ?_⟩
            · have h54 : slot t 54 = .bool true := hp 54 (by kernel_rfl)
              have h55 : slot t 55 = .bool true := hp 55 (by kernel_rfl)
              clear hf hp
              refine stepAt_plain rfl ?_
              refine stepOK_pure (.bool true) ?_ rfl
              simp only [execOp, evS, h54, h55]
              go_simp
            refine ⟨fun t w1 hf hk hp => ?_, ?_⟩
            · have h56 : slot t 56 = .bool true := hp 56 (by kernel_rfl)
              clear hf hp
              refine stepAt_plain rfl ?_
              exact stepOK_move _ (.inr rfl) h56
            exact trivial
          · intro t w1 hsz hf hk hfacts
            have h6 : slot t 6 = .bool true := hfacts 6 (by kernel_rfl)
            have h10 : slot t 10 = .pointer (some ⟨v5.heap.size, 0, none⟩) := hf 10 (by kernel_rfl)
            have h49 : slot t 49 = .bool true := hf 49 (by kernel_rfl)
            have harr : t = #[slot t 0, slot t 1, slot t 2, slot t 3, slot t 4, slot t 5, slot t 6, slot t 7, slot t 8, slot t 9, slot t 10, slot t 11, slot t 12, slot t 13, slot t 14, slot t 15, slot t 16, slot t 17, slot t 18, slot t 19, slot t 20, slot t 21, slot t 22, slot t 23, slot t 24, slot t 25, slot t 26, slot t 27, slot t 28, slot t 29, slot t 30, slot t 31, slot t 32, slot t 33, slot t 34, slot t 35, slot t 36, slot t 37, slot t 38, slot t 39, slot t 40, slot t 41, slot t 42, slot t 43, slot t 44, slot t 45, slot t 46, slot t 47, slot t 48, slot t 49, slot t 50, slot t 51, slot t 52, slot t 53, slot t 54, slot t 55, slot t 56, slot t 57, slot t 58, slot t 59, slot t 60, slot t 61, slot t 62, slot t 63, slot t 64, slot t 65, slot t 66] := arr_eq t 67 hsz
            rw [harr, h6, h10, h49]
            clear harr hfacts hf h6 h10 h49
            generalize slot t 0 = x0; generalize slot t 1 = x1; generalize slot t 2 = x2; generalize slot t 3 = x3; generalize slot t 4 = x4; generalize slot t 5 = x5; generalize slot t 7 = x7; generalize slot t 8 = x8; generalize slot t 9 = x9; generalize slot t 11 = x11; generalize slot t 12 = x12; generalize slot t 13 = x13
            generalize slot t 14 = x14; generalize slot t 15 = x15; generalize slot t 16 = x16; generalize slot t 17 = x17; generalize slot t 18 = x18; generalize slot t 19 = x19; generalize slot t 20 = x20; generalize slot t 21 = x21; generalize slot t 22 = x22; generalize slot t 23 = x23; generalize slot t 24 = x24; generalize slot t 25 = x25
            generalize slot t 26 = x26; generalize slot t 27 = x27; generalize slot t 28 = x28; generalize slot t 29 = x29; generalize slot t 30 = x30; generalize slot t 31 = x31; generalize slot t 32 = x32; generalize slot t 33 = x33; generalize slot t 34 = x34; generalize slot t 35 = x35; generalize slot t 36 = x36; generalize slot t 37 = x37
            generalize slot t 38 = x38; generalize slot t 39 = x39; generalize slot t 40 = x40; generalize slot t 41 = x41; generalize slot t 42 = x42; generalize slot t 43 = x43; generalize slot t 44 = x44; generalize slot t 45 = x45; generalize slot t 46 = x46; generalize slot t 47 = x47; generalize slot t 48 = x48; generalize slot t 50 = x50
            generalize slot t 51 = x51; generalize slot t 52 = x52; generalize slot t 53 = x53; generalize slot t 54 = x54; generalize slot t 55 = x55; generalize slot t 56 = x56; generalize slot t 57 = x57; generalize slot t 58 = x58; generalize slot t 59 = x59; generalize slot t 60 = x60; generalize slot t 61 = x61; generalize slot t 62 = x62
            generalize slot t 63 = x63; generalize slot t 64 = x64; generalize slot t 65 = x65; generalize slot t 66 = x66
            clear hsz t
            simp only [List.drop_succ_cons, List.drop_zero]
            go_wp2
            go_ret
            exact ⟨rfl, K6.out.trans hk⟩
        · have hl : ((dl A : Int) == 0) = false := by
            have h := dl_lt A
            rcases Nat.eq_zero_or_pos (dl A) with h0 | h0
            · rw [h0] at h; omega
            · simp; omega
          have hge : 2 ^ 320 ≤ A * 2 ^ n := by
            have h1 : 2 ^ 320 ≤ 2 ^ n := pow_mono 320 n (by omega)
            have h2 : 1 * 2 ^ n ≤ A * 2 ^ n := Nat.mul_le_mul_right _ (by omega)
            omega
          have hx1 := cut_no hge
          have hx2 := fit_no hge
          rw [hx1, hx2] at CS
          clear hx1 hx2 hge hA0
          go_wp2_with (first
            | (refine wpList_load_row rfl 24 (.tmp 3) rfl w.heap.size rfl 24 (lC A 5) (0, 0) _ R4.out Try.underlying24 rfl (infoL _ _) ?_)
            | (go_at_call 22; refine (CS.out _).mono ?_; rintro e v5 ⟨rfl, k5⟩)
            | (refine wpList_store_made rfl 24 (.tmp 10) (.tmp 32) rfl v5 _ (lC (0) 5) rfl rfl 24 (lC 0 0) (by kernel_rfl) (infoL _ _) (by simp [lC_size]) (lC_one _ _) ?_; intro v6 R10 K10)
            | (refine park_at 50 rfl ?_))
          have K6 := Lib.hid ((K4.out.trans k5).trans K10.out)
          clear K4 k5 K10 R4 CS
          refine unpark ?_
          refine wpList_table 8 [(50, .is (.agg (lC 0 5))), (51, .is (.agg (lC 0 5))), (52, .is (.bool true)), (53, .is (.bool true)), (54, .is (.bool true)), (55, .is (.bool true)), (56, .is (.bool true)), (6, .is (.bool true))] (by kernel_rfl) ?_ ?_
          · refine ⟨fun t w1 hf hk hp => ?_, ?_⟩
            · have h10 : slot t 10 = .pointer (some ⟨v5.heap.size, 0, none⟩) := hf 10 (by kernel_rfl)
              have h49 : slot t 49 = .bool true := hf 49 (by kernel_rfl)
              clear hf hp
              refine stepAt_on 49 true (by kernel_rfl) h49 ?_
              have hq0 := Rowz.load (R10.out.kept hk) 5 22 Try.underlying24 (infoL _ _)
              exact stepOK_sem (.agg (lC 0 5)) (by simp only [execOp, evS, h10]) hq0 rfl
            refine ⟨fun t w1 hf hk hp => ?_, ?_⟩
            · have h49 : slot t 49 = .bool true := hf 49 (by kernel_rfl)
              clear hf hp
              refine stepAt_on 49 true (by kernel_rfl) h49 ?_
              refine stepOK_pure (.agg (lC 0 5)) ?_ rfl
              simp only [execOp, evS]
              go_simp
              kernel_rfl
            refine ⟨fun t w1 hf hk hp => ?_, ?_⟩
            · have h50 : slot t 50 = .agg (lC 0 5) := hp 50 (by kernel_rfl)
              have h51 : slot t 51 = .agg (lC 0 5) := hp 51 (by kernel_rfl)
              have h49 : slot t 49 = .bool true := hf 49 (by kernel_rfl)
              clear hf hp
              refine stepAt_on 49 true (by kernel_rfl) h49 ?_
              have hq0 := hs0 w1
              have hq1 := hgd
              refine stepOK_pure (.bool true) ?_ rfl
              simp only [execOp, evS, h50, h51]
              go_simp
            refine ⟨fun t w1 hf hk hp => ?_, ?_⟩
            · have h49 : slot t 49 = .bool true := hf 49 (by kernel_rfl)
              have h52 : slot t 52 = .bool true := hp 52 (by kernel_rfl)
              clear hf hp
              refine stepAt_plain rfl ?_
              refine stepOK_pure (.bool true) ?_ rfl
              simp only [execOp, evS, h49, h52]
              go_simp
            refine ⟨fun t w1 hf hk hp => ?_, ?_⟩
            · have h53 : slot t 53 = .bool true := hp 53 (by kernel_rfl)
              clear hf hp
              refine stepAt_plain rfl ?_
              exact stepOK_move _ (.inl rfl) h53
            refine ⟨fun t w1 hf hk hp => ?_, ?_⟩
            · have h54 : slot t 54 = .bool true := hp 54 (by kernel_rfl)
              clear hf hp
              refine stepAt_on 54 true (by kernel_rfl) h54 ?_
              refine stepOK_call #[] rfl (by simp only [List.map_toArray, List.map_nil]) (by go_simp) ((awake5_any w1).mono fun e w' ⟨he, hk'⟩ => ⟨_, he, hk', rfl⟩)
            refine ⟨fun t w1 hf hk hp => ?_, ?_⟩
            · have h54 : slot t 54 = .bool true := hp 54 (by kernel_rfl)
              have h55 : slot t 55 = .bool true := hp 55 (by kernel_rfl)
              clear hf hp
              refine stepAt_plain rfl ?_
              refine stepOK_pure (.bool true) ?_ rfl
              simp only [execOp, evS, h54, h55]
              go_simp
            refine ⟨fun t w1 hf hk hp => ?_, ?_⟩
            · have h56 : slot t 56 = .bool true := hp 56 (by kernel_rfl)
              clear hf hp
              refine stepAt_plain rfl ?_
              exact stepOK_move _ (.inr rfl) h56
            exact trivial
          · intro t w1 hsz hf hk hfacts
            have h6 : slot t 6 = .bool true := hfacts 6 (by kernel_rfl)
            have h10 : slot t 10 = .pointer (some ⟨v5.heap.size, 0, none⟩) := hf 10 (by kernel_rfl)
            have h49 : slot t 49 = .bool true := hf 49 (by kernel_rfl)
            have harr : t = #[slot t 0, slot t 1, slot t 2, slot t 3, slot t 4, slot t 5, slot t 6, slot t 7, slot t 8, slot t 9, slot t 10, slot t 11, slot t 12, slot t 13, slot t 14, slot t 15, slot t 16, slot t 17, slot t 18, slot t 19, slot t 20, slot t 21, slot t 22, slot t 23, slot t 24, slot t 25, slot t 26, slot t 27, slot t 28, slot t 29, slot t 30, slot t 31, slot t 32, slot t 33, slot t 34, slot t 35, slot t 36, slot t 37, slot t 38, slot t 39, slot t 40, slot t 41, slot t 42, slot t 43, slot t 44, slot t 45, slot t 46, slot t 47, slot t 48, slot t 49, slot t 50, slot t 51, slot t 52, slot t 53, slot t 54, slot t 55, slot t 56, slot t 57, slot t 58, slot t 59, slot t 60, slot t 61, slot t 62, slot t 63, slot t 64, slot t 65, slot t 66] := arr_eq t 67 hsz
            rw [harr, h6, h10, h49]
            clear harr hfacts hf h6 h10 h49
            generalize slot t 0 = x0; generalize slot t 1 = x1; generalize slot t 2 = x2; generalize slot t 3 = x3; generalize slot t 4 = x4; generalize slot t 5 = x5; generalize slot t 7 = x7; generalize slot t 8 = x8; generalize slot t 9 = x9; generalize slot t 11 = x11; generalize slot t 12 = x12; generalize slot t 13 = x13
            generalize slot t 14 = x14; generalize slot t 15 = x15; generalize slot t 16 = x16; generalize slot t 17 = x17; generalize slot t 18 = x18; generalize slot t 19 = x19; generalize slot t 20 = x20; generalize slot t 21 = x21; generalize slot t 22 = x22; generalize slot t 23 = x23; generalize slot t 24 = x24; generalize slot t 25 = x25
            generalize slot t 26 = x26; generalize slot t 27 = x27; generalize slot t 28 = x28; generalize slot t 29 = x29; generalize slot t 30 = x30; generalize slot t 31 = x31; generalize slot t 32 = x32; generalize slot t 33 = x33; generalize slot t 34 = x34; generalize slot t 35 = x35; generalize slot t 36 = x36; generalize slot t 37 = x37
            generalize slot t 38 = x38; generalize slot t 39 = x39; generalize slot t 40 = x40; generalize slot t 41 = x41; generalize slot t 42 = x42; generalize slot t 43 = x43; generalize slot t 44 = x44; generalize slot t 45 = x45; generalize slot t 46 = x46; generalize slot t 47 = x47; generalize slot t 48 = x48; generalize slot t 50 = x50
            generalize slot t 51 = x51; generalize slot t 52 = x52; generalize slot t 53 = x53; generalize slot t 54 = x54; generalize slot t 55 = x55; generalize slot t 56 = x56; generalize slot t 57 = x57; generalize slot t 58 = x58; generalize slot t 59 = x59; generalize slot t 60 = x60; generalize slot t 61 = x61; generalize slot t 62 = x62
            generalize slot t 63 = x63; generalize slot t 64 = x64; generalize slot t 65 = x65; generalize slot t 66 = x66
            clear hsz t
            simp only [List.drop_succ_cons, List.drop_zero]
            go_wp2
            go_ret
            exact ⟨rfl, K6.out.trans hk⟩
      · have hd2 : decide ((400 : Int) < (n : Int)) = false := decide_eq_false (by omega)
        have hd5 : decide (400 < n) = false := decide_eq_false (by omega)
        have hp2 : dl (2 ^ n) ≤ 1000 := by rw [dl_pow]; omega
        have HM2 : Hid (dl (A * 2 ^ n) ≤ 1000000) := Lib.hid (by
          have h := dl_le (A * 2 ^ n) (dl A + dl (2 ^ n)) (by rw [Nat.pow_add]; exact Nat.mul_lt_mul'' (dl_lt A) (dl_lt (2 ^ n)))
          omega)
        go_wp2_with (first
          | (refine wpList_load_row rfl 24 (.tmp 3) rfl w.heap.size rfl 24 (lC A 5) (0, 0) _ R4.out Try.underlying24 rfl (infoL _ _) ?_)
          | (go_at_call 22; refine (CS.out _).mono ?_; rintro e v5 ⟨rfl, k5⟩)
          | (refine wpList_store_made rfl 24 (.tmp 10) (.tmp 32) rfl v5 _ (lC (cut (A * 2 ^ n)) 5) rfl rfl 24 (lC 0 0) (by kernel_rfl) (infoL _ _) (by simp [lC_size]) (lC_one _ _) ?_; intro v6 R10 K10))
        have K6 := Lib.hid ((K4.out.trans k5).trans K10.out)
        have D9 := Lib.hid (dig_kept _ _ _ (k5.trans K10.out) D8.out)
        clear K4 k5 K10 R4 CS D8
        refine wp_region_table [(57, .is (.agg (lC (cut (A * 2 ^ n)) 5))), (58, .is (.bool (fit (A * 2 ^ n)))), (59, .is (v7)), (60, .is (.int .i64 (n : Int))), (61, .such (Dig (2 ^ n)) dig_kept), (62, .such (Dig (A * 2 ^ n)) dig_kept), (63, .is (.bool true)), (64, .is (.bool true)), (65, .is (.bool true)), (66, .is (.bool true)), (6, .is (.bool true))] (by kernel_rfl) (by kernel_rfl) ?_ ?_
        · refine ⟨fun t w1 hf hk hp => ?_, ?_⟩
          · have h10 : slot t 10 = .pointer (some ⟨v5.heap.size, 0, none⟩) := hf 10 (by kernel_rfl)
            clear hf hp
            refine stepAt_plain rfl ?_
            have hq0 := Rowz.load (R10.out.kept hk) 5 22 Try.underlying24 (infoL _ _)
            exact stepOK_sem (.agg (lC (cut (A * 2 ^ n)) 5)) (by simp only [execOp, evS, h10]) hq0 rfl
          refine ⟨fun t w1 hf hk hp => ?_, ?_⟩
          · have h11 : slot t 11 = .bool (fit (A * 2 ^ n)) := hf 11 (by kernel_rfl)
            clear hf hp
            refine stepAt_plain rfl ?_
            exact stepOK_move _ (.inl rfl) h11
          refine ⟨fun t w1 hf hk hp => ?_, ?_⟩
          · have h7 : slot t 7 = v7 := hf 7 (by kernel_rfl)
            clear hf hp
            refine stepAt_plain rfl ?_
            exact stepOK_move _ (.inl rfl) h7
          refine ⟨fun t w1 hf hk hp => ?_, ?_⟩
          · have h2 : slot t 2 = .int .i64 (n : Int) := hf 2 (by kernel_rfl)
            clear hf hp
            refine stepAt_plain rfl ?_
            exact stepOK_move _ (.inl rfl) h2
          refine ⟨fun t w1 hf hk hp => ?_, ?_⟩
          · have h60 : slot t 60 = .int .i64 (n : Int) := hp 60 (by kernel_rfl)
            clear hf hp
            refine stepAt_plain rfl ?_
            refine stepOK_call #[.int .i64 (n : Int)] rfl (by simp only [List.map_toArray, List.map_cons, List.map_nil, evS, h60]) (by go_simp) ((refPower5_any n w1 (by omega)).mono fun e w' ⟨v, he, hpv, hk'⟩ => ⟨v, he, hk', hpv⟩)
          refine ⟨fun t w1 hf hk hp => ?_, ?_⟩
          · have h59 : slot t 59 = v7 := hp 59 (by kernel_rfl)
            obtain ⟨v61, h61, p61⟩ : ∃ v, slot t 61 = v ∧ (Dig (2 ^ n)) v w1 := ⟨_, rfl, hp 61 (by kernel_rfl)⟩
            clear hf hp
            refine stepAt_plain rfl ?_
            refine stepOK_call #[v7, v61] rfl (by simp only [List.map_toArray, List.map_cons, List.map_nil, evS, h59, h61]) (by go_simp) ((refMul5_any A (2 ^ n) _ _ w1 (dig_kept _ _ _ hk D9.out) p61 (by omega) (by omega)).mono fun e w' ⟨v, he, hpv, hk'⟩ => ⟨v, he, hk', hpv⟩)
          refine ⟨fun t w1 hf hk hp => ?_, ?_⟩
          · have h57 : slot t 57 = .agg (lC (cut (A * 2 ^ n)) 5) := hp 57 (by kernel_rfl)
            have h58 : slot t 58 = .bool (fit (A * 2 ^ n)) := hp 58 (by kernel_rfl)
            obtain ⟨v62, h62, p62⟩ : ∃ v, slot t 62 = v ∧ (Dig (A * 2 ^ n)) v w1 := ⟨_, rfl, hp 62 (by kernel_rfl)⟩
            clear hf hp
            refine stepAt_plain rfl ?_
            refine stepOK_call #[.agg (lC (cut (A * 2 ^ n)) 5), .bool (fit (A * 2 ^ n)), v62] rfl (by simp only [List.map_toArray, List.map_cons, List.map_nil, evS, h57, h58, h62]) (by go_simp) ((same5_any (A * 2 ^ n) _ w1 p62 HM2.out).mono fun e w' ⟨he, hk'⟩ => ⟨_, he, hk', rfl⟩)
          refine ⟨fun t w1 hf hk hp => ?_, ?_⟩
          · have h63 : slot t 63 = .bool true := hp 63 (by kernel_rfl)
            clear hf hp
            refine stepAt_plain rfl ?_
            exact stepOK_move _ (.inl rfl) h63
          refine ⟨fun t w1 hf hk hp => ?_, ?_⟩
          · have h64 : slot t 64 = .bool true := hp 64 (by kernel_rfl)
            clear hf hp
            refine stepAt_on 64 true (by kernel_rfl) h64 ?_
            refine stepOK_call #[] rfl (by simp only [List.map_toArray, List.map_nil]) (by go_simp) ((awake5_any w1).mono fun e w' ⟨he, hk'⟩ => ⟨_, he, hk', rfl⟩)
          refine ⟨fun t w1 hf hk hp => ?_, ?_⟩
          · have h64 : slot t 64 = .bool true := hp 64 (by kernel_rfl)
            have h65 : slot t 65 = .bool true := hp 65 (by kernel_rfl)
            clear hf hp
            refine stepAt_plain rfl ?_
            refine stepOK_pure (.bool true) ?_ rfl
            simp only [execOp, evS, h64, h65]
            go_simp
          refine ⟨fun t w1 hf hk hp => ?_, ?_⟩
          · have h66 : slot t 66 = .bool true := hp 66 (by kernel_rfl)
            clear hf hp
            refine stepAt_plain rfl ?_
            exact stepOK_move _ (.inr rfl) h66
          exact trivial
        · intro t w1 hsz hf hk hfacts
          have h6 : slot t 6 = .bool true := hfacts 10 _ rfl 6 rfl
          have h2 : slot t 2 = .int .i64 (n : Int) := hf 2 (by kernel_rfl)
          have h7 : slot t 7 = v7 := hf 7 (by kernel_rfl)
          have h10 : slot t 10 = .pointer (some ⟨v5.heap.size, 0, none⟩) := hf 10 (by kernel_rfl)
          have h11 : slot t 11 = .bool (fit (A * 2 ^ n)) := hf 11 (by kernel_rfl)
          have harr : t = #[slot t 0, slot t 1, slot t 2, slot t 3, slot t 4, slot t 5, slot t 6, slot t 7, slot t 8, slot t 9, slot t 10, slot t 11, slot t 12, slot t 13, slot t 14, slot t 15, slot t 16, slot t 17, slot t 18, slot t 19, slot t 20, slot t 21, slot t 22, slot t 23, slot t 24, slot t 25, slot t 26, slot t 27, slot t 28, slot t 29, slot t 30, slot t 31, slot t 32, slot t 33, slot t 34, slot t 35, slot t 36, slot t 37, slot t 38, slot t 39, slot t 40, slot t 41, slot t 42, slot t 43, slot t 44, slot t 45, slot t 46, slot t 47, slot t 48, slot t 49, slot t 50, slot t 51, slot t 52, slot t 53, slot t 54, slot t 55, slot t 56, slot t 57, slot t 58, slot t 59, slot t 60, slot t 61, slot t 62, slot t 63, slot t 64, slot t 65, slot t 66] := arr_eq t 67 hsz
          rw [harr, h6, h2, h7, h10, h11]
          clear harr hfacts hf h6 h2 h7 h10 h11
          generalize slot t 0 = x0; generalize slot t 1 = x1; generalize slot t 3 = x3; generalize slot t 4 = x4; generalize slot t 5 = x5; generalize slot t 8 = x8; generalize slot t 9 = x9; generalize slot t 12 = x12; generalize slot t 13 = x13; generalize slot t 14 = x14; generalize slot t 15 = x15; generalize slot t 16 = x16
          generalize slot t 17 = x17; generalize slot t 18 = x18; generalize slot t 19 = x19; generalize slot t 20 = x20; generalize slot t 21 = x21; generalize slot t 22 = x22; generalize slot t 23 = x23; generalize slot t 24 = x24; generalize slot t 25 = x25; generalize slot t 26 = x26; generalize slot t 27 = x27; generalize slot t 28 = x28
          generalize slot t 29 = x29; generalize slot t 30 = x30; generalize slot t 31 = x31; generalize slot t 32 = x32; generalize slot t 33 = x33; generalize slot t 34 = x34; generalize slot t 35 = x35; generalize slot t 36 = x36; generalize slot t 37 = x37; generalize slot t 38 = x38; generalize slot t 39 = x39; generalize slot t 40 = x40
          generalize slot t 41 = x41; generalize slot t 42 = x42; generalize slot t 43 = x43; generalize slot t 44 = x44; generalize slot t 45 = x45; generalize slot t 46 = x46; generalize slot t 47 = x47; generalize slot t 48 = x48; generalize slot t 49 = x49; generalize slot t 50 = x50; generalize slot t 51 = x51; generalize slot t 52 = x52
          generalize slot t 53 = x53; generalize slot t 54 = x54; generalize slot t 55 = x55; generalize slot t 56 = x56; generalize slot t 57 = x57; generalize slot t 58 = x58; generalize slot t 59 = x59; generalize slot t 60 = x60; generalize slot t 61 = x61; generalize slot t 62 = x62; generalize slot t 63 = x63; generalize slot t 64 = x64
          generalize slot t 65 = x65; generalize slot t 66 = x66
          clear hsz t
          go_wp2
          go_ret
          exact ⟨rfl, K6.out.trans hk⟩

set_option maxRecDepth 100000 in
set_option maxHeartbeats 1000000 in
theorem lifted (os : Os) (started : os.Started) (H : Type) (enc : TypeId × Value → H) :
    ReturnsInHanded {} Try.checked os 4 .any (Rows.largeMulsSpec.pre6 enc Try.prog Try.f4 Rows.largeMulsRow.domain false) (Rows.largeMulsSpec.post enc Try.prog Try.f4 false true false false) := by
  refine returnsInHanded_of_change_sized (C := Try.checked) own started (by kernel_rfl) Try.func4
    (ChangeSpec.witness6 (enc := enc) (C := Try.checked) false ⟨#[], #[.agg #[.int .u64 0, .int .u64 0, .int .u64 0, .int .u64 0, .int .u64 0], .int .u64 0, .int .i64 0], []⟩ 8 (by kernel_rfl) (by kernel_rfl) (by kernel_rfl) (by kernel_rfl)) ?_
  intro W base args ds gs before hval0 hW hcnd hsz0 _
  have hval : ∀ (j : Nat) t v, Try.f4.params[j]? = some t → args[j]? = some v → Value.okWide Try.prog W .any base t v := hval0
  have hsz : (DataW.weightsEach Try.prog (Try.f4.params.toList ++ Rows.largeMulsSpec.plain.varTypes Try.prog) (ds ++ gs)).all (· ≤ reachBytes) = true := hsz0
  have hW' := hW
  obtain ⟨p, q, hA0, hV, rfl, hfz, hnd⟩ := hW
  have hA : DataW.TrodAll enc Try.prog W 0 (fun _ => true) true Try.f4.params.toList args.toList ds p := hA0
  have hAk := hA
  rw [Try.params4] at hA hval hsz
  obtain ⟨v0, vs0, d0, ds0, p0_, q0_, hargs, rfl, rfl, h0, r0_⟩ := trodAll_cons hA
  obtain ⟨v1, vs1, d1, ds1, p1_, q1_, rfl, rfl, rfl, h1, r1_⟩ := trodAll_cons r0_
  obtain ⟨v2, vs2, d2, ds2, p2_, q2_, rfl, rfl, rfl, h2, r2_⟩ := trodAll_cons r1_
  obtain ⟨rfl, rfl, rfl⟩ := trodAll_nil r2_
  obtain rfl : args = #[v0, v1, v2] := by cases args; simp_all
  obtain ⟨rfl, rfl⟩ := trodVars_none hV
  have hlt : ∀ x ∈ (p0_ ++ (p1_ ++ (p2_ ++ ([])))), x.block < W.heap.size := fun x hx => by simpa using hW'.lt x (by simpa using hx)
  obtain ⟨cs0, rfl⟩ : ∃ cs, v0 = .agg cs := by
    have := hval 0 24 v0 rfl rfl
    simp only [Value.okWide, Try.underlying24] at this
    obtain ⟨cs, h, _⟩ := this
    exact ⟨cs, h⟩
  obtain ⟨a0, n0, b0, rfl⟩ := open_u64Arr Try.underlying24 Try.underlying22 (by kernel_rfl) (by kernel_rfl) h0
  obtain ⟨a1, rfl, rfl, rfl, w1⟩ := open_int Try.underlying22 (hval 1 22 v1 rfl rfl) h1
  obtain ⟨a2, rfl, rfl, rfl, w2⟩ := open_int Try.underlying3 (hval 2 3 v2 rfl rfl) h2
  clear hA0 hval0
  refine (walk a0 n0 b0 a1 w1 a2 w2 W ).mono fun e W' ⟨he, hg⟩ => ?_
  subst he
  exact ⟨_, rfl, ⟨_, _, _, [], _, [], hW', trodAll_cons_mk (shut_bool Try.underlying4 _) trodAll_mk0, trodAll_stays laidOut hg (by kernel_rfl) hAk hlt (fun x hx => by simpa using hlt x hx), rfl, Kept.frame hg _, fun h => by cases h⟩⟩

theorem over : Rows.largeMulsRow.holds Try.pinned (OpenSpec.ofChange Rows.largeMulsSpec) :=
  OpenClaim.holds_of_wide 4 Try.f4 rfl rfl rfl rfl rfl rfl rfl ⟨rfl, rfl, rfl, rfl, rfl⟩ rfl rfl rfl rfl rfl (by kernel_rfl) Try.func4 (by kernel_rfl)
    (of_decide_eq_true (by kernel_rfl)) (by unfold Func.isWrapper; first | (rw [if_pos (by decide +kernel)]; kernel_rfl) | (rw [if_neg (by decide +kernel)]; exact ⟨rfl, rfl⟩))
    (fun os started H enc _ => lifted os started H enc)
end Go.Proofs.Ytcjieaijcjinnaa.largeMuls
namespace Go.Proofs.Ytcjieaijcjinnaa
theorem largeMuls_holds : Rows.LargeMulsSaid := largeMuls.over
#print axioms largeMuls_holds
end Go.Proofs.Ytcjieaijcjinnaa
