/-
  The number that wide.Of gives has the reference's bits, at every hash, and Hash gives its bytes back; chapter 4's examples hold: 'WideOf' returns true.
  Conditions: none.
-/
import Derived.Test.YtpgmnkmbekikeaaRows
import Derived.Test.YtpgmnkmbekikeaaWideWalkD
import Derived.Test.YtpgmnkmbekikeaaWideRefB
import Derived.Test.YtpgmnkmbekikeaaLawLib
import Derived.WalkKit
import Derived.ProofKit
import Derived.OpenShut
import Derived.ShutString
import Derived.SizedLaws
import Derived.Test.YtpgmnkmbekikeaaLawLib
namespace Go.Proofs.Ytpgmnkmbekikeaa.wideOf
open Go.ChangeShapes Go.WideShapes Go.ChangeAt Go.RowKit
open Go.ChangeMaps (open_string shut_string)
set_option linter.unusedVariables false

theorem own : ownKnob Try.prog.godebug = none := by kernel_rfl
theorem laidOut : laidOutB Try.prog = true := by kernel_rfl

set_option maxRecDepth 100000 in
set_option maxHeartbeats 4000000 in
theorem walk (a0 : List UInt8) (n0 : a0.length = 32) (w : World)  :
    Calls Try.prog 3 #[.agg (bC 32 a0)] w fun e w' => e = .returned (.bool true) ∧ Kept w w' := by
  obtain ⟨N, hN, rfl⟩ := hash_num a0 n0
  clear hN n0
  go_enter Try.func3, Try.ntmps3
  have F0 := Lib.hid (Rowz.new w (bC 32 (be 32 N)) 23)
  have K0 := Lib.hid ((Kept.refl w).alloc (.cells (bC 32 (be 32 N)) 23))
  go_wp2_with (first
    | (go_at_call 7; refine (wideOf_any N _).mono ?_; rintro e w2 ⟨rfl, k2⟩)
    | (go_at_call 8; refine (refOf4_any N _).mono ?_; rintro e w3 ⟨u, rfl, hu, k3⟩)
    | (refine wpList_load_row rfl 23 (.tmp 1) rfl w.heap.size rfl 23 (bC 32 (be 32 N)) (0, 0) _ F0.out Try.underlying23 rfl (infoH _) ?_)
    | (refine wpList_store_made rfl 26 (.tmp 3) (.tmp 7) rfl w2 _ (nC N 4) rfl rfl 26 (nC 0 0) (by kernel_rfl) (infoN _ _) (by simp [nC_size]) (nC_one _ _) ?_; intro v1 R3 K1; replace F0 := Lib.hid ((F0.out.grown k2).kept K1.out)))
  have KK := Lib.hid (((K0.out.trans (Grown.kept k2)).trans K1.out).trans k3)
  have R3 := Lib.hid (R3.out.kept k3)
  have F0 := Lib.hid (F0.out.kept k3)
  obtain ⟨g, cap, cur, rfl, hc, hr, hb⟩ := hu
  have HR := Lib.hid hr
  have HB := Lib.hid hb
  clear hr hb k2 k3 K0 K1
  generalize w2.heap.size = gx at R3 ⊢
  go_loopw [5] (fun i wr => ∃ (k : Nat), k ≤ 256 ∧ i = .int .i64 (k : Int) ∧ Hid (Kept w3 wr)) (fun i _ => 256 - (intOf i).toNat)
  case atStart => exact ⟨0, by omega, rfl, Lib.hid (Kept.refl w3)⟩
  case round =>
    obtain ⟨k, hk4, rfl, GK⟩ := hrel
    by_cases hk0 : k < 256
    · have hdk : decide ((k : Int) < 256) = true := by simp; omega
      have hki : (k : Int) < 256 := by omega
      obtain ⟨j, hj⟩ : ∃ j : Nat, j = k / 64 := ⟨_, rfl⟩
      obtain ⟨m, hm⟩ : ∃ m : Nat, m = k % 64 := ⟨_, rfl⟩
      have hj4 : j < 4 := by omega
      have hj4i : (j : Int) < 4 := by omega
      have hm64 : m < 64 := by omega
      have HT := Lib.hid (testBit_limb N k)
      rw [← hj, ← hm] at HT
      have q1 : (k : Int) / 64 = (j : Int) := by omega
      have HQ2 : Hid ((k : Int) % 64 = (m : Int)) := Lib.hid (by omega)
      have hml := lmb_lt N j
      have HV : Hid ((bits .and .u64 ((lmb N j : Int) / 2 ^ m) 1 == 1) = N.testBit k) := Lib.hid (by
        have e1 : ((lmb N j : Int) / 2 ^ m) = ((lmb N j / 2 ^ m : Nat) : Int) := by simp
        have e2 := u64_and_nat (lmb N j / 2 ^ m) 1 (Nat.lt_of_le_of_lt (Nat.div_le_self _ _) (lmb_lt _ _)) (by decide)
        rw [← HT.out, bit_of, e1, show (1 : Int) = ((1 : Nat) : Int) from rfl, e2, Nat.and_one_is_mod]
        rcases Nat.mod_two_eq_zero_or_one (lmb N j / 2 ^ m) with h | h <;> rw [h] <;> rfl)
      clear hj hm
      go_wp2_with fail
      clear hdk
      refine wp_region_table [(14, .is (.int .i64 (k : Int))), (15, .is (.int .i64 (j : Int))), (16, .is (.pointer (some ⟨gx, j, none⟩))), (17, .is (.int .u64 ((lmb N j : Nat) : Int))), (18, .is (.int .i64 (k : Int))), (19, .is (.int .i64 (m : Int))), (20, .is (.int .u64 (m : Int))), (21, .is (.int .u64 ((lmb N j / 2 ^ m : Nat) : Int))), (22, .is (.int .u64 (bits .and .u64 ((lmb N j : Int) / 2 ^ m) 1))), (23, .is (.bool (N.testBit k))), (24, .is (.slice (some ⟨g, 0, none⟩) 256 cap)), (25, .is (.int .i64 (k : Int))), (26, .is (.pointer (some ⟨g, k, none⟩))), (27, .is (.bool (N.testBit k))), (28, .is (.bool false))] (by kernel_rfl) (by kernel_rfl) ?_ ?_
      · refine ⟨fun t w1 hf hk hp => ?_, ?_⟩
        · have h5 : slot t 5 = .int .i64 (k : Int) := hf 5 (by kernel_rfl)
          clear hf hp
          refine stepAt_plain rfl ?_
          exact stepOK_move _ (.inl rfl) h5
        refine ⟨fun t w1 hf hk hp => ?_, ?_⟩
        · have h14 : slot t 14 = .int .i64 (k : Int) := hp 14 (by kernel_rfl)
          clear hf hp
          refine stepAt_plain rfl ?_
          refine stepOK_pure (.int .i64 (j : Int)) ?_ rfl
          simp only [execOp, evS, h14]
          go_simp
          exact IntWalk.i64_in _ (by omega)
        refine ⟨fun t w1 hf hk hp => ?_, ?_⟩
        · have h3 : slot t 3 = .pointer (some ⟨gx, 0, none⟩) := hf 3 (by kernel_rfl)
          have h15 : slot t 15 = .int .i64 (j : Int) := hp 15 (by kernel_rfl)
          clear hf hp
          refine stepAt_plain rfl ?_
          refine stepOK_pure (.pointer (some ⟨gx, j, none⟩)) ?_ rfl
          simp only [execOp, evS, h3, h15]
          go_simp
        refine ⟨fun t w1 hf hk hp => ?_, ?_⟩
        · have h16 : slot t 16 = .pointer (some ⟨gx, j, none⟩) := hp 16 (by kernel_rfl)
          clear hf hp
          refine stepAt_plain rfl ?_
          have hq0 := (show w1.cell? ⟨gx, j, none⟩ = some (.int .u64 ((lmb N j : Nat) : Int)) by rw [(R3.out.kept (GK.out.trans hk)).cell, nC_get N 4 j hj4 hj4])
          refine stepOK_pure (.int .u64 ((lmb N j : Nat) : Int)) ?_ rfl
          simp only [execOp, evS, h16]
          go_simp
        refine ⟨fun t w1 hf hk hp => ?_, ?_⟩
        · have h5 : slot t 5 = .int .i64 (k : Int) := hf 5 (by kernel_rfl)
          clear hf hp
          refine stepAt_plain rfl ?_
          exact stepOK_move _ (.inl rfl) h5
        refine ⟨fun t w1 hf hk hp => ?_, ?_⟩
        · have h18 : slot t 18 = .int .i64 (k : Int) := hp 18 (by kernel_rfl)
          clear hf hp
          refine stepAt_plain rfl ?_
          refine stepOK_pure (.int .i64 (m : Int)) ?_ rfl
          simp only [execOp, evS, h18]
          go_simp
          rw [Int.tmod_eq_emod_of_nonneg (by omega)]
          exact HQ2.out
        refine ⟨fun t w1 hf hk hp => ?_, ?_⟩
        · have h19 : slot t 19 = .int .i64 (m : Int) := hp 19 (by kernel_rfl)
          clear hf hp
          refine stepAt_plain rfl ?_
          refine stepOK_pure (.int .u64 (m : Int)) ?_ rfl
          simp only [execOp, evS, h19]
          go_simp
          exact IntWalk.u64_in _ (by omega)
        refine ⟨fun t w1 hf hk hp => ?_, ?_⟩
        · have h17 : slot t 17 = .int .u64 ((lmb N j : Nat) : Int) := hp 17 (by kernel_rfl)
          have h20 : slot t 20 = .int .u64 (m : Int) := hp 20 (by kernel_rfl)
          clear hf hp
          refine stepAt_plain rfl ?_
          refine stepOK_pure (.int .u64 ((lmb N j / 2 ^ m : Nat) : Int)) ?_ rfl
          simp only [execOp, evS, h17, h20]
          go_simp
        refine ⟨fun t w1 hf hk hp => ?_, ?_⟩
        · have h21 : slot t 21 = .int .u64 ((lmb N j / 2 ^ m : Nat) : Int) := hp 21 (by kernel_rfl)
          clear hf hp
          refine stepAt_plain rfl ?_
          refine stepOK_pure (.int .u64 (bits .and .u64 ((lmb N j : Int) / 2 ^ m) 1)) ?_ rfl
          simp only [execOp, evS, h21]
          go_simp
        refine ⟨fun t w1 hf hk hp => ?_, ?_⟩
        · have h22 : slot t 22 = .int .u64 (bits .and .u64 ((lmb N j : Int) / 2 ^ m) 1) := hp 22 (by kernel_rfl)
          clear hf hp
          refine stepAt_plain rfl ?_
          refine stepOK_pure (.bool (N.testBit k)) ?_ rfl
          simp only [execOp, evS, h22]
          go_simp
          exact HV.out
        refine ⟨fun t w1 hf hk hp => ?_, ?_⟩
        · have h4 : slot t 4 = .slice (some ⟨g, 0, none⟩) 256 cap := hf 4 (by kernel_rfl)
          clear hf hp
          refine stepAt_plain rfl ?_
          exact stepOK_move _ (.inl rfl) h4
        refine ⟨fun t w1 hf hk hp => ?_, ?_⟩
        · have h5 : slot t 5 = .int .i64 (k : Int) := hf 5 (by kernel_rfl)
          clear hf hp
          refine stepAt_plain rfl ?_
          exact stepOK_move _ (.inl rfl) h5
        refine ⟨fun t w1 hf hk hp => ?_, ?_⟩
        · have h24 : slot t 24 = .slice (some ⟨g, 0, none⟩) 256 cap := hp 24 (by kernel_rfl)
          have h25 : slot t 25 = .int .i64 (k : Int) := hp 25 (by kernel_rfl)
          clear hf hp
          refine stepAt_plain rfl ?_
          refine stepOK_pure (.pointer (some ⟨g, k, none⟩)) ?_ rfl
          simp only [execOp, evS, h24, h25]
          go_simp
        refine ⟨fun t w1 hf hk hp => ?_, ?_⟩
        · have h26 : slot t 26 = .pointer (some ⟨g, k, none⟩) := hp 26 (by kernel_rfl)
          clear hf hp
          refine stepAt_plain rfl ?_
          have hq0 := (show w1.cell? ⟨g, k, none⟩ = some (.bool (N.testBit k)) by rw [(HR.out.kept (GK.out.trans hk)).cell, HB.out k hk0])
          refine stepOK_pure (.bool (N.testBit k)) ?_ rfl
          simp only [execOp, evS, h26]
          go_simp
        refine ⟨fun t w1 hf hk hp => ?_, ?_⟩
        · have h23 : slot t 23 = .bool (N.testBit k) := hp 23 (by kernel_rfl)
          have h27 : slot t 27 = .bool (N.testBit k) := hp 27 (by kernel_rfl)
          clear hf hp
          refine stepAt_plain rfl ?_
          refine stepOK_pure (.bool false) ?_ rfl
          simp only [execOp, evS, h23, h27]
          go_simp
        exact trivial
      · intro t w1 hsz hf hk hfacts
        have h28 : slot t 28 = .bool false := hfacts 14 _ rfl 28 rfl
        have h3 : slot t 3 = .pointer (some ⟨gx, 0, none⟩) := hf 3 (by kernel_rfl)
        have h4 : slot t 4 = .slice (some ⟨g, 0, none⟩) 256 cap := hf 4 (by kernel_rfl)
        have h5 : slot t 5 = .int .i64 (k : Int) := hf 5 (by kernel_rfl)
        have h0 := hf 0 (by kernel_rfl)
        conv at h0 => rhs; whnf
        try change slot t 0 = undef at h0
        have h1 := hf 1 (by kernel_rfl)
        conv at h1 => rhs; whnf
        try change slot t 1 = undef at h1
        have h2 := hf 2 (by kernel_rfl)
        conv at h2 => rhs; whnf
        try change slot t 2 = undef at h2
        have h6 := hf 6 (by kernel_rfl)
        conv at h6 => rhs; whnf
        try change slot t 6 = undef at h6
        have h7 := hf 7 (by kernel_rfl)
        conv at h7 => rhs; whnf
        try change slot t 7 = undef at h7
        have h8 := hf 8 (by kernel_rfl)
        conv at h8 => rhs; whnf
        try change slot t 8 = undef at h8
        have h9 := hf 9 (by kernel_rfl)
        conv at h9 => rhs; whnf
        try change slot t 9 = undef at h9
        have h10 := hf 10 (by kernel_rfl)
        conv at h10 => rhs; whnf
        try change slot t 10 = undef at h10
        have h11 := hf 11 (by kernel_rfl)
        conv at h11 => rhs; whnf
        try change slot t 11 = undef at h11
        have h12 := hf 12 (by kernel_rfl)
        conv at h12 => rhs; whnf
        try change slot t 12 = undef at h12
        have h13 := hf 13 (by kernel_rfl)
        conv at h13 => rhs; whnf
        try change slot t 13 = undef at h13
        have h29 := hf 29 (by kernel_rfl)
        conv at h29 => rhs; whnf
        try change slot t 29 = undef at h29
        have h30 := hf 30 (by kernel_rfl)
        conv at h30 => rhs; whnf
        try change slot t 30 = undef at h30
        have h31 := hf 31 (by kernel_rfl)
        conv at h31 => rhs; whnf
        try change slot t 31 = undef at h31
        have h32 := hf 32 (by kernel_rfl)
        conv at h32 => rhs; whnf
        try change slot t 32 = undef at h32
        have h33 := hf 33 (by kernel_rfl)
        conv at h33 => rhs; whnf
        try change slot t 33 = undef at h33
        have h34 := hf 34 (by kernel_rfl)
        conv at h34 => rhs; whnf
        try change slot t 34 = undef at h34
        have h35 := hf 35 (by kernel_rfl)
        conv at h35 => rhs; whnf
        try change slot t 35 = undef at h35
        have harr : t = #[slot t 0, slot t 1, slot t 2, slot t 3, slot t 4, slot t 5, slot t 6, slot t 7, slot t 8, slot t 9, slot t 10, slot t 11, slot t 12, slot t 13, slot t 14, slot t 15, slot t 16, slot t 17, slot t 18, slot t 19, slot t 20, slot t 21, slot t 22, slot t 23, slot t 24, slot t 25, slot t 26, slot t 27, slot t 28, slot t 29, slot t 30, slot t 31, slot t 32, slot t 33, slot t 34, slot t 35] := arr_eq t 36 hsz
        rw [harr, h28, h3, h4, h5, h0, h1, h2, h6, h7, h8, h9, h10, h11, h12, h13, h29, h30, h31, h32, h33, h34, h35]
        clear harr hfacts hf h28 h3 h4 h5 h0 h1 h2 h6 h7 h8 h9 h10 h11 h12 h13 h29 h30 h31 h32 h33 h34 h35
        generalize slot t 14 = x14; generalize slot t 15 = x15; generalize slot t 16 = x16; generalize slot t 17 = x17; generalize slot t 18 = x18; generalize slot t 19 = x19; generalize slot t 20 = x20; generalize slot t 21 = x21; generalize slot t 22 = x22; generalize slot t 23 = x23; generalize slot t 24 = x24; generalize slot t 25 = x25
        generalize slot t 26 = x26; generalize slot t 27 = x27
        clear hsz t
        have GK := Lib.hid (GK.out.trans hk)
        clear hk q1
        go_wp2_with fail
        go_roundw
        case rel => exact ⟨k + 1, by omega, by go_num, GK⟩
        case measure => simp [intOf]; omega
    · have hdk : decide ((k : Int) < 256) = false := by simp; omega
      go_wp2_with fail
      refine wp_region_table [(29, .is (.agg (nC N 4))), (30, .is (.agg (bC 32 (be 32 N)))), (31, .is (.agg (bC 32 (be 32 N)))), (32, .is (.bool true)), (33, .is (.bool true)), (34, .is (.bool true)), (35, .is (.bool true)), (2, .is (.bool true))] (by kernel_rfl) (by kernel_rfl) ?_ ?_
      · refine ⟨fun t w1 hf hk hp => ?_, ?_⟩
        · have h3 : slot t 3 = .pointer (some ⟨gx, 0, none⟩) := hf 3 (by kernel_rfl)
          clear hf hp
          refine stepAt_plain rfl ?_
          have hq0 := Rowz.load (R3.out.kept (GK.out.trans hk)) 4 24 Try.underlying26 (infoN _ _)
          exact stepOK_sem (.agg (nC N 4)) (by simp only [execOp, evS, h3]) hq0 rfl
        refine ⟨fun t w1 hf hk hp => ?_, ?_⟩
        · have h29 : slot t 29 = .agg (nC N 4) := hp 29 (by kernel_rfl)
          clear hf hp
          refine stepAt_plain rfl ?_
          refine stepOK_call #[.agg (nC N 4)] rfl (by simp only [List.map_toArray, List.map_cons, List.map_nil, evS, h29]) (by go_simp) ((wideHash_any N w1).mono fun e w' ⟨he, hk'⟩ => ⟨_, he, hk', rfl⟩)
        refine ⟨fun t w1 hf hk hp => ?_, ?_⟩
        · have h1 : slot t 1 = .pointer (some ⟨w.heap.size, 0, none⟩) := hf 1 (by kernel_rfl)
          clear hf hp
          refine stepAt_plain rfl ?_
          have hq0 := Rowz.load (F0.out.kept (GK.out.trans hk)) 32 5 Try.underlying23 (infoH _)
          exact stepOK_sem (.agg (bC 32 (be 32 N))) (by simp only [execOp, evS, h1]) hq0 rfl
        refine ⟨fun t w1 hf hk hp => ?_, ?_⟩
        · have h30 : slot t 30 = .agg (bC 32 (be 32 N)) := hp 30 (by kernel_rfl)
          have h31 : slot t 31 = .agg (bC 32 (be 32 N)) := hp 31 (by kernel_rfl)
          clear hf hp
          refine stepAt_plain rfl ?_
          have hq0 := sameH1 (be 32 N) (be_length 32 N) w1
          have hq1 := guardH
          refine stepOK_pure (.bool true) ?_ rfl
          simp only [execOp, evS, h30, h31]
          go_simp
        refine ⟨fun t w1 hf hk hp => ?_, ?_⟩
        · have h32 : slot t 32 = .bool true := hp 32 (by kernel_rfl)
          clear hf hp
          refine stepAt_plain rfl ?_
          exact stepOK_move _ (.inl rfl) h32
        refine ⟨fun t w1 hf hk hp => ?_, ?_⟩
        · have h33 : slot t 33 = .bool true := hp 33 (by kernel_rfl)
          clear hf hp
          refine stepAt_on 33 true (by kernel_rfl) h33 ?_
          refine stepOK_call #[] rfl (by simp only [List.map_toArray, List.map_nil]) (by go_simp) ((awake4_any w1).mono fun e w' ⟨he, hk'⟩ => ⟨_, he, hk', rfl⟩)
        refine ⟨fun t w1 hf hk hp => ?_, ?_⟩
        · have h33 : slot t 33 = .bool true := hp 33 (by kernel_rfl)
          have h34 : slot t 34 = .bool true := hp 34 (by kernel_rfl)
          clear hf hp
          refine stepAt_plain rfl ?_
          refine stepOK_pure (.bool true) ?_ rfl
          simp only [execOp, evS, h33, h34]
          go_simp
        refine ⟨fun t w1 hf hk hp => ?_, ?_⟩
        · have h35 : slot t 35 = .bool true := hp 35 (by kernel_rfl)
          clear hf hp
          refine stepAt_plain rfl ?_
          exact stepOK_move _ (.inr rfl) h35
        exact trivial
      · intro t w1 hsz hf hk hfacts
        have h2 : slot t 2 = .bool true := hfacts 7 _ rfl 2 rfl
        have h1 : slot t 1 = .pointer (some ⟨w.heap.size, 0, none⟩) := hf 1 (by kernel_rfl)
        have h3 : slot t 3 = .pointer (some ⟨gx, 0, none⟩) := hf 3 (by kernel_rfl)
        have harr : t = #[slot t 0, slot t 1, slot t 2, slot t 3, slot t 4, slot t 5, slot t 6, slot t 7, slot t 8, slot t 9, slot t 10, slot t 11, slot t 12, slot t 13, slot t 14, slot t 15, slot t 16, slot t 17, slot t 18, slot t 19, slot t 20, slot t 21, slot t 22, slot t 23, slot t 24, slot t 25, slot t 26, slot t 27, slot t 28, slot t 29, slot t 30, slot t 31, slot t 32, slot t 33, slot t 34, slot t 35] := arr_eq t 36 hsz
        rw [harr, h2, h1, h3]
        clear harr hfacts hf h2 h1 h3
        generalize slot t 0 = x0; generalize slot t 4 = x4; generalize slot t 5 = x5; generalize slot t 6 = x6; generalize slot t 7 = x7; generalize slot t 8 = x8; generalize slot t 9 = x9; generalize slot t 10 = x10; generalize slot t 11 = x11; generalize slot t 12 = x12; generalize slot t 13 = x13; generalize slot t 14 = x14
        generalize slot t 15 = x15; generalize slot t 16 = x16; generalize slot t 17 = x17; generalize slot t 18 = x18; generalize slot t 19 = x19; generalize slot t 20 = x20; generalize slot t 21 = x21; generalize slot t 22 = x22; generalize slot t 23 = x23; generalize slot t 24 = x24; generalize slot t 25 = x25; generalize slot t 26 = x26
        generalize slot t 27 = x27; generalize slot t 28 = x28; generalize slot t 29 = x29; generalize slot t 30 = x30; generalize slot t 31 = x31; generalize slot t 32 = x32; generalize slot t 33 = x33; generalize slot t 34 = x34; generalize slot t 35 = x35
        clear hsz t
        go_wp2
        go_ret
        exact ⟨rfl, (KK.out.trans GK.out).trans hk⟩

set_option maxRecDepth 100000 in
set_option maxHeartbeats 1000000 in
theorem lifted (os : Os) (started : os.Started) (H : Type) (enc : TypeId × Value → H) :
    ReturnsInHanded {} Try.checked os 3 .any (Rows.wideOfSpec.pre6 enc Try.prog Try.f3 Rows.wideOfRow.domain false) (Rows.wideOfSpec.post enc Try.prog Try.f3 false true false false) := by
  refine returnsInHanded_of_change_sized (C := Try.checked) own started (by kernel_rfl) Try.func3
    (ChangeSpec.witness6 (enc := enc) (C := Try.checked) false ⟨#[], #[.agg #[.int .u8 0, .int .u8 0, .int .u8 0, .int .u8 0, .int .u8 0, .int .u8 0, .int .u8 0, .int .u8 0, .int .u8 0, .int .u8 0, .int .u8 0, .int .u8 0, .int .u8 0, .int .u8 0, .int .u8 0, .int .u8 0, .int .u8 0, .int .u8 0, .int .u8 0, .int .u8 0, .int .u8 0, .int .u8 0, .int .u8 0, .int .u8 0, .int .u8 0, .int .u8 0, .int .u8 0, .int .u8 0, .int .u8 0, .int .u8 0, .int .u8 0, .int .u8 0]], []⟩ 8 (by kernel_rfl) (by kernel_rfl) (by kernel_rfl) (by kernel_rfl)) ?_
  intro W base args ds gs before hval0 hW hcnd hsz0 _
  have hval : ∀ (j : Nat) t v, Try.f3.params[j]? = some t → args[j]? = some v → Value.okWide Try.prog W .any base t v := hval0
  have hsz : (DataW.weightsEach Try.prog (Try.f3.params.toList ++ Rows.wideOfSpec.plain.varTypes Try.prog) (ds ++ gs)).all (· ≤ reachBytes) = true := hsz0
  have hW' := hW
  obtain ⟨p, q, hA0, hV, rfl, hfz, hnd⟩ := hW
  have hA : DataW.TrodAll enc Try.prog W 0 (fun _ => true) true Try.f3.params.toList args.toList ds p := hA0
  have hAk := hA
  rw [Try.params3] at hA hval hsz
  obtain ⟨v0, vs0, d0, ds0, p0_, q0_, hargs, rfl, rfl, h0, r0_⟩ := trodAll_cons hA
  obtain ⟨rfl, rfl, rfl⟩ := trodAll_nil r0_
  obtain rfl : args = #[v0] := by cases args; simp_all
  obtain ⟨rfl, rfl⟩ := trodVars_none hV
  have hlt : ∀ x ∈ (p0_ ++ ([])), x.block < W.heap.size := fun x hx => by simpa using hW'.lt x (by simpa using hx)
  obtain ⟨cs0, rfl⟩ : ∃ cs, v0 = .agg cs := by
    have := hval 0 23 v0 rfl rfl
    simp only [Value.okWide, Try.underlying23] at this
    obtain ⟨cs, h, _⟩ := this
    exact ⟨cs, h⟩
  obtain ⟨a0, n0, rfl⟩ := open_hash Try.underlying23 Try.underlying5 (by kernel_rfl) (by kernel_rfl) h0
  clear hA0 hval0
  refine (walk a0 n0 W ).mono fun e W' ⟨he, hg⟩ => ?_
  subst he
  exact ⟨_, rfl, ⟨_, _, _, [], _, [], hW', trodAll_cons_mk (shut_bool Try.underlying4 _) trodAll_mk0, trodAll_stays laidOut hg (by kernel_rfl) hAk hlt (fun x hx => by simpa using hlt x hx), rfl, Kept.frame hg _, fun h => by cases h⟩⟩

theorem over : Rows.wideOfRow.holds Try.pinned (OpenSpec.ofChange Rows.wideOfSpec) :=
  OpenClaim.holds_of_wide 3 Try.f3 rfl rfl rfl rfl rfl rfl rfl ⟨rfl, rfl, rfl, rfl, rfl⟩ rfl rfl rfl rfl rfl (by kernel_rfl) Try.func3 (by kernel_rfl)
    (of_decide_eq_true (by kernel_rfl)) (by unfold Func.isWrapper; first | (rw [if_pos (by decide +kernel)]; kernel_rfl) | (rw [if_neg (by decide +kernel)]; exact ⟨rfl, rfl⟩))
    (fun os started H enc _ => lifted os started H enc)
end Go.Proofs.Ytpgmnkmbekikeaa.wideOf
namespace Go.Proofs.Ytpgmnkmbekikeaa
theorem wideOf_holds : Rows.WideOfSaid := wideOf.over
#print axioms wideOf_holds
end Go.Proofs.Ytpgmnkmbekikeaa
