/-
  large's Add, Cmp and Len are what digit arithmetic tells, at every two numbers, too many bits included; chapter 5's examples hold: 'LargeAdds' returns true.
  Conditions: none.
-/
import Derived.Test.YtcjieaijcjinnaaRows
import Derived.Test.YtcjieaijcjinnaaLargeLaw
import Derived.Test.YtcjieaijcjinnaaLawLib
import Derived.Test.YtcjieaijcjinnaaLargeRefB
import Derived.WalkKit
import Derived.ProofKit
import Derived.OpenShut
import Derived.ShutString
import Derived.SizedLaws
import Derived.Test.YtcjieaijcjinnaaLawLib
namespace Go.Proofs.Ytcjieaijcjinnaa.largeAdds
open Go.ChangeShapes Go.WideShapes Go.ChangeAt Go.RowKit
open Go.ChangeMaps (open_string shut_string)
set_option linter.unusedVariables false

theorem own : ownKnob Try.prog.godebug = none := by kernel_rfl
theorem laidOut : laidOutB Try.prog = true := by kernel_rfl

set_option maxRecDepth 100000 in
set_option maxHeartbeats 4000000 in
theorem walk (a0 : List Nat) (n0 : a0.length = 5) (b0 : ∀ x ∈ a0, x < 18446744073709551616) (a1 : List Nat) (n1 : a1.length = 5) (b1 : ∀ x ∈ a1, x < 18446744073709551616) (w : World)  :
    Calls Try.prog 3 #[.agg (qC 5 a0), .agg (qC 5 a1)] w fun e w' => e = .returned (.bool true) ∧ Kept w w' := by
  obtain ⟨A, hA, e0⟩ := limbs_num a0 n0 b0
  obtain ⟨B, hB, e1⟩ := limbs_num a1 n1 b1
  rw [e0, e1]
  have HA := Lib.hid hA
  have HB := Lib.hid hB
  have hA20 := dl20 A hA
  have hB20 := dl20 B hB
  have HM : Hid (dl (A + B) ≤ 1000000) := Lib.hid (by
    have h : A + B < 2 ^ 321 := by omega
    have := bl_le (A + B) 321 h
    unfold dl; omega)
  clear e0 e1 b0 b1 n0 n1 a0 a1 hA hB
  have F0 := Lib.hid ((Rowz.new w (lC A 5) 24).alloc (.cells (lC B 5) 24))
  have F1 := Lib.hid (Rowz.new (w.alloc (.cells (lC A 5) 24)) (lC B 5) 24)
  have es : (w.alloc (.cells (lC A 5) 24)).heap.size = w.heap.size + 1 := by simp
  rw [es] at F1
  have K0 := Lib.hid (((Kept.refl w).alloc (.cells (lC A 5) 24)).alloc (.cells (lC B 5) 24))
  have CA := Lib.hid fun w => largeAdd_any A B w HA.out HB.out
  clear es
  go_enter Try.func3, Try.ntmps3
  go_wp2_with fail
  generalize (w.alloc (.cells (lC A 5) 24)).alloc (.cells (lC B 5) 24) = v0 at F0 F1 K0 ⊢
  refine wp_region_table [(9, .is (.slice (some ⟨w.heap.size, 0, none⟩) 5 5)), (10, .such (Dig A) dig_kept), (11, .is (.slice (some ⟨w.heap.size + 1, 0, none⟩) 5 5)), (12, .such (Dig B) dig_kept), (5, .such (Dig A) dig_kept), (6, .such (Dig B) dig_kept)] (by kernel_rfl) (by kernel_rfl) ?_ ?_
  · refine ⟨fun t w1 hf hk hp => ?_, ?_⟩
    · have h2 : slot t 2 = .pointer (some ⟨w.heap.size, 0, none⟩) := hf 2 (by kernel_rfl)
      clear hf hp
      refine stepAt_plain rfl ?_
      have hq0 := run_all5 w.heap.size w1
      exact stepOK_sem (.slice (some ⟨w.heap.size, 0, none⟩) 5 5) (by simp only [execOp, evS, Option.map_none, h2]) hq0 rfl
    refine ⟨fun t w1 hf hk hp => ?_, ?_⟩
    · have h9 : slot t 9 = .slice (some ⟨w.heap.size, 0, none⟩) 5 5 := hp 9 (by kernel_rfl)
      clear hf hp
      refine stepAt_plain rfl ?_
      refine stepOK_call #[.slice (some ⟨w.heap.size, 0, none⟩) 5 5] rfl (by simp only [List.map_toArray, List.map_cons, List.map_nil, evS, h9]) (by go_simp) ((limbs5_any A _ w1 (F0.out.kept hk) HA.out).mono fun e w' ⟨v, he, hpv, hk'⟩ => ⟨v, he, hk', hpv⟩)
    refine ⟨fun t w1 hf hk hp => ?_, ?_⟩
    · have h3 : slot t 3 = .pointer (some ⟨w.heap.size + 1, 0, none⟩) := hf 3 (by kernel_rfl)
      clear hf hp
      refine stepAt_plain rfl ?_
      have hq0 := run_all5 (w.heap.size + 1) w1
      exact stepOK_sem (.slice (some ⟨w.heap.size + 1, 0, none⟩) 5 5) (by simp only [execOp, evS, Option.map_none, h3]) hq0 rfl
    refine ⟨fun t w1 hf hk hp => ?_, ?_⟩
    · have h11 : slot t 11 = .slice (some ⟨w.heap.size + 1, 0, none⟩) 5 5 := hp 11 (by kernel_rfl)
      clear hf hp
      refine stepAt_plain rfl ?_
      refine stepOK_call #[.slice (some ⟨w.heap.size + 1, 0, none⟩) 5 5] rfl (by simp only [List.map_toArray, List.map_cons, List.map_nil, evS, h11]) (by go_simp) ((limbs5_any B _ w1 (F1.out.kept hk) HB.out).mono fun e w' ⟨v, he, hpv, hk'⟩ => ⟨v, he, hk', hpv⟩)
    refine ⟨fun t w1 hf hk hp => ?_, ?_⟩
    · obtain ⟨v10, h10, p10⟩ : ∃ v, slot t 10 = v ∧ (Dig A) v w1 := ⟨_, rfl, hp 10 (by kernel_rfl)⟩
      clear hf hp
      refine stepAt_plain rfl ?_
      exact stepOK_move _ (.inr rfl) (by simp only [evS, h10]; exact p10)
    refine ⟨fun t w1 hf hk hp => ?_, ?_⟩
    · obtain ⟨v12, h12, p12⟩ : ∃ v, slot t 12 = v ∧ (Dig B) v w1 := ⟨_, rfl, hp 12 (by kernel_rfl)⟩
      clear hf hp
      refine stepAt_plain rfl ?_
      exact stepOK_move _ (.inr rfl) (by simp only [evS, h12]; exact p12)
    exact trivial
  · intro t w1 hsz hf hk hfacts
    obtain ⟨v5, h5, p5⟩ : ∃ v, slot t 5 = v ∧ (Dig A) v w1 := ⟨_, rfl, hfacts 4 _ rfl 5 rfl⟩
    obtain ⟨v6, h6, p6⟩ : ∃ v, slot t 6 = v ∧ (Dig B) v w1 := ⟨_, rfl, hfacts 5 _ rfl 6 rfl⟩
    have h2 : slot t 2 = .pointer (some ⟨w.heap.size, 0, none⟩) := hf 2 (by kernel_rfl)
    have h3 : slot t 3 = .pointer (some ⟨w.heap.size + 1, 0, none⟩) := hf 3 (by kernel_rfl)
    have harr : t = #[slot t 0, slot t 1, slot t 2, slot t 3, slot t 4, slot t 5, slot t 6, slot t 7, slot t 8, slot t 9, slot t 10, slot t 11, slot t 12, slot t 13, slot t 14, slot t 15, slot t 16, slot t 17, slot t 18, slot t 19, slot t 20, slot t 21, slot t 22, slot t 23, slot t 24, slot t 25, slot t 26, slot t 27, slot t 28, slot t 29, slot t 30, slot t 31, slot t 32, slot t 33, slot t 34, slot t 35, slot t 36, slot t 37, slot t 38, slot t 39, slot t 40, slot t 41, slot t 42, slot t 43] := arr_eq t 44 hsz
    rw [harr, h5, h6, h2, h3]
    clear harr hfacts hf h5 h6 h2 h3
    generalize slot t 0 = x0; generalize slot t 1 = x1; generalize slot t 4 = x4; generalize slot t 7 = x7; generalize slot t 8 = x8; generalize slot t 9 = x9; generalize slot t 10 = x10; generalize slot t 11 = x11; generalize slot t 12 = x12; generalize slot t 13 = x13; generalize slot t 14 = x14; generalize slot t 15 = x15
    generalize slot t 16 = x16; generalize slot t 17 = x17; generalize slot t 18 = x18; generalize slot t 19 = x19; generalize slot t 20 = x20; generalize slot t 21 = x21; generalize slot t 22 = x22; generalize slot t 23 = x23; generalize slot t 24 = x24; generalize slot t 25 = x25; generalize slot t 26 = x26; generalize slot t 27 = x27
    generalize slot t 28 = x28; generalize slot t 29 = x29; generalize slot t 30 = x30; generalize slot t 31 = x31; generalize slot t 32 = x32; generalize slot t 33 = x33; generalize slot t 34 = x34; generalize slot t 35 = x35; generalize slot t 36 = x36; generalize slot t 37 = x37; generalize slot t 38 = x38; generalize slot t 39 = x39
    generalize slot t 40 = x40; generalize slot t 41 = x41; generalize slot t 42 = x42; generalize slot t 43 = x43
    clear hsz t
    have R0 := Lib.hid (F0.out.kept hk)
    have R1 := Lib.hid (F1.out.kept hk)
    have K1 := Lib.hid (K0.out.trans hk)
    have D5 := Lib.hid p5
    have D6 := Lib.hid p6
    clear F0 F1 K0 hk p5 p6
    go_wp2_with (first
      | (refine wpList_load_row rfl 24 (.tmp 2) rfl w.heap.size rfl 24 (lC A 5) (0, 0) _ R0.out Try.underlying24 rfl (infoL _ _) ?_)
      | (refine wpList_load_row rfl 24 (.tmp 3) rfl (w.heap.size + 1) rfl 24 (lC B 5) (0, 0) _ R1.out Try.underlying24 rfl (infoL _ _) ?_)
      | (go_at_call 11; refine (CA.out _).mono ?_; rintro e v2 ⟨rfl, k2⟩)
      | (refine wpList_store_made rfl 24 (.tmp 7) (.tmp 17) rfl v2 _ (lC (cut (A + B)) 5) rfl rfl 24 (lC 0 0) (by kernel_rfl) (infoL _ _) (by simp [lC_size]) (lC_one _ _) ?_; intro v3 R7 K7))
    have R0' := Lib.hid ((R0.out.grown k2).kept K7.out)
    have R1' := Lib.hid ((R1.out.grown k2).kept K7.out)
    have KK := Lib.hid ((K1.out.trans (Grown.kept k2)).trans K7.out)
    have D5' := Lib.hid (dig_kept _ _ _ ((Grown.kept k2).trans K7.out) D5.out)
    have D6' := Lib.hid (dig_kept _ _ _ ((Grown.kept k2).trans K7.out) D6.out)
    clear R0 R1 K1 D5 D6 k2 K7 CA
    refine wp_region_table [(19, .is (.agg (lC (cut (A + B)) 5))), (20, .is (.bool (fit (A + B)))), (21, .is (v5)), (22, .is (v6)), (23, .such (Dig (A + B)) dig_kept), (24, .is (.bool true)), (25, .is (.bool true)), (26, .is (.agg (lC A 5))), (27, .is (.agg (lC B 5))), (28, .is (.int .i64 (cmpN A B))), (29, .is (v5)), (30, .is (v6)), (31, .is (.int .i64 (cmpN A B))), (32, .is (.bool true)), (33, .is (.bool true)), (34, .is (.bool true)), (35, .is (.agg (lC A 5))), (36, .is (.int .i64 ((bl A : Nat) : Int))), (37, .is (v5)), (38, .is (.int .i64 ((bl A : Nat) : Int))), (39, .is (.bool true)), (40, .is (.bool true)), (41, .is (.bool true)), (42, .is (.bool true)), (43, .is (.bool true)), (4, .is (.bool true))] (by kernel_rfl) (by kernel_rfl) ?_ ?_
    · refine ⟨fun t w1 hf hk hp => ?_, ?_⟩
      · have h7 : slot t 7 = .pointer (some ⟨v2.heap.size, 0, none⟩) := hf 7 (by kernel_rfl)
        clear hf hp
        refine stepAt_plain rfl ?_
        have hq0 := Rowz.load (R7.out.kept hk) 5 22 Try.underlying24 (infoL _ _)
        exact stepOK_sem (.agg (lC (cut (A + B)) 5)) (by simp only [execOp, evS, h7]) hq0 rfl
      refine ⟨fun t w1 hf hk hp => ?_, ?_⟩
      · have h8 : slot t 8 = .bool (fit (A + B)) := hf 8 (by kernel_rfl)
        clear hf hp
        refine stepAt_plain rfl ?_
        exact stepOK_move _ (.inl rfl) h8
      refine ⟨fun t w1 hf hk hp => ?_, ?_⟩
      · have h5 : slot t 5 = v5 := hf 5 (by kernel_rfl)
        clear hf hp
        refine stepAt_plain rfl ?_
        exact stepOK_move _ (.inl rfl) h5
      refine ⟨fun t w1 hf hk hp => ?_, ?_⟩
      · have h6 : slot t 6 = v6 := hf 6 (by kernel_rfl)
        clear hf hp
        refine stepAt_plain rfl ?_
        exact stepOK_move _ (.inl rfl) h6
      refine ⟨fun t w1 hf hk hp => ?_, ?_⟩
      · have h21 : slot t 21 = v5 := hp 21 (by kernel_rfl)
        have h22 : slot t 22 = v6 := hp 22 (by kernel_rfl)
        clear hf hp
        refine stepAt_plain rfl ?_
        refine stepOK_call #[v5, v6] rfl (by simp only [List.map_toArray, List.map_cons, List.map_nil, evS, h21, h22]) (by go_simp) ((refAdd5_any A B _ _ w1 (dig_kept _ _ _ hk D5'.out) (dig_kept _ _ _ hk D6'.out) (by omega) (by omega)).mono fun e w' ⟨v, he, hpv, hk'⟩ => ⟨v, he, hk', hpv⟩)
      refine ⟨fun t w1 hf hk hp => ?_, ?_⟩
      · have h19 : slot t 19 = .agg (lC (cut (A + B)) 5) := hp 19 (by kernel_rfl)
        have h20 : slot t 20 = .bool (fit (A + B)) := hp 20 (by kernel_rfl)
        obtain ⟨v23, h23, p23⟩ : ∃ v, slot t 23 = v ∧ (Dig (A + B)) v w1 := ⟨_, rfl, hp 23 (by kernel_rfl)⟩
        clear hf hp
        refine stepAt_plain rfl ?_
        refine stepOK_call #[.agg (lC (cut (A + B)) 5), .bool (fit (A + B)), v23] rfl (by simp only [List.map_toArray, List.map_cons, List.map_nil, evS, h19, h20, h23]) (by go_simp) ((same5_any (A + B) _ w1 p23 HM.out).mono fun e w' ⟨he, hk'⟩ => ⟨_, he, hk', rfl⟩)
      refine ⟨fun t w1 hf hk hp => ?_, ?_⟩
      · have h24 : slot t 24 = .bool true := hp 24 (by kernel_rfl)
        clear hf hp
        refine stepAt_plain rfl ?_
        exact stepOK_move _ (.inl rfl) h24
      refine ⟨fun t w1 hf hk hp => ?_, ?_⟩
      · have h2 : slot t 2 = .pointer (some ⟨w.heap.size, 0, none⟩) := hf 2 (by kernel_rfl)
        have h25 : slot t 25 = .bool true := hp 25 (by kernel_rfl)
        clear hf hp
        refine stepAt_on 25 true (by kernel_rfl) h25 ?_
        have hq0 := Rowz.load (R0'.out.kept hk) 5 22 Try.underlying24 (infoL _ _)
        exact stepOK_sem (.agg (lC A 5)) (by simp only [execOp, evS, h2]) hq0 rfl
      refine ⟨fun t w1 hf hk hp => ?_, ?_⟩
      · have h3 : slot t 3 = .pointer (some ⟨w.heap.size + 1, 0, none⟩) := hf 3 (by kernel_rfl)
        have h25 : slot t 25 = .bool true := hp 25 (by kernel_rfl)
        clear hf hp
        refine stepAt_on 25 true (by kernel_rfl) h25 ?_
        have hq0 := Rowz.load (R1'.out.kept hk) 5 22 Try.underlying24 (infoL _ _)
        exact stepOK_sem (.agg (lC B 5)) (by simp only [execOp, evS, h3]) hq0 rfl
      refine ⟨fun t w1 hf hk hp => ?_, ?_⟩
      · have h26 : slot t 26 = .agg (lC A 5) := hp 26 (by kernel_rfl)
        have h27 : slot t 27 = .agg (lC B 5) := hp 27 (by kernel_rfl)
        have h25 : slot t 25 = .bool true := hp 25 (by kernel_rfl)
        clear hf hp
        refine stepAt_on 25 true (by kernel_rfl) h25 ?_
        refine stepOK_call #[.agg (lC A 5), .agg (lC B 5)] rfl (by simp only [List.map_toArray, List.map_cons, List.map_nil, evS, h26, h27]) (by go_simp) ((largeCmp_any A B w1 HA.out HB.out).mono fun e w' ⟨he, hk'⟩ => ⟨_, he, Grown.kept hk', rfl⟩)
      refine ⟨fun t w1 hf hk hp => ?_, ?_⟩
      · have h5 : slot t 5 = v5 := hf 5 (by kernel_rfl)
        have h25 : slot t 25 = .bool true := hp 25 (by kernel_rfl)
        clear hf hp
        refine stepAt_on 25 true (by kernel_rfl) h25 ?_
        exact stepOK_move _ (.inl rfl) h5
      refine ⟨fun t w1 hf hk hp => ?_, ?_⟩
      · have h6 : slot t 6 = v6 := hf 6 (by kernel_rfl)
        have h25 : slot t 25 = .bool true := hp 25 (by kernel_rfl)
        clear hf hp
        refine stepAt_on 25 true (by kernel_rfl) h25 ?_
        exact stepOK_move _ (.inl rfl) h6
      refine ⟨fun t w1 hf hk hp => ?_, ?_⟩
      · have h29 : slot t 29 = v5 := hp 29 (by kernel_rfl)
        have h30 : slot t 30 = v6 := hp 30 (by kernel_rfl)
        have h25 : slot t 25 = .bool true := hp 25 (by kernel_rfl)
        clear hf hp
        refine stepAt_on 25 true (by kernel_rfl) h25 ?_
        refine stepOK_call #[v5, v6] rfl (by simp only [List.map_toArray, List.map_cons, List.map_nil, evS, h29, h30]) (by go_simp) ((refCmp5_any A B _ _ w1 (dig_kept _ _ _ hk D5'.out) (dig_kept _ _ _ hk D6'.out) (by omega)).mono fun e w' ⟨he, hk'⟩ => ⟨_, he, hk', rfl⟩)
      refine ⟨fun t w1 hf hk hp => ?_, ?_⟩
      · have h28 : slot t 28 = .int .i64 (cmpN A B) := hp 28 (by kernel_rfl)
        have h31 : slot t 31 = .int .i64 (cmpN A B) := hp 31 (by kernel_rfl)
        have h25 : slot t 25 = .bool true := hp 25 (by kernel_rfl)
        clear hf hp
        refine stepAt_on 25 true (by kernel_rfl) h25 ?_
        refine stepOK_pure (.bool true) ?_ rfl
        simp only [execOp, evS, h28, h31]
        go_simp
      refine ⟨fun t w1 hf hk hp => ?_, ?_⟩
      · have h25 : slot t 25 = .bool true := hp 25 (by kernel_rfl)
        have h32 : slot t 32 = .bool true := hp 32 (by kernel_rfl)
        clear hf hp
        refine stepAt_plain rfl ?_
        refine stepOK_pure (.bool true) ?_ rfl
        simp only [execOp, evS, h25, h32]
        go_simp
      refine ⟨fun t w1 hf hk hp => ?_, ?_⟩
      · have h33 : slot t 33 = .bool true := hp 33 (by kernel_rfl)
        clear hf hp
        refine stepAt_plain rfl ?_
        exact stepOK_move _ (.inl rfl) h33
      refine ⟨fun t w1 hf hk hp => ?_, ?_⟩
      · have h2 : slot t 2 = .pointer (some ⟨w.heap.size, 0, none⟩) := hf 2 (by kernel_rfl)
        have h34 : slot t 34 = .bool true := hp 34 (by kernel_rfl)
        clear hf hp
        refine stepAt_on 34 true (by kernel_rfl) h34 ?_
        have hq0 := Rowz.load (R0'.out.kept hk) 5 22 Try.underlying24 (infoL _ _)
        exact stepOK_sem (.agg (lC A 5)) (by simp only [execOp, evS, h2]) hq0 rfl
      refine ⟨fun t w1 hf hk hp => ?_, ?_⟩
      · have h35 : slot t 35 = .agg (lC A 5) := hp 35 (by kernel_rfl)
        have h34 : slot t 34 = .bool true := hp 34 (by kernel_rfl)
        clear hf hp
        refine stepAt_on 34 true (by kernel_rfl) h34 ?_
        refine stepOK_call #[.agg (lC A 5)] rfl (by simp only [List.map_toArray, List.map_cons, List.map_nil, evS, h35]) (by go_simp) ((largeLen_any A w1 HA.out).mono fun e w' ⟨he, hk'⟩ => ⟨_, he, Grown.kept hk', rfl⟩)
      refine ⟨fun t w1 hf hk hp => ?_, ?_⟩
      · have h5 : slot t 5 = v5 := hf 5 (by kernel_rfl)
        have h34 : slot t 34 = .bool true := hp 34 (by kernel_rfl)
        clear hf hp
        refine stepAt_on 34 true (by kernel_rfl) h34 ?_
        exact stepOK_move _ (.inl rfl) h5
      refine ⟨fun t w1 hf hk hp => ?_, ?_⟩
      · have h37 : slot t 37 = v5 := hp 37 (by kernel_rfl)
        have h34 : slot t 34 = .bool true := hp 34 (by kernel_rfl)
        clear hf hp
        refine stepAt_on 34 true (by kernel_rfl) h34 ?_
        refine stepOK_call #[v5] rfl (by simp only [List.map_toArray, List.map_cons, List.map_nil, evS, h37]) (by go_simp) ((refLen5_any A _ w1 (dig_kept _ _ _ hk D5'.out) (by omega)).mono fun e w' ⟨he, hk'⟩ => ⟨_, he, Kept.same hk', rfl⟩)
      refine ⟨fun t w1 hf hk hp => ?_, ?_⟩
      · have h36 : slot t 36 = .int .i64 ((bl A : Nat) : Int) := hp 36 (by kernel_rfl)
        have h38 : slot t 38 = .int .i64 ((bl A : Nat) : Int) := hp 38 (by kernel_rfl)
        have h34 : slot t 34 = .bool true := hp 34 (by kernel_rfl)
        clear hf hp
        refine stepAt_on 34 true (by kernel_rfl) h34 ?_
        refine stepOK_pure (.bool true) ?_ rfl
        simp only [execOp, evS, h36, h38]
        go_simp
      refine ⟨fun t w1 hf hk hp => ?_, ?_⟩
      · have h34 : slot t 34 = .bool true := hp 34 (by kernel_rfl)
        have h39 : slot t 39 = .bool true := hp 39 (by kernel_rfl)
        clear hf hp
        refine stepAt_plain rfl ?_
        refine stepOK_pure (.bool true) ?_ rfl
        simp only [execOp, evS, h34, h39]
        go_simp
      refine ⟨fun t w1 hf hk hp => ?_, ?_⟩
      · have h40 : slot t 40 = .bool true := hp 40 (by kernel_rfl)
        clear hf hp
        refine stepAt_plain rfl ?_
        exact stepOK_move _ (.inl rfl) h40
      refine ⟨fun t w1 hf hk hp => ?_, ?_⟩
      · have h41 : slot t 41 = .bool true := hp 41 (by kernel_rfl)
        clear hf hp
        refine stepAt_on 41 true (by kernel_rfl) h41 ?_
        refine stepOK_call #[] rfl (by simp only [List.map_toArray, List.map_nil]) (by go_simp) ((awake5_any w1).mono fun e w' ⟨he, hk'⟩ => ⟨_, he, hk', rfl⟩)
      refine ⟨fun t w1 hf hk hp => ?_, ?_⟩
      · have h41 : slot t 41 = .bool true := hp 41 (by kernel_rfl)
        have h42 : slot t 42 = .bool true := hp 42 (by kernel_rfl)
        clear hf hp
        refine stepAt_plain rfl ?_
        refine stepOK_pure (.bool true) ?_ rfl
        simp only [execOp, evS, h41, h42]
        go_simp
      refine ⟨fun t w1 hf hk hp => ?_, ?_⟩
      · have h43 : slot t 43 = .bool true := hp 43 (by kernel_rfl)
        clear hf hp
        refine stepAt_plain rfl ?_
        exact stepOK_move _ (.inr rfl) h43
      exact trivial
    · intro t w1 hsz hf hk hfacts
      have h4 : slot t 4 = .bool true := hfacts 25 _ rfl 4 rfl
      have h2 : slot t 2 = .pointer (some ⟨w.heap.size, 0, none⟩) := hf 2 (by kernel_rfl)
      have h3 : slot t 3 = .pointer (some ⟨w.heap.size + 1, 0, none⟩) := hf 3 (by kernel_rfl)
      have h5 : slot t 5 = v5 := hf 5 (by kernel_rfl)
      have h6 : slot t 6 = v6 := hf 6 (by kernel_rfl)
      have h7 : slot t 7 = .pointer (some ⟨v2.heap.size, 0, none⟩) := hf 7 (by kernel_rfl)
      have h8 : slot t 8 = .bool (fit (A + B)) := hf 8 (by kernel_rfl)
      have harr : t = #[slot t 0, slot t 1, slot t 2, slot t 3, slot t 4, slot t 5, slot t 6, slot t 7, slot t 8, slot t 9, slot t 10, slot t 11, slot t 12, slot t 13, slot t 14, slot t 15, slot t 16, slot t 17, slot t 18, slot t 19, slot t 20, slot t 21, slot t 22, slot t 23, slot t 24, slot t 25, slot t 26, slot t 27, slot t 28, slot t 29, slot t 30, slot t 31, slot t 32, slot t 33, slot t 34, slot t 35, slot t 36, slot t 37, slot t 38, slot t 39, slot t 40, slot t 41, slot t 42, slot t 43] := arr_eq t 44 hsz
      rw [harr, h4, h2, h3, h5, h6, h7, h8]
      clear harr hfacts hf h4 h2 h3 h5 h6 h7 h8
      generalize slot t 0 = x0; generalize slot t 1 = x1; generalize slot t 9 = x9; generalize slot t 10 = x10; generalize slot t 11 = x11; generalize slot t 12 = x12; generalize slot t 13 = x13; generalize slot t 14 = x14; generalize slot t 15 = x15; generalize slot t 16 = x16; generalize slot t 17 = x17; generalize slot t 18 = x18
      generalize slot t 19 = x19; generalize slot t 20 = x20; generalize slot t 21 = x21; generalize slot t 22 = x22; generalize slot t 23 = x23; generalize slot t 24 = x24; generalize slot t 25 = x25; generalize slot t 26 = x26; generalize slot t 27 = x27; generalize slot t 28 = x28; generalize slot t 29 = x29; generalize slot t 30 = x30
      generalize slot t 31 = x31; generalize slot t 32 = x32; generalize slot t 33 = x33; generalize slot t 34 = x34; generalize slot t 35 = x35; generalize slot t 36 = x36; generalize slot t 37 = x37; generalize slot t 38 = x38; generalize slot t 39 = x39; generalize slot t 40 = x40; generalize slot t 41 = x41; generalize slot t 42 = x42
      generalize slot t 43 = x43
      clear hsz t
      go_wp2
      go_ret
      exact ⟨rfl, KK.out.trans hk⟩

set_option maxRecDepth 100000 in
set_option maxHeartbeats 1000000 in
theorem lifted (os : Os) (started : os.Started) (H : Type) (enc : TypeId × Value → H) :
    ReturnsInHanded {} Try.checked os 3 .any (Rows.largeAddsSpec.pre6 enc Try.prog Try.f3 Rows.largeAddsRow.domain false) (Rows.largeAddsSpec.post enc Try.prog Try.f3 false true false false) := by
  refine returnsInHanded_of_change_sized (C := Try.checked) own started (by kernel_rfl) Try.func3
    (ChangeSpec.witness6 (enc := enc) (C := Try.checked) false ⟨#[], #[.agg #[.int .u64 0, .int .u64 0, .int .u64 0, .int .u64 0, .int .u64 0], .agg #[.int .u64 0, .int .u64 0, .int .u64 0, .int .u64 0, .int .u64 0]], []⟩ 8 (by kernel_rfl) (by kernel_rfl) (by kernel_rfl) (by kernel_rfl)) ?_
  intro W base args ds gs before hval0 hW hcnd hsz0 _
  have hval : ∀ (j : Nat) t v, Try.f3.params[j]? = some t → args[j]? = some v → Value.okWide Try.prog W .any base t v := hval0
  have hsz : (DataW.weightsEach Try.prog (Try.f3.params.toList ++ Rows.largeAddsSpec.plain.varTypes Try.prog) (ds ++ gs)).all (· ≤ reachBytes) = true := hsz0
  have hW' := hW
  obtain ⟨p, q, hA0, hV, rfl, hfz, hnd⟩ := hW
  have hA : DataW.TrodAll enc Try.prog W 0 (fun _ => true) true Try.f3.params.toList args.toList ds p := hA0
  have hAk := hA
  rw [Try.params3] at hA hval hsz
  obtain ⟨v0, vs0, d0, ds0, p0_, q0_, hargs, rfl, rfl, h0, r0_⟩ := trodAll_cons hA
  obtain ⟨v1, vs1, d1, ds1, p1_, q1_, rfl, rfl, rfl, h1, r1_⟩ := trodAll_cons r0_
  obtain ⟨rfl, rfl, rfl⟩ := trodAll_nil r1_
  obtain rfl : args = #[v0, v1] := by cases args; simp_all
  obtain ⟨rfl, rfl⟩ := trodVars_none hV
  have hlt : ∀ x ∈ (p0_ ++ (p1_ ++ ([]))), x.block < W.heap.size := fun x hx => by simpa using hW'.lt x (by simpa using hx)
  obtain ⟨cs0, rfl⟩ : ∃ cs, v0 = .agg cs := by
    have := hval 0 24 v0 rfl rfl
    simp only [Value.okWide, Try.underlying24] at this
    obtain ⟨cs, h, _⟩ := this
    exact ⟨cs, h⟩
  obtain ⟨a0, n0, b0, rfl⟩ := open_u64Arr Try.underlying24 Try.underlying22 (by kernel_rfl) (by kernel_rfl) h0
  obtain ⟨cs1, rfl⟩ : ∃ cs, v1 = .agg cs := by
    have := hval 1 24 v1 rfl rfl
    simp only [Value.okWide, Try.underlying24] at this
    obtain ⟨cs, h, _⟩ := this
    exact ⟨cs, h⟩
  obtain ⟨a1, n1, b1, rfl⟩ := open_u64Arr Try.underlying24 Try.underlying22 (by kernel_rfl) (by kernel_rfl) h1
  clear hA0 hval0
  refine (walk a0 n0 b0 a1 n1 b1 W ).mono fun e W' ⟨he, hg⟩ => ?_
  subst he
  exact ⟨_, rfl, ⟨_, _, _, [], _, [], hW', trodAll_cons_mk (shut_bool Try.underlying4 _) trodAll_mk0, trodAll_stays laidOut hg (by kernel_rfl) hAk hlt (fun x hx => by simpa using hlt x hx), rfl, Kept.frame hg _, fun h => by cases h⟩⟩

theorem over : Rows.largeAddsRow.holds Try.pinned (OpenSpec.ofChange Rows.largeAddsSpec) :=
  OpenClaim.holds_of_wide 3 Try.f3 rfl rfl rfl rfl rfl rfl rfl ⟨rfl, rfl, rfl, rfl, rfl⟩ rfl rfl rfl rfl rfl (by kernel_rfl) Try.func3 (by kernel_rfl)
    (of_decide_eq_true (by kernel_rfl)) (by unfold Func.isWrapper; first | (rw [if_pos (by decide +kernel)]; kernel_rfl) | (rw [if_neg (by decide +kernel)]; exact ⟨rfl, rfl⟩))
    (fun os started H enc _ => lifted os started H enc)
end Go.Proofs.Ytcjieaijcjinnaa.largeAdds
namespace Go.Proofs.Ytcjieaijcjinnaa
theorem largeAdds_holds : Rows.LargeAddsSaid := largeAdds.over
#print axioms largeAdds_holds
end Go.Proofs.Ytcjieaijcjinnaa
