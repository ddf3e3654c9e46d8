/-
  tag's hashes of leaves, nodes, roots and headers are the reference's for every string of at most 2000 bytes, every two hashes and every number; the law's examples hold: 'TagSums' returns true for every input.
  Conditions: none beyond the card's own (the variable 'rounds' is tied to the program's text).
-/
import Derived.Test.YthngohgfdainaaaDoorRows
import Derived.Test.YthngohgfdainaaaDoorTagSumA
import Derived.Test.YthngohgfdainaaaDoorTagLaw
import Derived.Test.YthngohgfdainaaaDoorEqLib
import Derived.WalkKit
import Derived.ProofKit
import Derived.OpenShut
import Derived.ShutString
import Derived.SizedLaws
import Derived.Test.YthngohgfdainaaaDoorLawLib
import Derived.LaidMore
import Derived.SevenTiedAt
import Derived.Test.YthngohgfdainaaaDoorCards
import Derived.Test.YthngohgfdainaaaDoorTie
import Derived.Test.YthngohgfdainaaaDoorShaLaid
namespace Go.Proofs.YthngohgfdainaaaDoor.tagSums
open Go.ChangeShapes Go.WideShapes Go.ChangeAt Go.RowKit
open Go.ChangeMaps (open_string shut_string)
set_option linter.unusedVariables false

theorem own : ownKnob Tryd.prog.godebug = none := by kernel_rfl
theorem laidOut : laidOutB Tryd.prog = true := by kernel_rfl

set_option maxRecDepth 100000 in
set_option maxHeartbeats 4000000 in
theorem walk (a0 : ByteArray) (w0 : a0.size ≤ maxLen) (r0 : a0.size ≤ 140737488351232) (a1 : List UInt8) (n1 : a1.length = 64) (a2 : Int) (w2 : (Lit.int .u64 a2).wf = true) (w : World)  (hT : Tab w) :
    Calls Tryd.prog 3 #[.string a0, .agg (bC 64 a1), .int .u64 a2] w fun e w' => e = .returned (.bool true) ∧ Kept w w' := by
  obtain ⟨hl, hu⟩ := bounds_u64 w2
  obtain ⟨n, rfl⟩ := Int.eq_ofNat_of_zero_le hl
  have hn : n < 18446744073709551616 := by omega
  clear hl hu w2
  by_cases h2 : 2000 < a0.size
  · have hd : decide ((2000 : Int) < (a0.size : Int)) = true := by simp; omega
    go_enter Tryd.func3, Tryd.ntmps3
    go_wp2_with (go_at_call 4; refine (awakeTag_any _).mono ?_; rintro e v4 ⟨rfl, hg4⟩)
    go_ret
    exact ⟨rfl, ((Kept.refl w).alloc _).trans hg4⟩
  · have hd : decide ((2000 : Int) < (a0.size : Int)) = false := by simp; omega
    have H0 := hAt_length a1 0 (by omega)
    have H1 := hAt_length a1 1 (by omega)
    have hz : (headS a0).size ≤ 140737488351232 := by rw [headS, tagS_size]; omega
    have HT := Lib.hid hT
    clear hT
    go_enter Tryd.func3, Tryd.ntmps3
    go_wp2_with fail
    have F0 := Lib.hid (Rowz.new w (bC 64 a1) 24)
    have F1 := Lib.hid ((Kept.refl w).alloc (.cells (bC 64 a1) 24))
    have F4 := Lib.hid (HT.out.kept F1.out)
    generalize w.alloc (.cells (bC 64 a1) 24) = v at F0 F1 F4 ⊢
    generalize w.heap.size = b at F0 ⊢
    refine wp_region_table [(11, .is (.string a0)), (12, .is (.agg (bC 32 (shaL (leafS a0))))), (13, .is (.string a0)), (14, .is (.agg (bC 32 (shaL (leafS a0))))), (15, .is (.bool true)), (16, .is (.bool true)), (17, .is (.pointer (some ⟨b, 0, none⟩))), (18, .is (.agg (bC 32 (hAt a1 0)))), (19, .is (.pointer (some ⟨b, 32, none⟩))), (20, .is (.agg (bC 32 (hAt a1 1)))), (21, .is (.agg (bC 32 (shaL (nodeS (hAt a1 0) (hAt a1 1)))))), (22, .is (.pointer (some ⟨b, 0, none⟩))), (23, .is (.agg (bC 32 (hAt a1 0)))), (24, .is (.pointer (some ⟨b, 32, none⟩))), (25, .is (.agg (bC 32 (hAt a1 1)))), (26, .is (.agg (bC 32 (shaL (nodeS (hAt a1 0) (hAt a1 1)))))), (27, .is (.bool true)), (28, .is (.bool true)), (29, .is (.bool true)), (30, .is (.int .u64 n)), (31, .is (.pointer (some ⟨b, 0, none⟩))), (32, .is (.agg (bC 32 (hAt a1 0)))), (33, .is (.agg (bC 32 (shaL (rootS n (hAt a1 0)))))), (34, .is (.int .u64 n)), (35, .is (.pointer (some ⟨b, 0, none⟩))), (36, .is (.agg (bC 32 (hAt a1 0)))), (37, .is (.agg (bC 32 (shaL (rootS n (hAt a1 0)))))), (38, .is (.bool true)), (39, .is (.bool true)), (40, .is (.bool true)), (41, .is (.string a0)), (42, .is (.agg (bC 32 (shaL (headS a0))))), (43, .is (.string a0)), (44, .is (.string (headS a0))), (45, .is (.agg (bC 32 (shaL (headS a0))))), (46, .is (.bool true)), (47, .is (.bool true)), (48, .is (.bool true)), (49, .is (.bool true)), (50, .is (.bool true)), (6, .is (.bool true))] (by kernel_rfl) (by kernel_rfl) ?_ ?_
    · refine ⟨fun t w1 hf hk hp => ?_, ?_⟩
      · have h0 : slot t 0 = .string a0 := hf 0 (by kernel_rfl)
        clear hf hp
        refine stepAt_plain rfl ?_
        exact stepOK_move _ (.inl rfl) h0
      refine ⟨fun t w1 hf hk hp => ?_, ?_⟩
      · have h11 : slot t 11 = .string a0 := hp 11 (by kernel_rfl)
        clear hf hp
        refine stepAt_plain rfl ?_
        refine stepOK_call #[.string a0] rfl (by simp only [List.map_toArray, List.map_cons, List.map_nil, evS, h11]) (by go_simp) ((tagLeafSum_any a0 (by omega) w1 (F4.out.kept hk)).mono fun e w' ⟨he, hk'⟩ => ⟨_, he, hk', rfl⟩)
      refine ⟨fun t w1 hf hk hp => ?_, ?_⟩
      · have h0 : slot t 0 = .string a0 := hf 0 (by kernel_rfl)
        clear hf hp
        refine stepAt_plain rfl ?_
        exact stepOK_move _ (.inl rfl) h0
      refine ⟨fun t w1 hf hk hp => ?_, ?_⟩
      · have h13 : slot t 13 = .string a0 := hp 13 (by kernel_rfl)
        clear hf hp
        refine stepAt_plain rfl ?_
        refine stepOK_call #[.string a0] rfl (by simp only [List.map_toArray, List.map_cons, List.map_nil, evS, h13]) (by go_simp) ((refLeafSum_any a0 (by omega) w1).mono fun e w' ⟨he, hk'⟩ => ⟨_, he, hk', rfl⟩)
      refine ⟨fun t w1 hf hk hp => ?_, ?_⟩
      · have h12 : slot t 12 = .agg (bC 32 (shaL (leafS a0))) := hp 12 (by kernel_rfl)
        have h14 : slot t 14 = .agg (bC 32 (shaL (leafS a0))) := hp 14 (by kernel_rfl)
        clear hf hp
        refine stepAt_plain rfl ?_
        have hq0 := same_hash (shaL (leafS a0)) w1
        have hq1 := guard_hash
        refine stepOK_pure (.bool true) ?_ rfl
        simp only [execOp, evS, h12, h14]
        go_simp
      refine ⟨fun t w1 hf hk hp => ?_, ?_⟩
      · have h15 : slot t 15 = .bool true := hp 15 (by kernel_rfl)
        clear hf hp
        refine stepAt_plain rfl ?_
        exact stepOK_move _ (.inl rfl) h15
      refine ⟨fun t w1 hf hk hp => ?_, ?_⟩
      · have h4 : slot t 4 = .pointer (some ⟨b, 0, none⟩) := hf 4 (by kernel_rfl)
        have h16 : slot t 16 = .bool true := hp 16 (by kernel_rfl)
        clear hf hp
        refine stepAt_on 16 true (by kernel_rfl) h16 ?_
        refine stepOK_pure (.pointer (some ⟨b, 0, none⟩)) ?_ rfl
        simp only [execOp, evS, h4]
        go_simp
      refine ⟨fun t w1 hf hk hp => ?_, ?_⟩
      · have h17 : slot t 17 = .pointer (some ⟨b, 0, none⟩) := hp 17 (by kernel_rfl)
        have h16 : slot t 16 = .bool true := hp 16 (by kernel_rfl)
        clear hf hp
        refine stepAt_on 16 true (by kernel_rfl) h16 ?_
        have hq0 := load_hash w1 b 0 64 _ a1 (F0.out.kept hk) (by omega)
        exact stepOK_sem (.agg (bC 32 (hAt a1 0))) (by simp only [execOp, evS, h17]) hq0 rfl
      refine ⟨fun t w1 hf hk hp => ?_, ?_⟩
      · have h4 : slot t 4 = .pointer (some ⟨b, 0, none⟩) := hf 4 (by kernel_rfl)
        have h16 : slot t 16 = .bool true := hp 16 (by kernel_rfl)
        clear hf hp
        refine stepAt_on 16 true (by kernel_rfl) h16 ?_
        refine stepOK_pure (.pointer (some ⟨b, 32, none⟩)) ?_ rfl
        simp only [execOp, evS, h4]
        go_simp
      refine ⟨fun t w1 hf hk hp => ?_, ?_⟩
      · have h19 : slot t 19 = .pointer (some ⟨b, 32, none⟩) := hp 19 (by kernel_rfl)
        have h16 : slot t 16 = .bool true := hp 16 (by kernel_rfl)
        clear hf hp
        refine stepAt_on 16 true (by kernel_rfl) h16 ?_
        have hq0 := load_hash w1 b 1 64 _ a1 (F0.out.kept hk) (by omega)
        exact stepOK_sem (.agg (bC 32 (hAt a1 1))) (by simp only [execOp, evS, h19]) hq0 rfl
      refine ⟨fun t w1 hf hk hp => ?_, ?_⟩
      · have h18 : slot t 18 = .agg (bC 32 (hAt a1 0)) := hp 18 (by kernel_rfl)
        have h20 : slot t 20 = .agg (bC 32 (hAt a1 1)) := hp 20 (by kernel_rfl)
        have h16 : slot t 16 = .bool true := hp 16 (by kernel_rfl)
        clear hf hp
        refine stepAt_on 16 true (by kernel_rfl) h16 ?_
        refine stepOK_call #[.agg (bC 32 (hAt a1 0)), .agg (bC 32 (hAt a1 1))] rfl (by simp only [List.map_toArray, List.map_cons, List.map_nil, evS, h18, h20]) (by go_simp) ((tagNodeSum_any _ _ H0 H1 w1 (F4.out.kept hk)).mono fun e w' ⟨he, hk'⟩ => ⟨_, he, hk', rfl⟩)
      refine ⟨fun t w1 hf hk hp => ?_, ?_⟩
      · have h4 : slot t 4 = .pointer (some ⟨b, 0, none⟩) := hf 4 (by kernel_rfl)
        have h16 : slot t 16 = .bool true := hp 16 (by kernel_rfl)
        clear hf hp
        refine stepAt_on 16 true (by kernel_rfl) h16 ?_
        refine stepOK_pure (.pointer (some ⟨b, 0, none⟩)) ?_ rfl
        simp only [execOp, evS, h4]
        go_simp
      refine ⟨fun t w1 hf hk hp => ?_, ?_⟩
      · have h22 : slot t 22 = .pointer (some ⟨b, 0, none⟩) := hp 22 (by kernel_rfl)
        have h16 : slot t 16 = .bool true := hp 16 (by kernel_rfl)
        clear hf hp
        refine stepAt_on 16 true (by kernel_rfl) h16 ?_
        have hq0 := load_hash w1 b 0 64 _ a1 (F0.out.kept hk) (by omega)
        exact stepOK_sem (.agg (bC 32 (hAt a1 0))) (by simp only [execOp, evS, h22]) hq0 rfl
      refine ⟨fun t w1 hf hk hp => ?_, ?_⟩
      · have h4 : slot t 4 = .pointer (some ⟨b, 0, none⟩) := hf 4 (by kernel_rfl)
        have h16 : slot t 16 = .bool true := hp 16 (by kernel_rfl)
        clear hf hp
        refine stepAt_on 16 true (by kernel_rfl) h16 ?_
        refine stepOK_pure (.pointer (some ⟨b, 32, none⟩)) ?_ rfl
        simp only [execOp, evS, h4]
        go_simp
      refine ⟨fun t w1 hf hk hp => ?_, ?_⟩
      · have h24 : slot t 24 = .pointer (some ⟨b, 32, none⟩) := hp 24 (by kernel_rfl)
        have h16 : slot t 16 = .bool true := hp 16 (by kernel_rfl)
        clear hf hp
        refine stepAt_on 16 true (by kernel_rfl) h16 ?_
        have hq0 := load_hash w1 b 1 64 _ a1 (F0.out.kept hk) (by omega)
        exact stepOK_sem (.agg (bC 32 (hAt a1 1))) (by simp only [execOp, evS, h24]) hq0 rfl
      refine ⟨fun t w1 hf hk hp => ?_, ?_⟩
      · have h23 : slot t 23 = .agg (bC 32 (hAt a1 0)) := hp 23 (by kernel_rfl)
        have h25 : slot t 25 = .agg (bC 32 (hAt a1 1)) := hp 25 (by kernel_rfl)
        have h16 : slot t 16 = .bool true := hp 16 (by kernel_rfl)
        clear hf hp
        refine stepAt_on 16 true (by kernel_rfl) h16 ?_
        refine stepOK_call #[.agg (bC 32 (hAt a1 0)), .agg (bC 32 (hAt a1 1))] rfl (by simp only [List.map_toArray, List.map_cons, List.map_nil, evS, h23, h25]) (by go_simp) ((refNodeSum_any _ _ H0 H1 w1).mono fun e w' ⟨he, hk'⟩ => ⟨_, he, hk', rfl⟩)
      refine ⟨fun t w1 hf hk hp => ?_, ?_⟩
      · have h21 : slot t 21 = .agg (bC 32 (shaL (nodeS (hAt a1 0) (hAt a1 1)))) := hp 21 (by kernel_rfl)
        have h26 : slot t 26 = .agg (bC 32 (shaL (nodeS (hAt a1 0) (hAt a1 1)))) := hp 26 (by kernel_rfl)
        have h16 : slot t 16 = .bool true := hp 16 (by kernel_rfl)
        clear hf hp
        refine stepAt_on 16 true (by kernel_rfl) h16 ?_
        have hq0 := same_hash (shaL (nodeS (hAt a1 0) (hAt a1 1))) w1
        have hq1 := guard_hash
        refine stepOK_pure (.bool true) ?_ rfl
        simp only [execOp, evS, h21, h26]
        go_simp
      refine ⟨fun t w1 hf hk hp => ?_, ?_⟩
      · have h16 : slot t 16 = .bool true := hp 16 (by kernel_rfl)
        have h27 : slot t 27 = .bool true := hp 27 (by kernel_rfl)
        clear hf hp
        refine stepAt_plain rfl ?_
        refine stepOK_pure (.bool true) ?_ rfl
        simp only [execOp, evS, h16, h27]
        go_simp
      refine ⟨fun t w1 hf hk hp => ?_, ?_⟩
      · have h28 : slot t 28 = .bool true := hp 28 (by kernel_rfl)
        clear hf hp
        refine stepAt_plain rfl ?_
        exact stepOK_move _ (.inl rfl) h28
      refine ⟨fun t w1 hf hk hp => ?_, ?_⟩
      · have h2 : slot t 2 = .int .u64 n := hf 2 (by kernel_rfl)
        have h29 : slot t 29 = .bool true := hp 29 (by kernel_rfl)
        clear hf hp
        refine stepAt_on 29 true (by kernel_rfl) h29 ?_
        exact stepOK_move _ (.inl rfl) h2
      refine ⟨fun t w1 hf hk hp => ?_, ?_⟩
      · have h4 : slot t 4 = .pointer (some ⟨b, 0, none⟩) := hf 4 (by kernel_rfl)
        have h29 : slot t 29 = .bool true := hp 29 (by kernel_rfl)
        clear hf hp
        refine stepAt_on 29 true (by kernel_rfl) h29 ?_
        refine stepOK_pure (.pointer (some ⟨b, 0, none⟩)) ?_ rfl
        simp only [execOp, evS, h4]
        go_simp
      refine ⟨fun t w1 hf hk hp => ?_, ?_⟩
      · have h31 : slot t 31 = .pointer (some ⟨b, 0, none⟩) := hp 31 (by kernel_rfl)
        have h29 : slot t 29 = .bool true := hp 29 (by kernel_rfl)
        clear hf hp
        refine stepAt_on 29 true (by kernel_rfl) h29 ?_
        have hq0 := load_hash w1 b 0 64 _ a1 (F0.out.kept hk) (by omega)
        exact stepOK_sem (.agg (bC 32 (hAt a1 0))) (by simp only [execOp, evS, h31]) hq0 rfl
      refine ⟨fun t w1 hf hk hp => ?_, ?_⟩
      · have h30 : slot t 30 = .int .u64 n := hp 30 (by kernel_rfl)
        have h32 : slot t 32 = .agg (bC 32 (hAt a1 0)) := hp 32 (by kernel_rfl)
        have h29 : slot t 29 = .bool true := hp 29 (by kernel_rfl)
        clear hf hp
        refine stepAt_on 29 true (by kernel_rfl) h29 ?_
        refine stepOK_call #[.int .u64 n, .agg (bC 32 (hAt a1 0))] rfl (by simp only [List.map_toArray, List.map_cons, List.map_nil, evS, h30, h32]) (by go_simp) ((tagRootSum_any n hn _ H0 w1 (F4.out.kept hk)).mono fun e w' ⟨he, hk'⟩ => ⟨_, he, hk', rfl⟩)
      refine ⟨fun t w1 hf hk hp => ?_, ?_⟩
      · have h2 : slot t 2 = .int .u64 n := hf 2 (by kernel_rfl)
        have h29 : slot t 29 = .bool true := hp 29 (by kernel_rfl)
        clear hf hp
        refine stepAt_on 29 true (by kernel_rfl) h29 ?_
        exact stepOK_move _ (.inl rfl) h2
      refine ⟨fun t w1 hf hk hp => ?_, ?_⟩
      · have h4 : slot t 4 = .pointer (some ⟨b, 0, none⟩) := hf 4 (by kernel_rfl)
        have h29 : slot t 29 = .bool true := hp 29 (by kernel_rfl)
        clear hf hp
        refine stepAt_on 29 true (by kernel_rfl) h29 ?_
        refine stepOK_pure (.pointer (some ⟨b, 0, none⟩)) ?_ rfl
        simp only [execOp, evS, h4]
        go_simp
      refine ⟨fun t w1 hf hk hp => ?_, ?_⟩
      · have h35 : slot t 35 = .pointer (some ⟨b, 0, none⟩) := hp 35 (by kernel_rfl)
        have h29 : slot t 29 = .bool true := hp 29 (by kernel_rfl)
        clear hf hp
        refine stepAt_on 29 true (by kernel_rfl) h29 ?_
        have hq0 := load_hash w1 b 0 64 _ a1 (F0.out.kept hk) (by omega)
        exact stepOK_sem (.agg (bC 32 (hAt a1 0))) (by simp only [execOp, evS, h35]) hq0 rfl
      refine ⟨fun t w1 hf hk hp => ?_, ?_⟩
      · have h34 : slot t 34 = .int .u64 n := hp 34 (by kernel_rfl)
        have h36 : slot t 36 = .agg (bC 32 (hAt a1 0)) := hp 36 (by kernel_rfl)
        have h29 : slot t 29 = .bool true := hp 29 (by kernel_rfl)
        clear hf hp
        refine stepAt_on 29 true (by kernel_rfl) h29 ?_
        refine stepOK_call #[.int .u64 n, .agg (bC 32 (hAt a1 0))] rfl (by simp only [List.map_toArray, List.map_cons, List.map_nil, evS, h34, h36]) (by go_simp) ((refRootSum_any n hn _ H0 w1).mono fun e w' ⟨he, hk'⟩ => ⟨_, he, hk', rfl⟩)
      refine ⟨fun t w1 hf hk hp => ?_, ?_⟩
      · have h33 : slot t 33 = .agg (bC 32 (shaL (rootS n (hAt a1 0)))) := hp 33 (by kernel_rfl)
        have h37 : slot t 37 = .agg (bC 32 (shaL (rootS n (hAt a1 0)))) := hp 37 (by kernel_rfl)
        have h29 : slot t 29 = .bool true := hp 29 (by kernel_rfl)
        clear hf hp
        refine stepAt_on 29 true (by kernel_rfl) h29 ?_
        have hq0 := same_hash (shaL (rootS n (hAt a1 0))) w1
        have hq1 := guard_hash
        refine stepOK_pure (.bool true) ?_ rfl
        simp only [execOp, evS, h33, h37]
        go_simp
      refine ⟨fun t w1 hf hk hp => ?_, ?_⟩
      · have h29 : slot t 29 = .bool true := hp 29 (by kernel_rfl)
        have h38 : slot t 38 = .bool true := hp 38 (by kernel_rfl)
        clear hf hp
        refine stepAt_plain rfl ?_
        refine stepOK_pure (.bool true) ?_ rfl
        simp only [execOp, evS, h29, h38]
        go_simp
      refine ⟨fun t w1 hf hk hp => ?_, ?_⟩
      · have h39 : slot t 39 = .bool true := hp 39 (by kernel_rfl)
        clear hf hp
        refine stepAt_plain rfl ?_
        exact stepOK_move _ (.inl rfl) h39
      refine ⟨fun t w1 hf hk hp => ?_, ?_⟩
      · have h0 : slot t 0 = .string a0 := hf 0 (by kernel_rfl)
        have h40 : slot t 40 = .bool true := hp 40 (by kernel_rfl)
        clear hf hp
        refine stepAt_on 40 true (by kernel_rfl) h40 ?_
        exact stepOK_move _ (.inl rfl) h0
      refine ⟨fun t w1 hf hk hp => ?_, ?_⟩
      · have h41 : slot t 41 = .string a0 := hp 41 (by kernel_rfl)
        have h40 : slot t 40 = .bool true := hp 40 (by kernel_rfl)
        clear hf hp
        refine stepAt_on 40 true (by kernel_rfl) h40 ?_
        refine stepOK_call #[.string a0] rfl (by simp only [List.map_toArray, List.map_cons, List.map_nil, evS, h41]) (by go_simp) ((tagHeadSum_any a0 (by omega) w1 (F4.out.kept hk)).mono fun e w' ⟨he, hk'⟩ => ⟨_, he, hk', rfl⟩)
      refine ⟨fun t w1 hf hk hp => ?_, ?_⟩
      · have h0 : slot t 0 = .string a0 := hf 0 (by kernel_rfl)
        have h40 : slot t 40 = .bool true := hp 40 (by kernel_rfl)
        clear hf hp
        refine stepAt_on 40 true (by kernel_rfl) h40 ?_
        exact stepOK_move _ (.inl rfl) h0
      refine ⟨fun t w1 hf hk hp => ?_, ?_⟩
      · have h43 : slot t 43 = .string a0 := hp 43 (by kernel_rfl)
        have h40 : slot t 40 = .bool true := hp 40 (by kernel_rfl)
        clear hf hp
        refine stepAt_on 40 true (by kernel_rfl) h40 ?_
        refine stepOK_call #[.string a0] rfl (by simp only [List.map_toArray, List.map_cons, List.map_nil, evS, h43]) (by go_simp) ((refHead_any a0 w1 (by omega)).mono fun e w' ⟨he, hk'⟩ => ⟨_, he, Grown.kept hk', rfl⟩)
      refine ⟨fun t w1 hf hk hp => ?_, ?_⟩
      · have h44 : slot t 44 = .string (headS a0) := hp 44 (by kernel_rfl)
        have h40 : slot t 40 = .bool true := hp 40 (by kernel_rfl)
        clear hf hp
        refine stepAt_on 40 true (by kernel_rfl) h40 ?_
        refine stepOK_call #[.string (headS a0)] rfl (by simp only [List.map_toArray, List.map_cons, List.map_nil, evS, h44]) (by go_simp) ((refSum_any (headS a0) w1 hz).mono fun e w' ⟨he, hk'⟩ => ⟨_, he, Grown.kept hk', rfl⟩)
      refine ⟨fun t w1 hf hk hp => ?_, ?_⟩
      · have h42 : slot t 42 = .agg (bC 32 (shaL (headS a0))) := hp 42 (by kernel_rfl)
        have h45 : slot t 45 = .agg (bC 32 (shaL (headS a0))) := hp 45 (by kernel_rfl)
        have h40 : slot t 40 = .bool true := hp 40 (by kernel_rfl)
        clear hf hp
        refine stepAt_on 40 true (by kernel_rfl) h40 ?_
        have hq0 := same_hash (shaL (headS a0)) w1
        have hq1 := guard_hash
        refine stepOK_pure (.bool true) ?_ rfl
        simp only [execOp, evS, h42, h45]
        go_simp
      refine ⟨fun t w1 hf hk hp => ?_, ?_⟩
      · have h40 : slot t 40 = .bool true := hp 40 (by kernel_rfl)
        have h46 : slot t 46 = .bool true := hp 46 (by kernel_rfl)
        clear hf hp
        refine stepAt_plain rfl ?_
        refine stepOK_pure (.bool true) ?_ rfl
        simp only [execOp, evS, h40, h46]
        go_simp
      refine ⟨fun t w1 hf hk hp => ?_, ?_⟩
      · have h47 : slot t 47 = .bool true := hp 47 (by kernel_rfl)
        clear hf hp
        refine stepAt_plain rfl ?_
        exact stepOK_move _ (.inl rfl) h47
      refine ⟨fun t w1 hf hk hp => ?_, ?_⟩
      · have h48 : slot t 48 = .bool true := hp 48 (by kernel_rfl)
        clear hf hp
        refine stepAt_on 48 true (by kernel_rfl) h48 ?_
        refine stepOK_call #[] rfl (by simp only [List.map_toArray, List.map_nil]) (by go_simp) ((awakeTag_any w1).mono fun e w' ⟨he, hk'⟩ => ⟨_, he, hk', rfl⟩)
      refine ⟨fun t w1 hf hk hp => ?_, ?_⟩
      · have h48 : slot t 48 = .bool true := hp 48 (by kernel_rfl)
        have h49 : slot t 49 = .bool true := hp 49 (by kernel_rfl)
        clear hf hp
        refine stepAt_plain rfl ?_
        refine stepOK_pure (.bool true) ?_ rfl
        simp only [execOp, evS, h48, h49]
        go_simp
      refine ⟨fun t w1 hf hk hp => ?_, ?_⟩
      · have h50 : slot t 50 = .bool true := hp 50 (by kernel_rfl)
        clear hf hp
        refine stepAt_plain rfl ?_
        exact stepOK_move _ (.inr rfl) h50
      exact trivial
    · intro t w1 hsz hf hk hfacts
      have h6 : slot t 6 = .bool true := hfacts 40 _ rfl 6 rfl
      have h0 : slot t 0 = .string a0 := hf 0 (by kernel_rfl)
      have h2 : slot t 2 = .int .u64 n := hf 2 (by kernel_rfl)
      have h4 : slot t 4 = .pointer (some ⟨b, 0, none⟩) := hf 4 (by kernel_rfl)
      have harr : t = #[slot t 0, slot t 1, slot t 2, slot t 3, slot t 4, slot t 5, slot t 6, slot t 7, slot t 8, slot t 9, slot t 10, slot t 11, slot t 12, slot t 13, slot t 14, slot t 15, slot t 16, slot t 17, slot t 18, slot t 19, slot t 20, slot t 21, slot t 22, slot t 23, slot t 24, slot t 25, slot t 26, slot t 27, slot t 28, slot t 29, slot t 30, slot t 31, slot t 32, slot t 33, slot t 34, slot t 35, slot t 36, slot t 37, slot t 38, slot t 39, slot t 40, slot t 41, slot t 42, slot t 43, slot t 44, slot t 45, slot t 46, slot t 47, slot t 48, slot t 49, slot t 50] := arr_eq t 51 hsz
      rw [harr, h6, h0, h2, h4]
      clear harr hfacts hf h6 h0 h2 h4
      generalize slot t 1 = x1; generalize slot t 3 = x3; generalize slot t 5 = x5; generalize slot t 7 = x7; generalize slot t 8 = x8; generalize slot t 9 = x9; generalize slot t 10 = x10; generalize slot t 11 = x11; generalize slot t 12 = x12; generalize slot t 13 = x13; generalize slot t 14 = x14; generalize slot t 15 = x15
      generalize slot t 16 = x16; generalize slot t 17 = x17; generalize slot t 18 = x18; generalize slot t 19 = x19; generalize slot t 20 = x20; generalize slot t 21 = x21; generalize slot t 22 = x22; generalize slot t 23 = x23; generalize slot t 24 = x24; generalize slot t 25 = x25; generalize slot t 26 = x26; generalize slot t 27 = x27
      generalize slot t 28 = x28; generalize slot t 29 = x29; generalize slot t 30 = x30; generalize slot t 31 = x31; generalize slot t 32 = x32; generalize slot t 33 = x33; generalize slot t 34 = x34; generalize slot t 35 = x35; generalize slot t 36 = x36; generalize slot t 37 = x37; generalize slot t 38 = x38; generalize slot t 39 = x39
      generalize slot t 40 = x40; generalize slot t 41 = x41; generalize slot t 42 = x42; generalize slot t 43 = x43; generalize slot t 44 = x44; generalize slot t 45 = x45; generalize slot t 46 = x46; generalize slot t 47 = x47; generalize slot t 48 = x48; generalize slot t 49 = x49; generalize slot t 50 = x50
      clear hsz t
      go_wp2_with fail
      go_ret
      exact ⟨rfl, F1.out.trans hk⟩

set_option maxRecDepth 100000 in
set_option maxHeartbeats 1000000 in
theorem lifted (os : Os) (started : os.Started) (H : Type) (enc : TypeId × Value → H) :
    ReturnsInHanded {} Tryd.checked os 3 .any (fun w args => (Rows.tagSumsSpec.pre enc Tryd.prog Tryd.f3 [] false w args ∧ laidMetH Tryd.prog Rows.tagSumsRow.laid w) ∧ sizedMet enc Tryd.prog Tryd.f3 (OpenSpec.ofChange Rows.tagSumsSpec) false w args)
      (Rows.tagSumsSpec.post enc Tryd.prog Tryd.f3 false true false false) := by
  refine returnsInHanded_of_change_and (C := Tryd.checked) (X := fun w _ => laidMetH Tryd.prog Rows.tagSumsRow.laid w) (fun _ _ _ hh h => h.of_heap hh) own started (by kernel_rfl) Tryd.func3
    (ChangeSpec.witness_shaped (enc := enc) (C := Tryd.checked) (os := os) (X := fun w _ => laidMetH Tryd.prog Rows.tagSumsRow.laid w) false (World.doorLaid Tryd.prog 400 os) #[.string ByteArray.empty, .agg #[.int .u8 0, .int .u8 0, .int .u8 0, .int .u8 0, .int .u8 0, .int .u8 0, .int .u8 0, .int .u8 0, .int .u8 0, .int .u8 0, .int .u8 0, .int .u8 0, .int .u8 0, .int .u8 0, .int .u8 0, .int .u8 0, .int .u8 0, .int .u8 0, .int .u8 0, .int .u8 0, .int .u8 0, .int .u8 0, .int .u8 0, .int .u8 0, .int .u8 0, .int .u8 0, .int .u8 0, .int .u8 0, .int .u8 0, .int .u8 0, .int .u8 0, .int .u8 0, .int .u8 0, .int .u8 0, .int .u8 0, .int .u8 0, .int .u8 0, .int .u8 0, .int .u8 0, .int .u8 0, .int .u8 0, .int .u8 0, .int .u8 0, .int .u8 0, .int .u8 0, .int .u8 0, .int .u8 0, .int .u8 0, .int .u8 0, .int .u8 0, .int .u8 0, .int .u8 0, .int .u8 0, .int .u8 0, .int .u8 0, .int .u8 0, .int .u8 0, .int .u8 0, .int .u8 0, .int .u8 0, .int .u8 0, .int .u8 0, .int .u8 0, .int .u8 0], .int .u64 0] 8 rfl (World.shaped_of_RefB (by kernel_rfl) (by kernel_rfl)) (by kernel_rfl) (by kernel_rfl) (by kernel_rfl) (door_met os _)) ?_
  intro W base args ds gs before hval0 hW _ hsz0 hL _
  have hval : ∀ (j : Nat) t v, Tryd.f3.params[j]? = some t → args[j]? = some v → Value.okWide Tryd.prog W .any base t v := hval0
  have hsz : (DataW.weightsEach Tryd.prog (Tryd.f3.params.toList ++ Rows.tagSumsSpec.plain.varTypes Tryd.prog) (ds ++ gs)).all (· ≤ reachBytes) = true := hsz0
  have hW' := hW
  obtain ⟨p, q, hA0, hV, rfl, hfz, hnd⟩ := hW
  have hA : DataW.TrodAll enc Tryd.prog W 0 (fun _ => true) true Tryd.f3.params.toList args.toList ds p := hA0
  have hAk := hA
  rw [Tryd.params3] at hA hval hsz
  obtain ⟨v0, vs0, d0, ds0, p0_, q0_, hargs, rfl, rfl, h0, r0_⟩ := trodAll_cons hA
  obtain ⟨v1, vs1, d1, ds1, p1_, q1_, rfl, rfl, rfl, h1, r1_⟩ := trodAll_cons r0_
  obtain ⟨v2, vs2, d2, ds2, p2_, q2_, rfl, rfl, rfl, h2, r2_⟩ := trodAll_cons r1_
  obtain ⟨rfl, rfl, rfl⟩ := trodAll_nil r2_
  obtain rfl : args = #[v0, v1, v2] := by cases args; simp_all
  obtain ⟨rfl, rfl⟩ := trodVars_none hV
  have hlt : ∀ x ∈ (p0_ ++ (p1_ ++ (p2_ ++ ([])))), x.block < W.heap.size := fun x hx => by simpa using hW'.lt x (by simpa using hx)
  obtain ⟨a0, rfl, rfl, rfl, w0⟩ := open_string Tryd.underlying9 (hval 0 9 v0 rfl rfl) h0
  obtain ⟨cs1, rfl⟩ : ∃ cs, v1 = .agg cs := by
    have := hval 1 24 v1 rfl rfl
    simp only [Value.okWide, Tryd.underlying24] at this
    obtain ⟨cs, h, _⟩ := this
    exact ⟨cs, h⟩
  obtain ⟨a1, n1, rfl⟩ : ∃ l : List UInt8, l.length = 64 ∧ cs1 = bC 64 l := open_hashArr Tryd.underlying24 Tryd.underlying23 Tryd.underlying5 (by kernel_rfl) (by kernel_rfl) (by kernel_rfl) h1
  obtain ⟨a2, rfl, rfl, rfl, w2⟩ := open_int Tryd.underlying25 (hval 2 25 v2 rfl rfl) h2
  have r0 : a0.size ≤ 140737488351232 := by have := sized_string hsz (j := 0) (t := 9) rfl rfl; simpa [reachBytes] using this
  clear hA0 hval0
  refine (walk a0 w0 r0 a1 n1 a2 w2 W  (tab_of_laid hL)).mono fun e W' ⟨he, hg⟩ => ?_
  subst he
  exact ⟨_, rfl, ⟨_, _, _, [], _, [], hW', trodAll_cons_mk (shut_bool Tryd.underlying4 _) trodAll_mk0, trodAll_stays laidOut hg (by kernel_rfl) hAk hlt (fun x hx => by simpa using hlt x hx), rfl, Kept.frame hg _, fun h => by cases h⟩⟩

theorem over : Rows.tagSumsRow.holds Tryd.pinned (OpenSpec.ofChange Rows.tagSumsSpec) :=
  OpenClaim.holds_of_wide 3 Tryd.f3 rfl rfl rfl rfl rfl rfl rfl ⟨rfl, rfl, rfl, rfl, rfl⟩ rfl rfl rfl rfl rfl (by kernel_rfl) Tryd.func3 (by kernel_rfl)
    (of_decide_eq_true (by kernel_rfl)) (by unfold Func.isWrapper; first | (rw [if_pos (by decide +kernel)]; kernel_rfl) | (rw [if_neg (by decide +kernel)]; exact ⟨rfl, rfl⟩))
    (fun os started H enc _ => lifted os started H enc)
end Go.Proofs.YthngohgfdainaaaDoor.tagSums
namespace Go.Proofs.YthngohgfdainaaaDoor
theorem tagSums_holds : Rows.TagSumsSaid := tagSums.over
theorem tagSums_card : Rows.TagSumsCardSaid :=
  Claim7.holds_tied_plain_at .later [] [.data] true (true, "53fb29ac64407256fb59572e6da42fbaf753f57690c8445cc06f24266381610c") false
    tagSums_holds (fun _ h => by cases h) (by kernel_rfl) (fun _ h => by cases h) tagSums_row_tie rfl ⟨rfl, rfl⟩ (by kernel_rfl) rfl
    (fun f fn hf hfn => by
      obtain rfl : f = 3 := Option.some.inj ((show Tryd.prog.funcNamed "milepost/milepostlaw03.TagSums" = some 3 by kernel_rfl).symm.trans hf) |>.symm
      obtain rfl : fn = Tryd.f3 := (Option.some.inj (Tryd.func3.symm.trans hfn)).symm
      refine ⟨by kernel_rfl, fun j t ht => ?_⟩
      have hm : t ∈ Tryd.f3.params.toList := by simpa using Array.mem_of_getElem? ht
      have hall : (Tryd.f3.params.toList.all fun u => !Tryd.prog.wantsStandIn u) = true := by kernel_rfl
      exact (show Tryd.prog.wantsStandIn t = false by simpa using List.all_eq_true.1 hall t hm))
    (by kernel_rfl)
#print axioms tagSums_card
end Go.Proofs.YthngohgfdainaaaDoor
