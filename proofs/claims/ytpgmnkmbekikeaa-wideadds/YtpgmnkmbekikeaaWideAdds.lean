/-
  wide's Add, Sub and Cmp are the reference's, at every two hashes; chapter 4's examples hold: 'WideAdds' returns true.
  Conditions: none.
-/
import Derived.Test.YtpgmnkmbekikeaaRows
import Derived.Test.YtpgmnkmbekikeaaWideWalkD
import Derived.Test.YtpgmnkmbekikeaaWideRefB
import Derived.Test.YtpgmnkmbekikeaaLawLib
import Derived.WalkKit
import Derived.ProofKit
import Derived.OpenShut
import Derived.ShutString
import Derived.SizedLaws
import Derived.Test.YtpgmnkmbekikeaaLawLib
namespace Go.Proofs.Ytpgmnkmbekikeaa.wideAdds
open Go.ChangeShapes Go.WideShapes Go.ChangeAt Go.RowKit
open Go.ChangeMaps (open_string shut_string)
set_option linter.unusedVariables false

theorem own : ownKnob Try.prog.godebug = none := by kernel_rfl
theorem laidOut : laidOutB Try.prog = true := by kernel_rfl

set_option maxRecDepth 100000 in
set_option maxHeartbeats 4000000 in
theorem walk (a0 : List UInt8) (n0 : a0.length = 32) (a1 : List UInt8) (n1 : a1.length = 32) (w : World)  :
    Calls Try.prog 4 #[.agg (bC 32 a0), .agg (bC 32 a1)] w fun e w' => e = .returned (.bool true) ∧ Kept w w' := by
  obtain ⟨A, hA, rfl⟩ := hash_num a0 n0
  obtain ⟨B, hB, rfl⟩ := hash_num a1 n1
  have HA := Lib.hid hA
  have HB := Lib.hid hB
  clear hA hB n0 n1
  go_enter Try.func4, Try.ntmps4
  go_wp2_with fail
  have F2 := Lib.hid ((Rowz.new w (bC 32 (be 32 A)) 23).alloc (.cells (bC 32 (be 32 B)) 23))
  have F3 := Lib.hid (Rowz.newEq1 w (.cells (bC 32 (be 32 A)) 23) (.cells (bC 32 (be 32 B)) 23) (bC 32 (be 32 B)) 23 rfl)
  have G0 := Lib.hid (((Kept.refl w).alloc (.cells (bC 32 (be 32 A)) 23)).alloc (.cells (bC 32 (be 32 B)) 23))
  generalize (w.alloc (.cells (bC 32 (be 32 A)) 23)).alloc (.cells (bC 32 (be 32 B)) 23) = v at F2 F3 G0 ⊢
  have hz : w.heap.size + 1 < v.heap.size := F3.out.lt
  refine wp_region_made 6 [5, 6] [(17, .is (.agg (bC 32 (be 32 A)))), (18, .is (.agg (nC A 4))), (19, .is (.agg (bC 32 (be 32 B)))), (20, .is (.agg (nC B 4))), (5, .row ptrAt0 (nC 0 0) 26), (6, .row ptrAt0 (nC 0 0) 26)] (by kernel_rfl) (by kernel_rfl) (by kernel_rfl) ?_ ?_
  · refine ⟨fun t w1 hf hk hp => ?_, ?_⟩
    · have h2 : slot t 2 = .pointer (some ⟨w.heap.size, 0, none⟩) := hf 2 (by kernel_rfl)
      clear hf hp
      refine stepM_at (by kernel_rfl) ?_
      refine stepAt_plain rfl ?_
      have hq0 := Rowz.load (F2.out.kept hk) 32 5 Try.underlying23 (infoH _)
      exact stepOK_sem (.agg (bC 32 (be 32 A))) (by simp only [execOp, evS, h2]) hq0 rfl
    refine ⟨fun t w1 hf hk hp => ?_, ?_⟩
    · have h17 : slot t 17 = .agg (bC 32 (be 32 A)) := hp 17 (by kernel_rfl)
      clear hf hp
      refine stepM_at (by kernel_rfl) ?_
      refine stepAt_plain rfl ?_
      refine stepOK_call #[.agg (bC 32 (be 32 A))] rfl (by simp only [List.map_toArray, List.map_cons, List.map_nil, evS, h17]) (by go_simp) ((wideOf_any A w1).mono fun e w' ⟨he, hk'⟩ => ⟨_, he, Grown.kept hk', rfl⟩)
    refine ⟨fun t w1 hf hk hp => ?_, ?_⟩
    · have h3 : slot t 3 = .pointer (some ⟨w.heap.size + 1, 0, none⟩) := hf 3 (by kernel_rfl)
      clear hf hp
      refine stepM_at (by kernel_rfl) ?_
      refine stepAt_plain rfl ?_
      have hq0 := Rowz.load (F3.out.kept hk) 32 5 Try.underlying23 (infoH _)
      exact stepOK_sem (.agg (bC 32 (be 32 B))) (by simp only [execOp, evS, h3]) hq0 rfl
    refine ⟨fun t w1 hf hk hp => ?_, ?_⟩
    · have h19 : slot t 19 = .agg (bC 32 (be 32 B)) := hp 19 (by kernel_rfl)
      clear hf hp
      refine stepM_at (by kernel_rfl) ?_
      refine stepAt_plain rfl ?_
      refine stepOK_call #[.agg (bC 32 (be 32 B))] rfl (by simp only [List.map_toArray, List.map_cons, List.map_nil, evS, h19]) (by go_simp) ((wideOf_any B w1).mono fun e w' ⟨he, hk'⟩ => ⟨_, he, Grown.kept hk', rfl⟩)
    refine ⟨fun t w1 hf hk hp => ?_, ?_⟩
    · clear hf hp
      refine stepM_made (by kernel_rfl) ?_
      refine stepMade_new ((nC 0 0)) 26 rfl ?_ ⟨_, rfl, Rowz.new w1 _ _⟩
      simp only [execOp, ptrAt0]
      go_simp
      rfl
    refine ⟨fun t w1 hf hk hp => ?_, ?_⟩
    · clear hf hp
      refine stepM_made (by kernel_rfl) ?_
      refine stepMade_new ((nC 0 0)) 26 rfl ?_ ⟨_, rfl, Rowz.new w1 _ _⟩
      simp only [execOp, ptrAt0]
      go_simp
      rfl
    exact trivial
  · intro t w1 hsz hf hk hfacts hmd hap
    obtain ⟨g5, h5, r5⟩ : ∃ g, slot t 5 = ptrAt0 g ∧ Rowz w1 g (nC 0 0) 26 := hfacts 4 _ (by decide) rfl 5 rfl
    simp only [ptrAt0] at h5
    obtain ⟨g6, h6, r6⟩ : ∃ g, slot t 6 = ptrAt0 g ∧ Rowz w1 g (nC 0 0) 26 := hfacts 5 _ (by decide) rfl 6 rfl
    simp only [ptrAt0] at h6
    have h18 : slot t 18 = .agg (nC A 4) := hfacts 1 _ (by decide) rfl 18 rfl
    have h20 : slot t 20 = .agg (nC B 4) := hfacts 3 _ (by decide) rfl 20 rfl
    have h2 : slot t 2 = .pointer (some ⟨w.heap.size, 0, none⟩) := hf 2 (by kernel_rfl)
    have h3 : slot t 3 = .pointer (some ⟨w.heap.size + 1, 0, none⟩) := hf 3 (by kernel_rfl)
    have l5 := made_ge (hmd 5 (by kernel_rfl)) h5
    have l6 := made_ge (hmd 6 (by kernel_rfl)) h6
    have d5_6 := made_ne (hap 5 6 (by kernel_rfl) (by kernel_rfl) (by decide)) h5 h6
    have harr : t = #[slot t 0, slot t 1, slot t 2, slot t 3, slot t 4, slot t 5, slot t 6, slot t 7, slot t 8, slot t 9, slot t 10, slot t 11, slot t 12, slot t 13, slot t 14, slot t 15, slot t 16, slot t 17, slot t 18, slot t 19, slot t 20, slot t 21, slot t 22, slot t 23, slot t 24, slot t 25, slot t 26, slot t 27, slot t 28, slot t 29, slot t 30, slot t 31, slot t 32, slot t 33, slot t 34, slot t 35, slot t 36, slot t 37, slot t 38, slot t 39, slot t 40, slot t 41, slot t 42, slot t 43, slot t 44, slot t 45, slot t 46, slot t 47, slot t 48, slot t 49, slot t 50, slot t 51, slot t 52, slot t 53, slot t 54, slot t 55, slot t 56, slot t 57, slot t 58, slot t 59, slot t 60, slot t 61, slot t 62, slot t 63, slot t 64, slot t 65, slot t 66, slot t 67, slot t 68, slot t 69, slot t 70, slot t 71, slot t 72, slot t 73, slot t 74, slot t 75, slot t 76, slot t 77, slot t 78, slot t 79, slot t 80, slot t 81, slot t 82] := arr_eq t 83 hsz
    rw [harr, h5, h6, h18, h20, h2, h3]
    clear harr hfacts hf hmd hap h5 h6 h18 h20 h2 h3
    generalize slot t 0 = x0; generalize slot t 1 = x1; generalize slot t 4 = x4; generalize slot t 7 = x7; generalize slot t 8 = x8; generalize slot t 9 = x9; generalize slot t 10 = x10; generalize slot t 11 = x11; generalize slot t 12 = x12; generalize slot t 13 = x13; generalize slot t 14 = x14; generalize slot t 15 = x15
    generalize slot t 16 = x16; generalize slot t 17 = x17; generalize slot t 19 = x19; generalize slot t 21 = x21; generalize slot t 22 = x22; generalize slot t 23 = x23; generalize slot t 24 = x24; generalize slot t 25 = x25; generalize slot t 26 = x26; generalize slot t 27 = x27; generalize slot t 28 = x28; generalize slot t 29 = x29
    generalize slot t 30 = x30; generalize slot t 31 = x31; generalize slot t 32 = x32; generalize slot t 33 = x33; generalize slot t 34 = x34; generalize slot t 35 = x35; generalize slot t 36 = x36; generalize slot t 37 = x37; generalize slot t 38 = x38; generalize slot t 39 = x39; generalize slot t 40 = x40; generalize slot t 41 = x41
    generalize slot t 42 = x42; generalize slot t 43 = x43; generalize slot t 44 = x44; generalize slot t 45 = x45; generalize slot t 46 = x46; generalize slot t 47 = x47; generalize slot t 48 = x48; generalize slot t 49 = x49; generalize slot t 50 = x50; generalize slot t 51 = x51; generalize slot t 52 = x52; generalize slot t 53 = x53
    generalize slot t 54 = x54; generalize slot t 55 = x55; generalize slot t 56 = x56; generalize slot t 57 = x57; generalize slot t 58 = x58; generalize slot t 59 = x59; generalize slot t 60 = x60; generalize slot t 61 = x61; generalize slot t 62 = x62; generalize slot t 63 = x63; generalize slot t 64 = x64; generalize slot t 65 = x65
    generalize slot t 66 = x66; generalize slot t 67 = x67; generalize slot t 68 = x68; generalize slot t 69 = x69; generalize slot t 70 = x70; generalize slot t 71 = x71; generalize slot t 72 = x72; generalize slot t 73 = x73; generalize slot t 74 = x74; generalize slot t 75 = x75; generalize slot t 76 = x76; generalize slot t 77 = x77
    generalize slot t 78 = x78; generalize slot t 79 = x79; generalize slot t 80 = x80; generalize slot t 81 = x81; generalize slot t 82 = x82
    clear hsz t
    simp only [List.drop_succ_cons, List.drop_zero]
    have K0 := Lib.hid (G0.out.trans hk)
    have hb1 : w.heap.size ≤ g5 := Nat.le_trans G0.out.size l5
    have hb2 : w.heap.size ≤ g6 := Nat.le_trans G0.out.size l6
    have F2 := Lib.hid (F2.out.kept hk)
    have F3 := Lib.hid (F3.out.kept hk)
    have R5 := Lib.hid r5
    have R6 := Lib.hid r6
    have n5 : w.heap.size ≠ g5 ∧ w.heap.size + 1 ≠ g5 := by omega
    have n6 : w.heap.size ≠ g6 ∧ w.heap.size + 1 ≠ g6 := by omega
    clear hk r5 r6 G0 hz l5 l6
    refine wpList_store_row rfl 26 _ _ rfl g5 (nC A 4) rfl rfl 26 (nC 0 0) R5.out (infoN _ _) (by simp [nC_size]) (nC_one _ _) ?_
    refine wpList_store_row rfl 26 _ _ rfl g6 (nC B 4) rfl rfl 26 (nC 0 0) (R6.out.rowOther (Ne.symm d5_6)) (infoN _ _) (by simp [nC_size]) (nC_one _ _) ?_
    have A5 := Lib.hid ((R5.out.row (D := nC A 4)).rowOther (k := g6) (D := nC B 4) d5_6)
    have A6 := Lib.hid ((R6.out.rowOther (k := g5) (D := nC A 4) (Ne.symm d5_6)).row (D := nC B 4))
    have A2 := Lib.hid ((F2.out.rowOther (k := g5) (D := nC A 4) n5.1).rowOther (k := g6) (D := nC B 4) n6.1)
    have A3 := Lib.hid ((F3.out.rowOther (k := g5) (D := nC A 4) n5.2).rowOther (k := g6) (D := nC B 4) n6.2)
    have AK := Lib.hid ((K0.out.setRow hb1 (nC A 4)).setRow hb2 (nC B 4))
    generalize (w1.setRow g5 (nC A 4)).setRow g6 (nC B 4) = v1 at A5 A6 A2 A3 AK ⊢
    clear F2 F3 R5 R6 K0 hb1 hb2 n5 n6 d5_6
    go_wp2_with fail
    refine wp_region_table [(21, .is (.agg (bC 32 (be 32 A)))), (22, .such (Bits A) bits_kept), (23, .is (.agg (bC 32 (be 32 B)))), (24, .such (Bits B) bits_kept), (7, .such (Bits A) bits_kept), (8, .such (Bits B) bits_kept)] (by kernel_rfl) (by kernel_rfl) ?_ ?_
    · refine ⟨fun t w1 hf hk hp => ?_, ?_⟩
      · have h2 : slot t 2 = .pointer (some ⟨w.heap.size, 0, none⟩) := hf 2 (by kernel_rfl)
        clear hf hp
        refine stepAt_plain rfl ?_
        have hq0 := Rowz.load (A2.out.kept hk) 32 5 Try.underlying23 (infoH _)
        exact stepOK_sem (.agg (bC 32 (be 32 A))) (by simp only [execOp, evS, h2]) hq0 rfl
      refine ⟨fun t w1 hf hk hp => ?_, ?_⟩
      · have h21 : slot t 21 = .agg (bC 32 (be 32 A)) := hp 21 (by kernel_rfl)
        clear hf hp
        refine stepAt_plain rfl ?_
        refine stepOK_call #[.agg (bC 32 (be 32 A))] rfl (by simp only [List.map_toArray, List.map_cons, List.map_nil, evS, h21]) (by go_simp) ((refOf4_any A w1).mono fun e w' ⟨v, he, hpv, hk'⟩ => ⟨v, he, hk', hpv⟩)
      refine ⟨fun t w1 hf hk hp => ?_, ?_⟩
      · have h3 : slot t 3 = .pointer (some ⟨w.heap.size + 1, 0, none⟩) := hf 3 (by kernel_rfl)
        clear hf hp
        refine stepAt_plain rfl ?_
        have hq0 := Rowz.load (A3.out.kept hk) 32 5 Try.underlying23 (infoH _)
        exact stepOK_sem (.agg (bC 32 (be 32 B))) (by simp only [execOp, evS, h3]) hq0 rfl
      refine ⟨fun t w1 hf hk hp => ?_, ?_⟩
      · have h23 : slot t 23 = .agg (bC 32 (be 32 B)) := hp 23 (by kernel_rfl)
        clear hf hp
        refine stepAt_plain rfl ?_
        refine stepOK_call #[.agg (bC 32 (be 32 B))] rfl (by simp only [List.map_toArray, List.map_cons, List.map_nil, evS, h23]) (by go_simp) ((refOf4_any B w1).mono fun e w' ⟨v, he, hpv, hk'⟩ => ⟨v, he, hk', hpv⟩)
      refine ⟨fun t w1 hf hk hp => ?_, ?_⟩
      · obtain ⟨v22, h22, p22⟩ : ∃ v, slot t 22 = v ∧ (Bits A) v w1 := ⟨_, rfl, hp 22 (by kernel_rfl)⟩
        clear hf hp
        refine stepAt_plain rfl ?_
        exact stepOK_move _ (.inr rfl) (by simp only [evS, h22]; exact p22)
      refine ⟨fun t w1 hf hk hp => ?_, ?_⟩
      · obtain ⟨v24, h24, p24⟩ : ∃ v, slot t 24 = v ∧ (Bits B) v w1 := ⟨_, rfl, hp 24 (by kernel_rfl)⟩
        clear hf hp
        refine stepAt_plain rfl ?_
        exact stepOK_move _ (.inr rfl) (by simp only [evS, h24]; exact p24)
      exact trivial
    · intro t w1 hsz hf hk hfacts
      obtain ⟨v7, h7, p7⟩ : ∃ v, slot t 7 = v ∧ (Bits A) v w1 := ⟨_, rfl, hfacts 4 _ rfl 7 rfl⟩
      obtain ⟨v8, h8, p8⟩ : ∃ v, slot t 8 = v ∧ (Bits B) v w1 := ⟨_, rfl, hfacts 5 _ rfl 8 rfl⟩
      have h2 : slot t 2 = .pointer (some ⟨w.heap.size, 0, none⟩) := hf 2 (by kernel_rfl)
      have h3 : slot t 3 = .pointer (some ⟨w.heap.size + 1, 0, none⟩) := hf 3 (by kernel_rfl)
      have h5 : slot t 5 = .pointer (some ⟨g5, 0, none⟩) := hf 5 (by kernel_rfl)
      have h6 : slot t 6 = .pointer (some ⟨g6, 0, none⟩) := hf 6 (by kernel_rfl)
      have harr : t = #[slot t 0, slot t 1, slot t 2, slot t 3, slot t 4, slot t 5, slot t 6, slot t 7, slot t 8, slot t 9, slot t 10, slot t 11, slot t 12, slot t 13, slot t 14, slot t 15, slot t 16, slot t 17, slot t 18, slot t 19, slot t 20, slot t 21, slot t 22, slot t 23, slot t 24, slot t 25, slot t 26, slot t 27, slot t 28, slot t 29, slot t 30, slot t 31, slot t 32, slot t 33, slot t 34, slot t 35, slot t 36, slot t 37, slot t 38, slot t 39, slot t 40, slot t 41, slot t 42, slot t 43, slot t 44, slot t 45, slot t 46, slot t 47, slot t 48, slot t 49, slot t 50, slot t 51, slot t 52, slot t 53, slot t 54, slot t 55, slot t 56, slot t 57, slot t 58, slot t 59, slot t 60, slot t 61, slot t 62, slot t 63, slot t 64, slot t 65, slot t 66, slot t 67, slot t 68, slot t 69, slot t 70, slot t 71, slot t 72, slot t 73, slot t 74, slot t 75, slot t 76, slot t 77, slot t 78, slot t 79, slot t 80, slot t 81, slot t 82] := arr_eq t 83 hsz
      rw [harr, h7, h8, h2, h3, h5, h6]
      clear harr hfacts hf h7 h8 h2 h3 h5 h6
      generalize slot t 0 = x0; generalize slot t 1 = x1; generalize slot t 4 = x4; generalize slot t 9 = x9; generalize slot t 10 = x10; generalize slot t 11 = x11; generalize slot t 12 = x12; generalize slot t 13 = x13; generalize slot t 14 = x14; generalize slot t 15 = x15; generalize slot t 16 = x16; generalize slot t 17 = x17
      generalize slot t 18 = x18; generalize slot t 19 = x19; generalize slot t 20 = x20; generalize slot t 21 = x21; generalize slot t 22 = x22; generalize slot t 23 = x23; generalize slot t 24 = x24; generalize slot t 25 = x25; generalize slot t 26 = x26; generalize slot t 27 = x27; generalize slot t 28 = x28; generalize slot t 29 = x29
      generalize slot t 30 = x30; generalize slot t 31 = x31; generalize slot t 32 = x32; generalize slot t 33 = x33; generalize slot t 34 = x34; generalize slot t 35 = x35; generalize slot t 36 = x36; generalize slot t 37 = x37; generalize slot t 38 = x38; generalize slot t 39 = x39; generalize slot t 40 = x40; generalize slot t 41 = x41
      generalize slot t 42 = x42; generalize slot t 43 = x43; generalize slot t 44 = x44; generalize slot t 45 = x45; generalize slot t 46 = x46; generalize slot t 47 = x47; generalize slot t 48 = x48; generalize slot t 49 = x49; generalize slot t 50 = x50; generalize slot t 51 = x51; generalize slot t 52 = x52; generalize slot t 53 = x53
      generalize slot t 54 = x54; generalize slot t 55 = x55; generalize slot t 56 = x56; generalize slot t 57 = x57; generalize slot t 58 = x58; generalize slot t 59 = x59; generalize slot t 60 = x60; generalize slot t 61 = x61; generalize slot t 62 = x62; generalize slot t 63 = x63; generalize slot t 64 = x64; generalize slot t 65 = x65
      generalize slot t 66 = x66; generalize slot t 67 = x67; generalize slot t 68 = x68; generalize slot t 69 = x69; generalize slot t 70 = x70; generalize slot t 71 = x71; generalize slot t 72 = x72; generalize slot t 73 = x73; generalize slot t 74 = x74; generalize slot t 75 = x75; generalize slot t 76 = x76; generalize slot t 77 = x77
      generalize slot t 78 = x78; generalize slot t 79 = x79; generalize slot t 80 = x80; generalize slot t 81 = x81; generalize slot t 82 = x82
      clear hsz t
      have A5 := Lib.hid (A5.out.kept hk)
      have A6 := Lib.hid (A6.out.kept hk)
      have AK := Lib.hid (AK.out.trans hk)
      have B7 := Lib.hid p7
      have B8 := Lib.hid p8
      clear p7 p8 hk A2 A3
      have C1 := Lib.hid fun w => wideAdd_any A B w HA.out HB.out
      have C2 := Lib.hid fun w => wideSub_any A B w HA.out HB.out
      have C3 := Lib.hid fun w h1 h2 => refAdd4_any A B v7 v8 w h1 h2 HA.out HB.out
      have C4 := Lib.hid fun w h1 h2 => refSub4_any A B v7 v8 w h1 h2 HA.out HB.out
      go_wp2_with (first
        | (go_at_call 11; refine (C1.out _).mono ?_; rintro e w2 ⟨rfl, k2⟩)
        | (go_at_call 12; refine (C3.out _ B7.out B8.out).mono ?_; rintro e w3 ⟨ua, rfl, hx3, k3⟩; have B11 := Lib.hid hx3; clear hx3; replace A5 := Lib.hid (A5.out.kept k3); replace A6 := Lib.hid (A6.out.kept k3); replace A9 := Lib.hid (A9.out.kept k3); replace AK := Lib.hid (AK.out.trans k3); replace B7 := Lib.hid (bits_kept _ _ _ k3 B7.out); replace B8 := Lib.hid (bits_kept _ _ _ k3 B8.out); clear k3)
        | (go_at_call 13; refine (C2.out _).mono ?_; rintro e w4 ⟨rfl, k4⟩)
        | (go_at_call 14; refine (C4.out _ B7.out B8.out).mono ?_; rintro e w5 ⟨ub, rfl, hx5, k5⟩; have B15 := Lib.hid hx5; clear hx5; replace A5 := Lib.hid (A5.out.kept k5); replace A6 := Lib.hid (A6.out.kept k5); replace A9 := Lib.hid (A9.out.kept k5); replace A13 := Lib.hid (A13.out.kept k5); replace AK := Lib.hid (AK.out.trans k5); replace B7 := Lib.hid (bits_kept _ _ _ k5 B7.out); replace B8 := Lib.hid (bits_kept _ _ _ k5 B8.out); replace B11 := Lib.hid (bits_kept _ _ _ k5 B11.out); clear k5)
        | (refine park_at 49 rfl ?_)
        | (refine wpList_load_row rfl 26 (.tmp 5) rfl g5 rfl 26 (nC A 4) (0, 0) _ A5.out Try.underlying26 rfl (infoN _ _) ?_)
        | (refine wpList_load_row rfl 26 (.tmp 6) rfl g6 rfl 26 (nC B 4) (0, 0) _ A6.out Try.underlying26 rfl (infoN _ _) ?_)
        | (refine wpList_store_made rfl 26 (.tmp 9) (.tmp 29) rfl w2 _ (nC (add256 A B) 4) rfl rfl 26 (nC 0 0) (by kernel_rfl) (infoN _ _) (by simp [nC_size]) (nC_one _ _) ?_; intro v2 A9 K2; replace K2 := Lib.hid ((Grown.kept k2).trans K2.out); replace A5 := Lib.hid (A5.out.kept K2.out); replace A6 := Lib.hid (A6.out.kept K2.out); replace AK := Lib.hid (AK.out.trans K2.out); replace B7 := Lib.hid (bits_kept _ _ _ K2.out B7.out); replace B8 := Lib.hid (bits_kept _ _ _ K2.out B8.out); clear K2)
        | (refine wpList_store_made rfl 26 (.tmp 13) (.tmp 41) rfl w4 _ (nC (sub256 A B) 4) rfl rfl 26 (nC 0 0) (by kernel_rfl) (infoN _ _) (by simp [nC_size]) (nC_one _ _) ?_; intro v4 A13 K4; replace K4 := Lib.hid ((Grown.kept k4).trans K4.out); replace A5 := Lib.hid (A5.out.kept K4.out); replace A6 := Lib.hid (A6.out.kept K4.out); replace A9 := Lib.hid (A9.out.kept K4.out); replace AK := Lib.hid (AK.out.trans K4.out); replace B7 := Lib.hid (bits_kept _ _ _ K4.out B7.out); replace B8 := Lib.hid (bits_kept _ _ _ K4.out B8.out); replace B11 := Lib.hid (bits_kept _ _ _ K4.out B11.out); clear K4))
      generalize w2.heap.size = g9 at A9 ⊢
      generalize w4.heap.size = g13 at A13 ⊢
      clear C1 C2 C3 C4 k2 k4
      generalize add256 A B = S at A9 B11 ⊢
      generalize sub256 A B = D at A13 B15 ⊢
      generalize over A B = p1
      generalize under A B = p2
      refine unpark ?_
      refine wpList_table 17 [(49, .is (.agg (nC S 4))), (50, .is (.agg (bC 32 (be 32 S)))), (51, .is (ua)), (52, .is (.agg (bC 32 (be 32 S)))), (53, .is (.bool true)), (54, .is (.bool true)), (55, .is (.bool p1)), (56, .is (.bool p1)), (57, .is (.bool true)), (58, .is (.bool true)), (59, .is (.bool true)), (60, .is (.agg (nC D 4))), (61, .is (.agg (bC 32 (be 32 D)))), (62, .is (ub)), (63, .is (.agg (bC 32 (be 32 D)))), (64, .is (.bool true)), (65, .is (.bool true))] (by kernel_rfl) ?_ ?_
      · refine ⟨fun t w1 hf hk hp => ?_, ?_⟩
        · have h9 : slot t 9 = .pointer (some ⟨g9, 0, none⟩) := hf 9 (by kernel_rfl)
          clear hf hp
          refine stepAt_plain rfl ?_
          have hq0 := Rowz.load (A9.out.kept hk) 4 24 Try.underlying26 (infoN _ _)
          exact stepOK_sem (.agg (nC S 4)) (by simp only [execOp, evS, h9]) hq0 rfl
        refine ⟨fun t w1 hf hk hp => ?_, ?_⟩
        · have h49 : slot t 49 = .agg (nC S 4) := hp 49 (by kernel_rfl)
          clear hf hp
          refine stepAt_plain rfl ?_
          refine stepOK_call #[.agg (nC S 4)] rfl (by simp only [List.map_toArray, List.map_cons, List.map_nil, evS, h49]) (by go_simp) ((wideHash_any _ w1).mono fun e w' ⟨he, hk'⟩ => ⟨_, he, hk', rfl⟩)
        refine ⟨fun t w1 hf hk hp => ?_, ?_⟩
        · have h11 : slot t 11 = ua := hf 11 (by kernel_rfl)
          clear hf hp
          refine stepAt_plain rfl ?_
          exact stepOK_move _ (.inl rfl) h11
        refine ⟨fun t w1 hf hk hp => ?_, ?_⟩
        · have h51 : slot t 51 = ua := hp 51 (by kernel_rfl)
          clear hf hp
          refine stepAt_plain rfl ?_
          refine stepOK_call #[ua] rfl (by simp only [List.map_toArray, List.map_cons, List.map_nil, evS, h51]) (by go_simp) ((refHash4_any _ _ w1 (bits_kept _ _ _ hk B11.out)).mono fun e w' ⟨he, hk'⟩ => ⟨_, he, hk', rfl⟩)
        refine ⟨fun t w1 hf hk hp => ?_, ?_⟩
        · have h50 : slot t 50 = .agg (bC 32 (be 32 S)) := hp 50 (by kernel_rfl)
          have h52 : slot t 52 = .agg (bC 32 (be 32 S)) := hp 52 (by kernel_rfl)
          clear hf hp
          refine stepAt_plain rfl ?_
          exact stepOK_pure (.bool true) (execEqH (be 32 S) (be_length 32 _) w1 rfl h50 h52) rfl
        refine ⟨fun t w1 hf hk hp => ?_, ?_⟩
        · have h53 : slot t 53 = .bool true := hp 53 (by kernel_rfl)
          clear hf hp
          refine stepAt_plain rfl ?_
          exact stepOK_move _ (.inl rfl) h53
        refine ⟨fun t w1 hf hk hp => ?_, ?_⟩
        · have h10 : slot t 10 = .bool p1 := hf 10 (by kernel_rfl)
          have h54 : slot t 54 = .bool true := hp 54 (by kernel_rfl)
          clear hf hp
          refine stepAt_on 54 true (by kernel_rfl) h54 ?_
          exact stepOK_move _ (.inl rfl) h10
        refine ⟨fun t w1 hf hk hp => ?_, ?_⟩
        · have h12 : slot t 12 = .bool p1 := hf 12 (by kernel_rfl)
          have h54 : slot t 54 = .bool true := hp 54 (by kernel_rfl)
          clear hf hp
          refine stepAt_on 54 true (by kernel_rfl) h54 ?_
          exact stepOK_move _ (.inl rfl) h12
        refine ⟨fun t w1 hf hk hp => ?_, ?_⟩
        · have h55 : slot t 55 = .bool p1 := hp 55 (by kernel_rfl)
          have h56 : slot t 56 = .bool p1 := hp 56 (by kernel_rfl)
          have h54 : slot t 54 = .bool true := hp 54 (by kernel_rfl)
          clear hf hp
          refine stepAt_on 54 true (by kernel_rfl) h54 ?_
          refine stepOK_pure (.bool true) ?_ rfl
          simp only [execOp, evS, h55, h56]
          go_simp
        refine ⟨fun t w1 hf hk hp => ?_, ?_⟩
        · have h54 : slot t 54 = .bool true := hp 54 (by kernel_rfl)
          have h57 : slot t 57 = .bool true := hp 57 (by kernel_rfl)
          clear hf hp
          refine stepAt_plain rfl ?_
          refine stepOK_pure (.bool true) ?_ rfl
          simp only [execOp, evS, h54, h57]
          go_simp
        refine ⟨fun t w1 hf hk hp => ?_, ?_⟩
        · have h58 : slot t 58 = .bool true := hp 58 (by kernel_rfl)
          clear hf hp
          refine stepAt_plain rfl ?_
          exact stepOK_move _ (.inl rfl) h58
        refine ⟨fun t w1 hf hk hp => ?_, ?_⟩
        · have h13 : slot t 13 = .pointer (some ⟨g13, 0, none⟩) := hf 13 (by kernel_rfl)
          have h59 : slot t 59 = .bool true := hp 59 (by kernel_rfl)
          clear hf hp
          refine stepAt_on 59 true (by kernel_rfl) h59 ?_
          have hq0 := Rowz.load (A13.out.kept hk) 4 24 Try.underlying26 (infoN _ _)
          exact stepOK_sem (.agg (nC D 4)) (by simp only [execOp, evS, h13]) hq0 rfl
        refine ⟨fun t w1 hf hk hp => ?_, ?_⟩
        · have h60 : slot t 60 = .agg (nC D 4) := hp 60 (by kernel_rfl)
          have h59 : slot t 59 = .bool true := hp 59 (by kernel_rfl)
          clear hf hp
          refine stepAt_on 59 true (by kernel_rfl) h59 ?_
          refine stepOK_call #[.agg (nC D 4)] rfl (by simp only [List.map_toArray, List.map_cons, List.map_nil, evS, h60]) (by go_simp) ((wideHash_any _ w1).mono fun e w' ⟨he, hk'⟩ => ⟨_, he, hk', rfl⟩)
        refine ⟨fun t w1 hf hk hp => ?_, ?_⟩
        · have h15 : slot t 15 = ub := hf 15 (by kernel_rfl)
          have h59 : slot t 59 = .bool true := hp 59 (by kernel_rfl)
          clear hf hp
          refine stepAt_on 59 true (by kernel_rfl) h59 ?_
          exact stepOK_move _ (.inl rfl) h15
        refine ⟨fun t w1 hf hk hp => ?_, ?_⟩
        · have h62 : slot t 62 = ub := hp 62 (by kernel_rfl)
          have h59 : slot t 59 = .bool true := hp 59 (by kernel_rfl)
          clear hf hp
          refine stepAt_on 59 true (by kernel_rfl) h59 ?_
          refine stepOK_call #[ub] rfl (by simp only [List.map_toArray, List.map_cons, List.map_nil, evS, h62]) (by go_simp) ((refHash4_any _ _ w1 (bits_kept _ _ _ hk B15.out)).mono fun e w' ⟨he, hk'⟩ => ⟨_, he, hk', rfl⟩)
        refine ⟨fun t w1 hf hk hp => ?_, ?_⟩
        · have h61 : slot t 61 = .agg (bC 32 (be 32 D)) := hp 61 (by kernel_rfl)
          have h63 : slot t 63 = .agg (bC 32 (be 32 D)) := hp 63 (by kernel_rfl)
          have h59 : slot t 59 = .bool true := hp 59 (by kernel_rfl)
          clear hf hp
          refine stepAt_on 59 true (by kernel_rfl) h59 ?_
          exact stepOK_pure (.bool true) (execEqH (be 32 D) (be_length 32 _) w1 rfl h61 h63) rfl
        refine ⟨fun t w1 hf hk hp => ?_, ?_⟩
        · have h59 : slot t 59 = .bool true := hp 59 (by kernel_rfl)
          have h64 : slot t 64 = .bool true := hp 64 (by kernel_rfl)
          clear hf hp
          refine stepAt_plain rfl ?_
          refine stepOK_pure (.bool true) ?_ rfl
          simp only [execOp, evS, h59, h64]
          go_simp
        exact trivial
      · intro t w1 hsz hf hk hfacts
        have h65 : slot t 65 = .bool true := hfacts 65 (by kernel_rfl)
        have h5 : slot t 5 = .pointer (some ⟨g5, 0, none⟩) := hf 5 (by kernel_rfl)
        have h6 : slot t 6 = .pointer (some ⟨g6, 0, none⟩) := hf 6 (by kernel_rfl)
        have h7 : slot t 7 = v7 := hf 7 (by kernel_rfl)
        have h8 : slot t 8 = v8 := hf 8 (by kernel_rfl)
        have h9 : slot t 9 = .pointer (some ⟨g9, 0, none⟩) := hf 9 (by kernel_rfl)
        have h10 : slot t 10 = .bool p1 := hf 10 (by kernel_rfl)
        have h11 : slot t 11 = ua := hf 11 (by kernel_rfl)
        have h12 : slot t 12 = .bool p1 := hf 12 (by kernel_rfl)
        have h13 : slot t 13 = .pointer (some ⟨g13, 0, none⟩) := hf 13 (by kernel_rfl)
        have h14 : slot t 14 = .bool p2 := hf 14 (by kernel_rfl)
        have h15 : slot t 15 = ub := hf 15 (by kernel_rfl)
        have h16 : slot t 16 = .bool p2 := hf 16 (by kernel_rfl)
        have harr : t = #[slot t 0, slot t 1, slot t 2, slot t 3, slot t 4, slot t 5, slot t 6, slot t 7, slot t 8, slot t 9, slot t 10, slot t 11, slot t 12, slot t 13, slot t 14, slot t 15, slot t 16, slot t 17, slot t 18, slot t 19, slot t 20, slot t 21, slot t 22, slot t 23, slot t 24, slot t 25, slot t 26, slot t 27, slot t 28, slot t 29, slot t 30, slot t 31, slot t 32, slot t 33, slot t 34, slot t 35, slot t 36, slot t 37, slot t 38, slot t 39, slot t 40, slot t 41, slot t 42, slot t 43, slot t 44, slot t 45, slot t 46, slot t 47, slot t 48, slot t 49, slot t 50, slot t 51, slot t 52, slot t 53, slot t 54, slot t 55, slot t 56, slot t 57, slot t 58, slot t 59, slot t 60, slot t 61, slot t 62, slot t 63, slot t 64, slot t 65, slot t 66, slot t 67, slot t 68, slot t 69, slot t 70, slot t 71, slot t 72, slot t 73, slot t 74, slot t 75, slot t 76, slot t 77, slot t 78, slot t 79, slot t 80, slot t 81, slot t 82] := arr_eq t 83 hsz
        rw [harr, h65, h5, h6, h7, h8, h9, h10, h11, h12, h13, h14, h15, h16]
        clear harr hfacts hf h65 h5 h6 h7 h8 h9 h10 h11 h12 h13 h14 h15 h16
        generalize slot t 0 = x0; generalize slot t 1 = x1; generalize slot t 2 = x2; generalize slot t 3 = x3; generalize slot t 4 = x4; generalize slot t 17 = x17; generalize slot t 18 = x18; generalize slot t 19 = x19; generalize slot t 20 = x20; generalize slot t 21 = x21; generalize slot t 22 = x22; generalize slot t 23 = x23
        generalize slot t 24 = x24; generalize slot t 25 = x25; generalize slot t 26 = x26; generalize slot t 27 = x27; generalize slot t 28 = x28; generalize slot t 29 = x29; generalize slot t 30 = x30; generalize slot t 31 = x31; generalize slot t 32 = x32; generalize slot t 33 = x33; generalize slot t 34 = x34; generalize slot t 35 = x35
        generalize slot t 36 = x36; generalize slot t 37 = x37; generalize slot t 38 = x38; generalize slot t 39 = x39; generalize slot t 40 = x40; generalize slot t 41 = x41; generalize slot t 42 = x42; generalize slot t 43 = x43; generalize slot t 44 = x44; generalize slot t 45 = x45; generalize slot t 46 = x46; generalize slot t 47 = x47
        generalize slot t 48 = x48; generalize slot t 49 = x49; generalize slot t 50 = x50; generalize slot t 51 = x51; generalize slot t 52 = x52; generalize slot t 53 = x53; generalize slot t 54 = x54; generalize slot t 55 = x55; generalize slot t 56 = x56; generalize slot t 57 = x57; generalize slot t 58 = x58; generalize slot t 59 = x59
        generalize slot t 60 = x60; generalize slot t 61 = x61; generalize slot t 62 = x62; generalize slot t 63 = x63; generalize slot t 64 = x64; generalize slot t 66 = x66; generalize slot t 67 = x67; generalize slot t 68 = x68; generalize slot t 69 = x69; generalize slot t 70 = x70; generalize slot t 71 = x71; generalize slot t 72 = x72
        generalize slot t 73 = x73; generalize slot t 74 = x74; generalize slot t 75 = x75; generalize slot t 76 = x76; generalize slot t 77 = x77; generalize slot t 78 = x78; generalize slot t 79 = x79; generalize slot t 80 = x80; generalize slot t 81 = x81; generalize slot t 82 = x82
        clear hsz t
        simp only [List.drop_succ_cons, List.drop_zero]
        have A5 := Lib.hid (A5.out.kept hk)
        have A6 := Lib.hid (A6.out.kept hk)
        have AK := Lib.hid (AK.out.trans hk)
        have B7 := Lib.hid (bits_kept _ _ _ hk B7.out)
        have B8 := Lib.hid (bits_kept _ _ _ hk B8.out)
        clear hk A9 A13 B11 B15
        refine wpList_table 18 [(66, .is (.bool true)), (67, .is (.bool p2)), (68, .is (.bool p2)), (69, .is (.bool true)), (70, .is (.bool true)), (71, .is (.bool true)), (72, .is (.agg (nC A 4))), (73, .is (.agg (nC B 4))), (74, .is (.int .i64 (cmpN A B))), (75, .is (v7)), (76, .is (v8)), (77, .is (.int .i64 (cmpN A B))), (78, .is (.bool true)), (79, .is (.bool true)), (80, .is (.bool true)), (81, .is (.bool true)), (82, .is (.bool true)), (4, .is (.bool true))] (by kernel_rfl) ?_ ?_
        · refine ⟨fun t w1 hf hk hp => ?_, ?_⟩
          · have h65 : slot t 65 = .bool true := hf 65 (by kernel_rfl)
            clear hf hp
            refine stepAt_plain rfl ?_
            exact stepOK_move _ (.inl rfl) h65
          refine ⟨fun t w1 hf hk hp => ?_, ?_⟩
          · have h14 : slot t 14 = .bool p2 := hf 14 (by kernel_rfl)
            have h66 : slot t 66 = .bool true := hp 66 (by kernel_rfl)
            clear hf hp
            refine stepAt_on 66 true (by kernel_rfl) h66 ?_
            exact stepOK_move _ (.inl rfl) h14
          refine ⟨fun t w1 hf hk hp => ?_, ?_⟩
          · have h16 : slot t 16 = .bool p2 := hf 16 (by kernel_rfl)
            have h66 : slot t 66 = .bool true := hp 66 (by kernel_rfl)
            clear hf hp
            refine stepAt_on 66 true (by kernel_rfl) h66 ?_
            exact stepOK_move _ (.inl rfl) h16
          refine ⟨fun t w1 hf hk hp => ?_, ?_⟩
          · have h67 : slot t 67 = .bool p2 := hp 67 (by kernel_rfl)
            have h68 : slot t 68 = .bool p2 := hp 68 (by kernel_rfl)
            have h66 : slot t 66 = .bool true := hp 66 (by kernel_rfl)
            clear hf hp
            refine stepAt_on 66 true (by kernel_rfl) h66 ?_
            refine stepOK_pure (.bool true) ?_ rfl
            simp only [execOp, evS, h67, h68]
            go_simp
          refine ⟨fun t w1 hf hk hp => ?_, ?_⟩
          · have h66 : slot t 66 = .bool true := hp 66 (by kernel_rfl)
            have h69 : slot t 69 = .bool true := hp 69 (by kernel_rfl)
            clear hf hp
            refine stepAt_plain rfl ?_
            refine stepOK_pure (.bool true) ?_ rfl
            simp only [execOp, evS, h66, h69]
            go_simp
          refine ⟨fun t w1 hf hk hp => ?_, ?_⟩
          · have h70 : slot t 70 = .bool true := hp 70 (by kernel_rfl)
            clear hf hp
            refine stepAt_plain rfl ?_
            exact stepOK_move _ (.inl rfl) h70
          refine ⟨fun t w1 hf hk hp => ?_, ?_⟩
          · have h5 : slot t 5 = .pointer (some ⟨g5, 0, none⟩) := hf 5 (by kernel_rfl)
            have h71 : slot t 71 = .bool true := hp 71 (by kernel_rfl)
            clear hf hp
            refine stepAt_on 71 true (by kernel_rfl) h71 ?_
            have hq0 := Rowz.load (A5.out.kept hk) 4 24 Try.underlying26 (infoN _ _)
            exact stepOK_sem (.agg (nC A 4)) (by simp only [execOp, evS, h5]) hq0 rfl
          refine ⟨fun t w1 hf hk hp => ?_, ?_⟩
          · have h6 : slot t 6 = .pointer (some ⟨g6, 0, none⟩) := hf 6 (by kernel_rfl)
            have h71 : slot t 71 = .bool true := hp 71 (by kernel_rfl)
            clear hf hp
            refine stepAt_on 71 true (by kernel_rfl) h71 ?_
            have hq0 := Rowz.load (A6.out.kept hk) 4 24 Try.underlying26 (infoN _ _)
            exact stepOK_sem (.agg (nC B 4)) (by simp only [execOp, evS, h6]) hq0 rfl
          refine ⟨fun t w1 hf hk hp => ?_, ?_⟩
          · have h72 : slot t 72 = .agg (nC A 4) := hp 72 (by kernel_rfl)
            have h73 : slot t 73 = .agg (nC B 4) := hp 73 (by kernel_rfl)
            have h71 : slot t 71 = .bool true := hp 71 (by kernel_rfl)
            clear hf hp
            refine stepAt_on 71 true (by kernel_rfl) h71 ?_
            refine stepOK_call #[.agg (nC A 4), .agg (nC B 4)] rfl (by simp only [List.map_toArray, List.map_cons, List.map_nil, evS, h72, h73]) (by go_simp) ((wideCmp_any A B w1 HA.out HB.out).mono fun e w' ⟨he, hk'⟩ => ⟨_, he, Grown.kept hk', rfl⟩)
          refine ⟨fun t w1 hf hk hp => ?_, ?_⟩
          · have h7 : slot t 7 = v7 := hf 7 (by kernel_rfl)
            have h71 : slot t 71 = .bool true := hp 71 (by kernel_rfl)
            clear hf hp
            refine stepAt_on 71 true (by kernel_rfl) h71 ?_
            exact stepOK_move _ (.inl rfl) h7
          refine ⟨fun t w1 hf hk hp => ?_, ?_⟩
          · have h8 : slot t 8 = v8 := hf 8 (by kernel_rfl)
            have h71 : slot t 71 = .bool true := hp 71 (by kernel_rfl)
            clear hf hp
            refine stepAt_on 71 true (by kernel_rfl) h71 ?_
            exact stepOK_move _ (.inl rfl) h8
          refine ⟨fun t w1 hf hk hp => ?_, ?_⟩
          · have h75 : slot t 75 = v7 := hp 75 (by kernel_rfl)
            have h76 : slot t 76 = v8 := hp 76 (by kernel_rfl)
            have h71 : slot t 71 = .bool true := hp 71 (by kernel_rfl)
            clear hf hp
            refine stepAt_on 71 true (by kernel_rfl) h71 ?_
            refine stepOK_call #[v7, v8] rfl (by simp only [List.map_toArray, List.map_cons, List.map_nil, evS, h75, h76]) (by go_simp) ((refCmp4_any A B _ _ w1 (bits_kept _ _ _ hk B7.out) (bits_kept _ _ _ hk B8.out) HA.out HB.out).mono fun e w' ⟨he, hk'⟩ => ⟨_, he, hk', rfl⟩)
          refine ⟨fun t w1 hf hk hp => ?_, ?_⟩
          · have h74 : slot t 74 = .int .i64 (cmpN A B) := hp 74 (by kernel_rfl)
            have h77 : slot t 77 = .int .i64 (cmpN A B) := hp 77 (by kernel_rfl)
            have h71 : slot t 71 = .bool true := hp 71 (by kernel_rfl)
            clear hf hp
            refine stepAt_on 71 true (by kernel_rfl) h71 ?_
            refine stepOK_pure (.bool true) ?_ rfl
            simp only [execOp, evS, h74, h77]
            go_simp
          refine ⟨fun t w1 hf hk hp => ?_, ?_⟩
          · have h71 : slot t 71 = .bool true := hp 71 (by kernel_rfl)
            have h78 : slot t 78 = .bool true := hp 78 (by kernel_rfl)
            clear hf hp
            refine stepAt_plain rfl ?_
            refine stepOK_pure (.bool true) ?_ rfl
            simp only [execOp, evS, h71, h78]
            go_simp
          refine ⟨fun t w1 hf hk hp => ?_, ?_⟩
          · have h79 : slot t 79 = .bool true := hp 79 (by kernel_rfl)
            clear hf hp
            refine stepAt_plain rfl ?_
            exact stepOK_move _ (.inl rfl) h79
          refine ⟨fun t w1 hf hk hp => ?_, ?_⟩
          · have h80 : slot t 80 = .bool true := hp 80 (by kernel_rfl)
            clear hf hp
            refine stepAt_on 80 true (by kernel_rfl) h80 ?_
            refine stepOK_call #[] rfl (by simp only [List.map_toArray, List.map_nil]) (by go_simp) ((awake4_any w1).mono fun e w' ⟨he, hk'⟩ => ⟨_, he, hk', rfl⟩)
          refine ⟨fun t w1 hf hk hp => ?_, ?_⟩
          · have h80 : slot t 80 = .bool true := hp 80 (by kernel_rfl)
            have h81 : slot t 81 = .bool true := hp 81 (by kernel_rfl)
            clear hf hp
            refine stepAt_plain rfl ?_
            refine stepOK_pure (.bool true) ?_ rfl
            simp only [execOp, evS, h80, h81]
            go_simp
          refine ⟨fun t w1 hf hk hp => ?_, ?_⟩
          · have h82 : slot t 82 = .bool true := hp 82 (by kernel_rfl)
            clear hf hp
            refine stepAt_plain rfl ?_
            exact stepOK_move _ (.inr rfl) h82
          exact trivial
        · intro t w1 hsz hf hk hfacts
          have h4 : slot t 4 = .bool true := hfacts 4 (by kernel_rfl)
          have h5 : slot t 5 = .pointer (some ⟨g5, 0, none⟩) := hf 5 (by kernel_rfl)
          have h6 : slot t 6 = .pointer (some ⟨g6, 0, none⟩) := hf 6 (by kernel_rfl)
          have h7 : slot t 7 = v7 := hf 7 (by kernel_rfl)
          have h8 : slot t 8 = v8 := hf 8 (by kernel_rfl)
          have h9 : slot t 9 = .pointer (some ⟨g9, 0, none⟩) := hf 9 (by kernel_rfl)
          have h10 : slot t 10 = .bool p1 := hf 10 (by kernel_rfl)
          have h11 : slot t 11 = ua := hf 11 (by kernel_rfl)
          have h12 : slot t 12 = .bool p1 := hf 12 (by kernel_rfl)
          have h13 : slot t 13 = .pointer (some ⟨g13, 0, none⟩) := hf 13 (by kernel_rfl)
          have h14 : slot t 14 = .bool p2 := hf 14 (by kernel_rfl)
          have h15 : slot t 15 = ub := hf 15 (by kernel_rfl)
          have h16 : slot t 16 = .bool p2 := hf 16 (by kernel_rfl)
          have h65 : slot t 65 = .bool true := hf 65 (by kernel_rfl)
          have harr : t = #[slot t 0, slot t 1, slot t 2, slot t 3, slot t 4, slot t 5, slot t 6, slot t 7, slot t 8, slot t 9, slot t 10, slot t 11, slot t 12, slot t 13, slot t 14, slot t 15, slot t 16, slot t 17, slot t 18, slot t 19, slot t 20, slot t 21, slot t 22, slot t 23, slot t 24, slot t 25, slot t 26, slot t 27, slot t 28, slot t 29, slot t 30, slot t 31, slot t 32, slot t 33, slot t 34, slot t 35, slot t 36, slot t 37, slot t 38, slot t 39, slot t 40, slot t 41, slot t 42, slot t 43, slot t 44, slot t 45, slot t 46, slot t 47, slot t 48, slot t 49, slot t 50, slot t 51, slot t 52, slot t 53, slot t 54, slot t 55, slot t 56, slot t 57, slot t 58, slot t 59, slot t 60, slot t 61, slot t 62, slot t 63, slot t 64, slot t 65, slot t 66, slot t 67, slot t 68, slot t 69, slot t 70, slot t 71, slot t 72, slot t 73, slot t 74, slot t 75, slot t 76, slot t 77, slot t 78, slot t 79, slot t 80, slot t 81, slot t 82] := arr_eq t 83 hsz
          rw [harr, h4, h5, h6, h7, h8, h9, h10, h11, h12, h13, h14, h15, h16, h65]
          clear harr hfacts hf h4 h5 h6 h7 h8 h9 h10 h11 h12 h13 h14 h15 h16 h65
          generalize slot t 0 = x0; generalize slot t 1 = x1; generalize slot t 2 = x2; generalize slot t 3 = x3; generalize slot t 17 = x17; generalize slot t 18 = x18; generalize slot t 19 = x19; generalize slot t 20 = x20; generalize slot t 21 = x21; generalize slot t 22 = x22; generalize slot t 23 = x23; generalize slot t 24 = x24
          generalize slot t 25 = x25; generalize slot t 26 = x26; generalize slot t 27 = x27; generalize slot t 28 = x28; generalize slot t 29 = x29; generalize slot t 30 = x30; generalize slot t 31 = x31; generalize slot t 32 = x32; generalize slot t 33 = x33; generalize slot t 34 = x34; generalize slot t 35 = x35; generalize slot t 36 = x36
          generalize slot t 37 = x37; generalize slot t 38 = x38; generalize slot t 39 = x39; generalize slot t 40 = x40; generalize slot t 41 = x41; generalize slot t 42 = x42; generalize slot t 43 = x43; generalize slot t 44 = x44; generalize slot t 45 = x45; generalize slot t 46 = x46; generalize slot t 47 = x47; generalize slot t 48 = x48
          generalize slot t 49 = x49; generalize slot t 50 = x50; generalize slot t 51 = x51; generalize slot t 52 = x52; generalize slot t 53 = x53; generalize slot t 54 = x54; generalize slot t 55 = x55; generalize slot t 56 = x56; generalize slot t 57 = x57; generalize slot t 58 = x58; generalize slot t 59 = x59; generalize slot t 60 = x60
          generalize slot t 61 = x61; generalize slot t 62 = x62; generalize slot t 63 = x63; generalize slot t 64 = x64; generalize slot t 66 = x66; generalize slot t 67 = x67; generalize slot t 68 = x68; generalize slot t 69 = x69; generalize slot t 70 = x70; generalize slot t 71 = x71; generalize slot t 72 = x72; generalize slot t 73 = x73
          generalize slot t 74 = x74; generalize slot t 75 = x75; generalize slot t 76 = x76; generalize slot t 77 = x77; generalize slot t 78 = x78; generalize slot t 79 = x79; generalize slot t 80 = x80; generalize slot t 81 = x81; generalize slot t 82 = x82
          clear hsz t
          simp only [List.drop_succ_cons, List.drop_zero]
          go_wp2
          go_ret
          exact ⟨rfl, AK.out.trans hk⟩

set_option maxRecDepth 100000 in
set_option maxHeartbeats 1000000 in
theorem lifted (os : Os) (started : os.Started) (H : Type) (enc : TypeId × Value → H) :
    ReturnsInHanded {} Try.checked os 4 .any (Rows.wideAddsSpec.pre6 enc Try.prog Try.f4 Rows.wideAddsRow.domain false) (Rows.wideAddsSpec.post enc Try.prog Try.f4 false true false false) := by
  refine returnsInHanded_of_change_sized (C := Try.checked) own started (by kernel_rfl) Try.func4
    (ChangeSpec.witness6 (enc := enc) (C := Try.checked) false ⟨#[], #[.agg #[.int .u8 0, .int .u8 0, .int .u8 0, .int .u8 0, .int .u8 0, .int .u8 0, .int .u8 0, .int .u8 0, .int .u8 0, .int .u8 0, .int .u8 0, .int .u8 0, .int .u8 0, .int .u8 0, .int .u8 0, .int .u8 0, .int .u8 0, .int .u8 0, .int .u8 0, .int .u8 0, .int .u8 0, .int .u8 0, .int .u8 0, .int .u8 0, .int .u8 0, .int .u8 0, .int .u8 0, .int .u8 0, .int .u8 0, .int .u8 0, .int .u8 0, .int .u8 0], .agg #[.int .u8 0, .int .u8 0, .int .u8 0, .int .u8 0, .int .u8 0, .int .u8 0, .int .u8 0, .int .u8 0, .int .u8 0, .int .u8 0, .int .u8 0, .int .u8 0, .int .u8 0, .int .u8 0, .int .u8 0, .int .u8 0, .int .u8 0, .int .u8 0, .int .u8 0, .int .u8 0, .int .u8 0, .int .u8 0, .int .u8 0, .int .u8 0, .int .u8 0, .int .u8 0, .int .u8 0, .int .u8 0, .int .u8 0, .int .u8 0, .int .u8 0, .int .u8 0]], []⟩ 8 (by kernel_rfl) (by kernel_rfl) (by kernel_rfl) (by kernel_rfl)) ?_
  intro W base args ds gs before hval0 hW hcnd hsz0 _
  have hval : ∀ (j : Nat) t v, Try.f4.params[j]? = some t → args[j]? = some v → Value.okWide Try.prog W .any base t v := hval0
  have hsz : (DataW.weightsEach Try.prog (Try.f4.params.toList ++ Rows.wideAddsSpec.plain.varTypes Try.prog) (ds ++ gs)).all (· ≤ reachBytes) = true := hsz0
  have hW' := hW
  obtain ⟨p, q, hA0, hV, rfl, hfz, hnd⟩ := hW
  have hA : DataW.TrodAll enc Try.prog W 0 (fun _ => true) true Try.f4.params.toList args.toList ds p := hA0
  have hAk := hA
  rw [Try.params4] at hA hval hsz
  obtain ⟨v0, vs0, d0, ds0, p0_, q0_, hargs, rfl, rfl, h0, r0_⟩ := trodAll_cons hA
  obtain ⟨v1, vs1, d1, ds1, p1_, q1_, rfl, rfl, rfl, h1, r1_⟩ := trodAll_cons r0_
  obtain ⟨rfl, rfl, rfl⟩ := trodAll_nil r1_
  obtain rfl : args = #[v0, v1] := by cases args; simp_all
  obtain ⟨rfl, rfl⟩ := trodVars_none hV
  have hlt : ∀ x ∈ (p0_ ++ (p1_ ++ ([]))), x.block < W.heap.size := fun x hx => by simpa using hW'.lt x (by simpa using hx)
  obtain ⟨cs0, rfl⟩ : ∃ cs, v0 = .agg cs := by
    have := hval 0 23 v0 rfl rfl
    simp only [Value.okWide, Try.underlying23] at this
    obtain ⟨cs, h, _⟩ := this
    exact ⟨cs, h⟩
  obtain ⟨a0, n0, rfl⟩ := open_hash Try.underlying23 Try.underlying5 (by kernel_rfl) (by kernel_rfl) h0
  obtain ⟨cs1, rfl⟩ : ∃ cs, v1 = .agg cs := by
    have := hval 1 23 v1 rfl rfl
    simp only [Value.okWide, Try.underlying23] at this
    obtain ⟨cs, h, _⟩ := this
    exact ⟨cs, h⟩
  obtain ⟨a1, n1, rfl⟩ := open_hash Try.underlying23 Try.underlying5 (by kernel_rfl) (by kernel_rfl) h1
  clear hA0 hval0
  refine (walk a0 n0 a1 n1 W ).mono fun e W' ⟨he, hg⟩ => ?_
  subst he
  exact ⟨_, rfl, ⟨_, _, _, [], _, [], hW', trodAll_cons_mk (shut_bool Try.underlying4 _) trodAll_mk0, trodAll_stays laidOut hg (by kernel_rfl) hAk hlt (fun x hx => by simpa using hlt x hx), rfl, Kept.frame hg _, fun h => by cases h⟩⟩

theorem over : Rows.wideAddsRow.holds Try.pinned (OpenSpec.ofChange Rows.wideAddsSpec) :=
  OpenClaim.holds_of_wide 4 Try.f4 rfl rfl rfl rfl rfl rfl rfl ⟨rfl, rfl, rfl, rfl, rfl⟩ rfl rfl rfl rfl rfl (by kernel_rfl) Try.func4 (by kernel_rfl)
    (of_decide_eq_true (by kernel_rfl)) (by unfold Func.isWrapper; first | (rw [if_pos (by decide +kernel)]; kernel_rfl) | (rw [if_neg (by decide +kernel)]; exact ⟨rfl, rfl⟩))
    (fun os started H enc _ => lifted os started H enc)
end Go.Proofs.Ytpgmnkmbekikeaa.wideAdds
namespace Go.Proofs.Ytpgmnkmbekikeaa
theorem wideAdds_holds : Rows.WideAddsSaid := wideAdds.over
#print axioms wideAdds_holds
end Go.Proofs.Ytpgmnkmbekikeaa
