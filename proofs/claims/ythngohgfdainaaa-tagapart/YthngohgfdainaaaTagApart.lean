/-
  Texts of different kinds are different, and texts of one kind are equal if and only if their parts are, for every two strings, four hashes and two numbers; the law's examples hold: 'TagApart' returns true for every input.
  Conditions: none.
-/
import Derived.Test.YthngohgfdainaaaRows
import Derived.Test.YthngohgfdainaaaTagLaw
import Derived.WalkKit
import Derived.ProofKit
import Derived.OpenShut
import Derived.ShutString
import Derived.SizedLaws
import Derived.Test.YthngohgfdainaaaLawLib
namespace Go.Proofs.Ythngohgfdainaaa.tagApart
open Go.ChangeShapes Go.WideShapes Go.ChangeAt Go.RowKit
open Go.ChangeMaps (open_string shut_string)
set_option linter.unusedVariables false

theorem own : ownKnob Try.prog.godebug = none := by kernel_rfl
theorem laidOut : laidOutB Try.prog = true := by kernel_rfl

set_option maxRecDepth 100000 in
set_option maxHeartbeats 4000000 in
theorem walk (S0 : Nat → ByteArray) (r0 : ∀ i, i < 2 → (S0 i).size ≤ 140737488351232) (a1 : List UInt8) (n1 : a1.length = 128) (a2 : List Nat) (n2 : a2.length = 2) (b2 : ∀ x ∈ a2, x < 18446744073709551616) (w : World)  :
    Calls Try.prog 4 #[.agg (sC 2 S0), .agg (bC 128 a1), .agg (qC 2 a2)] w fun e w' => e = .returned (.bool true) ∧ Kept w w' := by
  have H0 := hAt_length a1 0 (by omega)
  have H1 := hAt_length a1 1 (by omega)
  have H2 := hAt_length a1 2 (by omega)
  have H3 := hAt_length a1 3 (by omega)
  have hS0 := r0 0 (by omega)
  have hS1 := r0 1 (by omega)
  obtain ⟨m0, m1, rfl⟩ : ∃ x y, a2 = [x, y] := by
    match a2, n2 with
    | [x, y], _ => exact ⟨x, y, rfl⟩
  have hm0 : m0 < 18446744073709551616 := b2 m0 (by simp)
  have hm1 : m1 < 18446744073709551616 := b2 m1 (by simp)
  have HT := Lib.hid (txt_apart (S0 0) (S0 1) (hAt a1 0) (hAt a1 1) (hAt a1 2) (hAt a1 3) m0 m1 H0 H2 hm0 hm1)
  clear r0 b2 n1 n2
  go_enter Try.func4, Try.ntmps4
  go_wp2_with fail
  have F0 : Hid (Rowz (((w.alloc (.cells (sC 2 S0) 33)).alloc (.cells (bC 128 a1) 34)).alloc (.cells (qC 2 [m0, m1]) 35)) w.heap.size (sC 2 S0) 33) := Lib.hid (((Rowz.new w _ _).alloc _).alloc _)
  have F1 : Hid (Rowz (((w.alloc (.cells (sC 2 S0) 33)).alloc (.cells (bC 128 a1) 34)).alloc (.cells (qC 2 [m0, m1]) 35)) (w.heap.size + 1) (bC 128 a1) 34) := Lib.hid ((Rowz.newEq1 w _ _ _ _ rfl).alloc _)
  have F2 : Hid (Rowz (((w.alloc (.cells (sC 2 S0) 33)).alloc (.cells (bC 128 a1) 34)).alloc (.cells (qC 2 [m0, m1]) 35)) (w.heap.size + 2) (qC 2 [m0, m1]) 35) := Lib.hid (by
    have h := Rowz.new ((w.alloc (.cells (sC 2 S0) 33)).alloc (.cells (bC 128 a1) 34)) (qC 2 [m0, m1]) 35
    simpa using h)
  have FK := Lib.hid ((((Kept.refl w).alloc (.cells (sC 2 S0) 33)).alloc (.cells (bC 128 a1) 34)).alloc (.cells (qC 2 [m0, m1]) 35))
  generalize ((w.alloc (.cells (sC 2 S0) 33)).alloc (.cells (bC 128 a1) 34)).alloc (.cells (qC 2 [m0, m1]) 35) = v at F0 F1 F2 FK ⊢
  generalize w.heap.size = b at F0 F1 F2 ⊢
  refine wp_region_table [(12, .is (.pointer (some ⟨b, 0, none⟩))), (13, .is (.string (S0 0))), (14, .is (.string (leafS (S0 0)))), (15, .is (.pointer (some ⟨b + 1, 0, none⟩))), (16, .is (.agg (bC 32 (hAt a1 0)))), (17, .is (.pointer (some ⟨b + 1, 32, none⟩))), (18, .is (.agg (bC 32 (hAt a1 1)))), (19, .is (.string (nodeS (hAt a1 0) (hAt a1 1)))), (20, .is (.pointer (some ⟨b + 2, 0, none⟩))), (21, .is (.int .u64 m0)), (22, .is (.pointer (some ⟨b + 1, 0, none⟩))), (23, .is (.agg (bC 32 (hAt a1 0)))), (24, .is (.string (rootS m0 (hAt a1 0)))), (25, .is (.pointer (some ⟨b, 0, none⟩))), (26, .is (.string (S0 0))), (27, .is (.string (headS (S0 0)))), (28, .row (sliceAt0 4) (sC 4 (txt (S0 0) (hAt a1 0) (hAt a1 1) m0)) 9), (7, .row (sliceAt0 4) (sC 4 (txt (S0 0) (hAt a1 0) (hAt a1 1) m0)) 9)] (by kernel_rfl) (by kernel_rfl) ?_ ?_
  · refine ⟨fun t w1 hf hk hp => ?_, ?_⟩
    · have h3 : slot t 3 = .pointer (some ⟨b, 0, none⟩) := hf 3 (by kernel_rfl)
      clear hf hp
      refine stepAt_plain rfl ?_
      refine stepOK_pure (.pointer (some ⟨b, 0, none⟩)) ?_ rfl
      simp only [execOp, evS, h3]
      go_simp
    refine ⟨fun t w1 hf hk hp => ?_, ?_⟩
    · have h12 : slot t 12 = .pointer (some ⟨b, 0, none⟩) := hp 12 (by kernel_rfl)
      clear hf hp
      refine stepAt_plain rfl ?_
      have hq0 := ((F0.out.kept hk).cell 0).trans (show (sC 2 S0)[0]? = some (.string (S0 0)) from rfl)
      refine stepOK_pure (.string (S0 0)) ?_ rfl
      simp only [execOp, evS, h12]
      go_simp
    refine ⟨fun t w1 hf hk hp => ?_, ?_⟩
    · have h13 : slot t 13 = .string (S0 0) := hp 13 (by kernel_rfl)
      clear hf hp
      refine stepAt_plain rfl ?_
      refine stepOK_call #[.string (S0 0)] rfl (by simp only [List.map_toArray, List.map_cons, List.map_nil, evS, h13]) (by go_simp) ((tagLeaf_any _ w1 (by omega)).mono fun e w' ⟨he, hk'⟩ => ⟨_, he, hk', rfl⟩)
    refine ⟨fun t w1 hf hk hp => ?_, ?_⟩
    · have h4 : slot t 4 = .pointer (some ⟨b + 1, 0, none⟩) := hf 4 (by kernel_rfl)
      clear hf hp
      refine stepAt_plain rfl ?_
      refine stepOK_pure (.pointer (some ⟨b + 1, 0, none⟩)) ?_ rfl
      simp only [execOp, evS, h4]
      go_simp
    refine ⟨fun t w1 hf hk hp => ?_, ?_⟩
    · have h15 : slot t 15 = .pointer (some ⟨b + 1, 0, none⟩) := hp 15 (by kernel_rfl)
      clear hf hp
      refine stepAt_plain rfl ?_
      have hq0 := load_hash w1 (b + 1) 0 128 _ a1 (F1.out.kept hk) (by omega)
      exact stepOK_sem (.agg (bC 32 (hAt a1 0))) (by simp only [execOp, evS, h15]) hq0 rfl
    refine ⟨fun t w1 hf hk hp => ?_, ?_⟩
    · have h4 : slot t 4 = .pointer (some ⟨b + 1, 0, none⟩) := hf 4 (by kernel_rfl)
      clear hf hp
      refine stepAt_plain rfl ?_
      refine stepOK_pure (.pointer (some ⟨b + 1, 32, none⟩)) ?_ rfl
      simp only [execOp, evS, h4]
      go_simp
    refine ⟨fun t w1 hf hk hp => ?_, ?_⟩
    · have h17 : slot t 17 = .pointer (some ⟨b + 1, 32, none⟩) := hp 17 (by kernel_rfl)
      clear hf hp
      refine stepAt_plain rfl ?_
      have hq0 := load_hash w1 (b + 1) 1 128 _ a1 (F1.out.kept hk) (by omega)
      exact stepOK_sem (.agg (bC 32 (hAt a1 1))) (by simp only [execOp, evS, h17]) hq0 rfl
    refine ⟨fun t w1 hf hk hp => ?_, ?_⟩
    · have h16 : slot t 16 = .agg (bC 32 (hAt a1 0)) := hp 16 (by kernel_rfl)
      have h18 : slot t 18 = .agg (bC 32 (hAt a1 1)) := hp 18 (by kernel_rfl)
      clear hf hp
      refine stepAt_plain rfl ?_
      refine stepOK_call #[.agg (bC 32 (hAt a1 0)), .agg (bC 32 (hAt a1 1))] rfl (by simp only [List.map_toArray, List.map_cons, List.map_nil, evS, h16, h18]) (by go_simp) ((tagNode_any _ _ H0 H1 w1).mono fun e w' ⟨he, hk'⟩ => ⟨_, he, hk', rfl⟩)
    refine ⟨fun t w1 hf hk hp => ?_, ?_⟩
    · have h5 : slot t 5 = .pointer (some ⟨b + 2, 0, none⟩) := hf 5 (by kernel_rfl)
      clear hf hp
      refine stepAt_plain rfl ?_
      refine stepOK_pure (.pointer (some ⟨b + 2, 0, none⟩)) ?_ rfl
      simp only [execOp, evS, h5]
      go_simp
    refine ⟨fun t w1 hf hk hp => ?_, ?_⟩
    · have h20 : slot t 20 = .pointer (some ⟨b + 2, 0, none⟩) := hp 20 (by kernel_rfl)
      clear hf hp
      refine stepAt_plain rfl ?_
      have hq0 := ((F2.out.kept hk).cell 0).trans (show (qC 2 [m0, m1])[0]? = some (.int .u64 m0) from rfl)
      refine stepOK_pure (.int .u64 m0) ?_ rfl
      simp only [execOp, evS, h20]
      go_simp
    refine ⟨fun t w1 hf hk hp => ?_, ?_⟩
    · have h4 : slot t 4 = .pointer (some ⟨b + 1, 0, none⟩) := hf 4 (by kernel_rfl)
      clear hf hp
      refine stepAt_plain rfl ?_
      refine stepOK_pure (.pointer (some ⟨b + 1, 0, none⟩)) ?_ rfl
      simp only [execOp, evS, h4]
      go_simp
    refine ⟨fun t w1 hf hk hp => ?_, ?_⟩
    · have h22 : slot t 22 = .pointer (some ⟨b + 1, 0, none⟩) := hp 22 (by kernel_rfl)
      clear hf hp
      refine stepAt_plain rfl ?_
      have hq0 := load_hash w1 (b + 1) 0 128 _ a1 (F1.out.kept hk) (by omega)
      exact stepOK_sem (.agg (bC 32 (hAt a1 0))) (by simp only [execOp, evS, h22]) hq0 rfl
    refine ⟨fun t w1 hf hk hp => ?_, ?_⟩
    · have h21 : slot t 21 = .int .u64 m0 := hp 21 (by kernel_rfl)
      have h23 : slot t 23 = .agg (bC 32 (hAt a1 0)) := hp 23 (by kernel_rfl)
      clear hf hp
      refine stepAt_plain rfl ?_
      refine stepOK_call #[.int .u64 m0, .agg (bC 32 (hAt a1 0))] rfl (by simp only [List.map_toArray, List.map_cons, List.map_nil, evS, h21, h23]) (by go_simp) ((tagRoot_any m0 hm0 _ H0 w1).mono fun e w' ⟨he, hk'⟩ => ⟨_, he, hk', rfl⟩)
    refine ⟨fun t w1 hf hk hp => ?_, ?_⟩
    · have h3 : slot t 3 = .pointer (some ⟨b, 0, none⟩) := hf 3 (by kernel_rfl)
      clear hf hp
      refine stepAt_plain rfl ?_
      refine stepOK_pure (.pointer (some ⟨b, 0, none⟩)) ?_ rfl
      simp only [execOp, evS, h3]
      go_simp
    refine ⟨fun t w1 hf hk hp => ?_, ?_⟩
    · have h25 : slot t 25 = .pointer (some ⟨b, 0, none⟩) := hp 25 (by kernel_rfl)
      clear hf hp
      refine stepAt_plain rfl ?_
      have hq0 := ((F0.out.kept hk).cell 0).trans (show (sC 2 S0)[0]? = some (.string (S0 0)) from rfl)
      refine stepOK_pure (.string (S0 0)) ?_ rfl
      simp only [execOp, evS, h25]
      go_simp
    refine ⟨fun t w1 hf hk hp => ?_, ?_⟩
    · have h26 : slot t 26 = .string (S0 0) := hp 26 (by kernel_rfl)
      clear hf hp
      refine stepAt_plain rfl ?_
      refine stepOK_call #[.string (S0 0)] rfl (by simp only [List.map_toArray, List.map_cons, List.map_nil, evS, h26]) (by go_simp) ((tagHead_any _ w1 (by omega)).mono fun e w' ⟨he, hk'⟩ => ⟨_, he, hk', rfl⟩)
    refine ⟨fun t w1 hf hk hp => ?_, ?_⟩
    · have h14 : slot t 14 = .string (leafS (S0 0)) := hp 14 (by kernel_rfl)
      have h19 : slot t 19 = .string (nodeS (hAt a1 0) (hAt a1 1)) := hp 19 (by kernel_rfl)
      have h24 : slot t 24 = .string (rootS m0 (hAt a1 0)) := hp 24 (by kernel_rfl)
      have h27 : slot t 27 = .string (headS (S0 0)) := hp 27 (by kernel_rfl)
      clear hf hp
      refine stepAt_plain rfl ?_
      have hq0 := run_build4s (leafS (S0 0)) (nodeS (hAt a1 0) (hAt a1 1)) (rootS m0 (hAt a1 0)) (headS (S0 0)) w1
      refine .value ((sliceAt0 4) w1.heap.size) (w1.alloc (.cells (sC 4 (txt (S0 0) (hAt a1 0) (hAt a1 1) m0)) 9)) ?_ ((Kept.refl w1).alloc _) ⟨_, rfl, Rowz.new w1 _ _⟩
      simp only [execOp, evS, List.map_toArray, List.map_cons, List.map_nil, h14, h19, h24, h27, sliceAt0]
      go_simp
      rfl
    refine ⟨fun t w1 hf hk hp => ?_, ?_⟩
    · obtain ⟨g28, h28, r28⟩ : ∃ g, slot t 28 = (sliceAt0 4) g ∧ Rowz w1 g (sC 4 (txt (S0 0) (hAt a1 0) (hAt a1 1) m0)) 9 := hp 28 (by kernel_rfl)
      simp only [sliceAt0] at h28
      clear hf hp
      refine stepAt_plain rfl ?_
      exact stepOK_move _ (.inr rfl) ⟨g28, h28, r28⟩
    exact trivial
  · intro t w1 hsz hf hk hfacts
    obtain ⟨g7, h7, r7⟩ : ∃ g, slot t 7 = (sliceAt0 4) g ∧ Rowz w1 g (sC 4 (txt (S0 0) (hAt a1 0) (hAt a1 1) m0)) 9 := hfacts 17 _ rfl 7 rfl
    simp only [sliceAt0] at h7
    have h3 : slot t 3 = .pointer (some ⟨b, 0, none⟩) := hf 3 (by kernel_rfl)
    have h4 : slot t 4 = .pointer (some ⟨b + 1, 0, none⟩) := hf 4 (by kernel_rfl)
    have h5 : slot t 5 = .pointer (some ⟨b + 2, 0, none⟩) := hf 5 (by kernel_rfl)
    have harr : t = #[slot t 0, slot t 1, slot t 2, slot t 3, slot t 4, slot t 5, slot t 6, slot t 7, slot t 8, slot t 9, slot t 10, slot t 11, slot t 12, slot t 13, slot t 14, slot t 15, slot t 16, slot t 17, slot t 18, slot t 19, slot t 20, slot t 21, slot t 22, slot t 23, slot t 24, slot t 25, slot t 26, slot t 27, slot t 28, slot t 29, slot t 30, slot t 31, slot t 32, slot t 33, slot t 34, slot t 35, slot t 36, slot t 37, slot t 38, slot t 39, slot t 40, slot t 41, slot t 42, slot t 43, slot t 44, slot t 45, slot t 46, slot t 47, slot t 48, slot t 49, slot t 50, slot t 51, slot t 52, slot t 53, slot t 54, slot t 55, slot t 56, slot t 57, slot t 58, slot t 59, slot t 60, slot t 61, slot t 62, slot t 63, slot t 64, slot t 65, slot t 66, slot t 67, slot t 68, slot t 69, slot t 70, slot t 71, slot t 72, slot t 73, slot t 74, slot t 75, slot t 76, slot t 77, slot t 78, slot t 79, slot t 80, slot t 81, slot t 82, slot t 83, slot t 84, slot t 85, slot t 86, slot t 87, slot t 88, slot t 89, slot t 90, slot t 91, slot t 92, slot t 93, slot t 94, slot t 95, slot t 96, slot t 97, slot t 98, slot t 99, slot t 100, slot t 101, slot t 102, slot t 103, slot t 104, slot t 105, slot t 106, slot t 107, slot t 108] := arr_eq t 109 hsz
    rw [harr, h7, h3, h4, h5]
    clear harr hfacts hf h7 h3 h4 h5
    generalize slot t 0 = x0; generalize slot t 1 = x1; generalize slot t 2 = x2; generalize slot t 6 = x6; generalize slot t 8 = x8; generalize slot t 9 = x9; generalize slot t 10 = x10; generalize slot t 11 = x11; generalize slot t 12 = x12; generalize slot t 13 = x13; generalize slot t 14 = x14; generalize slot t 15 = x15
    generalize slot t 16 = x16; generalize slot t 17 = x17; generalize slot t 18 = x18; generalize slot t 19 = x19; generalize slot t 20 = x20; generalize slot t 21 = x21; generalize slot t 22 = x22; generalize slot t 23 = x23; generalize slot t 24 = x24; generalize slot t 25 = x25; generalize slot t 26 = x26; generalize slot t 27 = x27
    generalize slot t 28 = x28; generalize slot t 29 = x29; generalize slot t 30 = x30; generalize slot t 31 = x31; generalize slot t 32 = x32; generalize slot t 33 = x33; generalize slot t 34 = x34; generalize slot t 35 = x35; generalize slot t 36 = x36; generalize slot t 37 = x37; generalize slot t 38 = x38; generalize slot t 39 = x39
    generalize slot t 40 = x40; generalize slot t 41 = x41; generalize slot t 42 = x42; generalize slot t 43 = x43; generalize slot t 44 = x44; generalize slot t 45 = x45; generalize slot t 46 = x46; generalize slot t 47 = x47; generalize slot t 48 = x48; generalize slot t 49 = x49; generalize slot t 50 = x50; generalize slot t 51 = x51
    generalize slot t 52 = x52; generalize slot t 53 = x53; generalize slot t 54 = x54; generalize slot t 55 = x55; generalize slot t 56 = x56; generalize slot t 57 = x57; generalize slot t 58 = x58; generalize slot t 59 = x59; generalize slot t 60 = x60; generalize slot t 61 = x61; generalize slot t 62 = x62; generalize slot t 63 = x63
    generalize slot t 64 = x64; generalize slot t 65 = x65; generalize slot t 66 = x66; generalize slot t 67 = x67; generalize slot t 68 = x68; generalize slot t 69 = x69; generalize slot t 70 = x70; generalize slot t 71 = x71; generalize slot t 72 = x72; generalize slot t 73 = x73; generalize slot t 74 = x74; generalize slot t 75 = x75
    generalize slot t 76 = x76; generalize slot t 77 = x77; generalize slot t 78 = x78; generalize slot t 79 = x79; generalize slot t 80 = x80; generalize slot t 81 = x81; generalize slot t 82 = x82; generalize slot t 83 = x83; generalize slot t 84 = x84; generalize slot t 85 = x85; generalize slot t 86 = x86; generalize slot t 87 = x87
    generalize slot t 88 = x88; generalize slot t 89 = x89; generalize slot t 90 = x90; generalize slot t 91 = x91; generalize slot t 92 = x92; generalize slot t 93 = x93; generalize slot t 94 = x94; generalize slot t 95 = x95; generalize slot t 96 = x96; generalize slot t 97 = x97; generalize slot t 98 = x98; generalize slot t 99 = x99
    generalize slot t 100 = x100; generalize slot t 101 = x101; generalize slot t 102 = x102; generalize slot t 103 = x103; generalize slot t 104 = x104; generalize slot t 105 = x105; generalize slot t 106 = x106; generalize slot t 107 = x107; generalize slot t 108 = x108
    clear hsz t
    have G7 := Lib.hid r7
    replace F0 := Lib.hid (F0.out.kept hk)
    replace F1 := Lib.hid (F1.out.kept hk)
    replace F2 := Lib.hid (F2.out.kept hk)
    replace FK := Lib.hid (FK.out.trans hk)
    clear r7 hk
    go_wp2_with fail
    refine wp_region_table [(29, .is (.pointer (some ⟨b, 1, none⟩))), (30, .is (.string (S0 1))), (31, .is (.string (leafS (S0 1)))), (32, .is (.pointer (some ⟨b + 1, 64, none⟩))), (33, .is (.agg (bC 32 (hAt a1 2)))), (34, .is (.pointer (some ⟨b + 1, 96, none⟩))), (35, .is (.agg (bC 32 (hAt a1 3)))), (36, .is (.string (nodeS (hAt a1 2) (hAt a1 3)))), (37, .is (.pointer (some ⟨b + 2, 1, none⟩))), (38, .is (.int .u64 m1)), (39, .is (.pointer (some ⟨b + 1, 64, none⟩))), (40, .is (.agg (bC 32 (hAt a1 2)))), (41, .is (.string (rootS m1 (hAt a1 2)))), (42, .is (.pointer (some ⟨b, 1, none⟩))), (43, .is (.string (S0 1))), (44, .is (.string (headS (S0 1)))), (45, .row (sliceAt0 4) (sC 4 (txt (S0 1) (hAt a1 2) (hAt a1 3) m1)) 9), (8, .row (sliceAt0 4) (sC 4 (txt (S0 1) (hAt a1 2) (hAt a1 3) m1)) 9)] (by kernel_rfl) (by kernel_rfl) ?_ ?_
    · refine ⟨fun t w1 hf hk hp => ?_, ?_⟩
      · have h3 : slot t 3 = .pointer (some ⟨b, 0, none⟩) := hf 3 (by kernel_rfl)
        clear hf hp
        refine stepAt_plain rfl ?_
        refine stepOK_pure (.pointer (some ⟨b, 1, none⟩)) ?_ rfl
        simp only [execOp, evS, h3]
        go_simp
      refine ⟨fun t w1 hf hk hp => ?_, ?_⟩
      · have h29 : slot t 29 = .pointer (some ⟨b, 1, none⟩) := hp 29 (by kernel_rfl)
        clear hf hp
        refine stepAt_plain rfl ?_
        have hq0 := ((F0.out.kept hk).cell 1).trans (show (sC 2 S0)[1]? = some (.string (S0 1)) from rfl)
        refine stepOK_pure (.string (S0 1)) ?_ rfl
        simp only [execOp, evS, h29]
        go_simp
      refine ⟨fun t w1 hf hk hp => ?_, ?_⟩
      · have h30 : slot t 30 = .string (S0 1) := hp 30 (by kernel_rfl)
        clear hf hp
        refine stepAt_plain rfl ?_
        refine stepOK_call #[.string (S0 1)] rfl (by simp only [List.map_toArray, List.map_cons, List.map_nil, evS, h30]) (by go_simp) ((tagLeaf_any _ w1 (by omega)).mono fun e w' ⟨he, hk'⟩ => ⟨_, he, hk', rfl⟩)
      refine ⟨fun t w1 hf hk hp => ?_, ?_⟩
      · have h4 : slot t 4 = .pointer (some ⟨b + 1, 0, none⟩) := hf 4 (by kernel_rfl)
        clear hf hp
        refine stepAt_plain rfl ?_
        refine stepOK_pure (.pointer (some ⟨b + 1, 64, none⟩)) ?_ rfl
        simp only [execOp, evS, h4]
        go_simp
      refine ⟨fun t w1 hf hk hp => ?_, ?_⟩
      · have h32 : slot t 32 = .pointer (some ⟨b + 1, 64, none⟩) := hp 32 (by kernel_rfl)
        clear hf hp
        refine stepAt_plain rfl ?_
        have hq0 := load_hash w1 (b + 1) 2 128 _ a1 (F1.out.kept hk) (by omega)
        exact stepOK_sem (.agg (bC 32 (hAt a1 2))) (by simp only [execOp, evS, h32]) hq0 rfl
      refine ⟨fun t w1 hf hk hp => ?_, ?_⟩
      · have h4 : slot t 4 = .pointer (some ⟨b + 1, 0, none⟩) := hf 4 (by kernel_rfl)
        clear hf hp
        refine stepAt_plain rfl ?_
        refine stepOK_pure (.pointer (some ⟨b + 1, 96, none⟩)) ?_ rfl
        simp only [execOp, evS, h4]
        go_simp
      refine ⟨fun t w1 hf hk hp => ?_, ?_⟩
      · have h34 : slot t 34 = .pointer (some ⟨b + 1, 96, none⟩) := hp 34 (by kernel_rfl)
        clear hf hp
        refine stepAt_plain rfl ?_
        have hq0 := load_hash w1 (b + 1) 3 128 _ a1 (F1.out.kept hk) (by omega)
        exact stepOK_sem (.agg (bC 32 (hAt a1 3))) (by simp only [execOp, evS, h34]) hq0 rfl
      refine ⟨fun t w1 hf hk hp => ?_, ?_⟩
      · have h33 : slot t 33 = .agg (bC 32 (hAt a1 2)) := hp 33 (by kernel_rfl)
        have h35 : slot t 35 = .agg (bC 32 (hAt a1 3)) := hp 35 (by kernel_rfl)
        clear hf hp
        refine stepAt_plain rfl ?_
        refine stepOK_call #[.agg (bC 32 (hAt a1 2)), .agg (bC 32 (hAt a1 3))] rfl (by simp only [List.map_toArray, List.map_cons, List.map_nil, evS, h33, h35]) (by go_simp) ((tagNode_any _ _ H2 H3 w1).mono fun e w' ⟨he, hk'⟩ => ⟨_, he, hk', rfl⟩)
      refine ⟨fun t w1 hf hk hp => ?_, ?_⟩
      · have h5 : slot t 5 = .pointer (some ⟨b + 2, 0, none⟩) := hf 5 (by kernel_rfl)
        clear hf hp
        refine stepAt_plain rfl ?_
        refine stepOK_pure (.pointer (some ⟨b + 2, 1, none⟩)) ?_ rfl
        simp only [execOp, evS, h5]
        go_simp
      refine ⟨fun t w1 hf hk hp => ?_, ?_⟩
      · have h37 : slot t 37 = .pointer (some ⟨b + 2, 1, none⟩) := hp 37 (by kernel_rfl)
        clear hf hp
        refine stepAt_plain rfl ?_
        have hq0 := ((F2.out.kept hk).cell 1).trans (show (qC 2 [m0, m1])[1]? = some (.int .u64 m1) from rfl)
        refine stepOK_pure (.int .u64 m1) ?_ rfl
        simp only [execOp, evS, h37]
        go_simp
      refine ⟨fun t w1 hf hk hp => ?_, ?_⟩
      · have h4 : slot t 4 = .pointer (some ⟨b + 1, 0, none⟩) := hf 4 (by kernel_rfl)
        clear hf hp
        refine stepAt_plain rfl ?_
        refine stepOK_pure (.pointer (some ⟨b + 1, 64, none⟩)) ?_ rfl
        simp only [execOp, evS, h4]
        go_simp
      refine ⟨fun t w1 hf hk hp => ?_, ?_⟩
      · have h39 : slot t 39 = .pointer (some ⟨b + 1, 64, none⟩) := hp 39 (by kernel_rfl)
        clear hf hp
        refine stepAt_plain rfl ?_
        have hq0 := load_hash w1 (b + 1) 2 128 _ a1 (F1.out.kept hk) (by omega)
        exact stepOK_sem (.agg (bC 32 (hAt a1 2))) (by simp only [execOp, evS, h39]) hq0 rfl
      refine ⟨fun t w1 hf hk hp => ?_, ?_⟩
      · have h38 : slot t 38 = .int .u64 m1 := hp 38 (by kernel_rfl)
        have h40 : slot t 40 = .agg (bC 32 (hAt a1 2)) := hp 40 (by kernel_rfl)
        clear hf hp
        refine stepAt_plain rfl ?_
        refine stepOK_call #[.int .u64 m1, .agg (bC 32 (hAt a1 2))] rfl (by simp only [List.map_toArray, List.map_cons, List.map_nil, evS, h38, h40]) (by go_simp) ((tagRoot_any m1 hm1 _ H2 w1).mono fun e w' ⟨he, hk'⟩ => ⟨_, he, hk', rfl⟩)
      refine ⟨fun t w1 hf hk hp => ?_, ?_⟩
      · have h3 : slot t 3 = .pointer (some ⟨b, 0, none⟩) := hf 3 (by kernel_rfl)
        clear hf hp
        refine stepAt_plain rfl ?_
        refine stepOK_pure (.pointer (some ⟨b, 1, none⟩)) ?_ rfl
        simp only [execOp, evS, h3]
        go_simp
      refine ⟨fun t w1 hf hk hp => ?_, ?_⟩
      · have h42 : slot t 42 = .pointer (some ⟨b, 1, none⟩) := hp 42 (by kernel_rfl)
        clear hf hp
        refine stepAt_plain rfl ?_
        have hq0 := ((F0.out.kept hk).cell 1).trans (show (sC 2 S0)[1]? = some (.string (S0 1)) from rfl)
        refine stepOK_pure (.string (S0 1)) ?_ rfl
        simp only [execOp, evS, h42]
        go_simp
      refine ⟨fun t w1 hf hk hp => ?_, ?_⟩
      · have h43 : slot t 43 = .string (S0 1) := hp 43 (by kernel_rfl)
        clear hf hp
        refine stepAt_plain rfl ?_
        refine stepOK_call #[.string (S0 1)] rfl (by simp only [List.map_toArray, List.map_cons, List.map_nil, evS, h43]) (by go_simp) ((tagHead_any _ w1 (by omega)).mono fun e w' ⟨he, hk'⟩ => ⟨_, he, hk', rfl⟩)
      refine ⟨fun t w1 hf hk hp => ?_, ?_⟩
      · have h31 : slot t 31 = .string (leafS (S0 1)) := hp 31 (by kernel_rfl)
        have h36 : slot t 36 = .string (nodeS (hAt a1 2) (hAt a1 3)) := hp 36 (by kernel_rfl)
        have h41 : slot t 41 = .string (rootS m1 (hAt a1 2)) := hp 41 (by kernel_rfl)
        have h44 : slot t 44 = .string (headS (S0 1)) := hp 44 (by kernel_rfl)
        clear hf hp
        refine stepAt_plain rfl ?_
        have hq0 := run_build4s (leafS (S0 1)) (nodeS (hAt a1 2) (hAt a1 3)) (rootS m1 (hAt a1 2)) (headS (S0 1)) w1
        refine .value ((sliceAt0 4) w1.heap.size) (w1.alloc (.cells (sC 4 (txt (S0 1) (hAt a1 2) (hAt a1 3) m1)) 9)) ?_ ((Kept.refl w1).alloc _) ⟨_, rfl, Rowz.new w1 _ _⟩
        simp only [execOp, evS, List.map_toArray, List.map_cons, List.map_nil, h31, h36, h41, h44, sliceAt0]
        go_simp
        rfl
      refine ⟨fun t w1 hf hk hp => ?_, ?_⟩
      · obtain ⟨g45, h45, r45⟩ : ∃ g, slot t 45 = (sliceAt0 4) g ∧ Rowz w1 g (sC 4 (txt (S0 1) (hAt a1 2) (hAt a1 3) m1)) 9 := hp 45 (by kernel_rfl)
        simp only [sliceAt0] at h45
        clear hf hp
        refine stepAt_plain rfl ?_
        exact stepOK_move _ (.inr rfl) ⟨g45, h45, r45⟩
      exact trivial
    · intro t w1 hsz hf hk hfacts
      obtain ⟨g8, h8, r8⟩ : ∃ g, slot t 8 = (sliceAt0 4) g ∧ Rowz w1 g (sC 4 (txt (S0 1) (hAt a1 2) (hAt a1 3) m1)) 9 := hfacts 17 _ rfl 8 rfl
      simp only [sliceAt0] at h8
      have h3 : slot t 3 = .pointer (some ⟨b, 0, none⟩) := hf 3 (by kernel_rfl)
      have h4 : slot t 4 = .pointer (some ⟨b + 1, 0, none⟩) := hf 4 (by kernel_rfl)
      have h5 : slot t 5 = .pointer (some ⟨b + 2, 0, none⟩) := hf 5 (by kernel_rfl)
      have h7 : slot t 7 = .slice (some ⟨g7, 0, none⟩) 4 4 := hf 7 (by kernel_rfl)
      have harr : t = #[slot t 0, slot t 1, slot t 2, slot t 3, slot t 4, slot t 5, slot t 6, slot t 7, slot t 8, slot t 9, slot t 10, slot t 11, slot t 12, slot t 13, slot t 14, slot t 15, slot t 16, slot t 17, slot t 18, slot t 19, slot t 20, slot t 21, slot t 22, slot t 23, slot t 24, slot t 25, slot t 26, slot t 27, slot t 28, slot t 29, slot t 30, slot t 31, slot t 32, slot t 33, slot t 34, slot t 35, slot t 36, slot t 37, slot t 38, slot t 39, slot t 40, slot t 41, slot t 42, slot t 43, slot t 44, slot t 45, slot t 46, slot t 47, slot t 48, slot t 49, slot t 50, slot t 51, slot t 52, slot t 53, slot t 54, slot t 55, slot t 56, slot t 57, slot t 58, slot t 59, slot t 60, slot t 61, slot t 62, slot t 63, slot t 64, slot t 65, slot t 66, slot t 67, slot t 68, slot t 69, slot t 70, slot t 71, slot t 72, slot t 73, slot t 74, slot t 75, slot t 76, slot t 77, slot t 78, slot t 79, slot t 80, slot t 81, slot t 82, slot t 83, slot t 84, slot t 85, slot t 86, slot t 87, slot t 88, slot t 89, slot t 90, slot t 91, slot t 92, slot t 93, slot t 94, slot t 95, slot t 96, slot t 97, slot t 98, slot t 99, slot t 100, slot t 101, slot t 102, slot t 103, slot t 104, slot t 105, slot t 106, slot t 107, slot t 108] := arr_eq t 109 hsz
      rw [harr, h8, h3, h4, h5, h7]
      clear harr hfacts hf h8 h3 h4 h5 h7
      generalize slot t 0 = x0; generalize slot t 1 = x1; generalize slot t 2 = x2; generalize slot t 6 = x6; generalize slot t 9 = x9; generalize slot t 10 = x10; generalize slot t 11 = x11; generalize slot t 12 = x12; generalize slot t 13 = x13; generalize slot t 14 = x14; generalize slot t 15 = x15; generalize slot t 16 = x16
      generalize slot t 17 = x17; generalize slot t 18 = x18; generalize slot t 19 = x19; generalize slot t 20 = x20; generalize slot t 21 = x21; generalize slot t 22 = x22; generalize slot t 23 = x23; generalize slot t 24 = x24; generalize slot t 25 = x25; generalize slot t 26 = x26; generalize slot t 27 = x27; generalize slot t 28 = x28
      generalize slot t 29 = x29; generalize slot t 30 = x30; generalize slot t 31 = x31; generalize slot t 32 = x32; generalize slot t 33 = x33; generalize slot t 34 = x34; generalize slot t 35 = x35; generalize slot t 36 = x36; generalize slot t 37 = x37; generalize slot t 38 = x38; generalize slot t 39 = x39; generalize slot t 40 = x40
      generalize slot t 41 = x41; generalize slot t 42 = x42; generalize slot t 43 = x43; generalize slot t 44 = x44; generalize slot t 45 = x45; generalize slot t 46 = x46; generalize slot t 47 = x47; generalize slot t 48 = x48; generalize slot t 49 = x49; generalize slot t 50 = x50; generalize slot t 51 = x51; generalize slot t 52 = x52
      generalize slot t 53 = x53; generalize slot t 54 = x54; generalize slot t 55 = x55; generalize slot t 56 = x56; generalize slot t 57 = x57; generalize slot t 58 = x58; generalize slot t 59 = x59; generalize slot t 60 = x60; generalize slot t 61 = x61; generalize slot t 62 = x62; generalize slot t 63 = x63; generalize slot t 64 = x64
      generalize slot t 65 = x65; generalize slot t 66 = x66; generalize slot t 67 = x67; generalize slot t 68 = x68; generalize slot t 69 = x69; generalize slot t 70 = x70; generalize slot t 71 = x71; generalize slot t 72 = x72; generalize slot t 73 = x73; generalize slot t 74 = x74; generalize slot t 75 = x75; generalize slot t 76 = x76
      generalize slot t 77 = x77; generalize slot t 78 = x78; generalize slot t 79 = x79; generalize slot t 80 = x80; generalize slot t 81 = x81; generalize slot t 82 = x82; generalize slot t 83 = x83; generalize slot t 84 = x84; generalize slot t 85 = x85; generalize slot t 86 = x86; generalize slot t 87 = x87; generalize slot t 88 = x88
      generalize slot t 89 = x89; generalize slot t 90 = x90; generalize slot t 91 = x91; generalize slot t 92 = x92; generalize slot t 93 = x93; generalize slot t 94 = x94; generalize slot t 95 = x95; generalize slot t 96 = x96; generalize slot t 97 = x97; generalize slot t 98 = x98; generalize slot t 99 = x99; generalize slot t 100 = x100
      generalize slot t 101 = x101; generalize slot t 102 = x102; generalize slot t 103 = x103; generalize slot t 104 = x104; generalize slot t 105 = x105; generalize slot t 106 = x106; generalize slot t 107 = x107; generalize slot t 108 = x108
      clear hsz t
      have G8 := Lib.hid r8
      replace G7 := Lib.hid (G7.out.kept hk)
      replace F0 := Lib.hid (F0.out.kept hk)
      replace F1 := Lib.hid (F1.out.kept hk)
      replace F2 := Lib.hid (F2.out.kept hk)
      replace FK := Lib.hid (FK.out.trans hk)
      clear r8 hk
      generalize hb0 : decide (S0 0 = S0 1) = B0 at HT
      generalize hb1 : decide (hAt a1 0 = hAt a1 2) = B1 at HT
      generalize hb2 : decide (hAt a1 1 = hAt a1 3) = B2 at HT
      generalize hb3 : decide (m0 = m1) = B3 at HT
      go_wp2_with fail
      refine wp_region_table [(46, .is (.pointer (some ⟨b, 0, none⟩))), (47, .is (.string (S0 0))), (48, .is (.pointer (some ⟨b, 1, none⟩))), (49, .is (.string (S0 1))), (50, .is (.bool B0)), (51, .is (.pointer (some ⟨b + 1, 0, none⟩))), (52, .is (.agg (bC 32 (hAt a1 0)))), (53, .is (.pointer (some ⟨b + 1, 64, none⟩))), (54, .is (.agg (bC 32 (hAt a1 2)))), (55, .is (.bool B1)), (56, .is (.bool B1)), (57, .is (bif B1 then (.pointer (some ⟨b + 1, 32, none⟩)) else undef)), (58, .is (bif B1 then (.agg (bC 32 (hAt a1 1))) else undef)), (59, .is (bif B1 then (.pointer (some ⟨b + 1, 96, none⟩)) else undef)), (60, .is (bif B1 then (.agg (bC 32 (hAt a1 3))) else undef)), (61, .is (bif B1 then (.bool B2) else undef)), (62, .is (.bool (B1 && B2))), (63, .is (.pointer (some ⟨b + 2, 0, none⟩))), (64, .is (.int .u64 m0)), (65, .is (.pointer (some ⟨b + 2, 1, none⟩))), (66, .is (.int .u64 m1)), (67, .is (.bool B3)), (68, .is (.bool B3)), (69, .is (bif B3 then (.pointer (some ⟨b + 1, 0, none⟩)) else undef)), (70, .is (bif B3 then (.agg (bC 32 (hAt a1 0))) else undef)), (71, .is (bif B3 then (.pointer (some ⟨b + 1, 64, none⟩)) else undef)), (72, .is (bif B3 then (.agg (bC 32 (hAt a1 2))) else undef)), (73, .is (bif B3 then (.bool B1) else undef)), (74, .is (.bool (B3 && B1))), (75, .is (.pointer (some ⟨b, 0, none⟩))), (76, .is (.string (S0 0))), (77, .is (.pointer (some ⟨b, 1, none⟩))), (78, .is (.string (S0 1))), (79, .is (.bool B0)), (80, .row (sliceAt0 4) (bvC 4 (sameB B0 B1 B2 B3)) 4), (9, .row (sliceAt0 4) (bvC 4 (sameB B0 B1 B2 B3)) 4)] (by kernel_rfl) (by kernel_rfl) ?_ ?_
      · refine ⟨fun t w1 hf hk hp => ?_, ?_⟩
        · have h3 : slot t 3 = .pointer (some ⟨b, 0, none⟩) := hf 3 (by kernel_rfl)
          clear hf hp
          refine stepAt_plain rfl ?_
          refine stepOK_pure (.pointer (some ⟨b, 0, none⟩)) ?_ rfl
          simp only [execOp, evS, h3]
          go_simp
        refine ⟨fun t w1 hf hk hp => ?_, ?_⟩
        · have h46 : slot t 46 = .pointer (some ⟨b, 0, none⟩) := hp 46 (by kernel_rfl)
          clear hf hp
          refine stepAt_plain rfl ?_
          have hq0 := ((F0.out.kept hk).cell 0).trans (show (sC 2 S0)[0]? = some (.string (S0 0)) from rfl)
          refine stepOK_pure (.string (S0 0)) ?_ rfl
          simp only [execOp, evS, h46]
          go_simp
        refine ⟨fun t w1 hf hk hp => ?_, ?_⟩
        · have h3 : slot t 3 = .pointer (some ⟨b, 0, none⟩) := hf 3 (by kernel_rfl)
          clear hf hp
          refine stepAt_plain rfl ?_
          refine stepOK_pure (.pointer (some ⟨b, 1, none⟩)) ?_ rfl
          simp only [execOp, evS, h3]
          go_simp
        refine ⟨fun t w1 hf hk hp => ?_, ?_⟩
        · have h48 : slot t 48 = .pointer (some ⟨b, 1, none⟩) := hp 48 (by kernel_rfl)
          clear hf hp
          refine stepAt_plain rfl ?_
          have hq0 := ((F0.out.kept hk).cell 1).trans (show (sC 2 S0)[1]? = some (.string (S0 1)) from rfl)
          refine stepOK_pure (.string (S0 1)) ?_ rfl
          simp only [execOp, evS, h48]
          go_simp
        refine ⟨fun t w1 hf hk hp => ?_, ?_⟩
        · have h47 : slot t 47 = .string (S0 0) := hp 47 (by kernel_rfl)
          have h49 : slot t 49 = .string (S0 1) := hp 49 (by kernel_rfl)
          clear hf hp
          refine stepAt_plain rfl ?_
          refine stepOK_pure (.bool B0) ?_ rfl
          simp only [execOp, evS, h47, h49]
          go_simp
          exact (beq_strs _ _).trans hb0
        refine ⟨fun t w1 hf hk hp => ?_, ?_⟩
        · have h4 : slot t 4 = .pointer (some ⟨b + 1, 0, none⟩) := hf 4 (by kernel_rfl)
          clear hf hp
          refine stepAt_plain rfl ?_
          refine stepOK_pure (.pointer (some ⟨b + 1, 0, none⟩)) ?_ rfl
          simp only [execOp, evS, h4]
          go_simp
        refine ⟨fun t w1 hf hk hp => ?_, ?_⟩
        · have h51 : slot t 51 = .pointer (some ⟨b + 1, 0, none⟩) := hp 51 (by kernel_rfl)
          clear hf hp
          refine stepAt_plain rfl ?_
          have hq0 := load_hash w1 (b + 1) 0 128 _ a1 (F1.out.kept hk) (by omega)
          exact stepOK_sem (.agg (bC 32 (hAt a1 0))) (by simp only [execOp, evS, h51]) hq0 rfl
        refine ⟨fun t w1 hf hk hp => ?_, ?_⟩
        · have h4 : slot t 4 = .pointer (some ⟨b + 1, 0, none⟩) := hf 4 (by kernel_rfl)
          clear hf hp
          refine stepAt_plain rfl ?_
          refine stepOK_pure (.pointer (some ⟨b + 1, 64, none⟩)) ?_ rfl
          simp only [execOp, evS, h4]
          go_simp
        refine ⟨fun t w1 hf hk hp => ?_, ?_⟩
        · have h53 : slot t 53 = .pointer (some ⟨b + 1, 64, none⟩) := hp 53 (by kernel_rfl)
          clear hf hp
          refine stepAt_plain rfl ?_
          have hq0 := load_hash w1 (b + 1) 2 128 _ a1 (F1.out.kept hk) (by omega)
          exact stepOK_sem (.agg (bC 32 (hAt a1 2))) (by simp only [execOp, evS, h53]) hq0 rfl
        refine ⟨fun t w1 hf hk hp => ?_, ?_⟩
        · have h52 : slot t 52 = .agg (bC 32 (hAt a1 0)) := hp 52 (by kernel_rfl)
          have h54 : slot t 54 = .agg (bC 32 (hAt a1 2)) := hp 54 (by kernel_rfl)
          clear hf hp
          refine stepAt_plain rfl ?_
          have hq0 := sameH (hAt a1 0) (hAt a1 2) H0 H2 w1
          have hq1 := guardH
          refine stepOK_pure (.bool B1) ?_ rfl
          simp only [execOp, evS, h52, h54]
          go_simp
        refine ⟨fun t w1 hf hk hp => ?_, ?_⟩
        · have h55 : slot t 55 = .bool B1 := hp 55 (by kernel_rfl)
          clear hf hp
          refine stepAt_plain rfl ?_
          exact stepOK_move _ (.inl rfl) h55
        refine ⟨fun t w1 hf hk hp => ?_, ?_⟩
        · have h4 : slot t 4 = .pointer (some ⟨b + 1, 0, none⟩) := hf 4 (by kernel_rfl)
          have h56 : slot t 56 = .bool B1 := hp 56 (by kernel_rfl)
          clear hf hp
          refine stepAt_sym 56 B1 (by kernel_rfl) h56 (fun hB => ?_) (fun hB => by show undef = bif B1 then _ else undef; rw [hB]; rfl)
          refine stepOK_pure (.pointer (some ⟨b + 1, 32, none⟩)) ?_ (by show _ = bif B1 then _ else undef; rw [hB]; rfl)
          simp only [execOp, evS, h4]
          go_simp
        refine ⟨fun t w1 hf hk hp => ?_, ?_⟩
        · have h57 : slot t 57 = bif B1 then (.pointer (some ⟨b + 1, 32, none⟩)) else undef := hp 57 (by kernel_rfl)
          have h56 : slot t 56 = .bool B1 := hp 56 (by kernel_rfl)
          clear hf hp
          refine stepAt_sym 56 B1 (by kernel_rfl) h56 (fun hB => ?_) (fun hB => by show undef = bif B1 then _ else undef; rw [hB]; rfl)
          rw [hB, cond_true] at h57
          have hq0 := load_hash w1 (b + 1) 1 128 _ a1 (F1.out.kept hk) (by omega)
          exact stepOK_sem (.agg (bC 32 (hAt a1 1))) (by simp only [execOp, evS, h57]) hq0 (by show _ = bif B1 then _ else undef; rw [hB]; rfl)
        refine ⟨fun t w1 hf hk hp => ?_, ?_⟩
        · have h4 : slot t 4 = .pointer (some ⟨b + 1, 0, none⟩) := hf 4 (by kernel_rfl)
          have h56 : slot t 56 = .bool B1 := hp 56 (by kernel_rfl)
          clear hf hp
          refine stepAt_sym 56 B1 (by kernel_rfl) h56 (fun hB => ?_) (fun hB => by show undef = bif B1 then _ else undef; rw [hB]; rfl)
          refine stepOK_pure (.pointer (some ⟨b + 1, 96, none⟩)) ?_ (by show _ = bif B1 then _ else undef; rw [hB]; rfl)
          simp only [execOp, evS, h4]
          go_simp
        refine ⟨fun t w1 hf hk hp => ?_, ?_⟩
        · have h59 : slot t 59 = bif B1 then (.pointer (some ⟨b + 1, 96, none⟩)) else undef := hp 59 (by kernel_rfl)
          have h56 : slot t 56 = .bool B1 := hp 56 (by kernel_rfl)
          clear hf hp
          refine stepAt_sym 56 B1 (by kernel_rfl) h56 (fun hB => ?_) (fun hB => by show undef = bif B1 then _ else undef; rw [hB]; rfl)
          rw [hB, cond_true] at h59
          have hq0 := load_hash w1 (b + 1) 3 128 _ a1 (F1.out.kept hk) (by omega)
          exact stepOK_sem (.agg (bC 32 (hAt a1 3))) (by simp only [execOp, evS, h59]) hq0 (by show _ = bif B1 then _ else undef; rw [hB]; rfl)
        refine ⟨fun t w1 hf hk hp => ?_, ?_⟩
        · have h58 : slot t 58 = bif B1 then (.agg (bC 32 (hAt a1 1))) else undef := hp 58 (by kernel_rfl)
          have h60 : slot t 60 = bif B1 then (.agg (bC 32 (hAt a1 3))) else undef := hp 60 (by kernel_rfl)
          have h56 : slot t 56 = .bool B1 := hp 56 (by kernel_rfl)
          clear hf hp
          refine stepAt_sym 56 B1 (by kernel_rfl) h56 (fun hB => ?_) (fun hB => by show undef = bif B1 then _ else undef; rw [hB]; rfl)
          rw [hB, cond_true] at h58
          rw [hB, cond_true] at h60
          have hq0 := sameH (hAt a1 1) (hAt a1 3) H1 H3 w1
          have hq1 := guardH
          refine stepOK_pure (.bool B2) ?_ (by show _ = bif B1 then _ else undef; rw [hB]; rfl)
          simp only [execOp, evS, h58, h60]
          go_simp
        refine ⟨fun t w1 hf hk hp => ?_, ?_⟩
        · have h56 : slot t 56 = .bool B1 := hp 56 (by kernel_rfl)
          have h61 : slot t 61 = bif B1 then (.bool B2) else undef := hp 61 (by kernel_rfl)
          clear hf hp
          refine stepAt_plain rfl ?_
          refine stepOK_pick (B1) rfl h56 ?_
          simp only [evS, h61]
          show _ = (.bool (B1 && B2) : Value)
          cases B1 <;> rfl
        refine ⟨fun t w1 hf hk hp => ?_, ?_⟩
        · have h5 : slot t 5 = .pointer (some ⟨b + 2, 0, none⟩) := hf 5 (by kernel_rfl)
          clear hf hp
          refine stepAt_plain rfl ?_
          refine stepOK_pure (.pointer (some ⟨b + 2, 0, none⟩)) ?_ rfl
          simp only [execOp, evS, h5]
          go_simp
        refine ⟨fun t w1 hf hk hp => ?_, ?_⟩
        · have h63 : slot t 63 = .pointer (some ⟨b + 2, 0, none⟩) := hp 63 (by kernel_rfl)
          clear hf hp
          refine stepAt_plain rfl ?_
          have hq0 := ((F2.out.kept hk).cell 0).trans (show (qC 2 [m0, m1])[0]? = some (.int .u64 m0) from rfl)
          refine stepOK_pure (.int .u64 m0) ?_ rfl
          simp only [execOp, evS, h63]
          go_simp
        refine ⟨fun t w1 hf hk hp => ?_, ?_⟩
        · have h5 : slot t 5 = .pointer (some ⟨b + 2, 0, none⟩) := hf 5 (by kernel_rfl)
          clear hf hp
          refine stepAt_plain rfl ?_
          refine stepOK_pure (.pointer (some ⟨b + 2, 1, none⟩)) ?_ rfl
          simp only [execOp, evS, h5]
          go_simp
        refine ⟨fun t w1 hf hk hp => ?_, ?_⟩
        · have h65 : slot t 65 = .pointer (some ⟨b + 2, 1, none⟩) := hp 65 (by kernel_rfl)
          clear hf hp
          refine stepAt_plain rfl ?_
          have hq0 := ((F2.out.kept hk).cell 1).trans (show (qC 2 [m0, m1])[1]? = some (.int .u64 m1) from rfl)
          refine stepOK_pure (.int .u64 m1) ?_ rfl
          simp only [execOp, evS, h65]
          go_simp
        refine ⟨fun t w1 hf hk hp => ?_, ?_⟩
        · have h64 : slot t 64 = .int .u64 m0 := hp 64 (by kernel_rfl)
          have h66 : slot t 66 = .int .u64 m1 := hp 66 (by kernel_rfl)
          clear hf hp
          refine stepAt_plain rfl ?_
          refine stepOK_pure (.bool B3) ?_ rfl
          simp only [execOp, evS, h64, h66]
          go_simp
          exact (beq_nats _ _).trans hb3
        refine ⟨fun t w1 hf hk hp => ?_, ?_⟩
        · have h67 : slot t 67 = .bool B3 := hp 67 (by kernel_rfl)
          clear hf hp
          refine stepAt_plain rfl ?_
          exact stepOK_move _ (.inl rfl) h67
        refine ⟨fun t w1 hf hk hp => ?_, ?_⟩
        · have h4 : slot t 4 = .pointer (some ⟨b + 1, 0, none⟩) := hf 4 (by kernel_rfl)
          have h68 : slot t 68 = .bool B3 := hp 68 (by kernel_rfl)
          clear hf hp
          refine stepAt_sym 68 B3 (by kernel_rfl) h68 (fun hB => ?_) (fun hB => by show undef = bif B3 then _ else undef; rw [hB]; rfl)
          refine stepOK_pure (.pointer (some ⟨b + 1, 0, none⟩)) ?_ (by show _ = bif B3 then _ else undef; rw [hB]; rfl)
          simp only [execOp, evS, h4]
          go_simp
        refine ⟨fun t w1 hf hk hp => ?_, ?_⟩
        · have h69 : slot t 69 = bif B3 then (.pointer (some ⟨b + 1, 0, none⟩)) else undef := hp 69 (by kernel_rfl)
          have h68 : slot t 68 = .bool B3 := hp 68 (by kernel_rfl)
          clear hf hp
          refine stepAt_sym 68 B3 (by kernel_rfl) h68 (fun hB => ?_) (fun hB => by show undef = bif B3 then _ else undef; rw [hB]; rfl)
          rw [hB, cond_true] at h69
          have hq0 := load_hash w1 (b + 1) 0 128 _ a1 (F1.out.kept hk) (by omega)
          exact stepOK_sem (.agg (bC 32 (hAt a1 0))) (by simp only [execOp, evS, h69]) hq0 (by show _ = bif B3 then _ else undef; rw [hB]; rfl)
        refine ⟨fun t w1 hf hk hp => ?_, ?_⟩
        · have h4 : slot t 4 = .pointer (some ⟨b + 1, 0, none⟩) := hf 4 (by kernel_rfl)
          have h68 : slot t 68 = .bool B3 := hp 68 (by kernel_rfl)
          clear hf hp
          refine stepAt_sym 68 B3 (by kernel_rfl) h68 (fun hB => ?_) (fun hB => by show undef = bif B3 then _ else undef; rw [hB]; rfl)
          refine stepOK_pure (.pointer (some ⟨b + 1, 64, none⟩)) ?_ (by show _ = bif B3 then _ else undef; rw [hB]; rfl)
          simp only [execOp, evS, h4]
          go_simp
        refine ⟨fun t w1 hf hk hp => ?_, ?_⟩
        · have h71 : slot t 71 = bif B3 then (.pointer (some ⟨b + 1, 64, none⟩)) else undef := hp 71 (by kernel_rfl)
          have h68 : slot t 68 = .bool B3 := hp 68 (by kernel_rfl)
          clear hf hp
          refine stepAt_sym 68 B3 (by kernel_rfl) h68 (fun hB => ?_) (fun hB => by show undef = bif B3 then _ else undef; rw [hB]; rfl)
          rw [hB, cond_true] at h71
          have hq0 := load_hash w1 (b + 1) 2 128 _ a1 (F1.out.kept hk) (by omega)
          exact stepOK_sem (.agg (bC 32 (hAt a1 2))) (by simp only [execOp, evS, h71]) hq0 (by show _ = bif B3 then _ else undef; rw [hB]; rfl)
        refine ⟨fun t w1 hf hk hp => ?_, ?_⟩
        · have h70 : slot t 70 = bif B3 then (.agg (bC 32 (hAt a1 0))) else undef := hp 70 (by kernel_rfl)
          have h72 : slot t 72 = bif B3 then (.agg (bC 32 (hAt a1 2))) else undef := hp 72 (by kernel_rfl)
          have h68 : slot t 68 = .bool B3 := hp 68 (by kernel_rfl)
          clear hf hp
          refine stepAt_sym 68 B3 (by kernel_rfl) h68 (fun hB => ?_) (fun hB => by show undef = bif B3 then _ else undef; rw [hB]; rfl)
          rw [hB, cond_true] at h70
          rw [hB, cond_true] at h72
          have hq0 := sameH (hAt a1 0) (hAt a1 2) H0 H2 w1
          have hq1 := guardH
          refine stepOK_pure (.bool B1) ?_ (by show _ = bif B3 then _ else undef; rw [hB]; rfl)
          simp only [execOp, evS, h70, h72]
          go_simp
        refine ⟨fun t w1 hf hk hp => ?_, ?_⟩
        · have h68 : slot t 68 = .bool B3 := hp 68 (by kernel_rfl)
          have h73 : slot t 73 = bif B3 then (.bool B1) else undef := hp 73 (by kernel_rfl)
          clear hf hp
          refine stepAt_plain rfl ?_
          refine stepOK_pick (B3) rfl h68 ?_
          simp only [evS, h73]
          show _ = (.bool (B3 && B1) : Value)
          cases B3 <;> rfl
        refine ⟨fun t w1 hf hk hp => ?_, ?_⟩
        · have h3 : slot t 3 = .pointer (some ⟨b, 0, none⟩) := hf 3 (by kernel_rfl)
          clear hf hp
          refine stepAt_plain rfl ?_
          refine stepOK_pure (.pointer (some ⟨b, 0, none⟩)) ?_ rfl
          simp only [execOp, evS, h3]
          go_simp
        refine ⟨fun t w1 hf hk hp => ?_, ?_⟩
        · have h75 : slot t 75 = .pointer (some ⟨b, 0, none⟩) := hp 75 (by kernel_rfl)
          clear hf hp
          refine stepAt_plain rfl ?_
          have hq0 := ((F0.out.kept hk).cell 0).trans (show (sC 2 S0)[0]? = some (.string (S0 0)) from rfl)
          refine stepOK_pure (.string (S0 0)) ?_ rfl
          simp only [execOp, evS, h75]
          go_simp
        refine ⟨fun t w1 hf hk hp => ?_, ?_⟩
        · have h3 : slot t 3 = .pointer (some ⟨b, 0, none⟩) := hf 3 (by kernel_rfl)
          clear hf hp
          refine stepAt_plain rfl ?_
          refine stepOK_pure (.pointer (some ⟨b, 1, none⟩)) ?_ rfl
          simp only [execOp, evS, h3]
          go_simp
        refine ⟨fun t w1 hf hk hp => ?_, ?_⟩
        · have h77 : slot t 77 = .pointer (some ⟨b, 1, none⟩) := hp 77 (by kernel_rfl)
          clear hf hp
          refine stepAt_plain rfl ?_
          have hq0 := ((F0.out.kept hk).cell 1).trans (show (sC 2 S0)[1]? = some (.string (S0 1)) from rfl)
          refine stepOK_pure (.string (S0 1)) ?_ rfl
          simp only [execOp, evS, h77]
          go_simp
        refine ⟨fun t w1 hf hk hp => ?_, ?_⟩
        · have h76 : slot t 76 = .string (S0 0) := hp 76 (by kernel_rfl)
          have h78 : slot t 78 = .string (S0 1) := hp 78 (by kernel_rfl)
          clear hf hp
          refine stepAt_plain rfl ?_
          refine stepOK_pure (.bool B0) ?_ rfl
          simp only [execOp, evS, h76, h78]
          go_simp
          exact (beq_strs _ _).trans hb0
        refine ⟨fun t w1 hf hk hp => ?_, ?_⟩
        · have h50 : slot t 50 = .bool B0 := hp 50 (by kernel_rfl)
          have h62 : slot t 62 = .bool (B1 && B2) := hp 62 (by kernel_rfl)
          have h74 : slot t 74 = .bool (B3 && B1) := hp 74 (by kernel_rfl)
          have h79 : slot t 79 = .bool B0 := hp 79 (by kernel_rfl)
          clear hf hp
          refine stepAt_plain rfl ?_
          have hq0 := run_build4b B0 (B1 && B2) (B3 && B1) B0 w1
          refine .value ((sliceAt0 4) w1.heap.size) (w1.alloc (.cells (bvC 4 (sameB B0 B1 B2 B3)) 4)) ?_ ((Kept.refl w1).alloc _) ⟨_, rfl, Rowz.new w1 _ _⟩
          simp only [execOp, evS, List.map_toArray, List.map_cons, List.map_nil, h50, h62, h74, h79, sliceAt0]
          go_simp
          rfl
        refine ⟨fun t w1 hf hk hp => ?_, ?_⟩
        · obtain ⟨g80, h80, r80⟩ : ∃ g, slot t 80 = (sliceAt0 4) g ∧ Rowz w1 g (bvC 4 (sameB B0 B1 B2 B3)) 4 := hp 80 (by kernel_rfl)
          simp only [sliceAt0] at h80
          clear hf hp
          refine stepAt_plain rfl ?_
          exact stepOK_move _ (.inr rfl) ⟨g80, h80, r80⟩
        exact trivial
      · intro t w1 hsz hf hk hfacts
        obtain ⟨g9, h9, r9⟩ : ∃ g, slot t 9 = (sliceAt0 4) g ∧ Rowz w1 g (bvC 4 (sameB B0 B1 B2 B3)) 4 := hfacts 35 _ rfl 9 rfl
        simp only [sliceAt0] at h9
        have h3 : slot t 3 = .pointer (some ⟨b, 0, none⟩) := hf 3 (by kernel_rfl)
        have h4 : slot t 4 = .pointer (some ⟨b + 1, 0, none⟩) := hf 4 (by kernel_rfl)
        have h5 : slot t 5 = .pointer (some ⟨b + 2, 0, none⟩) := hf 5 (by kernel_rfl)
        have h7 : slot t 7 = .slice (some ⟨g7, 0, none⟩) 4 4 := hf 7 (by kernel_rfl)
        have h8 : slot t 8 = .slice (some ⟨g8, 0, none⟩) 4 4 := hf 8 (by kernel_rfl)
        have harr : t = #[slot t 0, slot t 1, slot t 2, slot t 3, slot t 4, slot t 5, slot t 6, slot t 7, slot t 8, slot t 9, slot t 10, slot t 11, slot t 12, slot t 13, slot t 14, slot t 15, slot t 16, slot t 17, slot t 18, slot t 19, slot t 20, slot t 21, slot t 22, slot t 23, slot t 24, slot t 25, slot t 26, slot t 27, slot t 28, slot t 29, slot t 30, slot t 31, slot t 32, slot t 33, slot t 34, slot t 35, slot t 36, slot t 37, slot t 38, slot t 39, slot t 40, slot t 41, slot t 42, slot t 43, slot t 44, slot t 45, slot t 46, slot t 47, slot t 48, slot t 49, slot t 50, slot t 51, slot t 52, slot t 53, slot t 54, slot t 55, slot t 56, slot t 57, slot t 58, slot t 59, slot t 60, slot t 61, slot t 62, slot t 63, slot t 64, slot t 65, slot t 66, slot t 67, slot t 68, slot t 69, slot t 70, slot t 71, slot t 72, slot t 73, slot t 74, slot t 75, slot t 76, slot t 77, slot t 78, slot t 79, slot t 80, slot t 81, slot t 82, slot t 83, slot t 84, slot t 85, slot t 86, slot t 87, slot t 88, slot t 89, slot t 90, slot t 91, slot t 92, slot t 93, slot t 94, slot t 95, slot t 96, slot t 97, slot t 98, slot t 99, slot t 100, slot t 101, slot t 102, slot t 103, slot t 104, slot t 105, slot t 106, slot t 107, slot t 108] := arr_eq t 109 hsz
        rw [harr, h9, h3, h4, h5, h7, h8]
        clear harr hfacts hf h9 h3 h4 h5 h7 h8
        generalize slot t 0 = x0; generalize slot t 1 = x1; generalize slot t 2 = x2; generalize slot t 6 = x6; generalize slot t 10 = x10; generalize slot t 11 = x11; generalize slot t 12 = x12; generalize slot t 13 = x13; generalize slot t 14 = x14; generalize slot t 15 = x15; generalize slot t 16 = x16; generalize slot t 17 = x17
        generalize slot t 18 = x18; generalize slot t 19 = x19; generalize slot t 20 = x20; generalize slot t 21 = x21; generalize slot t 22 = x22; generalize slot t 23 = x23; generalize slot t 24 = x24; generalize slot t 25 = x25; generalize slot t 26 = x26; generalize slot t 27 = x27; generalize slot t 28 = x28; generalize slot t 29 = x29
        generalize slot t 30 = x30; generalize slot t 31 = x31; generalize slot t 32 = x32; generalize slot t 33 = x33; generalize slot t 34 = x34; generalize slot t 35 = x35; generalize slot t 36 = x36; generalize slot t 37 = x37; generalize slot t 38 = x38; generalize slot t 39 = x39; generalize slot t 40 = x40; generalize slot t 41 = x41
        generalize slot t 42 = x42; generalize slot t 43 = x43; generalize slot t 44 = x44; generalize slot t 45 = x45; generalize slot t 46 = x46; generalize slot t 47 = x47; generalize slot t 48 = x48; generalize slot t 49 = x49; generalize slot t 50 = x50; generalize slot t 51 = x51; generalize slot t 52 = x52; generalize slot t 53 = x53
        generalize slot t 54 = x54; generalize slot t 55 = x55; generalize slot t 56 = x56; generalize slot t 57 = x57; generalize slot t 58 = x58; generalize slot t 59 = x59; generalize slot t 60 = x60; generalize slot t 61 = x61; generalize slot t 62 = x62; generalize slot t 63 = x63; generalize slot t 64 = x64; generalize slot t 65 = x65
        generalize slot t 66 = x66; generalize slot t 67 = x67; generalize slot t 68 = x68; generalize slot t 69 = x69; generalize slot t 70 = x70; generalize slot t 71 = x71; generalize slot t 72 = x72; generalize slot t 73 = x73; generalize slot t 74 = x74; generalize slot t 75 = x75; generalize slot t 76 = x76; generalize slot t 77 = x77
        generalize slot t 78 = x78; generalize slot t 79 = x79; generalize slot t 80 = x80; generalize slot t 81 = x81; generalize slot t 82 = x82; generalize slot t 83 = x83; generalize slot t 84 = x84; generalize slot t 85 = x85; generalize slot t 86 = x86; generalize slot t 87 = x87; generalize slot t 88 = x88; generalize slot t 89 = x89
        generalize slot t 90 = x90; generalize slot t 91 = x91; generalize slot t 92 = x92; generalize slot t 93 = x93; generalize slot t 94 = x94; generalize slot t 95 = x95; generalize slot t 96 = x96; generalize slot t 97 = x97; generalize slot t 98 = x98; generalize slot t 99 = x99; generalize slot t 100 = x100; generalize slot t 101 = x101
        generalize slot t 102 = x102; generalize slot t 103 = x103; generalize slot t 104 = x104; generalize slot t 105 = x105; generalize slot t 106 = x106; generalize slot t 107 = x107; generalize slot t 108 = x108
        clear hsz t
        have G9 := Lib.hid r9
        replace G7 := Lib.hid (G7.out.kept hk)
        replace G8 := Lib.hid (G8.out.kept hk)
        replace FK := Lib.hid (FK.out.trans hk)
        clear r9 hk F0 F1 F2 hb0 hb1 hb2 hb3 H0 H1 H2 H3 hS0 hS1 hm0 hm1
        generalize hT1 : txt (S0 0) (hAt a1 0) (hAt a1 1) m0 = T1 at HT G7
        generalize hT2 : txt (S0 1) (hAt a1 2) (hAt a1 3) m1 = T2 at HT G8
        generalize hT3 : sameB B0 B1 B2 B3 = T3 at HT G9
        clear hT1 hT2 hT3
        go_wp2_with fail
        go_loopw [10] (fun i wr => ∃ p : Nat, p ≤ 4 ∧ i = .int .i64 p ∧ Hid (Rowz wr g7 (sC 4 T1) 9) ∧ Hid (Rowz wr g8 (sC 4 T2) 9) ∧ Hid (Rowz wr g9 (bvC 4 T3) 4) ∧ Hid (Kept w wr)) (fun i _ => 4 - (intOf i).toNat)
        case atStart => exact ⟨0, by omega, rfl, G7, G8, G9, FK⟩
        case round =>
          clear G7 G8 G9 FK
          obtain ⟨p, hp, rfl, G7, G8, G9, FK⟩ := hrel
          by_cases hlt : p < 4
          · have hd : decide ((p : Int) < 4) = true := by simp; omega
            go_wp2_with fail
            go_loopw [11] (fun i wr => ∃ q : Nat, q ≤ 4 ∧ i = .int .i64 q ∧ Hid (Rowz wr g7 (sC 4 T1) 9) ∧ Hid (Rowz wr g8 (sC 4 T2) 9) ∧ Hid (Rowz wr g9 (bvC 4 T3) 4) ∧ Hid (Kept w wr)) (fun i _ => 4 - (intOf i).toNat)
            case atStart => exact ⟨0, by omega, rfl, G7, G8, G9, FK⟩
            case round =>
              clear G7 G8 G9 FK
              obtain ⟨q, hq, rfl, G7, G8, G9, FK⟩ := hrel
              by_cases hlq : q < 4
              · have hdq : decide ((q : Int) < 4) = true := by simp; omega
                have hp4 : (p : Int) < 4 := by omega
                have hq4 : (q : Int) < 4 := by omega
                generalize hD : decide (p = q) = D
                have hE : decide (T1 p = T2 q) = (D && T3 p) := (HT.out p q hlt hlq).trans (by rw [hD])
                go_wp2_with fail
                refine wp_region_table [(89, .is (.slice (some ⟨g7, 0, none⟩) 4 4)), (90, .is (.int .i64 p)), (91, .is (.pointer (some ⟨g7, p, none⟩))), (92, .is (.string (T1 p))), (93, .is (.slice (some ⟨g8, 0, none⟩) 4 4)), (94, .is (.int .i64 q)), (95, .is (.pointer (some ⟨g8, q, none⟩))), (96, .is (.string (T2 q))), (97, .is (.bool (D && T3 p))), (98, .is (.int .i64 p)), (99, .is (.int .i64 q)), (100, .is (.bool D)), (101, .is (.bool D)), (102, .is (bif D then (.slice (some ⟨g9, 0, none⟩) 4 4) else undef)), (103, .is (bif D then (.int .i64 p) else undef)), (104, .is (bif D then (.pointer (some ⟨g9, p, none⟩)) else undef)), (105, .is (bif D then (.bool (T3 p)) else undef)), (106, .is (.bool (D && T3 p))), (107, .is (.bool false))] (by kernel_rfl) (by kernel_rfl) ?_ ?_
                · refine ⟨fun t w1 hf hk hp => ?_, ?_⟩
                  · have h7 : slot t 7 = .slice (some ⟨g7, 0, none⟩) 4 4 := hf 7 (by kernel_rfl)
                    clear hf hp
                    refine stepAt_plain rfl ?_
                    exact stepOK_move _ (.inl rfl) h7
                  refine ⟨fun t w1 hf hk hp => ?_, ?_⟩
                  · have h10 : slot t 10 = .int .i64 p := hf 10 (by kernel_rfl)
                    clear hf hp
                    refine stepAt_plain rfl ?_
                    exact stepOK_move _ (.inl rfl) h10
                  refine ⟨fun t w1 hf hk hp => ?_, ?_⟩
                  · have h89 : slot t 89 = .slice (some ⟨g7, 0, none⟩) 4 4 := hp 89 (by kernel_rfl)
                    have h90 : slot t 90 = .int .i64 p := hp 90 (by kernel_rfl)
                    clear hf hp
                    refine stepAt_plain rfl ?_
                    refine stepOK_pure (.pointer (some ⟨g7, p, none⟩)) ?_ rfl
                    simp only [execOp, evS, h89, h90]
                    go_simp
                  refine ⟨fun t w1 hf hk hp => ?_, ?_⟩
                  · have h91 : slot t 91 = .pointer (some ⟨g7, p, none⟩) := hp 91 (by kernel_rfl)
                    clear hf hp
                    refine stepAt_plain rfl ?_
                    have hq0 := ((G7.out.kept hk).cell p).trans (show (sC 4 T1)[p]? = some (.string (T1 p)) by simp [sC, hlt])
                    refine stepOK_pure (.string (T1 p)) ?_ rfl
                    simp only [execOp, evS, h91]
                    go_simp
                  refine ⟨fun t w1 hf hk hp => ?_, ?_⟩
                  · have h8 : slot t 8 = .slice (some ⟨g8, 0, none⟩) 4 4 := hf 8 (by kernel_rfl)
                    clear hf hp
                    refine stepAt_plain rfl ?_
                    exact stepOK_move _ (.inl rfl) h8
                  refine ⟨fun t w1 hf hk hp => ?_, ?_⟩
                  · have h11 : slot t 11 = .int .i64 q := hf 11 (by kernel_rfl)
                    clear hf hp
                    refine stepAt_plain rfl ?_
                    exact stepOK_move _ (.inl rfl) h11
                  refine ⟨fun t w1 hf hk hp => ?_, ?_⟩
                  · have h93 : slot t 93 = .slice (some ⟨g8, 0, none⟩) 4 4 := hp 93 (by kernel_rfl)
                    have h94 : slot t 94 = .int .i64 q := hp 94 (by kernel_rfl)
                    clear hf hp
                    refine stepAt_plain rfl ?_
                    refine stepOK_pure (.pointer (some ⟨g8, q, none⟩)) ?_ rfl
                    simp only [execOp, evS, h93, h94]
                    go_simp
                  refine ⟨fun t w1 hf hk hp => ?_, ?_⟩
                  · have h95 : slot t 95 = .pointer (some ⟨g8, q, none⟩) := hp 95 (by kernel_rfl)
                    clear hf hp
                    refine stepAt_plain rfl ?_
                    have hq0 := ((G8.out.kept hk).cell q).trans (show (sC 4 T2)[q]? = some (.string (T2 q)) by simp [sC, hlq])
                    refine stepOK_pure (.string (T2 q)) ?_ rfl
                    simp only [execOp, evS, h95]
                    go_simp
                  refine ⟨fun t w1 hf hk hp => ?_, ?_⟩
                  · have h92 : slot t 92 = .string (T1 p) := hp 92 (by kernel_rfl)
                    have h96 : slot t 96 = .string (T2 q) := hp 96 (by kernel_rfl)
                    clear hf hp
                    refine stepAt_plain rfl ?_
                    refine stepOK_pure (.bool (D && T3 p)) ?_ rfl
                    simp only [execOp, evS, h92, h96]
                    go_simp
                    exact (beq_strs _ _).trans hE
                  refine ⟨fun t w1 hf hk hp => ?_, ?_⟩
                  · have h10 : slot t 10 = .int .i64 p := hf 10 (by kernel_rfl)
                    clear hf hp
                    refine stepAt_plain rfl ?_
                    exact stepOK_move _ (.inl rfl) h10
                  refine ⟨fun t w1 hf hk hp => ?_, ?_⟩
                  · have h11 : slot t 11 = .int .i64 q := hf 11 (by kernel_rfl)
                    clear hf hp
                    refine stepAt_plain rfl ?_
                    exact stepOK_move _ (.inl rfl) h11
                  refine ⟨fun t w1 hf hk hp => ?_, ?_⟩
                  · have h98 : slot t 98 = .int .i64 p := hp 98 (by kernel_rfl)
                    have h99 : slot t 99 = .int .i64 q := hp 99 (by kernel_rfl)
                    clear hf hp
                    refine stepAt_plain rfl ?_
                    refine stepOK_pure (.bool D) ?_ rfl
                    simp only [execOp, evS, h98, h99]
                    go_simp
                    exact (beq_nats _ _).trans hD
                  refine ⟨fun t w1 hf hk hp => ?_, ?_⟩
                  · have h100 : slot t 100 = .bool D := hp 100 (by kernel_rfl)
                    clear hf hp
                    refine stepAt_plain rfl ?_
                    exact stepOK_move _ (.inl rfl) h100
                  refine ⟨fun t w1 hf hk hp => ?_, ?_⟩
                  · have h9 : slot t 9 = .slice (some ⟨g9, 0, none⟩) 4 4 := hf 9 (by kernel_rfl)
                    have h101 : slot t 101 = .bool D := hp 101 (by kernel_rfl)
                    clear hf hp
                    refine stepAt_sym 101 D (by kernel_rfl) h101 (fun hB => ?_) (fun hB => by show undef = bif D then _ else undef; rw [hB]; rfl)
                    refine stepOK_move _ (.inl rfl) ?_
                    show slot t 9 = bif D then _ else undef
                    rw [hB, cond_true]
                    exact h9
                  refine ⟨fun t w1 hf hk hp => ?_, ?_⟩
                  · have h10 : slot t 10 = .int .i64 p := hf 10 (by kernel_rfl)
                    have h101 : slot t 101 = .bool D := hp 101 (by kernel_rfl)
                    clear hf hp
                    refine stepAt_sym 101 D (by kernel_rfl) h101 (fun hB => ?_) (fun hB => by show undef = bif D then _ else undef; rw [hB]; rfl)
                    refine stepOK_move _ (.inl rfl) ?_
                    show slot t 10 = bif D then _ else undef
                    rw [hB, cond_true]
                    exact h10
                  refine ⟨fun t w1 hf hk hp => ?_, ?_⟩
                  · have h102 : slot t 102 = bif D then (.slice (some ⟨g9, 0, none⟩) 4 4) else undef := hp 102 (by kernel_rfl)
                    have h103 : slot t 103 = bif D then (.int .i64 p) else undef := hp 103 (by kernel_rfl)
                    have h101 : slot t 101 = .bool D := hp 101 (by kernel_rfl)
                    clear hf hp
                    refine stepAt_sym 101 D (by kernel_rfl) h101 (fun hB => ?_) (fun hB => by show undef = bif D then _ else undef; rw [hB]; rfl)
                    rw [hB, cond_true] at h102
                    rw [hB, cond_true] at h103
                    refine stepOK_pure (.pointer (some ⟨g9, p, none⟩)) ?_ (by show _ = bif D then _ else undef; rw [hB]; rfl)
                    simp only [execOp, evS, h102, h103]
                    go_simp
                  refine ⟨fun t w1 hf hk hp => ?_, ?_⟩
                  · have h104 : slot t 104 = bif D then (.pointer (some ⟨g9, p, none⟩)) else undef := hp 104 (by kernel_rfl)
                    have h101 : slot t 101 = .bool D := hp 101 (by kernel_rfl)
                    clear hf hp
                    refine stepAt_sym 101 D (by kernel_rfl) h101 (fun hB => ?_) (fun hB => by show undef = bif D then _ else undef; rw [hB]; rfl)
                    rw [hB, cond_true] at h104
                    have hq0 := ((G9.out.kept hk).cell p).trans (show (bvC 4 T3)[p]? = some (.bool (T3 p)) by simp [bvC, hlt])
                    refine stepOK_pure (.bool (T3 p)) ?_ (by show _ = bif D then _ else undef; rw [hB]; rfl)
                    simp only [execOp, evS, h104]
                    go_simp
                  refine ⟨fun t w1 hf hk hp => ?_, ?_⟩
                  · have h101 : slot t 101 = .bool D := hp 101 (by kernel_rfl)
                    have h105 : slot t 105 = bif D then (.bool (T3 p)) else undef := hp 105 (by kernel_rfl)
                    clear hf hp
                    refine stepAt_plain rfl ?_
                    refine stepOK_pick (D) rfl h101 ?_
                    simp only [evS, h105]
                    show _ = (.bool (D && T3 p) : Value)
                    cases D <;> rfl
                  refine ⟨fun t w1 hf hk hp => ?_, ?_⟩
                  · have h97 : slot t 97 = .bool (D && T3 p) := hp 97 (by kernel_rfl)
                    have h106 : slot t 106 = .bool (D && T3 p) := hp 106 (by kernel_rfl)
                    clear hf hp
                    refine stepAt_plain rfl ?_
                    refine stepOK_pure (.bool false) ?_ rfl
                    simp only [execOp, evS, h97, h106]
                    go_simp
                  exact trivial
                · intro t w1 hsz hf hk hfacts
                  have h107 : slot t 107 = .bool false := hfacts 18 _ rfl 107 rfl
                  have h7 : slot t 7 = .slice (some ⟨g7, 0, none⟩) 4 4 := hf 7 (by kernel_rfl)
                  have h8 : slot t 8 = .slice (some ⟨g8, 0, none⟩) 4 4 := hf 8 (by kernel_rfl)
                  have h9 : slot t 9 = .slice (some ⟨g9, 0, none⟩) 4 4 := hf 9 (by kernel_rfl)
                  have h10 : slot t 10 = .int .i64 p := hf 10 (by kernel_rfl)
                  have h11 : slot t 11 = .int .i64 q := hf 11 (by kernel_rfl)
                  have h0 := hf 0 (by kernel_rfl)
                  conv at h0 => rhs; whnf
                  have h1 := hf 1 (by kernel_rfl)
                  conv at h1 => rhs; whnf
                  have h2 := hf 2 (by kernel_rfl)
                  conv at h2 => rhs; whnf
                  have h3 := hf 3 (by kernel_rfl)
                  conv at h3 => rhs; whnf
                  have h4 := hf 4 (by kernel_rfl)
                  conv at h4 => rhs; whnf
                  have h5 := hf 5 (by kernel_rfl)
                  conv at h5 => rhs; whnf
                  have h6 := hf 6 (by kernel_rfl)
                  conv at h6 => rhs; whnf
                  have h12 := hf 12 (by kernel_rfl)
                  conv at h12 => rhs; whnf
                  have h13 := hf 13 (by kernel_rfl)
                  conv at h13 => rhs; whnf
                  have h14 := hf 14 (by kernel_rfl)
                  conv at h14 => rhs; whnf
                  have h15 := hf 15 (by kernel_rfl)
                  conv at h15 => rhs; whnf
                  have h16 := hf 16 (by kernel_rfl)
                  conv at h16 => rhs; whnf
                  have h17 := hf 17 (by kernel_rfl)
                  conv at h17 => rhs; whnf
                  have h18 := hf 18 (by kernel_rfl)
                  conv at h18 => rhs; whnf
                  have h19 := hf 19 (by kernel_rfl)
                  conv at h19 => rhs; whnf
                  have h20 := hf 20 (by kernel_rfl)
                  conv at h20 => rhs; whnf
                  have h21 := hf 21 (by kernel_rfl)
                  conv at h21 => rhs; whnf
                  have h22 := hf 22 (by kernel_rfl)
                  conv at h22 => rhs; whnf
                  have h23 := hf 23 (by kernel_rfl)
                  conv at h23 => rhs; whnf
                  have h24 := hf 24 (by kernel_rfl)
                  conv at h24 => rhs; whnf
                  have h25 := hf 25 (by kernel_rfl)
                  conv at h25 => rhs; whnf
                  have h26 := hf 26 (by kernel_rfl)
                  conv at h26 => rhs; whnf
                  have h27 := hf 27 (by kernel_rfl)
                  conv at h27 => rhs; whnf
                  have h28 := hf 28 (by kernel_rfl)
                  conv at h28 => rhs; whnf
                  have h29 := hf 29 (by kernel_rfl)
                  conv at h29 => rhs; whnf
                  have h30 := hf 30 (by kernel_rfl)
                  conv at h30 => rhs; whnf
                  have h31 := hf 31 (by kernel_rfl)
                  conv at h31 => rhs; whnf
                  have h32 := hf 32 (by kernel_rfl)
                  conv at h32 => rhs; whnf
                  have h33 := hf 33 (by kernel_rfl)
                  conv at h33 => rhs; whnf
                  have h34 := hf 34 (by kernel_rfl)
                  conv at h34 => rhs; whnf
                  have h35 := hf 35 (by kernel_rfl)
                  conv at h35 => rhs; whnf
                  have h36 := hf 36 (by kernel_rfl)
                  conv at h36 => rhs; whnf
                  have h37 := hf 37 (by kernel_rfl)
                  conv at h37 => rhs; whnf
                  have h38 := hf 38 (by kernel_rfl)
                  conv at h38 => rhs; whnf
                  have h39 := hf 39 (by kernel_rfl)
                  conv at h39 => rhs; whnf
                  have h40 := hf 40 (by kernel_rfl)
                  conv at h40 => rhs; whnf
                  have h41 := hf 41 (by kernel_rfl)
                  conv at h41 => rhs; whnf
                  have h42 := hf 42 (by kernel_rfl)
                  conv at h42 => rhs; whnf
                  have h43 := hf 43 (by kernel_rfl)
                  conv at h43 => rhs; whnf
                  have h44 := hf 44 (by kernel_rfl)
                  conv at h44 => rhs; whnf
                  have h45 := hf 45 (by kernel_rfl)
                  conv at h45 => rhs; whnf
                  have h46 := hf 46 (by kernel_rfl)
                  conv at h46 => rhs; whnf
                  have h47 := hf 47 (by kernel_rfl)
                  conv at h47 => rhs; whnf
                  have h48 := hf 48 (by kernel_rfl)
                  conv at h48 => rhs; whnf
                  have h49 := hf 49 (by kernel_rfl)
                  conv at h49 => rhs; whnf
                  have h50 := hf 50 (by kernel_rfl)
                  conv at h50 => rhs; whnf
                  have h51 := hf 51 (by kernel_rfl)
                  conv at h51 => rhs; whnf
                  have h52 := hf 52 (by kernel_rfl)
                  conv at h52 => rhs; whnf
                  have h53 := hf 53 (by kernel_rfl)
                  conv at h53 => rhs; whnf
                  have h54 := hf 54 (by kernel_rfl)
                  conv at h54 => rhs; whnf
                  have h55 := hf 55 (by kernel_rfl)
                  conv at h55 => rhs; whnf
                  have h56 := hf 56 (by kernel_rfl)
                  conv at h56 => rhs; whnf
                  have h57 := hf 57 (by kernel_rfl)
                  conv at h57 => rhs; whnf
                  have h58 := hf 58 (by kernel_rfl)
                  conv at h58 => rhs; whnf
                  have h59 := hf 59 (by kernel_rfl)
                  conv at h59 => rhs; whnf
                  have h60 := hf 60 (by kernel_rfl)
                  conv at h60 => rhs; whnf
                  have h61 := hf 61 (by kernel_rfl)
                  conv at h61 => rhs; whnf
                  have h62 := hf 62 (by kernel_rfl)
                  conv at h62 => rhs; whnf
                  have h63 := hf 63 (by kernel_rfl)
                  conv at h63 => rhs; whnf
                  have h64 := hf 64 (by kernel_rfl)
                  conv at h64 => rhs; whnf
                  have h65 := hf 65 (by kernel_rfl)
                  conv at h65 => rhs; whnf
                  have h66 := hf 66 (by kernel_rfl)
                  conv at h66 => rhs; whnf
                  have h67 := hf 67 (by kernel_rfl)
                  conv at h67 => rhs; whnf
                  have h68 := hf 68 (by kernel_rfl)
                  conv at h68 => rhs; whnf
                  have h69 := hf 69 (by kernel_rfl)
                  conv at h69 => rhs; whnf
                  have h70 := hf 70 (by kernel_rfl)
                  conv at h70 => rhs; whnf
                  have h71 := hf 71 (by kernel_rfl)
                  conv at h71 => rhs; whnf
                  have h72 := hf 72 (by kernel_rfl)
                  conv at h72 => rhs; whnf
                  have h73 := hf 73 (by kernel_rfl)
                  conv at h73 => rhs; whnf
                  have h74 := hf 74 (by kernel_rfl)
                  conv at h74 => rhs; whnf
                  have h75 := hf 75 (by kernel_rfl)
                  conv at h75 => rhs; whnf
                  have h76 := hf 76 (by kernel_rfl)
                  conv at h76 => rhs; whnf
                  have h77 := hf 77 (by kernel_rfl)
                  conv at h77 => rhs; whnf
                  have h78 := hf 78 (by kernel_rfl)
                  conv at h78 => rhs; whnf
                  have h79 := hf 79 (by kernel_rfl)
                  conv at h79 => rhs; whnf
                  have h80 := hf 80 (by kernel_rfl)
                  conv at h80 => rhs; whnf
                  have h81 := hf 81 (by kernel_rfl)
                  conv at h81 => rhs; whnf
                  have h82 := hf 82 (by kernel_rfl)
                  conv at h82 => rhs; whnf
                  have h83 := hf 83 (by kernel_rfl)
                  conv at h83 => rhs; whnf
                  have h84 := hf 84 (by kernel_rfl)
                  conv at h84 => rhs; whnf
                  have h85 := hf 85 (by kernel_rfl)
                  conv at h85 => rhs; whnf
                  have h86 := hf 86 (by kernel_rfl)
                  conv at h86 => rhs; whnf
                  have h87 := hf 87 (by kernel_rfl)
                  conv at h87 => rhs; whnf
                  have h88 := hf 88 (by kernel_rfl)
                  conv at h88 => rhs; whnf
                  have h108 := hf 108 (by kernel_rfl)
                  conv at h108 => rhs; whnf
                  have harr : t = #[slot t 0, slot t 1, slot t 2, slot t 3, slot t 4, slot t 5, slot t 6, slot t 7, slot t 8, slot t 9, slot t 10, slot t 11, slot t 12, slot t 13, slot t 14, slot t 15, slot t 16, slot t 17, slot t 18, slot t 19, slot t 20, slot t 21, slot t 22, slot t 23, slot t 24, slot t 25, slot t 26, slot t 27, slot t 28, slot t 29, slot t 30, slot t 31, slot t 32, slot t 33, slot t 34, slot t 35, slot t 36, slot t 37, slot t 38, slot t 39, slot t 40, slot t 41, slot t 42, slot t 43, slot t 44, slot t 45, slot t 46, slot t 47, slot t 48, slot t 49, slot t 50, slot t 51, slot t 52, slot t 53, slot t 54, slot t 55, slot t 56, slot t 57, slot t 58, slot t 59, slot t 60, slot t 61, slot t 62, slot t 63, slot t 64, slot t 65, slot t 66, slot t 67, slot t 68, slot t 69, slot t 70, slot t 71, slot t 72, slot t 73, slot t 74, slot t 75, slot t 76, slot t 77, slot t 78, slot t 79, slot t 80, slot t 81, slot t 82, slot t 83, slot t 84, slot t 85, slot t 86, slot t 87, slot t 88, slot t 89, slot t 90, slot t 91, slot t 92, slot t 93, slot t 94, slot t 95, slot t 96, slot t 97, slot t 98, slot t 99, slot t 100, slot t 101, slot t 102, slot t 103, slot t 104, slot t 105, slot t 106, slot t 107, slot t 108] := arr_eq t 109 hsz
                  rw [harr, h107, h7, h8, h9, h10, h11, h0, h1, h2, h3, h4, h5, h6, h12, h13, h14, h15, h16, h17, h18, h19, h20, h21, h22, h23, h24, h25, h26, h27, h28, h29, h30, h31, h32, h33, h34, h35, h36, h37, h38, h39, h40, h41, h42, h43, h44, h45, h46, h47, h48, h49, h50, h51, h52, h53, h54, h55, h56, h57, h58, h59, h60, h61, h62, h63, h64, h65, h66, h67, h68, h69, h70, h71, h72, h73, h74, h75, h76, h77, h78, h79, h80, h81, h82, h83, h84, h85, h86, h87, h88, h108]
                  clear harr hfacts hf h107 h7 h8 h9 h10 h11 h0 h1 h2 h3 h4 h5 h6 h12 h13 h14 h15 h16 h17 h18 h19 h20 h21 h22 h23 h24 h25 h26 h27 h28 h29 h30 h31 h32 h33 h34 h35 h36 h37 h38 h39 h40 h41 h42 h43 h44 h45 h46 h47 h48 h49 h50 h51 h52 h53 h54 h55 h56 h57 h58 h59 h60 h61 h62 h63 h64 h65 h66 h67 h68 h69 h70 h71 h72 h73 h74 h75 h76 h77 h78 h79 h80 h81 h82 h83 h84 h85 h86 h87 h88 h108
                  generalize slot t 89 = x89; generalize slot t 90 = x90; generalize slot t 91 = x91; generalize slot t 92 = x92; generalize slot t 93 = x93; generalize slot t 94 = x94; generalize slot t 95 = x95; generalize slot t 96 = x96; generalize slot t 97 = x97; generalize slot t 98 = x98; generalize slot t 99 = x99; generalize slot t 100 = x100
                  generalize slot t 101 = x101; generalize slot t 102 = x102; generalize slot t 103 = x103; generalize slot t 104 = x104; generalize slot t 105 = x105; generalize slot t 106 = x106
                  clear hsz t
                  replace G7 := Lib.hid (G7.out.kept hk)
                  replace G8 := Lib.hid (G8.out.kept hk)
                  replace G9 := Lib.hid (G9.out.kept hk)
                  replace FK := Lib.hid (FK.out.trans hk)
                  clear hk hE hD
                  go_wp2
                  go_roundw
                  case measure => simp [intOf]; omega
                  case rel => exact ⟨q + 1, by omega, rfl, G7, G8, G9, FK⟩
              · have hdq : decide ((q : Int) < 4) = false := by simp; omega
                go_wp2
                go_roundw
                case measure => simp [intOf]; omega
                case rel => exact ⟨p + 1, by omega, rfl, G7, G8, G9, FK⟩
          · have hd : decide ((p : Int) < 4) = false := by simp; omega
            go_wp2_with (go_at_call 5; refine (awakeTag_any _).mono ?_; rintro e v4 ⟨rfl, hg4⟩)
            go_ret
            exact ⟨rfl, FK.out.trans hg4⟩

set_option maxRecDepth 100000 in
set_option maxHeartbeats 1000000 in
theorem lifted (os : Os) (started : os.Started) (H : Type) (enc : TypeId × Value → H) :
    ReturnsInHanded {} Try.checked os 4 .any (Rows.tagApartSpec.pre6 enc Try.prog Try.f4 Rows.tagApartRow.domain false) (Rows.tagApartSpec.post enc Try.prog Try.f4 false true false false) := by
  refine returnsInHanded_of_change_sized (C := Try.checked) own started (by kernel_rfl) Try.func4
    (ChangeSpec.witness6 (enc := enc) (C := Try.checked) false ⟨#[], #[.agg #[.string ByteArray.empty, .string ByteArray.empty], .agg #[.int .u8 0, .int .u8 0, .int .u8 0, .int .u8 0, .int .u8 0, .int .u8 0, .int .u8 0, .int .u8 0, .int .u8 0, .int .u8 0, .int .u8 0, .int .u8 0, .int .u8 0, .int .u8 0, .int .u8 0, .int .u8 0, .int .u8 0, .int .u8 0, .int .u8 0, .int .u8 0, .int .u8 0, .int .u8 0, .int .u8 0, .int .u8 0, .int .u8 0, .int .u8 0, .int .u8 0, .int .u8 0, .int .u8 0, .int .u8 0, .int .u8 0, .int .u8 0, .int .u8 0, .int .u8 0, .int .u8 0, .int .u8 0, .int .u8 0, .int .u8 0, .int .u8 0, .int .u8 0, .int .u8 0, .int .u8 0, .int .u8 0, .int .u8 0, .int .u8 0, .int .u8 0, .int .u8 0, .int .u8 0, .int .u8 0, .int .u8 0, .int .u8 0, .int .u8 0, .int .u8 0, .int .u8 0, .int .u8 0, .int .u8 0, .int .u8 0, .int .u8 0, .int .u8 0, .int .u8 0, .int .u8 0, .int .u8 0, .int .u8 0, .int .u8 0, .int .u8 0, .int .u8 0, .int .u8 0, .int .u8 0, .int .u8 0, .int .u8 0, .int .u8 0, .int .u8 0, .int .u8 0, .int .u8 0, .int .u8 0, .int .u8 0, .int .u8 0, .int .u8 0, .int .u8 0, .int .u8 0, .int .u8 0, .int .u8 0, .int .u8 0, .int .u8 0, .int .u8 0, .int .u8 0, .int .u8 0, .int .u8 0, .int .u8 0, .int .u8 0, .int .u8 0, .int .u8 0, .int .u8 0, .int .u8 0, .int .u8 0, .int .u8 0, .int .u8 0, .int .u8 0, .int .u8 0, .int .u8 0, .int .u8 0, .int .u8 0, .int .u8 0, .int .u8 0, .int .u8 0, .int .u8 0, .int .u8 0, .int .u8 0, .int .u8 0, .int .u8 0, .int .u8 0, .int .u8 0, .int .u8 0, .int .u8 0, .int .u8 0, .int .u8 0, .int .u8 0, .int .u8 0, .int .u8 0, .int .u8 0, .int .u8 0, .int .u8 0, .int .u8 0, .int .u8 0, .int .u8 0, .int .u8 0, .int .u8 0, .int .u8 0], .agg #[.int .u64 0, .int .u64 0]], []⟩ 8 (by kernel_rfl) (by kernel_rfl) (by kernel_rfl) (by kernel_rfl)) ?_
  intro W base args ds gs before hval0 hW hcnd hsz0 _
  have hval : ∀ (j : Nat) t v, Try.f4.params[j]? = some t → args[j]? = some v → Value.okWide Try.prog W .any base t v := hval0
  have hsz : (DataW.weightsEach Try.prog (Try.f4.params.toList ++ Rows.tagApartSpec.plain.varTypes Try.prog) (ds ++ gs)).all (· ≤ reachBytes) = true := hsz0
  have hW' := hW
  obtain ⟨p, q, hA0, hV, rfl, hfz, hnd⟩ := hW
  have hA : DataW.TrodAll enc Try.prog W 0 (fun _ => true) true Try.f4.params.toList args.toList ds p := hA0
  have hAk := hA
  rw [Try.params4] at hA hval hsz
  obtain ⟨v0, vs0, d0, ds0, p0_, q0_, hargs, rfl, rfl, h0, r0_⟩ := trodAll_cons hA
  obtain ⟨v1, vs1, d1, ds1, p1_, q1_, rfl, rfl, rfl, h1, r1_⟩ := trodAll_cons r0_
  obtain ⟨v2, vs2, d2, ds2, p2_, q2_, rfl, rfl, rfl, h2, r2_⟩ := trodAll_cons r1_
  obtain ⟨rfl, rfl, rfl⟩ := trodAll_nil r2_
  obtain rfl : args = #[v0, v1, v2] := by cases args; simp_all
  obtain ⟨rfl, rfl⟩ := trodVars_none hV
  have hlt : ∀ x ∈ (p0_ ++ (p1_ ++ (p2_ ++ ([])))), x.block < W.heap.size := fun x hx => by simpa using hW'.lt x (by simpa using hx)
  obtain ⟨cs0, rfl⟩ : ∃ cs, v0 = .agg cs := by
    have := hval 0 33 v0 rfl rfl
    simp only [Value.okWide, Try.underlying33] at this
    obtain ⟨cs, h, _⟩ := this
    exact ⟨cs, h⟩
  obtain ⟨S0, rfl, rr0⟩ := open_strArr Try.underlying33 Try.underlying9 (by kernel_rfl) (by kernel_rfl) h0
  obtain ⟨cs1, rfl⟩ : ∃ cs, v1 = .agg cs := by
    have := hval 1 34 v1 rfl rfl
    simp only [Value.okWide, Try.underlying34] at this
    obtain ⟨cs, h, _⟩ := this
    exact ⟨cs, h⟩
  obtain ⟨a1, n1, rfl⟩ : ∃ l : List UInt8, l.length = 128 ∧ cs1 = bC 128 l := open_hashArr Try.underlying34 Try.underlying23 Try.underlying5 (by kernel_rfl) (by kernel_rfl) (by kernel_rfl) h1
  obtain ⟨cs2, rfl⟩ : ∃ cs, v2 = .agg cs := by
    have := hval 2 35 v2 rfl rfl
    simp only [Value.okWide, Try.underlying35] at this
    obtain ⟨cs, h, _⟩ := this
    exact ⟨cs, h⟩
  obtain ⟨a2, n2, b2, rfl⟩ := open_u64Arr Try.underlying35 Try.underlying25 (by kernel_rfl) (by kernel_rfl) h2
  have r0 := rr0 hsz (J := 0) rfl rfl
  clear hA0 hval0
  refine (walk S0 r0 a1 n1 a2 n2 b2 W ).mono fun e W' ⟨he, hg⟩ => ?_
  subst he
  exact ⟨_, rfl, ⟨_, _, _, [], _, [], hW', trodAll_cons_mk (shut_bool Try.underlying4 _) trodAll_mk0, trodAll_stays laidOut hg (by kernel_rfl) hAk hlt (fun x hx => by simpa using hlt x hx), rfl, Kept.frame hg _, fun h => by cases h⟩⟩

theorem over : Rows.tagApartRow.holds Try.pinned (OpenSpec.ofChange Rows.tagApartSpec) :=
  OpenClaim.holds_of_wide 4 Try.f4 rfl rfl rfl rfl rfl rfl rfl ⟨rfl, rfl, rfl, rfl, rfl⟩ rfl rfl rfl rfl rfl (by kernel_rfl) Try.func4 (by kernel_rfl)
    (of_decide_eq_true (by kernel_rfl)) (by unfold Func.isWrapper; first | (rw [if_pos (by decide +kernel)]; kernel_rfl) | (rw [if_neg (by decide +kernel)]; exact ⟨rfl, rfl⟩))
    (fun os started H enc _ => lifted os started H enc)
end Go.Proofs.Ythngohgfdainaaa.tagApart
namespace Go.Proofs.Ythngohgfdainaaa
theorem tagApart_holds : Rows.TagApartSaid := tagApart.over
#print axioms tagApart_holds
end Go.Proofs.Ythngohgfdainaaa
