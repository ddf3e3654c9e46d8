/-
  wide's Shr is the reference's, at every hash and every shift, and so is Len; chapter 4's examples hold: 'WideShifts' returns true.
  Conditions: none.
-/
import Derived.Test.YtpgmnkmbekikeaaRows
import Derived.Test.YtpgmnkmbekikeaaWideWalkD
import Derived.Test.YtpgmnkmbekikeaaWideRefB
import Derived.Test.YtpgmnkmbekikeaaLawLib
import Derived.WalkKit
import Derived.ProofKit
import Derived.OpenShut
import Derived.ShutString
import Derived.SizedLaws
import Derived.Test.YtpgmnkmbekikeaaLawLib
namespace Go.Proofs.Ytpgmnkmbekikeaa.wideShifts
open Go.ChangeShapes Go.WideShapes Go.ChangeAt Go.RowKit
open Go.ChangeMaps (open_string shut_string)
set_option linter.unusedVariables false

theorem own : ownKnob Try.prog.godebug = none := by kernel_rfl
theorem laidOut : laidOutB Try.prog = true := by kernel_rfl

set_option maxRecDepth 100000 in
set_option maxHeartbeats 4000000 in
theorem walk (a0 : List UInt8) (n0 : a0.length = 32) (a1 : Int) (w1 : (Lit.int .i64 a1).wf = true) (w : World)  :
    Calls Try.prog 5 #[.agg (bC 32 a0), .int .i64 a1] w fun e w' => e = .returned (.bool true) ∧ Kept w w' := by
  obtain ⟨N, hN, rfl⟩ := hash_num a0 n0
  obtain ⟨h1, h2⟩ := bounds_i64 w1
  have HN := Lib.hid hN
  clear hN n0 w1
  go_enter Try.func5, Try.ntmps5
  go_wp2_with fail
  have F0 := Lib.hid (Rowz.new w (bC 32 (be 32 N)) 23)
  have K0 := Lib.hid ((Kept.refl w).alloc (.cells (bC 32 (be 32 N)) 23))
  generalize w.alloc (.cells (bC 32 (be 32 N)) 23) = v at F0 K0 ⊢
  refine wp_region_made 5 [5] [(7, .is (.agg (bC 32 (be 32 N)))), (8, .is (.agg (nC N 4))), (9, .is (.agg (bC 32 (be 32 N)))), (10, .such (Bits N) bits_kept), (5, .row ptrAt0 (nC 0 0) 26)] (by kernel_rfl) (by kernel_rfl) (by kernel_rfl) ?_ ?_
  · refine ⟨fun t w1 hf hk hp => ?_, ?_⟩
    · have h2 : slot t 2 = .pointer (some ⟨w.heap.size, 0, none⟩) := hf 2 (by kernel_rfl)
      clear hf hp
      refine stepM_at (by kernel_rfl) ?_
      refine stepAt_plain rfl ?_
      have hq0 := Rowz.load (F0.out.kept hk) 32 5 Try.underlying23 (infoH _)
      exact stepOK_sem (.agg (bC 32 (be 32 N))) (by simp only [execOp, evS, h2]) hq0 rfl
    refine ⟨fun t w1 hf hk hp => ?_, ?_⟩
    · have h7 : slot t 7 = .agg (bC 32 (be 32 N)) := hp 7 (by kernel_rfl)
      clear hf hp
      refine stepM_at (by kernel_rfl) ?_
      refine stepAt_plain rfl ?_
      refine stepOK_call #[.agg (bC 32 (be 32 N))] rfl (by simp only [List.map_toArray, List.map_cons, List.map_nil, evS, h7]) (by go_simp) ((wideOf_any N w1).mono fun e w' ⟨he, hk'⟩ => ⟨_, he, Grown.kept hk', rfl⟩)
    refine ⟨fun t w1 hf hk hp => ?_, ?_⟩
    · have h2 : slot t 2 = .pointer (some ⟨w.heap.size, 0, none⟩) := hf 2 (by kernel_rfl)
      clear hf hp
      refine stepM_at (by kernel_rfl) ?_
      refine stepAt_plain rfl ?_
      have hq0 := Rowz.load (F0.out.kept hk) 32 5 Try.underlying23 (infoH _)
      exact stepOK_sem (.agg (bC 32 (be 32 N))) (by simp only [execOp, evS, h2]) hq0 rfl
    refine ⟨fun t w1 hf hk hp => ?_, ?_⟩
    · have h9 : slot t 9 = .agg (bC 32 (be 32 N)) := hp 9 (by kernel_rfl)
      clear hf hp
      refine stepM_at (by kernel_rfl) ?_
      refine stepAt_plain rfl ?_
      refine stepOK_call #[.agg (bC 32 (be 32 N))] rfl (by simp only [List.map_toArray, List.map_cons, List.map_nil, evS, h9]) (by go_simp) ((refOf4_any N w1).mono fun e w' ⟨v, he, hpv, hk'⟩ => ⟨v, he, hk', hpv⟩)
    refine ⟨fun t w1 hf hk hp => ?_, ?_⟩
    · clear hf hp
      refine stepM_made (by kernel_rfl) ?_
      refine stepMade_new ((nC 0 0)) 26 rfl ?_ ⟨_, rfl, Rowz.new w1 _ _⟩
      simp only [execOp, ptrAt0]
      go_simp
      rfl
    exact trivial
  · intro t w1 hsz hf hk hfacts hmd hap
    obtain ⟨g5, h5, r5⟩ : ∃ g, slot t 5 = ptrAt0 g ∧ Rowz w1 g (nC 0 0) 26 := hfacts 4 _ (by decide) rfl 5 rfl
    simp only [ptrAt0] at h5
    have h8 : slot t 8 = .agg (nC N 4) := hfacts 1 _ (by decide) rfl 8 rfl
    obtain ⟨v10, h10, p10⟩ : ∃ v, slot t 10 = v ∧ (Bits N) v w1 := ⟨_, rfl, hfacts 3 _ (by decide) rfl 10 rfl⟩
    have h1 : slot t 1 = .int .i64 a1 := hf 1 (by kernel_rfl)
    have h2 : slot t 2 = .pointer (some ⟨w.heap.size, 0, none⟩) := hf 2 (by kernel_rfl)
    have l5 := made_ge (hmd 5 (by kernel_rfl)) h5
    have harr : t = #[slot t 0, slot t 1, slot t 2, slot t 3, slot t 4, slot t 5, slot t 6, slot t 7, slot t 8, slot t 9, slot t 10, slot t 11, slot t 12, slot t 13, slot t 14, slot t 15, slot t 16, slot t 17, slot t 18, slot t 19, slot t 20, slot t 21, slot t 22, slot t 23, slot t 24, slot t 25, slot t 26, slot t 27, slot t 28, slot t 29] := arr_eq t 30 hsz
    rw [harr, h5, h8, h10, h1, h2]
    clear harr hfacts hf hmd hap h5 h8 h10 h1 h2
    generalize slot t 0 = x0; generalize slot t 3 = x3; generalize slot t 4 = x4; generalize slot t 6 = x6; generalize slot t 7 = x7; generalize slot t 9 = x9; generalize slot t 11 = x11; generalize slot t 12 = x12; generalize slot t 13 = x13; generalize slot t 14 = x14; generalize slot t 15 = x15; generalize slot t 16 = x16
    generalize slot t 17 = x17; generalize slot t 18 = x18; generalize slot t 19 = x19; generalize slot t 20 = x20; generalize slot t 21 = x21; generalize slot t 22 = x22; generalize slot t 23 = x23; generalize slot t 24 = x24; generalize slot t 25 = x25; generalize slot t 26 = x26; generalize slot t 27 = x27; generalize slot t 28 = x28
    generalize slot t 29 = x29
    clear hsz t
    simp only [List.drop_succ_cons, List.drop_zero]
    have hb1 : w.heap.size ≤ g5 := Nat.le_trans K0.out.size l5
    have KK := Lib.hid ((K0.out.trans hk).setRow hb1 (nC N 4))
    have R5 := Lib.hid (r5.row (D := nC N 4))
    obtain ⟨g, cap, cur, rfl, hc, hr, hb⟩ := p10
    have hgn : g ≠ g5 := by
      intro e
      subst e
      have h1 : Rowz w1 g (nC 0 0) 26 := r5
      have h2 : Rowz w1 g cur 4 := hr
      have := h1.symm.trans h2
      simp at this
    have HU : Hid (Bits N (.slice (some ⟨g, 0, none⟩) 256 cap) (w1.setRow g5 (nC N 4))) := Lib.hid ⟨g, cap, cur, rfl, hc, hr.rowOther hgn, hb⟩
    refine wpList_store_row rfl 26 _ _ rfl g5 (nC N 4) rfl rfl 26 (nC 0 0) r5 (infoN _ _) (by simp [nC_size]) (nC_one _ _) ?_
    clear hr hb r5 hk l5 hb1 hgn
    generalize w1.setRow g5 (nC N 4) = v1 at KK R5 HU ⊢
    go_wp2_with (refine park_at 11 rfl ?_)
    have HSL := shr256_lt N a1 HN.out
    refine unpark ?_
    refine wpList_table 20 [(11, .is (.agg (nC N 4))), (12, .is (.int .i64 a1)), (13, .is (.agg (nC (shr256 N a1) 4))), (14, .is (.agg (bC 32 (be 32 (shr256 N a1))))), (15, .is (.slice (some ⟨g, 0, none⟩) 256 cap)), (16, .is (.int .i64 a1)), (17, .such (Bits (shr256 N a1)) bits_kept), (18, .is (.agg (bC 32 (be 32 (shr256 N a1))))), (19, .is (.bool true)), (20, .is (.bool true)), (21, .is (.agg (nC N 4))), (22, .is (.int .i64 ((bl N : Nat) : Int))), (23, .is (.slice (some ⟨g, 0, none⟩) 256 cap)), (24, .is (.int .i64 ((bl N : Nat) : Int))), (25, .is (.bool true)), (26, .is (.bool true)), (27, .is (.bool true)), (28, .is (.bool true)), (29, .is (.bool true)), (4, .is (.bool true))] (by kernel_rfl) ?_ ?_
    · refine ⟨fun t w1 hf hk hp => ?_, ?_⟩
      · have h5 : slot t 5 = .pointer (some ⟨g5, 0, none⟩) := hf 5 (by kernel_rfl)
        clear hf hp
        refine stepAt_plain rfl ?_
        have hq0 := Rowz.load (R5.out.kept hk) 4 24 Try.underlying26 (infoN _ _)
        exact stepOK_sem (.agg (nC N 4)) (by simp only [execOp, evS, h5]) hq0 rfl
      refine ⟨fun t w1 hf hk hp => ?_, ?_⟩
      · have h1 : slot t 1 = .int .i64 a1 := hf 1 (by kernel_rfl)
        clear hf hp
        refine stepAt_plain rfl ?_
        exact stepOK_move _ (.inl rfl) h1
      refine ⟨fun t w1 hf hk hp => ?_, ?_⟩
      · have h11 : slot t 11 = .agg (nC N 4) := hp 11 (by kernel_rfl)
        have h12 : slot t 12 = .int .i64 a1 := hp 12 (by kernel_rfl)
        clear hf hp
        refine stepAt_plain rfl ?_
        refine stepOK_call #[.agg (nC N 4), .int .i64 a1] rfl (by simp only [List.map_toArray, List.map_cons, List.map_nil, evS, h11, h12]) (by go_simp) ((wideShr_any N a1 w1 HN.out h2).mono fun e w' ⟨he, hk'⟩ => ⟨_, he, hk', rfl⟩)
      refine ⟨fun t w1 hf hk hp => ?_, ?_⟩
      · have h13 : slot t 13 = .agg (nC (shr256 N a1) 4) := hp 13 (by kernel_rfl)
        clear hf hp
        refine stepAt_plain rfl ?_
        refine stepOK_call #[.agg (nC (shr256 N a1) 4)] rfl (by simp only [List.map_toArray, List.map_cons, List.map_nil, evS, h13]) (by go_simp) ((wideHash_any _ w1).mono fun e w' ⟨he, hk'⟩ => ⟨_, he, hk', rfl⟩)
      refine ⟨fun t w1 hf hk hp => ?_, ?_⟩
      · have h6 : slot t 6 = .slice (some ⟨g, 0, none⟩) 256 cap := hf 6 (by kernel_rfl)
        clear hf hp
        refine stepAt_plain rfl ?_
        exact stepOK_move _ (.inl rfl) h6
      refine ⟨fun t w1 hf hk hp => ?_, ?_⟩
      · have h1 : slot t 1 = .int .i64 a1 := hf 1 (by kernel_rfl)
        clear hf hp
        refine stepAt_plain rfl ?_
        exact stepOK_move _ (.inl rfl) h1
      refine ⟨fun t w1 hf hk hp => ?_, ?_⟩
      · have h15 : slot t 15 = .slice (some ⟨g, 0, none⟩) 256 cap := hp 15 (by kernel_rfl)
        have h16 : slot t 16 = .int .i64 a1 := hp 16 (by kernel_rfl)
        clear hf hp
        refine stepAt_plain rfl ?_
        refine stepOK_call #[.slice (some ⟨g, 0, none⟩) 256 cap, .int .i64 a1] rfl (by simp only [List.map_toArray, List.map_cons, List.map_nil, evS, h15, h16]) (by go_simp) ((refShr4_any N a1 _ w1 (bits_kept _ _ _ hk HU.out) HN.out h1 h2).mono fun e w' ⟨v, he, hpv, hk'⟩ => ⟨v, he, hk', hpv⟩)
      refine ⟨fun t w1 hf hk hp => ?_, ?_⟩
      · obtain ⟨v17, h17, p17⟩ : ∃ v, slot t 17 = v ∧ (Bits (shr256 N a1)) v w1 := ⟨_, rfl, hp 17 (by kernel_rfl)⟩
        clear hf hp
        refine stepAt_plain rfl ?_
        refine stepOK_call #[v17] rfl (by simp only [List.map_toArray, List.map_cons, List.map_nil, evS, h17]) (by go_simp) ((refHash4_any _ _ w1 p17).mono fun e w' ⟨he, hk'⟩ => ⟨_, he, hk', rfl⟩)
      refine ⟨fun t w1 hf hk hp => ?_, ?_⟩
      · have h14 : slot t 14 = .agg (bC 32 (be 32 (shr256 N a1))) := hp 14 (by kernel_rfl)
        have h18 : slot t 18 = .agg (bC 32 (be 32 (shr256 N a1))) := hp 18 (by kernel_rfl)
        clear hf hp
        refine stepAt_plain rfl ?_
        have hq0 := sameH1 (be 32 (shr256 N a1)) (be_length 32 _) w1
        have hq1 := guardH
        refine stepOK_pure (.bool true) ?_ rfl
        simp only [execOp, evS, h14, h18]
        go_simp
      refine ⟨fun t w1 hf hk hp => ?_, ?_⟩
      · have h19 : slot t 19 = .bool true := hp 19 (by kernel_rfl)
        clear hf hp
        refine stepAt_plain rfl ?_
        exact stepOK_move _ (.inl rfl) h19
      refine ⟨fun t w1 hf hk hp => ?_, ?_⟩
      · have h5 : slot t 5 = .pointer (some ⟨g5, 0, none⟩) := hf 5 (by kernel_rfl)
        have h20 : slot t 20 = .bool true := hp 20 (by kernel_rfl)
        clear hf hp
        refine stepAt_on 20 true (by kernel_rfl) h20 ?_
        have hq0 := Rowz.load (R5.out.kept hk) 4 24 Try.underlying26 (infoN _ _)
        exact stepOK_sem (.agg (nC N 4)) (by simp only [execOp, evS, h5]) hq0 rfl
      refine ⟨fun t w1 hf hk hp => ?_, ?_⟩
      · have h21 : slot t 21 = .agg (nC N 4) := hp 21 (by kernel_rfl)
        have h20 : slot t 20 = .bool true := hp 20 (by kernel_rfl)
        clear hf hp
        refine stepAt_on 20 true (by kernel_rfl) h20 ?_
        refine stepOK_call #[.agg (nC N 4)] rfl (by simp only [List.map_toArray, List.map_cons, List.map_nil, evS, h21]) (by go_simp) ((wideLen_any N w1 HN.out).mono fun e w' ⟨he, hk'⟩ => ⟨_, he, Grown.kept hk', rfl⟩)
      refine ⟨fun t w1 hf hk hp => ?_, ?_⟩
      · have h6 : slot t 6 = .slice (some ⟨g, 0, none⟩) 256 cap := hf 6 (by kernel_rfl)
        have h20 : slot t 20 = .bool true := hp 20 (by kernel_rfl)
        clear hf hp
        refine stepAt_on 20 true (by kernel_rfl) h20 ?_
        exact stepOK_move _ (.inl rfl) h6
      refine ⟨fun t w1 hf hk hp => ?_, ?_⟩
      · have h23 : slot t 23 = .slice (some ⟨g, 0, none⟩) 256 cap := hp 23 (by kernel_rfl)
        have h20 : slot t 20 = .bool true := hp 20 (by kernel_rfl)
        clear hf hp
        refine stepAt_on 20 true (by kernel_rfl) h20 ?_
        refine stepOK_call #[.slice (some ⟨g, 0, none⟩) 256 cap] rfl (by simp only [List.map_toArray, List.map_cons, List.map_nil, evS, h23]) (by go_simp) ((refLen4_any N _ w1 (bits_kept _ _ _ hk HU.out) HN.out).mono fun e w' ⟨he, hk'⟩ => ⟨_, he, Kept.same hk', rfl⟩)
      refine ⟨fun t w1 hf hk hp => ?_, ?_⟩
      · have h22 : slot t 22 = .int .i64 ((bl N : Nat) : Int) := hp 22 (by kernel_rfl)
        have h24 : slot t 24 = .int .i64 ((bl N : Nat) : Int) := hp 24 (by kernel_rfl)
        have h20 : slot t 20 = .bool true := hp 20 (by kernel_rfl)
        clear hf hp
        refine stepAt_on 20 true (by kernel_rfl) h20 ?_
        refine stepOK_pure (.bool true) ?_ rfl
        simp only [execOp, evS, h22, h24]
        go_simp
      refine ⟨fun t w1 hf hk hp => ?_, ?_⟩
      · have h20 : slot t 20 = .bool true := hp 20 (by kernel_rfl)
        have h25 : slot t 25 = .bool true := hp 25 (by kernel_rfl)
        clear hf hp
        refine stepAt_plain rfl ?_
        refine stepOK_pure (.bool true) ?_ rfl
        simp only [execOp, evS, h20, h25]
        go_simp
      refine ⟨fun t w1 hf hk hp => ?_, ?_⟩
      · have h26 : slot t 26 = .bool true := hp 26 (by kernel_rfl)
        clear hf hp
        refine stepAt_plain rfl ?_
        exact stepOK_move _ (.inl rfl) h26
      refine ⟨fun t w1 hf hk hp => ?_, ?_⟩
      · have h27 : slot t 27 = .bool true := hp 27 (by kernel_rfl)
        clear hf hp
        refine stepAt_on 27 true (by kernel_rfl) h27 ?_
        refine stepOK_call #[] rfl (by simp only [List.map_toArray, List.map_nil]) (by go_simp) ((awake4_any w1).mono fun e w' ⟨he, hk'⟩ => ⟨_, he, hk', rfl⟩)
      refine ⟨fun t w1 hf hk hp => ?_, ?_⟩
      · have h27 : slot t 27 = .bool true := hp 27 (by kernel_rfl)
        have h28 : slot t 28 = .bool true := hp 28 (by kernel_rfl)
        clear hf hp
        refine stepAt_plain rfl ?_
        refine stepOK_pure (.bool true) ?_ rfl
        simp only [execOp, evS, h27, h28]
        go_simp
      refine ⟨fun t w1 hf hk hp => ?_, ?_⟩
      · have h29 : slot t 29 = .bool true := hp 29 (by kernel_rfl)
        clear hf hp
        refine stepAt_plain rfl ?_
        exact stepOK_move _ (.inr rfl) h29
      exact trivial
    · intro t w1 hsz hf hk hfacts
      have h4 : slot t 4 = .bool true := hfacts 4 (by kernel_rfl)
      have h1 : slot t 1 = .int .i64 a1 := hf 1 (by kernel_rfl)
      have h5 : slot t 5 = .pointer (some ⟨g5, 0, none⟩) := hf 5 (by kernel_rfl)
      have h6 : slot t 6 = .slice (some ⟨g, 0, none⟩) 256 cap := hf 6 (by kernel_rfl)
      have harr : t = #[slot t 0, slot t 1, slot t 2, slot t 3, slot t 4, slot t 5, slot t 6, slot t 7, slot t 8, slot t 9, slot t 10, slot t 11, slot t 12, slot t 13, slot t 14, slot t 15, slot t 16, slot t 17, slot t 18, slot t 19, slot t 20, slot t 21, slot t 22, slot t 23, slot t 24, slot t 25, slot t 26, slot t 27, slot t 28, slot t 29] := arr_eq t 30 hsz
      rw [harr, h4, h1, h5, h6]
      clear harr hfacts hf h4 h1 h5 h6
      generalize slot t 0 = x0; generalize slot t 2 = x2; generalize slot t 3 = x3; generalize slot t 7 = x7; generalize slot t 8 = x8; generalize slot t 9 = x9; generalize slot t 10 = x10; generalize slot t 11 = x11; generalize slot t 12 = x12; generalize slot t 13 = x13; generalize slot t 14 = x14; generalize slot t 15 = x15
      generalize slot t 16 = x16; generalize slot t 17 = x17; generalize slot t 18 = x18; generalize slot t 19 = x19; generalize slot t 20 = x20; generalize slot t 21 = x21; generalize slot t 22 = x22; generalize slot t 23 = x23; generalize slot t 24 = x24; generalize slot t 25 = x25; generalize slot t 26 = x26; generalize slot t 27 = x27
      generalize slot t 28 = x28; generalize slot t 29 = x29
      clear hsz t
      simp only [List.drop_succ_cons, List.drop_zero]
      go_wp2
      go_ret
      exact ⟨rfl, KK.out.trans hk⟩

set_option maxRecDepth 100000 in
set_option maxHeartbeats 1000000 in
theorem lifted (os : Os) (started : os.Started) (H : Type) (enc : TypeId × Value → H) :
    ReturnsInHanded {} Try.checked os 5 .any (Rows.wideShiftsSpec.pre6 enc Try.prog Try.f5 Rows.wideShiftsRow.domain false) (Rows.wideShiftsSpec.post enc Try.prog Try.f5 false true false false) := by
  refine returnsInHanded_of_change_sized (C := Try.checked) own started (by kernel_rfl) Try.func5
    (ChangeSpec.witness6 (enc := enc) (C := Try.checked) false ⟨#[], #[.agg #[.int .u8 0, .int .u8 0, .int .u8 0, .int .u8 0, .int .u8 0, .int .u8 0, .int .u8 0, .int .u8 0, .int .u8 0, .int .u8 0, .int .u8 0, .int .u8 0, .int .u8 0, .int .u8 0, .int .u8 0, .int .u8 0, .int .u8 0, .int .u8 0, .int .u8 0, .int .u8 0, .int .u8 0, .int .u8 0, .int .u8 0, .int .u8 0, .int .u8 0, .int .u8 0, .int .u8 0, .int .u8 0, .int .u8 0, .int .u8 0, .int .u8 0, .int .u8 0], .int .i64 0], []⟩ 8 (by kernel_rfl) (by kernel_rfl) (by kernel_rfl) (by kernel_rfl)) ?_
  intro W base args ds gs before hval0 hW hcnd hsz0 _
  have hval : ∀ (j : Nat) t v, Try.f5.params[j]? = some t → args[j]? = some v → Value.okWide Try.prog W .any base t v := hval0
  have hsz : (DataW.weightsEach Try.prog (Try.f5.params.toList ++ Rows.wideShiftsSpec.plain.varTypes Try.prog) (ds ++ gs)).all (· ≤ reachBytes) = true := hsz0
  have hW' := hW
  obtain ⟨p, q, hA0, hV, rfl, hfz, hnd⟩ := hW
  have hA : DataW.TrodAll enc Try.prog W 0 (fun _ => true) true Try.f5.params.toList args.toList ds p := hA0
  have hAk := hA
  rw [Try.params5] at hA hval hsz
  obtain ⟨v0, vs0, d0, ds0, p0_, q0_, hargs, rfl, rfl, h0, r0_⟩ := trodAll_cons hA
  obtain ⟨v1, vs1, d1, ds1, p1_, q1_, rfl, rfl, rfl, h1, r1_⟩ := trodAll_cons r0_
  obtain ⟨rfl, rfl, rfl⟩ := trodAll_nil r1_
  obtain rfl : args = #[v0, v1] := by cases args; simp_all
  obtain ⟨rfl, rfl⟩ := trodVars_none hV
  have hlt : ∀ x ∈ (p0_ ++ (p1_ ++ ([]))), x.block < W.heap.size := fun x hx => by simpa using hW'.lt x (by simpa using hx)
  obtain ⟨cs0, rfl⟩ : ∃ cs, v0 = .agg cs := by
    have := hval 0 23 v0 rfl rfl
    simp only [Value.okWide, Try.underlying23] at this
    obtain ⟨cs, h, _⟩ := this
    exact ⟨cs, h⟩
  obtain ⟨a0, n0, rfl⟩ := open_hash Try.underlying23 Try.underlying5 (by kernel_rfl) (by kernel_rfl) h0
  obtain ⟨a1, rfl, rfl, rfl, w1⟩ := open_int Try.underlying3 (hval 1 3 v1 rfl rfl) h1
  clear hA0 hval0
  refine (walk a0 n0 a1 w1 W ).mono fun e W' ⟨he, hg⟩ => ?_
  subst he
  exact ⟨_, rfl, ⟨_, _, _, [], _, [], hW', trodAll_cons_mk (shut_bool Try.underlying4 _) trodAll_mk0, trodAll_stays laidOut hg (by kernel_rfl) hAk hlt (fun x hx => by simpa using hlt x hx), rfl, Kept.frame hg _, fun h => by cases h⟩⟩

theorem over : Rows.wideShiftsRow.holds Try.pinned (OpenSpec.ofChange Rows.wideShiftsSpec) :=
  OpenClaim.holds_of_wide 5 Try.f5 rfl rfl rfl rfl rfl rfl rfl ⟨rfl, rfl, rfl, rfl, rfl⟩ rfl rfl rfl rfl rfl (by kernel_rfl) Try.func5 (by kernel_rfl)
    (of_decide_eq_true (by kernel_rfl)) (by unfold Func.isWrapper; first | (rw [if_pos (by decide +kernel)]; kernel_rfl) | (rw [if_neg (by decide +kernel)]; exact ⟨rfl, rfl⟩))
    (fun os started H enc _ => lifted os started H enc)
end Go.Proofs.Ytpgmnkmbekikeaa.wideShifts
namespace Go.Proofs.Ytpgmnkmbekikeaa
theorem wideShifts_holds : Rows.WideShiftsSaid := wideShifts.over
#print axioms wideShifts_holds
end Go.Proofs.Ytpgmnkmbekikeaa
