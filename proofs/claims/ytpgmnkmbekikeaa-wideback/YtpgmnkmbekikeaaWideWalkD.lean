/-
  milepostlaw04's awake: chapter 4's examples.
-/
import Derived.Test.YtpgmnkmbekikeaaWideWalkC
namespace Go.Proofs.Ytpgmnkmbekikeaa
open Go.RowKit

theorem full_one : shr256 fullN 255 = 1 := by decide +kernel
theorem full_sum : add256 fullN 1 = 0 := by decide +kernel
theorem full_over : over fullN 1 = true := by decide +kernel
theorem full_len : bl fullN = 256 := bl_of fullN 255 (by decide +kernel) (by decide +kernel)
set_option maxRecDepth 100000 in
set_option maxHeartbeats 600000 in
theorem awake4_any (w : World) : Calls Try.prog 10 #[] w fun e w' => e = .returned (.bool true) ∧ Kept w w' := by
  have hs1 := fun w => sameN 1 1 (by decide) (by decide) w
  have hs0 := fun w => sameN 0 0 (by decide) (by decide) w
  have hgd := guardN
  have hl : Hid (((bl fullN : Nat) : Int) = 256) := Lib.hid (by rw [full_len]; rfl)
  have C0 := Lib.hid fun w => wideShr_any fullN 255 w fullN_lt (by decide)
  have C1 := Lib.hid fun w => wideAdd_any fullN 1 w fullN_lt (by decide)
  have C2 := Lib.hid fun w => wideLen_any fullN w fullN_lt
  rw [full_one] at C0
  rw [full_sum, full_over] at C1
  rw [full_len] at C2
  go_enter Try.func10, Try.ntmps10
  go_wp2_with (first
    | (go_at_call 25; refine (full_any _).mono ?_; rintro e w1 ⟨rfl, k1⟩)
    | (go_at_call 7; refine (wideOf_any fullN _).mono ?_; rintro e w2 ⟨rfl, k2⟩)
    | (go_at_call 18; refine (C0.out _).mono ?_; rintro e w3 ⟨rfl, k3⟩)
    | (go_at_call 11; refine (C1.out _).mono ?_; rintro e w4 ⟨rfl, k4⟩)
    | (refine park_at 15 rfl ?_)
    | (refine wpList_store_made rfl 26 (.tmp 1) (.tmp 6) rfl w2 _ (nC fullN 4) rfl rfl 26 (nC 0 0) (by kernel_rfl) (infoN _ _) (by simp [nC_size]) (nC_one _ _) ?_; intro v1 R1 K1)
    | (refine wpList_load_row rfl 26 (.tmp 1) rfl w2.heap.size rfl 26 (nC fullN 4) (0, 0) _ R1.out Try.underlying26 rfl (infoN _ _) ?_)
    | (refine wpList_store_made rfl 26 (.tmp 2) (.tmp 8) rfl w3 _ (nC 1 4) rfl rfl 26 (nC 0 0) (by kernel_rfl) (infoN _ _) (by simp [nC_size]) (nC_one _ _) ?_; intro v2 R2 K2; replace R1 := Lib.hid ((R1.out.kept k3).kept K2.out))
    | (refine wpList_load_row rfl 26 (.tmp 2) rfl w3.heap.size rfl 26 (nC 1 4) (0, 0) _ R2.out Try.underlying26 rfl (infoN _ _) ?_)
    | (refine wpList_store_made rfl 26 (.tmp 3) (.tmp 13) rfl w4 _ (nC 0 4) rfl rfl 26 (nC 0 0) (by kernel_rfl) (infoN _ _) (by simp [nC_size]) (nC_one _ _) ?_; intro v3 R3 K3; replace R1 := Lib.hid ((R1.out.grown k4).kept K3.out); replace R2 := Lib.hid ((R2.out.grown k4).kept K3.out)))
  have HK := Lib.hid (((((Grown.kept k1).trans (Grown.kept k2)).trans K1.out).trans (k3.trans K2.out)).trans ((Grown.kept k4).trans K3.out))
  clear k1 k2 k3 k4 K1 K2 K3 C0 C1
  refine unpark ?_
  refine wpList_table 17 [(15, .is (.agg (nC fullN 4))), (16, .is (.int .i64 256)), (17, .is (.bool true)), (18, .is (.bool true)), (19, .is (.agg (nC 1 4))), (20, .is (.agg (nC 1 4))), (21, .is (.bool true)), (22, .is (.bool true)), (23, .is (.bool true)), (24, .is (.agg (nC 0 4))), (25, .is (.agg (nC 0 4))), (26, .is (.bool true)), (27, .is (.bool true)), (28, .is (.bool true)), (29, .is (.bool true)), (30, .is (.bool true)), (0, .is (.bool true))] (by kernel_rfl) ?_ ?_
  · refine ⟨fun t w1 hf hk hp => ?_, ?_⟩
    · have h1 : slot t 1 = .pointer (some ⟨w2.heap.size, 0, none⟩) := hf 1 (by kernel_rfl)
      clear hf hp
      refine stepAt_plain rfl ?_
      have hq0 := Rowz.load (R1.out.kept hk) 4 24 Try.underlying26 (infoN _ _)
      exact stepOK_sem (.agg (nC fullN 4)) (by simp only [execOp, evS, h1]) hq0 rfl
    refine ⟨fun t w1 hf hk hp => ?_, ?_⟩
    · have h15 : slot t 15 = .agg (nC fullN 4) := hp 15 (by kernel_rfl)
      clear hf hp
      refine stepAt_plain rfl ?_
      refine stepOK_call #[.agg (nC fullN 4)] rfl (by simp only [List.map_toArray, List.map_cons, List.map_nil, evS, h15]) (by go_simp) ((C2.out w1).mono fun e w' ⟨he, hk'⟩ => ⟨_, he, Grown.kept hk', rfl⟩)
    refine ⟨fun t w1 hf hk hp => ?_, ?_⟩
    · have h16 : slot t 16 = .int .i64 256 := hp 16 (by kernel_rfl)
      clear hf hp
      refine stepAt_plain rfl ?_
      refine stepOK_pure (.bool true) ?_ rfl
      simp only [execOp, evS, h16]
      go_simp
    refine ⟨fun t w1 hf hk hp => ?_, ?_⟩
    · have h17 : slot t 17 = .bool true := hp 17 (by kernel_rfl)
      clear hf hp
      refine stepAt_plain rfl ?_
      exact stepOK_move _ (.inl rfl) h17
    refine ⟨fun t w1 hf hk hp => ?_, ?_⟩
    · have h2 : slot t 2 = .pointer (some ⟨w3.heap.size, 0, none⟩) := hf 2 (by kernel_rfl)
      have h18 : slot t 18 = .bool true := hp 18 (by kernel_rfl)
      clear hf hp
      refine stepAt_on 18 true (by kernel_rfl) h18 ?_
      have hq0 := Rowz.load (R2.out.kept hk) 4 24 Try.underlying26 (infoN _ _)
      exact stepOK_sem (.agg (nC 1 4)) (by simp only [execOp, evS, h2]) hq0 rfl
    refine ⟨fun t w1 hf hk hp => ?_, ?_⟩
    · have h18 : slot t 18 = .bool true := hp 18 (by kernel_rfl)
      clear hf hp
      refine stepAt_on 18 true (by kernel_rfl) h18 ?_
      refine stepOK_pure (.agg (nC 1 4)) ?_ rfl
      simp only [execOp, evS]
      go_simp
      kernel_rfl
    refine ⟨fun t w1 hf hk hp => ?_, ?_⟩
    · have h19 : slot t 19 = .agg (nC 1 4) := hp 19 (by kernel_rfl)
      have h20 : slot t 20 = .agg (nC 1 4) := hp 20 (by kernel_rfl)
      have h18 : slot t 18 = .bool true := hp 18 (by kernel_rfl)
      clear hf hp
      refine stepAt_on 18 true (by kernel_rfl) h18 ?_
      have hq0 := hs1 w1
      have hq1 := hgd
      refine stepOK_pure (.bool true) ?_ rfl
      simp only [execOp, evS, h19, h20]
      go_simp
    refine ⟨fun t w1 hf hk hp => ?_, ?_⟩
    · have h18 : slot t 18 = .bool true := hp 18 (by kernel_rfl)
      have h21 : slot t 21 = .bool true := hp 21 (by kernel_rfl)
      clear hf hp
      refine stepAt_plain rfl ?_
      refine stepOK_pure (.bool true) ?_ rfl
      simp only [execOp, evS, h18, h21]
      go_simp
    refine ⟨fun t w1 hf hk hp => ?_, ?_⟩
    · have h22 : slot t 22 = .bool true := hp 22 (by kernel_rfl)
      clear hf hp
      refine stepAt_plain rfl ?_
      exact stepOK_move _ (.inl rfl) h22
    refine ⟨fun t w1 hf hk hp => ?_, ?_⟩
    · have h3 : slot t 3 = .pointer (some ⟨w4.heap.size, 0, none⟩) := hf 3 (by kernel_rfl)
      have h23 : slot t 23 = .bool true := hp 23 (by kernel_rfl)
      clear hf hp
      refine stepAt_on 23 true (by kernel_rfl) h23 ?_
      have hq0 := Rowz.load (R3.out.kept hk) 4 24 Try.underlying26 (infoN _ _)
      exact stepOK_sem (.agg (nC 0 4)) (by simp only [execOp, evS, h3]) hq0 rfl
    refine ⟨fun t w1 hf hk hp => ?_, ?_⟩
    · have h23 : slot t 23 = .bool true := hp 23 (by kernel_rfl)
      clear hf hp
      refine stepAt_on 23 true (by kernel_rfl) h23 ?_
      refine stepOK_pure (.agg (nC 0 4)) ?_ rfl
      simp only [execOp, evS]
      go_simp
      kernel_rfl
    refine ⟨fun t w1 hf hk hp => ?_, ?_⟩
    · have h24 : slot t 24 = .agg (nC 0 4) := hp 24 (by kernel_rfl)
      have h25 : slot t 25 = .agg (nC 0 4) := hp 25 (by kernel_rfl)
      have h23 : slot t 23 = .bool true := hp 23 (by kernel_rfl)
      clear hf hp
      refine stepAt_on 23 true (by kernel_rfl) h23 ?_
      have hq0 := hs0 w1
      have hq1 := hgd
      refine stepOK_pure (.bool true) ?_ rfl
      simp only [execOp, evS, h24, h25]
      go_simp
    refine ⟨fun t w1 hf hk hp => ?_, ?_⟩
    · have h23 : slot t 23 = .bool true := hp 23 (by kernel_rfl)
      have h26 : slot t 26 = .bool true := hp 26 (by kernel_rfl)
      clear hf hp
      refine stepAt_plain rfl ?_
      refine stepOK_pure (.bool true) ?_ rfl
      simp only [execOp, evS, h23, h26]
      go_simp
    refine ⟨fun t w1 hf hk hp => ?_, ?_⟩
    · have h27 : slot t 27 = .bool true := hp 27 (by kernel_rfl)
      clear hf hp
      refine stepAt_plain rfl ?_
      exact stepOK_move _ (.inl rfl) h27
    refine ⟨fun t w1 hf hk hp => ?_, ?_⟩
    · have h4 : slot t 4 = .bool true := hf 4 (by kernel_rfl)
      have h28 : slot t 28 = .bool true := hp 28 (by kernel_rfl)
      clear hf hp
      refine stepAt_on 28 true (by kernel_rfl) h28 ?_
      exact stepOK_move _ (.inl rfl) h4
    refine ⟨fun t w1 hf hk hp => ?_, ?_⟩
    · have h28 : slot t 28 = .bool true := hp 28 (by kernel_rfl)
      have h29 : slot t 29 = .bool true := hp 29 (by kernel_rfl)
      clear hf hp
      refine stepAt_plain rfl ?_
      refine stepOK_pure (.bool true) ?_ rfl
      simp only [execOp, evS, h28, h29]
      go_simp
    refine ⟨fun t w1 hf hk hp => ?_, ?_⟩
    · have h30 : slot t 30 = .bool true := hp 30 (by kernel_rfl)
      clear hf hp
      refine stepAt_plain rfl ?_
      exact stepOK_move _ (.inr rfl) h30
    exact trivial
  · intro t w1 hsz hf hk hfacts
    have h0 : slot t 0 = .bool true := hfacts 0 (by kernel_rfl)
    have h1 : slot t 1 = .pointer (some ⟨w2.heap.size, 0, none⟩) := hf 1 (by kernel_rfl)
    have h2 : slot t 2 = .pointer (some ⟨w3.heap.size, 0, none⟩) := hf 2 (by kernel_rfl)
    have h3 : slot t 3 = .pointer (some ⟨w4.heap.size, 0, none⟩) := hf 3 (by kernel_rfl)
    have h4 : slot t 4 = .bool true := hf 4 (by kernel_rfl)
    have harr : t = #[slot t 0, slot t 1, slot t 2, slot t 3, slot t 4, slot t 5, slot t 6, slot t 7, slot t 8, slot t 9, slot t 10, slot t 11, slot t 12, slot t 13, slot t 14, slot t 15, slot t 16, slot t 17, slot t 18, slot t 19, slot t 20, slot t 21, slot t 22, slot t 23, slot t 24, slot t 25, slot t 26, slot t 27, slot t 28, slot t 29, slot t 30] := arr_eq t 31 hsz
    rw [harr, h0, h1, h2, h3, h4]
    clear harr hfacts hf h0 h1 h2 h3 h4
    generalize slot t 5 = x5; generalize slot t 6 = x6; generalize slot t 7 = x7; generalize slot t 8 = x8; generalize slot t 9 = x9; generalize slot t 10 = x10; generalize slot t 11 = x11; generalize slot t 12 = x12; generalize slot t 13 = x13; generalize slot t 14 = x14; generalize slot t 15 = x15; generalize slot t 16 = x16
    generalize slot t 17 = x17; generalize slot t 18 = x18; generalize slot t 19 = x19; generalize slot t 20 = x20; generalize slot t 21 = x21; generalize slot t 22 = x22; generalize slot t 23 = x23; generalize slot t 24 = x24; generalize slot t 25 = x25; generalize slot t 26 = x26; generalize slot t 27 = x27; generalize slot t 28 = x28
    generalize slot t 29 = x29; generalize slot t 30 = x30
    clear hsz t
    simp only [List.drop_succ_cons, List.drop_zero]
    go_wp2
    go_ret
    exact ⟨rfl, HK.out.trans hk⟩
end Go.Proofs.Ytpgmnkmbekikeaa
