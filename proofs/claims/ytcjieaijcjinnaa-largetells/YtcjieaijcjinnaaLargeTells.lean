/-
  large's Text is the reference's at every number, and its digits give the number back; chapter 5's examples hold: 'LargeTells' returns true.
  Conditions: none.
-/
import Derived.Test.YtcjieaijcjinnaaRows
import Derived.Test.YtcjieaijcjinnaaLargeLawB
import Derived.Test.YtcjieaijcjinnaaLawLib
import Derived.WalkKit
import Derived.ProofKit
import Derived.OpenShut
import Derived.ShutString
import Derived.SizedLaws
import Derived.Test.YtcjieaijcjinnaaLawLib
namespace Go.Proofs.Ytcjieaijcjinnaa.largeTells
open Go.ChangeShapes Go.WideShapes Go.ChangeAt Go.RowKit
open Go.ChangeMaps (open_string shut_string)
set_option linter.unusedVariables false

theorem own : ownKnob Try.prog.godebug = none := by kernel_rfl
theorem laidOut : laidOutB Try.prog = true := by kernel_rfl

set_option maxRecDepth 100000 in
set_option maxHeartbeats 4000000 in
theorem walk (a0 : List Nat) (n0 : a0.length = 5) (b0 : ∀ x ∈ a0, x < 18446744073709551616) (w : World)  :
    Calls Try.prog 6 #[.agg (qC 5 a0)] w fun e w' => e = .returned (.bool true) ∧ Kept w w' := by
  obtain ⟨N, hN, e0⟩ := limbs_num a0 n0 b0
  rw [e0]
  have HN := Lib.hid hN
  have hD := dn97 N hN
  have HTX := Lib.hid (fun k w hk => run_txt_at N k w hk)
  have HTS := txt_size N
  have HST := Lib.hid (fun k hk => dn_step N (dn N) k hk)
  have HD0 := Lib.hid (dn_div N)
  clear e0 b0 n0 a0 hN
  have F0 := Lib.hid (Rowz.new w (lC N 5) 24)
  have K0 := Lib.hid ((Kept.refl w).alloc (.cells (lC N 5) 24))
  have CT := Lib.hid fun w => largeText_any N w HN.out
  have CRT := Lib.hid fun w v hv => refText5_any N v w hv HN.out
  generalize dn N = D at hD HTX HTS HST HD0
  generalize txt N = tx at HTX HTS CT CRT
  have hlen : ∀ k : Nat, decide ((k : Int) < ((tx.size : Nat) : Int)) = decide (k < D) := fun k => by rw [HTS]; simp
  have hlen2 : ∀ k : Nat, decide (k < tx.size) = decide (k < D) := fun k => by rw [HTS]
  have HSZ := Lib.hid HTS
  clear HTS
  go_enter Try.func6, Try.ntmps6
  go_wp2_with (first
    | (refine wpList_load_row rfl 24 (.tmp 1) rfl w.heap.size rfl 24 (lC N 5) (0, 0) _ F0.out Try.underlying24 rfl (infoL _ _) ?_)
    | (go_at_call 28; refine (CT.out _).mono ?_; rintro e v2 ⟨rfl, k2⟩))
  have R1 := Lib.hid ((F0.out.kept k2).alloc (.cells (lC 0 0) 24))
  have R4 : Hid (Rowz (v2.alloc (.cells (lC 0 0) 24)) v2.heap.size (lC (N / 10 ^ (D - 0)) 5) 24) := Lib.hid (by
    rw [Nat.sub_zero, HD0.out, lC_none]; exact Rowz.new v2 _ _)
  have KK := Lib.hid ((K0.out.trans k2).alloc (.cells (lC 0 0) 24))
  have hbn : w.heap.size < v2.heap.size := (F0.out.kept k2).lt
  clear F0 K0 k2 CT HD0
  go_loopw [5] (fun i wr => ∃ (k : Nat), k ≤ D ∧ i = .int .i64 (k : Int) ∧ Hid (Rowz wr w.heap.size (lC N 5) 24) ∧ Hid (Rowz wr v2.heap.size (lC (N / 10 ^ (D - k)) 5) 24) ∧ Hid (Kept w wr)) (fun i _ => D - (intOf i).toNat)
  case atStart => exact ⟨0, by omega, rfl, R1, R4, KK⟩
  case round =>
    clear R1 R4 KK
    obtain ⟨k, hk, rfl, R1, R4, KK⟩ := hrel
    by_cases hlt : k < D
    · have hdk : decide (k < D) = true := decide_eq_true hlt
      have hki : (k : Int) < (tx.size : Int) := by have := HSZ.out; omega
      have hst := HST.out k hlt
      have hdg : N / 10 ^ (D - (k + 1)) % 10 < 10 := Nat.mod_lt _ (by decide)
      have HZL : Hid (N / 10 ^ (D - (k + 1)) < 2 ^ 320) := Lib.hid (Nat.lt_of_le_of_lt (Nat.div_le_self _ _) HN.out)
      have HTK := Lib.hid (fun w => HTX.out k w hlt)
      generalize N / 10 ^ (D - k) = Y at R4 hst
      generalize hZ : N / 10 ^ (D - (k + 1)) = Z at hst hdg HZL HTK
      have HZE := Lib.hid hZ
      clear hZ
      generalize Z % 10 = d at hst hdg HTK
      have HYL : Hid (Y < 2 ^ 320) := Lib.hid (Nat.lt_of_le_of_lt (by omega) HZL.out)
      have HPL : Hid (Y * 10 < 2 ^ 320) := Lib.hid (Nat.lt_of_le_of_lt (by omega) HZL.out)
      have CM : Hid (∀ w, Calls Try.prog 19 #[.agg (lC Y 5), .int .u64 10] w fun e w' => e = .returned (.tuple #[.agg (lC (Y * 10) 5), .bool true]) ∧ Grown w w') := Lib.hid fun w => by
        have h := largeMul_any Y 10 w HYL.out (by decide)
        rw [cut_of HPL.out, fit_of HPL.out] at h
        exact h
      have HDL : Hid (d < 2 ^ 320) := Lib.hid (Nat.lt_trans hdg (by decide +kernel))
      have CA : Hid (∀ w, Calls Try.prog 11 #[.agg (lC (Y * 10) 5), .agg (lC d 5)] w fun e w' => e = .returned (.tuple #[.agg (lC Z 5), .bool true]) ∧ Grown w w') := Lib.hid fun w => by
        have h := largeAdd_any (Y * 10) d w HPL.out HDL.out
        rw [hst, cut_of HZL.out, fit_of HZL.out] at h
        exact h
      have CO := Lib.hid fun w => largeOf_any d w (by omega)
      generalize Y * 10 = p at CM CA hst
      clear hst HYL HPL HDL
      go_wp2_with (first
        | (refine wpList_load_row rfl 24 (.tmp 4) rfl v2.heap.size rfl 24 (lC Y 5) (0, 0) _ R4.out Try.underlying24 rfl (infoL _ _) ?_)
        | (go_at_call 19; refine (CM.out _).mono ?_; rintro e v4 ⟨rfl, k4⟩)
        | (refine wpList_store_made rfl 24 (.tmp 6) (.tmp 21) rfl v4 _ (lC p 5) rfl rfl 24 (lC 0 0) (by kernel_rfl) (infoL _ _) (by simp [lC_size]) (lC_one _ _) ?_; intro v5 R6 K6))
      have R1' := Lib.hid ((R1.out.grown k4).kept K6.out)
      have R4' := Lib.hid ((R4.out.grown k4).kept K6.out)
      have KK' := Lib.hid ((KK.out.trans (Grown.kept k4)).trans K6.out)
      clear R1 R4 KK k4 K6 CM
      refine wp_region_late 12 10 [8] [(24, .is (.agg (lC p 5))), (25, .is (.string tx)), (26, .is (.int .i64 (k : Int))), (27, .is (.int .u8 ((48 + d : Nat) : Int))), (28, .is (.int .u64 ((48 + d : Nat) : Int))), (29, .is (.int .u64 (d : Int))), (30, .is (.agg (lC d 5))), (31, .is (.tuple #[.agg (lC Z 5), .bool true])), (23, .is (.tuple #[.agg (lC Z 5), .bool true])), (32, .is (.agg (lC Z 5))), (33, .is (.bool true)), (8, .row ptrAt0 (lC 0 0) 24)] (by kernel_rfl) (by kernel_rfl) (fun _ _ d _ _ h => by cases d <;> exact h) (by kernel_rfl) (by kernel_rfl) ?_ ?_
      · refine ⟨fun t w1 hf hk hp => ?_, ?_⟩
        · have h6 : slot t 6 = .pointer (some ⟨v4.heap.size, 0, none⟩) := hf 6 (by kernel_rfl)
          clear hf hp
          refine stepM_at (by kernel_rfl) ?_
          refine stepAt_plain rfl ?_
          have hq0 := Rowz.load (R6.out.kept hk) 5 22 Try.underlying24 (infoL _ _)
          exact stepOK_sem (.agg (lC p 5)) (by simp only [execOp, evS, h6]) hq0 rfl
        refine ⟨fun t w1 hf hk hp => ?_, ?_⟩
        · have h3 : slot t 3 = .string tx := hf 3 (by kernel_rfl)
          clear hf hp
          refine stepM_at (by kernel_rfl) ?_
          refine stepAt_plain rfl ?_
          exact stepOK_move _ (.inl rfl) h3
        refine ⟨fun t w1 hf hk hp => ?_, ?_⟩
        · have h5 : slot t 5 = .int .i64 (k : Int) := hf 5 (by kernel_rfl)
          clear hf hp
          refine stepM_at (by kernel_rfl) ?_
          refine stepAt_plain rfl ?_
          exact stepOK_move _ (.inl rfl) h5
        refine ⟨fun t w1 hf hk hp => ?_, ?_⟩
        · have h25 : slot t 25 = .string tx := hp 25 (by kernel_rfl)
          have h26 : slot t 26 = .int .i64 (k : Int) := hp 26 (by kernel_rfl)
          clear hf hp
          refine stepM_at (by kernel_rfl) ?_
          refine stepAt_plain rfl ?_
          have hq0 := HTK.out w1
          exact stepOK_sem (.int .u8 ((48 + d : Nat) : Int)) (by simp only [execOp, evS, h25, h26]) hq0 rfl
        refine ⟨fun t w1 hf hk hp => ?_, ?_⟩
        · have h27 : slot t 27 = .int .u8 ((48 + d : Nat) : Int) := hp 27 (by kernel_rfl)
          clear hf hp
          refine stepM_at (by kernel_rfl) ?_
          refine stepAt_plain rfl ?_
          refine stepOK_pure (.int .u64 ((48 + d : Nat) : Int)) ?_ rfl
          simp only [execOp, evS, h27]
          go_simp
          rw [IntKind.wrap_u64]; omega
        refine ⟨fun t w1 hf hk hp => ?_, ?_⟩
        · have h28 : slot t 28 = .int .u64 ((48 + d : Nat) : Int) := hp 28 (by kernel_rfl)
          clear hf hp
          refine stepM_at (by kernel_rfl) ?_
          refine stepAt_plain rfl ?_
          refine stepOK_pure (.int .u64 (d : Int)) ?_ rfl
          simp only [execOp, evS, h28]
          go_simp
          rw [IntKind.wrap_u64]; omega
        refine ⟨fun t w1 hf hk hp => ?_, ?_⟩
        · have h29 : slot t 29 = .int .u64 (d : Int) := hp 29 (by kernel_rfl)
          clear hf hp
          refine stepM_at (by kernel_rfl) ?_
          refine stepAt_plain rfl ?_
          refine stepOK_call #[.int .u64 (d : Int)] rfl (by simp only [List.map_toArray, List.map_cons, List.map_nil, evS, h29]) (by go_simp) ((CO.out w1).mono fun e w' ⟨he, hk'⟩ => ⟨_, he, Grown.kept hk', rfl⟩)
        refine ⟨fun t w1 hf hk hp => ?_, ?_⟩
        · have h24 : slot t 24 = .agg (lC p 5) := hp 24 (by kernel_rfl)
          have h30 : slot t 30 = .agg (lC d 5) := hp 30 (by kernel_rfl)
          clear hf hp
          refine stepM_at (by kernel_rfl) ?_
          refine stepAt_plain rfl ?_
          refine stepOK_call #[.agg (lC p 5), .agg (lC d 5)] rfl (by simp only [List.map_toArray, List.map_cons, List.map_nil, evS, h24, h30]) (by go_simp) ((CA.out w1).mono fun e w' ⟨he, hk'⟩ => ⟨_, he, Grown.kept hk', rfl⟩)
        refine ⟨fun t w1 hf hk hp => ?_, ?_⟩
        · have h31 : slot t 31 = .tuple #[.agg (lC Z 5), .bool true] := hp 31 (by kernel_rfl)
          clear hf hp
          refine stepM_at (by kernel_rfl) ?_
          refine stepAt_plain rfl ?_
          exact stepOK_move _ (.inl rfl) h31
        refine ⟨fun t w1 hf hk hp => ?_, ?_⟩
        · have h23 : slot t 23 = .tuple #[.agg (lC Z 5), .bool true] := hp 23 (by kernel_rfl)
          clear hf hp
          refine stepM_at (by kernel_rfl) ?_
          refine stepAt_plain rfl ?_
          refine stepOK_pure (.agg (lC Z 5)) ?_ rfl
          simp only [execOp, evS, h23]
          go_simp
        refine ⟨fun t w1 hf hk hp => ?_, ?_⟩
        · have h23 : slot t 23 = .tuple #[.agg (lC Z 5), .bool true] := hp 23 (by kernel_rfl)
          clear hf hp
          refine stepM_at (by kernel_rfl) ?_
          refine stepAt_plain rfl ?_
          refine stepOK_pure (.bool true) ?_ rfl
          simp only [execOp, evS, h23]
          go_simp
        refine ⟨fun t w1 hf hk hp => ?_, ?_⟩
        · clear hf hp
          refine stepM_made (by kernel_rfl) ?_
          refine stepMade_new ((lC 0 0)) 24 rfl ?_ ⟨_, rfl, Rowz.new w1 _ _⟩
          simp only [execOp, ptrAt0]
          go_simp
          rfl
        exact trivial
      · intro t w1 hsz hf hk hfacts hmd hap
        obtain ⟨g8, h8, r8⟩ : ∃ g, slot t 8 = ptrAt0 g ∧ Rowz w1 g (lC 0 0) 24 := hfacts 11 _ (by decide) rfl 8 rfl
        simp only [ptrAt0] at h8
        have h32 : slot t 32 = .agg (lC Z 5) := hfacts 9 _ (by decide) rfl 32 rfl
        have h33 : slot t 33 = .bool true := hfacts 10 _ (by decide) rfl 33 rfl
        have h3 : slot t 3 = .string tx := hf 3 (by kernel_rfl)
        have h5 : slot t 5 = .int .i64 (k : Int) := hf 5 (by kernel_rfl)
        have h6 : slot t 6 = .pointer (some ⟨v4.heap.size, 0, none⟩) := hf 6 (by kernel_rfl)
        have h0 := hf 0 (by kernel_rfl)
        conv at h0 => rhs; whnf
        try change slot t 0 = undef at h0
        have h1 := hf 1 (by kernel_rfl)
        conv at h1 => rhs; whnf
        try change slot t 1 = undef at h1
        have h2 := hf 2 (by kernel_rfl)
        conv at h2 => rhs; whnf
        try change slot t 2 = undef at h2
        have h4 := hf 4 (by kernel_rfl)
        conv at h4 => rhs; whnf
        try change slot t 4 = undef at h4
        have h7 := hf 7 (by kernel_rfl)
        conv at h7 => rhs; whnf
        try change slot t 7 = undef at h7
        have h9 := hf 9 (by kernel_rfl)
        conv at h9 => rhs; whnf
        try change slot t 9 = undef at h9
        have h10 := hf 10 (by kernel_rfl)
        conv at h10 => rhs; whnf
        try change slot t 10 = undef at h10
        have h11 := hf 11 (by kernel_rfl)
        conv at h11 => rhs; whnf
        try change slot t 11 = undef at h11
        have h12 := hf 12 (by kernel_rfl)
        conv at h12 => rhs; whnf
        try change slot t 12 = undef at h12
        have h13 := hf 13 (by kernel_rfl)
        conv at h13 => rhs; whnf
        try change slot t 13 = undef at h13
        have h14 := hf 14 (by kernel_rfl)
        conv at h14 => rhs; whnf
        try change slot t 14 = undef at h14
        have h15 := hf 15 (by kernel_rfl)
        conv at h15 => rhs; whnf
        try change slot t 15 = undef at h15
        have h16 := hf 16 (by kernel_rfl)
        conv at h16 => rhs; whnf
        try change slot t 16 = undef at h16
        have h17 := hf 17 (by kernel_rfl)
        conv at h17 => rhs; whnf
        try change slot t 17 = undef at h17
        have h18 := hf 18 (by kernel_rfl)
        conv at h18 => rhs; whnf
        try change slot t 18 = undef at h18
        have h19 := hf 19 (by kernel_rfl)
        conv at h19 => rhs; whnf
        try change slot t 19 = undef at h19
        have h20 := hf 20 (by kernel_rfl)
        conv at h20 => rhs; whnf
        try change slot t 20 = undef at h20
        have h21 := hf 21 (by kernel_rfl)
        conv at h21 => rhs; whnf
        try change slot t 21 = undef at h21
        have h22 := hf 22 (by kernel_rfl)
        conv at h22 => rhs; whnf
        try change slot t 22 = undef at h22
        have h34 := hf 34 (by kernel_rfl)
        conv at h34 => rhs; whnf
        try change slot t 34 = undef at h34
        have h35 := hf 35 (by kernel_rfl)
        conv at h35 => rhs; whnf
        try change slot t 35 = undef at h35
        have h36 := hf 36 (by kernel_rfl)
        conv at h36 => rhs; whnf
        try change slot t 36 = undef at h36
        have h37 := hf 37 (by kernel_rfl)
        conv at h37 => rhs; whnf
        try change slot t 37 = undef at h37
        have h38 := hf 38 (by kernel_rfl)
        conv at h38 => rhs; whnf
        try change slot t 38 = undef at h38
        have h39 := hf 39 (by kernel_rfl)
        conv at h39 => rhs; whnf
        try change slot t 39 = undef at h39
        have h40 := hf 40 (by kernel_rfl)
        conv at h40 => rhs; whnf
        try change slot t 40 = undef at h40
        have h41 := hf 41 (by kernel_rfl)
        conv at h41 => rhs; whnf
        try change slot t 41 = undef at h41
        have h42 := hf 42 (by kernel_rfl)
        conv at h42 => rhs; whnf
        try change slot t 42 = undef at h42
        have h43 := hf 43 (by kernel_rfl)
        conv at h43 => rhs; whnf
        try change slot t 43 = undef at h43
        have h44 := hf 44 (by kernel_rfl)
        conv at h44 => rhs; whnf
        try change slot t 44 = undef at h44
        have h45 := hf 45 (by kernel_rfl)
        conv at h45 => rhs; whnf
        try change slot t 45 = undef at h45
        have h46 := hf 46 (by kernel_rfl)
        conv at h46 => rhs; whnf
        try change slot t 46 = undef at h46
        have h47 := hf 47 (by kernel_rfl)
        conv at h47 => rhs; whnf
        try change slot t 47 = undef at h47
        have h48 := hf 48 (by kernel_rfl)
        conv at h48 => rhs; whnf
        try change slot t 48 = undef at h48
        have h49 := hf 49 (by kernel_rfl)
        conv at h49 => rhs; whnf
        try change slot t 49 = undef at h49
        have h50 := hf 50 (by kernel_rfl)
        conv at h50 => rhs; whnf
        try change slot t 50 = undef at h50
        have h51 := hf 51 (by kernel_rfl)
        conv at h51 => rhs; whnf
        try change slot t 51 = undef at h51
        have h52 := hf 52 (by kernel_rfl)
        conv at h52 => rhs; whnf
        try change slot t 52 = undef at h52
        have h53 := hf 53 (by kernel_rfl)
        conv at h53 => rhs; whnf
        try change slot t 53 = undef at h53
        have l8 := made_ge (hmd 8 (by kernel_rfl)) h8
        have harr : t = #[slot t 0, slot t 1, slot t 2, slot t 3, slot t 4, slot t 5, slot t 6, slot t 7, slot t 8, slot t 9, slot t 10, slot t 11, slot t 12, slot t 13, slot t 14, slot t 15, slot t 16, slot t 17, slot t 18, slot t 19, slot t 20, slot t 21, slot t 22, slot t 23, slot t 24, slot t 25, slot t 26, slot t 27, slot t 28, slot t 29, slot t 30, slot t 31, slot t 32, slot t 33, slot t 34, slot t 35, slot t 36, slot t 37, slot t 38, slot t 39, slot t 40, slot t 41, slot t 42, slot t 43, slot t 44, slot t 45, slot t 46, slot t 47, slot t 48, slot t 49, slot t 50, slot t 51, slot t 52, slot t 53] := arr_eq t 54 hsz
        rw [harr, h8, h32, h33, h3, h5, h6, h0, h1, h2, h4, h7, h9, h10, h11, h12, h13, h14, h15, h16, h17, h18, h19, h20, h21, h22, h34, h35, h36, h37, h38, h39, h40, h41, h42, h43, h44, h45, h46, h47, h48, h49, h50, h51, h52, h53]
        clear harr hfacts hf hmd hap h8 h32 h33 h3 h5 h6 h0 h1 h2 h4 h7 h9 h10 h11 h12 h13 h14 h15 h16 h17 h18 h19 h20 h21 h22 h34 h35 h36 h37 h38 h39 h40 h41 h42 h43 h44 h45 h46 h47 h48 h49 h50 h51 h52 h53
        generalize slot t 23 = x23; generalize slot t 24 = x24; generalize slot t 25 = x25; generalize slot t 26 = x26; generalize slot t 27 = x27; generalize slot t 28 = x28; generalize slot t 29 = x29; generalize slot t 30 = x30; generalize slot t 31 = x31
        clear hsz t
        simp only [List.drop_succ_cons, List.drop_zero]
        have hb1 : w.heap.size ≤ g8 := Nat.le_trans KK'.out.size l8
        have hn1 : w.heap.size ≠ g8 := by have := R1'.out.lt; omega
        have hn4 : v2.heap.size ≠ g8 := by have := R4'.out.lt; omega
        have KK2 := Lib.hid ((KK'.out.trans hk).setRow hb1 (lC Z 5))
        have R1b := Lib.hid ((R1'.out.kept hk).rowOther (D := lC Z 5) hn1)
        have R4b := Lib.hid ((R4'.out.kept hk).rowOther (D := lC Z 5) hn4)
        have R8 := Lib.hid (r8.row (D := lC Z 5))
        refine wpList_store_row rfl 24 _ _ rfl g8 (lC Z 5) rfl rfl 24 (lC 0 0) r8 (infoL _ _) (by simp [lC_size]) (lC_one _ _) ?_
        clear r8 hk l8 hb1 hn1 R1' R4' KK' R6
        generalize w1.setRow g8 (lC Z 5) = v6 at KK2 R1b R4b R8 ⊢
        go_wp2_with (first
          | (refine wpList_load_row rfl 24 (.tmp 8) rfl g8 rfl 24 (lC Z 5) (0, 0) _ R8.out Try.underlying24 rfl (infoL _ _) ?_)
          | (refine wpList_store_row rfl 24 _ _ rfl v2.heap.size (lC Z 5) rfl rfl 24 (lC Y 5) R4b.out (infoL _ _) (by simp [lC_size]) (lC_one _ _) ?_))
        go_roundw
        case rel =>
          refine ⟨k + 1, by omega, by go_num, Lib.hid (R1b.out.rowOther (by omega)), Lib.hid ?_, Lib.hid (KK2.out.setRow (by omega) _)⟩
          rw [HZE.out]
          exact R4b.out.row
        case measure => simp [intOf]; omega
    · have hdk : decide (k < D) = false := decide_eq_false hlt
      have hs0 : ∀ w, (Op.equalIn 10000 24 (.agg (lC N 5)) (.agg (lC N 5))).run Try.prog w = .ok true w := fun w => by rw [sameL N N HN.out HN.out w]; simp
      have hgd := guardL
      have R4e : Hid (Rowz wr v2.heap.size (lC N 5) 24) := Lib.hid (by
        have h := R4.out
        rw [show D - k = 0 by omega, Nat.pow_zero, Nat.div_one] at h
        exact h)
      clear R4
      go_wp2_with (refine park_at 42 rfl ?_)
      refine unpark ?_
      refine wpList_table 13 [(42, .is (.slice (some ⟨w.heap.size, 0, none⟩) 5 5)), (43, .such (Dig N) dig_kept), (44, .is (.string tx)), (45, .is (.bool true)), (46, .is (.bool true)), (47, .is (.agg (lC N 5))), (48, .is (.agg (lC N 5))), (49, .is (.bool true)), (50, .is (.bool true)), (51, .is (.bool true)), (52, .is (.bool true)), (53, .is (.bool true)), (2, .is (.bool true))] (by kernel_rfl) ?_ ?_
      · refine ⟨fun t w1 hf hk hp => ?_, ?_⟩
        · have h1 : slot t 1 = .pointer (some ⟨w.heap.size, 0, none⟩) := hf 1 (by kernel_rfl)
          clear hf hp
          refine stepAt_plain rfl ?_
          have hq0 := run_all5 w.heap.size w1
          exact stepOK_sem (.slice (some ⟨w.heap.size, 0, none⟩) 5 5) (by simp only [execOp, evS, Option.map_none, h1]) hq0 rfl
        refine ⟨fun t w1 hf hk hp => ?_, ?_⟩
        · have h42 : slot t 42 = .slice (some ⟨w.heap.size, 0, none⟩) 5 5 := hp 42 (by kernel_rfl)
          clear hf hp
          refine stepAt_plain rfl ?_
          refine stepOK_call #[.slice (some ⟨w.heap.size, 0, none⟩) 5 5] rfl (by simp only [List.map_toArray, List.map_cons, List.map_nil, evS, h42]) (by go_simp) ((limbs5_any N _ w1 (R1.out.kept hk) HN.out).mono fun e w' ⟨v, he, hpv, hk'⟩ => ⟨v, he, hk', hpv⟩)
        refine ⟨fun t w1 hf hk hp => ?_, ?_⟩
        · obtain ⟨v43, h43, p43⟩ : ∃ v, slot t 43 = v ∧ (Dig N) v w1 := ⟨_, rfl, hp 43 (by kernel_rfl)⟩
          clear hf hp
          refine stepAt_plain rfl ?_
          refine stepOK_call #[v43] rfl (by simp only [List.map_toArray, List.map_cons, List.map_nil, evS, h43]) (by go_simp) ((CRT.out w1 _ p43).mono fun e w' ⟨he, hk'⟩ => ⟨_, he, hk', rfl⟩)
        refine ⟨fun t w1 hf hk hp => ?_, ?_⟩
        · have h41 : slot t 41 = .string tx := hf 41 (by kernel_rfl)
          have h44 : slot t 44 = .string tx := hp 44 (by kernel_rfl)
          clear hf hp
          refine stepAt_plain rfl ?_
          refine stepOK_pure (.bool true) ?_ rfl
          simp only [execOp, evS, h41, h44]
          go_simp
        refine ⟨fun t w1 hf hk hp => ?_, ?_⟩
        · have h45 : slot t 45 = .bool true := hp 45 (by kernel_rfl)
          clear hf hp
          refine stepAt_plain rfl ?_
          exact stepOK_move _ (.inl rfl) h45
        refine ⟨fun t w1 hf hk hp => ?_, ?_⟩
        · have h4 : slot t 4 = .pointer (some ⟨v2.heap.size, 0, none⟩) := hf 4 (by kernel_rfl)
          have h46 : slot t 46 = .bool true := hp 46 (by kernel_rfl)
          clear hf hp
          refine stepAt_on 46 true (by kernel_rfl) h46 ?_
          have hq0 := Rowz.load (R4e.out.kept hk) 5 22 Try.underlying24 (infoL _ _)
          exact stepOK_sem (.agg (lC N 5)) (by simp only [execOp, evS, h4]) hq0 rfl
        refine ⟨fun t w1 hf hk hp => ?_, ?_⟩
        · have h1 : slot t 1 = .pointer (some ⟨w.heap.size, 0, none⟩) := hf 1 (by kernel_rfl)
          have h46 : slot t 46 = .bool true := hp 46 (by kernel_rfl)
          clear hf hp
          refine stepAt_on 46 true (by kernel_rfl) h46 ?_
          have hq0 := Rowz.load (R1.out.kept hk) 5 22 Try.underlying24 (infoL _ _)
          exact stepOK_sem (.agg (lC N 5)) (by simp only [execOp, evS, h1]) hq0 rfl
        refine ⟨fun t w1 hf hk hp => ?_, ?_⟩
        · have h47 : slot t 47 = .agg (lC N 5) := hp 47 (by kernel_rfl)
          have h48 : slot t 48 = .agg (lC N 5) := hp 48 (by kernel_rfl)
          have h46 : slot t 46 = .bool true := hp 46 (by kernel_rfl)
          clear hf hp
          refine stepAt_on 46 true (by kernel_rfl) h46 ?_
          have hq0 := hs0 w1
          have hq1 := hgd
          refine stepOK_pure (.bool true) ?_ rfl
          simp only [execOp, evS, h47, h48]
          go_simp
        refine ⟨fun t w1 hf hk hp => ?_, ?_⟩
        · have h46 : slot t 46 = .bool true := hp 46 (by kernel_rfl)
          have h49 : slot t 49 = .bool true := hp 49 (by kernel_rfl)
          clear hf hp
          refine stepAt_plain rfl ?_
          refine stepOK_pure (.bool true) ?_ rfl
          simp only [execOp, evS, h46, h49]
          go_simp
        refine ⟨fun t w1 hf hk hp => ?_, ?_⟩
        · have h50 : slot t 50 = .bool true := hp 50 (by kernel_rfl)
          clear hf hp
          refine stepAt_plain rfl ?_
          exact stepOK_move _ (.inl rfl) h50
        refine ⟨fun t w1 hf hk hp => ?_, ?_⟩
        · have h51 : slot t 51 = .bool true := hp 51 (by kernel_rfl)
          clear hf hp
          refine stepAt_on 51 true (by kernel_rfl) h51 ?_
          refine stepOK_call #[] rfl (by simp only [List.map_toArray, List.map_nil]) (by go_simp) ((awake5_any w1).mono fun e w' ⟨he, hk'⟩ => ⟨_, he, hk', rfl⟩)
        refine ⟨fun t w1 hf hk hp => ?_, ?_⟩
        · have h51 : slot t 51 = .bool true := hp 51 (by kernel_rfl)
          have h52 : slot t 52 = .bool true := hp 52 (by kernel_rfl)
          clear hf hp
          refine stepAt_plain rfl ?_
          refine stepOK_pure (.bool true) ?_ rfl
          simp only [execOp, evS, h51, h52]
          go_simp
        refine ⟨fun t w1 hf hk hp => ?_, ?_⟩
        · have h53 : slot t 53 = .bool true := hp 53 (by kernel_rfl)
          clear hf hp
          refine stepAt_plain rfl ?_
          exact stepOK_move _ (.inr rfl) h53
        exact trivial
      · intro t w1 hsz hf hk hfacts
        have h2 : slot t 2 = .bool true := hfacts 2 (by kernel_rfl)
        have h1 : slot t 1 = .pointer (some ⟨w.heap.size, 0, none⟩) := hf 1 (by kernel_rfl)
        have h4 : slot t 4 = .pointer (some ⟨v2.heap.size, 0, none⟩) := hf 4 (by kernel_rfl)
        have h41 : slot t 41 = .string tx := hf 41 (by kernel_rfl)
        have harr : t = #[slot t 0, slot t 1, slot t 2, slot t 3, slot t 4, slot t 5, slot t 6, slot t 7, slot t 8, slot t 9, slot t 10, slot t 11, slot t 12, slot t 13, slot t 14, slot t 15, slot t 16, slot t 17, slot t 18, slot t 19, slot t 20, slot t 21, slot t 22, slot t 23, slot t 24, slot t 25, slot t 26, slot t 27, slot t 28, slot t 29, slot t 30, slot t 31, slot t 32, slot t 33, slot t 34, slot t 35, slot t 36, slot t 37, slot t 38, slot t 39, slot t 40, slot t 41, slot t 42, slot t 43, slot t 44, slot t 45, slot t 46, slot t 47, slot t 48, slot t 49, slot t 50, slot t 51, slot t 52, slot t 53] := arr_eq t 54 hsz
        rw [harr, h2, h1, h4, h41]
        clear harr hfacts hf h2 h1 h4 h41
        generalize slot t 0 = x0; generalize slot t 3 = x3; generalize slot t 5 = x5; generalize slot t 6 = x6; generalize slot t 7 = x7; generalize slot t 8 = x8; generalize slot t 9 = x9; generalize slot t 10 = x10; generalize slot t 11 = x11; generalize slot t 12 = x12; generalize slot t 13 = x13; generalize slot t 14 = x14
        generalize slot t 15 = x15; generalize slot t 16 = x16; generalize slot t 17 = x17; generalize slot t 18 = x18; generalize slot t 19 = x19; generalize slot t 20 = x20; generalize slot t 21 = x21; generalize slot t 22 = x22; generalize slot t 23 = x23; generalize slot t 24 = x24; generalize slot t 25 = x25; generalize slot t 26 = x26
        generalize slot t 27 = x27; generalize slot t 28 = x28; generalize slot t 29 = x29; generalize slot t 30 = x30; generalize slot t 31 = x31; generalize slot t 32 = x32; generalize slot t 33 = x33; generalize slot t 34 = x34; generalize slot t 35 = x35; generalize slot t 36 = x36; generalize slot t 37 = x37; generalize slot t 38 = x38
        generalize slot t 39 = x39; generalize slot t 40 = x40; generalize slot t 42 = x42; generalize slot t 43 = x43; generalize slot t 44 = x44; generalize slot t 45 = x45; generalize slot t 46 = x46; generalize slot t 47 = x47; generalize slot t 48 = x48; generalize slot t 49 = x49; generalize slot t 50 = x50; generalize slot t 51 = x51
        generalize slot t 52 = x52; generalize slot t 53 = x53
        clear hsz t
        simp only [List.drop_succ_cons, List.drop_zero]
        go_wp2
        go_ret
        exact ⟨rfl, KK.out.trans hk⟩

set_option maxRecDepth 100000 in
set_option maxHeartbeats 1000000 in
theorem lifted (os : Os) (started : os.Started) (H : Type) (enc : TypeId × Value → H) :
    ReturnsInHanded {} Try.checked os 6 .any (Rows.largeTellsSpec.pre6 enc Try.prog Try.f6 Rows.largeTellsRow.domain false) (Rows.largeTellsSpec.post enc Try.prog Try.f6 false true false false) := by
  refine returnsInHanded_of_change_sized (C := Try.checked) own started (by kernel_rfl) Try.func6
    (ChangeSpec.witness6 (enc := enc) (C := Try.checked) false ⟨#[], #[.agg #[.int .u64 0, .int .u64 0, .int .u64 0, .int .u64 0, .int .u64 0]], []⟩ 8 (by kernel_rfl) (by kernel_rfl) (by kernel_rfl) (by kernel_rfl)) ?_
  intro W base args ds gs before hval0 hW hcnd hsz0 _
  have hval : ∀ (j : Nat) t v, Try.f6.params[j]? = some t → args[j]? = some v → Value.okWide Try.prog W .any base t v := hval0
  have hsz : (DataW.weightsEach Try.prog (Try.f6.params.toList ++ Rows.largeTellsSpec.plain.varTypes Try.prog) (ds ++ gs)).all (· ≤ reachBytes) = true := hsz0
  have hW' := hW
  obtain ⟨p, q, hA0, hV, rfl, hfz, hnd⟩ := hW
  have hA : DataW.TrodAll enc Try.prog W 0 (fun _ => true) true Try.f6.params.toList args.toList ds p := hA0
  have hAk := hA
  rw [Try.params6] at hA hval hsz
  obtain ⟨v0, vs0, d0, ds0, p0_, q0_, hargs, rfl, rfl, h0, r0_⟩ := trodAll_cons hA
  obtain ⟨rfl, rfl, rfl⟩ := trodAll_nil r0_
  obtain rfl : args = #[v0] := by cases args; simp_all
  obtain ⟨rfl, rfl⟩ := trodVars_none hV
  have hlt : ∀ x ∈ (p0_ ++ ([])), x.block < W.heap.size := fun x hx => by simpa using hW'.lt x (by simpa using hx)
  obtain ⟨cs0, rfl⟩ : ∃ cs, v0 = .agg cs := by
    have := hval 0 24 v0 rfl rfl
    simp only [Value.okWide, Try.underlying24] at this
    obtain ⟨cs, h, _⟩ := this
    exact ⟨cs, h⟩
  obtain ⟨a0, n0, b0, rfl⟩ := open_u64Arr Try.underlying24 Try.underlying22 (by kernel_rfl) (by kernel_rfl) h0
  clear hA0 hval0
  refine (walk a0 n0 b0 W ).mono fun e W' ⟨he, hg⟩ => ?_
  subst he
  exact ⟨_, rfl, ⟨_, _, _, [], _, [], hW', trodAll_cons_mk (shut_bool Try.underlying4 _) trodAll_mk0, trodAll_stays laidOut hg (by kernel_rfl) hAk hlt (fun x hx => by simpa using hlt x hx), rfl, Kept.frame hg _, fun h => by cases h⟩⟩

theorem over : Rows.largeTellsRow.holds Try.pinned (OpenSpec.ofChange Rows.largeTellsSpec) :=
  OpenClaim.holds_of_wide 6 Try.f6 rfl rfl rfl rfl rfl rfl rfl ⟨rfl, rfl, rfl, rfl, rfl⟩ rfl rfl rfl rfl rfl (by kernel_rfl) Try.func6 (by kernel_rfl)
    (of_decide_eq_true (by kernel_rfl)) (by unfold Func.isWrapper; first | (rw [if_pos (by decide +kernel)]; kernel_rfl) | (rw [if_neg (by decide +kernel)]; exact ⟨rfl, rfl⟩))
    (fun os started H enc _ => lifted os started H enc)
end Go.Proofs.Ytcjieaijcjinnaa.largeTells
namespace Go.Proofs.Ytcjieaijcjinnaa
theorem largeTells_holds : Rows.LargeTellsSaid := largeTells.over
#print axioms largeTells_holds
end Go.Proofs.Ytcjieaijcjinnaa
