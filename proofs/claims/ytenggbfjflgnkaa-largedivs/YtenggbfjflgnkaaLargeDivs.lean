/-
  What large.Div hands back, times the divisor, and what is left, is the number, and what is left is less; both are 0 at a divisor 0; chapter 5's examples hold: 'LargeDivs' returns true.
  Conditions: none.
-/
import Derived.Test.YtenggbfjflgnkaaRows
import Derived.Test.YtenggbfjflgnkaaLargeLaw
import Derived.Test.YtenggbfjflgnkaaLawLib
import Derived.WalkKit
import Derived.ProofKit
import Derived.OpenShut
import Derived.ShutString
import Derived.SizedLaws
import Derived.Test.YtenggbfjflgnkaaLawLib
namespace Go.Proofs.Ytenggbfjflgnkaa.largeDivs
open Go.ChangeShapes Go.WideShapes Go.ChangeAt Go.RowKit
open Go.ChangeMaps (open_string shut_string)
set_option linter.unusedVariables false

theorem own : ownKnob Try.prog.godebug = none := by kernel_rfl
theorem laidOut : laidOutB Try.prog = true := by kernel_rfl

set_option maxRecDepth 100000 in
set_option maxHeartbeats 4000000 in
theorem walk (a0 : List Nat) (n0 : a0.length = 5) (b0 : ∀ x ∈ a0, x < 18446744073709551616) (a1 : Int) (w1 : (Lit.int .u32 a1).wf = true) (w : World)  :
    Calls Try.prog 6 #[.agg (qC 5 a0), .int .u32 a1] w fun e w' => e = .returned (.bool true) ∧ Kept w w' := by
  obtain ⟨N, hN, e0⟩ := limbs_num a0 n0 b0
  obtain ⟨h1, h2⟩ := bounds_u32 w1
  rw [e0]
  obtain ⟨y, rfl⟩ : ∃ y : Nat, a1 = (y : Int) := ⟨a1.toNat, by omega⟩
  have HN := Lib.hid hN
  clear e0 b0 n0 w1 a0
  have F0 := Lib.hid (Rowz.new w (lC N 5) 24)
  have K0 := Lib.hid ((Kept.refl w).alloc (.cells (lC N 5) 24))
  by_cases hy0 : y = 0
  · subst hy0
    have CD : Hid (∀ w, Calls Try.prog 26 #[.agg (lC N 5), .int .u32 0] w fun e w' => e = .returned (.tuple #[.agg (lC 0 5), .int .u32 0]) ∧ Kept w w') := Lib.hid fun w => largeDiv_none N w
    have hs0 : ∀ w, (Op.equalIn 10000 24 (.agg (lC 0 5)) (.agg (lC 0 5))).run Try.prog w = .ok true w := fun w => by rw [sameL 0 0 pos320 pos320 w]; rfl
    have hgd := guardL
    clear hN h1 h2
    go_enter Try.func6, Try.ntmps6
    go_wp2_with (first
      | (refine wpList_load_row rfl 24 (.tmp 2) rfl w.heap.size rfl 24 (lC N 5) (0, 0) _ F0.out Try.underlying24 rfl (infoL _ _) ?_)
      | (go_at_call 26; refine (CD.out _).mono ?_; rintro e v2 ⟨rfl, k2⟩)
      | (refine wpList_store_made rfl 24 (.tmp 5) (.tmp 15) rfl v2 _ (lC 0 5) rfl rfl 24 (lC 0 0) (by kernel_rfl) (infoL _ _) (by simp [lC_size]) (lC_one _ _) ?_; intro v1 R5 K5)
      | (refine park_at 19 rfl ?_))
    have KK := Lib.hid ((K0.out.trans k2).trans K5.out)
    clear F0 K0 k2 K5 CD
    refine unpark ?_
    refine wpList_table 11 [(19, .is (.agg (lC 0 5))), (20, .is (.agg (lC 0 5))), (21, .is (.bool true)), (22, .is (.bool true)), (23, .is (.int .u32 0)), (24, .is (.bool true)), (25, .is (.bool true)), (26, .is (.bool true)), (27, .is (.bool true)), (28, .is (.bool true)), (4, .is (.bool true))] (by kernel_rfl) ?_ ?_
    · refine ⟨fun t w1 hf hk hp => ?_, ?_⟩
      · have h5 : slot t 5 = .pointer (some ⟨v2.heap.size, 0, none⟩) := hf 5 (by kernel_rfl)
        clear hf hp
        refine stepAt_plain rfl ?_
        have hq0 := Rowz.load (R5.out.kept hk) 5 22 Try.underlying24 (infoL _ _)
        exact stepOK_sem (.agg (lC 0 5)) (by simp only [execOp, evS, h5]) hq0 rfl
      refine ⟨fun t w1 hf hk hp => ?_, ?_⟩
      · clear hf hp
        refine stepAt_plain rfl ?_
        refine stepOK_pure (.agg (lC 0 5)) ?_ rfl
        simp only [execOp, evS]
        go_simp
        kernel_rfl
      refine ⟨fun t w1 hf hk hp => ?_, ?_⟩
      · have h19 : slot t 19 = .agg (lC 0 5) := hp 19 (by kernel_rfl)
        have h20 : slot t 20 = .agg (lC 0 5) := hp 20 (by kernel_rfl)
        clear hf hp
        refine stepAt_plain rfl ?_
        have hq0 := hs0 w1
        have hq1 := hgd
        refine stepOK_pure (.bool true) ?_ rfl
        simp only [execOp, evS, h19, h20]
        go_simp
      refine ⟨fun t w1 hf hk hp => ?_, ?_⟩
      · have h21 : slot t 21 = .bool true := hp 21 (by kernel_rfl)
        clear hf hp
        refine stepAt_plain rfl ?_
        exact stepOK_move _ (.inl rfl) h21
      refine ⟨fun t w1 hf hk hp => ?_, ?_⟩
      · have h6 : slot t 6 = .int .u32 0 := hf 6 (by kernel_rfl)
        have h22 : slot t 22 = .bool true := hp 22 (by kernel_rfl)
        clear hf hp
        refine stepAt_on 22 true (by kernel_rfl) h22 ?_
        exact stepOK_move _ (.inl rfl) h6
      refine ⟨fun t w1 hf hk hp => ?_, ?_⟩
      · have h23 : slot t 23 = .int .u32 0 := hp 23 (by kernel_rfl)
        have h22 : slot t 22 = .bool true := hp 22 (by kernel_rfl)
        clear hf hp
        refine stepAt_on 22 true (by kernel_rfl) h22 ?_
        refine stepOK_pure (.bool true) ?_ rfl
        simp only [execOp, evS, h23]
        go_simp
      refine ⟨fun t w1 hf hk hp => ?_, ?_⟩
      · have h22 : slot t 22 = .bool true := hp 22 (by kernel_rfl)
        have h24 : slot t 24 = .bool true := hp 24 (by kernel_rfl)
        clear hf hp
        refine stepAt_plain rfl ?_
        refine stepOK_pure (.bool true) ?_ rfl
        simp only [execOp, evS, h22, h24]
        go_simp
      refine ⟨fun t w1 hf hk hp => ?_, ?_⟩
      · have h25 : slot t 25 = .bool true := hp 25 (by kernel_rfl)
        clear hf hp
        refine stepAt_plain rfl ?_
        exact stepOK_move _ (.inl rfl) h25
      refine ⟨fun t w1 hf hk hp => ?_, ?_⟩
      · have h26 : slot t 26 = .bool true := hp 26 (by kernel_rfl)
        clear hf hp
        refine stepAt_on 26 true (by kernel_rfl) h26 ?_
        refine stepOK_call #[] rfl (by simp only [List.map_toArray, List.map_nil]) (by go_simp) ((awake5_any w1).mono fun e w' ⟨he, hk'⟩ => ⟨_, he, hk', rfl⟩)
      refine ⟨fun t w1 hf hk hp => ?_, ?_⟩
      · have h26 : slot t 26 = .bool true := hp 26 (by kernel_rfl)
        have h27 : slot t 27 = .bool true := hp 27 (by kernel_rfl)
        clear hf hp
        refine stepAt_plain rfl ?_
        refine stepOK_pure (.bool true) ?_ rfl
        simp only [execOp, evS, h26, h27]
        go_simp
      refine ⟨fun t w1 hf hk hp => ?_, ?_⟩
      · have h28 : slot t 28 = .bool true := hp 28 (by kernel_rfl)
        clear hf hp
        refine stepAt_plain rfl ?_
        exact stepOK_move _ (.inr rfl) h28
      exact trivial
    · intro t w1 hsz hf hk hfacts
      have h4 : slot t 4 = .bool true := hfacts 4 (by kernel_rfl)
      have h5 : slot t 5 = .pointer (some ⟨v2.heap.size, 0, none⟩) := hf 5 (by kernel_rfl)
      have h6 : slot t 6 = .int .u32 0 := hf 6 (by kernel_rfl)
      have harr : t = #[slot t 0, slot t 1, slot t 2, slot t 3, slot t 4, slot t 5, slot t 6, slot t 7, slot t 8, slot t 9, slot t 10, slot t 11, slot t 12, slot t 13, slot t 14, slot t 15, slot t 16, slot t 17, slot t 18, slot t 19, slot t 20, slot t 21, slot t 22, slot t 23, slot t 24, slot t 25, slot t 26, slot t 27, slot t 28, slot t 29, slot t 30, slot t 31, slot t 32, slot t 33, slot t 34, slot t 35, slot t 36, slot t 37, slot t 38, slot t 39, slot t 40, slot t 41, slot t 42, slot t 43, slot t 44, slot t 45, slot t 46, slot t 47, slot t 48, slot t 49, slot t 50, slot t 51, slot t 52, slot t 53, slot t 54, slot t 55, slot t 56, slot t 57, slot t 58, slot t 59, slot t 60] := arr_eq t 61 hsz
      rw [harr, h4, h5, h6]
      clear harr hfacts hf h4 h5 h6
      generalize slot t 0 = x0; generalize slot t 1 = x1; generalize slot t 2 = x2; generalize slot t 3 = x3; generalize slot t 7 = x7; generalize slot t 8 = x8; generalize slot t 9 = x9; generalize slot t 10 = x10; generalize slot t 11 = x11; generalize slot t 12 = x12; generalize slot t 13 = x13; generalize slot t 14 = x14
      generalize slot t 15 = x15; generalize slot t 16 = x16; generalize slot t 17 = x17; generalize slot t 18 = x18; generalize slot t 19 = x19; generalize slot t 20 = x20; generalize slot t 21 = x21; generalize slot t 22 = x22; generalize slot t 23 = x23; generalize slot t 24 = x24; generalize slot t 25 = x25; generalize slot t 26 = x26
      generalize slot t 27 = x27; generalize slot t 28 = x28; generalize slot t 29 = x29; generalize slot t 30 = x30; generalize slot t 31 = x31; generalize slot t 32 = x32; generalize slot t 33 = x33; generalize slot t 34 = x34; generalize slot t 35 = x35; generalize slot t 36 = x36; generalize slot t 37 = x37; generalize slot t 38 = x38
      generalize slot t 39 = x39; generalize slot t 40 = x40; generalize slot t 41 = x41; generalize slot t 42 = x42; generalize slot t 43 = x43; generalize slot t 44 = x44; generalize slot t 45 = x45; generalize slot t 46 = x46; generalize slot t 47 = x47; generalize slot t 48 = x48; generalize slot t 49 = x49; generalize slot t 50 = x50
      generalize slot t 51 = x51; generalize slot t 52 = x52; generalize slot t 53 = x53; generalize slot t 54 = x54; generalize slot t 55 = x55; generalize slot t 56 = x56; generalize slot t 57 = x57; generalize slot t 58 = x58; generalize slot t 59 = x59; generalize slot t 60 = x60
      clear hsz t
      simp only [List.drop_succ_cons, List.drop_zero]
      go_wp2
      go_ret
      exact ⟨rfl, KK.out.trans hk⟩
  · have hy : y < 4294967296 := by omega
    have hyp : 0 < y := by omega
    have hyz : ((y : Int) == 0) = false := by simp; omega
    have hr := Nat.mod_lt N hyp
    have HQL : Hid (N / y < 2 ^ 320) := Lib.hid (Nat.lt_of_le_of_lt (Nat.div_le_self _ _) hN)
    have HP : Hid (N / y * y < 2 ^ 320) := Lib.hid (Nat.lt_of_le_of_lt (Nat.div_mul_le_self N y) hN)
    have HS : Hid (N / y * y + N % y = N) := Lib.hid (by rw [Nat.mul_comm]; exact Nat.div_add_mod N y)
    have CD := Lib.hid fun w => largeDiv_any N y w hN hyp hy
    have CM : Hid (∀ w, Calls Try.prog 17 #[.agg (lC (N / y) 5), .int .u64 (y : Int)] w fun e w' => e = .returned (.tuple #[.agg (lC (N / y * y) 5), .bool true]) ∧ Grown w w') := Lib.hid fun w => by
      have h := largeMul_any (N / y) y w HQL.out (by omega)
      rw [cut_of HP.out, fit_of HP.out] at h
      exact h
    have CA : Hid (∀ w, Calls Try.prog 9 #[.agg (lC (N / y * y) 5), .agg (lC (N % y) 5)] w fun e w' => e = .returned (.tuple #[.agg (lC N 5), .bool true]) ∧ Grown w w') := Lib.hid fun w => by
      have h := largeAdd_any (N / y * y) (N % y) w HP.out (Nat.lt_of_le_of_lt (Nat.mod_le _ _) HN.out)
      rw [HS.out, cut_of HN.out, fit_of HN.out] at h
      exact h
    have hdr : decide (N % y < y) = true := decide_eq_true hr
    have hw39 : IntKind.u64.wrap ((N % y : Nat) : Int) = ((N % y : Nat) : Int) := by rw [IntKind.wrap_u64]; omega
    have hs0 : ∀ w, (Op.equalIn 10000 24 (.agg (lC N 5)) (.agg (lC N 5))).run Try.prog w = .ok true w := fun w => by rw [sameL N N HN.out HN.out w]; simp
    have hgd := guardL
    have CO := Lib.hid fun w => largeOf_any (N % y) w (by omega)
    generalize N / y * y = p at CM CA
    generalize N / y = q at CD CM
    generalize N % y = r at CD CA CO hr hdr hw39
    clear hN h1 h2 HQL HP HS hy0
    go_enter Try.func6, Try.ntmps6
    go_wp2_with (first
      | (refine wpList_load_row rfl 24 (.tmp 2) rfl w.heap.size rfl 24 (lC N 5) (0, 0) _ F0.out Try.underlying24 rfl (infoL _ _) ?_)
      | (go_at_call 26; refine (CD.out _).mono ?_; rintro e v2 ⟨rfl, k2⟩)
      | (refine wpList_store_made rfl 24 (.tmp 5) (.tmp 15) rfl v2 _ (lC q 5) rfl rfl 24 (lC 0 0) (by kernel_rfl) (infoL _ _) (by simp [lC_size]) (lC_one _ _) ?_; intro v1 R5 K5)
      | (refine wpList_load_row rfl 24 (.tmp 5) rfl v2.heap.size rfl 24 (lC q 5) (0, 0) _ R5.out Try.underlying24 rfl (infoL _ _) ?_)
      | (go_at_call 17; refine (CM.out _).mono ?_; rintro e v4 ⟨rfl, k4⟩)
      | (refine wpList_store_made rfl 24 (.tmp 7) (.tmp 34) rfl v4 _ (lC p 5) rfl rfl 24 (lC 0 0) (by kernel_rfl) (infoL _ _) (by simp [lC_size]) (lC_one _ _) ?_; intro v5 R7 K7))
    have KK := Lib.hid (((K0.out.trans k2).trans K5.out).trans ((Grown.kept k4).trans K7.out))
    have R2 := Lib.hid ((((F0.out.kept k2).kept K5.out).grown k4).kept K7.out)
    clear F0 K0 k2 K5 CD k4 K7 R5 CM
    refine wp_region_late 9 7 [9] [(37, .is (.agg (lC p 5))), (38, .is (.int .u32 (r : Int))), (39, .is (.int .u64 (r : Int))), (40, .is (.agg (lC r 5))), (41, .is (.tuple #[.agg (lC N 5), .bool true])), (36, .is (.tuple #[.agg (lC N 5), .bool true])), (42, .is (.agg (lC N 5))), (43, .is (.bool true)), (9, .row ptrAt0 (lC 0 0) 24)] (by kernel_rfl) (by kernel_rfl) (fun _ _ d _ _ h => by cases d <;> exact h) (by kernel_rfl) (by kernel_rfl) ?_ ?_
    · refine ⟨fun t w1 hf hk hp => ?_, ?_⟩
      · have h7 : slot t 7 = .pointer (some ⟨v4.heap.size, 0, none⟩) := hf 7 (by kernel_rfl)
        clear hf hp
        refine stepM_at (by kernel_rfl) ?_
        refine stepAt_plain rfl ?_
        have hq0 := Rowz.load (R7.out.kept hk) 5 22 Try.underlying24 (infoL _ _)
        exact stepOK_sem (.agg (lC p 5)) (by simp only [execOp, evS, h7]) hq0 rfl
      refine ⟨fun t w1 hf hk hp => ?_, ?_⟩
      · have h6 : slot t 6 = .int .u32 (r : Int) := hf 6 (by kernel_rfl)
        clear hf hp
        refine stepM_at (by kernel_rfl) ?_
        refine stepAt_plain rfl ?_
        exact stepOK_move _ (.inl rfl) h6
      refine ⟨fun t w1 hf hk hp => ?_, ?_⟩
      · have h38 : slot t 38 = .int .u32 (r : Int) := hp 38 (by kernel_rfl)
        clear hf hp
        refine stepM_at (by kernel_rfl) ?_
        refine stepAt_plain rfl ?_
        refine stepOK_pure (.int .u64 (r : Int)) ?_ rfl
        simp only [execOp, evS, h38]
        go_simp
      refine ⟨fun t w1 hf hk hp => ?_, ?_⟩
      · have h39 : slot t 39 = .int .u64 (r : Int) := hp 39 (by kernel_rfl)
        clear hf hp
        refine stepM_at (by kernel_rfl) ?_
        refine stepAt_plain rfl ?_
        refine stepOK_call #[.int .u64 (r : Int)] rfl (by simp only [List.map_toArray, List.map_cons, List.map_nil, evS, h39]) (by go_simp) ((CO.out w1).mono fun e w' ⟨he, hk'⟩ => ⟨_, he, Grown.kept hk', rfl⟩)
      refine ⟨fun t w1 hf hk hp => ?_, ?_⟩
      · have h37 : slot t 37 = .agg (lC p 5) := hp 37 (by kernel_rfl)
        have h40 : slot t 40 = .agg (lC r 5) := hp 40 (by kernel_rfl)
        clear hf hp
        refine stepM_at (by kernel_rfl) ?_
        refine stepAt_plain rfl ?_
        refine stepOK_call #[.agg (lC p 5), .agg (lC r 5)] rfl (by simp only [List.map_toArray, List.map_cons, List.map_nil, evS, h37, h40]) (by go_simp) ((CA.out w1).mono fun e w' ⟨he, hk'⟩ => ⟨_, he, Grown.kept hk', rfl⟩)
      refine ⟨fun t w1 hf hk hp => ?_, ?_⟩
      · have h41 : slot t 41 = .tuple #[.agg (lC N 5), .bool true] := hp 41 (by kernel_rfl)
        clear hf hp
        refine stepM_at (by kernel_rfl) ?_
        refine stepAt_plain rfl ?_
        exact stepOK_move _ (.inl rfl) h41
      refine ⟨fun t w1 hf hk hp => ?_, ?_⟩
      · have h36 : slot t 36 = .tuple #[.agg (lC N 5), .bool true] := hp 36 (by kernel_rfl)
        clear hf hp
        refine stepM_at (by kernel_rfl) ?_
        refine stepAt_plain rfl ?_
        refine stepOK_pure (.agg (lC N 5)) ?_ rfl
        simp only [execOp, evS, h36]
        go_simp
      refine ⟨fun t w1 hf hk hp => ?_, ?_⟩
      · have h36 : slot t 36 = .tuple #[.agg (lC N 5), .bool true] := hp 36 (by kernel_rfl)
        clear hf hp
        refine stepM_at (by kernel_rfl) ?_
        refine stepAt_plain rfl ?_
        refine stepOK_pure (.bool true) ?_ rfl
        simp only [execOp, evS, h36]
        go_simp
      refine ⟨fun t w1 hf hk hp => ?_, ?_⟩
      · clear hf hp
        refine stepM_made (by kernel_rfl) ?_
        refine stepMade_new ((lC 0 0)) 24 rfl ?_ ⟨_, rfl, Rowz.new w1 _ _⟩
        simp only [execOp, ptrAt0]
        go_simp
        rfl
      exact trivial
    · intro t w1 hsz hf hk hfacts hmd hap
      obtain ⟨g9, h9, r9⟩ : ∃ g, slot t 9 = ptrAt0 g ∧ Rowz w1 g (lC 0 0) 24 := hfacts 8 _ (by decide) rfl 9 rfl
      simp only [ptrAt0] at h9
      have h42 : slot t 42 = .agg (lC N 5) := hfacts 6 _ (by decide) rfl 42 rfl
      have h43 : slot t 43 = .bool true := hfacts 7 _ (by decide) rfl 43 rfl
      have h1 : slot t 1 = .int .u32 (y : Int) := hf 1 (by kernel_rfl)
      have h2 : slot t 2 = .pointer (some ⟨w.heap.size, 0, none⟩) := hf 2 (by kernel_rfl)
      have h6 : slot t 6 = .int .u32 (r : Int) := hf 6 (by kernel_rfl)
      have h7 : slot t 7 = .pointer (some ⟨v4.heap.size, 0, none⟩) := hf 7 (by kernel_rfl)
      have h8 : slot t 8 = .bool true := hf 8 (by kernel_rfl)
      have l9 := made_ge (hmd 9 (by kernel_rfl)) h9
      have harr : t = #[slot t 0, slot t 1, slot t 2, slot t 3, slot t 4, slot t 5, slot t 6, slot t 7, slot t 8, slot t 9, slot t 10, slot t 11, slot t 12, slot t 13, slot t 14, slot t 15, slot t 16, slot t 17, slot t 18, slot t 19, slot t 20, slot t 21, slot t 22, slot t 23, slot t 24, slot t 25, slot t 26, slot t 27, slot t 28, slot t 29, slot t 30, slot t 31, slot t 32, slot t 33, slot t 34, slot t 35, slot t 36, slot t 37, slot t 38, slot t 39, slot t 40, slot t 41, slot t 42, slot t 43, slot t 44, slot t 45, slot t 46, slot t 47, slot t 48, slot t 49, slot t 50, slot t 51, slot t 52, slot t 53, slot t 54, slot t 55, slot t 56, slot t 57, slot t 58, slot t 59, slot t 60] := arr_eq t 61 hsz
      rw [harr, h9, h42, h43, h1, h2, h6, h7, h8]
      clear harr hfacts hf hmd hap h9 h42 h43 h1 h2 h6 h7 h8
      generalize slot t 0 = x0; generalize slot t 3 = x3; generalize slot t 4 = x4; generalize slot t 5 = x5; generalize slot t 10 = x10; generalize slot t 11 = x11; generalize slot t 12 = x12; generalize slot t 13 = x13; generalize slot t 14 = x14; generalize slot t 15 = x15; generalize slot t 16 = x16; generalize slot t 17 = x17
      generalize slot t 18 = x18; generalize slot t 19 = x19; generalize slot t 20 = x20; generalize slot t 21 = x21; generalize slot t 22 = x22; generalize slot t 23 = x23; generalize slot t 24 = x24; generalize slot t 25 = x25; generalize slot t 26 = x26; generalize slot t 27 = x27; generalize slot t 28 = x28; generalize slot t 29 = x29
      generalize slot t 30 = x30; generalize slot t 31 = x31; generalize slot t 32 = x32; generalize slot t 33 = x33; generalize slot t 34 = x34; generalize slot t 35 = x35; generalize slot t 36 = x36; generalize slot t 37 = x37; generalize slot t 38 = x38; generalize slot t 39 = x39; generalize slot t 40 = x40; generalize slot t 41 = x41
      generalize slot t 44 = x44; generalize slot t 45 = x45; generalize slot t 46 = x46; generalize slot t 47 = x47; generalize slot t 48 = x48; generalize slot t 49 = x49; generalize slot t 50 = x50; generalize slot t 51 = x51; generalize slot t 52 = x52; generalize slot t 53 = x53; generalize slot t 54 = x54; generalize slot t 55 = x55
      generalize slot t 56 = x56; generalize slot t 57 = x57; generalize slot t 58 = x58; generalize slot t 59 = x59; generalize slot t 60 = x60
      clear hsz t
      simp only [List.drop_succ_cons, List.drop_zero]
      have hb1 : w.heap.size ≤ g9 := Nat.le_trans KK.out.size l9
      have KK2 := Lib.hid ((KK.out.trans hk).setRow hb1 (lC N 5))
      have hn2 : w.heap.size ≠ g9 := by have := R2.out.lt; omega
      have R2' := Lib.hid ((R2.out.kept hk).rowOther (D := lC N 5) hn2)
      have R9 := Lib.hid (r9.row (D := lC N 5))
      refine wpList_store_row rfl 24 _ _ rfl g9 (lC N 5) rfl rfl 24 (lC 0 0) r9 (infoL _ _) (by simp [lC_size]) (lC_one _ _) ?_
      clear r9 hk l9 hb1 hn2 R2 KK R7
      generalize w1.setRow g9 (lC N 5) = v6 at KK2 R2' R9 ⊢
      go_wp2_with (refine park_at 49 rfl ?_)
      refine unpark ?_
      refine wpList_table 13 [(49, .is (.agg (lC N 5))), (50, .is (.agg (lC N 5))), (51, .is (.bool true)), (52, .is (.bool true)), (53, .is (.bool true)), (54, .is (.int .u32 (r : Int))), (55, .is (.int .u32 (y : Int))), (56, .is (.bool true)), (57, .is (.bool true)), (58, .is (.bool true)), (59, .is (.bool true)), (60, .is (.bool true)), (4, .is (.bool true))] (by kernel_rfl) ?_ ?_
      · refine ⟨fun t w1 hf hk hp => ?_, ?_⟩
        · have h9 : slot t 9 = .pointer (some ⟨g9, 0, none⟩) := hf 9 (by kernel_rfl)
          have h48 : slot t 48 = .bool true := hf 48 (by kernel_rfl)
          clear hf hp
          refine stepAt_on 48 true (by kernel_rfl) h48 ?_
          have hq0 := Rowz.load (R9.out.kept hk) 5 22 Try.underlying24 (infoL _ _)
          exact stepOK_sem (.agg (lC N 5)) (by simp only [execOp, evS, h9]) hq0 rfl
        refine ⟨fun t w1 hf hk hp => ?_, ?_⟩
        · have h2 : slot t 2 = .pointer (some ⟨w.heap.size, 0, none⟩) := hf 2 (by kernel_rfl)
          have h48 : slot t 48 = .bool true := hf 48 (by kernel_rfl)
          clear hf hp
          refine stepAt_on 48 true (by kernel_rfl) h48 ?_
          have hq0 := Rowz.load (R2'.out.kept hk) 5 22 Try.underlying24 (infoL _ _)
          exact stepOK_sem (.agg (lC N 5)) (by simp only [execOp, evS, h2]) hq0 rfl
        refine ⟨fun t w1 hf hk hp => ?_, ?_⟩
        · have h49 : slot t 49 = .agg (lC N 5) := hp 49 (by kernel_rfl)
          have h50 : slot t 50 = .agg (lC N 5) := hp 50 (by kernel_rfl)
          have h48 : slot t 48 = .bool true := hf 48 (by kernel_rfl)
          clear hf hp
          refine stepAt_on 48 true (by kernel_rfl) h48 ?_
          have hq0 := hs0 w1
          have hq1 := hgd
          refine stepOK_pure (.bool true) ?_ rfl
          simp only [execOp, evS, h49, h50]
          go_simp
        refine ⟨fun t w1 hf hk hp => ?_, ?_⟩
        · have h48 : slot t 48 = .bool true := hf 48 (by kernel_rfl)
          have h51 : slot t 51 = .bool true := hp 51 (by kernel_rfl)
          clear hf hp
          refine stepAt_plain rfl ?_
          refine stepOK_pure (.bool true) ?_ rfl
          simp only [execOp, evS, h48, h51]
          go_simp
        refine ⟨fun t w1 hf hk hp => ?_, ?_⟩
        · have h52 : slot t 52 = .bool true := hp 52 (by kernel_rfl)
          clear hf hp
          refine stepAt_plain rfl ?_
          exact stepOK_move _ (.inl rfl) h52
        refine ⟨fun t w1 hf hk hp => ?_, ?_⟩
        · have h6 : slot t 6 = .int .u32 (r : Int) := hf 6 (by kernel_rfl)
          have h53 : slot t 53 = .bool true := hp 53 (by kernel_rfl)
          clear hf hp
          refine stepAt_on 53 true (by kernel_rfl) h53 ?_
          exact stepOK_move _ (.inl rfl) h6
        refine ⟨fun t w1 hf hk hp => ?_, ?_⟩
        · have h1 : slot t 1 = .int .u32 (y : Int) := hf 1 (by kernel_rfl)
          have h53 : slot t 53 = .bool true := hp 53 (by kernel_rfl)
          clear hf hp
          refine stepAt_on 53 true (by kernel_rfl) h53 ?_
          exact stepOK_move _ (.inl rfl) h1
        refine ⟨fun t w1 hf hk hp => ?_, ?_⟩
        · have h54 : slot t 54 = .int .u32 (r : Int) := hp 54 (by kernel_rfl)
          have h55 : slot t 55 = .int .u32 (y : Int) := hp 55 (by kernel_rfl)
          have h53 : slot t 53 = .bool true := hp 53 (by kernel_rfl)
          clear hf hp
          refine stepAt_on 53 true (by kernel_rfl) h53 ?_
          refine stepOK_pure (.bool true) ?_ rfl
          simp only [execOp, evS, h54, h55]
          go_simp
        refine ⟨fun t w1 hf hk hp => ?_, ?_⟩
        · have h53 : slot t 53 = .bool true := hp 53 (by kernel_rfl)
          have h56 : slot t 56 = .bool true := hp 56 (by kernel_rfl)
          clear hf hp
          refine stepAt_plain rfl ?_
          refine stepOK_pure (.bool true) ?_ rfl
          simp only [execOp, evS, h53, h56]
          go_simp
        refine ⟨fun t w1 hf hk hp => ?_, ?_⟩
        · have h57 : slot t 57 = .bool true := hp 57 (by kernel_rfl)
          clear hf hp
          refine stepAt_plain rfl ?_
          exact stepOK_move _ (.inl rfl) h57
        refine ⟨fun t w1 hf hk hp => ?_, ?_⟩
        · have h58 : slot t 58 = .bool true := hp 58 (by kernel_rfl)
          clear hf hp
          refine stepAt_on 58 true (by kernel_rfl) h58 ?_
          refine stepOK_call #[] rfl (by simp only [List.map_toArray, List.map_nil]) (by go_simp) ((awake5_any w1).mono fun e w' ⟨he, hk'⟩ => ⟨_, he, hk', rfl⟩)
        refine ⟨fun t w1 hf hk hp => ?_, ?_⟩
        · have h58 : slot t 58 = .bool true := hp 58 (by kernel_rfl)
          have h59 : slot t 59 = .bool true := hp 59 (by kernel_rfl)
          clear hf hp
          refine stepAt_plain rfl ?_
          refine stepOK_pure (.bool true) ?_ rfl
          simp only [execOp, evS, h58, h59]
          go_simp
        refine ⟨fun t w1 hf hk hp => ?_, ?_⟩
        · have h60 : slot t 60 = .bool true := hp 60 (by kernel_rfl)
          clear hf hp
          refine stepAt_plain rfl ?_
          exact stepOK_move _ (.inr rfl) h60
        exact trivial
      · intro t w1 hsz hf hk hfacts
        have h4 : slot t 4 = .bool true := hfacts 4 (by kernel_rfl)
        have h1 : slot t 1 = .int .u32 (y : Int) := hf 1 (by kernel_rfl)
        have h2 : slot t 2 = .pointer (some ⟨w.heap.size, 0, none⟩) := hf 2 (by kernel_rfl)
        have h6 : slot t 6 = .int .u32 (r : Int) := hf 6 (by kernel_rfl)
        have h9 : slot t 9 = .pointer (some ⟨g9, 0, none⟩) := hf 9 (by kernel_rfl)
        have h48 : slot t 48 = .bool true := hf 48 (by kernel_rfl)
        have harr : t = #[slot t 0, slot t 1, slot t 2, slot t 3, slot t 4, slot t 5, slot t 6, slot t 7, slot t 8, slot t 9, slot t 10, slot t 11, slot t 12, slot t 13, slot t 14, slot t 15, slot t 16, slot t 17, slot t 18, slot t 19, slot t 20, slot t 21, slot t 22, slot t 23, slot t 24, slot t 25, slot t 26, slot t 27, slot t 28, slot t 29, slot t 30, slot t 31, slot t 32, slot t 33, slot t 34, slot t 35, slot t 36, slot t 37, slot t 38, slot t 39, slot t 40, slot t 41, slot t 42, slot t 43, slot t 44, slot t 45, slot t 46, slot t 47, slot t 48, slot t 49, slot t 50, slot t 51, slot t 52, slot t 53, slot t 54, slot t 55, slot t 56, slot t 57, slot t 58, slot t 59, slot t 60] := arr_eq t 61 hsz
        rw [harr, h4, h1, h2, h6, h9, h48]
        clear harr hfacts hf h4 h1 h2 h6 h9 h48
        generalize slot t 0 = x0; generalize slot t 3 = x3; generalize slot t 5 = x5; generalize slot t 7 = x7; generalize slot t 8 = x8; generalize slot t 10 = x10; generalize slot t 11 = x11; generalize slot t 12 = x12; generalize slot t 13 = x13; generalize slot t 14 = x14; generalize slot t 15 = x15; generalize slot t 16 = x16
        generalize slot t 17 = x17; generalize slot t 18 = x18; generalize slot t 19 = x19; generalize slot t 20 = x20; generalize slot t 21 = x21; generalize slot t 22 = x22; generalize slot t 23 = x23; generalize slot t 24 = x24; generalize slot t 25 = x25; generalize slot t 26 = x26; generalize slot t 27 = x27; generalize slot t 28 = x28
        generalize slot t 29 = x29; generalize slot t 30 = x30; generalize slot t 31 = x31; generalize slot t 32 = x32; generalize slot t 33 = x33; generalize slot t 34 = x34; generalize slot t 35 = x35; generalize slot t 36 = x36; generalize slot t 37 = x37; generalize slot t 38 = x38; generalize slot t 39 = x39; generalize slot t 40 = x40
        generalize slot t 41 = x41; generalize slot t 42 = x42; generalize slot t 43 = x43; generalize slot t 44 = x44; generalize slot t 45 = x45; generalize slot t 46 = x46; generalize slot t 47 = x47; generalize slot t 49 = x49; generalize slot t 50 = x50; generalize slot t 51 = x51; generalize slot t 52 = x52; generalize slot t 53 = x53
        generalize slot t 54 = x54; generalize slot t 55 = x55; generalize slot t 56 = x56; generalize slot t 57 = x57; generalize slot t 58 = x58; generalize slot t 59 = x59; generalize slot t 60 = x60
        clear hsz t
        simp only [List.drop_succ_cons, List.drop_zero]
        go_wp2
        go_ret
        exact ⟨rfl, KK2.out.trans hk⟩

set_option maxRecDepth 100000 in
set_option maxHeartbeats 1000000 in
theorem lifted (os : Os) (started : os.Started) (H : Type) (enc : TypeId × Value → H) :
    ReturnsInHanded {} Try.checked os 6 .any (Rows.largeDivsSpec.pre6 enc Try.prog Try.f6 Rows.largeDivsRow.domain false) (Rows.largeDivsSpec.post enc Try.prog Try.f6 false true false false) := by
  refine returnsInHanded_of_change_sized (C := Try.checked) own started (by kernel_rfl) Try.func6
    (ChangeSpec.witness6 (enc := enc) (C := Try.checked) false ⟨#[], #[.agg #[.int .u64 0, .int .u64 0, .int .u64 0, .int .u64 0, .int .u64 0], .int .u32 0], []⟩ 8 (by kernel_rfl) (by kernel_rfl) (by kernel_rfl) (by kernel_rfl)) ?_
  intro W base args ds gs before hval0 hW hcnd hsz0 _
  have hval : ∀ (j : Nat) t v, Try.f6.params[j]? = some t → args[j]? = some v → Value.okWide Try.prog W .any base t v := hval0
  have hsz : (DataW.weightsEach Try.prog (Try.f6.params.toList ++ Rows.largeDivsSpec.plain.varTypes Try.prog) (ds ++ gs)).all (· ≤ reachBytes) = true := hsz0
  have hW' := hW
  obtain ⟨p, q, hA0, hV, rfl, hfz, hnd⟩ := hW
  have hA : DataW.TrodAll enc Try.prog W 0 (fun _ => true) true Try.f6.params.toList args.toList ds p := hA0
  have hAk := hA
  rw [Try.params6] at hA hval hsz
  obtain ⟨v0, vs0, d0, ds0, p0_, q0_, hargs, rfl, rfl, h0, r0_⟩ := trodAll_cons hA
  obtain ⟨v1, vs1, d1, ds1, p1_, q1_, rfl, rfl, rfl, h1, r1_⟩ := trodAll_cons r0_
  obtain ⟨rfl, rfl, rfl⟩ := trodAll_nil r1_
  obtain rfl : args = #[v0, v1] := by cases args; simp_all
  obtain ⟨rfl, rfl⟩ := trodVars_none hV
  have hlt : ∀ x ∈ (p0_ ++ (p1_ ++ ([]))), x.block < W.heap.size := fun x hx => by simpa using hW'.lt x (by simpa using hx)
  obtain ⟨cs0, rfl⟩ : ∃ cs, v0 = .agg cs := by
    have := hval 0 24 v0 rfl rfl
    simp only [Value.okWide, Try.underlying24] at this
    obtain ⟨cs, h, _⟩ := this
    exact ⟨cs, h⟩
  obtain ⟨a0, n0, b0, rfl⟩ := open_u64Arr Try.underlying24 Try.underlying22 (by kernel_rfl) (by kernel_rfl) h0
  obtain ⟨a1, rfl, rfl, rfl, w1⟩ := open_int Try.underlying53 (hval 1 53 v1 rfl rfl) h1
  clear hA0 hval0
  refine (walk a0 n0 b0 a1 w1 W ).mono fun e W' ⟨he, hg⟩ => ?_
  subst he
  exact ⟨_, rfl, ⟨_, _, _, [], _, [], hW', trodAll_cons_mk (shut_bool Try.underlying4 _) trodAll_mk0, trodAll_stays laidOut hg (by kernel_rfl) hAk hlt (fun x hx => by simpa using hlt x hx), rfl, Kept.frame hg _, fun h => by cases h⟩⟩

theorem over : Rows.largeDivsRow.holds Try.pinned (OpenSpec.ofChange Rows.largeDivsSpec) :=
  OpenClaim.holds_of_wide 6 Try.f6 rfl rfl rfl rfl rfl rfl rfl ⟨rfl, rfl, rfl, rfl, rfl⟩ rfl rfl rfl rfl rfl (by kernel_rfl) Try.func6 (by kernel_rfl)
    (of_decide_eq_true (by kernel_rfl)) (by unfold Func.isWrapper; first | (rw [if_pos (by decide +kernel)]; kernel_rfl) | (rw [if_neg (by decide +kernel)]; exact ⟨rfl, rfl⟩))
    (fun os started H enc _ => lifted os started H enc)
end Go.Proofs.Ytenggbfjflgnkaa.largeDivs
namespace Go.Proofs.Ytenggbfjflgnkaa
theorem largeDivs_holds : Rows.LargeDivsSaid := largeDivs.over
#print axioms largeDivs_holds
end Go.Proofs.Ytenggbfjflgnkaa
