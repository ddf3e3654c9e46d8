/-
  Contracts of package large: Shl; equality of numbers.
-/
import Derived.Test.YtcjieaijcjinnaaLargeWalkC
import Derived.Test.YtcjieaijcjinnaaEqHash
namespace Go.Proofs.Ytcjieaijcjinnaa
open Go.RowKit

theorem lC_iC (N : Nat) : lC N 5 = iC .u64 5 (fun i => ((lmb N i : Nat) : Int)) := by
  unfold lC iC
  congr 1
theorem all_limbs5 (A B : Nat) (hA : A < 2 ^ 320) (hB : B < 2 ^ 320) : ((List.range 5).all fun i => ((lmb A i : Nat) : Int) == ((lmb B i : Nat) : Int)) = decide (A = B) := by
  by_cases h : A = B
  · subst h; simp
  · rw [decide_eq_false h]
    apply Bool.eq_false_iff.2
    intro hall
    apply h
    apply lmb_inj5 A B hA hB
    intro i hi
    have := List.all_eq_true.1 hall i (by simpa using hi)
    simp only [beq_iff_eq] at this
    omega
theorem sameL (A B : Nat) (hA : A < 2 ^ 320) (hB : B < 2 ^ 320) (w : World) : (Op.equalIn 10000 24 (.agg (lC A 5)) (.agg (lC B 5))).run Try.prog w = .ok (decide (A = B)) w := by
  rw [lC_iC, lC_iC, ← all_limbs5 A B hA hB]
  exact run_equalIn_ints w _ 24 22 5 .u64 Try.underlying24 Try.underlying22 (fun _ => by kernel_rfl) _ _
theorem guardL : Try.prog.eqGuardType Try.prog.depth 24 = false := by kernel_rfl
theorem execEqL {o : Oper} {t : Array Value} {x y : Operand} (A B : Nat) (hA : A < 2 ^ 320) (hB : B < 2 ^ 320) (w : World) (ho : o.op = .binOp .eql 24 x y 24) (hx : evS t x = .agg (lC A 5)) (hy : evS t y = .agg (lC B 5)) :
    (execOp (evS t) o).run Try.prog w = .ok (.value (.bool (decide (A = B)))) w := by
  have hq0 := sameL A B hA hB w
  have hq1 := guardL
  unfold execOp
  rw [ho]
  simp only [hx, hy]
  go_simp
theorem pos320 : 0 < 2 ^ 320 := Nat.two_pow_pos 320

theorem shl_val (N n q r k : Nat) (hn : n = 64 * q + r) (hr : r < 64) :
    bits .or .u64 ((lz N ((k : Int) - (q : Int)) : Int) * 2 ^ r % 18446744073709551616) ((lz N ((k : Int) - (q : Int) - 1) : Int) / 2 ^ (64 - r)) = ((lmb (N * 2 ^ n) k : Nat) : Int) := by
  have e1 : ((lz N ((k : Int) - (q : Int)) : Int) * 2 ^ r % 18446744073709551616) = ((lz N ((k : Int) - (q : Int)) * 2 ^ r % 18446744073709551616 : Nat) : Int) := by simp
  have e2 : ((lz N ((k : Int) - (q : Int) - 1) : Int) / 2 ^ (64 - r)) = ((lz N ((k : Int) - (q : Int) - 1) / 2 ^ (64 - r) : Nat) : Int) := by simp
  rw [e1, e2, u64_or_nat _ _ (Nat.mod_lt _ (by decide)) (Nat.lt_of_le_of_lt (Nat.div_le_self _ _) (lz_lt _ _)), shl_limb N n q r k hn hr]
theorem largeShl_neg (N : Nat) (n : Int) (w : World) (hn : n < 0) :
    Calls Try.prog 22 #[.agg (lC N 5), .int .i64 n] w fun e w' => e = .returned (.tuple #[.agg (lC 0 5), .bool false]) ∧ Kept w w' := by
  have hd0 : decide (n < 0) = true := decide_eq_true hn
  clear hn
  go_enter Try.func22, Try.ntmps22
  have R1 := Rowz.new (w.alloc (.cells (lC N 5) 24)) (lC 0 0) 24
  have e1 : (w.alloc (.cells (lC N 5) 24)).heap.size = w.heap.size + 1 := by simp
  rw [e1] at R1
  clear e1
  go_wp2_with (first
    | (refine wpList_store_row rfl 24 _ _ rfl (w.heap.size + 1) (lC 0 5) rfl (by kernel_rfl) 24 (lC 0 0) R1 (infoL _ _) (by simp [lC_size]) (lC_one _ _) ?_))
  refine bodyPost_ret (v := .tuple #[.agg (lC 0 5), .bool false]) (results_row_tmp Try.results22 _ _ (w.heap.size + 1) 24 _ _ _ rfl rfl R1.row Try.underlying24 rfl (infoL _ _)) rfl ⟨rfl, ?_⟩
  exact (((Kept.refl w).alloc _).alloc _).setRow (by omega) _
set_option maxRecDepth 100000 in
set_option maxHeartbeats 2000000 in
theorem largeShl_over (N n : Nat) (w : World) (hN : N < 2 ^ 320) (h0 : N ≠ 0) (hb : 320 < n + bl N) :
    Calls Try.prog 22 #[.agg (lC N 5), .int .i64 (n : Int)] w fun e w' => e = .returned (.tuple #[.agg (lC (cut (N * 2 ^ n)) 5), .bool (fit (N * 2 ^ n))]) ∧ Kept w w' := by
  have hs0 : ∀ w, (Op.equalIn 10000 24 (.agg (lC N 5)) (.agg (lC 0 5))).run Try.prog w = .ok false w := fun w => by rw [sameL N 0 hN pos320 w, decide_eq_false h0]
  have hgd := guardL
  have hbl := bl_le N 320 hN
  have HLen := Lib.hid fun w => largeLen_any N w hN
  have hcmp : decide (320 - ((bl N : Nat) : Int) < (n : Int)) = true := decide_eq_true (by omega)
  have hf : ¬ N * 2 ^ n < 2 ^ 320 := fun h => by have := (fit_shl N n h0).1 h; omega
  have HC := Lib.hid (cut_no (Nat.le_of_not_lt hf))
  have HF := Lib.hid (fit_no (Nat.le_of_not_lt hf))
  clear hf hN h0
  have hd0 : decide ((n : Int) < 0) = false := by simp
  go_enter Try.func22, Try.ntmps22
  go_wp2_with (refine park_at 13 rfl ?_)
  have R0 : Hid (Rowz ((w.alloc (.cells (lC N 5) 24)).alloc (.cells (lC 0 0) 24)) w.heap.size (lC N 5) 24) := Lib.hid ((Rowz.new w _ _).alloc _)
  have R1 : Hid (Rowz ((w.alloc (.cells (lC N 5) 24)).alloc (.cells (lC 0 0) 24)) (w.heap.size + 1) (lC 0 0) 24) := Lib.hid (Rowz.newEq1 w _ _ _ _ rfl)
  have K0 : Hid (Kept w ((w.alloc (.cells (lC N 5) 24)).alloc (.cells (lC 0 0) 24))) := Lib.hid (((Kept.refl w).alloc _).alloc _)
  change Parked (wpList _ _ _ _ _ ((w.alloc (.cells (lC N 5) 24)).alloc (.cells (lC 0 0) 24))) 
  generalize (w.alloc (.cells (lC N 5) 24)).alloc (.cells (lC 0 0) 24) = w0 at R0 R1 K0 ⊢
  clear hd0
  refine unpark ?_
  refine wpList_table 10 [(13, .is (.agg (lC N 5))), (14, .is (.agg (lC 0 5))), (15, .is (.bool true)), (16, .is (.bool true)), (17, .is (.int .i64 (n : Int))), (18, .is (.agg (lC N 5))), (19, .is (.int .i64 ((bl N : Nat) : Int))), (20, .is (.int .i64 (320 - ((bl N : Nat) : Int)))), (21, .is (.bool true)), (22, .is (.bool true))] (by kernel_rfl) ?_ ?_
  · refine ⟨fun t w1 hf hk hp => ?_, ?_⟩
    · have h2 : slot t 2 = .pointer (some ⟨w.heap.size, 0, none⟩) := hf 2 (by kernel_rfl)
      clear hf hp
      refine stepAt_plain rfl ?_
      have hq0 := Rowz.load (R0.out.kept hk) 5 22 Try.underlying24 (infoL _ _)
      exact stepOK_sem (.agg (lC N 5)) (by simp only [execOp, evS, h2]) hq0 rfl
    refine ⟨fun t w1 hf hk hp => ?_, ?_⟩
    · clear hf hp
      refine stepAt_plain rfl ?_
      refine stepOK_pure (.agg (lC 0 5)) ?_ rfl
      simp only [execOp, evS]
      go_simp
      kernel_rfl
    refine ⟨fun t w1 hf hk hp => ?_, ?_⟩
    · have h13 : slot t 13 = .agg (lC N 5) := hp 13 (by kernel_rfl)
      have h14 : slot t 14 = .agg (lC 0 5) := hp 14 (by kernel_rfl)
      clear hf hp
      refine stepAt_plain rfl ?_
      have hq0 := hs0 w1
      have hq1 := hgd
      refine stepOK_pure (.bool true) ?_ rfl
      simp only [execOp, evS, h13, h14]
      go_simp
    refine ⟨fun t w1 hf hk hp => ?_, ?_⟩
    · have h15 : slot t 15 = .bool true := hp 15 (by kernel_rfl)
      clear hf hp
      refine stepAt_plain rfl ?_
      exact stepOK_move _ (.inl rfl) h15
    refine ⟨fun t w1 hf hk hp => ?_, ?_⟩
    · have h1 : slot t 1 = .int .i64 (n : Int) := hf 1 (by kernel_rfl)
      have h16 : slot t 16 = .bool true := hp 16 (by kernel_rfl)
      clear hf hp
      refine stepAt_on 16 true (by kernel_rfl) h16 ?_
      exact stepOK_move _ (.inl rfl) h1
    refine ⟨fun t w1 hf hk hp => ?_, ?_⟩
    · have h2 : slot t 2 = .pointer (some ⟨w.heap.size, 0, none⟩) := hf 2 (by kernel_rfl)
      have h16 : slot t 16 = .bool true := hp 16 (by kernel_rfl)
      clear hf hp
      refine stepAt_on 16 true (by kernel_rfl) h16 ?_
      have hq0 := Rowz.load (R0.out.kept hk) 5 22 Try.underlying24 (infoL _ _)
      exact stepOK_sem (.agg (lC N 5)) (by simp only [execOp, evS, h2]) hq0 rfl
    refine ⟨fun t w1 hf hk hp => ?_, ?_⟩
    · have h18 : slot t 18 = .agg (lC N 5) := hp 18 (by kernel_rfl)
      have h16 : slot t 16 = .bool true := hp 16 (by kernel_rfl)
      clear hf hp
      refine stepAt_on 16 true (by kernel_rfl) h16 ?_
      refine stepOK_call #[.agg (lC N 5)] rfl (by simp only [List.map_toArray, List.map_cons, List.map_nil, evS, h18]) (by go_simp) ((HLen.out w1).mono fun e w' ⟨he, hk'⟩ => ⟨_, he, Grown.kept hk', rfl⟩)
    refine ⟨fun t w1 hf hk hp => ?_, ?_⟩
    · have h19 : slot t 19 = .int .i64 ((bl N : Nat) : Int) := hp 19 (by kernel_rfl)
      have h16 : slot t 16 = .bool true := hp 16 (by kernel_rfl)
      clear hf hp
      refine stepAt_on 16 true (by kernel_rfl) h16 ?_
      refine stepOK_pure (.int .i64 (320 - ((bl N : Nat) : Int))) ?_ rfl
      simp only [execOp, evS, h19]
      go_simp
      exact IntWalk.i64_in _ (by omega)
    refine ⟨fun t w1 hf hk hp => ?_, ?_⟩
    · have h17 : slot t 17 = .int .i64 (n : Int) := hp 17 (by kernel_rfl)
      have h20 : slot t 20 = .int .i64 (320 - ((bl N : Nat) : Int)) := hp 20 (by kernel_rfl)
      have h16 : slot t 16 = .bool true := hp 16 (by kernel_rfl)
      clear hf hp
      refine stepAt_on 16 true (by kernel_rfl) h16 ?_
      refine stepOK_pure (.bool true) ?_ rfl
      simp only [execOp, evS, h17, h20]
      go_simp
    refine ⟨fun t w1 hf hk hp => ?_, ?_⟩
    · have h16 : slot t 16 = .bool true := hp 16 (by kernel_rfl)
      have h21 : slot t 21 = .bool true := hp 21 (by kernel_rfl)
      clear hf hp
      refine stepAt_plain rfl ?_
      refine stepOK_pure (.bool true) ?_ rfl
      simp only [execOp, evS, h16, h21]
      go_simp
    exact trivial
  · intro t w1 hsz hf hk hfacts
    have h22 : slot t 22 = .bool true := hfacts 22 (by kernel_rfl)
    have h1 : slot t 1 = .int .i64 (n : Int) := hf 1 (by kernel_rfl)
    have h2 : slot t 2 = .pointer (some ⟨w.heap.size, 0, none⟩) := hf 2 (by kernel_rfl)
    have h4 : slot t 4 = .pointer (some ⟨w.heap.size + 1, 0, none⟩) := hf 4 (by kernel_rfl)
    have harr : t = #[slot t 0, slot t 1, slot t 2, slot t 3, slot t 4, slot t 5, slot t 6, slot t 7, slot t 8, slot t 9, slot t 10, slot t 11, slot t 12, slot t 13, slot t 14, slot t 15, slot t 16, slot t 17, slot t 18, slot t 19, slot t 20, slot t 21, slot t 22, slot t 23, slot t 24, slot t 25, slot t 26, slot t 27, slot t 28, slot t 29, slot t 30, slot t 31, slot t 32, slot t 33, slot t 34, slot t 35, slot t 36, slot t 37, slot t 38, slot t 39, slot t 40, slot t 41, slot t 42, slot t 43, slot t 44, slot t 45, slot t 46, slot t 47, slot t 48, slot t 49, slot t 50, slot t 51] := arr_eq t 52 hsz
    rw [harr, h22, h1, h2, h4]
    clear harr hfacts hf h22 h1 h2 h4
    generalize slot t 0 = x0; generalize slot t 3 = x3; generalize slot t 5 = x5; generalize slot t 6 = x6; generalize slot t 7 = x7; generalize slot t 8 = x8; generalize slot t 9 = x9; generalize slot t 10 = x10; generalize slot t 11 = x11; generalize slot t 12 = x12; generalize slot t 13 = x13; generalize slot t 14 = x14
    generalize slot t 15 = x15; generalize slot t 16 = x16; generalize slot t 17 = x17; generalize slot t 18 = x18; generalize slot t 19 = x19; generalize slot t 20 = x20; generalize slot t 21 = x21; generalize slot t 23 = x23; generalize slot t 24 = x24; generalize slot t 25 = x25; generalize slot t 26 = x26; generalize slot t 27 = x27
    generalize slot t 28 = x28; generalize slot t 29 = x29; generalize slot t 30 = x30; generalize slot t 31 = x31; generalize slot t 32 = x32; generalize slot t 33 = x33; generalize slot t 34 = x34; generalize slot t 35 = x35; generalize slot t 36 = x36; generalize slot t 37 = x37; generalize slot t 38 = x38; generalize slot t 39 = x39
    generalize slot t 40 = x40; generalize slot t 41 = x41; generalize slot t 42 = x42; generalize slot t 43 = x43; generalize slot t 44 = x44; generalize slot t 45 = x45; generalize slot t 46 = x46; generalize slot t 47 = x47; generalize slot t 48 = x48; generalize slot t 49 = x49; generalize slot t 50 = x50; generalize slot t 51 = x51
    clear hsz t
    simp only [List.drop_succ_cons, List.drop_zero]
    have R4 := Lib.hid (R1.out.kept hk)
    have G0 := Lib.hid (K0.out.trans hk)
    clear R0 R1 K0 hk
    go_wp2_with (first
      | (refine wpList_store_row rfl 24 _ _ rfl (w.heap.size + 1) (lC 0 5) rfl (by kernel_rfl) 24 (lC 0 0) R4.out (infoL _ _) (by simp [lC_size]) (lC_one _ _) ?_))
    refine bodyPost_ret (v := .tuple #[.agg (lC 0 5), .bool false]) (results_row_tmp Try.results22 _ _ (w.heap.size + 1) 24 _ _ _ rfl rfl R4.out.row Try.underlying24 rfl (infoL _ _)) rfl ⟨by rw [HC.out, HF.out], ?_⟩
    exact G0.out.setRow (by omega) _
set_option maxRecDepth 100000 in
set_option maxHeartbeats 2000000 in
theorem largeShl_in (N n : Nat) (w : World) (hN : N < 2 ^ 320) (hn : n ≤ 9223372036854775807) (h0 : N ≠ 0) (hb : n + bl N ≤ 320) :
    Calls Try.prog 22 #[.agg (lC N 5), .int .i64 (n : Int)] w fun e w' => e = .returned (.tuple #[.agg (lC (cut (N * 2 ^ n)) 5), .bool (fit (N * 2 ^ n))]) ∧ Kept w w' := by
  have hs0 : ∀ w, (Op.equalIn 10000 24 (.agg (lC N 5)) (.agg (lC 0 5))).run Try.prog w = .ok false w := fun w => by rw [sameL N 0 hN pos320 w, decide_eq_false h0]
  have hgd := guardL
  have hbl := bl_le N 320 hN
  have HLen := Lib.hid fun w => largeLen_any N w hN
  have hcmp : decide (320 - ((bl N : Nat) : Int) < (n : Int)) = false := decide_eq_false (by omega)
  have hf : N * 2 ^ n < 2 ^ 320 := (fit_shl N n h0).2 hb
  have HC := Lib.hid (cut_of hf)
  have HF := Lib.hid (fit_of hf)
  clear hf hN h0
  obtain ⟨q, hq⟩ : ∃ q : Nat, (n : Int) / 64 = (q : Int) := ⟨n / 64, by omega⟩
  obtain ⟨r, hr⟩ : ∃ r : Nat, (n : Int) % 64 = (r : Int) := ⟨n % 64, by omega⟩
  have HNT : Hid (n = 64 * q + r) := Lib.hid (by omega)
  have hr64 : r < 64 := by omega
  have hq57 : q ≤ 144115188075855871 := by omega
  have hd0 : decide ((n : Int) < 0) = false := by simp
  go_enter Try.func22, Try.ntmps22
  go_wp2_with (refine park_at 13 rfl ?_)
  have R0 : Hid (Rowz ((w.alloc (.cells (lC N 5) 24)).alloc (.cells (lC 0 0) 24)) w.heap.size (lC N 5) 24) := Lib.hid ((Rowz.new w _ _).alloc _)
  have R1 : Hid (Rowz ((w.alloc (.cells (lC N 5) 24)).alloc (.cells (lC 0 0) 24)) (w.heap.size + 1) (lC 0 0) 24) := Lib.hid (Rowz.newEq1 w _ _ _ _ rfl)
  have K0 : Hid (Kept w ((w.alloc (.cells (lC N 5) 24)).alloc (.cells (lC 0 0) 24))) := Lib.hid (((Kept.refl w).alloc _).alloc _)
  change Parked (wpList _ _ _ _ _ ((w.alloc (.cells (lC N 5) 24)).alloc (.cells (lC 0 0) 24))) 
  generalize (w.alloc (.cells (lC N 5) 24)).alloc (.cells (lC 0 0) 24) = w0 at R0 R1 K0 ⊢
  clear hd0
  refine unpark ?_
  refine wpList_table 10 [(13, .is (.agg (lC N 5))), (14, .is (.agg (lC 0 5))), (15, .is (.bool true)), (16, .is (.bool true)), (17, .is (.int .i64 (n : Int))), (18, .is (.agg (lC N 5))), (19, .is (.int .i64 ((bl N : Nat) : Int))), (20, .is (.int .i64 (320 - ((bl N : Nat) : Int)))), (21, .is (.bool false)), (22, .is (.bool false))] (by kernel_rfl) ?_ ?_
  · refine ⟨fun t w1 hf hk hp => ?_, ?_⟩
    · have h2 : slot t 2 = .pointer (some ⟨w.heap.size, 0, none⟩) := hf 2 (by kernel_rfl)
      clear hf hp
      refine stepAt_plain rfl ?_
      have hq0 := Rowz.load (R0.out.kept hk) 5 22 Try.underlying24 (infoL _ _)
      exact stepOK_sem (.agg (lC N 5)) (by simp only [execOp, evS, h2]) hq0 rfl
    refine ⟨fun t w1 hf hk hp => ?_, ?_⟩
    · clear hf hp
      refine stepAt_plain rfl ?_
      refine stepOK_pure (.agg (lC 0 5)) ?_ rfl
      simp only [execOp, evS]
      go_simp
      kernel_rfl
    refine ⟨fun t w1 hf hk hp => ?_, ?_⟩
    · have h13 : slot t 13 = .agg (lC N 5) := hp 13 (by kernel_rfl)
      have h14 : slot t 14 = .agg (lC 0 5) := hp 14 (by kernel_rfl)
      clear hf hp
      refine stepAt_plain rfl ?_
      have hq0 := hs0 w1
      have hq1 := hgd
      refine stepOK_pure (.bool true) ?_ rfl
      simp only [execOp, evS, h13, h14]
      go_simp
    refine ⟨fun t w1 hf hk hp => ?_, ?_⟩
    · have h15 : slot t 15 = .bool true := hp 15 (by kernel_rfl)
      clear hf hp
      refine stepAt_plain rfl ?_
      exact stepOK_move _ (.inl rfl) h15
    refine ⟨fun t w1 hf hk hp => ?_, ?_⟩
    · have h1 : slot t 1 = .int .i64 (n : Int) := hf 1 (by kernel_rfl)
      have h16 : slot t 16 = .bool true := hp 16 (by kernel_rfl)
      clear hf hp
      refine stepAt_on 16 true (by kernel_rfl) h16 ?_
      exact stepOK_move _ (.inl rfl) h1
    refine ⟨fun t w1 hf hk hp => ?_, ?_⟩
    · have h2 : slot t 2 = .pointer (some ⟨w.heap.size, 0, none⟩) := hf 2 (by kernel_rfl)
      have h16 : slot t 16 = .bool true := hp 16 (by kernel_rfl)
      clear hf hp
      refine stepAt_on 16 true (by kernel_rfl) h16 ?_
      have hq0 := Rowz.load (R0.out.kept hk) 5 22 Try.underlying24 (infoL _ _)
      exact stepOK_sem (.agg (lC N 5)) (by simp only [execOp, evS, h2]) hq0 rfl
    refine ⟨fun t w1 hf hk hp => ?_, ?_⟩
    · have h18 : slot t 18 = .agg (lC N 5) := hp 18 (by kernel_rfl)
      have h16 : slot t 16 = .bool true := hp 16 (by kernel_rfl)
      clear hf hp
      refine stepAt_on 16 true (by kernel_rfl) h16 ?_
      refine stepOK_call #[.agg (lC N 5)] rfl (by simp only [List.map_toArray, List.map_cons, List.map_nil, evS, h18]) (by go_simp) ((HLen.out w1).mono fun e w' ⟨he, hk'⟩ => ⟨_, he, Grown.kept hk', rfl⟩)
    refine ⟨fun t w1 hf hk hp => ?_, ?_⟩
    · have h19 : slot t 19 = .int .i64 ((bl N : Nat) : Int) := hp 19 (by kernel_rfl)
      have h16 : slot t 16 = .bool true := hp 16 (by kernel_rfl)
      clear hf hp
      refine stepAt_on 16 true (by kernel_rfl) h16 ?_
      refine stepOK_pure (.int .i64 (320 - ((bl N : Nat) : Int))) ?_ rfl
      simp only [execOp, evS, h19]
      go_simp
      exact IntWalk.i64_in _ (by omega)
    refine ⟨fun t w1 hf hk hp => ?_, ?_⟩
    · have h17 : slot t 17 = .int .i64 (n : Int) := hp 17 (by kernel_rfl)
      have h20 : slot t 20 = .int .i64 (320 - ((bl N : Nat) : Int)) := hp 20 (by kernel_rfl)
      have h16 : slot t 16 = .bool true := hp 16 (by kernel_rfl)
      clear hf hp
      refine stepAt_on 16 true (by kernel_rfl) h16 ?_
      refine stepOK_pure (.bool false) ?_ rfl
      simp only [execOp, evS, h17, h20]
      go_simp
    refine ⟨fun t w1 hf hk hp => ?_, ?_⟩
    · have h16 : slot t 16 = .bool true := hp 16 (by kernel_rfl)
      have h21 : slot t 21 = .bool false := hp 21 (by kernel_rfl)
      clear hf hp
      refine stepAt_plain rfl ?_
      refine stepOK_pure (.bool false) ?_ rfl
      simp only [execOp, evS, h16, h21]
      go_simp
    exact trivial
  · intro t w1 hsz hf hk hfacts
    have h22 : slot t 22 = .bool false := hfacts 22 (by kernel_rfl)
    have h1 : slot t 1 = .int .i64 (n : Int) := hf 1 (by kernel_rfl)
    have h2 : slot t 2 = .pointer (some ⟨w.heap.size, 0, none⟩) := hf 2 (by kernel_rfl)
    have h4 : slot t 4 = .pointer (some ⟨w.heap.size + 1, 0, none⟩) := hf 4 (by kernel_rfl)
    have harr : t = #[slot t 0, slot t 1, slot t 2, slot t 3, slot t 4, slot t 5, slot t 6, slot t 7, slot t 8, slot t 9, slot t 10, slot t 11, slot t 12, slot t 13, slot t 14, slot t 15, slot t 16, slot t 17, slot t 18, slot t 19, slot t 20, slot t 21, slot t 22, slot t 23, slot t 24, slot t 25, slot t 26, slot t 27, slot t 28, slot t 29, slot t 30, slot t 31, slot t 32, slot t 33, slot t 34, slot t 35, slot t 36, slot t 37, slot t 38, slot t 39, slot t 40, slot t 41, slot t 42, slot t 43, slot t 44, slot t 45, slot t 46, slot t 47, slot t 48, slot t 49, slot t 50, slot t 51] := arr_eq t 52 hsz
    rw [harr, h22, h1, h2, h4]
    clear harr hfacts hf h22 h1 h2 h4
    generalize slot t 0 = x0; generalize slot t 3 = x3; generalize slot t 5 = x5; generalize slot t 6 = x6; generalize slot t 7 = x7; generalize slot t 8 = x8; generalize slot t 9 = x9; generalize slot t 10 = x10; generalize slot t 11 = x11; generalize slot t 12 = x12; generalize slot t 13 = x13; generalize slot t 14 = x14
    generalize slot t 15 = x15; generalize slot t 16 = x16; generalize slot t 17 = x17; generalize slot t 18 = x18; generalize slot t 19 = x19; generalize slot t 20 = x20; generalize slot t 21 = x21; generalize slot t 23 = x23; generalize slot t 24 = x24; generalize slot t 25 = x25; generalize slot t 26 = x26; generalize slot t 27 = x27
    generalize slot t 28 = x28; generalize slot t 29 = x29; generalize slot t 30 = x30; generalize slot t 31 = x31; generalize slot t 32 = x32; generalize slot t 33 = x33; generalize slot t 34 = x34; generalize slot t 35 = x35; generalize slot t 36 = x36; generalize slot t 37 = x37; generalize slot t 38 = x38; generalize slot t 39 = x39
    generalize slot t 40 = x40; generalize slot t 41 = x41; generalize slot t 42 = x42; generalize slot t 43 = x43; generalize slot t 44 = x44; generalize slot t 45 = x45; generalize slot t 46 = x46; generalize slot t 47 = x47; generalize slot t 48 = x48; generalize slot t 49 = x49; generalize slot t 50 = x50; generalize slot t 51 = x51
    clear hsz t
    simp only [List.drop_succ_cons, List.drop_zero]
    have R2 := Lib.hid (R0.out.kept hk)
    have R4 := Lib.hid (R1.out.kept hk)
    have G0 := Lib.hid (K0.out.trans hk)
    clear R0 R1 K0 hk
    go_wp2
    rw [hr]
    clear hq hr
    obtain ⟨WW, hWW⟩ : ∃ W, W = w1 := ⟨_, rfl⟩
    subst hWW
    go_loopw [28] (fun i wr => ∃ (k : Nat), k ≤ 5 ∧ i = .int .i64 (k : Int) ∧ Hid (Rowz wr w.heap.size (lC N 5) 24) ∧ Hid (Rowz wr (w.heap.size + 1) (lC 0 0) 24) ∧ Hid (Rowz wr WW.heap.size (lC (N * 2 ^ n) k) 24) ∧ Hid (Kept w wr)) (fun i _ => 5 - (intOf i).toNat)
    case atStart =>
      exact ⟨0, by omega, rfl, Lib.hid (R2.out.alloc _), Lib.hid (R4.out.alloc _), Lib.hid (Rowz.new WW _ _), Lib.hid (G0.out.alloc _)⟩
    case round =>
      have hlt1 : w.heap.size + 1 < WW.heap.size := R4.out.lt
      clear R2 R4 G0
      obtain ⟨k, hk4, rfl, R2, R4, R7, G0⟩ := hrel
      by_cases hk0 : k < 5
      · have hdk : decide ((k : Int) < 5) = true := by simp; omega
        have hki : (k : Int) < 5 := by omega
        have w35 : IntKind.i64.wrap ((k : Int) - (q : Int)) = (k : Int) - (q : Int) := IntWalk.i64_in _ (by omega)
        have w43 : IntKind.i64.wrap ((k : Int) - (q : Int) - 1) = (k : Int) - (q : Int) - 1 := IntWalk.i64_in _ (by omega)
        have w46 : IntKind.i64.wrap (64 - (r : Int)) = ((64 - r : Nat) : Int) := by rw [IntWalk.i64_in _ (by omega)]; omega
        have m1 := lz_lt N ((k : Int) - (q : Int))
        have m2 := lz_lt N ((k : Int) - (q : Int) - 1)
        go_wp2_with fail
        clear hdk
        refine wp_region_tail 18 [(31, .is (.int .i64 (k : Int))), (32, .is (.agg (lC N 5))), (33, .is (.int .i64 (k : Int))), (34, .is (.int .i64 (q : Int))), (35, .is (.int .i64 ((k : Int) - (q : Int)))), (36, .is (.int .u64 ((lz N ((k : Int) - (q : Int)) : Nat) : Int))), (37, .is (.int .i64 (r : Int))), (38, .is (.int .u64 ((lz N ((k : Int) - (q : Int)) * 2 ^ r % 18446744073709551616 : Nat) : Int))), (39, .is (.agg (lC N 5))), (40, .is (.int .i64 (k : Int))), (41, .is (.int .i64 (q : Int))), (42, .is (.int .i64 ((k : Int) - (q : Int)))), (43, .is (.int .i64 ((k : Int) - (q : Int) - 1))), (44, .is (.int .u64 ((lz N ((k : Int) - (q : Int) - 1) : Nat) : Int))), (45, .is (.int .i64 (r : Int))), (46, .is (.int .i64 ((64 - r : Nat) : Int))), (47, .is (.int .u64 ((lz N ((k : Int) - (q : Int) - 1) / 2 ^ (64 - r) : Nat) : Int))), (48, .is (.int .u64 ((lmb (N * 2 ^ n) k : Nat) : Int)))] (by kernel_rfl) (by kernel_rfl) ?_ ?_
        · refine ⟨fun t w1 hf hk hp => ?_, ?_⟩
          · have h9 : slot t 9 = .int .i64 (k : Int) := hf 9 (by kernel_rfl)
            clear hf hp
            refine stepM_at (by kernel_rfl) ?_
            refine stepAt_plain rfl ?_
            exact stepOK_move _ (.inl rfl) h9
          refine ⟨fun t w1 hf hk hp => ?_, ?_⟩
          · have h2 : slot t 2 = .pointer (some ⟨w.heap.size, 0, none⟩) := hf 2 (by kernel_rfl)
            clear hf hp
            refine stepM_at (by kernel_rfl) ?_
            refine stepAt_plain rfl ?_
            have hq0 := Rowz.load (R2.out.kept hk) 5 22 Try.underlying24 (infoL _ _)
            exact stepOK_sem (.agg (lC N 5)) (by simp only [execOp, evS, h2]) hq0 rfl
          refine ⟨fun t w1 hf hk hp => ?_, ?_⟩
          · have h9 : slot t 9 = .int .i64 (k : Int) := hf 9 (by kernel_rfl)
            clear hf hp
            refine stepM_at (by kernel_rfl) ?_
            refine stepAt_plain rfl ?_
            exact stepOK_move _ (.inl rfl) h9
          refine ⟨fun t w1 hf hk hp => ?_, ?_⟩
          · have h6 : slot t 6 = .int .i64 (q : Int) := hf 6 (by kernel_rfl)
            clear hf hp
            refine stepM_at (by kernel_rfl) ?_
            refine stepAt_plain rfl ?_
            exact stepOK_move _ (.inl rfl) h6
          refine ⟨fun t w1 hf hk hp => ?_, ?_⟩
          · have h33 : slot t 33 = .int .i64 (k : Int) := hp 33 (by kernel_rfl)
            have h34 : slot t 34 = .int .i64 (q : Int) := hp 34 (by kernel_rfl)
            clear hf hp
            refine stepM_at (by kernel_rfl) ?_
            refine stepAt_plain rfl ?_
            refine stepOK_pure (.int .i64 ((k : Int) - (q : Int))) ?_ rfl
            simp only [execOp, evS, h33, h34]
            go_simp
          refine ⟨fun t w1 hf hk hp => ?_, ?_⟩
          · have h32 : slot t 32 = .agg (lC N 5) := hp 32 (by kernel_rfl)
            have h35 : slot t 35 = .int .i64 ((k : Int) - (q : Int)) := hp 35 (by kernel_rfl)
            clear hf hp
            refine stepM_at (by kernel_rfl) ?_
            refine stepAt_plain rfl ?_
            refine stepOK_call #[.agg (lC N 5), .int .i64 ((k : Int) - (q : Int))] rfl (by simp only [List.map_toArray, List.map_cons, List.map_nil, evS, h32, h35]) (by go_simp) ((limbOf5_any N ((k : Int) - (q : Int)) w1 (by omega) (by omega)).mono fun e w' ⟨he, hk'⟩ => ⟨_, he, Grown.kept hk', rfl⟩)
          refine ⟨fun t w1 hf hk hp => ?_, ?_⟩
          · have h7 : slot t 7 = .int .i64 (r : Int) := hf 7 (by kernel_rfl)
            clear hf hp
            refine stepM_at (by kernel_rfl) ?_
            refine stepAt_plain rfl ?_
            exact stepOK_move _ (.inl rfl) h7
          refine ⟨fun t w1 hf hk hp => ?_, ?_⟩
          · have h36 : slot t 36 = .int .u64 ((lz N ((k : Int) - (q : Int)) : Nat) : Int) := hp 36 (by kernel_rfl)
            have h37 : slot t 37 = .int .i64 (r : Int) := hp 37 (by kernel_rfl)
            clear hf hp
            refine stepM_at (by kernel_rfl) ?_
            refine stepAt_plain rfl ?_
            refine stepOK_pure (.int .u64 ((lz N ((k : Int) - (q : Int)) * 2 ^ r % 18446744073709551616 : Nat) : Int)) ?_ rfl
            simp only [execOp, evS, h36, h37]
            go_simp
            rfl
          refine ⟨fun t w1 hf hk hp => ?_, ?_⟩
          · have h2 : slot t 2 = .pointer (some ⟨w.heap.size, 0, none⟩) := hf 2 (by kernel_rfl)
            clear hf hp
            refine stepM_at (by kernel_rfl) ?_
            refine stepAt_plain rfl ?_
            have hq0 := Rowz.load (R2.out.kept hk) 5 22 Try.underlying24 (infoL _ _)
            exact stepOK_sem (.agg (lC N 5)) (by simp only [execOp, evS, h2]) hq0 rfl
          refine ⟨fun t w1 hf hk hp => ?_, ?_⟩
          · have h9 : slot t 9 = .int .i64 (k : Int) := hf 9 (by kernel_rfl)
            clear hf hp
            refine stepM_at (by kernel_rfl) ?_
            refine stepAt_plain rfl ?_
            exact stepOK_move _ (.inl rfl) h9
          refine ⟨fun t w1 hf hk hp => ?_, ?_⟩
          · have h6 : slot t 6 = .int .i64 (q : Int) := hf 6 (by kernel_rfl)
            clear hf hp
            refine stepM_at (by kernel_rfl) ?_
            refine stepAt_plain rfl ?_
            exact stepOK_move _ (.inl rfl) h6
          refine ⟨fun t w1 hf hk hp => ?_, ?_⟩
          · have h40 : slot t 40 = .int .i64 (k : Int) := hp 40 (by kernel_rfl)
            have h41 : slot t 41 = .int .i64 (q : Int) := hp 41 (by kernel_rfl)
            clear hf hp
            refine stepM_at (by kernel_rfl) ?_
            refine stepAt_plain rfl ?_
            refine stepOK_pure (.int .i64 ((k : Int) - (q : Int))) ?_ rfl
            simp only [execOp, evS, h40, h41]
            go_simp
          refine ⟨fun t w1 hf hk hp => ?_, ?_⟩
          · have h42 : slot t 42 = .int .i64 ((k : Int) - (q : Int)) := hp 42 (by kernel_rfl)
            clear hf hp
            refine stepM_at (by kernel_rfl) ?_
            refine stepAt_plain rfl ?_
            refine stepOK_pure (.int .i64 ((k : Int) - (q : Int) - 1)) ?_ rfl
            simp only [execOp, evS, h42]
            go_simp
          refine ⟨fun t w1 hf hk hp => ?_, ?_⟩
          · have h39 : slot t 39 = .agg (lC N 5) := hp 39 (by kernel_rfl)
            have h43 : slot t 43 = .int .i64 ((k : Int) - (q : Int) - 1) := hp 43 (by kernel_rfl)
            clear hf hp
            refine stepM_at (by kernel_rfl) ?_
            refine stepAt_plain rfl ?_
            refine stepOK_call #[.agg (lC N 5), .int .i64 ((k : Int) - (q : Int) - 1)] rfl (by simp only [List.map_toArray, List.map_cons, List.map_nil, evS, h39, h43]) (by go_simp) ((limbOf5_any N ((k : Int) - (q : Int) - 1) w1 (by omega) (by omega)).mono fun e w' ⟨he, hk'⟩ => ⟨_, he, Grown.kept hk', rfl⟩)
          refine ⟨fun t w1 hf hk hp => ?_, ?_⟩
          · have h7 : slot t 7 = .int .i64 (r : Int) := hf 7 (by kernel_rfl)
            clear hf hp
            refine stepM_at (by kernel_rfl) ?_
            refine stepAt_plain rfl ?_
            exact stepOK_move _ (.inl rfl) h7
          refine ⟨fun t w1 hf hk hp => ?_, ?_⟩
          · have h45 : slot t 45 = .int .i64 (r : Int) := hp 45 (by kernel_rfl)
            clear hf hp
            refine stepM_at (by kernel_rfl) ?_
            refine stepAt_plain rfl ?_
            refine stepOK_pure (.int .i64 ((64 - r : Nat) : Int)) ?_ rfl
            simp only [execOp, evS, h45]
            go_simp
          refine ⟨fun t w1 hf hk hp => ?_, ?_⟩
          · have h44 : slot t 44 = .int .u64 ((lz N ((k : Int) - (q : Int) - 1) : Nat) : Int) := hp 44 (by kernel_rfl)
            have h46 : slot t 46 = .int .i64 ((64 - r : Nat) : Int) := hp 46 (by kernel_rfl)
            clear hf hp
            refine stepM_at (by kernel_rfl) ?_
            refine stepAt_plain rfl ?_
            refine stepOK_pure (.int .u64 ((lz N ((k : Int) - (q : Int) - 1) / 2 ^ (64 - r) : Nat) : Int)) ?_ rfl
            simp only [execOp, evS, h44, h46]
            go_simp
          refine ⟨fun t w1 hf hk hp => ?_, ?_⟩
          · have h38 : slot t 38 = .int .u64 ((lz N ((k : Int) - (q : Int)) * 2 ^ r % 18446744073709551616 : Nat) : Int) := hp 38 (by kernel_rfl)
            have h47 : slot t 47 = .int .u64 ((lz N ((k : Int) - (q : Int) - 1) / 2 ^ (64 - r) : Nat) : Int) := hp 47 (by kernel_rfl)
            clear hf hp
            refine stepM_at (by kernel_rfl) ?_
            refine stepAt_plain rfl ?_
            refine stepOK_pure (.int .u64 ((lmb (N * 2 ^ n) k : Nat) : Int)) ?_ rfl
            simp only [execOp, evS, h38, h47]
            go_simp
            exact shl_val N n q r k HNT.out hr64
          exact trivial
        · intro t w1 hsz hf hk hfacts
          have h31 : slot t 31 = .int .i64 (k : Int) := hfacts 0 _ (by decide) rfl 31 rfl
          have h48 : slot t 48 = .int .u64 ((lmb (N * 2 ^ n) k : Nat) : Int) := hfacts 17 _ (by decide) rfl 48 rfl
          have h2 : slot t 2 = .pointer (some ⟨w.heap.size, 0, none⟩) := hf 2 (by kernel_rfl)
          have h6 : slot t 6 = .int .i64 (q : Int) := hf 6 (by kernel_rfl)
          have h7 : slot t 7 = .int .i64 (r : Int) := hf 7 (by kernel_rfl)
          have h8 : slot t 8 = .pointer (some ⟨WW.heap.size, 0, none⟩) := hf 8 (by kernel_rfl)
          have h9 : slot t 9 = .int .i64 (k : Int) := hf 9 (by kernel_rfl)
          have h0 := hf 0 (by kernel_rfl)
          conv at h0 => rhs; whnf
          try change slot t 0 = undef at h0
          have h1 := hf 1 (by kernel_rfl)
          conv at h1 => rhs; whnf
          try change slot t 1 = undef at h1
          have h3 := hf 3 (by kernel_rfl)
          conv at h3 => rhs; whnf
          try change slot t 3 = undef at h3
          have h4 := hf 4 (by kernel_rfl)
          conv at h4 => rhs; whnf
          try change slot t 4 = undef at h4
          have h5 := hf 5 (by kernel_rfl)
          conv at h5 => rhs; whnf
          try change slot t 5 = undef at h5
          have h10 := hf 10 (by kernel_rfl)
          conv at h10 => rhs; whnf
          try change slot t 10 = undef at h10
          have h11 := hf 11 (by kernel_rfl)
          conv at h11 => rhs; whnf
          try change slot t 11 = undef at h11
          have h12 := hf 12 (by kernel_rfl)
          conv at h12 => rhs; whnf
          try change slot t 12 = undef at h12
          have h13 := hf 13 (by kernel_rfl)
          conv at h13 => rhs; whnf
          try change slot t 13 = undef at h13
          have h14 := hf 14 (by kernel_rfl)
          conv at h14 => rhs; whnf
          try change slot t 14 = undef at h14
          have h15 := hf 15 (by kernel_rfl)
          conv at h15 => rhs; whnf
          try change slot t 15 = undef at h15
          have h16 := hf 16 (by kernel_rfl)
          conv at h16 => rhs; whnf
          try change slot t 16 = undef at h16
          have h17 := hf 17 (by kernel_rfl)
          conv at h17 => rhs; whnf
          try change slot t 17 = undef at h17
          have h18 := hf 18 (by kernel_rfl)
          conv at h18 => rhs; whnf
          try change slot t 18 = undef at h18
          have h19 := hf 19 (by kernel_rfl)
          conv at h19 => rhs; whnf
          try change slot t 19 = undef at h19
          have h20 := hf 20 (by kernel_rfl)
          conv at h20 => rhs; whnf
          try change slot t 20 = undef at h20
          have h21 := hf 21 (by kernel_rfl)
          conv at h21 => rhs; whnf
          try change slot t 21 = undef at h21
          have h22 := hf 22 (by kernel_rfl)
          conv at h22 => rhs; whnf
          try change slot t 22 = undef at h22
          have h23 := hf 23 (by kernel_rfl)
          conv at h23 => rhs; whnf
          try change slot t 23 = undef at h23
          have h24 := hf 24 (by kernel_rfl)
          conv at h24 => rhs; whnf
          try change slot t 24 = undef at h24
          have h25 := hf 25 (by kernel_rfl)
          conv at h25 => rhs; whnf
          try change slot t 25 = undef at h25
          have h26 := hf 26 (by kernel_rfl)
          conv at h26 => rhs; whnf
          try change slot t 26 = undef at h26
          have h27 := hf 27 (by kernel_rfl)
          conv at h27 => rhs; whnf
          try change slot t 27 = undef at h27
          have h28 := hf 28 (by kernel_rfl)
          conv at h28 => rhs; whnf
          try change slot t 28 = undef at h28
          have h29 := hf 29 (by kernel_rfl)
          conv at h29 => rhs; whnf
          try change slot t 29 = undef at h29
          have h30 := hf 30 (by kernel_rfl)
          conv at h30 => rhs; whnf
          try change slot t 30 = undef at h30
          have h49 := hf 49 (by kernel_rfl)
          conv at h49 => rhs; whnf
          try change slot t 49 = undef at h49
          have h50 := hf 50 (by kernel_rfl)
          conv at h50 => rhs; whnf
          try change slot t 50 = undef at h50
          have h51 := hf 51 (by kernel_rfl)
          conv at h51 => rhs; whnf
          try change slot t 51 = undef at h51
          have harr : t = #[slot t 0, slot t 1, slot t 2, slot t 3, slot t 4, slot t 5, slot t 6, slot t 7, slot t 8, slot t 9, slot t 10, slot t 11, slot t 12, slot t 13, slot t 14, slot t 15, slot t 16, slot t 17, slot t 18, slot t 19, slot t 20, slot t 21, slot t 22, slot t 23, slot t 24, slot t 25, slot t 26, slot t 27, slot t 28, slot t 29, slot t 30, slot t 31, slot t 32, slot t 33, slot t 34, slot t 35, slot t 36, slot t 37, slot t 38, slot t 39, slot t 40, slot t 41, slot t 42, slot t 43, slot t 44, slot t 45, slot t 46, slot t 47, slot t 48, slot t 49, slot t 50, slot t 51] := arr_eq t 52 hsz
          rw [harr, h31, h48, h2, h6, h7, h8, h9, h0, h1, h3, h4, h5, h10, h11, h12, h13, h14, h15, h16, h17, h18, h19, h20, h21, h22, h23, h24, h25, h26, h27, h28, h29, h30, h49, h50, h51]
          clear harr hfacts hf h31 h48 h2 h6 h7 h8 h9 h0 h1 h3 h4 h5 h10 h11 h12 h13 h14 h15 h16 h17 h18 h19 h20 h21 h22 h23 h24 h25 h26 h27 h28 h29 h30 h49 h50 h51
          generalize slot t 32 = x32; generalize slot t 33 = x33; generalize slot t 34 = x34; generalize slot t 35 = x35; generalize slot t 36 = x36; generalize slot t 37 = x37; generalize slot t 38 = x38; generalize slot t 39 = x39; generalize slot t 40 = x40; generalize slot t 41 = x41; generalize slot t 42 = x42; generalize slot t 43 = x43
          generalize slot t 44 = x44; generalize slot t 45 = x45; generalize slot t 46 = x46; generalize slot t 47 = x47
          clear hsz t
          simp only [List.drop_succ_cons, List.drop_zero]
          have hcell : w1.cell? ⟨WW.heap.size, k, none⟩ = some (.int .u64 0) := by rw [(R7.out.kept hk).cell, lC_zero _ k k hk0 (Nat.le_refl _)]
          have hfree := (R7.out.kept hk).free k
          have A2 := Lib.hid (R2.out.kept hk)
          have A4 := Lib.hid (R4.out.kept hk)
          have A7 := Lib.hid (R7.out.kept hk)
          have A0 := Lib.hid (G0.out.trans hk)
          clear R2 R4 R7 G0 hk
          go_wp2_with fail
          go_roundw
          case rel =>
            refine ⟨k + 1, by omega, by go_num, Lib.hid (A2.out.other _ _ (show w.heap.size ≠ WW.heap.size by omega)), Lib.hid (A4.out.other _ _ (show w.heap.size + 1 ≠ WW.heap.size by omega)), Lib.hid ?_, Lib.hid (A0.out.setCell (show w.heap.size ≤ WW.heap.size by omega) _)⟩
            rw [← lC_step (N * 2 ^ n) k _ rfl]
            exact A7.out.set k _
          case measure => simp [intOf]; omega
      · have hdk : decide ((k : Int) < 5) = false := by simp; omega
        have R7' : Hid (Rowz wr WW.heap.size (lC (N * 2 ^ n) 5) 24) := by rw [show k = 5 by omega] at R7; exact R7
        go_wp2_with (first
          | (refine wpList_load_row rfl 24 _ rfl WW.heap.size rfl 24 (lC (N * 2 ^ n) 5) (0, 0) _ R7'.out Try.underlying24 rfl (infoL _ _) ?_)
          | (refine wpList_store_row rfl 24 _ _ rfl (w.heap.size + 1) (lC (N * 2 ^ n) 5) rfl rfl 24 (lC 0 0) R4.out (infoL _ _) (by simp [lC_size]) (lC_one _ _) ?_))
        refine bodyPost_ret (v := .tuple #[.agg (lC (N * 2 ^ n) 5), .bool true]) (results_row_tmp Try.results22 _ _ (w.heap.size + 1) 24 _ _ _ rfl rfl R4.out.row Try.underlying24 rfl (infoL _ _)) rfl ⟨by rw [HC.out, HF.out], ?_⟩
        exact G0.out.setRow (by omega) _
set_option maxRecDepth 100000 in
set_option maxHeartbeats 2000000 in
theorem largeShl_zero (N n : Nat) (w : World) (hN : N < 2 ^ 320) (hn : n ≤ 9223372036854775807) (h0 : N = 0) :
    Calls Try.prog 22 #[.agg (lC N 5), .int .i64 (n : Int)] w fun e w' => e = .returned (.tuple #[.agg (lC (cut (N * 2 ^ n)) 5), .bool (fit (N * 2 ^ n))]) ∧ Kept w w' := by
  have hs0 : ∀ w, (Op.equalIn 10000 24 (.agg (lC N 5)) (.agg (lC 0 5))).run Try.prog w = .ok true w := fun w => by rw [sameL N 0 hN pos320 w, decide_eq_true h0]
  have hgd := guardL
  have hf : N * 2 ^ n < 2 ^ 320 := by rw [h0, Nat.zero_mul]; exact pos320
  have HC := Lib.hid (cut_of hf)
  have HF := Lib.hid (fit_of hf)
  clear hf hN h0
  obtain ⟨q, hq⟩ : ∃ q : Nat, (n : Int) / 64 = (q : Int) := ⟨n / 64, by omega⟩
  obtain ⟨r, hr⟩ : ∃ r : Nat, (n : Int) % 64 = (r : Int) := ⟨n % 64, by omega⟩
  have HNT : Hid (n = 64 * q + r) := Lib.hid (by omega)
  have hr64 : r < 64 := by omega
  have hq57 : q ≤ 144115188075855871 := by omega
  have hd0 : decide ((n : Int) < 0) = false := by simp
  go_enter Try.func22, Try.ntmps22
  go_wp2_with (refine park_at 13 rfl ?_)
  have R0 : Hid (Rowz ((w.alloc (.cells (lC N 5) 24)).alloc (.cells (lC 0 0) 24)) w.heap.size (lC N 5) 24) := Lib.hid ((Rowz.new w _ _).alloc _)
  have R1 : Hid (Rowz ((w.alloc (.cells (lC N 5) 24)).alloc (.cells (lC 0 0) 24)) (w.heap.size + 1) (lC 0 0) 24) := Lib.hid (Rowz.newEq1 w _ _ _ _ rfl)
  have K0 : Hid (Kept w ((w.alloc (.cells (lC N 5) 24)).alloc (.cells (lC 0 0) 24))) := Lib.hid (((Kept.refl w).alloc _).alloc _)
  change Parked (wpList _ _ _ _ _ ((w.alloc (.cells (lC N 5) 24)).alloc (.cells (lC 0 0) 24))) 
  generalize (w.alloc (.cells (lC N 5) 24)).alloc (.cells (lC 0 0) 24) = w0 at R0 R1 K0 ⊢
  clear hd0
  refine unpark ?_
  refine wpList_table 10 [(13, .is (.agg (lC N 5))), (14, .is (.agg (lC 0 5))), (15, .is (.bool false)), (16, .is (.bool false)), (17, .is (undef)), (18, .is (undef)), (19, .is (undef)), (20, .is (undef)), (21, .is (undef)), (22, .is (.bool false))] (by kernel_rfl) ?_ ?_
  · refine ⟨fun t w1 hf hk hp => ?_, ?_⟩
    · have h2 : slot t 2 = .pointer (some ⟨w.heap.size, 0, none⟩) := hf 2 (by kernel_rfl)
      clear hf hp
      refine stepAt_plain rfl ?_
      have hq0 := Rowz.load (R0.out.kept hk) 5 22 Try.underlying24 (infoL _ _)
      exact stepOK_sem (.agg (lC N 5)) (by simp only [execOp, evS, h2]) hq0 rfl
    refine ⟨fun t w1 hf hk hp => ?_, ?_⟩
    · clear hf hp
      refine stepAt_plain rfl ?_
      refine stepOK_pure (.agg (lC 0 5)) ?_ rfl
      simp only [execOp, evS]
      go_simp
      kernel_rfl
    refine ⟨fun t w1 hf hk hp => ?_, ?_⟩
    · have h13 : slot t 13 = .agg (lC N 5) := hp 13 (by kernel_rfl)
      have h14 : slot t 14 = .agg (lC 0 5) := hp 14 (by kernel_rfl)
      clear hf hp
      refine stepAt_plain rfl ?_
      have hq0 := hs0 w1
      have hq1 := hgd
      refine stepOK_pure (.bool false) ?_ rfl
      simp only [execOp, evS, h13, h14]
      go_simp
    refine ⟨fun t w1 hf hk hp => ?_, ?_⟩
    · have h15 : slot t 15 = .bool false := hp 15 (by kernel_rfl)
      clear hf hp
      refine stepAt_plain rfl ?_
      exact stepOK_move _ (.inl rfl) h15
    refine ⟨fun t w1 hf hk hp => ?_, ?_⟩
    · have h16 : slot t 16 = .bool false := hp 16 (by kernel_rfl)
      clear hf hp
      exact stepAt_off 16 true (by kernel_rfl) h16 rfl
    refine ⟨fun t w1 hf hk hp => ?_, ?_⟩
    · have h16 : slot t 16 = .bool false := hp 16 (by kernel_rfl)
      clear hf hp
      exact stepAt_off 16 true (by kernel_rfl) h16 rfl
    refine ⟨fun t w1 hf hk hp => ?_, ?_⟩
    · have h16 : slot t 16 = .bool false := hp 16 (by kernel_rfl)
      clear hf hp
      exact stepAt_off 16 true (by kernel_rfl) h16 rfl
    refine ⟨fun t w1 hf hk hp => ?_, ?_⟩
    · have h16 : slot t 16 = .bool false := hp 16 (by kernel_rfl)
      clear hf hp
      exact stepAt_off 16 true (by kernel_rfl) h16 rfl
    refine ⟨fun t w1 hf hk hp => ?_, ?_⟩
    · have h16 : slot t 16 = .bool false := hp 16 (by kernel_rfl)
      clear hf hp
      exact stepAt_off 16 true (by kernel_rfl) h16 rfl
    refine ⟨fun t w1 hf hk hp => ?_, ?_⟩
    · have h16 : slot t 16 = .bool false := hp 16 (by kernel_rfl)
      have h21 : slot t 21 = undef := hp 21 (by kernel_rfl)
      clear hf hp
      refine stepAt_plain rfl ?_
      refine stepOK_pure (.bool false) ?_ rfl
      simp only [execOp, evS, h16, h21]
      go_simp
    exact trivial
  · intro t w1 hsz hf hk hfacts
    have h22 : slot t 22 = .bool false := hfacts 22 (by kernel_rfl)
    have h1 : slot t 1 = .int .i64 (n : Int) := hf 1 (by kernel_rfl)
    have h2 : slot t 2 = .pointer (some ⟨w.heap.size, 0, none⟩) := hf 2 (by kernel_rfl)
    have h4 : slot t 4 = .pointer (some ⟨w.heap.size + 1, 0, none⟩) := hf 4 (by kernel_rfl)
    have harr : t = #[slot t 0, slot t 1, slot t 2, slot t 3, slot t 4, slot t 5, slot t 6, slot t 7, slot t 8, slot t 9, slot t 10, slot t 11, slot t 12, slot t 13, slot t 14, slot t 15, slot t 16, slot t 17, slot t 18, slot t 19, slot t 20, slot t 21, slot t 22, slot t 23, slot t 24, slot t 25, slot t 26, slot t 27, slot t 28, slot t 29, slot t 30, slot t 31, slot t 32, slot t 33, slot t 34, slot t 35, slot t 36, slot t 37, slot t 38, slot t 39, slot t 40, slot t 41, slot t 42, slot t 43, slot t 44, slot t 45, slot t 46, slot t 47, slot t 48, slot t 49, slot t 50, slot t 51] := arr_eq t 52 hsz
    rw [harr, h22, h1, h2, h4]
    clear harr hfacts hf h22 h1 h2 h4
    generalize slot t 0 = x0; generalize slot t 3 = x3; generalize slot t 5 = x5; generalize slot t 6 = x6; generalize slot t 7 = x7; generalize slot t 8 = x8; generalize slot t 9 = x9; generalize slot t 10 = x10; generalize slot t 11 = x11; generalize slot t 12 = x12; generalize slot t 13 = x13; generalize slot t 14 = x14
    generalize slot t 15 = x15; generalize slot t 16 = x16; generalize slot t 17 = x17; generalize slot t 18 = x18; generalize slot t 19 = x19; generalize slot t 20 = x20; generalize slot t 21 = x21; generalize slot t 23 = x23; generalize slot t 24 = x24; generalize slot t 25 = x25; generalize slot t 26 = x26; generalize slot t 27 = x27
    generalize slot t 28 = x28; generalize slot t 29 = x29; generalize slot t 30 = x30; generalize slot t 31 = x31; generalize slot t 32 = x32; generalize slot t 33 = x33; generalize slot t 34 = x34; generalize slot t 35 = x35; generalize slot t 36 = x36; generalize slot t 37 = x37; generalize slot t 38 = x38; generalize slot t 39 = x39
    generalize slot t 40 = x40; generalize slot t 41 = x41; generalize slot t 42 = x42; generalize slot t 43 = x43; generalize slot t 44 = x44; generalize slot t 45 = x45; generalize slot t 46 = x46; generalize slot t 47 = x47; generalize slot t 48 = x48; generalize slot t 49 = x49; generalize slot t 50 = x50; generalize slot t 51 = x51
    clear hsz t
    simp only [List.drop_succ_cons, List.drop_zero]
    have R2 := Lib.hid (R0.out.kept hk)
    have R4 := Lib.hid (R1.out.kept hk)
    have G0 := Lib.hid (K0.out.trans hk)
    clear R0 R1 K0 hk
    go_wp2
    rw [hr]
    clear hq hr
    obtain ⟨WW, hWW⟩ : ∃ W, W = w1 := ⟨_, rfl⟩
    subst hWW
    go_loopw [28] (fun i wr => ∃ (k : Nat), k ≤ 5 ∧ i = .int .i64 (k : Int) ∧ Hid (Rowz wr w.heap.size (lC N 5) 24) ∧ Hid (Rowz wr (w.heap.size + 1) (lC 0 0) 24) ∧ Hid (Rowz wr WW.heap.size (lC (N * 2 ^ n) k) 24) ∧ Hid (Kept w wr)) (fun i _ => 5 - (intOf i).toNat)
    case atStart =>
      exact ⟨0, by omega, rfl, Lib.hid (R2.out.alloc _), Lib.hid (R4.out.alloc _), Lib.hid (Rowz.new WW _ _), Lib.hid (G0.out.alloc _)⟩
    case round =>
      have hlt1 : w.heap.size + 1 < WW.heap.size := R4.out.lt
      clear R2 R4 G0
      obtain ⟨k, hk4, rfl, R2, R4, R7, G0⟩ := hrel
      by_cases hk0 : k < 5
      · have hdk : decide ((k : Int) < 5) = true := by simp; omega
        have hki : (k : Int) < 5 := by omega
        have w35 : IntKind.i64.wrap ((k : Int) - (q : Int)) = (k : Int) - (q : Int) := IntWalk.i64_in _ (by omega)
        have w43 : IntKind.i64.wrap ((k : Int) - (q : Int) - 1) = (k : Int) - (q : Int) - 1 := IntWalk.i64_in _ (by omega)
        have w46 : IntKind.i64.wrap (64 - (r : Int)) = ((64 - r : Nat) : Int) := by rw [IntWalk.i64_in _ (by omega)]; omega
        have m1 := lz_lt N ((k : Int) - (q : Int))
        have m2 := lz_lt N ((k : Int) - (q : Int) - 1)
        go_wp2_with fail
        clear hdk
        refine wp_region_tail 18 [(31, .is (.int .i64 (k : Int))), (32, .is (.agg (lC N 5))), (33, .is (.int .i64 (k : Int))), (34, .is (.int .i64 (q : Int))), (35, .is (.int .i64 ((k : Int) - (q : Int)))), (36, .is (.int .u64 ((lz N ((k : Int) - (q : Int)) : Nat) : Int))), (37, .is (.int .i64 (r : Int))), (38, .is (.int .u64 ((lz N ((k : Int) - (q : Int)) * 2 ^ r % 18446744073709551616 : Nat) : Int))), (39, .is (.agg (lC N 5))), (40, .is (.int .i64 (k : Int))), (41, .is (.int .i64 (q : Int))), (42, .is (.int .i64 ((k : Int) - (q : Int)))), (43, .is (.int .i64 ((k : Int) - (q : Int) - 1))), (44, .is (.int .u64 ((lz N ((k : Int) - (q : Int) - 1) : Nat) : Int))), (45, .is (.int .i64 (r : Int))), (46, .is (.int .i64 ((64 - r : Nat) : Int))), (47, .is (.int .u64 ((lz N ((k : Int) - (q : Int) - 1) / 2 ^ (64 - r) : Nat) : Int))), (48, .is (.int .u64 ((lmb (N * 2 ^ n) k : Nat) : Int)))] (by kernel_rfl) (by kernel_rfl) ?_ ?_
        · refine ⟨fun t w1 hf hk hp => ?_, ?_⟩
          · have h9 : slot t 9 = .int .i64 (k : Int) := hf 9 (by kernel_rfl)
            clear hf hp
            refine stepM_at (by kernel_rfl) ?_
            refine stepAt_plain rfl ?_
            exact stepOK_move _ (.inl rfl) h9
          refine ⟨fun t w1 hf hk hp => ?_, ?_⟩
          · have h2 : slot t 2 = .pointer (some ⟨w.heap.size, 0, none⟩) := hf 2 (by kernel_rfl)
            clear hf hp
            refine stepM_at (by kernel_rfl) ?_
            refine stepAt_plain rfl ?_
            have hq0 := Rowz.load (R2.out.kept hk) 5 22 Try.underlying24 (infoL _ _)
            exact stepOK_sem (.agg (lC N 5)) (by simp only [execOp, evS, h2]) hq0 rfl
          refine ⟨fun t w1 hf hk hp => ?_, ?_⟩
          · have h9 : slot t 9 = .int .i64 (k : Int) := hf 9 (by kernel_rfl)
            clear hf hp
            refine stepM_at (by kernel_rfl) ?_
            refine stepAt_plain rfl ?_
            exact stepOK_move _ (.inl rfl) h9
          refine ⟨fun t w1 hf hk hp => ?_, ?_⟩
          · have h6 : slot t 6 = .int .i64 (q : Int) := hf 6 (by kernel_rfl)
            clear hf hp
            refine stepM_at (by kernel_rfl) ?_
            refine stepAt_plain rfl ?_
            exact stepOK_move _ (.inl rfl) h6
          refine ⟨fun t w1 hf hk hp => ?_, ?_⟩
          · have h33 : slot t 33 = .int .i64 (k : Int) := hp 33 (by kernel_rfl)
            have h34 : slot t 34 = .int .i64 (q : Int) := hp 34 (by kernel_rfl)
            clear hf hp
            refine stepM_at (by kernel_rfl) ?_
            refine stepAt_plain rfl ?_
            refine stepOK_pure (.int .i64 ((k : Int) - (q : Int))) ?_ rfl
            simp only [execOp, evS, h33, h34]
            go_simp
          refine ⟨fun t w1 hf hk hp => ?_, ?_⟩
          · have h32 : slot t 32 = .agg (lC N 5) := hp 32 (by kernel_rfl)
            have h35 : slot t 35 = .int .i64 ((k : Int) - (q : Int)) := hp 35 (by kernel_rfl)
            clear hf hp
            refine stepM_at (by kernel_rfl) ?_
            refine stepAt_plain rfl ?_
            refine stepOK_call #[.agg (lC N 5), .int .i64 ((k : Int) - (q : Int))] rfl (by simp only [List.map_toArray, List.map_cons, List.map_nil, evS, h32, h35]) (by go_simp) ((limbOf5_any N ((k : Int) - (q : Int)) w1 (by omega) (by omega)).mono fun e w' ⟨he, hk'⟩ => ⟨_, he, Grown.kept hk', rfl⟩)
          refine ⟨fun t w1 hf hk hp => ?_, ?_⟩
          · have h7 : slot t 7 = .int .i64 (r : Int) := hf 7 (by kernel_rfl)
            clear hf hp
            refine stepM_at (by kernel_rfl) ?_
            refine stepAt_plain rfl ?_
            exact stepOK_move _ (.inl rfl) h7
          refine ⟨fun t w1 hf hk hp => ?_, ?_⟩
          · have h36 : slot t 36 = .int .u64 ((lz N ((k : Int) - (q : Int)) : Nat) : Int) := hp 36 (by kernel_rfl)
            have h37 : slot t 37 = .int .i64 (r : Int) := hp 37 (by kernel_rfl)
            clear hf hp
            refine stepM_at (by kernel_rfl) ?_
            refine stepAt_plain rfl ?_
            refine stepOK_pure (.int .u64 ((lz N ((k : Int) - (q : Int)) * 2 ^ r % 18446744073709551616 : Nat) : Int)) ?_ rfl
            simp only [execOp, evS, h36, h37]
            go_simp
            rfl
          refine ⟨fun t w1 hf hk hp => ?_, ?_⟩
          · have h2 : slot t 2 = .pointer (some ⟨w.heap.size, 0, none⟩) := hf 2 (by kernel_rfl)
            clear hf hp
            refine stepM_at (by kernel_rfl) ?_
            refine stepAt_plain rfl ?_
            have hq0 := Rowz.load (R2.out.kept hk) 5 22 Try.underlying24 (infoL _ _)
            exact stepOK_sem (.agg (lC N 5)) (by simp only [execOp, evS, h2]) hq0 rfl
          refine ⟨fun t w1 hf hk hp => ?_, ?_⟩
          · have h9 : slot t 9 = .int .i64 (k : Int) := hf 9 (by kernel_rfl)
            clear hf hp
            refine stepM_at (by kernel_rfl) ?_
            refine stepAt_plain rfl ?_
            exact stepOK_move _ (.inl rfl) h9
          refine ⟨fun t w1 hf hk hp => ?_, ?_⟩
          · have h6 : slot t 6 = .int .i64 (q : Int) := hf 6 (by kernel_rfl)
            clear hf hp
            refine stepM_at (by kernel_rfl) ?_
            refine stepAt_plain rfl ?_
            exact stepOK_move _ (.inl rfl) h6
          refine ⟨fun t w1 hf hk hp => ?_, ?_⟩
          · have h40 : slot t 40 = .int .i64 (k : Int) := hp 40 (by kernel_rfl)
            have h41 : slot t 41 = .int .i64 (q : Int) := hp 41 (by kernel_rfl)
            clear hf hp
            refine stepM_at (by kernel_rfl) ?_
            refine stepAt_plain rfl ?_
            refine stepOK_pure (.int .i64 ((k : Int) - (q : Int))) ?_ rfl
            simp only [execOp, evS, h40, h41]
            go_simp
          refine ⟨fun t w1 hf hk hp => ?_, ?_⟩
          · have h42 : slot t 42 = .int .i64 ((k : Int) - (q : Int)) := hp 42 (by kernel_rfl)
            clear hf hp
            refine stepM_at (by kernel_rfl) ?_
            refine stepAt_plain rfl ?_
            refine stepOK_pure (.int .i64 ((k : Int) - (q : Int) - 1)) ?_ rfl
            simp only [execOp, evS, h42]
            go_simp
          refine ⟨fun t w1 hf hk hp => ?_, ?_⟩
          · have h39 : slot t 39 = .agg (lC N 5) := hp 39 (by kernel_rfl)
            have h43 : slot t 43 = .int .i64 ((k : Int) - (q : Int) - 1) := hp 43 (by kernel_rfl)
            clear hf hp
            refine stepM_at (by kernel_rfl) ?_
            refine stepAt_plain rfl ?_
            refine stepOK_call #[.agg (lC N 5), .int .i64 ((k : Int) - (q : Int) - 1)] rfl (by simp only [List.map_toArray, List.map_cons, List.map_nil, evS, h39, h43]) (by go_simp) ((limbOf5_any N ((k : Int) - (q : Int) - 1) w1 (by omega) (by omega)).mono fun e w' ⟨he, hk'⟩ => ⟨_, he, Grown.kept hk', rfl⟩)
          refine ⟨fun t w1 hf hk hp => ?_, ?_⟩
          · have h7 : slot t 7 = .int .i64 (r : Int) := hf 7 (by kernel_rfl)
            clear hf hp
            refine stepM_at (by kernel_rfl) ?_
            refine stepAt_plain rfl ?_
            exact stepOK_move _ (.inl rfl) h7
          refine ⟨fun t w1 hf hk hp => ?_, ?_⟩
          · have h45 : slot t 45 = .int .i64 (r : Int) := hp 45 (by kernel_rfl)
            clear hf hp
            refine stepM_at (by kernel_rfl) ?_
            refine stepAt_plain rfl ?_
            refine stepOK_pure (.int .i64 ((64 - r : Nat) : Int)) ?_ rfl
            simp only [execOp, evS, h45]
            go_simp
          refine ⟨fun t w1 hf hk hp => ?_, ?_⟩
          · have h44 : slot t 44 = .int .u64 ((lz N ((k : Int) - (q : Int) - 1) : Nat) : Int) := hp 44 (by kernel_rfl)
            have h46 : slot t 46 = .int .i64 ((64 - r : Nat) : Int) := hp 46 (by kernel_rfl)
            clear hf hp
            refine stepM_at (by kernel_rfl) ?_
            refine stepAt_plain rfl ?_
            refine stepOK_pure (.int .u64 ((lz N ((k : Int) - (q : Int) - 1) / 2 ^ (64 - r) : Nat) : Int)) ?_ rfl
            simp only [execOp, evS, h44, h46]
            go_simp
          refine ⟨fun t w1 hf hk hp => ?_, ?_⟩
          · have h38 : slot t 38 = .int .u64 ((lz N ((k : Int) - (q : Int)) * 2 ^ r % 18446744073709551616 : Nat) : Int) := hp 38 (by kernel_rfl)
            have h47 : slot t 47 = .int .u64 ((lz N ((k : Int) - (q : Int) - 1) / 2 ^ (64 - r) : Nat) : Int) := hp 47 (by kernel_rfl)
            clear hf hp
            refine stepM_at (by kernel_rfl) ?_
            refine stepAt_plain rfl ?_
            refine stepOK_pure (.int .u64 ((lmb (N * 2 ^ n) k : Nat) : Int)) ?_ rfl
            simp only [execOp, evS, h38, h47]
            go_simp
            exact shl_val N n q r k HNT.out hr64
          exact trivial
        · intro t w1 hsz hf hk hfacts
          have h31 : slot t 31 = .int .i64 (k : Int) := hfacts 0 _ (by decide) rfl 31 rfl
          have h48 : slot t 48 = .int .u64 ((lmb (N * 2 ^ n) k : Nat) : Int) := hfacts 17 _ (by decide) rfl 48 rfl
          have h2 : slot t 2 = .pointer (some ⟨w.heap.size, 0, none⟩) := hf 2 (by kernel_rfl)
          have h6 : slot t 6 = .int .i64 (q : Int) := hf 6 (by kernel_rfl)
          have h7 : slot t 7 = .int .i64 (r : Int) := hf 7 (by kernel_rfl)
          have h8 : slot t 8 = .pointer (some ⟨WW.heap.size, 0, none⟩) := hf 8 (by kernel_rfl)
          have h9 : slot t 9 = .int .i64 (k : Int) := hf 9 (by kernel_rfl)
          have h0 := hf 0 (by kernel_rfl)
          conv at h0 => rhs; whnf
          try change slot t 0 = undef at h0
          have h1 := hf 1 (by kernel_rfl)
          conv at h1 => rhs; whnf
          try change slot t 1 = undef at h1
          have h3 := hf 3 (by kernel_rfl)
          conv at h3 => rhs; whnf
          try change slot t 3 = undef at h3
          have h4 := hf 4 (by kernel_rfl)
          conv at h4 => rhs; whnf
          try change slot t 4 = undef at h4
          have h5 := hf 5 (by kernel_rfl)
          conv at h5 => rhs; whnf
          try change slot t 5 = undef at h5
          have h10 := hf 10 (by kernel_rfl)
          conv at h10 => rhs; whnf
          try change slot t 10 = undef at h10
          have h11 := hf 11 (by kernel_rfl)
          conv at h11 => rhs; whnf
          try change slot t 11 = undef at h11
          have h12 := hf 12 (by kernel_rfl)
          conv at h12 => rhs; whnf
          try change slot t 12 = undef at h12
          have h13 := hf 13 (by kernel_rfl)
          conv at h13 => rhs; whnf
          try change slot t 13 = undef at h13
          have h14 := hf 14 (by kernel_rfl)
          conv at h14 => rhs; whnf
          try change slot t 14 = undef at h14
          have h15 := hf 15 (by kernel_rfl)
          conv at h15 => rhs; whnf
          try change slot t 15 = undef at h15
          have h16 := hf 16 (by kernel_rfl)
          conv at h16 => rhs; whnf
          try change slot t 16 = undef at h16
          have h17 := hf 17 (by kernel_rfl)
          conv at h17 => rhs; whnf
          try change slot t 17 = undef at h17
          have h18 := hf 18 (by kernel_rfl)
          conv at h18 => rhs; whnf
          try change slot t 18 = undef at h18
          have h19 := hf 19 (by kernel_rfl)
          conv at h19 => rhs; whnf
          try change slot t 19 = undef at h19
          have h20 := hf 20 (by kernel_rfl)
          conv at h20 => rhs; whnf
          try change slot t 20 = undef at h20
          have h21 := hf 21 (by kernel_rfl)
          conv at h21 => rhs; whnf
          try change slot t 21 = undef at h21
          have h22 := hf 22 (by kernel_rfl)
          conv at h22 => rhs; whnf
          try change slot t 22 = undef at h22
          have h23 := hf 23 (by kernel_rfl)
          conv at h23 => rhs; whnf
          try change slot t 23 = undef at h23
          have h24 := hf 24 (by kernel_rfl)
          conv at h24 => rhs; whnf
          try change slot t 24 = undef at h24
          have h25 := hf 25 (by kernel_rfl)
          conv at h25 => rhs; whnf
          try change slot t 25 = undef at h25
          have h26 := hf 26 (by kernel_rfl)
          conv at h26 => rhs; whnf
          try change slot t 26 = undef at h26
          have h27 := hf 27 (by kernel_rfl)
          conv at h27 => rhs; whnf
          try change slot t 27 = undef at h27
          have h28 := hf 28 (by kernel_rfl)
          conv at h28 => rhs; whnf
          try change slot t 28 = undef at h28
          have h29 := hf 29 (by kernel_rfl)
          conv at h29 => rhs; whnf
          try change slot t 29 = undef at h29
          have h30 := hf 30 (by kernel_rfl)
          conv at h30 => rhs; whnf
          try change slot t 30 = undef at h30
          have h49 := hf 49 (by kernel_rfl)
          conv at h49 => rhs; whnf
          try change slot t 49 = undef at h49
          have h50 := hf 50 (by kernel_rfl)
          conv at h50 => rhs; whnf
          try change slot t 50 = undef at h50
          have h51 := hf 51 (by kernel_rfl)
          conv at h51 => rhs; whnf
          try change slot t 51 = undef at h51
          have harr : t = #[slot t 0, slot t 1, slot t 2, slot t 3, slot t 4, slot t 5, slot t 6, slot t 7, slot t 8, slot t 9, slot t 10, slot t 11, slot t 12, slot t 13, slot t 14, slot t 15, slot t 16, slot t 17, slot t 18, slot t 19, slot t 20, slot t 21, slot t 22, slot t 23, slot t 24, slot t 25, slot t 26, slot t 27, slot t 28, slot t 29, slot t 30, slot t 31, slot t 32, slot t 33, slot t 34, slot t 35, slot t 36, slot t 37, slot t 38, slot t 39, slot t 40, slot t 41, slot t 42, slot t 43, slot t 44, slot t 45, slot t 46, slot t 47, slot t 48, slot t 49, slot t 50, slot t 51] := arr_eq t 52 hsz
          rw [harr, h31, h48, h2, h6, h7, h8, h9, h0, h1, h3, h4, h5, h10, h11, h12, h13, h14, h15, h16, h17, h18, h19, h20, h21, h22, h23, h24, h25, h26, h27, h28, h29, h30, h49, h50, h51]
          clear harr hfacts hf h31 h48 h2 h6 h7 h8 h9 h0 h1 h3 h4 h5 h10 h11 h12 h13 h14 h15 h16 h17 h18 h19 h20 h21 h22 h23 h24 h25 h26 h27 h28 h29 h30 h49 h50 h51
          generalize slot t 32 = x32; generalize slot t 33 = x33; generalize slot t 34 = x34; generalize slot t 35 = x35; generalize slot t 36 = x36; generalize slot t 37 = x37; generalize slot t 38 = x38; generalize slot t 39 = x39; generalize slot t 40 = x40; generalize slot t 41 = x41; generalize slot t 42 = x42; generalize slot t 43 = x43
          generalize slot t 44 = x44; generalize slot t 45 = x45; generalize slot t 46 = x46; generalize slot t 47 = x47
          clear hsz t
          simp only [List.drop_succ_cons, List.drop_zero]
          have hcell : w1.cell? ⟨WW.heap.size, k, none⟩ = some (.int .u64 0) := by rw [(R7.out.kept hk).cell, lC_zero _ k k hk0 (Nat.le_refl _)]
          have hfree := (R7.out.kept hk).free k
          have A2 := Lib.hid (R2.out.kept hk)
          have A4 := Lib.hid (R4.out.kept hk)
          have A7 := Lib.hid (R7.out.kept hk)
          have A0 := Lib.hid (G0.out.trans hk)
          clear R2 R4 R7 G0 hk
          go_wp2_with fail
          go_roundw
          case rel =>
            refine ⟨k + 1, by omega, by go_num, Lib.hid (A2.out.other _ _ (show w.heap.size ≠ WW.heap.size by omega)), Lib.hid (A4.out.other _ _ (show w.heap.size + 1 ≠ WW.heap.size by omega)), Lib.hid ?_, Lib.hid (A0.out.setCell (show w.heap.size ≤ WW.heap.size by omega) _)⟩
            rw [← lC_step (N * 2 ^ n) k _ rfl]
            exact A7.out.set k _
          case measure => simp [intOf]; omega
      · have hdk : decide ((k : Int) < 5) = false := by simp; omega
        have R7' : Hid (Rowz wr WW.heap.size (lC (N * 2 ^ n) 5) 24) := by rw [show k = 5 by omega] at R7; exact R7
        go_wp2_with (first
          | (refine wpList_load_row rfl 24 _ rfl WW.heap.size rfl 24 (lC (N * 2 ^ n) 5) (0, 0) _ R7'.out Try.underlying24 rfl (infoL _ _) ?_)
          | (refine wpList_store_row rfl 24 _ _ rfl (w.heap.size + 1) (lC (N * 2 ^ n) 5) rfl rfl 24 (lC 0 0) R4.out (infoL _ _) (by simp [lC_size]) (lC_one _ _) ?_))
        refine bodyPost_ret (v := .tuple #[.agg (lC (N * 2 ^ n) 5), .bool true]) (results_row_tmp Try.results22 _ _ (w.heap.size + 1) 24 _ _ _ rfl rfl R4.out.row Try.underlying24 rfl (infoL _ _)) rfl ⟨by rw [HC.out, HF.out], ?_⟩
        exact G0.out.setRow (by omega) _
theorem largeShl_any (N n : Nat) (w : World) (hN : N < 2 ^ 320) (hn : n ≤ 9223372036854775807) :
    Calls Try.prog 22 #[.agg (lC N 5), .int .i64 (n : Int)] w fun e w' => e = .returned (.tuple #[.agg (lC (cut (N * 2 ^ n)) 5), .bool (fit (N * 2 ^ n))]) ∧ Kept w w' := by
  by_cases h0 : N = 0
  · exact largeShl_zero N n w hN hn h0
  · by_cases hb : n + bl N ≤ 320
    · exact largeShl_in N n w hN hn h0 hb
    · exact largeShl_over N n w hN h0 (by omega)
end Go.Proofs.Ytcjieaijcjinnaa
