/-
  Contracts of package large: Of, limbOf, Cmp, Len, Add. A number is its cells lC N 5. Conditions: numbers below 2^320.
-/
import Derived.Test.YtcjieaijcjinnaaWalkB
import Derived.Test.YtcjieaijcjinnaaLargeMath
import Derived.Test.YtcjieaijcjinnaaDrawLib
import Derived.Test.YtcjieaijcjinnaaMemLib
import Derived.Test.YtcjieaijcjinnaaTailLib
import Derived.Deep.QuietTactic
import Derived.Deep.RegionHeld3
import Derived.BigQuiet
import Derived.Shelf.Spec.BitsCarry
namespace Go.Proofs.Ytcjieaijcjinnaa
open Go.RowKit

theorem infoL (N k : Nat) : (Try.prog.info? 24).map (·.size) = some (lC N k).size := by rw [lC_size]; kernel_rfl
theorem lC_none : lC 0 5 = lC 0 0 := by kernel_rfl

theorem largeOf_any (x : Nat) (w : World) (hx : x < 18446744073709551616) :
    Calls Try.prog 26 #[.int .u64 (x : Int)] w fun e w' => e = .returned (.agg (lC x 5)) ∧ Grown w w' := by
  have HL := Lib.hid (lC_of x hx)
  clear hx
  go_enter Try.func26, Try.ntmps26
  go_wp2_with (refine wpList_store_row rfl 24 _ _ rfl w.heap.size (lC x 5) rfl (by rw [HL.out]; rfl) 24 (lC 0 0) (Rowz.newEq w _ _ _ (by kernel_rfl)) (infoL _ _) (by simp [lC_size]) (lC_one _ _) ?_)
  have R := Rowz.newEq w (.cells (lC 0 0) 24) (lC 0 0) 24 rfl
  refine bodyPost_ret (v := .agg (lC x 5)) (results_cell_row Try.results26 _ _ w.heap.size 24 _ (0, 0) _ rfl R.row Try.underlying24 rfl (infoL _ _)) rfl ⟨rfl, ?_⟩
  exact Grown.setRow ((Grown.refl w).alloc _ _) R (Nat.le_refl _) _

set_option maxHeartbeats 400000 in
theorem limbOf5_any (N : Nat) (i : Int) (w : World) (hi : i < 5) (hi0 : -9223372036854775808 ≤ i) :
    Calls Try.prog 42 #[.agg (lC N 5), .int .i64 i] w fun e w' => e = .returned (.int .u64 ((lz N i : Nat) : Int)) ∧ Grown w w' := by
  by_cases h0 : i < 0
  · have hz : lz N i = 0 := by unfold lz; rw [if_pos h0]
    have hd : decide (i < 0) = true := decide_eq_true h0
    clear h0
    go_enter Try.func42, Try.ntmps42
    go_wp2
    go_ret
    rw [hz]
    exact ⟨rfl, (Grown.refl _).alloc _ _⟩
  · obtain ⟨k, rfl⟩ : ∃ k : Nat, i = (k : Int) := ⟨i.toNat, by omega⟩
    have hd : decide ((k : Int) < 0) = false := by simp
    have hk : k < 5 := by omega
    have hz : lz N (k : Int) = lmb N k := by unfold lz; rw [if_neg h0]; rfl
    have hcell : (w.alloc (.cells (lC N 5) 24)).cell? ⟨w.heap.size, k, none⟩ = some (.int .u64 ((lmb N k : Nat) : Int)) := by
      rw [(Rowz.new w (lC N 5) 24).cell, lC_get N 5 k hk hk]
    clear h0
    go_enter Try.func42, Try.ntmps42
    go_wp2
    go_ret
    rw [hz]
    exact ⟨rfl, (Grown.refl _).alloc _ _⟩

set_option maxHeartbeats 800000 in
theorem largeCmp_any (A B : Nat) (w : World) (hA : A < 2 ^ 320) (hB : B < 2 ^ 320) :
    Calls Try.prog 14 #[.agg (lC A 5), .agg (lC B 5)] w fun e w' => e = .returned (.int .i64 (cmpN A B)) ∧ Grown w w' := by
  have HS : Hid (A / 2 ^ (64 * 5) = B / 2 ^ (64 * 5)) := Lib.hid (by rw [show 64 * 5 = 320 from rfl, Nat.div_eq_of_lt hA, Nat.div_eq_of_lt hB])
  clear hA hB
  go_enter Try.func14, Try.ntmps14
  go_wp2
  have R2 : Hid (Rowz ((w.alloc (.cells (lC A 5) 24)).alloc (.cells (lC B 5) 24)) w.heap.size (lC A 5) 24) := Lib.hid ((Rowz.new w _ _).alloc _)
  have R3 : Hid (Rowz ((w.alloc (.cells (lC A 5) 24)).alloc (.cells (lC B 5) 24)) (w.heap.size + 1) (lC B 5) 24) := Lib.hid (Rowz.newEq1 w _ _ _ _ rfl)
  have G0 : Hid (Grown w ((w.alloc (.cells (lC A 5) 24)).alloc (.cells (lC B 5) 24))) := Lib.hid (((Grown.refl w).alloc _ _).alloc _ _)
  generalize (w.alloc (.cells (lC A 5) 24)).alloc (.cells (lC B 5) 24) = v at R2 R3 G0 ⊢
  go_loopw [5] (fun i wr => ∃ (k : Nat), k ≤ 5 ∧ i = .int .i64 ((k : Int) - 1) ∧ Hid (A / 2 ^ (64 * k) = B / 2 ^ (64 * k)) ∧ Hid (Rowz wr w.heap.size (lC A 5) 24) ∧ Hid (Rowz wr (w.heap.size + 1) (lC B 5) 24) ∧ Hid (Grown w wr)) (fun i _ => (intOf i + 1).toNat)
  case atStart => exact ⟨5, by omega, rfl, HS, R2, R3, G0⟩
  case round =>
    clear HS R2 R3 G0
    obtain ⟨k, hk4, rfl, HS, R2, R3, G0⟩ := hrel
    cases k with
    | zero =>
      have hE : A = B := by have := HS.out; simpa using this
      have hc := cmpN_eq hE
      clear hE
      go_wp2
      go_ret
      rw [hc]
      exact ⟨rfl, G0.out⟩
    | succ k =>
      have hk : k < 5 := by omega
      have hdk : decide ((0 : Int) ≤ (k : Int)) = true := by simp
      have e1 : (((k + 1 : Nat) : Int) - 1) = (k : Int) := by omega
      rw [e1]
      have c1 : wr.cell? ⟨w.heap.size, k, none⟩ = some (.int .u64 ((lmb A k : Nat) : Int)) := by rw [R2.out.cell, lC_get A 5 k hk hk]
      have c2 : wr.cell? ⟨w.heap.size + 1, k, none⟩ = some (.int .u64 ((lmb B k : Nat) : Int)) := by rw [R3.out.cell, lC_get B 5 k hk hk]
      have hki : (k : Int) < 5 := by omega
      rcases Nat.lt_trichotomy (lmb A k) (lmb B k) with h | h | h
      · have hL : Hid (cmpN A B = -1) := Lib.hid (cmpN_lt (cmp_less A B k HS.out h))
        have hd1 : decide (lmb A k < lmb B k) = true := decide_eq_true h
        clear h
        go_wp2
        go_quiet (fail)
        go_wp2
        go_ret
        rw [hL.out]
        exact ⟨rfl, G0.out⟩
      · have hS : Hid (A / 2 ^ (64 * k) = B / 2 ^ (64 * k)) := Lib.hid (cmp_same A B k HS.out h)
        rw [h] at c1
        have hd1 : decide (lmb B k < lmb B k) = false := by simp
        clear h
        go_wp2
        go_quiet (fail)
        replace c1 : (wr.drewN nq).cell? ⟨w.heap.size, k, none⟩ = some (.int .u64 ((lmb B k : Nat) : Int)) := c1
        replace c2 : (wr.drewN nq).cell? ⟨w.heap.size + 1, k, none⟩ = some (.int .u64 ((lmb B k : Nat) : Int)) := c2
        replace R2 : Hid (Rowz (wr.drewN nq) w.heap.size (lC A 5) 24) := R2
        replace R3 : Hid (Rowz (wr.drewN nq) (w.heap.size + 1) (lC B 5) 24) := R3
        replace G0 : Hid (Grown w (wr.drewN nq)) := G0
        generalize wr.drewN nq = w2 at c1 c2 R2 R3 G0 ⊢
        go_wp2
        go_quiet (fail)
        go_wp2
        go_roundw
        case rel => exact ⟨k, by omega, by go_num, hS, R2, R3, G0⟩
        case measure => simp [intOf]
      · have hL : Hid (cmpN A B = 1) := Lib.hid (cmpN_gt (cmp_less B A k HS.out.symm h))
        have hd1 : decide (lmb A k < lmb B k) = false := decide_eq_false (by omega)
        have hd2 : decide (lmb B k < lmb A k) = true := decide_eq_true h
        clear h
        go_wp2
        go_quiet (fail)
        replace c1 : (wr.drewN nq).cell? ⟨w.heap.size, k, none⟩ = some (.int .u64 ((lmb A k : Nat) : Int)) := c1
        replace c2 : (wr.drewN nq).cell? ⟨w.heap.size + 1, k, none⟩ = some (.int .u64 ((lmb B k : Nat) : Int)) := c2
        replace G0 : Hid (Grown w (wr.drewN nq)) := G0
        clear R2 R3
        generalize wr.drewN nq = w2 at c1 c2 G0 ⊢
        go_wp2
        go_quiet (fail)
        go_wp2
        go_ret
        rw [hL.out]
        exact ⟨rfl, G0.out⟩

set_option maxHeartbeats 800000 in
theorem largeLen_any (N : Nat) (w : World) (hN : N < 2 ^ 320) :
    Calls Try.prog 16 #[.agg (lC N 5)] w fun e w' => e = .returned (.int .i64 ((bl N : Nat) : Int)) ∧ Grown w w' := by
  have HS : Hid (N / 2 ^ (64 * 5) = 0) := Lib.hid (by rw [show 64 * 5 = 320 from rfl, Nat.div_eq_of_lt hN])
  clear hN
  go_enter Try.func16, Try.ntmps16
  go_wp2
  go_loopw [3] (fun i wr => ∃ (k : Nat), k ≤ 5 ∧ i = .int .i64 ((k : Int) - 1) ∧ Hid (N / 2 ^ (64 * k) = 0) ∧ Hid (Rowz wr w.heap.size (lC N 5) 24) ∧ Hid (Grown w wr)) (fun i _ => (intOf i + 1).toNat)
  case atStart => exact ⟨5, by omega, rfl, HS, Lib.hid (Rowz.new w _ _), Lib.hid ((Grown.refl w).alloc _ _)⟩
  case round =>
    clear HS
    obtain ⟨k, hk4, rfl, HS, R1, G0⟩ := hrel
    cases k with
    | zero =>
      have hE : N = 0 := by have := HS.out; simpa using this
      have hc : bl N = 0 := by rw [hE]; rfl
      clear hE
      go_wp2
      go_ret
      rw [hc]
      exact ⟨rfl, G0.out⟩
    | succ k =>
      have hk : k < 5 := by omega
      have hdk : decide ((0 : Int) ≤ (k : Int)) = true := by simp
      have e1 : (((k + 1 : Nat) : Int) - 1) = (k : Int) := by omega
      rw [e1]
      have c1 : wr.cell? ⟨w.heap.size, k, none⟩ = some (.int .u64 ((lmb N k : Nat) : Int)) := by rw [R1.out.cell, lC_get N 5 k hk hk]
      have hml := lmb_lt N k
      by_cases hz : lmb N k = 0
      · have hS : Hid (N / 2 ^ (64 * k) = 0) := Lib.hid (len_next N k HS.out hz)
        rw [hz] at c1
        clear hz
        go_wp2
        go_roundw
        case rel => exact ⟨k, by omega, by go_num, hS, R1, G0⟩
        case measure => simp [intOf]
      · have hL : Hid (bl N = 64 * k + bl (lmb N k)) := Lib.hid (len_limb N k HS.out hz)
        have hb : bl (lmb N k) ≤ 64 := bl_le _ 64 hml
        obtain ⟨x, hx⟩ : ∃ x, x = lmb N k := ⟨_, rfl⟩
        rw [← hx] at c1 hml hz hL hb
        clear hx
        go_wp2_with (go_at_call 39; refine (lead_any x _ hml).mono ?_; rintro e w' ⟨rfl, rfl⟩)
        go_ret
        refine ⟨ret_int ?_, G0.out⟩
        rw [hL.out]
        omega

theorem runAdd64L (x y c : Nat) (hc : c ≤ 1) (w : World) : (callFunc 38 #[.int .u64 (x : Int), .int .u64 (y : Int), .int .u64 (c : Int)]).run Try.prog w =
    .ok (.value (.tuple #[.int .u64 (((x + y + c) % 18446744073709551616 : Nat) : Int), .int .u64 (((x + y + c) / 18446744073709551616 : Nat) : Int)])) w := by
  have hf : Try.prog.funcs[38]? = some Try.f38 := by kernel_rfl
  rw [run_callFunc_extern hf (by kernel_rfl) (by kernel_rfl) (by kernel_rfl) (e := add64Entry) (by kernel_rfl), Go.run_add64 x y c (by omega) (by omega) (by omega) (by omega)]
  simp only [Result.andThen]
  congr 5 <;> omega
theorem add64_limb5 (A B k : Nat) (hk : k < 5) (w : World) : (callFunc 38 #[.int .u64 ((lmb A k : Nat) : Int), .int .u64 ((lmb B k : Nat) : Int), .int .u64 ((carryN A B (64 * k) : Nat) : Int)]).run Try.prog w =
    .ok (.value (.tuple #[.int .u64 ((lmb (A + B) k : Nat) : Int), .int .u64 ((carryN A B (64 * (k + 1)) : Nat) : Int)])) w := by
  rw [runAdd64L _ _ _ (carryN_le _ _ _), add_limb5 A B k hk, add_carry5 A B k hk]

set_option maxRecDepth 100000 in
set_option maxHeartbeats 2000000 in
theorem largeAdd_any (A B : Nat) (w : World) (hA : A < 2 ^ 320) (hB : B < 2 ^ 320) :
    Calls Try.prog 11 #[.agg (lC A 5), .agg (lC B 5)] w fun e w' => e = .returned (.tuple #[.agg (lC (cut (A + B)) 5), .bool (fit (A + B))]) ∧ Grown w w' := by
  have HO := Lib.hid (carry_fit A B hA hB)
  clear hA hB
  go_enter Try.func11, Try.ntmps11
  go_wp2
  go_loopw [7, 9] (fun c i wr => ∃ (k : Nat), k ≤ 5 ∧ i = .int .i64 (k : Int) ∧ c = .int .u64 ((carryN A B (64 * k) : Nat) : Int) ∧ Hid (Rowz wr w.heap.size (lC A 5) 24) ∧ Hid (Rowz wr (w.heap.size + 1) (lC B 5) 24) ∧
      Hid (Rowz wr (w.heap.size + 1 + 1) (lC 0 0) 24) ∧ Hid (Rowz wr (w.heap.size + 1 + 1 + 1) (lC (A + B) k) 24) ∧ Hid (Grown w wr)) (fun _ i _ => 5 - (intOf i).toNat)
  case atStart =>
    have R := Rowz.new w (lC A 5) 24
    have R1 := Rowz.new (w.alloc (.cells (lC A 5) 24)) (lC B 5) 24
    have R2 := Rowz.new ((w.alloc (.cells (lC A 5) 24)).alloc (.cells (lC B 5) 24)) (lC 0 0) 24
    have R3 := Rowz.new (((w.alloc (.cells (lC A 5) 24)).alloc (.cells (lC B 5) 24)).alloc (.cells (lC 0 0) 24)) (lC (A + B) 0) 24
    have e1 : (w.alloc (.cells (lC A 5) 24)).heap.size = w.heap.size + 1 := by simp
    have e2 : ((w.alloc (.cells (lC A 5) 24)).alloc (.cells (lC B 5) 24)).heap.size = w.heap.size + 1 + 1 := by simp
    have e3 : (((w.alloc (.cells (lC A 5) 24)).alloc (.cells (lC B 5) 24)).alloc (.cells (lC 0 0) 24)).heap.size = w.heap.size + 1 + 1 + 1 := by simp
    rw [e1] at R1
    rw [e2] at R2
    rw [e3] at R3
    exact ⟨0, by omega, rfl, by rw [Nat.mul_zero, carryN_zero]; rfl, Lib.hid (((R.alloc _).alloc _).alloc _), Lib.hid ((R1.alloc _).alloc _), Lib.hid (R2.alloc _), Lib.hid R3, Lib.hid (((((Grown.refl w).alloc _ _).alloc _ _).alloc _ _).alloc _ _)⟩
  case round =>
    obtain ⟨k, hk4, rfl, rfl, R2, R3, R4, R6, G0⟩ := hrel
    by_cases hk : k < 5
    · have hdk : decide ((k : Int) < 5) = true := by simp; omega
      have hki : (k : Int) < 5 := by omega
      have c1 : wr.drew.cell? ⟨w.heap.size, k, none⟩ = some (.int .u64 ((lmb A k : Nat) : Int)) := by show wr.cell? _ = _; rw [R2.out.cell, lC_get A 5 k hk hk]
      have c2 : wr.drew.cell? ⟨w.heap.size + 1, k, none⟩ = some (.int .u64 ((lmb B k : Nat) : Int)) := by show wr.cell? _ = _; rw [R3.out.cell, lC_get B 5 k hk hk]
      have c3 : wr.drew.cell? ⟨w.heap.size + 1 + 1 + 1, k, none⟩ = some (.int .u64 0) := by show wr.cell? _ = _; rw [R6.out.cell, lC_zero _ k k hk (Nat.le_refl _)]
      have f3 : wr.drew.frozen? ⟨w.heap.size + 1 + 1 + 1, k, none⟩ = false := R6.out.free k
      have hadd := add64_limb5 A B k hk
      go_wp2_with fail
      go_region_held3 (fun w' => w'.cell? ⟨w.heap.size, k, none⟩ = some (.int .u64 ((lmb A k : Nat) : Int)) ∧ w'.cell? ⟨w.heap.size + 1, k, none⟩ = some (.int .u64 ((lmb B k : Nat) : Int))) (first | exact ⟨c1, c2⟩ | exact ⟨(World.cell?_setCell_far wr ⟨w.heap.size + 1 + 1 + 1, k, none⟩ _ _ (show w.heap.size + 1 + 1 + 1 ≠ w.heap.size by omega)).trans c1, (World.cell?_setCell_far wr ⟨w.heap.size + 1 + 1 + 1, k, none⟩ _ _ (show w.heap.size + 1 + 1 + 1 ≠ w.heap.size + 1 by omega)).trans c2⟩) (fail)
      go_wp2
      go_roundw
      case rel =>
        refine ⟨k + 1, by omega, by go_num, rfl, Lib.hid (R2.out.other _ _ (by simp; omega)), Lib.hid (R3.out.other _ _ (show w.heap.size + 1 ≠ w.heap.size + 1 + 1 + 1 by omega)), Lib.hid (R4.out.other _ _ (show w.heap.size + 1 + 1 ≠ w.heap.size + 1 + 1 + 1 by omega)), Lib.hid ?_, Lib.hid (G0.out.setCell (by simp; omega) _)⟩
        rw [← lC_step (A + B) k _ rfl]
        exact R6.out.set k _
      case measure => simp [intOf]; omega
    · have hdk : decide ((k : Int) < 5) = false := by simp; omega
      have ek : k = 5 := by omega
      have R6' : Hid (Rowz wr (w.heap.size + 1 + 1 + 1) (lC (A + B) 5) 24) := by rw [ek] at R6; exact R6
      have hov : carryN A B (64 * k) = if fit (A + B) then 0 else 1 := by rw [ek]; exact HO.out
      by_cases hf : A + B < 2 ^ 320
      · have HC := Lib.hid (cut_of hf)
        have HF := Lib.hid (fit_of hf)
        rw [HF.out] at hov
        rw [show carryN A B (64 * k) = 0 from hov]
        clear hov ek R6 hf HO
        go_wp2_with (first
          | (refine wpList_load_row rfl 24 _ rfl (w.heap.size + 1 + 1 + 1) rfl 24 (lC (A + B) 5) (0, 0) _ R6'.out Try.underlying24 rfl (infoL _ _) ?_)
          | (refine wpList_store_row rfl 24 _ _ rfl (w.heap.size + 1 + 1) (lC (A + B) 5) rfl rfl 24 (lC 0 0) R4.out (infoL _ _) (by simp [lC_size]) (lC_one _ _) ?_))
        refine bodyPost_ret (v := .tuple #[.agg (lC (A + B) 5), .bool true]) (results_row_tmp Try.results11 _ _ (w.heap.size + 1 + 1) 24 _ _ _ rfl rfl R4.out.row Try.underlying24 rfl (infoL _ _)) rfl ⟨by rw [HC.out, HF.out], ?_⟩
        exact Grown.setRow G0.out R4.out (by omega) _
      · have HC := Lib.hid (cut_no (Nat.le_of_not_lt hf))
        have HF := Lib.hid (fit_no (Nat.le_of_not_lt hf))
        rw [HF.out] at hov
        rw [show carryN A B (64 * k) = 1 from hov]
        clear hov ek R6 hf HO R6'
        go_wp2_with (first
          | (refine wpList_store_row rfl 24 _ _ rfl (w.heap.size + 1 + 1) (lC 0 5) rfl (by kernel_rfl) 24 (lC 0 0) R4.out (infoL _ _) (by simp [lC_size]) (lC_one _ _) ?_))
        refine bodyPost_ret (v := .tuple #[.agg (lC 0 5), .bool false]) (results_row_tmp Try.results11 _ _ (w.heap.size + 1 + 1) 24 _ _ _ rfl rfl R4.out.row Try.underlying24 rfl (infoL _ _)) rfl ⟨by rw [HC.out, HF.out], ?_⟩
        exact Grown.setRow G0.out R4.out (by omega) _
end Go.Proofs.Ytcjieaijcjinnaa
