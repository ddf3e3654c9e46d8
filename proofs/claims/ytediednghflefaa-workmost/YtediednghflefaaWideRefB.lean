/-
  Contracts of milepostref04: Hash, Add, Sub, Shr.
-/
import Derived.Test.YtediednghflefaaWideRefA
import Derived.Test.YtediednghflefaaWideWalkB
namespace Go.Proofs.Ytediednghflefaa
set_option maxRecDepth 4000
open Go.RowKit

/-! ### Hash: byte j when i bits have been laid, the highest first -/
def hb (N i j : Nat) : Nat := N / 256 ^ (31 - j) % 256 / 2 ^ (8 - min (i - 8 * j) 8) * 2 ^ (8 - min (i - 8 * j) 8)
theorem hb_le (N i j : Nat) : hb N i j ≤ 255 := by
  have h1 : hb N i j ≤ N / 256 ^ (31 - j) % 256 := Nat.div_mul_le_self _ _
  have h2 : N / 256 ^ (31 - j) % 256 < 256 := Nat.mod_lt _ (by decide)
  omega
theorem hb_other (N i j : Nat) (h : i / 8 ≠ j) : hb N (i + 1) j = hb N i j := by
  unfold hb
  have e : min (i + 1 - 8 * j) 8 = min (i - 8 * j) 8 := by omega
  rw [e]
theorem top_bits (b m : Nat) (hb : b < 256) (hm : m < 8) : b / 2 ^ (7 - m) * 2 ^ (7 - m) = b / 2 ^ (8 - m) * 2 ^ (8 - m) + b / 2 ^ (7 - m) % 2 * 2 ^ (7 - m) := by
  have : m = 0 ∨ m = 1 ∨ m = 2 ∨ m = 3 ∨ m = 4 ∨ m = 5 ∨ m = 6 ∨ m = 7 := by omega
  rcases this with rfl | rfl | rfl | rfl | rfl | rfl | rfl | rfl <;> omega
theorem hb_step (N i : Nat) (hi : i < 256) : hb N (i + 1) (i / 8) = hb N i (i / 8) + (N.testBit (255 - i)).toNat * 2 ^ (7 - i % 8) := by
  have h1 := byte_bit N (31 - i / 8) (7 - i % 8) (by omega)
  rw [show 8 * (31 - i / 8) + (7 - i % 8) = 255 - i by omega] at h1
  have h2 : N / 256 ^ (31 - i / 8) % 256 < 256 := Nat.mod_lt _ (by decide)
  have h3 := top_bits _ (i % 8) h2 (by omega)
  unfold hb
  rw [bitN, ← h1, show min (i + 1 - 8 * (i / 8)) 8 = i % 8 + 1 by omega, show min (i - 8 * (i / 8)) 8 = i % 8 by omega, show 8 - (i % 8 + 1) = 7 - i % 8 by omega, h3]
def rC (N i : Nat) : Array Value := ((List.range 32).map fun j => Value.int .u8 ((hb N i j : Nat) : Int)).toArray
theorem rC_size (N i : Nat) : (rC N i).size = 32 := by simp [rC]
theorem rC_get (N i j : Nat) (h : j < 32) : (rC N i)[j]? = some (.int .u8 ((hb N i j : Nat) : Int)) := by simp [rC, h]
theorem rC_set (N i : Nat) : (rC N i).setIfInBounds (i / 8) (.int .u8 ((hb N (i + 1) (i / 8) : Nat) : Int)) = rC N (i + 1) := by
  apply Array.ext_getElem?
  intro j
  rw [Array.getElem?_setIfInBounds]
  by_cases hj : j < 32
  · by_cases h : i / 8 = j
    · rw [if_pos h, if_pos (by rw [rC_size]; omega), rC_get N (i + 1) j hj, h]
    · rw [if_neg h, rC_get N i j hj, rC_get N (i + 1) j hj, hb_other N i j h]
  · have e : ∀ k, (rC N k)[j]? = none := fun k => Array.getElem?_eq_none (by rw [rC_size]; omega)
    by_cases h : i / 8 = j
    · rw [if_pos h, if_neg (by rw [rC_size]; omega), e]
    · rw [if_neg h, e, e]
theorem rC_same (N i : Nat) (h : hb N (i + 1) (i / 8) = hb N i (i / 8)) : rC N (i + 1) = rC N i := by
  unfold rC
  congr 1
  apply List.map_congr_left
  intro j _
  by_cases hj : i / 8 = j
  · rw [← hj, h]
  · rw [hb_other N i j hj]
theorem rC_none (N : Nat) : rC N 0 = bC 32 [] := by
  apply Array.ext_getElem?
  intro j
  by_cases hj : j < 32
  · have h : N / 256 ^ (31 - j) % 256 < 256 := Nat.mod_lt _ (by decide)
    rw [rC_get N 0 j hj, bC_get _ _ _ hj]
    unfold hb
    rw [show min (0 - 8 * j) 8 = 0 by omega, Nat.sub_zero, Nat.div_eq_of_lt h]
    rfl
  · rw [Array.getElem?_eq_none (by rw [rC_size]; omega), Array.getElem?_eq_none (by rw [bC_size]; omega)]
theorem rC_full (N : Nat) : rC N 256 = bC 32 (be 32 N) := by
  apply Array.ext_getElem?
  intro j
  by_cases hj : j < 32
  · rw [rC_get N 256 j hj, bC_get _ _ _ hj, be_getD 32 N j hj]
    unfold hb
    rw [show min (256 - 8 * j) 8 = 8 by omega]
    simp
  · rw [Array.getElem?_eq_none (by rw [rC_size]; omega), Array.getElem?_eq_none (by rw [bC_size]; omega)]

set_option maxRecDepth 100000 in
set_option maxHeartbeats 2000000 in
theorem refHash4_any (N : Nat) (v : Value) (w : World) (hv : Bits N v w) :
    Calls Try.prog 12 #[v] w fun e w' => e = .returned (.agg (bC 32 (be 32 N))) ∧ Kept w w' := by
  obtain ⟨g, cap, cur, rfl, hc, hr, hb0⟩ := hv
  have HR := Lib.hid hr
  have HB := Lib.hid hb0
  clear hr hb0
  go_enter Try.func12, Try.ntmps12
  go_wp2
  go_loopw [4] (fun i wr => ∃ (k : Nat), k ≤ 256 ∧ i = .int .i64 (k : Int) ∧ Hid (Rowz wr (w.heap.size + 1) (rC N k) 23) ∧ Hid (Rowz wr w.heap.size (bC 32 []) 23) ∧ Hid (Kept w wr)) (fun i _ => 256 - (intOf i).toNat)
  case atStart =>
    exact ⟨0, by omega, rfl, Lib.hid (Rowz.newEq1 w _ _ _ _ (by rw [rC_none]; kernel_rfl)), Lib.hid ((Rowz.newEq w _ _ _ (by kernel_rfl)).alloc _), Lib.hid (((Kept.refl w).alloc _).alloc _)⟩
  case round =>
    obtain ⟨k, hk4, rfl, R3, R2, G0⟩ := hrel
    by_cases hk0 : k < 256
    · have hdk : decide ((k : Int) < 256) = true := by simp; omega
      have hki : (k : Int) < 256 := by omega
      obtain ⟨z, hz⟩ : ∃ z : Nat, z = 255 - k := ⟨_, rfl⟩
      have hw : IntKind.i64.wrap (255 - (k : Int)) = (z : Int) := by rw [IntWalk.i64_in _ (by omega)]; omega
      have hzi : (z : Int) < 256 := by omega
      have c1 : wr.cell? ⟨g, z, none⟩ = some (.bool (N.testBit z)) := by rw [(HR.out.kept G0.out).cell, HB.out z (by omega)]
      have HS := Lib.hid (hb_step N k hk0)
      rw [← hz] at HS
      clear hz
      cases hbz : N.testBit z with
      | false =>
        rw [hbz] at c1 HS
        have R3' : Hid (Rowz wr (w.heap.size + 1) (rC N (k + 1)) 23) := by rw [rC_same N k (by rw [HS.out]; simp)]; exact R3
        clear hbz HS
        go_wp2
        go_roundw
        case rel => exact ⟨k + 1, by omega, by go_num, R3', R2, G0⟩
        case measure => simp [intOf]; omega
      | true =>
        rw [hbz] at c1 HS
        clear hbz
        go_wp2_with fail
        clear hw hdk c1
        obtain ⟨j, hj⟩ : ∃ j : Nat, j = k / 8 := ⟨_, rfl⟩
        obtain ⟨m, hm⟩ : ∃ m : Nat, m = k % 8 := ⟨_, rfl⟩
        have q1 : (k : Int) / 8 = (j : Int) := by omega
        have q2 : (k : Int) % 8 = (m : Int) := by omega
        have hj32 : (j : Int) < 32 := by omega
        have hm8 : m < 8 := by omega
        have HP : Hid ((128 : Nat) / 2 ^ m = 2 ^ (7 - m)) := Lib.hid (by
          have : m = 0 ∨ m = 1 ∨ m = 2 ∨ m = 3 ∨ m = 4 ∨ m = 5 ∨ m = 6 ∨ m = 7 := by omega
          rcases this with rfl | rfl | rfl | rfl | rfl | rfl | rfl | rfl <;> rfl)
        have HSET := Lib.hid (rC_set N k)
        rw [← hj] at HS HSET
        rw [← hm] at HS
        have hj0 : j < 32 := by omega
        clear hj hm
        have HV : Hid (IntKind.u8.wrap (((hb N k j : Nat) : Int) + 128 / 2 ^ m) = ((hb N (k + 1) j : Nat) : Int)) := Lib.hid (by
          have e1 : (128 : Int) / 2 ^ m = ((128 / 2 ^ m : Nat) : Int) := by simp
          have e2 : IntKind.u8.wrap (((hb N k j : Nat) : Int) + 128 / 2 ^ m) = (((hb N k j : Nat) : Int) + 128 / 2 ^ m) % 256 := rfl
          have h1 := HS.out
          have h2 := hb_le N (k + 1) j
          simp only [Bool.toNat_true, Nat.one_mul] at h1
          rw [e2, e1, HP.out]
          omega)
        refine wp_region_tail 9 [(14, .is (.int .i64 (k : Int))), (15, .is (.int .i64 (j : Int))), (16, .is (.pointer (some ⟨w.heap.size + 1, j, none⟩))), (17, .is (.int .u8 ((hb N k j : Nat) : Int))), (18, .is (.int .i64 (k : Int))), (19, .is (.int .i64 (m : Int))), (20, .is (.int .u8 ((128 / 2 ^ m : Nat) : Int))), (21, .is (.int .u8 ((hb N (k + 1) j : Nat) : Int))), (22, .is (.pointer (some ⟨w.heap.size + 1, j, none⟩)))] (by kernel_rfl) (by kernel_rfl) ?_ ?_
        · refine ⟨fun t w1 hf hk hp => ?_, ?_⟩
          · have h4 : slot t 4 = .int .i64 (k : Int) := hf 4 (by kernel_rfl)
            clear hf hp
            refine stepM_at (by kernel_rfl) ?_
            refine stepAt_plain rfl ?_
            exact stepOK_move _ (.inl rfl) h4
          refine ⟨fun t w1 hf hk hp => ?_, ?_⟩
          · have h14 : slot t 14 = .int .i64 (k : Int) := hp 14 (by kernel_rfl)
            clear hf hp
            refine stepM_at (by kernel_rfl) ?_
            refine stepAt_plain rfl ?_
            refine stepOK_pure (.int .i64 (j : Int)) ?_ rfl
            simp only [execOp, evS, h14]
            go_simp
            exact IntWalk.i64_in _ (by omega)
          refine ⟨fun t w1 hf hk hp => ?_, ?_⟩
          · have h3 : slot t 3 = .pointer (some ⟨w.heap.size + 1, 0, none⟩) := hf 3 (by kernel_rfl)
            have h15 : slot t 15 = .int .i64 (j : Int) := hp 15 (by kernel_rfl)
            clear hf hp
            refine stepM_at (by kernel_rfl) ?_
            refine stepAt_plain rfl ?_
            refine stepOK_pure (.pointer (some ⟨w.heap.size + 1, j, none⟩)) ?_ rfl
            simp only [execOp, evS, h3, h15]
            go_simp
          refine ⟨fun t w1 hf hk hp => ?_, ?_⟩
          · have h16 : slot t 16 = .pointer (some ⟨w.heap.size + 1, j, none⟩) := hp 16 (by kernel_rfl)
            clear hf hp
            refine stepM_at (by kernel_rfl) ?_
            refine stepAt_plain rfl ?_
            have hq0 := (show w1.cell? ⟨w.heap.size + 1, j, none⟩ = some (.int .u8 ((hb N k j : Nat) : Int)) by rw [(R3.out.kept hk).cell, rC_get N k j hj0])
            refine stepOK_pure (.int .u8 ((hb N k j : Nat) : Int)) ?_ rfl
            simp only [execOp, evS, h16]
            go_simp
          refine ⟨fun t w1 hf hk hp => ?_, ?_⟩
          · have h4 : slot t 4 = .int .i64 (k : Int) := hf 4 (by kernel_rfl)
            clear hf hp
            refine stepM_at (by kernel_rfl) ?_
            refine stepAt_plain rfl ?_
            exact stepOK_move _ (.inl rfl) h4
          refine ⟨fun t w1 hf hk hp => ?_, ?_⟩
          · have h18 : slot t 18 = .int .i64 (k : Int) := hp 18 (by kernel_rfl)
            clear hf hp
            refine stepM_at (by kernel_rfl) ?_
            refine stepAt_plain rfl ?_
            refine stepOK_pure (.int .i64 (m : Int)) ?_ rfl
            simp only [execOp, evS, h18]
            go_simp
            rw [Int.tmod_eq_emod_of_nonneg (by omega)]
            exact q2
          refine ⟨fun t w1 hf hk hp => ?_, ?_⟩
          · have h19 : slot t 19 = .int .i64 (m : Int) := hp 19 (by kernel_rfl)
            clear hf hp
            refine stepM_at (by kernel_rfl) ?_
            refine stepAt_plain rfl ?_
            refine stepOK_pure (.int .u8 ((128 / 2 ^ m : Nat) : Int)) ?_ rfl
            simp only [execOp, evS, h19]
            go_simp
          refine ⟨fun t w1 hf hk hp => ?_, ?_⟩
          · have h17 : slot t 17 = .int .u8 ((hb N k j : Nat) : Int) := hp 17 (by kernel_rfl)
            have h20 : slot t 20 = .int .u8 ((128 / 2 ^ m : Nat) : Int) := hp 20 (by kernel_rfl)
            clear hf hp
            refine stepM_at (by kernel_rfl) ?_
            refine stepAt_plain rfl ?_
            refine stepOK_pure (.int .u8 ((hb N (k + 1) j : Nat) : Int)) ?_ rfl
            simp only [execOp, evS, h17, h20]
            go_simp
            exact HV.out
          refine ⟨fun t w1 hf hk hp => ?_, ?_⟩
          · have h3 : slot t 3 = .pointer (some ⟨w.heap.size + 1, 0, none⟩) := hf 3 (by kernel_rfl)
            have h15 : slot t 15 = .int .i64 (j : Int) := hp 15 (by kernel_rfl)
            clear hf hp
            refine stepM_at (by kernel_rfl) ?_
            refine stepAt_plain rfl ?_
            refine stepOK_pure (.pointer (some ⟨w.heap.size + 1, j, none⟩)) ?_ rfl
            simp only [execOp, evS, h3, h15]
            go_simp
          exact trivial
        · intro t w1 hsz hf hk hfacts
          have h21 : slot t 21 = .int .u8 ((hb N (k + 1) j : Nat) : Int) := hfacts 7 _ (by decide) rfl 21 rfl
          have h22 : slot t 22 = .pointer (some ⟨w.heap.size + 1, j, none⟩) := hfacts 8 _ (by decide) rfl 22 rfl
          have h3 : slot t 3 = .pointer (some ⟨w.heap.size + 1, 0, none⟩) := hf 3 (by kernel_rfl)
          have h4 : slot t 4 = .int .i64 (k : Int) := hf 4 (by kernel_rfl)
          have h0 := hf 0 (by kernel_rfl)
          conv at h0 => rhs; whnf
          try change slot t 0 = undef at h0
          have h1 := hf 1 (by kernel_rfl)
          conv at h1 => rhs; whnf
          try change slot t 1 = undef at h1
          have h2 := hf 2 (by kernel_rfl)
          conv at h2 => rhs; whnf
          try change slot t 2 = undef at h2
          have h5 := hf 5 (by kernel_rfl)
          conv at h5 => rhs; whnf
          try change slot t 5 = undef at h5
          have h6 := hf 6 (by kernel_rfl)
          conv at h6 => rhs; whnf
          try change slot t 6 = undef at h6
          have h7 := hf 7 (by kernel_rfl)
          conv at h7 => rhs; whnf
          try change slot t 7 = undef at h7
          have h8 := hf 8 (by kernel_rfl)
          conv at h8 => rhs; whnf
          try change slot t 8 = undef at h8
          have h9 := hf 9 (by kernel_rfl)
          conv at h9 => rhs; whnf
          try change slot t 9 = undef at h9
          have h10 := hf 10 (by kernel_rfl)
          conv at h10 => rhs; whnf
          try change slot t 10 = undef at h10
          have h11 := hf 11 (by kernel_rfl)
          conv at h11 => rhs; whnf
          try change slot t 11 = undef at h11
          have h12 := hf 12 (by kernel_rfl)
          conv at h12 => rhs; whnf
          try change slot t 12 = undef at h12
          have h13 := hf 13 (by kernel_rfl)
          conv at h13 => rhs; whnf
          try change slot t 13 = undef at h13
          have h23 := hf 23 (by kernel_rfl)
          conv at h23 => rhs; whnf
          try change slot t 23 = undef at h23
          have harr : t = #[slot t 0, slot t 1, slot t 2, slot t 3, slot t 4, slot t 5, slot t 6, slot t 7, slot t 8, slot t 9, slot t 10, slot t 11, slot t 12, slot t 13, slot t 14, slot t 15, slot t 16, slot t 17, slot t 18, slot t 19, slot t 20, slot t 21, slot t 22, slot t 23] := arr_eq t 24 hsz
          rw [harr, h21, h22, h3, h4, h0, h1, h2, h5, h6, h7, h8, h9, h10, h11, h12, h13, h23]
          clear harr hfacts hf h21 h22 h3 h4 h0 h1 h2 h5 h6 h7 h8 h9 h10 h11 h12 h13 h23
          generalize slot t 14 = x14; generalize slot t 15 = x15; generalize slot t 16 = x16; generalize slot t 17 = x17; generalize slot t 18 = x18; generalize slot t 19 = x19; generalize slot t 20 = x20
          clear hsz t
          simp only [List.drop_succ_cons, List.drop_zero]
          have hcell : w1.cell? ⟨w.heap.size + 1, j, none⟩ = some (.int .u8 ((hb N k j : Nat) : Int)) := by rw [(R3.out.kept hk).cell, rC_get N k j hj0]
          have hfree := (R3.out.kept hk).free j
          have A3 := Lib.hid (R3.out.kept hk)
          have A2 := Lib.hid (R2.out.kept hk)
          have A0 := Lib.hid (G0.out.trans hk)
          clear R2 R3 G0 hk q1 q2
          go_wp2_with fail
          go_roundw
          case rel =>
            refine ⟨k + 1, by omega, by go_num, Lib.hid ?_, Lib.hid (A2.out.other _ _ (show w.heap.size ≠ w.heap.size + 1 by omega)), Lib.hid (A0.out.setCell (show w.heap.size ≤ w.heap.size + 1 by omega) _)⟩
            rw [← HSET.out]
            exact A3.out.set j _
          case measure => simp [intOf]; omega
    · have hdk : decide ((k : Int) < 256) = false := by simp; omega
      have R3' : Hid (Rowz wr (w.heap.size + 1) (bC 32 (be 32 N)) 23) := by rw [show k = 256 by omega, rC_full] at R3; exact R3
      go_wp2_with (first
        | (refine wpList_load_row rfl 23 _ rfl (w.heap.size + 1) rfl 23 (bC 32 (be 32 N)) (0, 0) _ R3'.out Try.underlying23 rfl (infoH _) ?_)
        | (refine wpList_store_row rfl 23 _ _ rfl w.heap.size (bC 32 (be 32 N)) rfl rfl 23 (bC 32 []) R2.out (infoH _) (by simp [bC_size]) (bC_one _ _) ?_))
      refine bodyPost_ret (v := .agg (bC 32 (be 32 N))) (results_cell_row Try.results12 _ _ w.heap.size 23 _ (0, 0) _ rfl R2.out.row Try.underlying23 rfl (infoH _)) rfl ⟨rfl, ?_⟩
      exact G0.out.setRow (by omega) _

def tC (M k : Nat) : Array Value := ((List.range 256).map fun i => Value.bool (decide (i < k) && M.testBit i)).toArray
theorem tC_size (M k : Nat) : (tC M k).size = 256 := by simp [tC]
theorem tC_get (M k i : Nat) (h : i < 256) : (tC M k)[i]? = some (.bool (decide (i < k) && M.testBit i)) := by simp [tC, h]
theorem tC_step (M k : Nat) (b : Bool) (hb : b = M.testBit k) : (tC M k).setIfInBounds k (.bool b) = tC M (k + 1) := by
  subst hb
  apply Array.ext_getElem?
  intro i
  rw [Array.getElem?_setIfInBounds]
  by_cases hi : i < 256
  · by_cases h : k = i
    · subst h
      rw [if_pos rfl, if_pos (by rw [tC_size]; exact hi), tC_get M (k + 1) k hi]
      simp
    · rw [if_neg h, tC_get M k i hi, tC_get M (k + 1) i hi]
      have : decide (i < k) = decide (i < k + 1) := by rw [decide_eq_decide]; omega
      rw [this]
  · have e : ∀ j, (tC M j)[i]? = none := fun j => Array.getElem?_eq_none (by rw [tC_size]; omega)
    by_cases h : k = i
    · subst h
      rw [if_pos rfl, if_neg (by rw [tC_size]; exact hi), e]
    · rw [if_neg h, e, e]
theorem tC_same (M k : Nat) (h : M.testBit k = false) : tC M (k + 1) = tC M k := by
  unfold tC
  congr 1
  apply List.map_congr_left
  intro i _
  by_cases hk : i = k
  · subst hk; simp [h]
  · have : decide (i < k + 1) = decide (i < k) := by rw [decide_eq_decide]; omega
    rw [this]
theorem run_make256 (M : Nat) (w : World) : (Instr.makeSlice 30 (.int .i64 256) (.int .i64 256)).run Try.prog w = .ok (.slice (some ⟨w.heap.size, 0, none⟩) 256 256) (w.alloc (.cells (tC M 0) 4)) := by kernel_rfl
set_option maxRecDepth 100000 in
set_option maxHeartbeats 2000000 in
theorem refShr4_any (N : Nat) (n : Int) (v : Value) (w : World) (hv : Bits N v w) (hN : N < 2 ^ 256) (h1 : -9223372036854775808 ≤ n) (h2 : n ≤ 9223372036854775807) :
    Calls Try.prog 13 #[v, .int .i64 n] w fun e w' => ∃ x, e = .returned x ∧ Bits (shr256 N n) x w' ∧ Kept w w' := by
  obtain ⟨g, cap, cur, rfl, hc, hr, hb⟩ := hv
  have HR := Lib.hid hr
  have HB := Lib.hid hb
  have HN := Lib.hid hN
  clear hr hb hN
  have HT : Hid (∀ i, (shr256 N n).testBit i = N.testBit (i + n.toNat)) := Lib.hid (fun i => by unfold shr256; rw [Nat.testBit_div_two_pow])
  have hmk := run_make256 (shr256 N n)
  go_enter Try.func13, Try.ntmps13
  go_wp2
  clear hmk
  go_loopw [6] (fun i wr => ∃ (k : Nat), k ≤ 256 ∧ i = .int .i64 (k : Int) ∧ Hid (Rowz wr w.heap.size (tC (shr256 N n) k) 4) ∧ Hid (Kept w wr)) (fun i _ => 256 - (intOf i).toNat)
  case atStart => exact ⟨0, by omega, rfl, Lib.hid (Rowz.new w _ _), Lib.hid ((Kept.refl w).alloc _)⟩
  case round =>
    obtain ⟨k, hk4, rfl, R5, G0⟩ := hrel
    by_cases hk0 : k < 256
    · have hdk : decide ((k : Int) < 256) = true := by simp; omega
      have hki : (k : Int) < 256 := by omega
      have c5 : wr.cell? ⟨w.heap.size, k, none⟩ = some (.bool (decide (k < k) && (shr256 N n).testBit k)) := by rw [R5.out.cell, tC_get _ k k hk0]
      rw [show decide (k < k) = false by simp, Bool.false_and] at c5
      have f5 := R5.out.free k
      have HTK := Lib.hid (HT.out k)
      by_cases hn0 : n ≤ 0
      · have hd1 : decide (n ≤ 0) = true := decide_eq_true hn0
        have HV : Hid (N.testBit k = (shr256 N n).testBit k) := Lib.hid (by rw [HTK.out, show n.toNat = 0 by omega]; rfl)
        have c1 : wr.cell? ⟨g, k, none⟩ = some (.bool (N.testBit k)) := by rw [(HR.out.kept G0.out).cell, HB.out k hk0]
        go_wp2
        go_roundw
        case rel =>
          refine ⟨k + 1, by omega, by go_num, Lib.hid ?_, Lib.hid (G0.out.setCell (Nat.le_refl _) _)⟩
          rw [← tC_step (shr256 N n) k _ HV.out]
          exact R5.out.set k _
        case measure => simp [intOf]; omega
      · have hd1 : decide (n ≤ 0) = false := decide_eq_false hn0
        have w29 : IntKind.i64.wrap (256 - (k : Int)) = 256 - (k : Int) := IntWalk.i64_in _ (by omega)
        by_cases hlt : n < 256 - (k : Int)
        · have hd2 : decide (n < 256 - (k : Int)) = true := decide_eq_true hlt
          obtain ⟨m, hm⟩ : ∃ m : Nat, n = (m : Int) := ⟨n.toNat, by omega⟩
          obtain ⟨z, hz⟩ : ∃ z : Nat, z = k + m := ⟨_, rfl⟩
          have w36 : IntKind.i64.wrap ((k : Int) + n) = (z : Int) := by rw [IntWalk.i64_in _ (by omega)]; omega
          have hzi : (z : Int) < 256 := by omega
          have HV : Hid (N.testBit z = (shr256 N n).testBit k) := Lib.hid (by rw [HTK.out, hz, hm]; rfl)
          have c1 : wr.cell? ⟨g, z, none⟩ = some (.bool (N.testBit z)) := by rw [(HR.out.kept G0.out).cell, HB.out z (by omega)]
          clear hm hz
          go_wp2
          go_roundw
          case rel =>
            refine ⟨k + 1, by omega, by go_num, Lib.hid ?_, Lib.hid (G0.out.setCell (Nat.le_refl _) _)⟩
            rw [← tC_step (shr256 N n) k _ HV.out]
            exact R5.out.set k _
          case measure => simp [intOf]; omega
        · have hd2 : decide (n < 256 - (k : Int)) = false := decide_eq_false hlt
          have HV : Hid ((shr256 N n).testBit k = false) := Lib.hid (by
            rw [HTK.out]
            apply Nat.testBit_lt_two_pow
            exact Nat.lt_of_lt_of_le HN.out (Nat.pow_le_pow_right (by decide) (by omega)))
          have R6 : Hid (Rowz wr w.heap.size (tC (shr256 N n) (k + 1)) 4) := by rw [tC_same _ k HV.out]; exact R5
          go_wp2
          go_roundw
          case rel => exact ⟨k + 1, by omega, by go_num, R6, G0⟩
          case measure => simp [intOf]; omega
    · have hdk : decide ((k : Int) < 256) = false := by simp; omega
      have ek : k = 256 := by omega
      have HBB : Hid (Bits (shr256 N n) (.slice (some ⟨w.heap.size, 0, none⟩) 256 256) wr) := Lib.hid ⟨_, _, _, rfl, Nat.le_refl _, R5.out, fun i hi => by rw [tC_get _ _ _ hi, ek]; simp [hi]⟩
      clear ek
      go_wp2
      go_ret
      exact ⟨_, rfl, HBB.out, G0.out⟩
end Go.Proofs.Ytediednghflefaa
