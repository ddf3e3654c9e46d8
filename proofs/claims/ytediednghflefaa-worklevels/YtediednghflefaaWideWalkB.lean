/-
  Contracts of package wide: Hash, Add, Sub, Shr. Conditions: numbers below 2^256.
-/
import Derived.Test.YtediednghflefaaWideWalkA
import Derived.Test.YtediednghflefaaBas
import Derived.Deep.RegionHeld3
import Derived.Shelf.Spec.BitsCarry
namespace Go.Proofs.Ytediednghflefaa
set_option maxRecDepth 4000
open Go.RowKit

theorem infoU8 : (Try.prog.info? 5).map (·.size) = some 1 := by kernel_rfl
theorem run_index_N (N k : Nat) (w : World) (hk : k < 4) : (Instr.index 38 (.agg (nC N 4)) (.int .i64 (k : Int))).run Try.prog w = .ok (.int .u64 ((lmb N k : Nat) : Int)) w := by
  have h1 : (sizeOf 36).run Try.prog w = .ok 1 w := by kernel_rfl
  have h3 := nC_get N 4 k hk hk
  simp [Instr.index, run_underlying Try.underlying38, asIntOf, part, h1, h3]
  omega
theorem run_slice_from (g p : Nat) (w : World) (h : p < 32) :
    (Instr.sliceAt 23 (.pointer (some ⟨g, 0, none⟩)) (some (.int .i64 (p : Int))) none none).run Try.prog w = .ok (.slice (some ⟨g, p, none⟩) (32 - p) (32 - p)) w := by
  have ha : Try.prog.arrayLen 23 = 32 := by kernel_rfl
  have hs : (sizeOf (Try.prog.elem 23)).run Try.prog w = .ok 1 w := by kernel_rfl
  rw [run_sliceAt_array_l w 23 ⟨g, 0, none⟩ (by kernel_rfl) .i64 (p : Int) (by omega) (by rw [ha]; omega), hs, ha]
  simp only [Result.andThen, slicedAt, Addr.add_mid, Int.toNat_natCast, Nat.mul_one, Nat.zero_add]
  split
  · have : p = 32 := by omega
    omega
  · rfl
theorem whC_step (N k p : Nat) (hk : k < 4) (hp : p = 8 * (3 - k)) : spl (whC N k) p (Lib.byteCells (List.take 8 (beS 8 (lmb N k)).data.toList)) = whC N (k + 1) := by
  have e1 : List.take 8 (beS 8 (lmb N k)).data.toList = be 8 (lmb N k) := by
    rw [show (beS 8 (lmb N k)).data.toList = be 8 (lmb N k) from rfl, List.take_of_length_le (by rw [be_length]; exact Nat.le_refl _)]
  have hl : (Lib.byteCells (be 8 (lmb N k))).length = 8 := by simp [Lib.byteCells, be_length]
  rw [e1]
  apply Array.ext_getElem?
  intro i
  rw [spl_get _ _ _ _ (by rw [hl, whC_size]; omega), hl]
  by_cases hi : i < 32
  · rw [whC_get N k i hi, whC_get N (k + 1) i hi]
    by_cases h1 : i < p
    · rw [if_pos h1, if_neg (by omega), if_neg (by omega)]
    · rw [if_neg h1]
      by_cases h2 : i < p + 8
      · have hb := limb_byte N k (i - p) (by omega)
        have hj : i - p < 8 := by omega
        rw [if_pos h2, if_pos (by omega), byteCells_get, List.getElem?_eq_getElem (by rw [be_length]; exact hj), be_get 8 _ _ hj, Option.map_some]
        simp only [UInt8.toNat_ofNat', show 8 - 1 - (i - p) = 7 - (i - p) by omega]
        rw [show (2 : Nat) ^ 8 = 256 from rfl, hb, show 8 * k + 7 - (i - p) = 31 - i by omega]
      · rw [if_neg h2]
        by_cases h3 : 32 - 8 * k ≤ i
        · rw [if_pos h3, if_pos (by omega)]
        · omega
  · have e : ∀ j, (whC N j)[i]? = none := fun j => Array.getElem?_eq_none (by rw [whC_size]; omega)
    rw [e, e, if_neg (by omega), if_neg (by omega)]

set_option maxRecDepth 100000 in
set_option maxHeartbeats 2000000 in
theorem wideHash_any (N : Nat) (w : World) :
    Calls Try.prog 20 #[.agg (nC N 4)] w fun e w' => e = .returned (.agg (bC 32 (be 32 N))) ∧ Kept w w' := by
  go_enter Try.func20, Try.ntmps20
  go_wp2_with (first
    | (refine wpList_load_row rfl 38 _ rfl w.heap.size rfl 38 (nC N 4) (0, 0) _ (((Rowz.new w _ _).alloc _).alloc _) Try.underlying38 rfl (infoN _ _) ?_))
  go_loopw [7] (fun i wr => ∃ (k : Nat), k ≤ 4 ∧ i = .int .i64 (k : Int) ∧ Hid (Rowz wr (w.heap.size + 1 + 1) (whC N k) 23) ∧ Hid (Rowz wr (w.heap.size + 1) (whC N 0) 23) ∧ Hid (Kept w wr)) (fun i _ => 4 - (intOf i).toNat)
  case atStart =>
    refine ⟨0, by omega, rfl, Lib.hid ?_, Lib.hid ((Rowz.newEq1 w _ _ _ _ (by rw [whC_none]; kernel_rfl)).alloc _), Lib.hid ((((Kept.refl w).alloc _).alloc _).alloc _)⟩
    have h := Rowz.newEq1 (w.alloc (.cells (nC N 4) 38)) (.cells (bC 32 []) 23) (.cells (bC 32 []) 23) (whC N 0) 23 (by rw [whC_none])
    have e : (w.alloc (.cells (nC N 4) 38)).heap.size = w.heap.size + 1 := by simp
    rw [e] at h
    exact h
  case round =>
    obtain ⟨k, hk4, rfl, R3, R2, G0⟩ := hrel
    by_cases hk : k < 4
    · have hdk : decide ((k : Int) < 4) = true := by simp; omega
      have hix := run_index_N N k wr hk
      have hml := lmb_lt N k
      have HLA := Lib.hid fun w' => limbAt_any k w' hk
      obtain ⟨p, hp⟩ : ∃ p, p = 8 * (3 - k) := ⟨_, rfl⟩
      have HST := Lib.hid (whC_step N k p hk hp)
      simp only [← hp] at HLA
      have hp24 : p ≤ 24 := by omega
      clear hp
      go_wp2_with fail
      clear hix
      refine wp_region_tail 5 [(11, .is (.int .i64 (k : Int))), (12, .is (.int .i64 (p : Int))), (13, .is (.slice (some ⟨w.heap.size + 1 + 1, p, none⟩) (32 - p) (32 - p))), (14, .is (.int .u64 ((lmb N k : Nat) : Int))), (15, .is (.string (beS 8 (lmb N k))))] (by kernel_rfl) (by kernel_rfl) ?_ ?_
      · refine ⟨fun t w1 hf hk hp => ?_, ?_⟩
        · have h4 : slot t 4 = .int .i64 (k : Int) := hf 4 (by kernel_rfl)
          clear hf hp
          refine stepM_at (by kernel_rfl) ?_
          refine stepAt_plain rfl ?_
          exact stepOK_move _ (.inl rfl) h4
        refine ⟨fun t w1 hf hk hp => ?_, ?_⟩
        · have h11 : slot t 11 = .int .i64 (k : Int) := hp 11 (by kernel_rfl)
          clear hf hp
          refine stepM_at (by kernel_rfl) ?_
          refine stepAt_plain rfl ?_
          refine stepOK_call #[.int .i64 (k : Int)] rfl (by simp only [List.map_toArray, List.map_cons, List.map_nil, evS, h11]) (by go_simp) ((HLA.out w1).mono fun e w' ⟨he, hk'⟩ => ⟨_, he, Kept.same hk', rfl⟩)
        refine ⟨fun t w1 hf hk hp => ?_, ?_⟩
        · have h3 : slot t 3 = .pointer (some ⟨w.heap.size + 1 + 1, 0, none⟩) := hf 3 (by kernel_rfl)
          have h12 : slot t 12 = .int .i64 (p : Int) := hp 12 (by kernel_rfl)
          clear hf hp
          refine stepM_at (by kernel_rfl) ?_
          refine stepAt_plain rfl ?_
          have hq0 := run_slice_from (w.heap.size + 1 + 1) p w1 (by omega)
          exact stepOK_sem (.slice (some ⟨w.heap.size + 1 + 1, p, none⟩) (32 - p) (32 - p)) (by simp only [execOp, evS, Option.map_some, Option.map_none, h3, h12]) hq0 rfl
        refine ⟨fun t w1 hf hk hp => ?_, ?_⟩
        · have h5 : slot t 5 = .int .u64 ((lmb N k : Nat) : Int) := hf 5 (by kernel_rfl)
          clear hf hp
          refine stepM_at (by kernel_rfl) ?_
          refine stepAt_plain rfl ?_
          exact stepOK_move _ (.inl rfl) h5
        refine ⟨fun t w1 hf hk hp => ?_, ?_⟩
        · have h14 : slot t 14 = .int .u64 ((lmb N k : Nat) : Int) := hp 14 (by kernel_rfl)
          clear hf hp
          refine stepM_at (by kernel_rfl) ?_
          refine stepAt_plain rfl ?_
          refine stepOK_call #[.int .u64 ((lmb N k : Nat) : Int)] rfl (by simp only [List.map_toArray, List.map_cons, List.map_nil, evS, h14]) (by go_simp) ((put64_any (lmb N k) w1 hml).mono fun e w' ⟨he, hk'⟩ => ⟨_, he, Grown.kept hk', rfl⟩)
        exact trivial
      · intro t w1 hsz hf hk hfacts
        have h13 : slot t 13 = .slice (some ⟨w.heap.size + 1 + 1, p, none⟩) (32 - p) (32 - p) := hfacts 2 _ (by decide) rfl 13 rfl
        have h15 : slot t 15 = .string (beS 8 (lmb N k)) := hfacts 4 _ (by decide) rfl 15 rfl
        have h3 : slot t 3 = .pointer (some ⟨w.heap.size + 1 + 1, 0, none⟩) := hf 3 (by kernel_rfl)
        have h4 : slot t 4 = .int .i64 (k : Int) := hf 4 (by kernel_rfl)
        have h5 : slot t 5 = .int .u64 ((lmb N k : Nat) : Int) := hf 5 (by kernel_rfl)
        have h0 := hf 0 (by kernel_rfl)
        conv at h0 => rhs; whnf
        try change slot t 0 = undef at h0
        have h1 := hf 1 (by kernel_rfl)
        conv at h1 => rhs; whnf
        try change slot t 1 = undef at h1
        have h2 := hf 2 (by kernel_rfl)
        conv at h2 => rhs; whnf
        try change slot t 2 = undef at h2
        have h6 := hf 6 (by kernel_rfl)
        conv at h6 => rhs; whnf
        try change slot t 6 = undef at h6
        have h7 := hf 7 (by kernel_rfl)
        conv at h7 => rhs; whnf
        try change slot t 7 = undef at h7
        have h8 := hf 8 (by kernel_rfl)
        conv at h8 => rhs; whnf
        try change slot t 8 = undef at h8
        have h9 := hf 9 (by kernel_rfl)
        conv at h9 => rhs; whnf
        try change slot t 9 = undef at h9
        have h10 := hf 10 (by kernel_rfl)
        conv at h10 => rhs; whnf
        try change slot t 10 = undef at h10
        have h16 := hf 16 (by kernel_rfl)
        conv at h16 => rhs; whnf
        try change slot t 16 = undef at h16
        have h17 := hf 17 (by kernel_rfl)
        conv at h17 => rhs; whnf
        try change slot t 17 = undef at h17
        have h18 := hf 18 (by kernel_rfl)
        conv at h18 => rhs; whnf
        try change slot t 18 = undef at h18
        have harr : t = #[slot t 0, slot t 1, slot t 2, slot t 3, slot t 4, slot t 5, slot t 6, slot t 7, slot t 8, slot t 9, slot t 10, slot t 11, slot t 12, slot t 13, slot t 14, slot t 15, slot t 16, slot t 17, slot t 18] := arr_eq t 19 hsz
        rw [harr, h13, h15, h3, h4, h5, h0, h1, h2, h6, h7, h8, h9, h10, h16, h17, h18]
        clear harr hfacts hf h13 h15 h3 h4 h5 h0 h1 h2 h6 h7 h8 h9 h10 h16 h17 h18
        generalize slot t 11 = x11; generalize slot t 12 = x12; generalize slot t 14 = x14
        clear hsz t
        simp only [List.drop_succ_cons, List.drop_zero]
        have R3' := R3.out.kept hk
        refine wpList_copy_str rfl (.tmp 13) (.tmp 15) 44 9 rfl 5 Try.underlying44 infoU8 (w.heap.size + 1 + 1) p (32 - p) (32 - p) rfl (beS 8 (lmb N k)) rfl (whC N k) 23 R3' 8 (by rw [beS_size]; omega) (by rw [whC_size]; omega) ?_
        rw [HST.out]
        have R3 : Hid (Rowz (w1.setRow (w.heap.size + 1 + 1) (whC N (k + 1))) (w.heap.size + 1 + 1) (whC N (k + 1)) 23) := Lib.hid (Rowz.row R3')
        have R2 : Hid (Rowz (w1.setRow (w.heap.size + 1 + 1) (whC N (k + 1))) (w.heap.size + 1) (whC N 0) 23) := Lib.hid ((R2.out.kept hk).rowOther (by omega))
        have G0 : Hid (Kept w (w1.setRow (w.heap.size + 1 + 1) (whC N (k + 1)))) := Lib.hid ((G0.out.trans hk).setRow (by omega) _)
        clear R3' hk
        generalize w1.setRow (w.heap.size + 1 + 1) (whC N (k + 1)) = w2 at R3 R2 G0 ⊢
        go_wp2_with fail
        go_roundw
        case rel => exact ⟨k + 1, by omega, by go_num, R3, R2, G0⟩
        case measure => simp [intOf]; omega
    · have hdk : decide ((k : Int) < 4) = false := by simp; omega
      have R3' : Hid (Rowz wr (w.heap.size + 1 + 1) (bC 32 (be 32 N)) 23) := by rw [show k = 4 by omega, whC_full] at R3; exact R3
      go_wp2_with (first
        | (refine wpList_load_row rfl 23 _ rfl (w.heap.size + 1 + 1) rfl 23 (bC 32 (be 32 N)) (0, 0) _ R3'.out Try.underlying23 rfl (infoH _) ?_)
        | (refine wpList_store_row rfl 23 _ _ rfl (w.heap.size + 1) (bC 32 (be 32 N)) rfl rfl 23 (whC N 0) R2.out (infoH _) (by simp [bC_size, whC_size]) (bC_one _ _) ?_))
      refine bodyPost_ret (v := .agg (bC 32 (be 32 N))) (results_cell_row Try.results20 _ _ (w.heap.size + 1) 23 _ (0, 0) _ rfl R2.out.row Try.underlying23 rfl (infoH _)) rfl ⟨rfl, ?_⟩
      exact G0.out.setRow (by omega) _

theorem shl64_none (x : Int) : IntKind.u64.wrap (x * 18446744073709551616) = 0 := by
  have : IntKind.u64.wrap (x * 18446744073709551616) = (x * 18446744073709551616) % 18446744073709551616 := rfl
  rw [this]; omega
theorem shr_val (N : Nat) (n : Int) (q r k : Nat) (hn : n.toNat = 64 * q + r) (hr : r < 64) :
    bits .or .u64 ((lmb N (k + q) : Int) / 2 ^ r) ((lmb N (k + q + 1) : Int) * 2 ^ (64 - r) % 18446744073709551616) = ((lmb (shr256 N n) k : Nat) : Int) := by
  have e1 : ((lmb N (k + q) : Int) / 2 ^ r) = ((lmb N (k + q) / 2 ^ r : Nat) : Int) := by simp
  have e2 : ((lmb N (k + q + 1) : Int) * 2 ^ (64 - r) % 18446744073709551616) = ((lmb N (k + q + 1) * 2 ^ (64 - r) % 18446744073709551616 : Nat) : Int) := by simp
  rw [e1, e2, u64_or_nat _ _ (Nat.lt_of_le_of_lt (Nat.div_le_self _ _) (lmb_lt _ _)) (Nat.mod_lt _ (by decide)), shr_limb N n.toNat q r k hn hr]
  rfl
set_option maxRecDepth 100000 in
set_option maxHeartbeats 2000000 in
theorem wideShr_pos (N : Nat) (n : Int) (w : World) (hN : N < 2 ^ 256) (h1 : 0 ≤ n) (h2 : n ≤ 9223372036854775807) :
    Calls Try.prog 19 #[.agg (nC N 4), .int .i64 n] w fun e w' => e = .returned (.agg (nC (shr256 N n) 4)) ∧ Kept w w' := by
  have HN := Lib.hid hN
  obtain ⟨q, hq⟩ : ∃ q : Nat, n / 64 = (q : Int) := ⟨(n / 64).toNat, by omega⟩
  obtain ⟨r, hr⟩ : ∃ r : Nat, n % 64 = (r : Int) := ⟨(n % 64).toNat, by omega⟩
  have HNT : Hid (n.toNat = 64 * q + r) := Lib.hid (by omega)
  have hr64 : r < 64 := by omega
  have hq57 : q ≤ 144115188075855871 := by omega
  clear h2
  clear hN h1
  go_enter Try.func19, Try.ntmps19
  go_wp2
  rw [hq, hr]
  clear hq hr
  go_loopw [15] (fun i wr => ∃ (k : Nat), k ≤ 4 ∧ i = .int .i64 (k : Int) ∧ Hid (Rowz wr w.heap.size (nC N 4) 38) ∧ Hid (Rowz wr (w.heap.size + 1) (nC 0 0) 38) ∧ Hid (Rowz wr (w.heap.size + 1 + 1) (nC (shr256 N n) k) 38) ∧ Hid (Kept w wr)) (fun i _ => 4 - (intOf i).toNat)
  case atStart =>
    have R := Rowz.new w (nC N 4) 38
    have R1 := Rowz.new (w.alloc (.cells (nC N 4) 38)) (nC 0 0) 38
    have R2 := Rowz.new ((w.alloc (.cells (nC N 4) 38)).alloc (.cells (nC 0 0) 38)) (nC (shr256 N n) 0) 38
    have e1 : (w.alloc (.cells (nC N 4) 38)).heap.size = w.heap.size + 1 := by simp
    have e2 : ((w.alloc (.cells (nC N 4) 38)).alloc (.cells (nC 0 0) 38)).heap.size = w.heap.size + 1 + 1 := by simp
    rw [e1] at R1
    rw [e2] at R2
    exact ⟨0, by omega, rfl, Lib.hid ((R.alloc _).alloc _), Lib.hid (R1.alloc _), Lib.hid R2, Lib.hid ((((Kept.refl w).alloc _).alloc _).alloc _)⟩
  case round =>
    obtain ⟨k, hk4, rfl, R2, R4, R7, G0⟩ := hrel
    by_cases hk0 : k < 4
    · have hdk : decide ((k : Int) < 4) = true := by simp; omega
      have hki : (k : Int) < 4 := by omega
      have m1 := lmb_lt N (k + q)
      have m2 := lmb_lt N (k + q + 1)
      have w22 : IntKind.i64.wrap ((k : Int) + (q : Int)) = (k : Int) + (q : Int) := IntWalk.i64_in _ (by omega)
      have w30 : IntKind.i64.wrap ((k : Int) + (q : Int) + 1) = (k : Int) + (q : Int) + 1 := IntWalk.i64_in _ (by omega)
      have w33 : IntKind.i64.wrap (64 - (r : Int)) = ((64 - r : Nat) : Int) := by rw [IntWalk.i64_in _ (by omega)]; omega
      go_wp2_with fail
      clear hdk
      refine wp_region_tail 18 [(18, .is (.int .i64 (k : Int))), (19, .is (.agg (nC N 4))), (20, .is (.int .i64 (k : Int))), (21, .is (.int .i64 (q : Int))), (22, .is (.int .i64 ((k + q : Nat) : Int))), (23, .is (.int .u64 ((lmb N (k + q) : Nat) : Int))), (24, .is (.int .i64 (r : Int))), (25, .is (.int .u64 ((lmb N (k + q) / 2 ^ r : Nat) : Int))), (26, .is (.agg (nC N 4))), (27, .is (.int .i64 (k : Int))), (28, .is (.int .i64 (q : Int))), (29, .is (.int .i64 ((k + q : Nat) : Int))), (30, .is (.int .i64 ((k + q + 1 : Nat) : Int))), (31, .is (.int .u64 ((lmb N (k + q + 1) : Nat) : Int))), (32, .is (.int .i64 (r : Int))), (33, .is (.int .i64 ((64 - r : Nat) : Int))), (34, .is (.int .u64 ((lmb N (k + q + 1) * 2 ^ (64 - r) % 18446744073709551616 : Nat) : Int))), (35, .is (.int .u64 ((lmb (shr256 N n) k : Nat) : Int)))] (by kernel_rfl) (by kernel_rfl) ?_ ?_
      · refine ⟨fun t w1 hf hk hp => ?_, ?_⟩
        · have h8 : slot t 8 = .int .i64 (k : Int) := hf 8 (by kernel_rfl)
          clear hf hp
          refine stepM_at (by kernel_rfl) ?_
          refine stepAt_plain rfl ?_
          exact stepOK_move _ (.inl rfl) h8
        refine ⟨fun t w1 hf hk hp => ?_, ?_⟩
        · have h2 : slot t 2 = .pointer (some ⟨w.heap.size, 0, none⟩) := hf 2 (by kernel_rfl)
          clear hf hp
          refine stepM_at (by kernel_rfl) ?_
          refine stepAt_plain rfl ?_
          have hq0 := Rowz.load (R2.out.kept hk) 4 36 Try.underlying38 (infoN _ _)
          exact stepOK_sem (.agg (nC N 4)) (by simp only [execOp, evS, h2]) hq0 rfl
        refine ⟨fun t w1 hf hk hp => ?_, ?_⟩
        · have h8 : slot t 8 = .int .i64 (k : Int) := hf 8 (by kernel_rfl)
          clear hf hp
          refine stepM_at (by kernel_rfl) ?_
          refine stepAt_plain rfl ?_
          exact stepOK_move _ (.inl rfl) h8
        refine ⟨fun t w1 hf hk hp => ?_, ?_⟩
        · have h5 : slot t 5 = .int .i64 (q : Int) := hf 5 (by kernel_rfl)
          clear hf hp
          refine stepM_at (by kernel_rfl) ?_
          refine stepAt_plain rfl ?_
          exact stepOK_move _ (.inl rfl) h5
        refine ⟨fun t w1 hf hk hp => ?_, ?_⟩
        · have h20 : slot t 20 = .int .i64 (k : Int) := hp 20 (by kernel_rfl)
          have h21 : slot t 21 = .int .i64 (q : Int) := hp 21 (by kernel_rfl)
          clear hf hp
          refine stepM_at (by kernel_rfl) ?_
          refine stepAt_plain rfl ?_
          refine stepOK_pure (.int .i64 ((k + q : Nat) : Int)) ?_ rfl
          simp only [execOp, evS, h20, h21]
          go_simp
        refine ⟨fun t w1 hf hk hp => ?_, ?_⟩
        · have h19 : slot t 19 = .agg (nC N 4) := hp 19 (by kernel_rfl)
          have h22 : slot t 22 = .int .i64 ((k + q : Nat) : Int) := hp 22 (by kernel_rfl)
          clear hf hp
          refine stepM_at (by kernel_rfl) ?_
          refine stepAt_plain rfl ?_
          refine stepOK_call #[.agg (nC N 4), .int .i64 ((k + q : Nat) : Int)] rfl (by simp only [List.map_toArray, List.map_cons, List.map_nil, evS, h19, h22]) (by go_simp) ((limbOf_any N (k + q) w1 HN.out (by omega)).mono fun e w' ⟨he, hk'⟩ => ⟨_, he, Grown.kept hk', rfl⟩)
        refine ⟨fun t w1 hf hk hp => ?_, ?_⟩
        · have h6 : slot t 6 = .int .i64 (r : Int) := hf 6 (by kernel_rfl)
          clear hf hp
          refine stepM_at (by kernel_rfl) ?_
          refine stepAt_plain rfl ?_
          exact stepOK_move _ (.inl rfl) h6
        refine ⟨fun t w1 hf hk hp => ?_, ?_⟩
        · have h23 : slot t 23 = .int .u64 ((lmb N (k + q) : Nat) : Int) := hp 23 (by kernel_rfl)
          have h24 : slot t 24 = .int .i64 (r : Int) := hp 24 (by kernel_rfl)
          clear hf hp
          refine stepM_at (by kernel_rfl) ?_
          refine stepAt_plain rfl ?_
          refine stepOK_pure (.int .u64 ((lmb N (k + q) / 2 ^ r : Nat) : Int)) ?_ rfl
          simp only [execOp, evS, h23, h24]
          go_simp
        refine ⟨fun t w1 hf hk hp => ?_, ?_⟩
        · have h2 : slot t 2 = .pointer (some ⟨w.heap.size, 0, none⟩) := hf 2 (by kernel_rfl)
          clear hf hp
          refine stepM_at (by kernel_rfl) ?_
          refine stepAt_plain rfl ?_
          have hq0 := Rowz.load (R2.out.kept hk) 4 36 Try.underlying38 (infoN _ _)
          exact stepOK_sem (.agg (nC N 4)) (by simp only [execOp, evS, h2]) hq0 rfl
        refine ⟨fun t w1 hf hk hp => ?_, ?_⟩
        · have h8 : slot t 8 = .int .i64 (k : Int) := hf 8 (by kernel_rfl)
          clear hf hp
          refine stepM_at (by kernel_rfl) ?_
          refine stepAt_plain rfl ?_
          exact stepOK_move _ (.inl rfl) h8
        refine ⟨fun t w1 hf hk hp => ?_, ?_⟩
        · have h5 : slot t 5 = .int .i64 (q : Int) := hf 5 (by kernel_rfl)
          clear hf hp
          refine stepM_at (by kernel_rfl) ?_
          refine stepAt_plain rfl ?_
          exact stepOK_move _ (.inl rfl) h5
        refine ⟨fun t w1 hf hk hp => ?_, ?_⟩
        · have h27 : slot t 27 = .int .i64 (k : Int) := hp 27 (by kernel_rfl)
          have h28 : slot t 28 = .int .i64 (q : Int) := hp 28 (by kernel_rfl)
          clear hf hp
          refine stepM_at (by kernel_rfl) ?_
          refine stepAt_plain rfl ?_
          refine stepOK_pure (.int .i64 ((k + q : Nat) : Int)) ?_ rfl
          simp only [execOp, evS, h27, h28]
          go_simp
        refine ⟨fun t w1 hf hk hp => ?_, ?_⟩
        · have h29 : slot t 29 = .int .i64 ((k + q : Nat) : Int) := hp 29 (by kernel_rfl)
          clear hf hp
          refine stepM_at (by kernel_rfl) ?_
          refine stepAt_plain rfl ?_
          refine stepOK_pure (.int .i64 ((k + q + 1 : Nat) : Int)) ?_ rfl
          simp only [execOp, evS, h29]
          go_simp
        refine ⟨fun t w1 hf hk hp => ?_, ?_⟩
        · have h26 : slot t 26 = .agg (nC N 4) := hp 26 (by kernel_rfl)
          have h30 : slot t 30 = .int .i64 ((k + q + 1 : Nat) : Int) := hp 30 (by kernel_rfl)
          clear hf hp
          refine stepM_at (by kernel_rfl) ?_
          refine stepAt_plain rfl ?_
          refine stepOK_call #[.agg (nC N 4), .int .i64 ((k + q + 1 : Nat) : Int)] rfl (by simp only [List.map_toArray, List.map_cons, List.map_nil, evS, h26, h30]) (by go_simp) ((limbOf_any N (k + q + 1) w1 HN.out (by omega)).mono fun e w' ⟨he, hk'⟩ => ⟨_, he, Grown.kept hk', rfl⟩)
        refine ⟨fun t w1 hf hk hp => ?_, ?_⟩
        · have h6 : slot t 6 = .int .i64 (r : Int) := hf 6 (by kernel_rfl)
          clear hf hp
          refine stepM_at (by kernel_rfl) ?_
          refine stepAt_plain rfl ?_
          exact stepOK_move _ (.inl rfl) h6
        refine ⟨fun t w1 hf hk hp => ?_, ?_⟩
        · have h32 : slot t 32 = .int .i64 (r : Int) := hp 32 (by kernel_rfl)
          clear hf hp
          refine stepM_at (by kernel_rfl) ?_
          refine stepAt_plain rfl ?_
          refine stepOK_pure (.int .i64 ((64 - r : Nat) : Int)) ?_ rfl
          simp only [execOp, evS, h32]
          go_simp
        refine ⟨fun t w1 hf hk hp => ?_, ?_⟩
        · have h31 : slot t 31 = .int .u64 ((lmb N (k + q + 1) : Nat) : Int) := hp 31 (by kernel_rfl)
          have h33 : slot t 33 = .int .i64 ((64 - r : Nat) : Int) := hp 33 (by kernel_rfl)
          clear hf hp
          refine stepM_at (by kernel_rfl) ?_
          refine stepAt_plain rfl ?_
          refine stepOK_pure (.int .u64 ((lmb N (k + q + 1) * 2 ^ (64 - r) % 18446744073709551616 : Nat) : Int)) ?_ rfl
          simp only [execOp, evS, h31, h33]
          go_simp
          rfl
        refine ⟨fun t w1 hf hk hp => ?_, ?_⟩
        · have h25 : slot t 25 = .int .u64 ((lmb N (k + q) / 2 ^ r : Nat) : Int) := hp 25 (by kernel_rfl)
          have h34 : slot t 34 = .int .u64 ((lmb N (k + q + 1) * 2 ^ (64 - r) % 18446744073709551616 : Nat) : Int) := hp 34 (by kernel_rfl)
          clear hf hp
          refine stepM_at (by kernel_rfl) ?_
          refine stepAt_plain rfl ?_
          refine stepOK_pure (.int .u64 ((lmb (shr256 N n) k : Nat) : Int)) ?_ rfl
          simp only [execOp, evS, h25, h34]
          go_simp
          exact shr_val N n q r k HNT.out hr64
        exact trivial
      · intro t w1 hsz hf hk hfacts
        have h18 : slot t 18 = .int .i64 (k : Int) := hfacts 0 _ (by decide) rfl 18 rfl
        have h35 : slot t 35 = .int .u64 ((lmb (shr256 N n) k : Nat) : Int) := hfacts 17 _ (by decide) rfl 35 rfl
        have h2 : slot t 2 = .pointer (some ⟨w.heap.size, 0, none⟩) := hf 2 (by kernel_rfl)
        have h5 : slot t 5 = .int .i64 (q : Int) := hf 5 (by kernel_rfl)
        have h6 : slot t 6 = .int .i64 (r : Int) := hf 6 (by kernel_rfl)
        have h7 : slot t 7 = .pointer (some ⟨w.heap.size + 1 + 1, 0, none⟩) := hf 7 (by kernel_rfl)
        have h8 : slot t 8 = .int .i64 (k : Int) := hf 8 (by kernel_rfl)
        have h0 := hf 0 (by kernel_rfl)
        conv at h0 => rhs; whnf
        try change slot t 0 = undef at h0
        have h1 := hf 1 (by kernel_rfl)
        conv at h1 => rhs; whnf
        try change slot t 1 = undef at h1
        have h3 := hf 3 (by kernel_rfl)
        conv at h3 => rhs; whnf
        try change slot t 3 = undef at h3
        have h4 := hf 4 (by kernel_rfl)
        conv at h4 => rhs; whnf
        try change slot t 4 = undef at h4
        have h9 := hf 9 (by kernel_rfl)
        conv at h9 => rhs; whnf
        try change slot t 9 = undef at h9
        have h10 := hf 10 (by kernel_rfl)
        conv at h10 => rhs; whnf
        try change slot t 10 = undef at h10
        have h11 := hf 11 (by kernel_rfl)
        conv at h11 => rhs; whnf
        try change slot t 11 = undef at h11
        have h12 := hf 12 (by kernel_rfl)
        conv at h12 => rhs; whnf
        try change slot t 12 = undef at h12
        have h13 := hf 13 (by kernel_rfl)
        conv at h13 => rhs; whnf
        try change slot t 13 = undef at h13
        have h14 := hf 14 (by kernel_rfl)
        conv at h14 => rhs; whnf
        try change slot t 14 = undef at h14
        have h15 := hf 15 (by kernel_rfl)
        conv at h15 => rhs; whnf
        try change slot t 15 = undef at h15
        have h16 := hf 16 (by kernel_rfl)
        conv at h16 => rhs; whnf
        try change slot t 16 = undef at h16
        have h17 := hf 17 (by kernel_rfl)
        conv at h17 => rhs; whnf
        try change slot t 17 = undef at h17
        have h36 := hf 36 (by kernel_rfl)
        conv at h36 => rhs; whnf
        try change slot t 36 = undef at h36
        have h37 := hf 37 (by kernel_rfl)
        conv at h37 => rhs; whnf
        try change slot t 37 = undef at h37
        have h38 := hf 38 (by kernel_rfl)
        conv at h38 => rhs; whnf
        try change slot t 38 = undef at h38
        have harr : t = #[slot t 0, slot t 1, slot t 2, slot t 3, slot t 4, slot t 5, slot t 6, slot t 7, slot t 8, slot t 9, slot t 10, slot t 11, slot t 12, slot t 13, slot t 14, slot t 15, slot t 16, slot t 17, slot t 18, slot t 19, slot t 20, slot t 21, slot t 22, slot t 23, slot t 24, slot t 25, slot t 26, slot t 27, slot t 28, slot t 29, slot t 30, slot t 31, slot t 32, slot t 33, slot t 34, slot t 35, slot t 36, slot t 37, slot t 38] := arr_eq t 39 hsz
        rw [harr, h18, h35, h2, h5, h6, h7, h8, h0, h1, h3, h4, h9, h10, h11, h12, h13, h14, h15, h16, h17, h36, h37, h38]
        clear harr hfacts hf h18 h35 h2 h5 h6 h7 h8 h0 h1 h3 h4 h9 h10 h11 h12 h13 h14 h15 h16 h17 h36 h37 h38
        generalize slot t 19 = x19; generalize slot t 20 = x20; generalize slot t 21 = x21; generalize slot t 22 = x22; generalize slot t 23 = x23; generalize slot t 24 = x24; generalize slot t 25 = x25; generalize slot t 26 = x26; generalize slot t 27 = x27; generalize slot t 28 = x28; generalize slot t 29 = x29; generalize slot t 30 = x30
        generalize slot t 31 = x31; generalize slot t 32 = x32; generalize slot t 33 = x33; generalize slot t 34 = x34
        clear hsz t
        simp only [List.drop_succ_cons, List.drop_zero]
        have hcell : w1.cell? ⟨w.heap.size + 1 + 1, k, none⟩ = some (.int .u64 0) := by rw [(R7.out.kept hk).cell, nC_zero _ k k hk0 (Nat.le_refl _)]
        have hfree := (R7.out.kept hk).free k
        have A2 := Lib.hid (R2.out.kept hk)
        have A4 := Lib.hid (R4.out.kept hk)
        have A7 := Lib.hid (R7.out.kept hk)
        have A0 := Lib.hid (G0.out.trans hk)
        clear R2 R4 R7 G0 hk
        go_wp2_with fail
        go_roundw
        case rel =>
          refine ⟨k + 1, by omega, by go_num, Lib.hid (A2.out.other _ _ (show w.heap.size ≠ w.heap.size + 1 + 1 by omega)), Lib.hid (A4.out.other _ _ (show w.heap.size + 1 ≠ w.heap.size + 1 + 1 by omega)), Lib.hid ?_, Lib.hid (A0.out.setCell (show w.heap.size ≤ w.heap.size + 1 + 1 by omega) _)⟩
          rw [← nC_step (shr256 N n) k _ rfl]
          exact A7.out.set k _
        case measure => simp [intOf]; omega
    · have hdk : decide ((k : Int) < 4) = false := by simp; omega
      have R7' : Hid (Rowz wr (w.heap.size + 1 + 1) (nC (shr256 N n) 4) 38) := by rw [show k = 4 by omega] at R7; exact R7
      go_wp2_with (first
        | (refine wpList_load_row rfl 38 _ rfl (w.heap.size + 1 + 1) rfl 38 (nC (shr256 N n) 4) (0, 0) _ R7'.out Try.underlying38 rfl (infoN _ _) ?_)
        | (refine wpList_store_row rfl 38 _ _ rfl (w.heap.size + 1) (nC (shr256 N n) 4) rfl rfl 38 (nC 0 0) R4.out (infoN _ _) (by simp [nC_size]) (nC_one _ _) ?_))
      refine bodyPost_ret (v := .agg (nC (shr256 N n) 4)) (results_cell_row Try.results19 _ _ (w.heap.size + 1) 38 _ (0, 0) _ rfl R4.out.row Try.underlying38 rfl (infoN _ _)) rfl ⟨rfl, ?_⟩
      exact G0.out.setRow (by omega) _

set_option maxRecDepth 100000 in
set_option maxHeartbeats 2000000 in
theorem wideShr_neg (N : Nat) (n : Int) (w : World) (hN : N < 2 ^ 256) (h1 : n < 0) :
    Calls Try.prog 19 #[.agg (nC N 4), .int .i64 n] w fun e w' => e = .returned (.agg (nC (shr256 N n) 4)) ∧ Kept w w' := by
  have HN := Lib.hid hN
  have HE : Hid (shr256 N n = N) := Lib.hid (by unfold shr256; rw [show n.toNat = 0 by omega]; simp)
  clear hN
  go_enter Try.func19, Try.ntmps19
  go_wp2
  go_loopw [15] (fun i wr => ∃ (k : Nat), k ≤ 4 ∧ i = .int .i64 (k : Int) ∧ Hid (Rowz wr w.heap.size (nC N 4) 38) ∧ Hid (Rowz wr (w.heap.size + 1) (nC 0 0) 38) ∧ Hid (Rowz wr (w.heap.size + 1 + 1) (nC (shr256 N n) k) 38) ∧ Hid (Kept w wr)) (fun i _ => 4 - (intOf i).toNat)
  case atStart =>
    have R := Rowz.new w (nC N 4) 38
    have R1 := Rowz.new (w.alloc (.cells (nC N 4) 38)) (nC 0 0) 38
    have R2 := Rowz.new ((w.alloc (.cells (nC N 4) 38)).alloc (.cells (nC 0 0) 38)) (nC (shr256 N n) 0) 38
    have e1 : (w.alloc (.cells (nC N 4) 38)).heap.size = w.heap.size + 1 := by simp
    have e2 : ((w.alloc (.cells (nC N 4) 38)).alloc (.cells (nC 0 0) 38)).heap.size = w.heap.size + 1 + 1 := by simp
    rw [e1] at R1
    rw [e2] at R2
    exact ⟨0, by omega, rfl, Lib.hid ((R.alloc _).alloc _), Lib.hid (R1.alloc _), Lib.hid R2, Lib.hid ((((Kept.refl w).alloc _).alloc _).alloc _)⟩
  case round =>
    obtain ⟨k, hk4, rfl, R2, R4, R7, G0⟩ := hrel
    by_cases hk0 : k < 4
    · have hdk : decide ((k : Int) < 4) = true := by simp; omega
      have hki : (k : Int) < 4 := by omega
      have m1 := lmb_lt N k
      have m2 := lmb_lt N (k + 1)
      have w30 : IntKind.i64.wrap ((k : Int) + 1) = (k : Int) + 1 := IntWalk.i64_in _ (by omega)
      have HV : Hid (bits .or .u64 (lmb N k : Int) 0 = ((lmb (shr256 N n) k : Nat) : Int)) := Lib.hid (by rw [HE.out]; have := u64_or_nat (lmb N k) 0 (lmb_lt _ _) (by decide); simpa using this)
      go_wp2_with fail
      clear hdk
      refine wp_region_tail 18 [(18, .is (.int .i64 (k : Int))), (19, .is (.agg (nC N 4))), (20, .is (.int .i64 (k : Int))), (21, .is (.int .i64 0)), (22, .is (.int .i64 (k : Int))), (23, .is (.int .u64 ((lmb N k : Nat) : Int))), (24, .is (.int .i64 0)), (25, .is (.int .u64 ((lmb N k : Nat) : Int))), (26, .is (.agg (nC N 4))), (27, .is (.int .i64 (k : Int))), (28, .is (.int .i64 0)), (29, .is (.int .i64 (k : Int))), (30, .is (.int .i64 ((k + 1 : Nat) : Int))), (31, .is (.int .u64 ((lmb N (k + 1) : Nat) : Int))), (32, .is (.int .i64 0)), (33, .is (.int .i64 64)), (34, .is (.int .u64 0)), (35, .is (.int .u64 ((lmb (shr256 N n) k : Nat) : Int)))] (by kernel_rfl) (by kernel_rfl) ?_ ?_
      · refine ⟨fun t w1 hf hk hp => ?_, ?_⟩
        · have h8 : slot t 8 = .int .i64 (k : Int) := hf 8 (by kernel_rfl)
          clear hf hp
          refine stepM_at (by kernel_rfl) ?_
          refine stepAt_plain rfl ?_
          exact stepOK_move _ (.inl rfl) h8
        refine ⟨fun t w1 hf hk hp => ?_, ?_⟩
        · have h2 : slot t 2 = .pointer (some ⟨w.heap.size, 0, none⟩) := hf 2 (by kernel_rfl)
          clear hf hp
          refine stepM_at (by kernel_rfl) ?_
          refine stepAt_plain rfl ?_
          have hq0 := Rowz.load (R2.out.kept hk) 4 36 Try.underlying38 (infoN _ _)
          exact stepOK_sem (.agg (nC N 4)) (by simp only [execOp, evS, h2]) hq0 rfl
        refine ⟨fun t w1 hf hk hp => ?_, ?_⟩
        · have h8 : slot t 8 = .int .i64 (k : Int) := hf 8 (by kernel_rfl)
          clear hf hp
          refine stepM_at (by kernel_rfl) ?_
          refine stepAt_plain rfl ?_
          exact stepOK_move _ (.inl rfl) h8
        refine ⟨fun t w1 hf hk hp => ?_, ?_⟩
        · have h5 : slot t 5 = .int .i64 0 := hf 5 (by kernel_rfl)
          clear hf hp
          refine stepM_at (by kernel_rfl) ?_
          refine stepAt_plain rfl ?_
          exact stepOK_move _ (.inl rfl) h5
        refine ⟨fun t w1 hf hk hp => ?_, ?_⟩
        · have h20 : slot t 20 = .int .i64 (k : Int) := hp 20 (by kernel_rfl)
          have h21 : slot t 21 = .int .i64 0 := hp 21 (by kernel_rfl)
          clear hf hp
          refine stepM_at (by kernel_rfl) ?_
          refine stepAt_plain rfl ?_
          refine stepOK_pure (.int .i64 (k : Int)) ?_ rfl
          simp only [execOp, evS, h20, h21]
          go_simp
          exact IntWalk.i64_in _ (by omega)
        refine ⟨fun t w1 hf hk hp => ?_, ?_⟩
        · have h19 : slot t 19 = .agg (nC N 4) := hp 19 (by kernel_rfl)
          have h22 : slot t 22 = .int .i64 (k : Int) := hp 22 (by kernel_rfl)
          clear hf hp
          refine stepM_at (by kernel_rfl) ?_
          refine stepAt_plain rfl ?_
          refine stepOK_call #[.agg (nC N 4), .int .i64 (k : Int)] rfl (by simp only [List.map_toArray, List.map_cons, List.map_nil, evS, h19, h22]) (by go_simp) ((limbOf_any N k w1 HN.out (by omega)).mono fun e w' ⟨he, hk'⟩ => ⟨_, he, Grown.kept hk', rfl⟩)
        refine ⟨fun t w1 hf hk hp => ?_, ?_⟩
        · have h6 : slot t 6 = .int .i64 0 := hf 6 (by kernel_rfl)
          clear hf hp
          refine stepM_at (by kernel_rfl) ?_
          refine stepAt_plain rfl ?_
          exact stepOK_move _ (.inl rfl) h6
        refine ⟨fun t w1 hf hk hp => ?_, ?_⟩
        · have h23 : slot t 23 = .int .u64 ((lmb N k : Nat) : Int) := hp 23 (by kernel_rfl)
          have h24 : slot t 24 = .int .i64 0 := hp 24 (by kernel_rfl)
          clear hf hp
          refine stepM_at (by kernel_rfl) ?_
          refine stepAt_plain rfl ?_
          refine stepOK_pure (.int .u64 ((lmb N k : Nat) : Int)) ?_ rfl
          simp only [execOp, evS, h23, h24]
          go_simp
        refine ⟨fun t w1 hf hk hp => ?_, ?_⟩
        · have h2 : slot t 2 = .pointer (some ⟨w.heap.size, 0, none⟩) := hf 2 (by kernel_rfl)
          clear hf hp
          refine stepM_at (by kernel_rfl) ?_
          refine stepAt_plain rfl ?_
          have hq0 := Rowz.load (R2.out.kept hk) 4 36 Try.underlying38 (infoN _ _)
          exact stepOK_sem (.agg (nC N 4)) (by simp only [execOp, evS, h2]) hq0 rfl
        refine ⟨fun t w1 hf hk hp => ?_, ?_⟩
        · have h8 : slot t 8 = .int .i64 (k : Int) := hf 8 (by kernel_rfl)
          clear hf hp
          refine stepM_at (by kernel_rfl) ?_
          refine stepAt_plain rfl ?_
          exact stepOK_move _ (.inl rfl) h8
        refine ⟨fun t w1 hf hk hp => ?_, ?_⟩
        · have h5 : slot t 5 = .int .i64 0 := hf 5 (by kernel_rfl)
          clear hf hp
          refine stepM_at (by kernel_rfl) ?_
          refine stepAt_plain rfl ?_
          exact stepOK_move _ (.inl rfl) h5
        refine ⟨fun t w1 hf hk hp => ?_, ?_⟩
        · have h27 : slot t 27 = .int .i64 (k : Int) := hp 27 (by kernel_rfl)
          have h28 : slot t 28 = .int .i64 0 := hp 28 (by kernel_rfl)
          clear hf hp
          refine stepM_at (by kernel_rfl) ?_
          refine stepAt_plain rfl ?_
          refine stepOK_pure (.int .i64 (k : Int)) ?_ rfl
          simp only [execOp, evS, h27, h28]
          go_simp
          exact IntWalk.i64_in _ (by omega)
        refine ⟨fun t w1 hf hk hp => ?_, ?_⟩
        · have h29 : slot t 29 = .int .i64 (k : Int) := hp 29 (by kernel_rfl)
          clear hf hp
          refine stepM_at (by kernel_rfl) ?_
          refine stepAt_plain rfl ?_
          refine stepOK_pure (.int .i64 ((k + 1 : Nat) : Int)) ?_ rfl
          simp only [execOp, evS, h29]
          go_simp
        refine ⟨fun t w1 hf hk hp => ?_, ?_⟩
        · have h26 : slot t 26 = .agg (nC N 4) := hp 26 (by kernel_rfl)
          have h30 : slot t 30 = .int .i64 ((k + 1 : Nat) : Int) := hp 30 (by kernel_rfl)
          clear hf hp
          refine stepM_at (by kernel_rfl) ?_
          refine stepAt_plain rfl ?_
          refine stepOK_call #[.agg (nC N 4), .int .i64 ((k + 1 : Nat) : Int)] rfl (by simp only [List.map_toArray, List.map_cons, List.map_nil, evS, h26, h30]) (by go_simp) ((limbOf_any N (k + 1) w1 HN.out (by omega)).mono fun e w' ⟨he, hk'⟩ => ⟨_, he, Grown.kept hk', rfl⟩)
        refine ⟨fun t w1 hf hk hp => ?_, ?_⟩
        · have h6 : slot t 6 = .int .i64 0 := hf 6 (by kernel_rfl)
          clear hf hp
          refine stepM_at (by kernel_rfl) ?_
          refine stepAt_plain rfl ?_
          exact stepOK_move _ (.inl rfl) h6
        refine ⟨fun t w1 hf hk hp => ?_, ?_⟩
        · have h32 : slot t 32 = .int .i64 0 := hp 32 (by kernel_rfl)
          clear hf hp
          refine stepM_at (by kernel_rfl) ?_
          refine stepAt_plain rfl ?_
          refine stepOK_pure (.int .i64 64) ?_ rfl
          simp only [execOp, evS, h32]
          go_simp
          rfl
        refine ⟨fun t w1 hf hk hp => ?_, ?_⟩
        · have h31 : slot t 31 = .int .u64 ((lmb N (k + 1) : Nat) : Int) := hp 31 (by kernel_rfl)
          have h33 : slot t 33 = .int .i64 64 := hp 33 (by kernel_rfl)
          clear hf hp
          refine stepM_at (by kernel_rfl) ?_
          refine stepAt_plain rfl ?_
          refine stepOK_pure (.int .u64 0) ?_ rfl
          simp only [execOp, evS, h31, h33]
          go_simp
          exact shl64_none _
        refine ⟨fun t w1 hf hk hp => ?_, ?_⟩
        · have h25 : slot t 25 = .int .u64 ((lmb N k : Nat) : Int) := hp 25 (by kernel_rfl)
          have h34 : slot t 34 = .int .u64 0 := hp 34 (by kernel_rfl)
          clear hf hp
          refine stepM_at (by kernel_rfl) ?_
          refine stepAt_plain rfl ?_
          refine stepOK_pure (.int .u64 ((lmb (shr256 N n) k : Nat) : Int)) ?_ rfl
          simp only [execOp, evS, h25, h34]
          go_simp
          exact HV.out
        exact trivial
      · intro t w1 hsz hf hk hfacts
        have h18 : slot t 18 = .int .i64 (k : Int) := hfacts 0 _ (by decide) rfl 18 rfl
        have h35 : slot t 35 = .int .u64 ((lmb (shr256 N n) k : Nat) : Int) := hfacts 17 _ (by decide) rfl 35 rfl
        have h2 : slot t 2 = .pointer (some ⟨w.heap.size, 0, none⟩) := hf 2 (by kernel_rfl)
        have h5 : slot t 5 = .int .i64 0 := hf 5 (by kernel_rfl)
        have h6 : slot t 6 = .int .i64 0 := hf 6 (by kernel_rfl)
        have h7 : slot t 7 = .pointer (some ⟨w.heap.size + 1 + 1, 0, none⟩) := hf 7 (by kernel_rfl)
        have h8 : slot t 8 = .int .i64 (k : Int) := hf 8 (by kernel_rfl)
        have h0 := hf 0 (by kernel_rfl)
        conv at h0 => rhs; whnf
        try change slot t 0 = undef at h0
        have h1 := hf 1 (by kernel_rfl)
        conv at h1 => rhs; whnf
        try change slot t 1 = undef at h1
        have h3 := hf 3 (by kernel_rfl)
        conv at h3 => rhs; whnf
        try change slot t 3 = undef at h3
        have h4 := hf 4 (by kernel_rfl)
        conv at h4 => rhs; whnf
        try change slot t 4 = undef at h4
        have h9 := hf 9 (by kernel_rfl)
        conv at h9 => rhs; whnf
        try change slot t 9 = undef at h9
        have h10 := hf 10 (by kernel_rfl)
        conv at h10 => rhs; whnf
        try change slot t 10 = undef at h10
        have h11 := hf 11 (by kernel_rfl)
        conv at h11 => rhs; whnf
        try change slot t 11 = undef at h11
        have h12 := hf 12 (by kernel_rfl)
        conv at h12 => rhs; whnf
        try change slot t 12 = undef at h12
        have h13 := hf 13 (by kernel_rfl)
        conv at h13 => rhs; whnf
        try change slot t 13 = undef at h13
        have h14 := hf 14 (by kernel_rfl)
        conv at h14 => rhs; whnf
        try change slot t 14 = undef at h14
        have h15 := hf 15 (by kernel_rfl)
        conv at h15 => rhs; whnf
        try change slot t 15 = undef at h15
        have h16 := hf 16 (by kernel_rfl)
        conv at h16 => rhs; whnf
        try change slot t 16 = undef at h16
        have h17 := hf 17 (by kernel_rfl)
        conv at h17 => rhs; whnf
        try change slot t 17 = undef at h17
        have h36 := hf 36 (by kernel_rfl)
        conv at h36 => rhs; whnf
        try change slot t 36 = undef at h36
        have h37 := hf 37 (by kernel_rfl)
        conv at h37 => rhs; whnf
        try change slot t 37 = undef at h37
        have h38 := hf 38 (by kernel_rfl)
        conv at h38 => rhs; whnf
        try change slot t 38 = undef at h38
        have harr : t = #[slot t 0, slot t 1, slot t 2, slot t 3, slot t 4, slot t 5, slot t 6, slot t 7, slot t 8, slot t 9, slot t 10, slot t 11, slot t 12, slot t 13, slot t 14, slot t 15, slot t 16, slot t 17, slot t 18, slot t 19, slot t 20, slot t 21, slot t 22, slot t 23, slot t 24, slot t 25, slot t 26, slot t 27, slot t 28, slot t 29, slot t 30, slot t 31, slot t 32, slot t 33, slot t 34, slot t 35, slot t 36, slot t 37, slot t 38] := arr_eq t 39 hsz
        rw [harr, h18, h35, h2, h5, h6, h7, h8, h0, h1, h3, h4, h9, h10, h11, h12, h13, h14, h15, h16, h17, h36, h37, h38]
        clear harr hfacts hf h18 h35 h2 h5 h6 h7 h8 h0 h1 h3 h4 h9 h10 h11 h12 h13 h14 h15 h16 h17 h36 h37 h38
        generalize slot t 19 = x19; generalize slot t 20 = x20; generalize slot t 21 = x21; generalize slot t 22 = x22; generalize slot t 23 = x23; generalize slot t 24 = x24; generalize slot t 25 = x25; generalize slot t 26 = x26; generalize slot t 27 = x27; generalize slot t 28 = x28; generalize slot t 29 = x29; generalize slot t 30 = x30
        generalize slot t 31 = x31; generalize slot t 32 = x32; generalize slot t 33 = x33; generalize slot t 34 = x34
        clear hsz t
        simp only [List.drop_succ_cons, List.drop_zero]
        have hcell : w1.cell? ⟨w.heap.size + 1 + 1, k, none⟩ = some (.int .u64 0) := by rw [(R7.out.kept hk).cell, nC_zero _ k k hk0 (Nat.le_refl _)]
        have hfree := (R7.out.kept hk).free k
        have A2 := Lib.hid (R2.out.kept hk)
        have A4 := Lib.hid (R4.out.kept hk)
        have A7 := Lib.hid (R7.out.kept hk)
        have A0 := Lib.hid (G0.out.trans hk)
        clear R2 R4 R7 G0 hk
        go_wp2_with fail
        go_roundw
        case rel =>
          refine ⟨k + 1, by omega, by go_num, Lib.hid (A2.out.other _ _ (show w.heap.size ≠ w.heap.size + 1 + 1 by omega)), Lib.hid (A4.out.other _ _ (show w.heap.size + 1 ≠ w.heap.size + 1 + 1 by omega)), Lib.hid ?_, Lib.hid (A0.out.setCell (show w.heap.size ≤ w.heap.size + 1 + 1 by omega) _)⟩
          rw [← nC_step (shr256 N n) k _ rfl]
          exact A7.out.set k _
        case measure => simp [intOf]; omega
    · have hdk : decide ((k : Int) < 4) = false := by simp; omega
      have R7' : Hid (Rowz wr (w.heap.size + 1 + 1) (nC (shr256 N n) 4) 38) := by rw [show k = 4 by omega] at R7; exact R7
      go_wp2_with (first
        | (refine wpList_load_row rfl 38 _ rfl (w.heap.size + 1 + 1) rfl 38 (nC (shr256 N n) 4) (0, 0) _ R7'.out Try.underlying38 rfl (infoN _ _) ?_)
        | (refine wpList_store_row rfl 38 _ _ rfl (w.heap.size + 1) (nC (shr256 N n) 4) rfl rfl 38 (nC 0 0) R4.out (infoN _ _) (by simp [nC_size]) (nC_one _ _) ?_))
      refine bodyPost_ret (v := .agg (nC (shr256 N n) 4)) (results_cell_row Try.results19 _ _ (w.heap.size + 1) 38 _ (0, 0) _ rfl R4.out.row Try.underlying38 rfl (infoN _ _)) rfl ⟨rfl, ?_⟩
      exact G0.out.setRow (by omega) _

theorem wideShr_any (N : Nat) (n : Int) (w : World) (hN : N < 2 ^ 256) (h2 : n ≤ 9223372036854775807) :
    Calls Try.prog 19 #[.agg (nC N 4), .int .i64 n] w fun e w' => e = .returned (.agg (nC (shr256 N n) 4)) ∧ Kept w w' := by
  rcases (by omega : n < 0 ∨ 0 ≤ n) with h | h
  · exact wideShr_neg N n w hN h
  · exact wideShr_pos N n w hN h h2
end Go.Proofs.Ytediednghflefaa
