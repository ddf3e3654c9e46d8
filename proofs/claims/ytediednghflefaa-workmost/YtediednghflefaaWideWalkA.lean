/-
  Contracts of package wide: limbAt, Of, limbOf, Cmp, Len. A number is its cells nC N 4.
-/
import Derived.Test.YtediednghflefaaBas
import Derived.Test.YtediednghflefaaWideMath
import Derived.Deep.QuietTactic
import Derived.BigQuiet
namespace Go.Proofs.Ytediednghflefaa
set_option maxRecDepth 4000
open Go.RowKit

theorem infoH (l : List UInt8) : (Try.prog.info? 23).map (·.size) = some (bC 32 l).size := by rw [bC_size]; kernel_rfl
theorem infoN (N k : Nat) : (Try.prog.info? 38).map (·.size) = some (nC N k).size := by rw [nC_size]; kernel_rfl

theorem limbAt_any (k : Nat) (w : World) (hk : k < 4) :
    Calls Try.prog 22 #[.int .i64 (k : Int)] w fun e w' => e = .returned (.int .i64 ((8 * (3 - k) : Nat) : Int)) ∧ w = w' := by
  have h : k = 0 ∨ k = 1 ∨ k = 2 ∨ k = 3 := by omega
  rcases h with rfl | rfl | rfl | rfl <;> (go_enter Try.func22, Try.ntmps22; go_wp2; go_ret; exact ⟨rfl, rfl⟩)

set_option maxRecDepth 100000 in
set_option maxHeartbeats 2000000 in
theorem wideOf_any (N : Nat) (w : World) :
    Calls Try.prog 16 #[.agg (bC 32 (be 32 N))] w fun e w' => e = .returned (.agg (nC N 4)) ∧ Grown w w' := by
  have hcv : ∀ o : Obj, (convert 44 9 (.slice (some ⟨w.heap.size, 0, none⟩) 32 32)).run Try.prog ((w.alloc (.cells (bC 32 (be 32 N)) 23)).alloc o) = .ok (.string (beS 32 N)) ((w.alloc (.cells (bC 32 (be 32 N)) 23)).alloc o) := fun o => by
    have hr := (Rowz.new w (bC 32 (be 32 N)) 23).alloc o
    have h := run_strB ((w.alloc (.cells (bC 32 (be 32 N)) 23)).alloc o) w.heap.size 0 32 (be 32 N) (fun j hj => by
      have hj' : j < 32 := by rw [be_length] at hj; exact hj
      rw [Nat.zero_add, hr.byte j hj', List.getD_eq_getElem?_getD, List.getElem?_eq_getElem hj]; rfl)
    rw [be_length] at h
    exact h
  go_enter Try.func16, Try.ntmps16
  go_wp2
  clear hcv
  go_loopw [8] (fun i wr => ∃ (k : Nat), k ≤ 4 ∧ i = .int .i64 (k : Int) ∧ Hid (Rowz wr (w.heap.size + 1 + 1) (nC N k) 38) ∧ Hid (Rowz wr (w.heap.size + 1) (nC N 0) 38) ∧ Hid (Grown w wr)) (fun i _ => 4 - (intOf i).toNat)
  case atStart =>
    refine ⟨0, by omega, rfl, Lib.hid ?_, Lib.hid ((Rowz.newEq1 w _ _ _ _ (by kernel_rfl)).alloc _), Lib.hid ((((Grown.refl w).alloc _ _).alloc _ _).alloc _ _)⟩
    have h := Rowz.newEq1 (w.alloc (.cells (bC 32 (be 32 N)) 23)) (.cells (nC N 0) 38) (.cells (nC N 0) 38) (nC N 0) 38 rfl
    have e : (w.alloc (.cells (bC 32 (be 32 N)) 23)).heap.size = w.heap.size + 1 := by simp
    rw [e] at h
    exact h
  case round =>
    obtain ⟨k, hk4, rfl, R4, R2, G0⟩ := hrel
    by_cases hk : k < 4
    · have hdk : decide ((k : Int) < 4) = true := by simp; omega
      have hs : (beS 32 N).size ≤ maxLen := by rw [beS_size]; decide
      have hcell : wr.cell? ⟨w.heap.size + 1 + 1, k, none⟩ = some (.int .u64 0) := by rw [R4.out.cell, nC_zero N k k hk (Nat.le_refl _)]
      have hfree := R4.out.free k
      have htk := take_limb N k hk
      have hml := lmb_lt N k
      have HLA := Lib.hid fun w' => limbAt_any k w' hk
      obtain ⟨p, hp⟩ : ∃ p, p = 8 * (3 - k) := ⟨_, rfl⟩
      simp only [← hp] at htk HLA
      have HTK := Lib.hid fun w' => take64_any (beS 32 N) (p : Int) w' hs (by omega) (by omega)
      rw [htk] at HTK
      clear hp htk hs
      go_wp2_with (first
        | (go_at_call 22; refine (HLA.out _).mono ?_; rintro e w' ⟨rfl, rfl⟩)
        | (go_at_call 21; refine (HTK.out _).mono ?_; rintro e w' ⟨rfl, rfl⟩))
      go_roundw
      case rel =>
        refine ⟨k + 1, by omega, by go_num, Lib.hid ?_, Lib.hid (R2.out.other _ _ (by simp)), Lib.hid (G0.out.setCell (by simp; omega) _)⟩
        rw [← nC_step N k _ rfl]
        exact R4.out.set k _
      case measure => simp [intOf]; omega
    · have hdk : decide ((k : Int) < 4) = false := by simp; omega
      have R4' : Hid (Rowz wr (w.heap.size + 1 + 1) (nC N 4) 38) := by rw [show k = 4 by omega] at R4; exact R4
      go_wp2_with (first
        | (refine wpList_load_row rfl 38 _ rfl (w.heap.size + 1 + 1) rfl 38 (nC N 4) (0, 0) _ R4'.out Try.underlying38 rfl (infoN _ _) ?_)
        | (refine wpList_store_row rfl 38 _ _ rfl (w.heap.size + 1) (nC N 4) rfl rfl 38 (nC N 0) R2.out (infoN _ _) (by simp [nC_size]) (nC_one _ _) ?_))
      refine bodyPost_ret (v := .agg (nC N 4)) (results_cell_row Try.results16 _ _ (w.heap.size + 1) 38 _ (0, 0) _ rfl R2.out.row Try.underlying38 rfl (infoN _ _)) rfl ⟨rfl, ?_⟩
      exact Grown.setRow G0.out R2.out (by omega) _

set_option maxHeartbeats 400000 in
theorem limbOf_any (N : Nat) (i : Nat) (w : World) (hN : N < 2 ^ 256) (hi : i ≤ 9223372036854775807) :
    Calls Try.prog 24 #[.agg (nC N 4), .int .i64 (i : Int)] w fun e w' => e = .returned (.int .u64 ((lmb N i : Nat) : Int)) ∧ Grown w w' := by
  by_cases h4 : 4 ≤ i
  · have hz := lmb_high N i hN h4
    have hd : decide ((4 : Int) ≤ (i : Int)) = true := by simp; omega
    clear hN
    go_enter Try.func24, Try.ntmps24
    go_wp2
    go_ret
    rw [hz]
    exact ⟨rfl, (Grown.refl _).alloc _ _⟩
  · have hd : decide ((4 : Int) ≤ (i : Int)) = false := by simp; omega
    have hi4 : i < 4 := by omega
    have hcell : (w.alloc (.cells (nC N 4) 38)).cell? ⟨w.heap.size, i, none⟩ = some (.int .u64 ((lmb N i : Nat) : Int)) := by
      rw [(Rowz.new w (nC N 4) 38).cell, nC_get N 4 i hi4 hi4]
    clear hN
    go_enter Try.func24, Try.ntmps24
    go_wp2
    go_ret
    exact ⟨rfl, (Grown.refl _).alloc _ _⟩

set_option maxHeartbeats 800000 in
theorem wideCmp_any (A B : Nat) (w : World) (hA : A < 2 ^ 256) (hB : B < 2 ^ 256) :
    Calls Try.prog 15 #[.agg (nC A 4), .agg (nC B 4)] w fun e w' => e = .returned (.int .i64 (cmpN A B)) ∧ Grown w w' := by
  have HS : Hid (A / 2 ^ (64 * 4) = B / 2 ^ (64 * 4)) := Lib.hid (by rw [Nat.div_eq_of_lt (by simpa using hA), Nat.div_eq_of_lt (by simpa using hB)])
  clear hA hB
  go_enter Try.func15, Try.ntmps15
  go_wp2
  have R2 : Hid (Rowz ((w.alloc (.cells (nC A 4) 38)).alloc (.cells (nC B 4) 38)) w.heap.size (nC A 4) 38) := Lib.hid ((Rowz.new w _ _).alloc _)
  have R3 : Hid (Rowz ((w.alloc (.cells (nC A 4) 38)).alloc (.cells (nC B 4) 38)) (w.heap.size + 1) (nC B 4) 38) := Lib.hid (Rowz.newEq1 w _ _ _ _ rfl)
  have G0 : Hid (Grown w ((w.alloc (.cells (nC A 4) 38)).alloc (.cells (nC B 4) 38))) := Lib.hid (((Grown.refl w).alloc _ _).alloc _ _)
  generalize (w.alloc (.cells (nC A 4) 38)).alloc (.cells (nC B 4) 38) = v at R2 R3 G0 ⊢
  go_loopw [5] (fun i wr => ∃ (k : Nat), k ≤ 4 ∧ i = .int .i64 ((k : Int) - 1) ∧ Hid (A / 2 ^ (64 * k) = B / 2 ^ (64 * k)) ∧ Hid (Rowz wr w.heap.size (nC A 4) 38) ∧ Hid (Rowz wr (w.heap.size + 1) (nC B 4) 38) ∧ Hid (Grown w wr)) (fun i _ => (intOf i + 1).toNat)
  case atStart => exact ⟨4, by omega, rfl, HS, R2, R3, G0⟩
  case round =>
    clear HS R2 R3 G0
    obtain ⟨k, hk4, rfl, HS, R2, R3, G0⟩ := hrel
    cases k with
    | zero =>
      have hE : A = B := by have := HS.out; simpa using this
      have hc := cmpN_eq hE
      clear hE
      go_wp2
      go_ret
      rw [hc]
      exact ⟨rfl, G0.out⟩
    | succ k =>
      have hk : k < 4 := by omega
      have hdk : decide ((0 : Int) ≤ (k : Int)) = true := by simp
      have e1 : (((k + 1 : Nat) : Int) - 1) = (k : Int) := by omega
      rw [e1]
      have c1 : wr.cell? ⟨w.heap.size, k, none⟩ = some (.int .u64 ((lmb A k : Nat) : Int)) := by rw [R2.out.cell, nC_get A 4 k hk hk]
      have c2 : wr.cell? ⟨w.heap.size + 1, k, none⟩ = some (.int .u64 ((lmb B k : Nat) : Int)) := by rw [R3.out.cell, nC_get B 4 k hk hk]
      have hki : (k : Int) < 4 := by omega
      rcases Nat.lt_trichotomy (lmb A k) (lmb B k) with h | h | h
      · have hL : Hid (cmpN A B = -1) := Lib.hid (cmpN_lt (cmp_less A B k HS.out h))
        have hd1 : decide (lmb A k < lmb B k) = true := decide_eq_true h
        clear h
        go_wp2
        go_quiet (fail)
        go_wp2
        go_ret
        rw [hL.out]
        exact ⟨rfl, G0.out⟩
      · have hS : Hid (A / 2 ^ (64 * k) = B / 2 ^ (64 * k)) := Lib.hid (cmp_same A B k HS.out h)
        rw [h] at c1
        have hd1 : decide (lmb B k < lmb B k) = false := by simp
        clear h
        go_wp2
        go_quiet (fail)
        replace c1 : (wr.drewN nq).cell? ⟨w.heap.size, k, none⟩ = some (.int .u64 ((lmb B k : Nat) : Int)) := c1
        replace c2 : (wr.drewN nq).cell? ⟨w.heap.size + 1, k, none⟩ = some (.int .u64 ((lmb B k : Nat) : Int)) := c2
        replace R2 : Hid (Rowz (wr.drewN nq) w.heap.size (nC A 4) 38) := R2
        replace R3 : Hid (Rowz (wr.drewN nq) (w.heap.size + 1) (nC B 4) 38) := R3
        replace G0 : Hid (Grown w (wr.drewN nq)) := G0
        generalize wr.drewN nq = w2 at c1 c2 R2 R3 G0 ⊢
        go_wp2
        go_quiet (fail)
        go_wp2
        go_roundw
        case rel => exact ⟨k, by omega, by go_num, hS, R2, R3, G0⟩
        case measure => simp [intOf]
      · have hL : Hid (cmpN A B = 1) := Lib.hid (cmpN_gt (cmp_less B A k HS.out.symm h))
        have hd1 : decide (lmb A k < lmb B k) = false := decide_eq_false (by omega)
        have hd2 : decide (lmb B k < lmb A k) = true := decide_eq_true h
        clear h
        go_wp2
        go_quiet (fail)
        replace c1 : (wr.drewN nq).cell? ⟨w.heap.size, k, none⟩ = some (.int .u64 ((lmb A k : Nat) : Int)) := c1
        replace c2 : (wr.drewN nq).cell? ⟨w.heap.size + 1, k, none⟩ = some (.int .u64 ((lmb B k : Nat) : Int)) := c2
        replace G0 : Hid (Grown w (wr.drewN nq)) := G0
        clear R2 R3
        generalize wr.drewN nq = w2 at c1 c2 G0 ⊢
        go_wp2
        go_quiet (fail)
        go_wp2
        go_ret
        rw [hL.out]
        exact ⟨rfl, G0.out⟩

set_option maxHeartbeats 800000 in
theorem wideLen_any (N : Nat) (w : World) (hN : N < 2 ^ 256) :
    Calls Try.prog 23 #[.agg (nC N 4)] w fun e w' => e = .returned (.int .i64 ((bl N : Nat) : Int)) ∧ Grown w w' := by
  have HS : Hid (N / 2 ^ (64 * 4) = 0) := Lib.hid (Nat.div_eq_of_lt (by simpa using hN))
  clear hN
  go_enter Try.func23, Try.ntmps23
  go_wp2
  go_loopw [3] (fun i wr => ∃ (k : Nat), k ≤ 4 ∧ i = .int .i64 ((k : Int) - 1) ∧ Hid (N / 2 ^ (64 * k) = 0) ∧ Hid (Rowz wr w.heap.size (nC N 4) 38) ∧ Hid (Grown w wr)) (fun i _ => (intOf i + 1).toNat)
  case atStart => exact ⟨4, by omega, rfl, HS, Lib.hid (Rowz.new w _ _), Lib.hid ((Grown.refl w).alloc _ _)⟩
  case round =>
    clear HS
    obtain ⟨k, hk4, rfl, HS, R1, G0⟩ := hrel
    cases k with
    | zero =>
      have hE : N = 0 := by have := HS.out; simpa using this
      have hc : bl N = 0 := by rw [hE]; rfl
      clear hE
      go_wp2
      go_ret
      rw [hc]
      exact ⟨rfl, G0.out⟩
    | succ k =>
      have hk : k < 4 := by omega
      have hdk : decide ((0 : Int) ≤ (k : Int)) = true := by simp
      have e1 : (((k + 1 : Nat) : Int) - 1) = (k : Int) := by omega
      rw [e1]
      have c1 : wr.cell? ⟨w.heap.size, k, none⟩ = some (.int .u64 ((lmb N k : Nat) : Int)) := by rw [R1.out.cell, nC_get N 4 k hk hk]
      have hml := lmb_lt N k
      by_cases hz : lmb N k = 0
      · have hS : Hid (N / 2 ^ (64 * k) = 0) := Lib.hid (len_next N k HS.out hz)
        rw [hz] at c1
        clear hz
        go_wp2
        go_roundw
        case rel => exact ⟨k, by omega, by go_num, hS, R1, G0⟩
        case measure => simp [intOf]
      · have hL : Hid (bl N = 64 * k + bl (lmb N k)) := Lib.hid (len_limb N k HS.out hz)
        have hb : bl (lmb N k) ≤ 64 := bl_le _ 64 hml
        obtain ⟨x, hx⟩ : ∃ x, x = lmb N k := ⟨_, rfl⟩
        rw [← hx] at c1 hml hz hL hb
        clear hx
        go_wp2_with (go_at_call 27; refine (lead_any x _ hml).mono ?_; rintro e w' ⟨rfl, rfl⟩)
        go_ret
        refine ⟨ret_int ?_, G0.out⟩
        rw [hL.out]
        omega
end Go.Proofs.Ytediednghflefaa
