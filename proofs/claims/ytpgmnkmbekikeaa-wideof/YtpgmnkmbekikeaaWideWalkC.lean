/-
  milepostlaw04's full and awake; equality of numbers.
-/
import Derived.Test.YtpgmnkmbekikeaaWideWalkB
import Derived.Test.YtpgmnkmbekikeaaEqHash
namespace Go.Proofs.Ytpgmnkmbekikeaa
open Go.RowKit

theorem nC_iC (N : Nat) : nC N 4 = iC .u64 4 (fun i => ((lmb N i : Nat) : Int)) := by
  unfold nC iC
  congr 1
theorem all_limbs (A B : Nat) (hA : A < 2 ^ 256) (hB : B < 2 ^ 256) : ((List.range 4).all fun i => ((lmb A i : Nat) : Int) == ((lmb B i : Nat) : Int)) = decide (A = B) := by
  by_cases h : A = B
  · subst h; simp
  · rw [decide_eq_false h]
    apply Bool.eq_false_iff.2
    intro hall
    apply h
    apply lmb_inj A B hA hB
    intro i hi
    have := List.all_eq_true.1 hall i (by simpa using hi)
    simp only [beq_iff_eq] at this
    omega
theorem sameN (A B : Nat) (hA : A < 2 ^ 256) (hB : B < 2 ^ 256) (w : World) : (Op.equalIn 10000 26 (.agg (nC A 4)) (.agg (nC B 4))).run Try.prog w = .ok (decide (A = B)) w := by
  rw [nC_iC, nC_iC, ← all_limbs A B hA hB]
  exact run_equalIn_ints w _ 26 24 4 .u64 Try.underlying26 Try.underlying24 (fun _ => by kernel_rfl) _ _
theorem guardN : Try.prog.eqGuardType Try.prog.depth 26 = false := by kernel_rfl

/-- Equality of hashes and of numbers, as an operation. -/
theorem execEqH {o : Oper} {t : Array Value} {x y : Operand} (l : List UInt8) (hl : l.length = 32) (w : World) (ho : o.op = .binOp .eql 23 x y 23) (hx : evS t x = .agg (bC 32 l)) (hy : evS t y = .agg (bC 32 l)) :
    (execOp (evS t) o).run Try.prog w = .ok (.value (.bool true)) w := by
  have hq0 := sameH1 l hl w
  have hq1 := guardH
  unfold execOp
  rw [ho]
  simp only [hx, hy]
  go_simp
theorem execEqN {o : Oper} {t : Array Value} {x y : Operand} (A B : Nat) (hA : A < 2 ^ 256) (hB : B < 2 ^ 256) (w : World) (ho : o.op = .binOp .eql 26 x y 26) (hx : evS t x = .agg (nC A 4)) (hy : evS t y = .agg (nC B 4)) :
    (execOp (evS t) o).run Try.prog w = .ok (.value (.bool (decide (A = B)))) w := by
  have hq0 := sameN A B hA hB w
  have hq1 := guardN
  unfold execOp
  rw [ho]
  simp only [hx, hy]
  go_simp

def fullN : Nat := 2 ^ 256 - 1
theorem fullN_lt : fullN < 2 ^ 256 := by decide
theorem full_bytes : List.replicate 32 (255 : UInt8) = be 32 fullN := by decide +kernel

set_option maxRecDepth 100000 in
set_option maxHeartbeats 800000 in
theorem full_any (w : World) : Calls Try.prog 25 #[] w fun e w' => e = .returned (.agg (bC 32 (be 32 fullN))) ∧ Grown w w' := by
  go_enter Try.func25, Try.ntmps25
  go_wp2
  go_loopw [2] (fun i wr => ∃ (k : Nat), k ≤ 32 ∧ i = .int .i64 (k : Int) ∧ Hid (Rowz wr (w.heap.size + 1) (bC 32 (List.replicate k 255)) 23) ∧ Hid (Rowz wr w.heap.size (bC 32 []) 23) ∧ Hid (Grown w wr)) (fun i _ => 32 - (intOf i).toNat)
  case atStart =>
    exact ⟨0, by omega, rfl, Lib.hid (Rowz.newEq1 w _ _ _ _ (by kernel_rfl)), Lib.hid ((Rowz.newEq w _ _ _ (by kernel_rfl)).alloc _), Lib.hid (((Grown.refl w).alloc _ _).alloc _ _)⟩
  case round =>
    obtain ⟨k, hk4, rfl, R1, R0, G0⟩ := hrel
    by_cases hk : k < 32
    · have hdk : decide ((k : Int) < 32) = true := by simp; omega
      have hcell : wr.cell? ⟨w.heap.size + 1, k, none⟩ = some (.int .u8 0) := by
        rw [R1.out.byte k hk, List.getD_eq_getElem?_getD, List.getElem?_eq_none (by simp)]; rfl
      have hfree := R1.out.free k
      go_wp2
      go_roundw
      case rel =>
        refine ⟨k + 1, by omega, by go_num, Lib.hid ?_, Lib.hid (R0.out.other _ _ (by simp)), Lib.hid (G0.out.setCell (by simp) _)⟩
        rw [List.replicate_succ']
        exact R1.out.pushB k (by simp) _ 255 rfl
      case measure => simp [intOf]; omega
    · have hdk : decide ((k : Int) < 32) = false := by simp; omega
      have R1' : Hid (Rowz wr (w.heap.size + 1) (bC 32 (be 32 fullN)) 23) := by rw [show k = 32 by omega, full_bytes] at R1; exact R1
      go_wp2_with (first
        | (refine wpList_load_row rfl 23 _ rfl (w.heap.size + 1) rfl 23 (bC 32 (be 32 fullN)) (0, 0) _ R1'.out Try.underlying23 rfl (infoH _) ?_)
        | (refine wpList_store_row rfl 23 _ _ rfl w.heap.size (bC 32 (be 32 fullN)) rfl rfl 23 (bC 32 []) R0.out (infoH _) (by simp [bC_size]) (bC_one _ _) ?_))
      refine bodyPost_ret (v := .agg (bC 32 (be 32 fullN))) (results_cell_row Try.results25 _ _ w.heap.size 23 _ (0, 0) _ rfl R0.out.row Try.underlying23 rfl (infoH _)) rfl ⟨rfl, ?_⟩
      exact Grown.setRow G0.out R0.out (by omega) _

end Go.Proofs.Ytpgmnkmbekikeaa
