/-
  For layer 19's laws: awake of milepostlaw19. No condition.
-/
import Derived.Test.YtediednghflefaaWorkWalk
import Derived.Test.YtediednghflefaaWideWalkC
import Derived.Test.YtediednghflefaaGuardLib
namespace Go.Proofs.Ytediednghflefaa
set_option maxRecDepth 4000
open Go.RowKit

theorem low_bytes : [(1 : UInt8)] ++ List.replicate 31 0 = be 32 (2 ^ 248) := by decide +kernel
theorem pow248_lt : 2 ^ 248 < 2 ^ 256 := by decide
theorem lvl_full0 : lvl 0 fullN = 255 := lvl_eq 0 fullN 256 (by omega) (fun _ _ => Nat.zero_le _) (fun h => absurd h (by omega))
theorem lvl_low : lvl (2 ^ 248) fullN = 7 := by
  refine lvl_eq _ _ 8 (by omega) (fun m hm => ?_) (fun _ => by decide +kernel)
  have : m = 0 ∨ m = 1 ∨ m = 2 ∨ m = 3 ∨ m = 4 ∨ m = 5 ∨ m = 6 ∨ m = 7 := by omega
  rcases this with rfl | rfl | rfl | rfl | rfl | rfl | rfl | rfl <;> decide +kernel
theorem lvl_none : lvl fullN (2 ^ 248) = -1 := lvl_eq _ _ 0 (by omega) (fun m h => absurd h (by omega)) (fun _ => by decide +kernel)
set_option maxRecDepth 100000 in
set_option maxHeartbeats 1000000 in
theorem awake19_any (w : World) : Calls Try.prog 10 #[] w fun e w' => e = .returned (.bool true) ∧ Kept w w' := by
  have L1 : Hid (∀ w, Calls Try.prog 8 #[.agg (bC 32 (be 32 0)), .agg (bC 32 (be 32 fullN))] w fun e w' => e = .returned (.int .i64 255) ∧ Kept w w') := Lib.hid fun w => by
    have := workLevel_any 0 fullN w (by decide) fullN_lt
    rwa [lvl_full0] at this
  have L2 : Hid (∀ w, Calls Try.prog 8 #[.agg (bC 32 (be 32 (2 ^ 248))), .agg (bC 32 (be 32 fullN))] w fun e w' => e = .returned (.int .i64 7) ∧ Kept w w') := Lib.hid fun w => by
    have := workLevel_any (2 ^ 248) fullN w pow248_lt fullN_lt
    rwa [lvl_low] at this
  have L3 : Hid (∀ w, Calls Try.prog 8 #[.agg (bC 32 (be 32 fullN)), .agg (bC 32 (be 32 (2 ^ 248)))] w fun e w' => e = .returned (.int .i64 (-1)) ∧ Kept w w') := Lib.hid fun w => by
    have := workLevel_any fullN (2 ^ 248) w fullN_lt pow248_lt
    rwa [lvl_none] at this
  have hfull := Lib.hid full_bytes
  have hlow := Lib.hid low_bytes
  have HZ : Hid (∀ {o : Oper} {t : Array Value} (w : World), o.op = .build 23 #[] → (execOp (evS t) o).run Try.prog w = .ok (.value (.agg (bC 32 (be 32 0)))) w) := Lib.hid fun w ho => execBuild0h w ho
  generalize be 32 fullN = fl at L1 L2 L3 hfull
  generalize be 32 (2 ^ 248) = ll at L2 L3 hlow
  generalize be 32 0 = zl at L1 HZ
  have R1 := Lib.hid ((Rowz.new w (bC 32 []) 23).alloc (.cells (bC 32 []) 23))
  have R2 := Lib.hid (Rowz.newEq1 w (.cells (bC 32 []) 23) _ (bC 32 []) 23 rfl)
  have K1 := Lib.hid (((Kept.refl w).alloc (.cells (bC 32 []) 23)).alloc (.cells (bC 32 []) 23))
  go_enter Try.func10, Try.ntmps10
  go_wp2_with fail
  generalize hv : (w.alloc (.cells (bC 32 []) 23)).alloc (.cells (bC 32 []) 23) = v1 at R1 R2 K1
  go_loopw [3] (fun i wr => ∃ k : Nat, k ≤ 32 ∧ i = .int .i64 (k : Int) ∧ Hid (Rowz wr w.heap.size (bC 32 (List.replicate k 255)) 23) ∧ Hid (Rowz wr (w.heap.size + 1) (bC 32 []) 23) ∧ Hid (Kept w wr)) (fun i _ => 32 - (intOf i).toNat)
  case atStart => exact ⟨0, by omega, rfl, Lib.hid (by subst hv; exact R1.out), Lib.hid (by subst hv; exact R2.out), Lib.hid (by subst hv; exact K1.out)⟩
  case round =>
    clear R1 R2 K1 hv
    obtain ⟨k, hk, rfl, R1, R2, K1⟩ := hrel
    by_cases hlt : k < 32
    · have hd : decide ((k : Int) < 32) = true := decide_eq_true (by omega)
      have hd' : decide (k < 32) = true := decide_eq_true hlt
      have hcell : wr.cell? ⟨w.heap.size, k, none⟩ = some (.int .u8 0) := by
        rw [R1.out.byte k hlt, List.getD_eq_getElem?_getD, List.getElem?_eq_none (by simp)]; rfl
      have hfree := R1.out.free k
      go_wp2
      go_roundw
      case rel =>
        refine ⟨k + 1, by omega, by go_num, Lib.hid ?_, Lib.hid (R2.out.other _ _ (by simp)), Lib.hid (K1.out.setCell (by simp) _)⟩
        rw [List.replicate_succ']
        exact R1.out.pushB k (by simp) _ 255 rfl
      case measure => simp [intOf]; omega
    · have hd : decide ((k : Int) < 32) = false := decide_eq_false (by omega)
      have hd' : decide (k < 32) = false := decide_eq_false hlt
      obtain rfl : k = 32 := by omega
      rw [hfull.out] at R1
      have hcell : wr.cell? ⟨w.heap.size + 1, 0, none⟩ = some (.int .u8 0) := by rw [R2.out.byte 0 (by omega)]; rfl
      have hfree := R2.out.free 0
      have R2' : Hid (Rowz (wr.setCell ⟨w.heap.size + 1, 0, none⟩ (.int .u8 1)) (w.heap.size + 1) (bC 32 ll) 23) := Lib.hid (by
        have h := R2.out.set 0 (.int .u8 1)
        have e : (bC 32 []).setIfInBounds 0 (.int .u8 1) = bC 32 ll := by rw [← hlow.out]; kernel_rfl
        rwa [e] at h)
      have R1' := Lib.hid (R1.out.other ⟨w.heap.size + 1, 0, none⟩ (.int .u8 1) (by simp))
      have K1' : Hid (Kept w (wr.setCell ⟨w.heap.size + 1, 0, none⟩ (.int .u8 1))) := Lib.hid (K1.out.setCell (by simp) _)
      go_wp2_with (first
        | (refine wpList_exec 11 rfl (by rfl) _ _ (HZ.out _ rfl) ?_)
        | (refine wpList_exec 12 rfl (by rfl) _ _ (loadH19 rfl rfl R1'.out) ?_))
      generalize wr.setCell ⟨w.heap.size + 1, 0, none⟩ (.int .u8 1) = v2 at R1' R2' K1' ⊢
      clear R1 R2 K1 hcell hfree
      refine (L1.out v2).mono ?_
      rintro e v3 ⟨rfl, k3⟩
      have R13 := Lib.hid (R1'.out.kept k3)
      have R23 := Lib.hid (R2'.out.kept k3)
      have K13 := Lib.hid (K1'.out.trans k3)
      clear R1' R2' K1' k3 L1
      go_wp2_with (first
        | (refine wpList_exec 16 rfl (by rfl) _ _ (loadH19 rfl rfl R23.out) ?_)
        | (refine wpList_exec 17 rfl (by rfl) _ _ (loadH19 rfl rfl R13.out) ?_))
      refine (L2.out v3).mono ?_
      rintro e v4 ⟨rfl, k4⟩
      replace R13 := Lib.hid (R13.out.kept k4)
      replace R23 := Lib.hid (R23.out.kept k4)
      replace K13 := Lib.hid (K13.out.trans k4)
      clear k4 L2
      go_wp2_with (first
        | (refine wpList_exec 22 rfl (by rfl) _ _ (loadH19 rfl rfl R13.out) ?_)
        | (refine wpList_exec 23 rfl (by rfl) _ _ (loadH19 rfl rfl R23.out) ?_))
      refine (L3.out v4).mono ?_
      rintro e v5 ⟨rfl, k5⟩
      replace K13 := Lib.hid (K13.out.trans k5)
      clear k5 L3
      go_wp2_with fail
      go_ret
      exact ⟨rfl, K13.out⟩
end Go.Proofs.Ytediednghflefaa
