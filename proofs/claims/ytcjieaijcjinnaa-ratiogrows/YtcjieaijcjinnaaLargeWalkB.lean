/-
  Contracts of package large: Mul, Div (by math/bits.Div64 with a divisor below 2^32), Shl. Conditions: numbers below 2^320.
-/
import Derived.Test.YtcjieaijcjinnaaLargeWalkA
import Derived.Test.YtcjieaijcjinnaaShelf
namespace Go.Proofs.Ytcjieaijcjinnaa
open Go.RowKit

set_option maxRecDepth 100000 in
set_option maxHeartbeats 2000000 in
theorem largeMul_any (A y : Nat) (w : World) (hA : A < 2 ^ 320) (hy : y < 18446744073709551616) :
    Calls Try.prog 19 #[.agg (lC A 5), .int .u64 (y : Int)] w fun e w' => e = .returned (.tuple #[.agg (lC (cut (A * y)) 5), .bool (fit (A * y))]) ∧ Grown w w' := by
  have HO := Lib.hid (over_fit A y hA)
  clear hA
  go_enter Try.func19, Try.ntmps19
  go_wp2
  go_loopw [7, 12] (fun c i wr => ∃ (k : Nat), k ≤ 5 ∧ i = .int .i64 (k : Int) ∧ c = .int .u64 ((overM A y k : Nat) : Int) ∧ Hid (Rowz wr w.heap.size (lC A 5) 24) ∧
      Hid (Rowz wr (w.heap.size + 1) (lC 0 0) 24) ∧ Hid (Rowz wr (w.heap.size + 1 + 1) (lC (A * y) k) 24) ∧ Hid (Grown w wr)) (fun _ i _ => 5 - (intOf i).toNat)
  case atStart =>
    have R := Rowz.new w (lC A 5) 24
    have R1 := Rowz.new (w.alloc (.cells (lC A 5) 24)) (lC 0 0) 24
    have R2 := Rowz.new ((w.alloc (.cells (lC A 5) 24)).alloc (.cells (lC 0 0) 24)) (lC (A * y) 0) 24
    have e1 : (w.alloc (.cells (lC A 5) 24)).heap.size = w.heap.size + 1 := by simp
    have e2 : ((w.alloc (.cells (lC A 5) 24)).alloc (.cells (lC 0 0) 24)).heap.size = w.heap.size + 1 + 1 := by simp
    rw [e1] at R1
    rw [e2] at R2
    exact ⟨0, by omega, rfl, by rw [overM_zero]; rfl, Lib.hid ((R.alloc _).alloc _), Lib.hid (R1.alloc _), Lib.hid R2, Lib.hid ((((Grown.refl w).alloc _ _).alloc _ _).alloc _ _)⟩
  case round =>
    obtain ⟨k, hk4, rfl, rfl, R2, R4, R6, G0⟩ := hrel
    by_cases hk : k < 5
    · have hdk : decide ((k : Int) < 5) = true := by simp; omega
      have hki : (k : Int) < 5 := by omega
      have c1 : wr.cell? ⟨w.heap.size, k, none⟩ = some (.int .u64 ((lmb A k : Nat) : Int)) := by rw [R2.out.cell, lC_get A 5 k hk hk]
      have c3 : wr.cell? ⟨w.heap.size + 1 + 1, k, none⟩ = some (.int .u64 0) := by rw [R6.out.cell, lC_zero _ k k hk (Nat.le_refl _)]
      have f3 : wr.frozen? ⟨w.heap.size + 1 + 1, k, none⟩ = false := R6.out.free k
      have hl := lmb_lt A k
      have h1 := mul_over A y k
      have h2 := mul_limb A y k
      have h3 := overM_le A y k
      have h4 := overM_le A y (k + 1)
      have HST := Lib.hid (lC_step (A * y) k)
      generalize hx : lmb A k = x at c1 hl h1 h2
      generalize overM A y k = o at h1 h2 h3 ⊢
      generalize ho : overM A y (k + 1) = o' at h1 h4
      have HO' := Lib.hid ho
      clear ho
      generalize lmb (A * y) k = z at h2 HST
      clear hx
      have HM := Lib.hid fun w => Try.bits_Mul64 x y hl hy w
      generalize hhi : x * y / 18446744073709551616 = hi at HM
      generalize hlo : x * y % 18446744073709551616 = lo at HM
      have hadd : ∀ w, (callFunc 38 #[.int .u64 (lo : Int), .int .u64 (o : Int), .int .u64 0]).run Try.prog w =
          .ok (.value (.tuple #[.int .u64 (((lo + o + 0) % 18446744073709551616 : Nat) : Int), .int .u64 (((lo + o + 0) / 18446744073709551616 : Nat) : Int)])) w := fun w => runAdd64L lo o 0 (by omega) w
      have hc : (lo + o + 0) % 18446744073709551616 = z := by omega
      have hh : hi + (lo + o + 0) / 18446744073709551616 = o' := by omega
      generalize (lo + o + 0) / 18446744073709551616 = cc at hadd hh
      rw [hc] at hadd
      have hw : IntKind.u64.wrap ((hi : Int) + (cc : Int)) = (o' : Int) := by rw [IntKind.wrap_u64]; omega
      clear hhi hlo h1 h2 hh hc
      go_wp2_with (go_at_call 41; refine (HM.out _).mono ?_; rintro e w' ⟨rfl, rfl⟩)
      go_roundw
      case rel =>
        refine ⟨k + 1, by omega, by go_num, by rw [HO'.out], Lib.hid (R2.out.other _ _ (show w.heap.size ≠ w.heap.size + 1 + 1 by omega)), Lib.hid (R4.out.other _ _ (show w.heap.size + 1 ≠ w.heap.size + 1 + 1 by omega)), Lib.hid ?_, Lib.hid (G0.out.setCell (by simp; omega) _)⟩
        rw [← HST.out _ rfl]
        exact R6.out.set k _
      case measure => simp [intOf]; omega
    · have hdk : decide ((k : Int) < 5) = false := by simp; omega
      have ek : k = 5 := by omega
      have R6' : Hid (Rowz wr (w.heap.size + 1 + 1) (lC (A * y) 5) 24) := by rw [ek] at R6; exact R6
      have hov : (overM A y k = 0) ↔ A * y < 2 ^ 320 := by rw [ek]; exact HO.out
      by_cases hf : A * y < 2 ^ 320
      · have HC := Lib.hid (cut_of hf)
        have HF := Lib.hid (fit_of hf)
        rw [hov.2 hf]
        clear hov ek R6 hf HO
        go_wp2_with (first
          | (refine wpList_load_row rfl 24 _ rfl (w.heap.size + 1 + 1) rfl 24 (lC (A * y) 5) (0, 0) _ R6'.out Try.underlying24 rfl (infoL _ _) ?_)
          | (refine wpList_store_row rfl 24 _ _ rfl (w.heap.size + 1) (lC (A * y) 5) rfl rfl 24 (lC 0 0) R4.out (infoL _ _) (by simp [lC_size]) (lC_one _ _) ?_))
        refine bodyPost_ret (v := .tuple #[.agg (lC (A * y) 5), .bool true]) (results_row_tmp Try.results19 _ _ (w.heap.size + 1) 24 _ _ _ rfl rfl R4.out.row Try.underlying24 rfl (infoL _ _)) rfl ⟨by rw [HC.out, HF.out], ?_⟩
        exact Grown.setRow G0.out R4.out (by omega) _
      · have HC := Lib.hid (cut_no (Nat.le_of_not_lt hf))
        have HF := Lib.hid (fit_no (Nat.le_of_not_lt hf))
        have h0 : ¬ overM A y k = 0 := fun h => hf (hov.1 h)
        clear hov ek R6 hf HO R6'
        generalize overM A y k = o at h0 ⊢
        have hne : ((o : Int) != 0) = true := by simp; omega
        clear h0
        go_wp2_with (first
          | (refine wpList_store_row rfl 24 _ _ rfl (w.heap.size + 1) (lC 0 5) rfl (by kernel_rfl) 24 (lC 0 0) R4.out (infoL _ _) (by simp [lC_size]) (lC_one _ _) ?_))
        refine bodyPost_ret (v := .tuple #[.agg (lC 0 5), .bool false]) (results_row_tmp Try.results19 _ _ (w.heap.size + 1) 24 _ _ _ rfl rfl R4.out.row Try.underlying24 rfl (infoL _ _)) rfl ⟨by rw [HC.out, HF.out], ?_⟩
        exact Grown.setRow G0.out R4.out (by omega) _
end Go.Proofs.Ytcjieaijcjinnaa
