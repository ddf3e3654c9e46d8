/-
  The bytes of a hash as a string (hS); the contract of milepostref03.Raw. No condition.
-/
import Derived.Test.YtdidgenenlefiaaBas
namespace Go.Proofs.Ytdidgenenlefiaa
set_option maxRecDepth 4000
open Go.RowKit

def hS (l : List UInt8) : ByteArray := ⟨l.toArray⟩
theorem hS_size (l : List UInt8) : (hS l).size = l.length := by simp [hS, ByteArray.size]
theorem run_str_hash (w : World) (g : Nat) (T : TypeId) (l : List UInt8) (hl : l.length = 32) (hr : Rowz w g (bC 32 l) T) : (convert 47 9 (.slice (some ⟨g, 0, none⟩) 32 32)).run Try.prog w = .ok (.string (hS l)) w := by
  have h := run_strB w g 0 32 l (fun j hj => by
    rw [hr.cell, Nat.zero_add]
    have : j < 32 := by omega
    simp [bC, this, hj])
  rw [hl] at h
  exact h
theorem info_hash (l : List UInt8) : (Try.prog.info? 24).map (·.size) = some (bC 32 l).size := by rw [bC_size]; kernel_rfl
theorem run_make32b (w : World) : (Instr.makeSlice 47 (.int .i64 32) (.int .i64 32)).run Try.prog w = .ok (.slice (some ⟨w.heap.size, 0, none⟩) 32 32) (w.alloc (.cells (bC 32 []) 5)) := by kernel_rfl
theorem take_step (l : List UInt8) (k : Nat) (h : k < l.length) : l.take k ++ [l.getD k 0] = l.take (k + 1) := by
  rw [List.take_add_one]
  simp [List.getD_eq_getElem?_getD, h]

set_option maxHeartbeats 400000 in
theorem refRaw_any (l : List UInt8) (hl : l.length = 32) (w : World) :
    Calls Try.prog 19 #[.agg (bC 32 l)] w fun e w' => e = .returned (.string (hS l)) ∧ Grown w w' := by
  have hm := run_make32b (w.alloc (.cells (bC 32 l) 24))
  go_enter Try.func19, Try.ntmps19
  go_wp2_with fail
  clear hm
  have F0 := Lib.hid ((Rowz.new w (bC 32 l) 24).alloc (.cells (bC 32 []) 5))
  have F1 := Lib.hid (Rowz.newEq1 w (.cells (bC 32 l) 24) (.cells (bC 32 []) 5) _ _ rfl)
  have F2 := Lib.hid (((Grown.refl w).alloc (bC 32 l) 24).alloc (bC 32 []) 5)
  generalize (w.alloc (.cells (bC 32 l) 24)).alloc (.cells (bC 32 []) 5) = v at F0 F1 F2 ⊢
  obtain ⟨b, hb⟩ : ∃ b, b = w.heap.size := ⟨_, rfl⟩
  have HB := Lib.hid hb
  rw [← hb] at F0 F1 ⊢
  clear hb
  go_loopw [4] (fun i wr => ∃ k : Nat, k ≤ 32 ∧ i = .int .i64 k ∧ Hid (Rowz wr b (bC 32 l) 24) ∧ Hid (Rowz wr (b + 1) (bC 32 (l.take k)) 5) ∧ Hid (Grown w wr)) (fun i _ => 32 - (intOf i).toNat)
  case atStart => exact ⟨0, by omega, rfl, F0, F1, F2⟩
  case round =>
    clear F0 F1 F2
    obtain ⟨k, hk, rfl, F0, F1, F2⟩ := hrel
    by_cases hlt : k < 32
    · have hd : decide ((k : Int) < 32) = true := by simp; omega
      have hc0 := F0.out.byte k hlt
      have hc1 := F1.out.byte k hlt
      have hf1 := F1.out.free k
      go_wp2
      go_roundw
      case measure => simp [intOf]; omega
      case rel =>
        have hkl : k < l.length := by omega
        have hv : ((l[k].toNat : Nat) : Int) = (((l.getD k 0).toNat : Nat) : Int) := by simp [List.getD_eq_getElem?_getD, hkl]
        exact ⟨k + 1, by omega, rfl, Lib.hid (F0.out.other _ _ (by simp)), Lib.hid (take_step l k (by omega) ▸ F1.out.pushB k (by simp; omega) _ _ hv), Lib.hid (F2.out.setCell (by rw [← HB.out]; simp) _)⟩
    · have hd : decide ((k : Int) < 32) = false := by simp; omega
      obtain rfl : k = 32 := by omega
      have hq := run_str_hash wr (b + 1) _ l hl (by have h := F1.out; rwa [List.take_of_length_le (by omega)] at h)
      go_wp2
      go_ret
      exact ⟨rfl, F2.out⟩
end Go.Proofs.Ytdidgenenlefiaa
