/-
  Contracts of the reference's texts (layer 3) and of the law's own examples. Conditions: the parts fit.
-/
import Derived.Test.YtecfgjoomckleaaDoorTagWalkA
namespace Go.Proofs.YtecfgjoomckleaaDoor
set_option maxRecDepth 4000
open Go.RowKit

theorem info_hash (l : List UInt8) : (Tryd.prog.info? 41).map (·.size) = some (bC 32 l).size := by rw [bC_size]; kernel_rfl
theorem run_make32b (w : World) : (Instr.makeSlice 64 (.int .i64 32) (.int .i64 32)).run Tryd.prog w = .ok (.slice (some ⟨w.heap.size, 0, none⟩) 32 32) (w.alloc (.cells (bC 32 []) 5)) := by kernel_rfl
theorem take_step (l : List UInt8) (k : Nat) (h : k < l.length) : l.take k ++ [l.getD k 0] = l.take (k + 1) := by
  rw [List.take_add_one]
  simp [List.getD_eq_getElem?_getD, h]

set_option maxHeartbeats 400000 in
theorem refRaw_any (l : List UInt8) (hl : l.length = 32) (w : World) :
    Calls Tryd.prog 51 #[.agg (bC 32 l)] w fun e w' => e = .returned (.string (hS l)) ∧ Grown w w' := by
  have hm := run_make32b (w.alloc (.cells (bC 32 l) 41))
  go_enter Tryd.func51, Tryd.ntmps51
  go_wp2_with fail
  clear hm
  have F0 := Lib.hid ((Rowz.new w (bC 32 l) 41).alloc (.cells (bC 32 []) 5))
  have F1 := Lib.hid (Rowz.newEq1 w (.cells (bC 32 l) 41) (.cells (bC 32 []) 5) _ _ rfl)
  have F2 := Lib.hid (((Grown.refl w).alloc (bC 32 l) 41).alloc (bC 32 []) 5)
  generalize (w.alloc (.cells (bC 32 l) 41)).alloc (.cells (bC 32 []) 5) = v at F0 F1 F2 ⊢
  obtain ⟨b, hb⟩ : ∃ b, b = w.heap.size := ⟨_, rfl⟩
  have HB := Lib.hid hb
  rw [← hb] at F0 F1 ⊢
  clear hb
  go_loopw [4] (fun i wr => ∃ k : Nat, k ≤ 32 ∧ i = .int .i64 k ∧ Hid (Rowz wr b (bC 32 l) 41) ∧ Hid (Rowz wr (b + 1) (bC 32 (l.take k)) 5) ∧ Hid (Grown w wr)) (fun i _ => 32 - (intOf i).toNat)
  case atStart => exact ⟨0, by omega, rfl, F0, F1, F2⟩
  case round =>
    clear F0 F1 F2
    obtain ⟨k, hk, rfl, F0, F1, F2⟩ := hrel
    by_cases hlt : k < 32
    · have hd : decide ((k : Int) < 32) = true := by simp; omega
      have hc0 := F0.out.byte k hlt
      have hc1 := F1.out.byte k hlt
      have hf1 := F1.out.free k
      go_wp2
      go_roundw
      case measure => simp [intOf]; omega
      case rel =>
        have hkl : k < l.length := by omega
        have hv : ((l[k].toNat : Nat) : Int) = (((l.getD k 0).toNat : Nat) : Int) := by simp [List.getD_eq_getElem?_getD, hkl]
        exact ⟨k + 1, by omega, rfl, Lib.hid (F0.out.other _ _ (by simp)), Lib.hid (take_step l k (by omega) ▸ F1.out.pushB k (by simp; omega) _ _ hv), Lib.hid (F2.out.setCell (by rw [← HB.out]; simp) _)⟩
    · have hd : decide ((k : Int) < 32) = false := by simp; omega
      obtain rfl : k = 32 := by omega
      have hq := run_str_hash wr (b + 1) _ l hl (by have h := F1.out; rwa [List.take_of_length_le (by omega)] at h)
      go_wp2
      go_ret
      exact ⟨rfl, F2.out⟩

theorem refLeaf_any (s : ByteArray) (w : World) (hs : s.size ≤ 140737488355328) :
    Calls Tryd.prog 33 #[.string s] w fun e w' => e = .returned (.string (leafS s)) ∧ Grown w w' := by
  have hn : ¬ (9223372036854775807 < 1 + s.size) := by omega
  go_enter Tryd.func33, Tryd.ntmps33
  go_wp2_with (go_at_call 44; refine (byte_any 0 _ (by omega)).mono ?_; rintro e w' ⟨rfl, hg⟩)
  go_ret
  exact ⟨rfl, hg⟩

theorem app_assoc (a b c : ByteArray) : a ++ b ++ c = a ++ (b ++ c) := by
  apply ByteArray.ext; simp [ByteArray.data_append]

theorem refNode_any (a b : List UInt8) (ha : a.length = 32) (hb : b.length = 32) (w : World) :
    Calls Tryd.prog 39 #[.agg (bC 32 a), .agg (bC 32 b)] w fun e w' => e = .returned (.string (nodeS a b)) ∧ Kept w w' := by
  go_enter Tryd.func39, Tryd.ntmps39
  go_wp2_with fail
  have F0 := Lib.hid ((Rowz.new w (bC 32 a) 41).alloc (.cells (bC 32 b) 41))
  have F1 := Lib.hid (Rowz.newEq1 w (.cells (bC 32 a) 41) (.cells (bC 32 b) 41) _ _ rfl)
  have F2 := Lib.hid (((Kept.refl w).alloc (.cells (bC 32 a) 41)).alloc (.cells (bC 32 b) 41))
  generalize (w.alloc (.cells (bC 32 a) 41)).alloc (.cells (bC 32 b) 41) = v at F0 F1 F2 ⊢
  refine wp_region_table [(5, .is (.string (tagB 1))), (6, .is (.agg (bC 32 a))), (7, .is (.string (hS a))), (8, .is (.string (tagB 1 ++ hS a))), (9, .is (.agg (bC 32 b))), (10, .is (.string (hS b))), (11, .is (.string (nodeS a b))), (4, .is (.string (nodeS a b)))] (by kernel_rfl) (by kernel_rfl) ?_ ?_
  · refine ⟨fun t w1 hf hk hp => ?_, ?_⟩
    · clear hf hp
      refine stepAt_plain rfl ?_
      refine stepOK_call #[.int .i64 1] rfl (by simp only [List.map_toArray, List.map_cons, List.map_nil, evS]) (by go_simp) ((byte_any 1 w1 (by omega)).mono fun e w' ⟨he, hk'⟩ => ⟨_, he, Grown.kept hk', rfl⟩)
    refine ⟨fun t w1 hf hk hp => ?_, ?_⟩
    · have h2 : slot t 2 = .pointer (some ⟨w.heap.size, 0, none⟩) := hf 2 (by kernel_rfl)
      clear hf hp
      refine stepAt_plain rfl ?_
      have hq0 := (F0.out.kept hk).load (P := Tryd.prog) 32 _ Tryd.underlying41 (info_hash a)
      exact stepOK_sem (.agg (bC 32 a)) (by simp only [execOp, evS, h2]) hq0 rfl
    refine ⟨fun t w1 hf hk hp => ?_, ?_⟩
    · have h6 : slot t 6 = .agg (bC 32 a) := hp 6 (by kernel_rfl)
      clear hf hp
      refine stepAt_plain rfl ?_
      refine stepOK_call #[.agg (bC 32 a)] rfl (by simp only [List.map_toArray, List.map_cons, List.map_nil, evS, h6]) (by go_simp) ((refRaw_any a ha w1).mono fun e w' ⟨he, hk'⟩ => ⟨_, he, Grown.kept hk', rfl⟩)
    refine ⟨fun t w1 hf hk hp => ?_, ?_⟩
    · have h5 : slot t 5 = .string (tagB 1) := hp 5 (by kernel_rfl)
      have h7 : slot t 7 = .string (hS a) := hp 7 (by kernel_rfl)
      clear hf hp
      refine stepAt_plain rfl ?_
      exact stepOK_add ((tagB 1)) ((hS a)) ((tagB 1 ++ hS a)) rfl h5 h7 (by rw [tagB_size, hS_size]; omega) (rfl) rfl
    refine ⟨fun t w1 hf hk hp => ?_, ?_⟩
    · have h3 : slot t 3 = .pointer (some ⟨w.heap.size + 1, 0, none⟩) := hf 3 (by kernel_rfl)
      clear hf hp
      refine stepAt_plain rfl ?_
      have hq0 := (F1.out.kept hk).load (P := Tryd.prog) 32 _ Tryd.underlying41 (info_hash b)
      exact stepOK_sem (.agg (bC 32 b)) (by simp only [execOp, evS, h3]) hq0 rfl
    refine ⟨fun t w1 hf hk hp => ?_, ?_⟩
    · have h9 : slot t 9 = .agg (bC 32 b) := hp 9 (by kernel_rfl)
      clear hf hp
      refine stepAt_plain rfl ?_
      refine stepOK_call #[.agg (bC 32 b)] rfl (by simp only [List.map_toArray, List.map_cons, List.map_nil, evS, h9]) (by go_simp) ((refRaw_any b hb w1).mono fun e w' ⟨he, hk'⟩ => ⟨_, he, Grown.kept hk', rfl⟩)
    refine ⟨fun t w1 hf hk hp => ?_, ?_⟩
    · have h8 : slot t 8 = .string (tagB 1 ++ hS a) := hp 8 (by kernel_rfl)
      have h10 : slot t 10 = .string (hS b) := hp 10 (by kernel_rfl)
      clear hf hp
      refine stepAt_plain rfl ?_
      exact stepOK_add ((tagB 1 ++ hS a)) ((hS b)) ((nodeS a b)) rfl h8 h10 (by rw [ByteArray.size_append, tagB_size, hS_size, hS_size]; omega) (app_assoc _ _ _) rfl
    refine ⟨fun t w1 hf hk hp => ?_, ?_⟩
    · have h11 : slot t 11 = .string (nodeS a b) := hp 11 (by kernel_rfl)
      clear hf hp
      refine stepAt_plain rfl ?_
      exact stepOK_move _ (.inr rfl) h11
    exact trivial
  · intro t w1 hsz hf hk hfacts
    have h4 : slot t 4 = .string (nodeS a b) := hfacts 7 _ rfl 4 rfl
    have h2 : slot t 2 = .pointer (some ⟨w.heap.size, 0, none⟩) := hf 2 (by kernel_rfl)
    have h3 : slot t 3 = .pointer (some ⟨w.heap.size + 1, 0, none⟩) := hf 3 (by kernel_rfl)
    have harr : t = #[slot t 0, slot t 1, slot t 2, slot t 3, slot t 4, slot t 5, slot t 6, slot t 7, slot t 8, slot t 9, slot t 10, slot t 11] := arr_eq t 12 hsz
    rw [harr, h4, h2, h3]
    clear harr hfacts hf h4 h2 h3
    generalize slot t 0 = x0; generalize slot t 1 = x1; generalize slot t 5 = x5; generalize slot t 6 = x6; generalize slot t 7 = x7; generalize slot t 8 = x8; generalize slot t 9 = x9; generalize slot t 10 = x10; generalize slot t 11 = x11
    clear hsz t
    go_wp2_with fail
    go_ret
    exact ⟨rfl, F2.out.trans hk⟩

theorem run_build0 (w : World) : (Instr.build 41 #[]).run Tryd.prog w = .ok (.agg (bC 32 [])) w := by kernel_rfl
theorem tagS_size (k : Nat) (s : ByteArray) : (tagS k s).size = 1 + s.size := by rw [tagS, ByteArray.size_append, tagB_size]
end Go.Proofs.YtecfgjoomckleaaDoor
