/-
  Contract of head.Bytes. Condition: a header's parts fit.
-/
import Derived.Test.YtncnlmjhejminaaDoorHeadFormA
namespace Go.Proofs.YtncnlmjhejminaaDoor
set_option maxRecDepth 4000
open Go.RowKit

theorem head_slice (g o : Nat) (w : World) : (Instr.sliceAt 27 (.pointer (some ⟨g, o, none⟩)) none none none).run Tryd.prog w = .ok (.slice (some ⟨g, o, none⟩) 32 32) w := by kernel_rfl
theorem run_str_part (w : World) (g o : Nat) (l : List UInt8) (hl : l.length = 32) (hc : ∀ j, j < 32 → w.cell? ⟨g, o + j, none⟩ = some (.int .u8 (((l.getD j 0).toNat : Nat) : Int))) : (convert 48 9 (.slice (some ⟨g, o, none⟩) 32 32)).run Tryd.prog w = .ok (.string (hS l)) w := by
  have h := run_strB w g o 32 l (fun j hj => by
    rw [hc j (by omega)]
    simp [List.getD_eq_getElem?_getD, hj])
  rw [hl] at h
  exact h
theorem run_str_l {w : World} {g : Nat} {x : Hd} {T : TypeId} (h : Rowz w g (hdC x) T) (hl : x.l.length = 32) : (convert 48 9 (.slice (some ⟨g, 1, none⟩) 32 32)).run Tryd.prog w = .ok (.string (hS x.l)) w :=
  run_str_part w g 1 x.l hl fun j hj => by rw [h.cell]; exact hdC_l x j hj
theorem run_str_t {w : World} {g : Nat} {x : Hd} {T : TypeId} (h : Rowz w g (hdC x) T) (hl : x.t.length = 32) : (convert 48 9 (.slice (some ⟨g, 33, none⟩) 32 32)).run Tryd.prog w = .ok (.string (hS x.t)) w :=
  run_str_part w g 33 x.t hl fun j hj => by rw [h.cell]; exact hdC_t x j hj
set_option maxRecDepth 100000 in
set_option maxHeartbeats 1000000 in
theorem headBytes_any : HeadBytesC 16 := by
  intro x w hx
  obtain ⟨h0, h1, h2, h3⟩ := hx
  have R1 := Lib.hid (Rowz.new w (hdC x) 32)
  have K1 := Lib.hid ((Kept.refl w).alloc (.cells (hdC x) 32))
  have z1 : (beS 4 x.h).size = 4 := beS_size _ _
  have z2 : (hS x.l).size = 32 := by rw [hS_size, h1]
  have z3 : (hS x.t).size = 32 := by rw [hS_size, h2]
  have z4 : (beS 8 x.n).size = 8 := beS_size _ _
  have z5 : (beS 4 x.h ++ hS x.l).size = 36 := by rw [ByteArray.size_append, z1, z2]
  have z6 : (beS 4 x.h ++ hS x.l ++ hS x.t).size = 68 := by rw [ByteArray.size_append, z5, z3]
  go_enter Tryd.func16, Tryd.ntmps16
  go_wp2_with fail
  generalize w.alloc (.cells (hdC x) 32) = v1 at R1 K1 ⊢
  refine wp_region_table [(3, .is (.pointer (some ⟨w.heap.size, 0, none⟩))), (4, .is (.int .u32 (x.h : Int))), (5, .is (.string (beS 4 x.h))), (6, .is (.pointer (some ⟨w.heap.size, 1, none⟩))), (7, .is (.slice (some ⟨w.heap.size, 1, none⟩) 32 32)), (8, .is (.string (hS x.l))), (9, .is (.string (beS 4 x.h ++ hS x.l))), (10, .is (.pointer (some ⟨w.heap.size, 33, none⟩))), (11, .is (.slice (some ⟨w.heap.size, 33, none⟩) 32 32)), (12, .is (.string (hS x.t))), (13, .is (.string (beS 4 x.h ++ hS x.l ++ hS x.t))), (14, .is (.pointer (some ⟨w.heap.size, 65, none⟩))), (15, .is (.int .u64 (x.n : Int))), (16, .is (.string (beS 8 x.n))), (17, .is (.string (beS 4 x.h ++ hS x.l ++ hS x.t ++ beS 8 x.n))), (2, .is (.string (beS 4 x.h ++ hS x.l ++ hS x.t ++ beS 8 x.n)))] (by kernel_rfl) (by kernel_rfl) ?_ ?_
  · refine ⟨fun t w1 hf hk hp => ?_, ?_⟩
    · have h1 : slot t 1 = .pointer (some ⟨w.heap.size, 0, none⟩) := hf 1 (by kernel_rfl)
      clear hf hp
      refine stepAt_plain rfl ?_
      exact stepOK_pure (.pointer (some ⟨w.heap.size, 0, none⟩)) (execFieldH w.heap.size 0 0 (by omega) rfl w1 rfl h1) rfl
    refine ⟨fun t w1 hf hk hp => ?_, ?_⟩
    · have h3 : slot t 3 = .pointer (some ⟨w.heap.size, 0, none⟩) := hp 3 (by kernel_rfl)
      clear hf hp
      refine stepAt_plain rfl ?_
      have hq0 := run_loadU32 (hdr_0 (R1.out.kept hk))
      exact stepOK_sem (.int .u32 (x.h : Int)) (by simp only [execOp, evS, h3]) hq0 rfl
    refine ⟨fun t w1 hf hk hp => ?_, ?_⟩
    · have h4 : slot t 4 = .int .u32 (x.h : Int) := hp 4 (by kernel_rfl)
      clear hf hp
      refine stepAt_plain rfl ?_
      refine stepOK_call #[.int .u32 (x.h : Int)] rfl (by simp only [List.map_toArray, List.map_cons, List.map_nil, evS, h4]) (by go_simp) ((put32_any x.h w1 ‹x.h < 4294967296›).mono fun e w' ⟨he, hk'⟩ => ⟨_, he, Grown.kept hk', rfl⟩)
    refine ⟨fun t w1 hf hk hp => ?_, ?_⟩
    · have h1 : slot t 1 = .pointer (some ⟨w.heap.size, 0, none⟩) := hf 1 (by kernel_rfl)
      clear hf hp
      refine stepAt_plain rfl ?_
      exact stepOK_pure (.pointer (some ⟨w.heap.size, 1, none⟩)) (execFieldH w.heap.size 1 1 (by omega) rfl w1 rfl h1) rfl
    refine ⟨fun t w1 hf hk hp => ?_, ?_⟩
    · have h6 : slot t 6 = .pointer (some ⟨w.heap.size, 1, none⟩) := hp 6 (by kernel_rfl)
      clear hf hp
      refine stepAt_plain rfl ?_
      have hq0 := head_slice w.heap.size 1 w1
      refine stepOK_pure (.slice (some ⟨w.heap.size, 1, none⟩) 32 32) ?_ rfl
      simp only [execOp, evS, h6]
      go_simp
    refine ⟨fun t w1 hf hk hp => ?_, ?_⟩
    · have h7 : slot t 7 = .slice (some ⟨w.heap.size, 1, none⟩) 32 32 := hp 7 (by kernel_rfl)
      clear hf hp
      refine stepAt_plain rfl ?_
      have hq0 := run_str_l (R1.out.kept hk) ‹x.l.length = 32›
      refine stepOK_pure (.string (hS x.l)) ?_ rfl
      simp only [execOp, evS, h7]
      go_simp
    refine ⟨fun t w1 hf hk hp => ?_, ?_⟩
    · have h5 : slot t 5 = .string (beS 4 x.h) := hp 5 (by kernel_rfl)
      have h8 : slot t 8 = .string (hS x.l) := hp 8 (by kernel_rfl)
      clear hf hp
      refine stepAt_plain rfl ?_
      exact stepOK_add ((beS 4 x.h)) ((hS x.l)) ((beS 4 x.h ++ hS x.l)) rfl h5 h8 (by omega) (rfl) rfl
    refine ⟨fun t w1 hf hk hp => ?_, ?_⟩
    · have h1 : slot t 1 = .pointer (some ⟨w.heap.size, 0, none⟩) := hf 1 (by kernel_rfl)
      clear hf hp
      refine stepAt_plain rfl ?_
      exact stepOK_pure (.pointer (some ⟨w.heap.size, 33, none⟩)) (execFieldH w.heap.size 2 33 (by omega) rfl w1 rfl h1) rfl
    refine ⟨fun t w1 hf hk hp => ?_, ?_⟩
    · have h10 : slot t 10 = .pointer (some ⟨w.heap.size, 33, none⟩) := hp 10 (by kernel_rfl)
      clear hf hp
      refine stepAt_plain rfl ?_
      have hq0 := head_slice w.heap.size 33 w1
      refine stepOK_pure (.slice (some ⟨w.heap.size, 33, none⟩) 32 32) ?_ rfl
      simp only [execOp, evS, h10]
      go_simp
    refine ⟨fun t w1 hf hk hp => ?_, ?_⟩
    · have h11 : slot t 11 = .slice (some ⟨w.heap.size, 33, none⟩) 32 32 := hp 11 (by kernel_rfl)
      clear hf hp
      refine stepAt_plain rfl ?_
      have hq0 := run_str_t (R1.out.kept hk) ‹x.t.length = 32›
      refine stepOK_pure (.string (hS x.t)) ?_ rfl
      simp only [execOp, evS, h11]
      go_simp
    refine ⟨fun t w1 hf hk hp => ?_, ?_⟩
    · have h9 : slot t 9 = .string (beS 4 x.h ++ hS x.l) := hp 9 (by kernel_rfl)
      have h12 : slot t 12 = .string (hS x.t) := hp 12 (by kernel_rfl)
      clear hf hp
      refine stepAt_plain rfl ?_
      exact stepOK_add ((beS 4 x.h ++ hS x.l)) ((hS x.t)) ((beS 4 x.h ++ hS x.l ++ hS x.t)) rfl h9 h12 (by omega) (rfl) rfl
    refine ⟨fun t w1 hf hk hp => ?_, ?_⟩
    · have h1 : slot t 1 = .pointer (some ⟨w.heap.size, 0, none⟩) := hf 1 (by kernel_rfl)
      clear hf hp
      refine stepAt_plain rfl ?_
      exact stepOK_pure (.pointer (some ⟨w.heap.size, 65, none⟩)) (execFieldH w.heap.size 3 65 (by omega) rfl w1 rfl h1) rfl
    refine ⟨fun t w1 hf hk hp => ?_, ?_⟩
    · have h14 : slot t 14 = .pointer (some ⟨w.heap.size, 65, none⟩) := hp 14 (by kernel_rfl)
      clear hf hp
      refine stepAt_plain rfl ?_
      have hq0 := run_loadU64 (hdr_65 (R1.out.kept hk))
      exact stepOK_sem (.int .u64 (x.n : Int)) (by simp only [execOp, evS, h14]) hq0 rfl
    refine ⟨fun t w1 hf hk hp => ?_, ?_⟩
    · have h15 : slot t 15 = .int .u64 (x.n : Int) := hp 15 (by kernel_rfl)
      clear hf hp
      refine stepAt_plain rfl ?_
      refine stepOK_call #[.int .u64 (x.n : Int)] rfl (by simp only [List.map_toArray, List.map_cons, List.map_nil, evS, h15]) (by go_simp) ((put64_any x.n w1 ‹x.n < 18446744073709551616›).mono fun e w' ⟨he, hk'⟩ => ⟨_, he, Grown.kept hk', rfl⟩)
    refine ⟨fun t w1 hf hk hp => ?_, ?_⟩
    · have h13 : slot t 13 = .string (beS 4 x.h ++ hS x.l ++ hS x.t) := hp 13 (by kernel_rfl)
      have h16 : slot t 16 = .string (beS 8 x.n) := hp 16 (by kernel_rfl)
      clear hf hp
      refine stepAt_plain rfl ?_
      exact stepOK_add ((beS 4 x.h ++ hS x.l ++ hS x.t)) ((beS 8 x.n)) ((beS 4 x.h ++ hS x.l ++ hS x.t ++ beS 8 x.n)) rfl h13 h16 (by omega) (rfl) rfl
    refine ⟨fun t w1 hf hk hp => ?_, ?_⟩
    · have h17 : slot t 17 = .string (beS 4 x.h ++ hS x.l ++ hS x.t ++ beS 8 x.n) := hp 17 (by kernel_rfl)
      clear hf hp
      refine stepAt_plain rfl ?_
      exact stepOK_move _ (.inr rfl) h17
    exact trivial
  · intro t w1 hsz hf hk hfacts
    have h2 : slot t 2 = .string (beS 4 x.h ++ hS x.l ++ hS x.t ++ beS 8 x.n) := hfacts 15 _ rfl 2 rfl
    have h1 : slot t 1 = .pointer (some ⟨w.heap.size, 0, none⟩) := hf 1 (by kernel_rfl)
    have harr : t = #[slot t 0, slot t 1, slot t 2, slot t 3, slot t 4, slot t 5, slot t 6, slot t 7, slot t 8, slot t 9, slot t 10, slot t 11, slot t 12, slot t 13, slot t 14, slot t 15, slot t 16, slot t 17] := arr_eq t 18 hsz
    rw [harr, h2, h1]
    clear harr hfacts hf h2 h1
    generalize slot t 0 = x0; generalize slot t 3 = x3; generalize slot t 4 = x4; generalize slot t 5 = x5; generalize slot t 6 = x6; generalize slot t 7 = x7; generalize slot t 8 = x8; generalize slot t 9 = x9; generalize slot t 10 = x10; generalize slot t 11 = x11; generalize slot t 12 = x12; generalize slot t 13 = x13
    generalize slot t 14 = x14; generalize slot t 15 = x15; generalize slot t 16 = x16; generalize slot t 17 = x17
    clear hsz t
    have K2 := Lib.hid (K1.out.trans hk)
    clear hk
    go_wp2_with fail
    go_ret
    exact ⟨rfl, K2.out⟩
end Go.Proofs.YtncnlmjhejminaaDoor
