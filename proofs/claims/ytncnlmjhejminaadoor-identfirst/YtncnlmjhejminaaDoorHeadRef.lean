/-
  Contracts of the reference's Bytes and Get of headers (milepostref17). Conditions: a header's parts fit; a string's size fits.
-/
import Derived.Test.YtncnlmjhejminaaDoorHeadLib
import Derived.Test.YtncnlmjhejminaaDoorTag
import Derived.Test.YtncnlmjhejminaaDoorBas
namespace Go.Proofs.YtncnlmjhejminaaDoor
set_option maxRecDepth 4000
open Go.RowKit

def hdO : Nat → Nat
  | 0 => 0
  | 1 => 1
  | 2 => 33
  | _ => 65
theorem execFieldH {o : Oper} {t : Array Value} {x : Operand} (b k j : Nat) (hk : k = 0 ∨ k = 1 ∨ k = 2 ∨ k = 3) (hj : j = hdO k) (w : World) (ho : o.op = .fieldAddr 32 x k) (hx : evS t x = .pointer (some ⟨b, 0, none⟩)) :
    (execOp (evS t) o).run Tryd.prog w = .ok (.value (.pointer (some ⟨b, j, none⟩))) w := by
  subst hj
  rcases hk with rfl | rfl | rfl | rfl
  all_goals
    unfold execOp hdO
    rw [ho]
    simp only [hx]
    go_simp
theorem run_loadU32 {w : World} {a : Addr} {n : Int} (h : w.cell? a = some (.int .u32 n)) : (Instr.loadAt 29 (.pointer (some a))).run Tryd.prog w = .ok (.int .u32 n) w := by
  go_simp
theorem run_loadU64 {w : World} {a : Addr} {n : Int} (h : w.cell? a = some (.int .u64 n)) : (Instr.loadAt 30 (.pointer (some a))).run Tryd.prog w = .ok (.int .u64 n) w := by
  go_simp
theorem hdr_0 {w : World} {g : Nat} {x : Hd} {T : TypeId} (h : Rowz w g (hdC x) T) : w.cell? ⟨g, 0, none⟩ = some (.int .u32 (x.h : Int)) := by rw [h.cell]; exact hdC_0 x
theorem hdr_65 {w : World} {g : Nat} {x : Hd} {T : TypeId} (h : Rowz w g (hdC x) T) : w.cell? ⟨g, 65, none⟩ = some (.int .u64 (x.n : Int)) := by rw [h.cell]; exact hdC_65 x
theorem hdr_l {w : World} {g : Nat} {x : Hd} {T : TypeId} (h : Rowz w g (hdC x) T) (hl : x.l.length = 32) : HAt w (some ⟨g, 1, none⟩) 1 (fun _ => x.l) := fun i hi => by
  refine ⟨hl, _, rfl, h.lt, fun j u hj => ?_⟩
  have hj32 : j < 32 := by
    have := (List.getElem?_eq_some_iff.1 hj).1
    simpa [bC_size] using this
  rw [Array.getElem?_toList, bC_get _ _ _ hj32] at hj
  obtain rfl : i = 0 := by omega
  rw [Addr.add_mid, h.cell, ← hj, show 1 + (0 * 32 + j) = 1 + j by omega]
  exact hdC_l x j hj32
theorem hdr_t {w : World} {g : Nat} {x : Hd} {T : TypeId} (h : Rowz w g (hdC x) T) (hl : x.t.length = 32) : HAt w (some ⟨g, 33, none⟩) 1 (fun _ => x.t) := fun i hi => by
  refine ⟨hl, _, rfl, h.lt, fun j u hj => ?_⟩
  have hj32 : j < 32 := by
    have := (List.getElem?_eq_some_iff.1 hj).1
    simpa [bC_size] using this
  rw [Array.getElem?_toList, bC_get _ _ _ hj32] at hj
  obtain rfl : i = 0 := by omega
  rw [Addr.add_mid, h.cell, ← hj, show 33 + (0 * 32 + j) = 33 + j by omega]
  exact hdC_t x j hj32
/-- A byte of the first hash, of the second, written. -/
theorem hdC_setl (h n : Nat) (l t : List UInt8) (k : Nat) (hk : k < 32) (v : Int) (hv : v = (((l.getD k 0).toNat : Nat) : Int)) : (hdC ⟨h, l.take k, t, n⟩).setIfInBounds (1 + k) (.int .u8 v) = hdC ⟨h, l.take (k + 1), t, n⟩ := by
  subst hv
  apply Array.ext'
  apply List.ext_getElem?
  intro i
  rw [Array.getElem?_toList, Array.getElem?_toList]
  by_cases h66 : i < 66
  · rw [Array.getElem?_setIfInBounds]
    by_cases h0 : i = 0
    · subst h0; rw [if_neg (by omega), hdC_0, hdC_0]
    · by_cases h1 : i < 33
      · obtain ⟨j, rfl⟩ : ∃ j, i = 1 + j := ⟨i - 1, by omega⟩
        by_cases hjk : j = k
        · subst hjk
          rw [if_pos rfl, if_pos (by rw [hdC_size]; omega), hdC_l _ _ hk]
          simp [List.getD_eq_getElem?_getD]
        · rw [if_neg (by omega), hdC_l _ _ (by omega), hdC_l _ _ (by omega)]
          simp only [List.getD_eq_getElem?_getD, List.getElem?_take]
          by_cases hlt : j < k
          · rw [if_pos hlt, if_pos (by omega)]
          · rw [if_neg hlt, if_neg (by omega)]
      · by_cases h2 : i < 65
        · obtain ⟨j, rfl⟩ : ∃ j, i = 33 + j := ⟨i - 33, by omega⟩
          rw [if_neg (by omega), hdC_t _ _ (by omega), hdC_t _ _ (by omega)]
        · obtain rfl : i = 65 := by omega
          rw [if_neg (by omega), hdC_65, hdC_65]
  · rw [Array.getElem?_eq_none (by rw [Array.size_setIfInBounds, hdC_size]; omega), Array.getElem?_eq_none (by rw [hdC_size]; omega)]
theorem hdC_sett (h n : Nat) (l t : List UInt8) (k : Nat) (hk : k < 32) (v : Int) (hv : v = (((t.getD k 0).toNat : Nat) : Int)) : (hdC ⟨h, l, t.take k, n⟩).setIfInBounds (33 + k) (.int .u8 v) = hdC ⟨h, l, t.take (k + 1), n⟩ := by
  subst hv
  apply Array.ext'
  apply List.ext_getElem?
  intro i
  rw [Array.getElem?_toList, Array.getElem?_toList]
  by_cases h66 : i < 66
  · rw [Array.getElem?_setIfInBounds]
    by_cases h0 : i = 0
    · subst h0; rw [if_neg (by omega), hdC_0, hdC_0]
    · by_cases h1 : i < 33
      · obtain ⟨j, rfl⟩ : ∃ j, i = 1 + j := ⟨i - 1, by omega⟩
        rw [if_neg (by omega), hdC_l _ _ (by omega), hdC_l _ _ (by omega)]
      · by_cases h2 : i < 65
        · obtain ⟨j, rfl⟩ : ∃ j, i = 33 + j := ⟨i - 33, by omega⟩
          by_cases hjk : j = k
          · subst hjk
            rw [if_pos rfl, if_pos (by rw [hdC_size]; omega), hdC_t _ _ hk]
            simp [List.getD_eq_getElem?_getD]
          · rw [if_neg (by omega), hdC_t _ _ (by omega), hdC_t _ _ (by omega)]
            simp only [List.getD_eq_getElem?_getD, List.getElem?_take]
            by_cases hlt : j < k
            · rw [if_pos hlt, if_pos (by omega)]
            · rw [if_neg hlt, if_neg (by omega)]
        · obtain rfl : i = 65 := by omega
          rw [if_neg (by omega), hdC_65, hdC_65]
  · rw [Array.getElem?_eq_none (by rw [Array.size_setIfInBounds, hdC_size]; omega), Array.getElem?_eq_none (by rw [hdC_size]; omega)]

set_option maxRecDepth 100000 in
set_option maxHeartbeats 1000000 in
theorem refBytes17_any (x : Hd) (hx : x.ok) (w : World) :
    Calls Tryd.prog 12 #[.agg (hdC x)] w fun e w' => e = .returned (.string (hdS x)) ∧ Kept w w' := by
  obtain ⟨h0, h1, h2, h3⟩ := hx
  have R1 := Lib.hid (Rowz.new w (hdC x) 32)
  have K1 := Lib.hid ((Kept.refl w).alloc (.cells (hdC x) 32))
  have hw : IntKind.u64.wrap (x.h : Int) = (x.h : Int) := by simp only [IntKind.wrap, IntKind.signed, IntKind.bits]; simp; omega
  have z1 : (beS 4 x.h).size = 4 := beS_size _ _
  have z2 : (hS x.l).size = 32 := by rw [hS_size, h1]
  have z3 : (hS x.t).size = 32 := by rw [hS_size, h2]
  have z4 : (beS 8 x.n).size = 8 := beS_size _ _
  have z5 : (beS 4 x.h ++ hS x.l).size = 36 := by rw [ByteArray.size_append, z1, z2]
  have z6 : (beS 4 x.h ++ hS x.l ++ hS x.t).size = 68 := by rw [ByteArray.size_append, z5, z3]
  go_enter Tryd.func12, Tryd.ntmps12
  go_wp2_with fail
  generalize w.alloc (.cells (hdC x) 32) = v1 at R1 K1 ⊢
  refine wp_region_table [(3, .is (.pointer (some ⟨w.heap.size, 0, none⟩))), (4, .is (.int .u32 (x.h : Int))), (5, .is (.int .u64 (x.h : Int))), (6, .is (.string (beS 4 x.h))), (7, .is (.pointer (some ⟨w.heap.size, 1, none⟩))), (8, .is (.agg (bC 32 x.l))), (9, .is (.string (hS x.l))), (10, .is (.string (beS 4 x.h ++ hS x.l))), (11, .is (.pointer (some ⟨w.heap.size, 33, none⟩))), (12, .is (.agg (bC 32 x.t))), (13, .is (.string (hS x.t))), (14, .is (.string (beS 4 x.h ++ hS x.l ++ hS x.t))), (15, .is (.pointer (some ⟨w.heap.size, 65, none⟩))), (16, .is (.int .u64 (x.n : Int))), (17, .is (.string (beS 8 x.n))), (18, .is (.string (beS 4 x.h ++ hS x.l ++ hS x.t ++ beS 8 x.n))), (2, .is (.string (beS 4 x.h ++ hS x.l ++ hS x.t ++ beS 8 x.n)))] (by kernel_rfl) (by kernel_rfl) ?_ ?_
  · refine ⟨fun t w1 hf hk hp => ?_, ?_⟩
    · have h1 : slot t 1 = .pointer (some ⟨w.heap.size, 0, none⟩) := hf 1 (by kernel_rfl)
      clear hf hp
      refine stepAt_plain rfl ?_
      exact stepOK_pure (.pointer (some ⟨w.heap.size, 0, none⟩)) (execFieldH w.heap.size 0 0 (by omega) rfl w1 rfl h1) rfl
    refine ⟨fun t w1 hf hk hp => ?_, ?_⟩
    · have h3 : slot t 3 = .pointer (some ⟨w.heap.size, 0, none⟩) := hp 3 (by kernel_rfl)
      clear hf hp
      refine stepAt_plain rfl ?_
      have hq0 := run_loadU32 (hdr_0 (R1.out.kept hk))
      exact stepOK_sem (.int .u32 (x.h : Int)) (by simp only [execOp, evS, h3]) hq0 rfl
    refine ⟨fun t w1 hf hk hp => ?_, ?_⟩
    · have h4 : slot t 4 = .int .u32 (x.h : Int) := hp 4 (by kernel_rfl)
      clear hf hp
      refine stepAt_plain rfl ?_
      have hq0 := hw
      refine stepOK_pure (.int .u64 (x.h : Int)) ?_ rfl
      simp only [execOp, evS, h4]
      go_simp
    refine ⟨fun t w1 hf hk hp => ?_, ?_⟩
    · have h5 : slot t 5 = .int .u64 (x.h : Int) := hp 5 (by kernel_rfl)
      clear hf hp
      refine stepAt_plain rfl ?_
      refine stepOK_call #[.int .u64 (x.h : Int), .int .i64 4] rfl (by simp only [List.map_toArray, List.map_cons, List.map_nil, evS, h5]) (by go_simp) ((refPut_any x.h 4 w1 (by omega) (by omega)).mono fun e w' ⟨he, hk'⟩ => ⟨_, he, Grown.kept hk', rfl⟩)
    refine ⟨fun t w1 hf hk hp => ?_, ?_⟩
    · have h1 : slot t 1 = .pointer (some ⟨w.heap.size, 0, none⟩) := hf 1 (by kernel_rfl)
      clear hf hp
      refine stepAt_plain rfl ?_
      exact stepOK_pure (.pointer (some ⟨w.heap.size, 1, none⟩)) (execFieldH w.heap.size 1 1 (by omega) rfl w1 rfl h1) rfl
    refine ⟨fun t w1 hf hk hp => ?_, ?_⟩
    · have h7 : slot t 7 = .pointer (some ⟨w.heap.size, 1, none⟩) := hp 7 (by kernel_rfl)
      clear hf hp
      refine stepAt_plain rfl ?_
      have hq0 := (hdr_l (R1.out.kept hk) ‹x.l.length = 32›).load0 (by omega)
      exact stepOK_sem (.agg (bC 32 x.l)) (by simp only [execOp, evS, h7]) hq0 rfl
    refine ⟨fun t w1 hf hk hp => ?_, ?_⟩
    · have h8 : slot t 8 = .agg (bC 32 x.l) := hp 8 (by kernel_rfl)
      clear hf hp
      refine stepAt_plain rfl ?_
      refine stepOK_call #[.agg (bC 32 x.l)] rfl (by simp only [List.map_toArray, List.map_cons, List.map_nil, evS, h8]) (by go_simp) ((refRaw_any x.l ‹x.l.length = 32› w1).mono fun e w' ⟨he, hk'⟩ => ⟨_, he, Grown.kept hk', rfl⟩)
    refine ⟨fun t w1 hf hk hp => ?_, ?_⟩
    · have h6 : slot t 6 = .string (beS 4 x.h) := hp 6 (by kernel_rfl)
      have h9 : slot t 9 = .string (hS x.l) := hp 9 (by kernel_rfl)
      clear hf hp
      refine stepAt_plain rfl ?_
      exact stepOK_add ((beS 4 x.h)) ((hS x.l)) ((beS 4 x.h ++ hS x.l)) rfl h6 h9 (by omega) (rfl) rfl
    refine ⟨fun t w1 hf hk hp => ?_, ?_⟩
    · have h1 : slot t 1 = .pointer (some ⟨w.heap.size, 0, none⟩) := hf 1 (by kernel_rfl)
      clear hf hp
      refine stepAt_plain rfl ?_
      exact stepOK_pure (.pointer (some ⟨w.heap.size, 33, none⟩)) (execFieldH w.heap.size 2 33 (by omega) rfl w1 rfl h1) rfl
    refine ⟨fun t w1 hf hk hp => ?_, ?_⟩
    · have h11 : slot t 11 = .pointer (some ⟨w.heap.size, 33, none⟩) := hp 11 (by kernel_rfl)
      clear hf hp
      refine stepAt_plain rfl ?_
      have hq0 := (hdr_t (R1.out.kept hk) ‹x.t.length = 32›).load0 (by omega)
      exact stepOK_sem (.agg (bC 32 x.t)) (by simp only [execOp, evS, h11]) hq0 rfl
    refine ⟨fun t w1 hf hk hp => ?_, ?_⟩
    · have h12 : slot t 12 = .agg (bC 32 x.t) := hp 12 (by kernel_rfl)
      clear hf hp
      refine stepAt_plain rfl ?_
      refine stepOK_call #[.agg (bC 32 x.t)] rfl (by simp only [List.map_toArray, List.map_cons, List.map_nil, evS, h12]) (by go_simp) ((refRaw_any x.t ‹x.t.length = 32› w1).mono fun e w' ⟨he, hk'⟩ => ⟨_, he, Grown.kept hk', rfl⟩)
    refine ⟨fun t w1 hf hk hp => ?_, ?_⟩
    · have h10 : slot t 10 = .string (beS 4 x.h ++ hS x.l) := hp 10 (by kernel_rfl)
      have h13 : slot t 13 = .string (hS x.t) := hp 13 (by kernel_rfl)
      clear hf hp
      refine stepAt_plain rfl ?_
      exact stepOK_add ((beS 4 x.h ++ hS x.l)) ((hS x.t)) ((beS 4 x.h ++ hS x.l ++ hS x.t)) rfl h10 h13 (by omega) (rfl) rfl
    refine ⟨fun t w1 hf hk hp => ?_, ?_⟩
    · have h1 : slot t 1 = .pointer (some ⟨w.heap.size, 0, none⟩) := hf 1 (by kernel_rfl)
      clear hf hp
      refine stepAt_plain rfl ?_
      exact stepOK_pure (.pointer (some ⟨w.heap.size, 65, none⟩)) (execFieldH w.heap.size 3 65 (by omega) rfl w1 rfl h1) rfl
    refine ⟨fun t w1 hf hk hp => ?_, ?_⟩
    · have h15 : slot t 15 = .pointer (some ⟨w.heap.size, 65, none⟩) := hp 15 (by kernel_rfl)
      clear hf hp
      refine stepAt_plain rfl ?_
      have hq0 := run_loadU64 (hdr_65 (R1.out.kept hk))
      exact stepOK_sem (.int .u64 (x.n : Int)) (by simp only [execOp, evS, h15]) hq0 rfl
    refine ⟨fun t w1 hf hk hp => ?_, ?_⟩
    · have h16 : slot t 16 = .int .u64 (x.n : Int) := hp 16 (by kernel_rfl)
      clear hf hp
      refine stepAt_plain rfl ?_
      refine stepOK_call #[.int .u64 (x.n : Int), .int .i64 8] rfl (by simp only [List.map_toArray, List.map_cons, List.map_nil, evS, h16]) (by go_simp) ((refPut_any x.n 8 w1 ‹x.n < 18446744073709551616› (by omega)).mono fun e w' ⟨he, hk'⟩ => ⟨_, he, Grown.kept hk', rfl⟩)
    refine ⟨fun t w1 hf hk hp => ?_, ?_⟩
    · have h14 : slot t 14 = .string (beS 4 x.h ++ hS x.l ++ hS x.t) := hp 14 (by kernel_rfl)
      have h17 : slot t 17 = .string (beS 8 x.n) := hp 17 (by kernel_rfl)
      clear hf hp
      refine stepAt_plain rfl ?_
      exact stepOK_add ((beS 4 x.h ++ hS x.l ++ hS x.t)) ((beS 8 x.n)) ((beS 4 x.h ++ hS x.l ++ hS x.t ++ beS 8 x.n)) rfl h14 h17 (by omega) (rfl) rfl
    refine ⟨fun t w1 hf hk hp => ?_, ?_⟩
    · have h18 : slot t 18 = .string (beS 4 x.h ++ hS x.l ++ hS x.t ++ beS 8 x.n) := hp 18 (by kernel_rfl)
      clear hf hp
      refine stepAt_plain rfl ?_
      exact stepOK_move _ (.inr rfl) h18
    exact trivial
  · intro t w1 hsz hf hk hfacts
    have h2 : slot t 2 = .string (beS 4 x.h ++ hS x.l ++ hS x.t ++ beS 8 x.n) := hfacts 16 _ rfl 2 rfl
    have h1 : slot t 1 = .pointer (some ⟨w.heap.size, 0, none⟩) := hf 1 (by kernel_rfl)
    have harr : t = #[slot t 0, slot t 1, slot t 2, slot t 3, slot t 4, slot t 5, slot t 6, slot t 7, slot t 8, slot t 9, slot t 10, slot t 11, slot t 12, slot t 13, slot t 14, slot t 15, slot t 16, slot t 17, slot t 18] := arr_eq t 19 hsz
    rw [harr, h2, h1]
    clear harr hfacts hf h2 h1
    generalize slot t 0 = x0; generalize slot t 3 = x3; generalize slot t 4 = x4; generalize slot t 5 = x5; generalize slot t 6 = x6; generalize slot t 7 = x7; generalize slot t 8 = x8; generalize slot t 9 = x9; generalize slot t 10 = x10; generalize slot t 11 = x11; generalize slot t 12 = x12; generalize slot t 13 = x13
    generalize slot t 14 = x14; generalize slot t 15 = x15; generalize slot t 16 = x16; generalize slot t 17 = x17; generalize slot t 18 = x18
    clear hsz t
    have K2 := Lib.hid (K1.out.trans hk)
    clear hk
    go_wp2_with fail
    go_ret
    exact ⟨rfl, K2.out⟩
theorem execAllocHd {o : Oper} {t : Array Value} (w : World) (ho : o.op = .alloc 32) : (execOp (evS t) o).run Tryd.prog w = .ok (.value (.pointer (some ⟨w.heap.size, 0, none⟩))) (w.alloc (.cells (hdC hdZ) 32)) := by
  unfold execOp
  rw [ho]
  kernel_rfl
theorem execBuildHn {o : Oper} {t : Array Value} {x y : Operand} (h n : Nat) (w : World) (ho : o.op = .build 32 #[(0, x), (3, y)]) (hx : evS t x = .int .u32 (h : Int)) (hy : evS t y = .int .u64 (n : Int)) :
    (execOp (evS t) o).run Tryd.prog w = .ok (.value (.agg (hdC ⟨h, List.replicate 32 0, List.replicate 32 0, n⟩))) w := by
  have hr := run_buildHn (h : Int) (n : Int) w h n rfl rfl
  unfold execOp
  simp [ho, hx, hy, hr, Result.andThen_ok]
theorem execBuildH0 {o : Oper} {t : Array Value} (w : World) (ho : o.op = .build 32 #[]) : (execOp (evS t) o).run Tryd.prog w = .ok (.value (.agg (hdC hdZ))) w := by
  have hr := run_buildH0 w
  unfold execOp
  simp [ho, hr, Result.andThen_ok]
end Go.Proofs.YtncnlmjhejminaaDoor
