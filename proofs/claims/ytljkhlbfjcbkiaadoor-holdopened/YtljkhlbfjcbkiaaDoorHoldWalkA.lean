/-
  Contracts of hold.May, of the reference's May, and of hold.joined. Conditions: sha's table of round constants stands (joined).
-/
import Derived.Test.YtljkhlbfjcbkiaaDoorOpe
import Derived.Test.YtljkhlbfjcbkiaaDoorHoldMath
import Derived.BigQuiet
namespace Go.Proofs.YtljkhlbfjcbkiaaDoor
set_option maxRecDepth 4000
open Go.RowKit

theorem loadHr {o : Oper} {t : Array Value} {x : Operand} {w : World} {g : Nat} {l : List UInt8} (ho : o.op = .load 23 x) (hx : evS t x = .pointer (some ⟨g, 0, none⟩)) (hg : Rowz w g (bC 32 l) 23) :
    (execOp (evS t) o).run Tryd.prog w = .ok (.value (.agg (bC 32 l))) w :=
  execLoadRow 23 ho g hx _ 23 _ hg Tryd.underlying23 rfl (info_hash _)

set_option maxRecDepth 100000 in
set_option maxHeartbeats 1000000 in
theorem holdMay_any (I N : Int) (p : Option Addr) (m c : Nat) (w : World) :
    Calls Tryd.prog 9 #[.agg #[.int .i64 I, .int .i64 N, .slice p m c]] w fun e w' => e = .returned (.int .i64 (mayE I N m)) ∧ Kept w w' := by
  have K1 := Lib.hid ((Kept.refl w).alloc (.cells #[.int .i64 I, .int .i64 N, .slice p m c] 26))
  have R1 := Lib.hid (Rowz.new w #[.int .i64 I, .int .i64 N, .slice p m c] 26)
  by_cases h1 : N < 1
  · rw [mayE_bad (by omega)]
    have hd1 : decide (N < 1) = true := decide_eq_true h1
    clear h1 R1
    go_enter Tryd.func9, Tryd.ntmps9
    go_wp2_with fail
    go_ret
    exact ⟨rfl, K1.out⟩
  have hd1 : decide (N < 1) = false := decide_eq_false h1
  by_cases h2 : N > 1048576
  · rw [mayE_bad (by omega)]
    have hd2 : decide (N > 1048576) = true := decide_eq_true h2
    clear h1 h2 R1
    go_enter Tryd.func9, Tryd.ntmps9
    go_wp2_with fail
    go_ret
    exact ⟨rfl, K1.out⟩
  have hd2 : decide (N > 1048576) = false := decide_eq_false h2
  by_cases h3 : I < 0
  · rw [mayE_bad (by omega)]
    have hd3 : decide (I < 0) = true := decide_eq_true h3
    clear h1 h2 h3 R1
    go_enter Tryd.func9, Tryd.ntmps9
    go_wp2_with fail
    go_ret
    exact ⟨rfl, K1.out⟩
  have hd3 : decide (I < 0) = false := decide_eq_false h3
  by_cases h4 : I ≥ N
  · rw [mayE_bad (by omega)]
    have hd4 : decide (I ≥ N) = true := decide_eq_true h4
    have hd4' : decide (N ≤ I) = true := decide_eq_true h4
    clear h1 h2 h3 h4 R1
    go_enter Tryd.func9, Tryd.ntmps9
    go_wp2_with fail
    go_ret
    exact ⟨rfl, K1.out⟩
  have hd4 : decide (I ≥ N) = false := decide_eq_false h4
  have hd4' : decide (N ≤ I) = false := decide_eq_false h4
  rw [mayE_good (by omega)]
  have HD : Hid (∀ w, _) := Lib.hid fun w => shapeDepth_any N I w (by omega)
  have hBE : ((m : Int) != depthI N I) = !decide ((m : Int) = depthI N I) := by
    by_cases h : (m : Int) = depthI N I
    · rw [decide_eq_true h]; simp [h]
    · rw [decide_eq_false h]; simp [h]
  have hpost : (if (m : Int) = depthI N I then (0 : Int) else 2) = bif decide ((m : Int) = depthI N I) then 0 else 2 := by
    by_cases h : (m : Int) = depthI N I
    · rw [if_pos h, decide_eq_true h]; rfl
    · rw [if_neg h, decide_eq_false h]; rfl
  rw [hpost]
  clear hpost h1 h2 h3 h4
  generalize decide ((m : Int) = depthI N I) = B at hBE ⊢
  generalize depthI N I = D at HD hBE
  go_enter Tryd.func9, Tryd.ntmps9
  go_wp2_with fail
  change Code.wp _ _ _ _ (w.alloc (.cells #[.int .i64 I, .int .i64 N, .slice p m c] 26))
  generalize w.alloc (.cells #[.int .i64 I, .int .i64 N, .slice p m c] 26) = v at K1 R1 ⊢
  refine wp_region_table [(23, .is (.pointer (some ⟨w.heap.size, 2, none⟩))), (24, .is (.slice p m c)), (25, .is (.int .i64 (m : Int))), (26, .is (.pointer (some ⟨w.heap.size, 1, none⟩))), (27, .is (.int .i64 N)), (28, .is (.pointer (some ⟨w.heap.size, 0, none⟩))), (29, .is (.int .i64 I)), (30, .is (.int .i64 D)), (31, .is (.bool (!B)))] (by kernel_rfl) (by kernel_rfl) ?_ ?_
  · refine ⟨fun t w1 hf hk hp => ?_, ?_⟩
    · have h1 : slot t 1 = .pointer (some ⟨w.heap.size, 0, none⟩) := hf 1 (by kernel_rfl)
      clear hf hp
      refine stepAt_plain rfl ?_
      exact stepOK_pure (.pointer (some ⟨w.heap.size, 2, none⟩)) (execFieldO w.heap.size 2 (by omega) w1 rfl h1) rfl
    refine ⟨fun t w1 hf hk hp => ?_, ?_⟩
    · have h23 : slot t 23 = .pointer (some ⟨w.heap.size, 2, none⟩) := hp 23 (by kernel_rfl)
      clear hf hp
      refine stepAt_plain rfl ?_
      have hq0 := run_loadHs ((R1.out.kept hk).cell 2)
      exact stepOK_sem (.slice p m c) (by simp only [execOp, evS, h23]) hq0 rfl
    refine ⟨fun t w1 hf hk hp => ?_, ?_⟩
    · have h24 : slot t 24 = .slice p m c := hp 24 (by kernel_rfl)
      clear hf hp
      refine stepAt_plain rfl ?_
      exact stepOK_pure (.int .i64 (m : Int)) (execLenHs w1 rfl h24) rfl
    refine ⟨fun t w1 hf hk hp => ?_, ?_⟩
    · have h1 : slot t 1 = .pointer (some ⟨w.heap.size, 0, none⟩) := hf 1 (by kernel_rfl)
      clear hf hp
      refine stepAt_plain rfl ?_
      exact stepOK_pure (.pointer (some ⟨w.heap.size, 1, none⟩)) (execFieldO w.heap.size 1 (by omega) w1 rfl h1) rfl
    refine ⟨fun t w1 hf hk hp => ?_, ?_⟩
    · have h26 : slot t 26 = .pointer (some ⟨w.heap.size, 1, none⟩) := hp 26 (by kernel_rfl)
      clear hf hp
      refine stepAt_plain rfl ?_
      have hq0 := run_loadI ((R1.out.kept hk).cell 1)
      exact stepOK_sem (.int .i64 N) (by simp only [execOp, evS, h26]) hq0 rfl
    refine ⟨fun t w1 hf hk hp => ?_, ?_⟩
    · have h1 : slot t 1 = .pointer (some ⟨w.heap.size, 0, none⟩) := hf 1 (by kernel_rfl)
      clear hf hp
      refine stepAt_plain rfl ?_
      exact stepOK_pure (.pointer (some ⟨w.heap.size, 0, none⟩)) (execFieldO w.heap.size 0 (by omega) w1 rfl h1) rfl
    refine ⟨fun t w1 hf hk hp => ?_, ?_⟩
    · have h28 : slot t 28 = .pointer (some ⟨w.heap.size, 0, none⟩) := hp 28 (by kernel_rfl)
      clear hf hp
      refine stepAt_plain rfl ?_
      have hq0 := run_loadI ((R1.out.kept hk).cell 0)
      exact stepOK_sem (.int .i64 I) (by simp only [execOp, evS, h28]) hq0 rfl
    refine ⟨fun t w1 hf hk hp => ?_, ?_⟩
    · have h27 : slot t 27 = .int .i64 N := hp 27 (by kernel_rfl)
      have h29 : slot t 29 = .int .i64 I := hp 29 (by kernel_rfl)
      clear hf hp
      refine stepAt_plain rfl ?_
      refine stepOK_call #[.int .i64 N, .int .i64 I] rfl (by simp only [List.map_toArray, List.map_cons, List.map_nil, evS, h27, h29]) (by go_simp) ((HD.out w1).mono fun e w' ⟨he, hk'⟩ => ⟨_, he, hk', rfl⟩)
    refine ⟨fun t w1 hf hk hp => ?_, ?_⟩
    · have h25 : slot t 25 = .int .i64 (m : Int) := hp 25 (by kernel_rfl)
      have h30 : slot t 30 = .int .i64 D := hp 30 (by kernel_rfl)
      clear hf hp
      refine stepAt_plain rfl ?_
      have hq0 := hBE
      refine stepOK_pure (.bool (!B)) ?_ rfl
      simp only [execOp, evS, h25, h30]
      go_simp
    exact trivial
  · intro t w1 hsz hf hk hfacts
    have h31 : slot t 31 = .bool (!B) := hfacts 8 _ rfl 31 rfl
    have h1 : slot t 1 = .pointer (some ⟨w.heap.size, 0, none⟩) := hf 1 (by kernel_rfl)
    have harr : t = #[slot t 0, slot t 1, slot t 2, slot t 3, slot t 4, slot t 5, slot t 6, slot t 7, slot t 8, slot t 9, slot t 10, slot t 11, slot t 12, slot t 13, slot t 14, slot t 15, slot t 16, slot t 17, slot t 18, slot t 19, slot t 20, slot t 21, slot t 22, slot t 23, slot t 24, slot t 25, slot t 26, slot t 27, slot t 28, slot t 29, slot t 30, slot t 31] := arr_eq t 32 hsz
    rw [harr, h31, h1]
    clear harr hfacts hf h31 h1
    generalize slot t 0 = x0; generalize slot t 2 = x2; generalize slot t 3 = x3; generalize slot t 4 = x4; generalize slot t 5 = x5; generalize slot t 6 = x6; generalize slot t 7 = x7; generalize slot t 8 = x8; generalize slot t 9 = x9; generalize slot t 10 = x10; generalize slot t 11 = x11; generalize slot t 12 = x12
    generalize slot t 13 = x13; generalize slot t 14 = x14; generalize slot t 15 = x15; generalize slot t 16 = x16; generalize slot t 17 = x17; generalize slot t 18 = x18; generalize slot t 19 = x19; generalize slot t 20 = x20; generalize slot t 21 = x21; generalize slot t 22 = x22; generalize slot t 23 = x23; generalize slot t 24 = x24
    generalize slot t 25 = x25; generalize slot t 26 = x26; generalize slot t 27 = x27; generalize slot t 28 = x28; generalize slot t 29 = x29; generalize slot t 30 = x30
    clear hsz t
    have K2 := Lib.hid (K1.out.trans hk)
    clear hk hBE
    cases B with
    | true =>
      go_wp2_with fail
      go_ret
      exact ⟨rfl, K2.out⟩
    | false =>
      go_wp2_with fail
      go_ret
      exact ⟨rfl, K2.out⟩

set_option maxRecDepth 100000 in
set_option maxHeartbeats 1000000 in
theorem refMay_any (I N : Int) (p : Option Addr) (m c : Nat) (w : World) :
    Calls Tryd.prog 10 #[.agg #[.int .i64 I, .int .i64 N, .slice p m c]] w fun e w' => e = .returned (.int .i64 (mayE I N m)) ∧ Kept w w' := by
  have K1 := Lib.hid ((Kept.refl w).alloc (.cells #[.int .i64 I, .int .i64 N, .slice p m c] 26))
  have R1 := Lib.hid (Rowz.new w #[.int .i64 I, .int .i64 N, .slice p m c] 26)
  by_cases h1 : N < 1
  · rw [mayE_bad (by omega)]
    have hd1 : decide (N < 1) = true := decide_eq_true h1
    clear h1 R1
    go_enter Tryd.func10, Tryd.ntmps10
    go_wp2_with fail
    go_ret
    exact ⟨rfl, K1.out⟩
  have hd1 : decide (N < 1) = false := decide_eq_false h1
  by_cases h2 : N > 1048576
  · rw [mayE_bad (by omega)]
    have hd2 : decide (N > 1048576) = true := decide_eq_true h2
    clear h1 h2 R1
    go_enter Tryd.func10, Tryd.ntmps10
    go_wp2_with fail
    go_ret
    exact ⟨rfl, K1.out⟩
  have hd2 : decide (N > 1048576) = false := decide_eq_false h2
  by_cases h3 : I < 0
  · rw [mayE_bad (by omega)]
    have hd3 : decide (I < 0) = true := decide_eq_true h3
    clear h1 h2 h3 R1
    go_enter Tryd.func10, Tryd.ntmps10
    go_wp2_with fail
    go_ret
    exact ⟨rfl, K1.out⟩
  have hd3 : decide (I < 0) = false := decide_eq_false h3
  by_cases h4 : I ≥ N
  · rw [mayE_bad (by omega)]
    have hd4 : decide (I ≥ N) = true := decide_eq_true h4
    have hd4' : decide (N ≤ I) = true := decide_eq_true h4
    clear h1 h2 h3 h4 R1
    go_enter Tryd.func10, Tryd.ntmps10
    go_wp2_with fail
    go_ret
    exact ⟨rfl, K1.out⟩
  have hd4 : decide (I ≥ N) = false := decide_eq_false h4
  have hd4' : decide (N ≤ I) = false := decide_eq_false h4
  rw [mayE_good (by omega)]
  have HD : Hid (∀ w, _) := Lib.hid fun w => refDepth_any N I w (by omega)
  have hBE : ((m : Int) != depthI N I) = !decide ((m : Int) = depthI N I) := by
    by_cases h : (m : Int) = depthI N I
    · rw [decide_eq_true h]; simp [h]
    · rw [decide_eq_false h]; simp [h]
  have hpost : (if (m : Int) = depthI N I then (0 : Int) else 2) = bif decide ((m : Int) = depthI N I) then 0 else 2 := by
    by_cases h : (m : Int) = depthI N I
    · rw [if_pos h, decide_eq_true h]; rfl
    · rw [if_neg h, decide_eq_false h]; rfl
  rw [hpost]
  clear hpost h1 h2 h3 h4
  generalize decide ((m : Int) = depthI N I) = B at hBE ⊢
  generalize depthI N I = D at HD hBE
  go_enter Tryd.func10, Tryd.ntmps10
  go_wp2_with fail
  change Code.wp _ _ _ _ (w.alloc (.cells #[.int .i64 I, .int .i64 N, .slice p m c] 26))
  generalize w.alloc (.cells #[.int .i64 I, .int .i64 N, .slice p m c] 26) = v at K1 R1 ⊢
  refine wp_region_table [(23, .is (.pointer (some ⟨w.heap.size, 2, none⟩))), (24, .is (.slice p m c)), (25, .is (.int .i64 (m : Int))), (26, .is (.pointer (some ⟨w.heap.size, 1, none⟩))), (27, .is (.int .i64 N)), (28, .is (.pointer (some ⟨w.heap.size, 0, none⟩))), (29, .is (.int .i64 I)), (30, .is (.int .i64 D)), (31, .is (.bool (!B)))] (by kernel_rfl) (by kernel_rfl) ?_ ?_
  · refine ⟨fun t w1 hf hk hp => ?_, ?_⟩
    · have h1 : slot t 1 = .pointer (some ⟨w.heap.size, 0, none⟩) := hf 1 (by kernel_rfl)
      clear hf hp
      refine stepAt_plain rfl ?_
      exact stepOK_pure (.pointer (some ⟨w.heap.size, 2, none⟩)) (execFieldO w.heap.size 2 (by omega) w1 rfl h1) rfl
    refine ⟨fun t w1 hf hk hp => ?_, ?_⟩
    · have h23 : slot t 23 = .pointer (some ⟨w.heap.size, 2, none⟩) := hp 23 (by kernel_rfl)
      clear hf hp
      refine stepAt_plain rfl ?_
      have hq0 := run_loadHs ((R1.out.kept hk).cell 2)
      exact stepOK_sem (.slice p m c) (by simp only [execOp, evS, h23]) hq0 rfl
    refine ⟨fun t w1 hf hk hp => ?_, ?_⟩
    · have h24 : slot t 24 = .slice p m c := hp 24 (by kernel_rfl)
      clear hf hp
      refine stepAt_plain rfl ?_
      exact stepOK_pure (.int .i64 (m : Int)) (execLenHs w1 rfl h24) rfl
    refine ⟨fun t w1 hf hk hp => ?_, ?_⟩
    · have h1 : slot t 1 = .pointer (some ⟨w.heap.size, 0, none⟩) := hf 1 (by kernel_rfl)
      clear hf hp
      refine stepAt_plain rfl ?_
      exact stepOK_pure (.pointer (some ⟨w.heap.size, 1, none⟩)) (execFieldO w.heap.size 1 (by omega) w1 rfl h1) rfl
    refine ⟨fun t w1 hf hk hp => ?_, ?_⟩
    · have h26 : slot t 26 = .pointer (some ⟨w.heap.size, 1, none⟩) := hp 26 (by kernel_rfl)
      clear hf hp
      refine stepAt_plain rfl ?_
      have hq0 := run_loadI ((R1.out.kept hk).cell 1)
      exact stepOK_sem (.int .i64 N) (by simp only [execOp, evS, h26]) hq0 rfl
    refine ⟨fun t w1 hf hk hp => ?_, ?_⟩
    · have h1 : slot t 1 = .pointer (some ⟨w.heap.size, 0, none⟩) := hf 1 (by kernel_rfl)
      clear hf hp
      refine stepAt_plain rfl ?_
      exact stepOK_pure (.pointer (some ⟨w.heap.size, 0, none⟩)) (execFieldO w.heap.size 0 (by omega) w1 rfl h1) rfl
    refine ⟨fun t w1 hf hk hp => ?_, ?_⟩
    · have h28 : slot t 28 = .pointer (some ⟨w.heap.size, 0, none⟩) := hp 28 (by kernel_rfl)
      clear hf hp
      refine stepAt_plain rfl ?_
      have hq0 := run_loadI ((R1.out.kept hk).cell 0)
      exact stepOK_sem (.int .i64 I) (by simp only [execOp, evS, h28]) hq0 rfl
    refine ⟨fun t w1 hf hk hp => ?_, ?_⟩
    · have h27 : slot t 27 = .int .i64 N := hp 27 (by kernel_rfl)
      have h29 : slot t 29 = .int .i64 I := hp 29 (by kernel_rfl)
      clear hf hp
      refine stepAt_plain rfl ?_
      refine stepOK_call #[.int .i64 N, .int .i64 I] rfl (by simp only [List.map_toArray, List.map_cons, List.map_nil, evS, h27, h29]) (by go_simp) ((HD.out w1).mono fun e w' ⟨he, hk'⟩ => ⟨_, he, hk', rfl⟩)
    refine ⟨fun t w1 hf hk hp => ?_, ?_⟩
    · have h25 : slot t 25 = .int .i64 (m : Int) := hp 25 (by kernel_rfl)
      have h30 : slot t 30 = .int .i64 D := hp 30 (by kernel_rfl)
      clear hf hp
      refine stepAt_plain rfl ?_
      have hq0 := hBE
      refine stepOK_pure (.bool (!B)) ?_ rfl
      simp only [execOp, evS, h25, h30]
      go_simp
    exact trivial
  · intro t w1 hsz hf hk hfacts
    have h31 : slot t 31 = .bool (!B) := hfacts 8 _ rfl 31 rfl
    have h1 : slot t 1 = .pointer (some ⟨w.heap.size, 0, none⟩) := hf 1 (by kernel_rfl)
    have harr : t = #[slot t 0, slot t 1, slot t 2, slot t 3, slot t 4, slot t 5, slot t 6, slot t 7, slot t 8, slot t 9, slot t 10, slot t 11, slot t 12, slot t 13, slot t 14, slot t 15, slot t 16, slot t 17, slot t 18, slot t 19, slot t 20, slot t 21, slot t 22, slot t 23, slot t 24, slot t 25, slot t 26, slot t 27, slot t 28, slot t 29, slot t 30, slot t 31] := arr_eq t 32 hsz
    rw [harr, h31, h1]
    clear harr hfacts hf h31 h1
    generalize slot t 0 = x0; generalize slot t 2 = x2; generalize slot t 3 = x3; generalize slot t 4 = x4; generalize slot t 5 = x5; generalize slot t 6 = x6; generalize slot t 7 = x7; generalize slot t 8 = x8; generalize slot t 9 = x9; generalize slot t 10 = x10; generalize slot t 11 = x11; generalize slot t 12 = x12
    generalize slot t 13 = x13; generalize slot t 14 = x14; generalize slot t 15 = x15; generalize slot t 16 = x16; generalize slot t 17 = x17; generalize slot t 18 = x18; generalize slot t 19 = x19; generalize slot t 20 = x20; generalize slot t 21 = x21; generalize slot t 22 = x22; generalize slot t 23 = x23; generalize slot t 24 = x24
    generalize slot t 25 = x25; generalize slot t 26 = x26; generalize slot t 27 = x27; generalize slot t 28 = x28; generalize slot t 29 = x29; generalize slot t 30 = x30
    clear hsz t
    have K2 := Lib.hid (K1.out.trans hk)
    clear hk hBE
    cases B with
    | true =>
      go_wp2_with fail
      go_ret
      exact ⟨rfl, K2.out⟩
    | false =>
      go_wp2_with fail
      go_ret
      exact ⟨rfl, K2.out⟩

set_option maxRecDepth 100000 in
set_option maxHeartbeats 1000000 in
theorem holdJoined_any (a b : List UInt8) (r : Bool) (ha : a.length = 32) (hb : b.length = 32) (w : World) (ht : Tab w) :
    Calls Tryd.prog 26 #[.agg (bC 32 a), .agg (bC 32 b), .bool r] w fun e w' => e = .returned (.agg (bC 32 (stepU a (r, b)))) ∧ Kept w w' := by
  have HN1 : Hid (∀ w, Tab w → _) := Lib.hid fun w ht => tagNodeSum_any a b ha hb w ht
  have HN2 : Hid (∀ w, Tab w → _) := Lib.hid fun w ht => tagNodeSum_any b a hb ha w ht
  have A0 : Hid (Rowz (((w.alloc (.cells (bC 32 a) 23)).alloc (.cells (bC 32 b) 23)).alloc (.cells (bC 32 []) 23)) (w.heap.size + 2) (bC 32 []) 23) := Lib.hid (by
    have h := Rowz.new ((w.alloc (.cells (bC 32 a) 23)).alloc (.cells (bC 32 b) 23)) (bC 32 []) 23
    simpa using h)
  have K0 : Hid (Kept w (((w.alloc (.cells (bC 32 a) 23)).alloc (.cells (bC 32 b) 23)).alloc (.cells (bC 32 []) 23))) := Lib.hid ((((Kept.refl w).alloc (.cells (bC 32 a) 23)).alloc (.cells (bC 32 b) 23)).alloc (.cells (bC 32 []) 23))
  have T0 := Lib.hid (ht.kept K0.out)
  clear ht
  cases r with
  | true =>
    rw [show stepU a (true, b) = shaL (nodeS b a) from rfl]
    generalize shaL (nodeS b a) = B at HN2 ⊢
    clear HN1
    go_enter Tryd.func26, Tryd.ntmps26
    go_wp2_with (first | (refine wpList_load_row rfl 23 _ rfl w.heap.size rfl 23 (bC 32 a) (0, 0) _ (by exact ((Rowz.new w _ _).alloc _).alloc _) Tryd.underlying23 rfl (info_hash _) ?_) | (refine wpList_load_row rfl 23 _ rfl (w.heap.size + 1) rfl 23 (bC 32 b) (0, 0) _ (by exact (Rowz.newEq1 w _ _ _ _ rfl).alloc _) Tryd.underlying23 rfl (info_hash _) ?_))
    change Calls _ _ _ (((w.alloc (.cells (bC 32 a) 23)).alloc (.cells (bC 32 b) 23)).alloc (.cells (bC 32 []) 23)) _
    generalize ((w.alloc (.cells (bC 32 a) 23)).alloc (.cells (bC 32 b) 23)).alloc (.cells (bC 32 []) 23) = v at A0 K0 T0 ⊢
    refine (HN2.out v T0.out).mono ?_
    rintro e v1 ⟨rfl, hk1⟩
    have E1 := Lib.hid (A0.out.kept hk1)
    have E3 := Lib.hid (K0.out.trans hk1)
    go_wp2_with (refine wpList_store_row rfl 23 _ _ rfl (w.heap.size + 2) (bC 32 B) rfl rfl 23 (bC 32 []) E1.out (info_hash _) (by simp [bC_size]) (bC_one _ _) ?_)
    refine bodyPost_ret (v := .agg (bC 32 B)) (results_cell_row Tryd.results26 _ _ (w.heap.size + 2) 23 _ (0, 0) _ rfl E1.out.row Tryd.underlying23 rfl (info_hash _)) rfl ⟨rfl, ?_⟩
    exact E3.out.setRow (by omega) _
  | false =>
    rw [show stepU a (false, b) = shaL (nodeS a b) from rfl]
    generalize shaL (nodeS a b) = B at HN1 ⊢
    clear HN2
    go_enter Tryd.func26, Tryd.ntmps26
    go_wp2_with (first | (refine wpList_load_row rfl 23 _ rfl w.heap.size rfl 23 (bC 32 a) (0, 0) _ (by exact ((Rowz.new w _ _).alloc _).alloc _) Tryd.underlying23 rfl (info_hash _) ?_) | (refine wpList_load_row rfl 23 _ rfl (w.heap.size + 1) rfl 23 (bC 32 b) (0, 0) _ (by exact (Rowz.newEq1 w _ _ _ _ rfl).alloc _) Tryd.underlying23 rfl (info_hash _) ?_))
    change Calls _ _ _ (((w.alloc (.cells (bC 32 a) 23)).alloc (.cells (bC 32 b) 23)).alloc (.cells (bC 32 []) 23)) _
    generalize ((w.alloc (.cells (bC 32 a) 23)).alloc (.cells (bC 32 b) 23)).alloc (.cells (bC 32 []) 23) = v at A0 K0 T0 ⊢
    refine (HN1.out v T0.out).mono ?_
    rintro e v1 ⟨rfl, hk1⟩
    have E1 := Lib.hid (A0.out.kept hk1)
    have E3 := Lib.hid (K0.out.trans hk1)
    go_wp2_with (refine wpList_store_row rfl 23 _ _ rfl (w.heap.size + 2) (bC 32 B) rfl rfl 23 (bC 32 []) E1.out (info_hash _) (by simp [bC_size]) (bC_one _ _) ?_)
    refine bodyPost_ret (v := .agg (bC 32 B)) (results_cell_row Tryd.results26 _ _ (w.heap.size + 2) 23 _ (0, 0) _ rfl E1.out.row Tryd.underlying23 rfl (info_hash _)) rfl ⟨rfl, ?_⟩
    exact E3.out.setRow (by omega) _
end Go.Proofs.YtljkhlbfjcbkiaaDoor
