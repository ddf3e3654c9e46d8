/-
  Contract of the reference's up. Conditions: the leaf exists; the path has as many hashes as the way up has steps.
-/
import Derived.Test.YtljkhlbfjcbkiaaDoorHoldWalkA
namespace Go.Proofs.YtljkhlbfjcbkiaaDoor
set_option maxRecDepth 4000
open Go.RowKit

theorem run_cutH_init (q : Addr) (n c m : Nat) (w : World) (hm : m ≤ c) :
    (Instr.sliceAt 24 (.slice (some q) n c) none (some (.int .i64 (m : Int))) none).run Tryd.prog w = .ok (.slice (some q) m c) w := run_cutH_left q n c m w hm
theorem fl_init {m : Nat} (F : Nat → List UInt8) (h : 0 < m) : fl m F = fl (m - 1) F ++ [F (m - 1)] := by
  obtain ⟨k, rfl⟩ : ∃ k, m = k + 1 := ⟨m - 1, by omega⟩
  exact fl_snoc k F
def UpOkR (f : FuncId) (n : Nat) : Prop := ∀ (p : Option Addr) (m c : Nat) (F : Nat → List UInt8) (i : Nat) (h : List UInt8) (w : World), m ≤ c → c ≤ maxLen → i < n → n ≤ 1048576 → m = (sidesN n i).length → h.length = 32 → HAt w p m F →
    Calls Tryd.prog f #[.int .i64 (n : Int), .int .i64 (i : Int), .agg (bC 32 h), .slice p m c] w fun e w' => e = .returned (.agg (bC 32 (upL n i h (fl m F)))) ∧ Kept w w'
set_option maxRecDepth 100000 in
set_option maxHeartbeats 2000000 in
theorem refUp_any (n : Nat) : UpOkR 22 n := by
  induction n using Nat.strongRecOn with
  | _ n ih =>
    intro p m c F i h w hc hm hi hn hml hh hF
    have A0 : Hid (Rowz ((w.alloc (.cells (bC 32 h) 23)).alloc (.cells (bC 32 []) 23)) w.heap.size (bC 32 h) 23) := Lib.hid ((Rowz.new w _ _).alloc _)
    have A1 : Hid (Rowz ((w.alloc (.cells (bC 32 h) 23)).alloc (.cells (bC 32 []) 23)) (w.heap.size + 1) (bC 32 []) 23) := Lib.hid (Rowz.newEq1 w _ _ _ _ rfl)
    have K0 : Hid (Kept w ((w.alloc (.cells (bC 32 h) 23)).alloc (.cells (bC 32 []) 23))) := Lib.hid (((Kept.refl w).alloc _).alloc _)
    by_cases h1 : n < 2
    · obtain rfl : n = 1 := by omega
      rw [upL_one i (by omega)]
      clear ih hF hml
      go_enter Tryd.func22, Tryd.ntmps22
      go_wp2_with (first
        | (refine wpList_load_row rfl 23 _ rfl w.heap.size rfl 23 (bC 32 h) (0, 0) _ (by exact A0.out) Tryd.underlying23 rfl (info_hash _) ?_)
        | (refine wpList_store_row rfl 23 _ _ rfl (w.heap.size + 1) (bC 32 h) rfl rfl 23 (bC 32 []) A1.out (info_hash _) (by simp [bC_size]) (bC_one _ _) ?_))
      refine bodyPost_ret (v := .agg (bC 32 h)) (results_cell_row Tryd.results22 _ _ (w.heap.size + 1) 23 _ (0, 0) _ rfl A1.out.row Tryd.underlying23 rfl (info_hash _)) rfl ⟨rfl, ?_⟩
      exact K0.out.setRow (by omega) _
    · have h2 : 2 ≤ n := by omega
      have hL := leftN_lt h2
      have hP := leftN_pos h2
      have hd0 : ((n : Int) == 1) = false := by rw [beq_eq_false_iff_ne]; omega
      have hd0' : ¬ (n : Int) = 1 := by omega
      have hSL : Hid (∀ w, Calls Tryd.prog 38 #[.int .i64 (n : Int)] w fun e w' => e = .returned (.int .i64 (leftN n : Int)) ∧ w = w') := Lib.hid fun w => refLeft_any (n : Int) w (by omega)
      by_cases hl : i < leftN n
      · have hs : (sidesN n i).length = (sidesN (leftN n) i).length + 1 := by rw [sidesN_left h2 hl, List.length_append]; rfl
        obtain ⟨k, rfl⟩ : ∃ k, m = k + 1 := ⟨m - 1, by omega⟩
        obtain ⟨q, rfl, _⟩ := hF.some (by omega)
        have HC : Hid (∀ w, HAt w (some q) (k + 1) F → _) := Lib.hid fun w hF => ih (leftN n) hL (some q) k c F i h w (by omega) hm hl (by omega) (by omega) hh (hF.left k (by omega))
        have hkF := hF.length k (by omega)
        have e1 : fl (k + 1) F = fl k F ++ [F k] := fl_snoc k F
        rw [e1, upL_left h2 hl h _ _ (by rw [fl_length]; omega)]
        have hu := upL_length (leftN n) i h (fl k F) hh
        have HN : Hid (∀ w, _) := Lib.hid fun w => refNodeSum_any (upL (leftN n) i h (fl k F)) (F k) hu hkF w
        have hd1 : decide ((i : Int) < (leftN n : Int)) = true := decide_eq_true (by omega)
        have hd1' : decide (i < leftN n) = true := decide_eq_true hl
        have hk63 : k < 9223372036854775807 := by unfold maxLen at hm; omega
        have hsub : IntKind.i64.wrap (((k + 1 : Nat) : Int) - 1) = (k : Int) := by simp only [IntKind.wrap, IntKind.signed, IntKind.bits]; simp; omega
        clear ih hu e1 hs hml
        generalize upL (leftN n) i h (fl k F) = B at HC HN ⊢
        generalize leftN n = l at hL hP hSL hl HC hd1 hd1'
        have HF := Lib.hid hF
        clear hF
        go_enter Tryd.func22, Tryd.ntmps22
        go_wp2_with fail
        change Calls _ _ _ ((w.alloc (.cells (bC 32 h) 23)).alloc (.cells (bC 32 []) 23)) _
        generalize (w.alloc (.cells (bC 32 h) 23)).alloc (.cells (bC 32 []) 23) = v at A0 A1 K0 ⊢
        refine (hSL.out _).mono ?_
        rintro e v1 ⟨rfl, rfl⟩
        go_wp2_with fail
        refine wp_region_tail 12 [(22, .is (.int .i64 (l : Int))), (23, .is (.int .i64 (i : Int))), (24, .is (.agg (bC 32 h))), (25, .is (.slice (some q) (k + 1) c)), (26, .is (.int .i64 (k : Int))), (27, .is (.slice (some q) k c)), (28, .is (.agg (bC 32 B))), (29, .is (.slice (some q) (k + 1) c)), (30, .is (.int .i64 (k : Int))), (31, .is (.pointer (some (q.add (k * 32))))), (32, .is (.agg (bC 32 (F k)))), (33, .is (.agg (bC 32 (shaL (nodeS B (F k))))))] (by kernel_rfl) (by kernel_rfl) ?_ ?_
        · refine ⟨fun t w1 hf hk hp => ?_, ?_⟩
          · have h9 : slot t 9 = .int .i64 (l : Int) := hf 9 (by kernel_rfl)
            clear hf hp
            refine stepM_at (by kernel_rfl) ?_
            refine stepAt_plain rfl ?_
            exact stepOK_move _ (.inl rfl) h9
          refine ⟨fun t w1 hf hk hp => ?_, ?_⟩
          · have h1 : slot t 1 = .int .i64 (i : Int) := hf 1 (by kernel_rfl)
            clear hf hp
            refine stepM_at (by kernel_rfl) ?_
            refine stepAt_plain rfl ?_
            exact stepOK_move _ (.inl rfl) h1
          refine ⟨fun t w1 hf hk hp => ?_, ?_⟩
          · have h6 : slot t 6 = .pointer (some ⟨w.heap.size, 0, none⟩) := hf 6 (by kernel_rfl)
            clear hf hp
            refine stepM_at (by kernel_rfl) ?_
            refine stepAt_plain rfl ?_
            exact stepOK_pure (.agg (bC 32 h)) (loadHr rfl h6 (A0.out.kept hk)) rfl
          refine ⟨fun t w1 hf hk hp => ?_, ?_⟩
          · have h3 : slot t 3 = .slice (some q) (k + 1) c := hf 3 (by kernel_rfl)
            clear hf hp
            refine stepM_at (by kernel_rfl) ?_
            refine stepAt_plain rfl ?_
            exact stepOK_move _ (.inl rfl) h3
          refine ⟨fun t w1 hf hk hp => ?_, ?_⟩
          · have h10 : slot t 10 = .int .i64 (k : Int) := hf 10 (by kernel_rfl)
            clear hf hp
            refine stepM_at (by kernel_rfl) ?_
            refine stepAt_plain rfl ?_
            exact stepOK_move _ (.inl rfl) h10
          refine ⟨fun t w1 hf hk hp => ?_, ?_⟩
          · have h25 : slot t 25 = .slice (some q) (k + 1) c := hp 25 (by kernel_rfl)
            have h26 : slot t 26 = .int .i64 (k : Int) := hp 26 (by kernel_rfl)
            clear hf hp
            refine stepM_at (by kernel_rfl) ?_
            refine stepAt_plain rfl ?_
            have hq0 := run_cutH_init q (k + 1) c k w1 (by omega)
            exact stepOK_sem (.slice (some q) k c) (by simp only [execOp, evS, Option.map_some, Option.map_none, h25, h26]) hq0 rfl
          refine ⟨fun t w1 hf hk hp => ?_, ?_⟩
          · have h22 : slot t 22 = .int .i64 (l : Int) := hp 22 (by kernel_rfl)
            have h23 : slot t 23 = .int .i64 (i : Int) := hp 23 (by kernel_rfl)
            have h24 : slot t 24 = .agg (bC 32 h) := hp 24 (by kernel_rfl)
            have h27 : slot t 27 = .slice (some q) k c := hp 27 (by kernel_rfl)
            clear hf hp
            refine stepM_at (by kernel_rfl) ?_
            refine stepAt_plain rfl ?_
            refine stepOK_call #[.int .i64 (l : Int), .int .i64 (i : Int), .agg (bC 32 h), .slice (some q) k c] rfl (by simp only [List.map_toArray, List.map_cons, List.map_nil, evS, h22, h23, h24, h27]) (by go_simp) ((HC.out w1 (HF.out.kept (K0.out.trans hk))).mono fun e w' ⟨he, hk'⟩ => ⟨_, he, hk', rfl⟩)
          refine ⟨fun t w1 hf hk hp => ?_, ?_⟩
          · have h3 : slot t 3 = .slice (some q) (k + 1) c := hf 3 (by kernel_rfl)
            clear hf hp
            refine stepM_at (by kernel_rfl) ?_
            refine stepAt_plain rfl ?_
            exact stepOK_move _ (.inl rfl) h3
          refine ⟨fun t w1 hf hk hp => ?_, ?_⟩
          · have h10 : slot t 10 = .int .i64 (k : Int) := hf 10 (by kernel_rfl)
            clear hf hp
            refine stepM_at (by kernel_rfl) ?_
            refine stepAt_plain rfl ?_
            exact stepOK_move _ (.inl rfl) h10
          refine ⟨fun t w1 hf hk hp => ?_, ?_⟩
          · have h29 : slot t 29 = .slice (some q) (k + 1) c := hp 29 (by kernel_rfl)
            have h30 : slot t 30 = .int .i64 (k : Int) := hp 30 (by kernel_rfl)
            clear hf hp
            refine stepM_at (by kernel_rfl) ?_
            refine stepAt_plain rfl ?_
            exact stepOK_pure (.pointer (some (q.add (k * 32)))) (execIndexH q (k + 1) c k (by omega) w1 rfl h29 h30) rfl
          refine ⟨fun t w1 hf hk hp => ?_, ?_⟩
          · have h31 : slot t 31 = .pointer (some (q.add (k * 32))) := hp 31 (by kernel_rfl)
            clear hf hp
            refine stepM_at (by kernel_rfl) ?_
            refine stepAt_plain rfl ?_
            have hq0 := (HF.out.kept (K0.out.trans hk)).load k (by omega)
            exact stepOK_sem (.agg (bC 32 (F k))) (by simp only [execOp, evS, h31]) hq0 rfl
          refine ⟨fun t w1 hf hk hp => ?_, ?_⟩
          · have h28 : slot t 28 = .agg (bC 32 B) := hp 28 (by kernel_rfl)
            have h32 : slot t 32 = .agg (bC 32 (F k)) := hp 32 (by kernel_rfl)
            clear hf hp
            refine stepM_at (by kernel_rfl) ?_
            refine stepAt_plain rfl ?_
            refine stepOK_call #[.agg (bC 32 B), .agg (bC 32 (F k))] rfl (by simp only [List.map_toArray, List.map_cons, List.map_nil, evS, h28, h32]) (by go_simp) ((HN.out w1).mono fun e w' ⟨he, hk'⟩ => ⟨_, he, hk', rfl⟩)
          exact trivial
        · intro t w1 hsz hf hk hfacts
          have h33 : slot t 33 = .agg (bC 32 (shaL (nodeS B (F k)))) := hfacts 11 _ (by decide) rfl 33 rfl
          have h0 : slot t 0 = .int .i64 (n : Int) := hf 0 (by kernel_rfl)
          have h1 : slot t 1 = .int .i64 (i : Int) := hf 1 (by kernel_rfl)
          have h3 : slot t 3 = .slice (some q) (k + 1) c := hf 3 (by kernel_rfl)
          have h6 : slot t 6 = .pointer (some ⟨w.heap.size, 0, none⟩) := hf 6 (by kernel_rfl)
          have h8 : slot t 8 = .pointer (some ⟨w.heap.size + 1, 0, none⟩) := hf 8 (by kernel_rfl)
          have h9 : slot t 9 = .int .i64 (l : Int) := hf 9 (by kernel_rfl)
          have h10 : slot t 10 = .int .i64 (k : Int) := hf 10 (by kernel_rfl)
          have harr : t = #[slot t 0, slot t 1, slot t 2, slot t 3, slot t 4, slot t 5, slot t 6, slot t 7, slot t 8, slot t 9, slot t 10, slot t 11, slot t 12, slot t 13, slot t 14, slot t 15, slot t 16, slot t 17, slot t 18, slot t 19, slot t 20, slot t 21, slot t 22, slot t 23, slot t 24, slot t 25, slot t 26, slot t 27, slot t 28, slot t 29, slot t 30, slot t 31, slot t 32, slot t 33, slot t 34, slot t 35, slot t 36, slot t 37, slot t 38, slot t 39, slot t 40, slot t 41, slot t 42, slot t 43, slot t 44, slot t 45, slot t 46, slot t 47, slot t 48, slot t 49] := arr_eq t 50 hsz
          rw [harr, h33, h0, h1, h3, h6, h8, h9, h10]
          clear harr hfacts hf h33 h0 h1 h3 h6 h8 h9 h10
          generalize slot t 2 = x2; generalize slot t 4 = x4; generalize slot t 5 = x5; generalize slot t 7 = x7; generalize slot t 11 = x11; generalize slot t 12 = x12; generalize slot t 13 = x13; generalize slot t 14 = x14; generalize slot t 15 = x15; generalize slot t 16 = x16; generalize slot t 17 = x17; generalize slot t 18 = x18
          generalize slot t 19 = x19; generalize slot t 20 = x20; generalize slot t 21 = x21; generalize slot t 22 = x22; generalize slot t 23 = x23; generalize slot t 24 = x24; generalize slot t 25 = x25; generalize slot t 26 = x26; generalize slot t 27 = x27; generalize slot t 28 = x28; generalize slot t 29 = x29; generalize slot t 30 = x30
          generalize slot t 31 = x31; generalize slot t 32 = x32; generalize slot t 34 = x34; generalize slot t 35 = x35; generalize slot t 36 = x36; generalize slot t 37 = x37; generalize slot t 38 = x38; generalize slot t 39 = x39; generalize slot t 40 = x40; generalize slot t 41 = x41; generalize slot t 42 = x42; generalize slot t 43 = x43
          generalize slot t 44 = x44; generalize slot t 45 = x45; generalize slot t 46 = x46; generalize slot t 47 = x47; generalize slot t 48 = x48; generalize slot t 49 = x49
          clear hsz t
          simp only [List.drop_succ_cons, List.drop_zero]
          have R2 := Lib.hid (A1.out.kept hk)
          have K2 := Lib.hid (K0.out.trans hk)
          clear hk
          go_wp2_with (refine wpList_store_row rfl 23 _ _ rfl (w.heap.size + 1) (bC 32 (shaL (nodeS B (F k)))) rfl rfl 23 (bC 32 []) R2.out (info_hash _) (by simp [bC_size]) (bC_one _ _) ?_)
          refine bodyPost_ret (v := .agg (bC 32 (shaL (nodeS B (F k))))) (results_cell_row Tryd.results22 _ _ (w.heap.size + 1) 23 _ (0, 0) _ rfl R2.out.row Tryd.underlying23 rfl (info_hash _)) rfl ⟨rfl, ?_⟩
          exact K2.out.setRow (by omega) _
      · have hs : (sidesN n i).length = (sidesN (n - leftN n) (i - leftN n)).length + 1 := by rw [sidesN_right h2 (by omega), List.length_append]; rfl
        obtain ⟨k, rfl⟩ : ∃ k, m = k + 1 := ⟨m - 1, by omega⟩
        obtain ⟨q, rfl, _⟩ := hF.some (by omega)
        have HC : Hid (∀ w, HAt w (some q) (k + 1) F → Calls Tryd.prog 22 #[.int .i64 ((n : Int) - (leftN n : Int)), .int .i64 ((i : Int) - (leftN n : Int)), .agg (bC 32 h), .slice (some q) k c] w fun e w' => e = .returned (.agg (bC 32 (upL (n - leftN n) (i - leftN n) h (fl k F)))) ∧ Kept w w') := Lib.hid fun w hF => by
          have hx := ih (n - leftN n) (by omega) (some q) k c F (i - leftN n) h w (by omega) hm (by omega) (by omega) (by omega) hh (hF.left k (by omega))
          rwa [show ((i - leftN n : Nat) : Int) = (i : Int) - (leftN n : Int) by omega, show ((n - leftN n : Nat) : Int) = (n : Int) - (leftN n : Int) by omega] at hx
        have hkF := hF.length k (by omega)
        have e1 : fl (k + 1) F = fl k F ++ [F k] := fl_snoc k F
        rw [e1, upL_right h2 (by omega) h _ _ (by rw [fl_length]; omega)]
        have hu := upL_length (n - leftN n) (i - leftN n) h (fl k F) hh
        have HN : Hid (∀ w, _) := Lib.hid fun w => refNodeSum_any (F k) (upL (n - leftN n) (i - leftN n) h (fl k F)) hkF hu w
        have hd1 : decide ((i : Int) < (leftN n : Int)) = false := decide_eq_false (by omega)
        have hd1' : decide (i < leftN n) = false := decide_eq_false hl
        have hk63 : k < 9223372036854775807 := by unfold maxLen at hm; omega
        have hi63 : i < 9223372036854775807 := by omega
        have hsub : IntKind.i64.wrap (((k + 1 : Nat) : Int) - 1) = (k : Int) := by simp only [IntKind.wrap, IntKind.signed, IntKind.bits]; simp; omega
        clear ih hu e1 hs hml
        generalize upL (n - leftN n) (i - leftN n) h (fl k F) = B at HC HN ⊢
        generalize leftN n = l at hL hP hSL hl HC hd1 hd1'
        have HF := Lib.hid hF
        clear hF
        go_enter Tryd.func22, Tryd.ntmps22
        go_wp2_with fail
        change Calls _ _ _ ((w.alloc (.cells (bC 32 h) 23)).alloc (.cells (bC 32 []) 23)) _
        generalize (w.alloc (.cells (bC 32 h) 23)).alloc (.cells (bC 32 []) 23) = v at A0 A1 K0 ⊢
        refine (hSL.out _).mono ?_
        rintro e v1 ⟨rfl, rfl⟩
        go_wp2_with fail
        refine wp_region_tail 16 [(34, .is (.slice (some q) (k + 1) c)), (35, .is (.int .i64 (k : Int))), (36, .is (.pointer (some (q.add (k * 32))))), (37, .is (.agg (bC 32 (F k)))), (38, .is (.int .i64 (n : Int))), (39, .is (.int .i64 (l : Int))), (40, .is (.int .i64 ((n : Int) - (l : Int)))), (41, .is (.int .i64 (i : Int))), (42, .is (.int .i64 (l : Int))), (43, .is (.int .i64 ((i : Int) - (l : Int)))), (44, .is (.agg (bC 32 h))), (45, .is (.slice (some q) (k + 1) c)), (46, .is (.int .i64 (k : Int))), (47, .is (.slice (some q) k c)), (48, .is (.agg (bC 32 B))), (49, .is (.agg (bC 32 (shaL (nodeS (F k) B)))))] (by kernel_rfl) (by kernel_rfl) ?_ ?_
        · refine ⟨fun t w1 hf hk hp => ?_, ?_⟩
          · have h3 : slot t 3 = .slice (some q) (k + 1) c := hf 3 (by kernel_rfl)
            clear hf hp
            refine stepM_at (by kernel_rfl) ?_
            refine stepAt_plain rfl ?_
            exact stepOK_move _ (.inl rfl) h3
          refine ⟨fun t w1 hf hk hp => ?_, ?_⟩
          · have h10 : slot t 10 = .int .i64 (k : Int) := hf 10 (by kernel_rfl)
            clear hf hp
            refine stepM_at (by kernel_rfl) ?_
            refine stepAt_plain rfl ?_
            exact stepOK_move _ (.inl rfl) h10
          refine ⟨fun t w1 hf hk hp => ?_, ?_⟩
          · have h34 : slot t 34 = .slice (some q) (k + 1) c := hp 34 (by kernel_rfl)
            have h35 : slot t 35 = .int .i64 (k : Int) := hp 35 (by kernel_rfl)
            clear hf hp
            refine stepM_at (by kernel_rfl) ?_
            refine stepAt_plain rfl ?_
            exact stepOK_pure (.pointer (some (q.add (k * 32)))) (execIndexH q (k + 1) c k (by omega) w1 rfl h34 h35) rfl
          refine ⟨fun t w1 hf hk hp => ?_, ?_⟩
          · have h36 : slot t 36 = .pointer (some (q.add (k * 32))) := hp 36 (by kernel_rfl)
            clear hf hp
            refine stepM_at (by kernel_rfl) ?_
            refine stepAt_plain rfl ?_
            have hq0 := (HF.out.kept (K0.out.trans hk)).load k (by omega)
            exact stepOK_sem (.agg (bC 32 (F k))) (by simp only [execOp, evS, h36]) hq0 rfl
          refine ⟨fun t w1 hf hk hp => ?_, ?_⟩
          · have h0 : slot t 0 = .int .i64 (n : Int) := hf 0 (by kernel_rfl)
            clear hf hp
            refine stepM_at (by kernel_rfl) ?_
            refine stepAt_plain rfl ?_
            exact stepOK_move _ (.inl rfl) h0
          refine ⟨fun t w1 hf hk hp => ?_, ?_⟩
          · have h9 : slot t 9 = .int .i64 (l : Int) := hf 9 (by kernel_rfl)
            clear hf hp
            refine stepM_at (by kernel_rfl) ?_
            refine stepAt_plain rfl ?_
            exact stepOK_move _ (.inl rfl) h9
          refine ⟨fun t w1 hf hk hp => ?_, ?_⟩
          · have h38 : slot t 38 = .int .i64 (n : Int) := hp 38 (by kernel_rfl)
            have h39 : slot t 39 = .int .i64 (l : Int) := hp 39 (by kernel_rfl)
            clear hf hp
            refine stepM_at (by kernel_rfl) ?_
            refine stepAt_plain rfl ?_
            have hq0 := wrap_sub n l (by omega) (by omega)
            refine stepOK_pure (.int .i64 ((n : Int) - (l : Int))) ?_ rfl
            simp only [execOp, evS, h38, h39]
            go_simp
          refine ⟨fun t w1 hf hk hp => ?_, ?_⟩
          · have h1 : slot t 1 = .int .i64 (i : Int) := hf 1 (by kernel_rfl)
            clear hf hp
            refine stepM_at (by kernel_rfl) ?_
            refine stepAt_plain rfl ?_
            exact stepOK_move _ (.inl rfl) h1
          refine ⟨fun t w1 hf hk hp => ?_, ?_⟩
          · have h9 : slot t 9 = .int .i64 (l : Int) := hf 9 (by kernel_rfl)
            clear hf hp
            refine stepM_at (by kernel_rfl) ?_
            refine stepAt_plain rfl ?_
            exact stepOK_move _ (.inl rfl) h9
          refine ⟨fun t w1 hf hk hp => ?_, ?_⟩
          · have h41 : slot t 41 = .int .i64 (i : Int) := hp 41 (by kernel_rfl)
            have h42 : slot t 42 = .int .i64 (l : Int) := hp 42 (by kernel_rfl)
            clear hf hp
            refine stepM_at (by kernel_rfl) ?_
            refine stepAt_plain rfl ?_
            have hq0 := wrap_sub i l (by omega) hi63
            refine stepOK_pure (.int .i64 ((i : Int) - (l : Int))) ?_ rfl
            simp only [execOp, evS, h41, h42]
            go_simp
          refine ⟨fun t w1 hf hk hp => ?_, ?_⟩
          · have h6 : slot t 6 = .pointer (some ⟨w.heap.size, 0, none⟩) := hf 6 (by kernel_rfl)
            clear hf hp
            refine stepM_at (by kernel_rfl) ?_
            refine stepAt_plain rfl ?_
            exact stepOK_pure (.agg (bC 32 h)) (loadHr rfl h6 (A0.out.kept hk)) rfl
          refine ⟨fun t w1 hf hk hp => ?_, ?_⟩
          · have h3 : slot t 3 = .slice (some q) (k + 1) c := hf 3 (by kernel_rfl)
            clear hf hp
            refine stepM_at (by kernel_rfl) ?_
            refine stepAt_plain rfl ?_
            exact stepOK_move _ (.inl rfl) h3
          refine ⟨fun t w1 hf hk hp => ?_, ?_⟩
          · have h10 : slot t 10 = .int .i64 (k : Int) := hf 10 (by kernel_rfl)
            clear hf hp
            refine stepM_at (by kernel_rfl) ?_
            refine stepAt_plain rfl ?_
            exact stepOK_move _ (.inl rfl) h10
          refine ⟨fun t w1 hf hk hp => ?_, ?_⟩
          · have h45 : slot t 45 = .slice (some q) (k + 1) c := hp 45 (by kernel_rfl)
            have h46 : slot t 46 = .int .i64 (k : Int) := hp 46 (by kernel_rfl)
            clear hf hp
            refine stepM_at (by kernel_rfl) ?_
            refine stepAt_plain rfl ?_
            have hq0 := run_cutH_init q (k + 1) c k w1 (by omega)
            exact stepOK_sem (.slice (some q) k c) (by simp only [execOp, evS, Option.map_some, Option.map_none, h45, h46]) hq0 rfl
          refine ⟨fun t w1 hf hk hp => ?_, ?_⟩
          · have h40 : slot t 40 = .int .i64 ((n : Int) - (l : Int)) := hp 40 (by kernel_rfl)
            have h43 : slot t 43 = .int .i64 ((i : Int) - (l : Int)) := hp 43 (by kernel_rfl)
            have h44 : slot t 44 = .agg (bC 32 h) := hp 44 (by kernel_rfl)
            have h47 : slot t 47 = .slice (some q) k c := hp 47 (by kernel_rfl)
            clear hf hp
            refine stepM_at (by kernel_rfl) ?_
            refine stepAt_plain rfl ?_
            refine stepOK_call #[.int .i64 ((n : Int) - (l : Int)), .int .i64 ((i : Int) - (l : Int)), .agg (bC 32 h), .slice (some q) k c] rfl (by simp only [List.map_toArray, List.map_cons, List.map_nil, evS, h40, h43, h44, h47]) (by go_simp) ((HC.out w1 (HF.out.kept (K0.out.trans hk))).mono fun e w' ⟨he, hk'⟩ => ⟨_, he, hk', rfl⟩)
          refine ⟨fun t w1 hf hk hp => ?_, ?_⟩
          · have h37 : slot t 37 = .agg (bC 32 (F k)) := hp 37 (by kernel_rfl)
            have h48 : slot t 48 = .agg (bC 32 B) := hp 48 (by kernel_rfl)
            clear hf hp
            refine stepM_at (by kernel_rfl) ?_
            refine stepAt_plain rfl ?_
            refine stepOK_call #[.agg (bC 32 (F k)), .agg (bC 32 B)] rfl (by simp only [List.map_toArray, List.map_cons, List.map_nil, evS, h37, h48]) (by go_simp) ((HN.out w1).mono fun e w' ⟨he, hk'⟩ => ⟨_, he, hk', rfl⟩)
          exact trivial
        · intro t w1 hsz hf hk hfacts
          have h49 : slot t 49 = .agg (bC 32 (shaL (nodeS (F k) B))) := hfacts 15 _ (by decide) rfl 49 rfl
          have h0 : slot t 0 = .int .i64 (n : Int) := hf 0 (by kernel_rfl)
          have h1 : slot t 1 = .int .i64 (i : Int) := hf 1 (by kernel_rfl)
          have h3 : slot t 3 = .slice (some q) (k + 1) c := hf 3 (by kernel_rfl)
          have h6 : slot t 6 = .pointer (some ⟨w.heap.size, 0, none⟩) := hf 6 (by kernel_rfl)
          have h8 : slot t 8 = .pointer (some ⟨w.heap.size + 1, 0, none⟩) := hf 8 (by kernel_rfl)
          have h9 : slot t 9 = .int .i64 (l : Int) := hf 9 (by kernel_rfl)
          have h10 : slot t 10 = .int .i64 (k : Int) := hf 10 (by kernel_rfl)
          have harr : t = #[slot t 0, slot t 1, slot t 2, slot t 3, slot t 4, slot t 5, slot t 6, slot t 7, slot t 8, slot t 9, slot t 10, slot t 11, slot t 12, slot t 13, slot t 14, slot t 15, slot t 16, slot t 17, slot t 18, slot t 19, slot t 20, slot t 21, slot t 22, slot t 23, slot t 24, slot t 25, slot t 26, slot t 27, slot t 28, slot t 29, slot t 30, slot t 31, slot t 32, slot t 33, slot t 34, slot t 35, slot t 36, slot t 37, slot t 38, slot t 39, slot t 40, slot t 41, slot t 42, slot t 43, slot t 44, slot t 45, slot t 46, slot t 47, slot t 48, slot t 49] := arr_eq t 50 hsz
          rw [harr, h49, h0, h1, h3, h6, h8, h9, h10]
          clear harr hfacts hf h49 h0 h1 h3 h6 h8 h9 h10
          generalize slot t 2 = x2; generalize slot t 4 = x4; generalize slot t 5 = x5; generalize slot t 7 = x7; generalize slot t 11 = x11; generalize slot t 12 = x12; generalize slot t 13 = x13; generalize slot t 14 = x14; generalize slot t 15 = x15; generalize slot t 16 = x16; generalize slot t 17 = x17; generalize slot t 18 = x18
          generalize slot t 19 = x19; generalize slot t 20 = x20; generalize slot t 21 = x21; generalize slot t 22 = x22; generalize slot t 23 = x23; generalize slot t 24 = x24; generalize slot t 25 = x25; generalize slot t 26 = x26; generalize slot t 27 = x27; generalize slot t 28 = x28; generalize slot t 29 = x29; generalize slot t 30 = x30
          generalize slot t 31 = x31; generalize slot t 32 = x32; generalize slot t 33 = x33; generalize slot t 34 = x34; generalize slot t 35 = x35; generalize slot t 36 = x36; generalize slot t 37 = x37; generalize slot t 38 = x38; generalize slot t 39 = x39; generalize slot t 40 = x40; generalize slot t 41 = x41; generalize slot t 42 = x42
          generalize slot t 43 = x43; generalize slot t 44 = x44; generalize slot t 45 = x45; generalize slot t 46 = x46; generalize slot t 47 = x47; generalize slot t 48 = x48
          clear hsz t
          simp only [List.drop_succ_cons, List.drop_zero]
          have R2 := Lib.hid (A1.out.kept hk)
          have K2 := Lib.hid (K0.out.trans hk)
          clear hk
          go_wp2_with (refine wpList_store_row rfl 23 _ _ rfl (w.heap.size + 1) (bC 32 (shaL (nodeS (F k) B))) rfl rfl 23 (bC 32 []) R2.out (info_hash _) (by simp [bC_size]) (bC_one _ _) ?_)
          refine bodyPost_ret (v := .agg (bC 32 (shaL (nodeS (F k) B)))) (results_cell_row Tryd.results22 _ _ (w.heap.size + 1) 23 _ (0, 0) _ rfl R2.out.row Tryd.underlying23 rfl (info_hash _)) rfl ⟨rfl, ?_⟩
          exact K2.out.setRow (by omega) _
end Go.Proofs.YtljkhlbfjcbkiaaDoor
