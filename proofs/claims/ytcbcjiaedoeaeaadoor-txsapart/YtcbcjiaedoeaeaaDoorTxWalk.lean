/-
  Contracts of txs.Open and txs.Check. Conditions: at most two thousand transactions of at most ten thousand bytes; sha's table of round constants stands.
-/
import Derived.Test.YtcbcjiaedoeaeaaDoorTxForm
import Derived.Test.YtcbcjiaedoeaeaaDoorTxWalkA
import Derived.Test.YtcbcjiaedoeaeaaDoorTxRef
import Derived.Test.YtcbcjiaedoeaeaaDoorHld
namespace Go.Proofs.YtcbcjiaedoeaeaaDoor
set_option maxRecDepth 4000
open Go.RowKit

set_option maxRecDepth 100000 in
set_option maxHeartbeats 1000000 in
theorem txsOpen_any : TxsOpenC 8 := by
  intro n S v w i hv hn hz hT
  have HT := Lib.hid hT
  have hfit := tkS_fits S n hz
  have H0 : Hid (∀ w, SSl n S v w → _) := Lib.hid fun w hv => txsMay_any n S v w hv hn hz
  have H1 : Hid (∀ w, SSl n S v w → _) := Lib.hid fun w hv => txsTexts_any n S v w hv hn hz
  have H2 : Hid (∀ u w, SSl n (tkS S) u w → Tab w → Calls Tryd.prog 20 #[u, .int .i64 i] w fun e w' => ∃ v, e = .returned (.tuple #[.agg (opR (opI n i) (opC n i) v), .int .i64 (opE n i)]) ∧ PaS w.heap.size (opL (tkS S) n i) v w' ∧ Kept w w') := Lib.hid fun u w hu ht => by
    obtain ⟨p, c, rfl, _, _, hS⟩ := hu
    exact openOpen_any p n c (tkS S) i w hS hfit (by omega) ht
  have HV := Lib.hid hv
  have R0 := Lib.hid (Rowz.new w (opR 0 0 (.slice none 0 0)) 27)
  have K0 := Lib.hid ((Kept.refl w).alloc (.cells (opR 0 0 (.slice none 0 0)) 27))
  clear hv hfit hz hT
  by_cases hm : mayT S n = 0
  · have HM : Hid (otI S n i = opI n i ∧ otC S n i = opC n i ∧ otE S n i = opE n i ∧ otL S n i = opL (tkS S) n i) := Lib.hid ⟨if_pos hm, if_pos hm, if_pos hm, if_pos hm⟩
    rw [hm] at H0
    rw [HM.out.1, HM.out.2.1, HM.out.2.2.1, HM.out.2.2.2]
    clear hm HM
    have h32 := opL_32 (tkS S) n i
    generalize opL (tkS S) n i = L at H2 h32 ⊢
    generalize opI n i = I at H2 ⊢
    generalize opC n i = N at H2 ⊢
    generalize opE n i = E at H2 ⊢
    go_enter Tryd.func8, Tryd.ntmps8
    go_wp2_with fail
    change Calls _ _ _ (w.alloc (.cells (opR 0 0 (.slice none 0 0)) 27)) _
    generalize w.alloc (.cells (opR 0 0 (.slice none 0 0)) 27) = v1 at R0 K0 ⊢
    refine (H0.out v1 (SSl.kept _ _ _ _ _ K0.out HV.out)).mono ?_
    rintro e v2 ⟨rfl, k2⟩
    replace R0 := Lib.hid (R0.out.kept k2)
    replace K0 := Lib.hid (K0.out.trans k2)
    clear k2 H0
    go_wp2_with fail
    refine (H1.out v2 (SSl.kept _ _ _ _ _ K0.out HV.out)).mono ?_
    rintro e v3 ⟨u, rfl, hu, k3⟩
    have HU := Lib.hid hu
    replace R0 := Lib.hid (R0.out.kept k3)
    replace K0 := Lib.hid (K0.out.trans k3)
    clear k3 hu H1
    go_wp2_with fail
    refine (H2.out u v3 HU.out (HT.out.kept K0.out)).mono ?_
    rintro e v4 ⟨x, rfl, hp, k4⟩
    have hlt : w.heap.size < v3.heap.size := R0.out.lt
    obtain ⟨q, cc, rfl⟩ := hp.slice
    have HP := Lib.hid hp
    replace R0 := Lib.hid (R0.out.kept k4)
    replace K0 := Lib.hid (K0.out.trans k4)
    clear k4 hp H2 HU
    go_wp2_with (refine wpList_store_row rfl 27 _ _ rfl w.heap.size (opR I N (.slice q L.length cc)) rfl rfl 27 (opR 0 0 (.slice none 0 0)) R0.out (opR_size _ _ _) rfl (opR_one _ _ _ _ _) ?_)
    refine bodyPost_ret (results_row_tmp Tryd.results8 _ _ w.heap.size 27 _ _ _ rfl rfl R0.out.row Tryd.underlying27 rfl (opR_size _ _ _)) rfl ⟨q, cc, rfl, ?_, K0.out.setRow (Nat.le_refl _) _⟩
    exact (HP.out.setRow hlt _).hsl h32
  · have HM : Hid (otI S n i = 0 ∧ otC S n i = 0 ∧ otE S n i = mayT S n ∧ otL S n i = []) := Lib.hid ⟨if_neg hm, if_neg hm, if_neg hm, if_neg hm⟩
    rw [HM.out.1, HM.out.2.1, HM.out.2.2.1, HM.out.2.2.2]
    have hd1 : (mayT S n == 0) = false := by simp [hm]
    have hd2 : (mayT S n != 0) = true := by simp [hm]
    clear HM H1 H2
    generalize mayT S n = E at H0 hd1 hd2 hm ⊢
    go_enter Tryd.func8, Tryd.ntmps8
    go_wp2_with fail
    change Calls _ _ _ (w.alloc (.cells (opR 0 0 (.slice none 0 0)) 27)) _
    generalize w.alloc (.cells (opR 0 0 (.slice none 0 0)) 27) = v1 at R0 K0 ⊢
    refine (H0.out v1 (SSl.kept _ _ _ _ _ K0.out HV.out)).mono ?_
    rintro e v2 ⟨rfl, k2⟩
    replace R0 := Lib.hid (R0.out.kept k2)
    replace K0 := Lib.hid (K0.out.trans k2)
    clear k2 H0
    go_wp2_with (first
      | (refine wpList_exec 11 rfl (by rfl) _ _ (execBuildO _ rfl) ?_)
      | (refine wpList_store_row rfl 27 _ _ rfl w.heap.size (opR 0 0 (.slice none 0 0)) rfl rfl 27 (opR 0 0 (.slice none 0 0)) R0.out (opR_size _ _ _) rfl (opR_one _ _ _ _ _) ?_))
    exact bodyPost_ret (results_row_tmp Tryd.results8 _ _ w.heap.size 27 _ _ _ rfl rfl R0.out.row Tryd.underlying27 rfl (opR_size _ _ _)) rfl ⟨none, 0, rfl, ⟨none, 0, rfl, Nat.le_refl _, Nat.zero_le _, HAt.zero _ _ _⟩, K0.out.setRow (Nat.le_refl _) _⟩
set_option maxRecDepth 100000 in
set_option maxHeartbeats 1000000 in
theorem txsCheck_any : TxsCheckC 15 := by
  intro r s I N m G v w hr hs hv ht
  have HT := Lib.hid ht
  have hz := txS_size s
  have H1 : Hid (∀ w, _) := Lib.hid fun w => txsText_any s w hs
  have H2 : Hid (∀ w, HSl m G v w → Tab w → _) := Lib.hid fun w hv ht => holdCheck_any r hr (txS s) (by omega) I N m G v w hv ht
  have HV := Lib.hid hv
  clear hz hv ht
  generalize ckO r (txS s) I N m G = B at H2 ⊢
  generalize txS s = y at H1 H2
  have hsz : (#[.int .i64 I, .int .i64 N, v] : Array Value).size = 3 := rfl
  have R3 := Lib.hid ((Rowz.new w (bC 32 r) 34).alloc (.cells #[.int .i64 I, .int .i64 N, v] 27))
  have R5 := Lib.hid (Rowz.newEq1 w (.cells (bC 32 r) 34) _ #[.int .i64 I, .int .i64 N, v] 27 rfl)
  have K1 := Lib.hid (((Kept.refl w).alloc (.cells (bC 32 r) 34)).alloc (.cells #[.int .i64 I, .int .i64 N, v] 27))
  obtain ⟨b, hb⟩ : ∃ b, decide (N ≤ 1024) = b := ⟨_, rfl⟩
  obtain ⟨b2, hb2⟩ : ∃ b, decide (s.size ≤ 4096) = b := ⟨_, rfl⟩
  have hb2' : decide ((s.size : Int) ≤ 4096) = b2 := by rw [← hb2]; exact decide_eq_decide.2 (by omega)
  rw [hb, hb2]
  clear hb2
  cases b
  · go_enter Tryd.func15, Tryd.ntmps15
    go_wp2_with fail
    generalize (w.alloc (.cells (bC 32 r) 34)).alloc (.cells #[.int .i64 I, .int .i64 N, v] 27) = v1 at R3 R5 K1 ⊢
    refine wp_region_table [(7, .is (.pointer (some ⟨w.heap.size + 1, 1, none⟩))), (8, .is (.int .i64 N)), (9, .is (.bool false)), (10, .is (.bool false)), (11, .is (undef)), (12, .is (undef)), (13, .is (undef)), (14, .is (.bool false)), (15, .is (.bool false)), (16, .is (undef)), (17, .is (undef)), (18, .is (undef)), (19, .is (undef)), (20, .is (undef)), (21, .is (.bool false)), (6, .is (.bool false))] (by kernel_rfl) (by kernel_rfl) ?_ ?_
    · refine ⟨fun t w1 hf hk hp => ?_, ?_⟩
      · have h5 : slot t 5 = .pointer (some ⟨w.heap.size + 1, 0, none⟩) := hf 5 (by kernel_rfl)
        clear hf hp
        refine stepAt_plain rfl ?_
        exact stepOK_pure (.pointer (some ⟨w.heap.size + 1, 1, none⟩)) (execFieldO (w.heap.size + 1) 1 (by omega) w1 rfl h5) rfl
      refine ⟨fun t w1 hf hk hp => ?_, ?_⟩
      · have h7 : slot t 7 = .pointer (some ⟨w.heap.size + 1, 1, none⟩) := hp 7 (by kernel_rfl)
        clear hf hp
        refine stepAt_plain rfl ?_
        have hq0 := run_loadI ((R5.out.kept hk).cell 1)
        exact stepOK_sem (.int .i64 N) (by simp only [execOp, evS, h7]) hq0 rfl
      refine ⟨fun t w1 hf hk hp => ?_, ?_⟩
      · have h8 : slot t 8 = .int .i64 N := hp 8 (by kernel_rfl)
        clear hf hp
        refine stepAt_plain rfl ?_
        have hq0 := hb
        refine stepOK_pure (.bool false) ?_ rfl
        simp only [execOp, evS, h8]
        go_simp
      refine ⟨fun t w1 hf hk hp => ?_, ?_⟩
      · have h9 : slot t 9 = .bool false := hp 9 (by kernel_rfl)
        clear hf hp
        refine stepAt_plain rfl ?_
        exact stepOK_move _ (.inl rfl) h9
      refine ⟨fun t w1 hf hk hp => ?_, ?_⟩
      · have h10 : slot t 10 = .bool false := hp 10 (by kernel_rfl)
        clear hf hp
        exact stepAt_off 10 true (by kernel_rfl) h10 rfl
      refine ⟨fun t w1 hf hk hp => ?_, ?_⟩
      · have h10 : slot t 10 = .bool false := hp 10 (by kernel_rfl)
        clear hf hp
        exact stepAt_off 10 true (by kernel_rfl) h10 rfl
      refine ⟨fun t w1 hf hk hp => ?_, ?_⟩
      · have h10 : slot t 10 = .bool false := hp 10 (by kernel_rfl)
        clear hf hp
        exact stepAt_off 10 true (by kernel_rfl) h10 rfl
      refine ⟨fun t w1 hf hk hp => ?_, ?_⟩
      · have h10 : slot t 10 = .bool false := hp 10 (by kernel_rfl)
        have h13 : slot t 13 = undef := hp 13 (by kernel_rfl)
        clear hf hp
        refine stepAt_plain rfl ?_
        refine stepOK_pure (.bool false) ?_ rfl
        simp only [execOp, evS, h10, h13]
        go_simp
      refine ⟨fun t w1 hf hk hp => ?_, ?_⟩
      · have h14 : slot t 14 = .bool false := hp 14 (by kernel_rfl)
        clear hf hp
        refine stepAt_plain rfl ?_
        exact stepOK_move _ (.inl rfl) h14
      refine ⟨fun t w1 hf hk hp => ?_, ?_⟩
      · have h15 : slot t 15 = .bool false := hp 15 (by kernel_rfl)
        clear hf hp
        exact stepAt_off 15 true (by kernel_rfl) h15 rfl
      refine ⟨fun t w1 hf hk hp => ?_, ?_⟩
      · have h15 : slot t 15 = .bool false := hp 15 (by kernel_rfl)
        clear hf hp
        exact stepAt_off 15 true (by kernel_rfl) h15 rfl
      refine ⟨fun t w1 hf hk hp => ?_, ?_⟩
      · have h15 : slot t 15 = .bool false := hp 15 (by kernel_rfl)
        clear hf hp
        exact stepAt_off 15 true (by kernel_rfl) h15 rfl
      refine ⟨fun t w1 hf hk hp => ?_, ?_⟩
      · have h15 : slot t 15 = .bool false := hp 15 (by kernel_rfl)
        clear hf hp
        exact stepAt_off 15 true (by kernel_rfl) h15 rfl
      refine ⟨fun t w1 hf hk hp => ?_, ?_⟩
      · have h15 : slot t 15 = .bool false := hp 15 (by kernel_rfl)
        clear hf hp
        exact stepAt_off 15 true (by kernel_rfl) h15 rfl
      refine ⟨fun t w1 hf hk hp => ?_, ?_⟩
      · have h15 : slot t 15 = .bool false := hp 15 (by kernel_rfl)
        have h20 : slot t 20 = undef := hp 20 (by kernel_rfl)
        clear hf hp
        refine stepAt_plain rfl ?_
        refine stepOK_pure (.bool false) ?_ rfl
        simp only [execOp, evS, h15, h20]
        go_simp
      refine ⟨fun t w1 hf hk hp => ?_, ?_⟩
      · have h21 : slot t 21 = .bool false := hp 21 (by kernel_rfl)
        clear hf hp
        refine stepAt_plain rfl ?_
        exact stepOK_move _ (.inr rfl) h21
      exact trivial
    · intro t w1 hsz hf hk hfacts
      have h6 : slot t 6 = .bool false := hfacts 15 _ rfl 6 rfl
      have h1 : slot t 1 = .string s := hf 1 (by kernel_rfl)
      have h3 : slot t 3 = .pointer (some ⟨w.heap.size, 0, none⟩) := hf 3 (by kernel_rfl)
      have h5 : slot t 5 = .pointer (some ⟨w.heap.size + 1, 0, none⟩) := hf 5 (by kernel_rfl)
      have harr : t = #[slot t 0, slot t 1, slot t 2, slot t 3, slot t 4, slot t 5, slot t 6, slot t 7, slot t 8, slot t 9, slot t 10, slot t 11, slot t 12, slot t 13, slot t 14, slot t 15, slot t 16, slot t 17, slot t 18, slot t 19, slot t 20, slot t 21] := arr_eq t 22 hsz
      rw [harr, h6, h1, h3, h5]
      clear harr hfacts hf h6 h1 h3 h5
      generalize slot t 0 = x0; generalize slot t 2 = x2; generalize slot t 4 = x4; generalize slot t 7 = x7; generalize slot t 8 = x8; generalize slot t 9 = x9; generalize slot t 10 = x10; generalize slot t 11 = x11; generalize slot t 12 = x12; generalize slot t 13 = x13; generalize slot t 14 = x14; generalize slot t 15 = x15
      generalize slot t 16 = x16; generalize slot t 17 = x17; generalize slot t 18 = x18; generalize slot t 19 = x19; generalize slot t 20 = x20; generalize slot t 21 = x21
      clear hsz t
      have K2 := Lib.hid (K1.out.trans hk)
      clear hk
      go_wp2_with fail
      go_ret
      exact ⟨rfl, K2.out⟩
  · cases b2
    · go_enter Tryd.func15, Tryd.ntmps15
      go_wp2_with fail
      generalize (w.alloc (.cells (bC 32 r) 34)).alloc (.cells #[.int .i64 I, .int .i64 N, v] 27) = v1 at R3 R5 K1 ⊢
      refine wp_region_table [(7, .is (.pointer (some ⟨w.heap.size + 1, 1, none⟩))), (8, .is (.int .i64 N)), (9, .is (.bool true)), (10, .is (.bool true)), (11, .is (.string s)), (12, .is (.int .i64 (s.size : Int))), (13, .is (.bool false)), (14, .is (.bool false)), (15, .is (.bool false)), (16, .is (undef)), (17, .is (undef)), (18, .is (undef)), (19, .is (undef)), (20, .is (undef)), (21, .is (.bool false)), (6, .is (.bool false))] (by kernel_rfl) (by kernel_rfl) ?_ ?_
      · refine ⟨fun t w1 hf hk hp => ?_, ?_⟩
        · have h5 : slot t 5 = .pointer (some ⟨w.heap.size + 1, 0, none⟩) := hf 5 (by kernel_rfl)
          clear hf hp
          refine stepAt_plain rfl ?_
          exact stepOK_pure (.pointer (some ⟨w.heap.size + 1, 1, none⟩)) (execFieldO (w.heap.size + 1) 1 (by omega) w1 rfl h5) rfl
        refine ⟨fun t w1 hf hk hp => ?_, ?_⟩
        · have h7 : slot t 7 = .pointer (some ⟨w.heap.size + 1, 1, none⟩) := hp 7 (by kernel_rfl)
          clear hf hp
          refine stepAt_plain rfl ?_
          have hq0 := run_loadI ((R5.out.kept hk).cell 1)
          exact stepOK_sem (.int .i64 N) (by simp only [execOp, evS, h7]) hq0 rfl
        refine ⟨fun t w1 hf hk hp => ?_, ?_⟩
        · have h8 : slot t 8 = .int .i64 N := hp 8 (by kernel_rfl)
          clear hf hp
          refine stepAt_plain rfl ?_
          have hq0 := hb
          refine stepOK_pure (.bool true) ?_ rfl
          simp only [execOp, evS, h8]
          go_simp
        refine ⟨fun t w1 hf hk hp => ?_, ?_⟩
        · have h9 : slot t 9 = .bool true := hp 9 (by kernel_rfl)
          clear hf hp
          refine stepAt_plain rfl ?_
          exact stepOK_move _ (.inl rfl) h9
        refine ⟨fun t w1 hf hk hp => ?_, ?_⟩
        · have h1 : slot t 1 = .string s := hf 1 (by kernel_rfl)
          have h10 : slot t 10 = .bool true := hp 10 (by kernel_rfl)
          clear hf hp
          refine stepAt_on 10 true (by kernel_rfl) h10 ?_
          exact stepOK_move _ (.inl rfl) h1
        refine ⟨fun t w1 hf hk hp => ?_, ?_⟩
        · have h11 : slot t 11 = .string s := hp 11 (by kernel_rfl)
          have h10 : slot t 10 = .bool true := hp 10 (by kernel_rfl)
          clear hf hp
          refine stepAt_on 10 true (by kernel_rfl) h10 ?_
          exact stepOK_pure (.int .i64 (s.size : Int)) (execLenSt w1 rfl rfl h11) rfl
        refine ⟨fun t w1 hf hk hp => ?_, ?_⟩
        · have h12 : slot t 12 = .int .i64 (s.size : Int) := hp 12 (by kernel_rfl)
          have h10 : slot t 10 = .bool true := hp 10 (by kernel_rfl)
          clear hf hp
          refine stepAt_on 10 true (by kernel_rfl) h10 ?_
          have hq0 := hb2'
          refine stepOK_pure (.bool false) ?_ rfl
          simp only [execOp, evS, h12]
          go_simp
        refine ⟨fun t w1 hf hk hp => ?_, ?_⟩
        · have h10 : slot t 10 = .bool true := hp 10 (by kernel_rfl)
          have h13 : slot t 13 = .bool false := hp 13 (by kernel_rfl)
          clear hf hp
          refine stepAt_plain rfl ?_
          refine stepOK_pure (.bool false) ?_ rfl
          simp only [execOp, evS, h10, h13]
          go_simp
        refine ⟨fun t w1 hf hk hp => ?_, ?_⟩
        · have h14 : slot t 14 = .bool false := hp 14 (by kernel_rfl)
          clear hf hp
          refine stepAt_plain rfl ?_
          exact stepOK_move _ (.inl rfl) h14
        refine ⟨fun t w1 hf hk hp => ?_, ?_⟩
        · have h15 : slot t 15 = .bool false := hp 15 (by kernel_rfl)
          clear hf hp
          exact stepAt_off 15 true (by kernel_rfl) h15 rfl
        refine ⟨fun t w1 hf hk hp => ?_, ?_⟩
        · have h15 : slot t 15 = .bool false := hp 15 (by kernel_rfl)
          clear hf hp
          exact stepAt_off 15 true (by kernel_rfl) h15 rfl
        refine ⟨fun t w1 hf hk hp => ?_, ?_⟩
        · have h15 : slot t 15 = .bool false := hp 15 (by kernel_rfl)
          clear hf hp
          exact stepAt_off 15 true (by kernel_rfl) h15 rfl
        refine ⟨fun t w1 hf hk hp => ?_, ?_⟩
        · have h15 : slot t 15 = .bool false := hp 15 (by kernel_rfl)
          clear hf hp
          exact stepAt_off 15 true (by kernel_rfl) h15 rfl
        refine ⟨fun t w1 hf hk hp => ?_, ?_⟩
        · have h15 : slot t 15 = .bool false := hp 15 (by kernel_rfl)
          clear hf hp
          exact stepAt_off 15 true (by kernel_rfl) h15 rfl
        refine ⟨fun t w1 hf hk hp => ?_, ?_⟩
        · have h15 : slot t 15 = .bool false := hp 15 (by kernel_rfl)
          have h20 : slot t 20 = undef := hp 20 (by kernel_rfl)
          clear hf hp
          refine stepAt_plain rfl ?_
          refine stepOK_pure (.bool false) ?_ rfl
          simp only [execOp, evS, h15, h20]
          go_simp
        refine ⟨fun t w1 hf hk hp => ?_, ?_⟩
        · have h21 : slot t 21 = .bool false := hp 21 (by kernel_rfl)
          clear hf hp
          refine stepAt_plain rfl ?_
          exact stepOK_move _ (.inr rfl) h21
        exact trivial
      · intro t w1 hsz hf hk hfacts
        have h6 : slot t 6 = .bool false := hfacts 15 _ rfl 6 rfl
        have h1 : slot t 1 = .string s := hf 1 (by kernel_rfl)
        have h3 : slot t 3 = .pointer (some ⟨w.heap.size, 0, none⟩) := hf 3 (by kernel_rfl)
        have h5 : slot t 5 = .pointer (some ⟨w.heap.size + 1, 0, none⟩) := hf 5 (by kernel_rfl)
        have harr : t = #[slot t 0, slot t 1, slot t 2, slot t 3, slot t 4, slot t 5, slot t 6, slot t 7, slot t 8, slot t 9, slot t 10, slot t 11, slot t 12, slot t 13, slot t 14, slot t 15, slot t 16, slot t 17, slot t 18, slot t 19, slot t 20, slot t 21] := arr_eq t 22 hsz
        rw [harr, h6, h1, h3, h5]
        clear harr hfacts hf h6 h1 h3 h5
        generalize slot t 0 = x0; generalize slot t 2 = x2; generalize slot t 4 = x4; generalize slot t 7 = x7; generalize slot t 8 = x8; generalize slot t 9 = x9; generalize slot t 10 = x10; generalize slot t 11 = x11; generalize slot t 12 = x12; generalize slot t 13 = x13; generalize slot t 14 = x14; generalize slot t 15 = x15
        generalize slot t 16 = x16; generalize slot t 17 = x17; generalize slot t 18 = x18; generalize slot t 19 = x19; generalize slot t 20 = x20; generalize slot t 21 = x21
        clear hsz t
        have K2 := Lib.hid (K1.out.trans hk)
        clear hk
        go_wp2_with fail
        go_ret
        exact ⟨rfl, K2.out⟩
    · go_enter Tryd.func15, Tryd.ntmps15
      go_wp2_with fail
      generalize (w.alloc (.cells (bC 32 r) 34)).alloc (.cells #[.int .i64 I, .int .i64 N, v] 27) = v1 at R3 R5 K1 ⊢
      refine wp_region_table [(7, .is (.pointer (some ⟨w.heap.size + 1, 1, none⟩))), (8, .is (.int .i64 N)), (9, .is (.bool true)), (10, .is (.bool true)), (11, .is (.string s)), (12, .is (.int .i64 (s.size : Int))), (13, .is (.bool true)), (14, .is (.bool true)), (15, .is (.bool true)), (16, .is (.agg (bC 32 r))), (17, .is (.string s)), (18, .is (.string y)), (19, .is (.agg #[.int .i64 I, .int .i64 N, v])), (20, .is (.bool B)), (21, .is (.bool B)), (6, .is (.bool B))] (by kernel_rfl) (by kernel_rfl) ?_ ?_
      · refine ⟨fun t w1 hf hk hp => ?_, ?_⟩
        · have h5 : slot t 5 = .pointer (some ⟨w.heap.size + 1, 0, none⟩) := hf 5 (by kernel_rfl)
          clear hf hp
          refine stepAt_plain rfl ?_
          exact stepOK_pure (.pointer (some ⟨w.heap.size + 1, 1, none⟩)) (execFieldO (w.heap.size + 1) 1 (by omega) w1 rfl h5) rfl
        refine ⟨fun t w1 hf hk hp => ?_, ?_⟩
        · have h7 : slot t 7 = .pointer (some ⟨w.heap.size + 1, 1, none⟩) := hp 7 (by kernel_rfl)
          clear hf hp
          refine stepAt_plain rfl ?_
          have hq0 := run_loadI ((R5.out.kept hk).cell 1)
          exact stepOK_sem (.int .i64 N) (by simp only [execOp, evS, h7]) hq0 rfl
        refine ⟨fun t w1 hf hk hp => ?_, ?_⟩
        · have h8 : slot t 8 = .int .i64 N := hp 8 (by kernel_rfl)
          clear hf hp
          refine stepAt_plain rfl ?_
          have hq0 := hb
          refine stepOK_pure (.bool true) ?_ rfl
          simp only [execOp, evS, h8]
          go_simp
        refine ⟨fun t w1 hf hk hp => ?_, ?_⟩
        · have h9 : slot t 9 = .bool true := hp 9 (by kernel_rfl)
          clear hf hp
          refine stepAt_plain rfl ?_
          exact stepOK_move _ (.inl rfl) h9
        refine ⟨fun t w1 hf hk hp => ?_, ?_⟩
        · have h1 : slot t 1 = .string s := hf 1 (by kernel_rfl)
          have h10 : slot t 10 = .bool true := hp 10 (by kernel_rfl)
          clear hf hp
          refine stepAt_on 10 true (by kernel_rfl) h10 ?_
          exact stepOK_move _ (.inl rfl) h1
        refine ⟨fun t w1 hf hk hp => ?_, ?_⟩
        · have h11 : slot t 11 = .string s := hp 11 (by kernel_rfl)
          have h10 : slot t 10 = .bool true := hp 10 (by kernel_rfl)
          clear hf hp
          refine stepAt_on 10 true (by kernel_rfl) h10 ?_
          exact stepOK_pure (.int .i64 (s.size : Int)) (execLenSt w1 rfl rfl h11) rfl
        refine ⟨fun t w1 hf hk hp => ?_, ?_⟩
        · have h12 : slot t 12 = .int .i64 (s.size : Int) := hp 12 (by kernel_rfl)
          have h10 : slot t 10 = .bool true := hp 10 (by kernel_rfl)
          clear hf hp
          refine stepAt_on 10 true (by kernel_rfl) h10 ?_
          have hq0 := hb2'
          refine stepOK_pure (.bool true) ?_ rfl
          simp only [execOp, evS, h12]
          go_simp
        refine ⟨fun t w1 hf hk hp => ?_, ?_⟩
        · have h10 : slot t 10 = .bool true := hp 10 (by kernel_rfl)
          have h13 : slot t 13 = .bool true := hp 13 (by kernel_rfl)
          clear hf hp
          refine stepAt_plain rfl ?_
          refine stepOK_pure (.bool true) ?_ rfl
          simp only [execOp, evS, h10, h13]
          go_simp
        refine ⟨fun t w1 hf hk hp => ?_, ?_⟩
        · have h14 : slot t 14 = .bool true := hp 14 (by kernel_rfl)
          clear hf hp
          refine stepAt_plain rfl ?_
          exact stepOK_move _ (.inl rfl) h14
        refine ⟨fun t w1 hf hk hp => ?_, ?_⟩
        · have h3 : slot t 3 = .pointer (some ⟨w.heap.size, 0, none⟩) := hf 3 (by kernel_rfl)
          have h15 : slot t 15 = .bool true := hp 15 (by kernel_rfl)
          clear hf hp
          refine stepAt_on 15 true (by kernel_rfl) h15 ?_
          exact stepOK_pure (.agg (bC 32 r)) (load_h rfl h3 (R3.out.kept hk)) rfl
        refine ⟨fun t w1 hf hk hp => ?_, ?_⟩
        · have h1 : slot t 1 = .string s := hf 1 (by kernel_rfl)
          have h15 : slot t 15 = .bool true := hp 15 (by kernel_rfl)
          clear hf hp
          refine stepAt_on 15 true (by kernel_rfl) h15 ?_
          exact stepOK_move _ (.inl rfl) h1
        refine ⟨fun t w1 hf hk hp => ?_, ?_⟩
        · have h17 : slot t 17 = .string s := hp 17 (by kernel_rfl)
          have h15 : slot t 15 = .bool true := hp 15 (by kernel_rfl)
          clear hf hp
          refine stepAt_on 15 true (by kernel_rfl) h15 ?_
          refine stepOK_call #[.string s] rfl (by simp only [List.map_toArray, List.map_cons, List.map_nil, evS, h17]) (by go_simp) ((H1.out w1).mono fun e w' ⟨he, hk'⟩ => ⟨_, he, hk', rfl⟩)
        refine ⟨fun t w1 hf hk hp => ?_, ?_⟩
        · have h5 : slot t 5 = .pointer (some ⟨w.heap.size + 1, 0, none⟩) := hf 5 (by kernel_rfl)
          have h15 : slot t 15 = .bool true := hp 15 (by kernel_rfl)
          clear hf hp
          refine stepAt_on 15 true (by kernel_rfl) h15 ?_
          exact stepOK_pure (.agg #[.int .i64 I, .int .i64 N, v]) (loadO rfl h5 (R5.out.kept hk) hsz) rfl
        refine ⟨fun t w1 hf hk hp => ?_, ?_⟩
        · have h16 : slot t 16 = .agg (bC 32 r) := hp 16 (by kernel_rfl)
          have h18 : slot t 18 = .string y := hp 18 (by kernel_rfl)
          have h19 : slot t 19 = .agg #[.int .i64 I, .int .i64 N, v] := hp 19 (by kernel_rfl)
          have h15 : slot t 15 = .bool true := hp 15 (by kernel_rfl)
          clear hf hp
          refine stepAt_on 15 true (by kernel_rfl) h15 ?_
          refine stepOK_call #[.agg (bC 32 r), .string y, .agg #[.int .i64 I, .int .i64 N, v]] rfl (by simp only [List.map_toArray, List.map_cons, List.map_nil, evS, h16, h18, h19]) (by go_simp) ((H2.out w1 (HSl.kept _ _ _ _ _ (K1.out.trans hk) HV.out) (HT.out.kept (K1.out.trans hk))).mono fun e w' ⟨he, hk'⟩ => ⟨_, he, hk', rfl⟩)
        refine ⟨fun t w1 hf hk hp => ?_, ?_⟩
        · have h15 : slot t 15 = .bool true := hp 15 (by kernel_rfl)
          have h20 : slot t 20 = .bool B := hp 20 (by kernel_rfl)
          clear hf hp
          refine stepAt_plain rfl ?_
          refine stepOK_pure (.bool B) ?_ rfl
          simp only [execOp, evS, h15, h20]
          go_simp
        refine ⟨fun t w1 hf hk hp => ?_, ?_⟩
        · have h21 : slot t 21 = .bool B := hp 21 (by kernel_rfl)
          clear hf hp
          refine stepAt_plain rfl ?_
          exact stepOK_move _ (.inr rfl) h21
        exact trivial
      · intro t w1 hsz hf hk hfacts
        have h6 : slot t 6 = .bool B := hfacts 15 _ rfl 6 rfl
        have h1 : slot t 1 = .string s := hf 1 (by kernel_rfl)
        have h3 : slot t 3 = .pointer (some ⟨w.heap.size, 0, none⟩) := hf 3 (by kernel_rfl)
        have h5 : slot t 5 = .pointer (some ⟨w.heap.size + 1, 0, none⟩) := hf 5 (by kernel_rfl)
        have harr : t = #[slot t 0, slot t 1, slot t 2, slot t 3, slot t 4, slot t 5, slot t 6, slot t 7, slot t 8, slot t 9, slot t 10, slot t 11, slot t 12, slot t 13, slot t 14, slot t 15, slot t 16, slot t 17, slot t 18, slot t 19, slot t 20, slot t 21] := arr_eq t 22 hsz
        rw [harr, h6, h1, h3, h5]
        clear harr hfacts hf h6 h1 h3 h5
        generalize slot t 0 = x0; generalize slot t 2 = x2; generalize slot t 4 = x4; generalize slot t 7 = x7; generalize slot t 8 = x8; generalize slot t 9 = x9; generalize slot t 10 = x10; generalize slot t 11 = x11; generalize slot t 12 = x12; generalize slot t 13 = x13; generalize slot t 14 = x14; generalize slot t 15 = x15
        generalize slot t 16 = x16; generalize slot t 17 = x17; generalize slot t 18 = x18; generalize slot t 19 = x19; generalize slot t 20 = x20; generalize slot t 21 = x21
        clear hsz t
        have K2 := Lib.hid (K1.out.trans hk)
        clear hk
        go_wp2_with fail
        go_ret
        exact ⟨rfl, K2.out⟩
end Go.Proofs.YtcbcjiaedoeaeaaDoor
