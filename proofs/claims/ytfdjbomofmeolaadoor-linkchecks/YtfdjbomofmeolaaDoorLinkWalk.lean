/-
  Contracts of link.Open and link.Check. Conditions: at most a thousand ids; a slice's length and capacity fit; sha's table of round constants stands.
-/
import Derived.Test.YtfdjbomofmeolaaDoorLinkForm
import Derived.Test.YtfdjbomofmeolaaDoorLinkWalkA
import Derived.Test.YtfdjbomofmeolaaDoorHld
namespace Go.Proofs.YtfdjbomofmeolaaDoor
set_option maxRecDepth 4000
open Go.RowKit

set_option maxRecDepth 100000 in
set_option maxHeartbeats 2000000 in
theorem linkOpen_any : LinkOpenC 7 := by
  intro n F v w i hv hn hT
  have hfit := lkS_fits F n hv.lengths
  have HT := Lib.hid hT
  have H1 : Hid (∀ w, HSl n F v w → _) := Lib.hid fun w hv => linkTexts_any n F v w hv hn
  have H2 : Hid (∀ (b : Nat) (u : Value) (w1 : World), b ≤ w1.heap.size → SSl n (lkS F) u w1 → Tab w1 → Calls Tryd.prog 17 #[u, .int .i64 i] w1 fun e w' => ∃ x, e = .returned (.tuple #[.agg (opR (opI n i) (opC n i) x), .int .i64 (opE n i)]) ∧ PaS b (opL (lkS F) n i) x w' ∧ Kept w1 w') := Lib.hid fun b u w1 hb hu ht => by
    obtain ⟨p, c, rfl, _, _, hS⟩ := hu
    refine (openOpen_any p n c (lkS F) i w1 hS hfit (by omega) ht).mono ?_
    rintro e w' ⟨x, rfl, hx, hk⟩
    exact ⟨x, rfl, hx.base hb, hk⟩
  have h32 := opL_32 (lkS F) n i
  generalize opL (lkS F) n i = L at H2 h32 ⊢
  generalize opI n i = I at H2 ⊢
  generalize opC n i = N at H2 ⊢
  generalize opE n i = E at H2 ⊢
  have H32 := Lib.hid h32
  have HV := Lib.hid hv
  have R0 := Lib.hid (Rowz.new w (opR 0 0 (.slice none 0 0)) 25)
  have K0 := Lib.hid ((Kept.refl w).alloc (.cells (opR 0 0 (.slice none 0 0)) 25))
  clear hv hfit hT h32
  go_enter Tryd.func7, Tryd.ntmps7
  go_wp2_with fail
  change Calls _ _ _ (w.alloc (.cells (opR 0 0 (.slice none 0 0)) 25)) _
  obtain ⟨v1, hv1⟩ : ∃ v1, v1 = w.alloc (.cells (opR 0 0 (.slice none 0 0)) 25) := ⟨_, rfl⟩
  have HZ : Hid (w.heap.size + 1 ≤ v1.heap.size) := Lib.hid (by rw [hv1]; simp)
  rw [← hv1] at R0 K0 ⊢
  clear hv1
  refine (H1.out v1 (HSl.kept _ _ _ _ _ K0.out HV.out)).mono ?_
  rintro e v2 ⟨u, rfl, hu, k2⟩
  have HU := Lib.hid hu
  have Z2 : Hid (w.heap.size + 1 ≤ v2.heap.size) := Lib.hid (by have h1 := HZ.out; have h2 := k2.size; omega)
  replace R0 := Lib.hid (R0.out.kept k2)
  replace K0 := Lib.hid (K0.out.trans k2)
  clear hu k2 H1 HZ
  go_wp2_with fail
  refine (H2.out (w.heap.size + 1) u v2 Z2.out HU.out (HT.out.kept K0.out)).mono ?_
  rintro e v3 ⟨x, rfl, hx, k3⟩
  have HX := Lib.hid hx
  replace R0 := Lib.hid (R0.out.kept k3)
  replace K0 := Lib.hid (K0.out.trans k3)
  obtain ⟨q, cc, rfl⟩ := hx.slice
  clear hx k3 H2 HU
  go_wp2_with (refine wpList_store_row rfl 25 _ _ rfl w.heap.size (opR I N (.slice q L.length cc)) rfl rfl 25 (opR 0 0 (.slice none 0 0)) R0.out (opR_size _ _ _) rfl (opR_one _ _ _ _ _) ?_)
  refine bodyPost_ret (v := .tuple #[.agg (opR I N (.slice q L.length cc)), .int .i64 E]) (results_row_tmp Tryd.results7 _ _ w.heap.size 25 _ _ _ rfl rfl R0.out.row Tryd.underlying25 rfl (opR_size _ _ _)) rfl ?_
  exact ⟨q, cc, rfl, PaS.hsl (HX.out.setRow (Nat.lt_succ_self _) _) H32.out, K0.out.setRow (Nat.le_refl _) _⟩
set_option maxRecDepth 100000 in
set_option maxHeartbeats 1000000 in
theorem linkCheck_any : LinkCheckC 15 := by
  intro r l I N m G v w hr hl hv ht
  have HT := Lib.hid ht
  have hz := linkS_size l hl
  have H1 : Hid (∀ w, _) := Lib.hid fun w => linkText_any l w hl
  have H2 : Hid (∀ w, HSl m G v w → Tab w → _) := Lib.hid fun w hv ht => holdCheck_any r hr (linkS l) (by omega) I N m G v w hv ht
  have HV := Lib.hid hv
  clear hz hv ht
  generalize ckO r (linkS l) I N m G = B at H2 ⊢
  generalize linkS l = s at H1 H2
  have hsz : (#[.int .i64 I, .int .i64 N, v] : Array Value).size = 3 := rfl
  have R3 := Lib.hid (((Rowz.new w (bC 32 r) 33).alloc (.cells (bC 32 l) 33)).alloc (.cells #[.int .i64 I, .int .i64 N, v] 25))
  have R4 := Lib.hid ((Rowz.newEq1 w (.cells (bC 32 r) 33) _ (bC 32 l) 33 rfl).alloc (.cells #[.int .i64 I, .int .i64 N, v] 25))
  have R5 := Lib.hid (Rowz.newEq1 (w.alloc (.cells (bC 32 r) 33)) (.cells (bC 32 l) 33) _ #[.int .i64 I, .int .i64 N, v] 25 rfl)
  have b1 : (w.alloc (.cells (bC 32 r) 33)).heap.size + 1 = w.heap.size + 1 + 1 := by simp
  rw [b1] at R5
  clear b1
  have K1 := Lib.hid ((((Kept.refl w).alloc (.cells (bC 32 r) 33)).alloc (.cells (bC 32 l) 33)).alloc (.cells #[.int .i64 I, .int .i64 N, v] 25))
  obtain ⟨b, hb⟩ : ∃ b, decide (N ≤ 257) = b := ⟨_, rfl⟩
  rw [hb]
  cases b
  · go_enter Tryd.func15, Tryd.ntmps15
    go_wp2_with fail
    generalize ((w.alloc (.cells (bC 32 r) 33)).alloc (.cells (bC 32 l) 33)).alloc (.cells #[.int .i64 I, .int .i64 N, v] 25) = v1 at R3 R4 R5 K1 ⊢
    refine wp_region_table [(7, .is (.pointer (some ⟨w.heap.size + 1 + 1, 1, none⟩))), (8, .is (.int .i64 N)), (9, .is (.bool false)), (10, .is (.bool false)), (11, .is (undef)), (12, .is (undef)), (13, .is (undef)), (14, .is (undef)), (15, .is (undef)), (16, .is (.bool false)), (6, .is (.bool false))] (by kernel_rfl) (by kernel_rfl) ?_ ?_
    · refine ⟨fun t w1 hf hk hp => ?_, ?_⟩
      · have h5 : slot t 5 = .pointer (some ⟨w.heap.size + 1 + 1, 0, none⟩) := hf 5 (by kernel_rfl)
        clear hf hp
        refine stepAt_plain rfl ?_
        exact stepOK_pure (.pointer (some ⟨w.heap.size + 1 + 1, 1, none⟩)) (execFieldO (w.heap.size + 1 + 1) 1 (by omega) w1 rfl h5) rfl
      refine ⟨fun t w1 hf hk hp => ?_, ?_⟩
      · have h7 : slot t 7 = .pointer (some ⟨w.heap.size + 1 + 1, 1, none⟩) := hp 7 (by kernel_rfl)
        clear hf hp
        refine stepAt_plain rfl ?_
        have hq0 := run_loadI ((R5.out.kept hk).cell 1)
        exact stepOK_sem (.int .i64 N) (by simp only [execOp, evS, h7]) hq0 rfl
      refine ⟨fun t w1 hf hk hp => ?_, ?_⟩
      · have h8 : slot t 8 = .int .i64 N := hp 8 (by kernel_rfl)
        clear hf hp
        refine stepAt_plain rfl ?_
        have hq0 := hb
        refine stepOK_pure (.bool false) ?_ rfl
        simp only [execOp, evS, h8]
        go_simp
      refine ⟨fun t w1 hf hk hp => ?_, ?_⟩
      · have h9 : slot t 9 = .bool false := hp 9 (by kernel_rfl)
        clear hf hp
        refine stepAt_plain rfl ?_
        exact stepOK_move _ (.inl rfl) h9
      refine ⟨fun t w1 hf hk hp => ?_, ?_⟩
      · have h10 : slot t 10 = .bool false := hp 10 (by kernel_rfl)
        clear hf hp
        exact stepAt_off 10 true (by kernel_rfl) h10 rfl
      refine ⟨fun t w1 hf hk hp => ?_, ?_⟩
      · have h10 : slot t 10 = .bool false := hp 10 (by kernel_rfl)
        clear hf hp
        exact stepAt_off 10 true (by kernel_rfl) h10 rfl
      refine ⟨fun t w1 hf hk hp => ?_, ?_⟩
      · have h10 : slot t 10 = .bool false := hp 10 (by kernel_rfl)
        clear hf hp
        exact stepAt_off 10 true (by kernel_rfl) h10 rfl
      refine ⟨fun t w1 hf hk hp => ?_, ?_⟩
      · have h10 : slot t 10 = .bool false := hp 10 (by kernel_rfl)
        clear hf hp
        exact stepAt_off 10 true (by kernel_rfl) h10 rfl
      refine ⟨fun t w1 hf hk hp => ?_, ?_⟩
      · have h10 : slot t 10 = .bool false := hp 10 (by kernel_rfl)
        clear hf hp
        exact stepAt_off 10 true (by kernel_rfl) h10 rfl
      refine ⟨fun t w1 hf hk hp => ?_, ?_⟩
      · have h10 : slot t 10 = .bool false := hp 10 (by kernel_rfl)
        have h15 : slot t 15 = undef := hp 15 (by kernel_rfl)
        clear hf hp
        refine stepAt_plain rfl ?_
        refine stepOK_pure (.bool false) ?_ rfl
        simp only [execOp, evS, h10, h15]
        go_simp
      refine ⟨fun t w1 hf hk hp => ?_, ?_⟩
      · have h16 : slot t 16 = .bool false := hp 16 (by kernel_rfl)
        clear hf hp
        refine stepAt_plain rfl ?_
        exact stepOK_move _ (.inr rfl) h16
      exact trivial
    · intro t w1 hsz hf hk hfacts
      have h6 : slot t 6 = .bool false := hfacts 10 _ rfl 6 rfl
      have h3 : slot t 3 = .pointer (some ⟨w.heap.size, 0, none⟩) := hf 3 (by kernel_rfl)
      have h4 : slot t 4 = .pointer (some ⟨w.heap.size + 1, 0, none⟩) := hf 4 (by kernel_rfl)
      have h5 : slot t 5 = .pointer (some ⟨w.heap.size + 1 + 1, 0, none⟩) := hf 5 (by kernel_rfl)
      have harr : t = #[slot t 0, slot t 1, slot t 2, slot t 3, slot t 4, slot t 5, slot t 6, slot t 7, slot t 8, slot t 9, slot t 10, slot t 11, slot t 12, slot t 13, slot t 14, slot t 15, slot t 16] := arr_eq t 17 hsz
      rw [harr, h6, h3, h4, h5]
      clear harr hfacts hf h6 h3 h4 h5
      generalize slot t 0 = x0; generalize slot t 1 = x1; generalize slot t 2 = x2; generalize slot t 7 = x7; generalize slot t 8 = x8; generalize slot t 9 = x9; generalize slot t 10 = x10; generalize slot t 11 = x11; generalize slot t 12 = x12; generalize slot t 13 = x13; generalize slot t 14 = x14; generalize slot t 15 = x15
      generalize slot t 16 = x16
      clear hsz t
      have K2 := Lib.hid (K1.out.trans hk)
      clear hk
      go_wp2_with fail
      go_ret
      exact ⟨rfl, K2.out⟩
  · go_enter Tryd.func15, Tryd.ntmps15
    go_wp2_with fail
    generalize ((w.alloc (.cells (bC 32 r) 33)).alloc (.cells (bC 32 l) 33)).alloc (.cells #[.int .i64 I, .int .i64 N, v] 25) = v1 at R3 R4 R5 K1 ⊢
    refine wp_region_table [(7, .is (.pointer (some ⟨w.heap.size + 1 + 1, 1, none⟩))), (8, .is (.int .i64 N)), (9, .is (.bool true)), (10, .is (.bool true)), (11, .is (.agg (bC 32 r))), (12, .is (.agg (bC 32 l))), (13, .is (.string s)), (14, .is (.agg #[.int .i64 I, .int .i64 N, v])), (15, .is (.bool B)), (16, .is (.bool B)), (6, .is (.bool B))] (by kernel_rfl) (by kernel_rfl) ?_ ?_
    · refine ⟨fun t w1 hf hk hp => ?_, ?_⟩
      · have h5 : slot t 5 = .pointer (some ⟨w.heap.size + 1 + 1, 0, none⟩) := hf 5 (by kernel_rfl)
        clear hf hp
        refine stepAt_plain rfl ?_
        exact stepOK_pure (.pointer (some ⟨w.heap.size + 1 + 1, 1, none⟩)) (execFieldO (w.heap.size + 1 + 1) 1 (by omega) w1 rfl h5) rfl
      refine ⟨fun t w1 hf hk hp => ?_, ?_⟩
      · have h7 : slot t 7 = .pointer (some ⟨w.heap.size + 1 + 1, 1, none⟩) := hp 7 (by kernel_rfl)
        clear hf hp
        refine stepAt_plain rfl ?_
        have hq0 := run_loadI ((R5.out.kept hk).cell 1)
        exact stepOK_sem (.int .i64 N) (by simp only [execOp, evS, h7]) hq0 rfl
      refine ⟨fun t w1 hf hk hp => ?_, ?_⟩
      · have h8 : slot t 8 = .int .i64 N := hp 8 (by kernel_rfl)
        clear hf hp
        refine stepAt_plain rfl ?_
        have hq0 := hb
        refine stepOK_pure (.bool true) ?_ rfl
        simp only [execOp, evS, h8]
        go_simp
      refine ⟨fun t w1 hf hk hp => ?_, ?_⟩
      · have h9 : slot t 9 = .bool true := hp 9 (by kernel_rfl)
        clear hf hp
        refine stepAt_plain rfl ?_
        exact stepOK_move _ (.inl rfl) h9
      refine ⟨fun t w1 hf hk hp => ?_, ?_⟩
      · have h3 : slot t 3 = .pointer (some ⟨w.heap.size, 0, none⟩) := hf 3 (by kernel_rfl)
        have h10 : slot t 10 = .bool true := hp 10 (by kernel_rfl)
        clear hf hp
        refine stepAt_on 10 true (by kernel_rfl) h10 ?_
        exact stepOK_pure (.agg (bC 32 r)) (load_h rfl h3 (R3.out.kept hk)) rfl
      refine ⟨fun t w1 hf hk hp => ?_, ?_⟩
      · have h4 : slot t 4 = .pointer (some ⟨w.heap.size + 1, 0, none⟩) := hf 4 (by kernel_rfl)
        have h10 : slot t 10 = .bool true := hp 10 (by kernel_rfl)
        clear hf hp
        refine stepAt_on 10 true (by kernel_rfl) h10 ?_
        exact stepOK_pure (.agg (bC 32 l)) (load_h rfl h4 (R4.out.kept hk)) rfl
      refine ⟨fun t w1 hf hk hp => ?_, ?_⟩
      · have h12 : slot t 12 = .agg (bC 32 l) := hp 12 (by kernel_rfl)
        have h10 : slot t 10 = .bool true := hp 10 (by kernel_rfl)
        clear hf hp
        refine stepAt_on 10 true (by kernel_rfl) h10 ?_
        refine stepOK_call #[.agg (bC 32 l)] rfl (by simp only [List.map_toArray, List.map_cons, List.map_nil, evS, h12]) (by go_simp) ((H1.out w1).mono fun e w' ⟨he, hk'⟩ => ⟨_, he, hk', rfl⟩)
      refine ⟨fun t w1 hf hk hp => ?_, ?_⟩
      · have h5 : slot t 5 = .pointer (some ⟨w.heap.size + 1 + 1, 0, none⟩) := hf 5 (by kernel_rfl)
        have h10 : slot t 10 = .bool true := hp 10 (by kernel_rfl)
        clear hf hp
        refine stepAt_on 10 true (by kernel_rfl) h10 ?_
        exact stepOK_pure (.agg #[.int .i64 I, .int .i64 N, v]) (loadO rfl h5 (R5.out.kept hk) hsz) rfl
      refine ⟨fun t w1 hf hk hp => ?_, ?_⟩
      · have h11 : slot t 11 = .agg (bC 32 r) := hp 11 (by kernel_rfl)
        have h13 : slot t 13 = .string s := hp 13 (by kernel_rfl)
        have h14 : slot t 14 = .agg #[.int .i64 I, .int .i64 N, v] := hp 14 (by kernel_rfl)
        have h10 : slot t 10 = .bool true := hp 10 (by kernel_rfl)
        clear hf hp
        refine stepAt_on 10 true (by kernel_rfl) h10 ?_
        refine stepOK_call #[.agg (bC 32 r), .string s, .agg #[.int .i64 I, .int .i64 N, v]] rfl (by simp only [List.map_toArray, List.map_cons, List.map_nil, evS, h11, h13, h14]) (by go_simp) ((H2.out w1 (HSl.kept _ _ _ _ _ (K1.out.trans hk) HV.out) (HT.out.kept (K1.out.trans hk))).mono fun e w' ⟨he, hk'⟩ => ⟨_, he, hk', rfl⟩)
      refine ⟨fun t w1 hf hk hp => ?_, ?_⟩
      · have h10 : slot t 10 = .bool true := hp 10 (by kernel_rfl)
        have h15 : slot t 15 = .bool B := hp 15 (by kernel_rfl)
        clear hf hp
        refine stepAt_plain rfl ?_
        refine stepOK_pure (.bool B) ?_ rfl
        simp only [execOp, evS, h10, h15]
        go_simp
      refine ⟨fun t w1 hf hk hp => ?_, ?_⟩
      · have h16 : slot t 16 = .bool B := hp 16 (by kernel_rfl)
        clear hf hp
        refine stepAt_plain rfl ?_
        exact stepOK_move _ (.inr rfl) h16
      exact trivial
    · intro t w1 hsz hf hk hfacts
      have h6 : slot t 6 = .bool B := hfacts 10 _ rfl 6 rfl
      have h3 : slot t 3 = .pointer (some ⟨w.heap.size, 0, none⟩) := hf 3 (by kernel_rfl)
      have h4 : slot t 4 = .pointer (some ⟨w.heap.size + 1, 0, none⟩) := hf 4 (by kernel_rfl)
      have h5 : slot t 5 = .pointer (some ⟨w.heap.size + 1 + 1, 0, none⟩) := hf 5 (by kernel_rfl)
      have harr : t = #[slot t 0, slot t 1, slot t 2, slot t 3, slot t 4, slot t 5, slot t 6, slot t 7, slot t 8, slot t 9, slot t 10, slot t 11, slot t 12, slot t 13, slot t 14, slot t 15, slot t 16] := arr_eq t 17 hsz
      rw [harr, h6, h3, h4, h5]
      clear harr hfacts hf h6 h3 h4 h5
      generalize slot t 0 = x0; generalize slot t 1 = x1; generalize slot t 2 = x2; generalize slot t 7 = x7; generalize slot t 8 = x8; generalize slot t 9 = x9; generalize slot t 10 = x10; generalize slot t 11 = x11; generalize slot t 12 = x12; generalize slot t 13 = x13; generalize slot t 14 = x14; generalize slot t 15 = x15
      generalize slot t 16 = x16
      clear hsz t
      have K2 := Lib.hid (K1.out.trans hk)
      clear hk
      go_wp2_with fail
      go_ret
      exact ⟨rfl, K2.out⟩
end Go.Proofs.YtfdjbomofmeolaaDoor
