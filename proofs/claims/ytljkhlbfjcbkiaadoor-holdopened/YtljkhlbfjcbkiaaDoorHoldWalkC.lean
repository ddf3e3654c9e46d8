/-
  Contracts of hold.Root and Check, and of the reference's Told and Check. Conditions: a leaf of at most a million bytes; a slice's length and capacity fit; sha's table of round constants stands (hold).
-/
import Derived.Test.YtljkhlbfjcbkiaaDoorHoldWalkB
import Derived.Test.YtljkhlbfjcbkiaaDoorHoldRef
namespace Go.Proofs.YtljkhlbfjcbkiaaDoor
set_option maxRecDepth 4000
open Go.RowKit

theorem wrap_u64 (n : Nat) (h : n ≤ 1048576) : IntKind.u64.wrap (n : Int) = (n : Int) := by simp only [IntKind.wrap, IntKind.signed, IntKind.bits]; simp; omega
theorem rtO_good {s : ByteArray} {i n m : Nat} {F : Nat → List UInt8} (h : mayE (i : Int) (n : Int) m = 0) : rtO s (i : Int) (n : Int) m F = shaL (rootS n (upL n i (shaL (leafS s)) (fl m F))) := by
  rw [rtO, if_pos h]; rfl
set_option maxRecDepth 100000 in
set_option maxHeartbeats 2000000 in
theorem holdRoot_any (s : ByteArray) (hs : s.size ≤ 1000000) (I N : Int) (m : Nat) (F : Nat → List UInt8) (v : Value) (w : World) (hv : HSl m F v w) (ht : Tab w) :
    Calls Tryd.prog 6 #[.string s, .agg #[.int .i64 I, .int .i64 N, v]] w fun e w' => e = .returned (.tuple #[.agg (bC 32 (rtO s I N m F)), .int .i64 (mayE I N m)]) ∧ Kept w w' := by
  have HV := Lib.hid hv
  have HT := Lib.hid ht
  have HUp : Hid (∀ (b : Nat) (w1 : World), b ≤ w1.heap.size → HSl m F v w1 → Tab w1 → _) := Lib.hid fun b w1 hb hv ht => PaS.mono b hb (holdUp_any s hs I N m F v w1 hv ht)
  obtain ⟨p, c, rfl, hc, hcm, hF⟩ := hv
  have HM : Hid (∀ w, _) := Lib.hid fun w => holdMay_any I N p m c w
  have R1 := Lib.hid ((Rowz.new w #[.int .i64 I, .int .i64 N, .slice p m c] 26).alloc (.cells (bC 32 []) 23))
  have Z1 := Lib.hid (Rowz.newEq1 w (.cells #[.int .i64 I, .int .i64 N, .slice p m c] 26) _ (bC 32 []) 23 rfl)
  have K1 := Lib.hid (((Kept.refl w).alloc (.cells #[.int .i64 I, .int .i64 N, .slice p m c] 26)).alloc (.cells (bC 32 []) 23))
  clear hF ht hc hcm
  by_cases h0 : mayE I N m = 0
  · obtain ⟨i, n, rfl, rfl, hi, hn, hml, hm63⟩ := mayE_nat h0
    rw [rtO_good h0, h0]
    rw [h0] at HM
    have hu : upO s (i : Int) (n : Int) m F = upsL s i n m F m := by rw [upO, if_pos h0]; rfl
    rw [hu] at HUp
    have HL32 : Hid (∀ x ∈ upsL s i n m F m, x.length = 32) := Lib.hid (upsL_32 s i n m F hml)
    have HLl : Hid ((upsL s i n m F m).length = m + 1) := Lib.hid (upsL_length s i n m F m)
    have hlast : Hid (lh (upsL s i n m F m) m = upL n i (shaL (leafS s)) (fl m F)) := Lib.hid (by rw [upsL_last, uH_all _ _ _ _ _ hml])
    have hA : (upL n i (shaL (leafS s)) (fl m F)).length = 32 := upL_length _ _ _ _ (shaL_length _)
    have HR : Hid (∀ w, Tab w → _) := Lib.hid fun w ht => tagRootSum_any n (by omega) (upL n i (shaL (leafS s)) (fl m F)) hA w ht
    generalize shaL (rootS n (upL n i (shaL (leafS s)) (fl m F))) = B at HR ⊢
    generalize upL n i (shaL (leafS s)) (fl m F) = A at HR hlast
    generalize upsL s i n m F m = L at HUp HL32 HLl hlast
    have hw : IntKind.u64.wrap (n : Int) = (n : Int) := wrap_u64 n hn
    have hsub : IntKind.i64.wrap (m : Int) = (m : Int) := by simp only [IntKind.wrap, IntKind.signed, IntKind.bits]; simp; omega
    clear h0 hml hu hA
    go_enter Tryd.func6, Tryd.ntmps6
    go_wp2_with fail
    change Calls _ _ _ ((w.alloc (.cells #[.int .i64 (i : Int), .int .i64 (n : Int), .slice p m c] 26)).alloc (.cells (bC 32 []) 23)) _
    have HB : Hid (w.heap.size + 2 ≤ ((w.alloc (.cells #[.int .i64 (i : Int), .int .i64 (n : Int), .slice p m c] 26)).alloc (.cells (bC 32 []) 23)).heap.size) := Lib.hid (by simp)
    generalize (w.alloc (.cells #[.int .i64 (i : Int), .int .i64 (n : Int), .slice p m c] 26)).alloc (.cells (bC 32 []) 23) = v1 at R1 Z1 K1 HB ⊢
    refine (HM.out v1).mono ?_
    rintro e v2 ⟨rfl, k2⟩
    have R2 := Lib.hid (R1.out.kept k2)
    have Z2 := Lib.hid (Z1.out.kept k2)
    have K2 := Lib.hid (K1.out.trans k2)
    have B2 : Hid (w.heap.size + 2 ≤ v2.heap.size) := Lib.hid (Nat.le_trans HB.out k2.size)
    clear R1 Z1 K1 HB k2 HM
    have c0 := R2.out.cell 0
    have c1 := R2.out.cell 1
    have c2 := R2.out.cell 2
    go_wp2_with fail
    clear c0 c1 c2
    refine (HUp.out (w.heap.size + 2) v2 B2.out (HSl.kept _ _ _ _ _ K2.out HV.out) (HT.out.kept K2.out)).mono ?_
    rintro e v3 ⟨x, rfl, hx, k3⟩
    have hx' := hx.hsl HL32.out
    rw [HLl.out] at hx'
    have R3 := Lib.hid (R2.out.kept k3)
    have Z3 := Lib.hid (Z2.out.kept k3)
    have K3 := Lib.hid (K2.out.trans k3)
    clear R2 Z2 K2 B2 k3 HUp hx
    obtain ⟨q0, cc, rfl, hcc, hcm, hH⟩ := hx'
    obtain ⟨q, rfl, _⟩ := hH.some (by omega)
    have HH25 : Hid (∀ w1, Kept v3 w1 → (Instr.loadAt 23 (.pointer (some (q.add (m * 32))))).run Tryd.prog w1 = .ok (.agg (bC 32 A)) w1) := Lib.hid fun w1 hk => by
      rw [← hlast.out]; exact (hH.kept hk).load m (by omega)
    clear hH hcc hcm
    go_wp2_with fail
    refine wp_region_tail 10 [(17, .is (.pointer (some ⟨w.heap.size, 1, none⟩))), (18, .is (.int .i64 (n : Int))), (19, .is (.int .u64 (n : Int))), (20, .is (.slice (some q) (m + 1) cc)), (21, .is (.slice (some q) (m + 1) cc)), (22, .is (.int .i64 ((m + 1 : Nat) : Int))), (23, .is (.int .i64 (m : Int))), (24, .is (.pointer (some (q.add (m * 32))))), (25, .is (.agg (bC 32 A))), (26, .is (.agg (bC 32 B)))] (by kernel_rfl) (by kernel_rfl) ?_ ?_
    · refine ⟨fun t w1 hf hk hp => ?_, ?_⟩
      · have h3 : slot t 3 = .pointer (some ⟨w.heap.size, 0, none⟩) := hf 3 (by kernel_rfl)
        clear hf hp
        refine stepM_at (by kernel_rfl) ?_
        refine stepAt_plain rfl ?_
        exact stepOK_pure (.pointer (some ⟨w.heap.size, 1, none⟩)) (execFieldO w.heap.size 1 (by omega) w1 rfl h3) rfl
      refine ⟨fun t w1 hf hk hp => ?_, ?_⟩
      · have h17 : slot t 17 = .pointer (some ⟨w.heap.size, 1, none⟩) := hp 17 (by kernel_rfl)
        clear hf hp
        refine stepM_at (by kernel_rfl) ?_
        refine stepAt_plain rfl ?_
        have hq0 := run_loadI ((R3.out.kept hk).cell 1)
        exact stepOK_sem (.int .i64 (n : Int)) (by simp only [execOp, evS, h17]) hq0 rfl
      refine ⟨fun t w1 hf hk hp => ?_, ?_⟩
      · have h18 : slot t 18 = .int .i64 (n : Int) := hp 18 (by kernel_rfl)
        clear hf hp
        refine stepM_at (by kernel_rfl) ?_
        refine stepAt_plain rfl ?_
        have hq0 := hw
        refine stepOK_pure (.int .u64 (n : Int)) ?_ rfl
        simp only [execOp, evS, h18]
        go_simp
      refine ⟨fun t w1 hf hk hp => ?_, ?_⟩
      · have h7 : slot t 7 = .slice (some q) (m + 1) cc := hf 7 (by kernel_rfl)
        clear hf hp
        refine stepM_at (by kernel_rfl) ?_
        refine stepAt_plain rfl ?_
        exact stepOK_move _ (.inl rfl) h7
      refine ⟨fun t w1 hf hk hp => ?_, ?_⟩
      · have h7 : slot t 7 = .slice (some q) (m + 1) cc := hf 7 (by kernel_rfl)
        clear hf hp
        refine stepM_at (by kernel_rfl) ?_
        refine stepAt_plain rfl ?_
        exact stepOK_move _ (.inl rfl) h7
      refine ⟨fun t w1 hf hk hp => ?_, ?_⟩
      · have h21 : slot t 21 = .slice (some q) (m + 1) cc := hp 21 (by kernel_rfl)
        clear hf hp
        refine stepM_at (by kernel_rfl) ?_
        refine stepAt_plain rfl ?_
        exact stepOK_pure (.int .i64 ((m + 1 : Nat) : Int)) (execLenHs w1 rfl h21) rfl
      refine ⟨fun t w1 hf hk hp => ?_, ?_⟩
      · have h22 : slot t 22 = .int .i64 ((m + 1 : Nat) : Int) := hp 22 (by kernel_rfl)
        clear hf hp
        refine stepM_at (by kernel_rfl) ?_
        refine stepAt_plain rfl ?_
        have hq0 := hsub
        refine stepOK_pure (.int .i64 (m : Int)) ?_ rfl
        simp only [execOp, evS, h22]
        go_simp
      refine ⟨fun t w1 hf hk hp => ?_, ?_⟩
      · have h20 : slot t 20 = .slice (some q) (m + 1) cc := hp 20 (by kernel_rfl)
        have h23 : slot t 23 = .int .i64 (m : Int) := hp 23 (by kernel_rfl)
        clear hf hp
        refine stepM_at (by kernel_rfl) ?_
        refine stepAt_plain rfl ?_
        exact stepOK_pure (.pointer (some (q.add (m * 32)))) (execIndexH q (m + 1) cc m (by omega) w1 rfl h20 h23) rfl
      refine ⟨fun t w1 hf hk hp => ?_, ?_⟩
      · have h24 : slot t 24 = .pointer (some (q.add (m * 32))) := hp 24 (by kernel_rfl)
        clear hf hp
        refine stepM_at (by kernel_rfl) ?_
        refine stepAt_plain rfl ?_
        have hq0 := HH25.out w1 hk
        exact stepOK_sem (.agg (bC 32 A)) (by simp only [execOp, evS, h24]) hq0 rfl
      refine ⟨fun t w1 hf hk hp => ?_, ?_⟩
      · have h19 : slot t 19 = .int .u64 (n : Int) := hp 19 (by kernel_rfl)
        have h25 : slot t 25 = .agg (bC 32 A) := hp 25 (by kernel_rfl)
        clear hf hp
        refine stepM_at (by kernel_rfl) ?_
        refine stepAt_plain rfl ?_
        refine stepOK_call #[.int .u64 (n : Int), .agg (bC 32 A)] rfl (by simp only [List.map_toArray, List.map_cons, List.map_nil, evS, h19, h25]) (by go_simp) ((HR.out w1 (HT.out.kept (K3.out.trans hk))).mono fun e w' ⟨he, hk'⟩ => ⟨_, he, hk', rfl⟩)
      exact trivial
    · intro t w1 hsz hf hk hfacts
      have h26 : slot t 26 = .agg (bC 32 B) := hfacts 9 _ (by decide) rfl 26 rfl
      have h3 : slot t 3 = .pointer (some ⟨w.heap.size, 0, none⟩) := hf 3 (by kernel_rfl)
      have h4 : slot t 4 = .pointer (some ⟨w.heap.size + 1, 0, none⟩) := hf 4 (by kernel_rfl)
      have h7 : slot t 7 = .slice (some q) (m + 1) cc := hf 7 (by kernel_rfl)
      have harr : t = #[slot t 0, slot t 1, slot t 2, slot t 3, slot t 4, slot t 5, slot t 6, slot t 7, slot t 8, slot t 9, slot t 10, slot t 11, slot t 12, slot t 13, slot t 14, slot t 15, slot t 16, slot t 17, slot t 18, slot t 19, slot t 20, slot t 21, slot t 22, slot t 23, slot t 24, slot t 25, slot t 26] := arr_eq t 27 hsz
      rw [harr, h26, h3, h4, h7]
      clear harr hfacts hf h26 h3 h4 h7
      generalize slot t 0 = x0; generalize slot t 1 = x1; generalize slot t 2 = x2; generalize slot t 5 = x5; generalize slot t 6 = x6; generalize slot t 8 = x8; generalize slot t 9 = x9; generalize slot t 10 = x10; generalize slot t 11 = x11; generalize slot t 12 = x12; generalize slot t 13 = x13; generalize slot t 14 = x14
      generalize slot t 15 = x15; generalize slot t 16 = x16; generalize slot t 17 = x17; generalize slot t 18 = x18; generalize slot t 19 = x19; generalize slot t 20 = x20; generalize slot t 21 = x21; generalize slot t 22 = x22; generalize slot t 23 = x23; generalize slot t 24 = x24; generalize slot t 25 = x25
      clear hsz t
      simp only [List.drop_succ_cons, List.drop_zero]
      have Z4 := Lib.hid (Z3.out.kept hk)
      have K4 := Lib.hid (K3.out.trans hk)
      clear hk
      go_wp2_with (refine wpList_store_row rfl 23 _ _ rfl (w.heap.size + 1) (bC 32 B) rfl rfl 23 (bC 32 []) Z4.out (info_hash _) (by simp [bC_size]) (bC_one _ _) ?_)
      refine bodyPost_ret (v := .tuple #[.agg (bC 32 B), .int .i64 0]) (results_row_tmp Tryd.results6 _ _ (w.heap.size + 1) 23 _ _ _ rfl rfl Z4.out.row Tryd.underlying23 rfl (info_hash _)) rfl ⟨rfl, ?_⟩
      exact K4.out.setRow (by omega) _
  · rw [rtO, if_neg h0, ← zero_hashC]
    generalize mayE I N m = E at HM h0 ⊢
    have hd0 : (E != 0) = true := by simpa using h0
    have HE := Lib.hid h0
    clear h0 HUp
    go_enter Tryd.func6, Tryd.ntmps6
    go_wp2_with fail
    change Calls _ _ _ ((w.alloc (.cells #[.int .i64 I, .int .i64 N, .slice p m c] 26)).alloc (.cells (bC 32 []) 23)) _
    generalize (w.alloc (.cells #[.int .i64 I, .int .i64 N, .slice p m c] 26)).alloc (.cells (bC 32 []) 23) = v1 at R1 Z1 K1 ⊢
    refine (HM.out v1).mono ?_
    rintro e v2 ⟨rfl, k2⟩
    have Z2 := Lib.hid (Z1.out.kept k2)
    have K2 := Lib.hid (K1.out.trans k2)
    clear R1 Z1 K1 k2 HM
    go_wp2_with (first
      | (refine wpList_exec 12 rfl (by rfl) (.agg (bC 32 [])) _ (execBuild0 rfl (run_build0 _)) ?_)
      | (refine wpList_store_row rfl 23 _ _ rfl (w.heap.size + 1) (bC 32 []) rfl rfl 23 (bC 32 []) Z2.out (info_hash _) (by simp [bC_size]) (bC_one _ _) ?_))
    refine bodyPost_ret (v := .tuple #[.agg (bC 32 []), .int .i64 E]) (results_row_tmp Tryd.results6 _ _ (w.heap.size + 1) 23 _ _ _ rfl rfl Z2.out.row Tryd.underlying23 rfl (info_hash _)) rfl ⟨rfl, ?_⟩
    exact K2.out.setRow (by omega) _

set_option maxRecDepth 100000 in
set_option maxHeartbeats 2000000 in
theorem holdCheck_any (r : List UInt8) (hr : r.length = 32) (s : ByteArray) (hs : s.size ≤ 1000000) (I N : Int) (m : Nat) (F : Nat → List UInt8) (v : Value) (w : World) (hv : HSl m F v w) (ht : Tab w) :
    Calls Tryd.prog 11 #[.agg (bC 32 r), .string s, .agg #[.int .i64 I, .int .i64 N, v]] w fun e w' => e = .returned (.bool (ckO r s I N m F)) ∧ Kept w w' := by
  have HV := Lib.hid hv
  have HT := Lib.hid ht
  have HR : Hid (∀ w, HSl m F v w → Tab w → _) := Lib.hid fun w hv ht => holdRoot_any s hs I N m F v w hv ht
  obtain ⟨p, c, rfl, hc, hcm, hF⟩ := hv
  have hRl := rtO_length s I N m F
  have hck : ckO r s I N m F = decide (mayE I N m = 0 ∧ rtO s I N m F = r) := rfl
  rw [hck]
  clear hck hF hc hcm ht
  generalize rtO s I N m F = B at HR hRl ⊢
  generalize mayE I N m = E at HR ⊢
  have R1 := Lib.hid ((Rowz.new w (bC 32 r) 23).alloc (.cells #[.int .i64 I, .int .i64 N, .slice p m c] 26))
  have K1 := Lib.hid (((Kept.refl w).alloc (.cells (bC 32 r) 23)).alloc (.cells #[.int .i64 I, .int .i64 N, .slice p m c] 26))
  by_cases h0 : E = 0
  · subst h0
    rw [show decide ((0 : Int) = 0 ∧ B = r) = decide (B = r) by rw [decide_eq_decide]; exact ⟨fun h => h.2, fun h => ⟨rfl, h⟩⟩]
    obtain ⟨D, hD⟩ : ∃ D, D = decide (B = r) := ⟨_, rfl⟩
    rw [← hD]
    replace hD := Lib.hid hD
    go_enter Tryd.func11, Tryd.ntmps11
    go_wp2_with fail
    change Calls _ _ _ ((w.alloc (.cells (bC 32 r) 23)).alloc (.cells #[.int .i64 I, .int .i64 N, .slice p m c] 26)) _
    generalize (w.alloc (.cells (bC 32 r) 23)).alloc (.cells #[.int .i64 I, .int .i64 N, .slice p m c] 26) = v1 at R1 K1 ⊢
    refine (HR.out v1 (HSl.kept _ _ _ _ _ K1.out HV.out) (HT.out.kept K1.out)).mono ?_
    rintro e v2 ⟨rfl, k2⟩
    have R2 := Lib.hid (R1.out.kept k2)
    have K2 := Lib.hid (K1.out.trans k2)
    clear R1 K1 k2 HR
    go_wp2_with (first
      | (refine wpList_store_made rfl 23 _ _ rfl _ _ (bC 32 B) rfl rfl 23 _ rfl (info_hash _) (by simp [bC_size]) (bC_one _ _) ?_; intro v3 R3 k3)
      | (refine park_at 18 rfl ?_))
    have R4 := Lib.hid (R2.out.kept k3.out)
    have K4 := Lib.hid (K2.out.trans k3.out)
    clear R2 K2 k3
    refine unpark ?_
    refine wpList_exec 18 rfl (by rfl) (.agg (bC 32 B)) _ (loadHr rfl rfl R3.out) ?_
    refine wpList_exec 19 rfl (by rfl) (.agg (bC 32 r)) _ (loadHr rfl rfl R4.out) ?_
    refine wpList_exec 20 rfl (by rfl) (.bool D) _ (by rw [hD.out]; exact execEqHs B r hRl hr _ rfl rfl rfl) ?_
    clear R3 R4 hD
    go_wp2_with fail
    go_ret
    exact ⟨rfl, K4.out⟩
  · rw [decide_eq_false (fun h => h0 h.1)]
    have hd0 : (E == 0) = false := by simpa using h0
    have HE := Lib.hid h0
    clear h0 hRl
    go_enter Tryd.func11, Tryd.ntmps11
    go_wp2_with fail
    change Calls _ _ _ ((w.alloc (.cells (bC 32 r) 23)).alloc (.cells #[.int .i64 I, .int .i64 N, .slice p m c] 26)) _
    generalize (w.alloc (.cells (bC 32 r) 23)).alloc (.cells #[.int .i64 I, .int .i64 N, .slice p m c] 26) = v1 at R1 K1 ⊢
    refine (HR.out v1 (HSl.kept _ _ _ _ _ K1.out HV.out) (HT.out.kept K1.out)).mono ?_
    rintro e v2 ⟨rfl, k2⟩
    have K2 := Lib.hid (K1.out.trans k2)
    clear R1 K1 k2 HR
    go_wp2_with (refine wpList_store_made rfl 23 _ _ rfl _ _ (bC 32 B) rfl rfl 23 _ rfl (info_hash _) (by simp [bC_size]) (bC_one _ _) ?_; intro v3 R3 k3)
    go_ret
    exact ⟨rfl, K2.out.trans k3.out⟩

set_option maxRecDepth 100000 in
set_option maxHeartbeats 2000000 in
theorem refTold_any (s : ByteArray) (hs : s.size ≤ 1000000) (I N : Int) (m : Nat) (F : Nat → List UInt8) (v : Value) (w : World) (hv : HSl m F v w) :
    Calls Tryd.prog 7 #[.string s, .agg #[.int .i64 I, .int .i64 N, v]] w fun e w' => e = .returned (.tuple #[.agg (bC 32 (rtO s I N m F)), .int .i64 (mayE I N m)]) ∧ Kept w w' := by
  have HV := Lib.hid hv
  obtain ⟨p, c, rfl, hc, hcm, hF⟩ := hv
  have HM : Hid (∀ w, _) := Lib.hid fun w => refMay_any I N p m c w
  have R1 := Lib.hid ((Rowz.new w #[.int .i64 I, .int .i64 N, .slice p m c] 26).alloc (.cells (bC 32 []) 23))
  have Z1 := Lib.hid (Rowz.newEq1 w (.cells #[.int .i64 I, .int .i64 N, .slice p m c] 26) _ (bC 32 []) 23 rfl)
  have K1 := Lib.hid (((Kept.refl w).alloc (.cells #[.int .i64 I, .int .i64 N, .slice p m c] 26)).alloc (.cells (bC 32 []) 23))
  by_cases h0 : mayE I N m = 0
  · obtain ⟨i, n, rfl, rfl, hi, hn, hml, hm63⟩ := mayE_nat h0
    rw [rtO_good h0, h0]
    rw [h0] at HM
    have HL : Hid (∀ w, _) := Lib.hid fun w => refLeafSum_any s hs w
    have HU : Hid (∀ w, HAt w p m F → _) := Lib.hid fun w hF => refUp_any n p m c F i (shaL (leafS s)) w hc hcm hi hn hml (shaL_length _) hF
    have hA : (upL n i (shaL (leafS s)) (fl m F)).length = 32 := upL_length _ _ _ _ (shaL_length _)
    have HR : Hid (∀ w, _) := Lib.hid fun w => refRootSum_any n (by omega) (upL n i (shaL (leafS s)) (fl m F)) hA w
    generalize shaL (rootS n (upL n i (shaL (leafS s)) (fl m F))) = B at HR ⊢
    generalize upL n i (shaL (leafS s)) (fl m F) = A at HR HU
    generalize shaL (leafS s) = H at HL HU
    have hw : IntKind.u64.wrap (n : Int) = (n : Int) := wrap_u64 n hn
    have HF := Lib.hid hF
    clear h0 hml hA hF hc hcm
    go_enter Tryd.func7, Tryd.ntmps7
    go_wp2_with fail
    change Calls _ _ _ ((w.alloc (.cells #[.int .i64 (i : Int), .int .i64 (n : Int), .slice p m c] 26)).alloc (.cells (bC 32 []) 23)) _
    generalize (w.alloc (.cells #[.int .i64 (i : Int), .int .i64 (n : Int), .slice p m c] 26)).alloc (.cells (bC 32 []) 23) = v1 at R1 Z1 K1 ⊢
    refine (HM.out v1).mono ?_
    rintro e v2 ⟨rfl, k2⟩
    have R3 := Lib.hid (R1.out.kept k2)
    have Z3 := Lib.hid (Z1.out.kept k2)
    have K3 := Lib.hid (K1.out.trans k2)
    clear R1 Z1 K1 k2 HM
    go_wp2_with fail
    refine wp_region_tail 13 [(13, .is (.pointer (some ⟨w.heap.size, 1, none⟩))), (14, .is (.int .i64 (n : Int))), (15, .is (.int .u64 (n : Int))), (16, .is (.pointer (some ⟨w.heap.size, 1, none⟩))), (17, .is (.int .i64 (n : Int))), (18, .is (.pointer (some ⟨w.heap.size, 0, none⟩))), (19, .is (.int .i64 (i : Int))), (20, .is (.string s)), (21, .is (.agg (bC 32 H))), (22, .is (.pointer (some ⟨w.heap.size, 2, none⟩))), (23, .is (.slice p m c)), (24, .is (.agg (bC 32 A))), (25, .is (.agg (bC 32 B)))] (by kernel_rfl) (by kernel_rfl) ?_ ?_
    · refine ⟨fun t w1 hf hk hp => ?_, ?_⟩
      · have h3 : slot t 3 = .pointer (some ⟨w.heap.size, 0, none⟩) := hf 3 (by kernel_rfl)
        clear hf hp
        refine stepM_at (by kernel_rfl) ?_
        refine stepAt_plain rfl ?_
        exact stepOK_pure (.pointer (some ⟨w.heap.size, 1, none⟩)) (execFieldO w.heap.size 1 (by omega) w1 rfl h3) rfl
      refine ⟨fun t w1 hf hk hp => ?_, ?_⟩
      · have h13 : slot t 13 = .pointer (some ⟨w.heap.size, 1, none⟩) := hp 13 (by kernel_rfl)
        clear hf hp
        refine stepM_at (by kernel_rfl) ?_
        refine stepAt_plain rfl ?_
        have hq0 := run_loadI ((R3.out.kept hk).cell 1)
        exact stepOK_sem (.int .i64 (n : Int)) (by simp only [execOp, evS, h13]) hq0 rfl
      refine ⟨fun t w1 hf hk hp => ?_, ?_⟩
      · have h14 : slot t 14 = .int .i64 (n : Int) := hp 14 (by kernel_rfl)
        clear hf hp
        refine stepM_at (by kernel_rfl) ?_
        refine stepAt_plain rfl ?_
        have hq0 := hw
        refine stepOK_pure (.int .u64 (n : Int)) ?_ rfl
        simp only [execOp, evS, h14]
        go_simp
      refine ⟨fun t w1 hf hk hp => ?_, ?_⟩
      · have h3 : slot t 3 = .pointer (some ⟨w.heap.size, 0, none⟩) := hf 3 (by kernel_rfl)
        clear hf hp
        refine stepM_at (by kernel_rfl) ?_
        refine stepAt_plain rfl ?_
        exact stepOK_pure (.pointer (some ⟨w.heap.size, 1, none⟩)) (execFieldO w.heap.size 1 (by omega) w1 rfl h3) rfl
      refine ⟨fun t w1 hf hk hp => ?_, ?_⟩
      · have h16 : slot t 16 = .pointer (some ⟨w.heap.size, 1, none⟩) := hp 16 (by kernel_rfl)
        clear hf hp
        refine stepM_at (by kernel_rfl) ?_
        refine stepAt_plain rfl ?_
        have hq0 := run_loadI ((R3.out.kept hk).cell 1)
        exact stepOK_sem (.int .i64 (n : Int)) (by simp only [execOp, evS, h16]) hq0 rfl
      refine ⟨fun t w1 hf hk hp => ?_, ?_⟩
      · have h3 : slot t 3 = .pointer (some ⟨w.heap.size, 0, none⟩) := hf 3 (by kernel_rfl)
        clear hf hp
        refine stepM_at (by kernel_rfl) ?_
        refine stepAt_plain rfl ?_
        exact stepOK_pure (.pointer (some ⟨w.heap.size, 0, none⟩)) (execFieldO w.heap.size 0 (by omega) w1 rfl h3) rfl
      refine ⟨fun t w1 hf hk hp => ?_, ?_⟩
      · have h18 : slot t 18 = .pointer (some ⟨w.heap.size, 0, none⟩) := hp 18 (by kernel_rfl)
        clear hf hp
        refine stepM_at (by kernel_rfl) ?_
        refine stepAt_plain rfl ?_
        have hq0 := run_loadI ((R3.out.kept hk).cell 0)
        exact stepOK_sem (.int .i64 (i : Int)) (by simp only [execOp, evS, h18]) hq0 rfl
      refine ⟨fun t w1 hf hk hp => ?_, ?_⟩
      · have h0 : slot t 0 = .string s := hf 0 (by kernel_rfl)
        clear hf hp
        refine stepM_at (by kernel_rfl) ?_
        refine stepAt_plain rfl ?_
        exact stepOK_move _ (.inl rfl) h0
      refine ⟨fun t w1 hf hk hp => ?_, ?_⟩
      · have h20 : slot t 20 = .string s := hp 20 (by kernel_rfl)
        clear hf hp
        refine stepM_at (by kernel_rfl) ?_
        refine stepAt_plain rfl ?_
        refine stepOK_call #[.string s] rfl (by simp only [List.map_toArray, List.map_cons, List.map_nil, evS, h20]) (by go_simp) ((HL.out w1).mono fun e w' ⟨he, hk'⟩ => ⟨_, he, hk', rfl⟩)
      refine ⟨fun t w1 hf hk hp => ?_, ?_⟩
      · have h3 : slot t 3 = .pointer (some ⟨w.heap.size, 0, none⟩) := hf 3 (by kernel_rfl)
        clear hf hp
        refine stepM_at (by kernel_rfl) ?_
        refine stepAt_plain rfl ?_
        exact stepOK_pure (.pointer (some ⟨w.heap.size, 2, none⟩)) (execFieldO w.heap.size 2 (by omega) w1 rfl h3) rfl
      refine ⟨fun t w1 hf hk hp => ?_, ?_⟩
      · have h22 : slot t 22 = .pointer (some ⟨w.heap.size, 2, none⟩) := hp 22 (by kernel_rfl)
        clear hf hp
        refine stepM_at (by kernel_rfl) ?_
        refine stepAt_plain rfl ?_
        have hq0 := run_loadHs ((R3.out.kept hk).cell 2)
        exact stepOK_sem (.slice p m c) (by simp only [execOp, evS, h22]) hq0 rfl
      refine ⟨fun t w1 hf hk hp => ?_, ?_⟩
      · have h17 : slot t 17 = .int .i64 (n : Int) := hp 17 (by kernel_rfl)
        have h19 : slot t 19 = .int .i64 (i : Int) := hp 19 (by kernel_rfl)
        have h21 : slot t 21 = .agg (bC 32 H) := hp 21 (by kernel_rfl)
        have h23 : slot t 23 = .slice p m c := hp 23 (by kernel_rfl)
        clear hf hp
        refine stepM_at (by kernel_rfl) ?_
        refine stepAt_plain rfl ?_
        refine stepOK_call #[.int .i64 (n : Int), .int .i64 (i : Int), .agg (bC 32 H), .slice p m c] rfl (by simp only [List.map_toArray, List.map_cons, List.map_nil, evS, h17, h19, h21, h23]) (by go_simp) ((HU.out w1 (HF.out.kept (K3.out.trans hk))).mono fun e w' ⟨he, hk'⟩ => ⟨_, he, hk', rfl⟩)
      refine ⟨fun t w1 hf hk hp => ?_, ?_⟩
      · have h15 : slot t 15 = .int .u64 (n : Int) := hp 15 (by kernel_rfl)
        have h24 : slot t 24 = .agg (bC 32 A) := hp 24 (by kernel_rfl)
        clear hf hp
        refine stepM_at (by kernel_rfl) ?_
        refine stepAt_plain rfl ?_
        refine stepOK_call #[.int .u64 (n : Int), .agg (bC 32 A)] rfl (by simp only [List.map_toArray, List.map_cons, List.map_nil, evS, h15, h24]) (by go_simp) ((HR.out w1).mono fun e w' ⟨he, hk'⟩ => ⟨_, he, hk', rfl⟩)
      exact trivial
    · intro t w1 hsz hf hk hfacts
      have h25 : slot t 25 = .agg (bC 32 B) := hfacts 12 _ (by decide) rfl 25 rfl
      have h0 : slot t 0 = .string s := hf 0 (by kernel_rfl)
      have h3 : slot t 3 = .pointer (some ⟨w.heap.size, 0, none⟩) := hf 3 (by kernel_rfl)
      have h4 : slot t 4 = .pointer (some ⟨w.heap.size + 1, 0, none⟩) := hf 4 (by kernel_rfl)
      have harr : t = #[slot t 0, slot t 1, slot t 2, slot t 3, slot t 4, slot t 5, slot t 6, slot t 7, slot t 8, slot t 9, slot t 10, slot t 11, slot t 12, slot t 13, slot t 14, slot t 15, slot t 16, slot t 17, slot t 18, slot t 19, slot t 20, slot t 21, slot t 22, slot t 23, slot t 24, slot t 25] := arr_eq t 26 hsz
      rw [harr, h25, h0, h3, h4]
      clear harr hfacts hf h25 h0 h3 h4
      generalize slot t 1 = x1; generalize slot t 2 = x2; generalize slot t 5 = x5; generalize slot t 6 = x6; generalize slot t 7 = x7; generalize slot t 8 = x8; generalize slot t 9 = x9; generalize slot t 10 = x10; generalize slot t 11 = x11; generalize slot t 12 = x12; generalize slot t 13 = x13; generalize slot t 14 = x14
      generalize slot t 15 = x15; generalize slot t 16 = x16; generalize slot t 17 = x17; generalize slot t 18 = x18; generalize slot t 19 = x19; generalize slot t 20 = x20; generalize slot t 21 = x21; generalize slot t 22 = x22; generalize slot t 23 = x23; generalize slot t 24 = x24
      clear hsz t
      simp only [List.drop_succ_cons, List.drop_zero]
      have Z4 := Lib.hid (Z3.out.kept hk)
      have K4 := Lib.hid (K3.out.trans hk)
      clear hk
      go_wp2_with (refine wpList_store_row rfl 23 _ _ rfl (w.heap.size + 1) (bC 32 B) rfl rfl 23 (bC 32 []) Z4.out (info_hash _) (by simp [bC_size]) (bC_one _ _) ?_)
      refine bodyPost_ret (v := .tuple #[.agg (bC 32 B), .int .i64 0]) (results_row_tmp Tryd.results7 _ _ (w.heap.size + 1) 23 _ _ _ rfl rfl Z4.out.row Tryd.underlying23 rfl (info_hash _)) rfl ⟨rfl, ?_⟩
      exact K4.out.setRow (by omega) _
  · rw [rtO, if_neg h0, ← zero_hashC]
    generalize mayE I N m = E at HM h0 ⊢
    have hd0 : (E != 0) = true := by simpa using h0
    have HE := Lib.hid h0
    clear h0 hF hc hcm
    go_enter Tryd.func7, Tryd.ntmps7
    go_wp2_with fail
    change Calls _ _ _ ((w.alloc (.cells #[.int .i64 I, .int .i64 N, .slice p m c] 26)).alloc (.cells (bC 32 []) 23)) _
    generalize (w.alloc (.cells #[.int .i64 I, .int .i64 N, .slice p m c] 26)).alloc (.cells (bC 32 []) 23) = v1 at R1 Z1 K1 ⊢
    refine (HM.out v1).mono ?_
    rintro e v2 ⟨rfl, k2⟩
    have Z2 := Lib.hid (Z1.out.kept k2)
    have K2 := Lib.hid (K1.out.trans k2)
    clear R1 Z1 K1 k2 HM
    go_wp2_with (first
      | (refine wpList_exec 11 rfl (by rfl) (.agg (bC 32 [])) _ (execBuild0 rfl (run_build0 _)) ?_)
      | (refine wpList_store_row rfl 23 _ _ rfl (w.heap.size + 1) (bC 32 []) rfl rfl 23 (bC 32 []) Z2.out (info_hash _) (by simp [bC_size]) (bC_one _ _) ?_))
    refine bodyPost_ret (v := .tuple #[.agg (bC 32 []), .int .i64 E]) (results_row_tmp Tryd.results7 _ _ (w.heap.size + 1) 23 _ _ _ rfl rfl Z2.out.row Tryd.underlying23 rfl (info_hash _)) rfl ⟨rfl, ?_⟩
    exact K2.out.setRow (by omega) _

set_option maxRecDepth 100000 in
set_option maxHeartbeats 2000000 in
theorem refCheck_any (r : List UInt8) (hr : r.length = 32) (s : ByteArray) (hs : s.size ≤ 1000000) (I N : Int) (m : Nat) (F : Nat → List UInt8) (v : Value) (w : World) (hv : HSl m F v w) :
    Calls Tryd.prog 12 #[.agg (bC 32 r), .string s, .agg #[.int .i64 I, .int .i64 N, v]] w fun e w' => e = .returned (.bool (ckO r s I N m F)) ∧ Kept w w' := by
  have HV := Lib.hid hv
  have HR : Hid (∀ w, HSl m F v w → _) := Lib.hid fun w hv => refTold_any s hs I N m F v w hv
  obtain ⟨p, c, rfl, hc, hcm, hF⟩ := hv
  have hRl := rtO_length s I N m F
  have hck : ckO r s I N m F = decide (mayE I N m = 0 ∧ rtO s I N m F = r) := rfl
  rw [hck]
  clear hck hF hc hcm
  generalize rtO s I N m F = B at HR hRl ⊢
  generalize mayE I N m = E at HR ⊢
  have R1 := Lib.hid ((Rowz.new w (bC 32 r) 23).alloc (.cells #[.int .i64 I, .int .i64 N, .slice p m c] 26))
  have K1 := Lib.hid (((Kept.refl w).alloc (.cells (bC 32 r) 23)).alloc (.cells #[.int .i64 I, .int .i64 N, .slice p m c] 26))
  by_cases h0 : E = 0
  · subst h0
    rw [show decide ((0 : Int) = 0 ∧ B = r) = decide (B = r) by rw [decide_eq_decide]; exact ⟨fun h => h.2, fun h => ⟨rfl, h⟩⟩]
    obtain ⟨D, hD⟩ : ∃ D, D = decide (B = r) := ⟨_, rfl⟩
    rw [← hD]
    replace hD := Lib.hid hD
    go_enter Tryd.func12, Tryd.ntmps12
    go_wp2_with fail
    change Calls _ _ _ ((w.alloc (.cells (bC 32 r) 23)).alloc (.cells #[.int .i64 I, .int .i64 N, .slice p m c] 26)) _
    generalize (w.alloc (.cells (bC 32 r) 23)).alloc (.cells #[.int .i64 I, .int .i64 N, .slice p m c] 26) = v1 at R1 K1 ⊢
    refine (HR.out v1 (HSl.kept _ _ _ _ _ K1.out HV.out)).mono ?_
    rintro e v2 ⟨rfl, k2⟩
    have R2 := Lib.hid (R1.out.kept k2)
    have K2 := Lib.hid (K1.out.trans k2)
    clear R1 K1 k2 HR
    go_wp2_with (first
      | (refine wpList_store_made rfl 23 _ _ rfl _ _ (bC 32 B) rfl rfl 23 _ rfl (info_hash _) (by simp [bC_size]) (bC_one _ _) ?_; intro v3 R3 k3)
      | (refine park_at 18 rfl ?_))
    have R4 := Lib.hid (R2.out.kept k3.out)
    have K4 := Lib.hid (K2.out.trans k3.out)
    clear R2 K2 k3
    refine unpark ?_
    refine wpList_exec 18 rfl (by rfl) (.agg (bC 32 B)) _ (loadHr rfl rfl R3.out) ?_
    refine wpList_exec 19 rfl (by rfl) (.agg (bC 32 r)) _ (loadHr rfl rfl R4.out) ?_
    refine wpList_exec 20 rfl (by rfl) (.bool D) _ (by rw [hD.out]; exact execEqHs B r hRl hr _ rfl rfl rfl) ?_
    clear R3 R4 hD
    go_wp2_with fail
    go_ret
    exact ⟨rfl, K4.out⟩
  · rw [decide_eq_false (fun h => h0 h.1)]
    have hd0 : (E == 0) = false := by simpa using h0
    have HE := Lib.hid h0
    clear h0 hRl
    go_enter Tryd.func12, Tryd.ntmps12
    go_wp2_with fail
    change Calls _ _ _ ((w.alloc (.cells (bC 32 r) 23)).alloc (.cells #[.int .i64 I, .int .i64 N, .slice p m c] 26)) _
    generalize (w.alloc (.cells (bC 32 r) 23)).alloc (.cells #[.int .i64 I, .int .i64 N, .slice p m c] 26) = v1 at R1 K1 ⊢
    refine (HR.out v1 (HSl.kept _ _ _ _ _ K1.out HV.out)).mono ?_
    rintro e v2 ⟨rfl, k2⟩
    have K2 := Lib.hid (K1.out.trans k2)
    clear R1 K1 k2 HR
    go_wp2_with (refine wpList_store_made rfl 23 _ _ rfl _ _ (bC 32 B) rfl rfl 23 _ rfl (info_hash _) (by simp [bC_size]) (bC_one _ _) ?_; intro v3 R3 k3)
    go_ret
    exact ⟨rfl, K2.out.trans k3.out⟩
end Go.Proofs.YtljkhlbfjcbkiaaDoor
