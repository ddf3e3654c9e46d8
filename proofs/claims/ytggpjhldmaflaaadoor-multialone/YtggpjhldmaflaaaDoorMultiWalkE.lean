/-
  Contracts of multi.Check and One. Conditions: at most a million places, leaves of at most a million bytes; sizes fit; sha's table of round constants stands.
-/
import Derived.Test.YtggpjhldmaflaaaDoorMultiWalkD
namespace Go.Proofs.YtggpjhldmaflaaaDoor
set_option maxRecDepth 4000
open Go.RowKit

set_option maxRecDepth 100000 in
set_option maxHeartbeats 2000000 in
theorem multiCheck_any : MultiCheckC 17 := by
  intro r p1 k c1 S N p K c Pl q m d F w hr hS hk1 hc1 hz hI hK hcm hK6 hF ht
  have HR : Hid (∀ w', Kept w w' → _) := Lib.hid fun w' hk => multiRoot_any p1 k c1 S N p K c Pl q m d F w' (hS.kept hk) hk1 hc1 hz (hI.kept hk) hK hcm hK6 (HSl.kept _ _ _ _ _ hk hF) (ht.kept hk)
  have hRl := rtM_length k S N K Pl m F
  have hck : ckM r k S N K Pl m F = decide (mayM (k : Int) N K Pl m = 0 ∧ rtM k S N K Pl m F = r) := rfl
  rw [hck]
  clear hck hF hS hz hI ht
  generalize rtM k S N K Pl m F = B at HR hRl ⊢
  generalize mayM (k : Int) N K Pl m = E at HR ⊢
  have R1 := Lib.hid ((Rowz.new w (bC 32 r) 38).alloc (.cells #[.int .i64 N, .slice p K c, .slice q m d] 28))
  have M1 := Lib.hid (Rowz.newEq1 w (.cells (bC 32 r) 38) _ #[.int .i64 N, .slice p K c, .slice q m d] 28 rfl)
  have K1 := Lib.hid (((Kept.refl w).alloc (.cells (bC 32 r) 38)).alloc (.cells #[.int .i64 N, .slice p K c, .slice q m d] 28))
  by_cases h0 : E = 0
  · subst h0
    rw [show decide ((0 : Int) = 0 ∧ B = r) = decide (B = r) by rw [decide_eq_decide]; exact ⟨fun h => h.2, fun h => ⟨rfl, h⟩⟩]
    obtain ⟨D, hD⟩ : ∃ D, D = decide (B = r) := ⟨_, rfl⟩
    rw [← hD]
    replace hD := Lib.hid hD
    go_enter Tryd.func17, Tryd.ntmps17
    go_wp2_with (refine park_at 11 rfl ?_)
    change Parked (wpList _ _ _ _ _ ((w.alloc (.cells (bC 32 r) 38)).alloc (.cells #[.int .i64 N, .slice p K c, .slice q m d] 28)))
    generalize (w.alloc (.cells (bC 32 r) 38)).alloc (.cells #[.int .i64 N, .slice p K c, .slice q m d] 28) = v1 at R1 M1 K1 ⊢
    refine unpark ?_
    refine wpList_exec 11 rfl (by rfl) (.agg #[.int .i64 N, .slice p K c, .slice q m d]) _ (loadMany rfl rfl M1.out rfl) ?_
    go_wp2_with fail
    refine (HR.out v1 K1.out).mono ?_
    rintro e v2 ⟨rfl, k2⟩
    have R2 := Lib.hid (R1.out.kept k2)
    have K2 := Lib.hid (K1.out.trans k2)
    clear R1 M1 K1 k2 HR
    go_wp2_with (first
      | (refine wpList_store_made rfl 38 _ _ rfl _ _ (bC 32 B) rfl rfl 38 _ rfl (info_hash _) (by simp [bC_size]) (bC_one _ _) ?_; intro v3 R3 k3)
      | (refine park_at 18 rfl ?_))
    have R4 := Lib.hid (R2.out.kept k3.out)
    have K4 := Lib.hid (K2.out.trans k3.out)
    clear R2 K2 k3
    refine unpark ?_
    refine wpList_exec 18 rfl (by rfl) (.agg (bC 32 B)) _ (loadHr rfl rfl R3.out) ?_
    refine wpList_exec 19 rfl (by rfl) (.agg (bC 32 r)) _ (loadHr rfl rfl R4.out) ?_
    refine wpList_exec 20 rfl (by rfl) (.bool D) _ (by rw [hD.out]; exact execEqHs B r hRl hr _ rfl rfl rfl) ?_
    clear R3 R4 hD
    go_wp2_with fail
    go_ret
    exact ⟨rfl, K4.out⟩
  · rw [decide_eq_false (fun h => h0 h.1)]
    have hd0 : (E == 0) = false := by simpa using h0
    have HE := Lib.hid h0
    clear h0 hRl
    go_enter Tryd.func17, Tryd.ntmps17
    go_wp2_with (refine park_at 11 rfl ?_)
    change Parked (wpList _ _ _ _ _ ((w.alloc (.cells (bC 32 r) 38)).alloc (.cells #[.int .i64 N, .slice p K c, .slice q m d] 28)))
    generalize (w.alloc (.cells (bC 32 r) 38)).alloc (.cells #[.int .i64 N, .slice p K c, .slice q m d] 28) = v1 at R1 M1 K1 ⊢
    refine unpark ?_
    refine wpList_exec 11 rfl (by rfl) (.agg #[.int .i64 N, .slice p K c, .slice q m d]) _ (loadMany rfl rfl M1.out rfl) ?_
    go_wp2_with fail
    refine (HR.out v1 K1.out).mono ?_
    rintro e v2 ⟨rfl, k2⟩
    have K2 := Lib.hid (K1.out.trans k2)
    clear R1 M1 K1 k2 HR
    go_wp2_with (refine wpList_store_made rfl 38 _ _ rfl _ _ (bC 32 B) rfl rfl 38 _ rfl (info_hash _) (by simp [bC_size]) (bC_one _ _) ?_; intro v3 R3 k3)
    go_ret
    exact ⟨rfl, K2.out.trans k3.out⟩
theorem execBuildO {o : Oper} {t : Array Value} {x y z : Operand} (I N : Int) (p : Option Addr) (n c : Nat) (w : World) (ho : o.op = .build 50 #[(0, x), (1, y), (2, z)]) (hx : evS t x = .int .i64 I) (hy : evS t y = .int .i64 N) (hz : evS t z = .slice p n c) :
    (execOp (evS t) o).run Tryd.prog w = .ok (.value (.agg (opR I N (.slice p n c)))) w := by
  unfold execOp
  rw [ho]
  simp only [List.map_toArray, List.map_cons, List.map_nil, hx, hy, hz]
  kernel_rfl
set_option maxRecDepth 100000 in
set_option maxHeartbeats 4000000 in
theorem multiOne_any : MultiOneC 21 := by
  intro p1 k c1 S N p K c Pl q m d F i w hS hk1 hc1 hz hI hK hcm hK6 hF ht
  have hmd : m ≤ d ∧ d ≤ maxLen := by
    obtain ⟨_, _, e, h1, h2, _⟩ := hF
    injection e with e1 e2 e3
    subst e3
    exact ⟨h1, h2⟩
  have HM : Hid (∀ w, IAt w p K Pl → _) := Lib.hid fun w h => multiMay_any (k : Int) N p K c Pl q m d w h hK hcm hK6 hmd.1 hmd.2
  have R1 := Lib.hid ((Rowz.new w #[.int .i64 N, .slice p K c, .slice q m d] 28).alloc (.cells (opR 0 0 (.slice none 0 0)) 50))
  have Z1 := Lib.hid (Rowz.newEq1 w (.cells #[.int .i64 N, .slice p K c, .slice q m d] 28) _ (opR 0 0 (.slice none 0 0)) 50 rfl)
  have K1 := Lib.hid (((Kept.refl w).alloc (.cells #[.int .i64 N, .slice p K c, .slice q m d] 28)).alloc (.cells (opR 0 0 (.slice none 0 0)) 50))
  have HI := Lib.hid hI
  by_cases hb : onB k N K Pl m i = true
  · have hgood : mayM (k : Int) N K Pl m = 0 ∧ 0 ≤ i ∧ i < (K : Int) := of_decide_eq_true hb
    obtain ⟨h0, hi0, hiK⟩ := hgood
    obtain ⟨n, rfl, hn0, hn, hr, rfl, rfl⟩ := mayM_nat h0
    obtain ⟨j, rfl⟩ := Int.eq_ofNat_of_zero_le hi0
    have hj : j < k := by omega
    obtain ⟨x, hx, hxn, hxq⟩ := risP_at hr hj
    rw [onI, onC, onL, hb, if_pos rfl, if_pos rfl, if_pos rfl]
    rw [h0] at HM
    simp only [Int.toNat_natCast]
    rw [hx]
    simp only [Int.toNat_natCast]
    have hd0 : ((0 : Int) != 0) = false := by decide
    have hd1 : decide ((j : Int) < 0) = false := decide_eq_false (by omega)
    have hd2 : decide ((j : Int) ≥ (k : Int)) = false := decide_eq_false (by omega)
    have hd2' : decide (k ≤ j) = false := decide_eq_false (by omega)
    have hqq : ∀ y : Nat, (x : Int) = (y : Int) → qP k Pl y = true := fun y hy => by
      have e : x = y := by omega
      rw [← e]; exact hxq
    have HW : Hid (∀ w, _) := Lib.hid fun w => multiWhole_any (n : Int) p k c w
    have hups : upsM (qP k Pl) (hP k Pl S) F 0 n 0 (x : Int) = onM (qP k Pl) (hP k Pl S) F 0 n 0 x := by rw [upsM, if_pos (by omega)]; rfl
    have HTop : Hid (∀ w2 g, RdAt w w2 g k S (needN (qP k Pl) 0 n) (fun i => F (0 + i)) (x : Int) [] → Calls Tryd.prog 36 #[.pointer (some ⟨g, 0, none⟩), .agg (paC 0 n p k c)] w2 fun e w' => (∃ A, e = .returned (.agg (bC 32 A))) ∧ (∃ S' F', RdAt w w' g (k - k) S' (needN (qP k Pl) 0 n - needN (qP k Pl) 0 n) F' (x : Int) (onM (qP k Pl) (hP k Pl S) F 0 n 0 x)) ∧ Turn g w2 w') := Lib.hid fun w2 g h => by
      have := readerTop_any n (qP k Pl) (hP k Pl S) w w2 g k S (needN (qP k Pl) 0 n) F 0 (x : Int) [] 0 k Pl p c h (PartQ.whole hr) hI hK hK6 hn0 (by omega) (Nat.le_refl _) (Nat.le_refl _) hz (fun i hi x hx => hP_at hr S hi hx) (hP_length k Pl S) hqq (by omega) (by omega) (fun _ _ => by simp) ht
      rw [hups, List.nil_append] at this
      exact this.mono fun e w' ⟨h1, h2, h3⟩ => ⟨⟨_, h1⟩, ⟨_, _, h2⟩, h3⟩
    have H32 := Lib.hid (onM_32 (qP k Pl) (hP k Pl S) F (hP_length k Pl S) n 0 0 x (fun y hy => by
      obtain ⟨_, _, _, _, _, hH⟩ := hF
      rw [Nat.zero_add]; exact hH.length y hy) hxq (Nat.zero_le _) (by omega))
    have HMk : Hid (∀ w2 g, Rowz w2 g (rdC p1 k c1 q (needN (qP k Pl) 0 n) d (x : Int) (.slice none 0 0)) 71 → w.heap.size ≤ g → Kept w w2 → RdAt w w2 g k S (needN (qP k Pl) 0 n) (fun i => F (0 + i)) (x : Int) []) := Lib.hid fun w2 g hr hg hk => RdAt.made hr hk1 hc1 hS hF hg hk
    obtain ⟨pa, rfl, _⟩ := hI.some (by omega)
    have HPl : Hid (∀ w', Kept w w' → w'.cell? (pa.add j) = some (.int .i64 (x : Int))) := Lib.hid fun w' hk => by rw [← hx]; exact (hI.kept hk).cell j hj
    clear hr h0 hS hz hI hF ht hups hb hi0 hiK
    generalize onM (qP k Pl) (hP k Pl S) F 0 n 0 x = LL at HTop H32 ⊢
    generalize needN (qP k Pl) 0 n = nd at HM HTop HMk R1 Z1 K1 hmd
    replace hx := Lib.hid hx
    go_enter Tryd.func21, Tryd.ntmps21
    go_wp2_with (refine park_at 11 rfl ?_)
    change Parked (wpList _ _ _ _ _ ((w.alloc (.cells #[.int .i64 (n : Int), .slice (some pa) k c, .slice q nd d] 28)).alloc (.cells (opR 0 0 (.slice none 0 0)) 50)))
    generalize (w.alloc (.cells #[.int .i64 (n : Int), .slice (some pa) k c, .slice q nd d] 28)).alloc (.cells (opR 0 0 (.slice none 0 0)) 50) = v1 at R1 Z1 K1 ⊢
    refine unpark ?_
    refine wpList_exec 11 rfl (by rfl) (.agg #[.int .i64 (n : Int), .slice (some pa) k c, .slice q nd d]) _ (loadMany rfl rfl R1.out rfl) ?_
    go_wp2_with fail
    refine (HM.out v1 (HI.out.kept K1.out)).mono ?_
    rintro e v2 ⟨rfl, k2⟩
    have R2 := Lib.hid (R1.out.kept k2)
    have Z2 := Lib.hid (Z1.out.kept k2)
    have K2 := Lib.hid (K1.out.trans k2)
    have x1 := R2.out.cell 1
    clear R1 Z1 K1 k2 HM
    go_wp2_with fail
    clear x1
    refine wp_region_made 10 [8] [(26, .is (.slice p1 k c1)), (27, .is (.pointer (some ⟨w.heap.size, 2, none⟩))), (28, .is (.slice q nd d)), (29, .is (.pointer (some ⟨w.heap.size, 1, none⟩))), (30, .is (.slice (some pa) k c)), (31, .is (.int .i64 (j : Int))), (32, .is (.pointer (some (pa.add j)))), (33, .is (.int .i64 (x : Int))), (34, .is (.agg (rdC p1 k c1 q nd d (x : Int) (.slice none 0 0)))), (8, .row ptrAt0 (rdC none 0 0 none 0 0 0 (.slice none 0 0)) 71)] (by kernel_rfl) (by kernel_rfl) (by kernel_rfl) ?_ ?_
    · refine ⟨fun t w1 hf hk hp => ?_, ?_⟩
      · have h0 : slot t 0 = .slice p1 k c1 := hf 0 (by kernel_rfl)
        clear hf hp
        refine stepM_at (by kernel_rfl) ?_
        refine stepAt_plain rfl ?_
        exact stepOK_move _ (.inl rfl) h0
      refine ⟨fun t w1 hf hk hp => ?_, ?_⟩
      · have h4 : slot t 4 = .pointer (some ⟨w.heap.size, 0, none⟩) := hf 4 (by kernel_rfl)
        clear hf hp
        refine stepM_at (by kernel_rfl) ?_
        refine stepAt_plain rfl ?_
        exact stepOK_pure (.pointer (some ⟨w.heap.size, 2, none⟩)) (execFieldM w.heap.size 2 (by omega) w1 rfl h4) rfl
      refine ⟨fun t w1 hf hk hp => ?_, ?_⟩
      · have h27 : slot t 27 = .pointer (some ⟨w.heap.size, 2, none⟩) := hp 27 (by kernel_rfl)
        clear hf hp
        refine stepM_at (by kernel_rfl) ?_
        refine stepAt_plain rfl ?_
        exact stepOK_pure (.slice q nd d) (execLoadR _ _ rfl h27 (run_loadHsR ((R2.out.kept hk).cell 2))) rfl
      refine ⟨fun t w1 hf hk hp => ?_, ?_⟩
      · have h4 : slot t 4 = .pointer (some ⟨w.heap.size, 0, none⟩) := hf 4 (by kernel_rfl)
        clear hf hp
        refine stepM_at (by kernel_rfl) ?_
        refine stepAt_plain rfl ?_
        exact stepOK_pure (.pointer (some ⟨w.heap.size, 1, none⟩)) (execFieldM w.heap.size 1 (by omega) w1 rfl h4) rfl
      refine ⟨fun t w1 hf hk hp => ?_, ?_⟩
      · have h29 : slot t 29 = .pointer (some ⟨w.heap.size, 1, none⟩) := hp 29 (by kernel_rfl)
        clear hf hp
        refine stepM_at (by kernel_rfl) ?_
        refine stepAt_plain rfl ?_
        exact stepOK_pure (.slice (some pa) k c) (execLoadR _ _ rfl h29 (run_loadIs ((R2.out.kept hk).cell 1))) rfl
      refine ⟨fun t w1 hf hk hp => ?_, ?_⟩
      · have h2 : slot t 2 = .int .i64 (j : Int) := hf 2 (by kernel_rfl)
        clear hf hp
        refine stepM_at (by kernel_rfl) ?_
        refine stepAt_plain rfl ?_
        exact stepOK_move _ (.inl rfl) h2
      refine ⟨fun t w1 hf hk hp => ?_, ?_⟩
      · have h30 : slot t 30 = .slice (some pa) k c := hp 30 (by kernel_rfl)
        have h31 : slot t 31 = .int .i64 (j : Int) := hp 31 (by kernel_rfl)
        clear hf hp
        refine stepM_at (by kernel_rfl) ?_
        refine stepAt_plain rfl ?_
        exact stepOK_pure (.pointer (some (pa.add j))) (execIndexI pa k c j hj w1 rfl h30 h31) rfl
      refine ⟨fun t w1 hf hk hp => ?_, ?_⟩
      · have h32 : slot t 32 = .pointer (some (pa.add j)) := hp 32 (by kernel_rfl)
        clear hf hp
        refine stepM_at (by kernel_rfl) ?_
        refine stepAt_plain rfl ?_
        exact stepOK_pure (.int .i64 (x : Int)) (execLoadR _ _ rfl h32 (run_loadIP (HPl.out w1 (K2.out.trans hk)))) rfl
      refine ⟨fun t w1 hf hk hp => ?_, ?_⟩
      · have h26 : slot t 26 = .slice p1 k c1 := hp 26 (by kernel_rfl)
        have h28 : slot t 28 = .slice q nd d := hp 28 (by kernel_rfl)
        have h33 : slot t 33 = .int .i64 (x : Int) := hp 33 (by kernel_rfl)
        clear hf hp
        refine stepM_at (by kernel_rfl) ?_
        refine stepAt_plain rfl ?_
        exact stepOK_pure (.agg (rdC p1 k c1 q nd d (x : Int) (.slice none 0 0))) (execBuildRd _ _ _ _ _ _ _ w1 rfl h26 h28 h33) rfl
      refine ⟨fun t w1 hf hk hp => ?_, ?_⟩
      · clear hf hp
        refine stepM_made (by kernel_rfl) ?_
        refine stepMade_new ((rdC none 0 0 none 0 0 0 (.slice none 0 0))) 71 rfl ?_ ⟨_, rfl, Rowz.new w1 _ _⟩
        simp only [execOp, ptrAt0]
        go_simp
        rfl
      exact trivial
    · intro t w1 hsz hf hk hfacts hmd hap
      have h34 : slot t 34 = .agg (rdC p1 k c1 q nd d (x : Int) (.slice none 0 0)) := hfacts 8 _ (by decide) rfl 34 rfl
      obtain ⟨g8, h8, r8⟩ : ∃ g, slot t 8 = ptrAt0 g ∧ Rowz w1 g (rdC none 0 0 none 0 0 0 (.slice none 0 0)) 71 := hfacts 9 _ (by decide) rfl 8 rfl
      simp only [ptrAt0] at h8
      have h0 : slot t 0 = .slice p1 k c1 := hf 0 (by kernel_rfl)
      have h2 : slot t 2 = .int .i64 (j : Int) := hf 2 (by kernel_rfl)
      have h4 : slot t 4 = .pointer (some ⟨w.heap.size, 0, none⟩) := hf 4 (by kernel_rfl)
      have h6 : slot t 6 = .pointer (some ⟨w.heap.size + 1, 0, none⟩) := hf 6 (by kernel_rfl)
      have l8 := made_ge (hmd 8 (by kernel_rfl)) h8
      have harr : t = #[slot t 0, slot t 1, slot t 2, slot t 3, slot t 4, slot t 5, slot t 6, slot t 7, slot t 8, slot t 9, slot t 10, slot t 11, slot t 12, slot t 13, slot t 14, slot t 15, slot t 16, slot t 17, slot t 18, slot t 19, slot t 20, slot t 21, slot t 22, slot t 23, slot t 24, slot t 25, slot t 26, slot t 27, slot t 28, slot t 29, slot t 30, slot t 31, slot t 32, slot t 33, slot t 34, slot t 35, slot t 36, slot t 37, slot t 38, slot t 39, slot t 40, slot t 41, slot t 42, slot t 43, slot t 44, slot t 45, slot t 46, slot t 47] := arr_eq t 48 hsz
      rw [harr, h34, h8, h0, h2, h4, h6]
      clear harr hfacts hf hmd hap h34 h8 h0 h2 h4 h6
      generalize slot t 1 = x1; generalize slot t 3 = x3; generalize slot t 5 = x5; generalize slot t 7 = x7; generalize slot t 9 = x9; generalize slot t 10 = x10; generalize slot t 11 = x11; generalize slot t 12 = x12; generalize slot t 13 = x13; generalize slot t 14 = x14; generalize slot t 15 = x15; generalize slot t 16 = x16
      generalize slot t 17 = x17; generalize slot t 18 = x18; generalize slot t 19 = x19; generalize slot t 20 = x20; generalize slot t 21 = x21; generalize slot t 22 = x22; generalize slot t 23 = x23; generalize slot t 24 = x24; generalize slot t 25 = x25; generalize slot t 26 = x26; generalize slot t 27 = x27; generalize slot t 28 = x28
      generalize slot t 29 = x29; generalize slot t 30 = x30; generalize slot t 31 = x31; generalize slot t 32 = x32; generalize slot t 33 = x33; generalize slot t 35 = x35; generalize slot t 36 = x36; generalize slot t 37 = x37; generalize slot t 38 = x38; generalize slot t 39 = x39; generalize slot t 40 = x40; generalize slot t 41 = x41
      generalize slot t 42 = x42; generalize slot t 43 = x43; generalize slot t 44 = x44; generalize slot t 45 = x45; generalize slot t 46 = x46; generalize slot t 47 = x47
      clear hsz t
      simp only [List.drop_succ_cons, List.drop_zero]
      refine wpList_store_row rfl 71 _ _ rfl g8 (rdC p1 k c1 q nd d (x : Int) (.slice none 0 0)) rfl rfl 71 (rdC none 0 0 none 0 0 0 (.slice none 0 0)) r8 (info_reader _ _ _ _ _ _ _ _) rfl (rdC_one _ _ _ _ _ _ _ _ _ _) ?_
      have R3 := Lib.hid (r8.row (D := rdC p1 k c1 q nd d (x : Int) (.slice none 0 0)))
      have y0 := R2.out.lt
      have y1 := Z2.out.lt
      have y2 : w.heap.size ≤ v2.heap.size := K2.out.size
      have N2 := Lib.hid ((R2.out.kept hk).rowOther (k := g8) (D := rdC p1 k c1 q nd d (x : Int) (.slice none 0 0)) (by omega))
      have NZ := Lib.hid ((Z2.out.kept hk).rowOther (k := g8) (D := rdC p1 k c1 q nd d (x : Int) (.slice none 0 0)) (by omega))
      have K3 := Lib.hid ((K2.out.trans hk).setRow (g := g8) (by omega) (rdC p1 k c1 q nd d (x : Int) (.slice none 0 0)))
      generalize w1.setRow g8 (rdC p1 k c1 q nd d (x : Int) (.slice none 0 0)) = v3 at R3 N2 NZ K3 ⊢
      have RD := Lib.hid (HMk.out v3 g8 R3.out (by omega) K3.out)
      have M2 : Hid (KeepRow g8 w.heap.size #[.int .i64 (n : Int), .slice (some pa) k c, .slice q nd d] 28 v3) := Lib.hid ⟨N2.out, RD.out.lt, by omega, by rw [upOf_row R3.out]; nofun⟩
      have MZ : Hid (KeepRow g8 (w.heap.size + 1) (opR 0 0 (.slice none 0 0)) 50 v3) := Lib.hid ⟨NZ.out, RD.out.lt, by omega, by rw [upOf_row R3.out]; nofun⟩
      clear r8 hk l8 R2 Z2 K2 R3 N2 NZ K3 HMk HPl y0 y1 y2
      have x0 := M2.out.1.cell 0
      have x1 := M2.out.1.cell 1
      go_wp2_with fail
      refine (HW.out v3).mono ?_
      rintro e v4 ⟨rfl, k4⟩
      replace RD := Lib.hid (RD.out.keptTo k4)
      replace M2 := Lib.hid (M2.out.kept k4)
      replace MZ := Lib.hid (MZ.out.kept k4)
      clear x0 x1 k4 HW
      go_wp2_with fail
      refine (HTop.out v4 g8 RD.out).mono ?_
      rintro e v5 ⟨⟨A, rfl⟩, ⟨S', F', hrd⟩, t5⟩
      replace M2 := Lib.hid (M2.out.turn t5)
      replace MZ := Lib.hid (MZ.out.turn t5)
      obtain ⟨⟨p1x, c1x, qx, dx, vx, hrx, _, _, _, hpx, hvx⟩, hbx, hkx⟩ := hrd
      have hfz : vx.ownBlock ≠ some (w.heap.size + 1) := by rw [← upOf_row hrx]; exact MZ.out.2.2.2
      obtain ⟨qv, cv, rfl⟩ := hpx.slice
      have HP := Lib.hid hpx
      have HFz := Lib.hid hfz
      have KW := Lib.hid hkx
      have x0 := M2.out.1.cell 0
      have r2 := hrx.cell 2
      have r3 := hrx.cell 3
      clear t5 hpx hvx hkx RD HTop hfz
      simp only [rdC] at r2 r3
      go_wp2_with (first
        | (refine wpList_exec 47 rfl (by rfl) (.agg (opR (x : Int) (n : Int) (.slice qv LL.length cv))) _ (execBuildO _ _ _ _ _ _ rfl rfl rfl rfl) ?_)
        | (refine wpList_store_row rfl 50 _ _ rfl (w.heap.size + 1) (opR (x : Int) (n : Int) (.slice qv LL.length cv)) rfl rfl 50 (opR 0 0 (.slice none 0 0)) MZ.out.1 (opR_size _ _ _) rfl (opR_one _ _ _ _ _) ?_))
      refine bodyPost_ret (v := .tuple #[.agg (opR (x : Int) (n : Int) (.slice qv LL.length cv)), .bool true]) (results_row_tmp Tryd.results21 _ _ (w.heap.size + 1) 50 _ _ _ rfl rfl MZ.out.1.row Tryd.underlying50 rfl (opR_size _ _ _)) rfl ?_
      exact ⟨qv, cv, rfl, (HP.out.setRowNe HFz.out _).hsl H32.out, KW.out.setRow (Nat.le_succ _) _⟩
  · have hb' : onB k N K Pl m i = false := by simpa using hb
    have hbad : ¬ (mayM (k : Int) N K Pl m = 0 ∧ 0 ≤ i ∧ i < (K : Int)) := of_decide_eq_false hb'
    rw [onI, onC, onL, hb', if_neg (by decide), if_neg (by decide), if_neg (by decide)]
    generalize mayM (k : Int) N K Pl m = E at HM hbad
    obtain ⟨b1, hb1⟩ : ∃ b1, b1 = (E != 0) := ⟨_, rfl⟩
    clear hb hb' hS hz hI hF ht
    by_cases h0 : E = 0
    · have hd0 : (E != 0) = false := by simpa using h0
      subst h0
      by_cases h1 : i < 0
      · have hd1 : decide (i < 0) = true := decide_eq_true h1
        replace h1 := Lib.hid h1
        replace hbad := Lib.hid hbad
        clear hb1
        go_enter Tryd.func21, Tryd.ntmps21
        go_wp2_with (refine park_at 11 rfl ?_)
        change Parked (wpList _ _ _ _ _ ((w.alloc (.cells #[.int .i64 N, .slice p K c, .slice q m d] 28)).alloc (.cells (opR 0 0 (.slice none 0 0)) 50)))
        generalize (w.alloc (.cells #[.int .i64 N, .slice p K c, .slice q m d] 28)).alloc (.cells (opR 0 0 (.slice none 0 0)) 50) = v1 at R1 Z1 K1 ⊢
        refine unpark ?_
        refine wpList_exec 11 rfl (by rfl) (.agg #[.int .i64 N, .slice p K c, .slice q m d]) _ (loadMany rfl rfl R1.out rfl) ?_
        go_wp2_with fail
        refine (HM.out v1 (HI.out.kept K1.out)).mono ?_
        rintro e v2 ⟨rfl, k2⟩
        have R2 := Lib.hid (R1.out.kept k2)
        have Z2 := Lib.hid (Z1.out.kept k2)
        have K2 := Lib.hid (K1.out.trans k2)
        have x1 := R2.out.cell 1
        clear R1 Z1 K1 k2 HM
        go_wp2_with (first
          | (refine wpList_exec 25 rfl (by rfl) (.agg (opR 0 0 (.slice none 0 0))) _ (execBuild0 rfl (run_buildO _)) ?_)
          | (refine wpList_store_row rfl 50 _ _ rfl (w.heap.size + 1) (opR 0 0 (.slice none 0 0)) rfl rfl 50 (opR 0 0 (.slice none 0 0)) Z2.out (opR_size _ _ _) rfl (opR_one _ _ _ _ _) ?_))
        refine bodyPost_ret (v := .tuple #[.agg (opR 0 0 (.slice none 0 0)), .bool false]) (results_row_tmp Tryd.results21 _ _ (w.heap.size + 1) 50 _ _ _ rfl rfl Z2.out.row Tryd.underlying50 rfl (opR_size _ _ _)) rfl ?_
        exact ⟨none, 0, rfl, ⟨none, 0, rfl, Nat.le_refl _, Nat.zero_le _, HAt.zero _ _ _⟩, K2.out.setRow (Nat.le_succ _) _⟩
      · have hd1 : decide (i < 0) = false := decide_eq_false h1
        have h2 : (K : Int) ≤ i := by omega
        have hd2 : decide (i ≥ (K : Int)) = true := decide_eq_true h2
        have hd2' : decide ((K : Int) ≤ i) = true := decide_eq_true h2
        replace h1 := Lib.hid h1
        replace h2 := Lib.hid h2
        replace hbad := Lib.hid hbad
        clear hb1
        go_enter Tryd.func21, Tryd.ntmps21
        go_wp2_with (refine park_at 11 rfl ?_)
        change Parked (wpList _ _ _ _ _ ((w.alloc (.cells #[.int .i64 N, .slice p K c, .slice q m d] 28)).alloc (.cells (opR 0 0 (.slice none 0 0)) 50)))
        generalize (w.alloc (.cells #[.int .i64 N, .slice p K c, .slice q m d] 28)).alloc (.cells (opR 0 0 (.slice none 0 0)) 50) = v1 at R1 Z1 K1 ⊢
        refine unpark ?_
        refine wpList_exec 11 rfl (by rfl) (.agg #[.int .i64 N, .slice p K c, .slice q m d]) _ (loadMany rfl rfl R1.out rfl) ?_
        go_wp2_with fail
        refine (HM.out v1 (HI.out.kept K1.out)).mono ?_
        rintro e v2 ⟨rfl, k2⟩
        have R2 := Lib.hid (R1.out.kept k2)
        have Z2 := Lib.hid (Z1.out.kept k2)
        have K2 := Lib.hid (K1.out.trans k2)
        have x1 := R2.out.cell 1
        clear R1 Z1 K1 k2 HM
        go_wp2_with (first
          | (refine wpList_exec 25 rfl (by rfl) (.agg (opR 0 0 (.slice none 0 0))) _ (execBuild0 rfl (run_buildO _)) ?_)
          | (refine wpList_store_row rfl 50 _ _ rfl (w.heap.size + 1) (opR 0 0 (.slice none 0 0)) rfl rfl 50 (opR 0 0 (.slice none 0 0)) Z2.out (opR_size _ _ _) rfl (opR_one _ _ _ _ _) ?_))
        refine bodyPost_ret (v := .tuple #[.agg (opR 0 0 (.slice none 0 0)), .bool false]) (results_row_tmp Tryd.results21 _ _ (w.heap.size + 1) 50 _ _ _ rfl rfl Z2.out.row Tryd.underlying50 rfl (opR_size _ _ _)) rfl ?_
        exact ⟨none, 0, rfl, ⟨none, 0, rfl, Nat.le_refl _, Nat.zero_le _, HAt.zero _ _ _⟩, K2.out.setRow (Nat.le_succ _) _⟩
    · have hd0 : (E != 0) = true := by simpa using h0
      replace h0 := Lib.hid h0
      replace hbad := Lib.hid hbad
      clear hb1
      go_enter Tryd.func21, Tryd.ntmps21
      go_wp2_with (refine park_at 11 rfl ?_)
      change Parked (wpList _ _ _ _ _ ((w.alloc (.cells #[.int .i64 N, .slice p K c, .slice q m d] 28)).alloc (.cells (opR 0 0 (.slice none 0 0)) 50)))
      generalize (w.alloc (.cells #[.int .i64 N, .slice p K c, .slice q m d] 28)).alloc (.cells (opR 0 0 (.slice none 0 0)) 50) = v1 at R1 Z1 K1 ⊢
      refine unpark ?_
      refine wpList_exec 11 rfl (by rfl) (.agg #[.int .i64 N, .slice p K c, .slice q m d]) _ (loadMany rfl rfl R1.out rfl) ?_
      go_wp2_with fail
      refine (HM.out v1 (HI.out.kept K1.out)).mono ?_
      rintro e v2 ⟨rfl, k2⟩
      have R2 := Lib.hid (R1.out.kept k2)
      have Z2 := Lib.hid (Z1.out.kept k2)
      have K2 := Lib.hid (K1.out.trans k2)
      have x1 := R2.out.cell 1
      clear R1 Z1 K1 k2 HM
      go_wp2_with (first
        | (refine wpList_exec 25 rfl (by rfl) (.agg (opR 0 0 (.slice none 0 0))) _ (execBuild0 rfl (run_buildO _)) ?_)
        | (refine wpList_store_row rfl 50 _ _ rfl (w.heap.size + 1) (opR 0 0 (.slice none 0 0)) rfl rfl 50 (opR 0 0 (.slice none 0 0)) Z2.out (opR_size _ _ _) rfl (opR_one _ _ _ _ _) ?_))
      refine bodyPost_ret (v := .tuple #[.agg (opR 0 0 (.slice none 0 0)), .bool false]) (results_row_tmp Tryd.results21 _ _ (w.heap.size + 1) 50 _ _ _ rfl rfl Z2.out.row Tryd.underlying50 rfl (opR_size _ _ _)) rfl ?_
      exact ⟨none, 0, rfl, ⟨none, 0, rfl, Nat.le_refl _, Nat.zero_le _, HAt.zero _ _ _⟩, K2.out.setRow (Nat.le_succ _) _⟩
end Go.Proofs.YtggpjhldmaflaaaDoor
