/-
  Contracts of the reference's Make, CheckBlock and SameBlock (milepostref22). Conditions: at most a thousand entries, two thousand transactions of at most ten thousand bytes; a header's parts fit.
-/
import Derived.Test.YtlfkkfacbcpogaaDoorBlkForm
import Derived.Test.YtlfkkfacbcpogaaDoorTxRefA
namespace Go.Proofs.YtlfkkfacbcpogaaDoor
set_option maxRecDepth 4000
open Go.RowKit

theorem SSl.slice {n : Nat} {S : Nat → ByteArray} {v : Value} {w : World} (h : SSl n S v w) : ∃ p c, v = .slice p n c := by
  obtain ⟨p, c, e, _⟩ := h; exact ⟨p, c, e⟩
set_option maxRecDepth 100000 in
set_option maxHeartbeats 1000000 in
theorem refMake22_any (h n : Nat) (F : Nat → List UInt8) (v : Value) (m : Nat) (S : Nat → ByteArray) (u : Value) (k : Nat) (w : World) (hv : HSl n F v w) (hn : n ≤ 1000) (hu : SSl m S u w) (hm : m ≤ 2000) (hz : ∀ i, i < m → (S i).size ≤ 10000) :
    Calls Tryd.prog 10 #[.int .u32 (h : Int), v, u, .int .u64 (k : Int)] w fun e w' => e = .returned (.agg (hdC (mkB h n F m S k))) ∧ Kept w w' := by
  have H1 : Hid (∀ w, HSl n F v w → _) := Lib.hid fun w hv => refLinks17_any n F v w hv hn
  have H2 : Hid (∀ w, SSl m S u w → _) := Lib.hid fun w hu => refTxs22_any m S u w hu hm hz
  have HV := Lib.hid hv
  have HU := Lib.hid hu
  have R8 := Lib.hid (Rowz.new w (hdC hdZ) 33)
  have K1 := Lib.hid ((Kept.refl w).alloc (.cells (hdC hdZ) 33))
  unfold mkB
  generalize rootL (lkS F) n = r at H1 ⊢
  generalize rootL (tkS S) m = s at H2 ⊢
  clear hv hu hz
  have hz0 : Tryd.zeroCells33 = hdC hdZ := by kernel_rfl
  go_enter Tryd.func10, Tryd.ntmps10
  go_wp2_with fail
  generalize w.alloc (.cells (hdC hdZ) 33) = v1 at R8 K1 ⊢
  refine (H1.out v1 (HSl.kept _ _ _ _ _ K1.out HV.out)).mono ?_
  rintro e v2 ⟨rfl, k2⟩
  replace R8 := Lib.hid (R8.out.kept k2)
  replace K1 := Lib.hid (K1.out.trans k2)
  clear k2 H1
  go_wp2_with fail
  refine (H2.out v2 (SSl.kept _ _ _ _ _ K1.out HU.out)).mono ?_
  rintro e v3 ⟨rfl, k3⟩
  replace R8 := Lib.hid (R8.out.kept k3)
  replace K1 := Lib.hid (K1.out.trans k3)
  clear k3 H2
  go_wp2_with (first
    | (refine wpList_exec 15 rfl (by rfl) _ _ (execBuildH4 h k r s _ rfl rfl rfl rfl rfl) ?_; try simp only [List.setIfInBounds_toArray, List.set_cons_succ, List.set_cons_zero])
    | (refine wpList_store_row rfl 33 _ _ rfl w.heap.size (hdC ⟨h, r, s, k⟩) rfl rfl 33 (hdC hdZ) R8.out (info_hdr _) (by rw [hdC_size, hdC_size]) (hdC_one _) ?_))
  refine bodyPost_ret (v := .agg (hdC ⟨h, r, s, k⟩)) (results_cell_row Tryd.results10 _ _ w.heap.size 33 _ (0, 0) _ rfl R8.out.row Tryd.underlying33 rfl (info_hdr _)) rfl ⟨rfl, ?_⟩
  exact K1.out.setRow (Nat.le_refl _) _
set_option maxRecDepth 100000 in
set_option maxHeartbeats 1000000 in
theorem refCheckB22_any (x : Hd) (m : Nat) (S : Nat → ByteArray) (u : Value) (h n : Nat) (F : Nat → List UInt8) (v : Value) (w : World) (hx : x.ok) (hu : SSl m S u w) (hm : m ≤ 2000) (hz : ∀ i, i < m → (S i).size ≤ 10000) (hv : HSl n F v w) (hn : n ≤ 1000) :
    Calls Tryd.prog 12 #[.agg (bkC x u), .int .u32 (h : Int), v] w fun e w' => e = .returned (.int .i64 (ckB x m S h n F)) ∧ Kept w w' := by
  have H0 : Hid (∀ w, SSl m S u w → _) := Lib.hid fun w hu => refMay22_any m S u w hu hm hz
  have H1 : Hid (∀ w, HSl n F v w → _) := Lib.hid fun w hv => refLinks17_any n F v w hv hn
  have H2 : Hid (∀ w, SSl m S u w → _) := Lib.hid fun w hu => refTxs22_any m S u w hu hm hz
  have HV := Lib.hid hv
  have HU := Lib.hid hu
  obtain ⟨p, c, rfl⟩ := hu.slice
  have R3 := Lib.hid (Rowz.new w (bkC x (.slice p m c)) 35)
  have K1 := Lib.hid ((Kept.refl w).alloc (.cells (bkC x (.slice p m c)) 35))
  have hr32 : (rootL (lkS F) n).length = 32 := shaL_length _
  have hs32 : (rootL (tkS S) m).length = 32 := shaL_length _
  have hE1 := fun hh => @ckB_height x m S h n F hh
  have hE2 := fun hh hm => @ckB_may x m S h n F hh hm
  have hE3 := fun hh hm hr => @ckB_root x m S h n F hh hm hr
  have hE4 := fun hh hm hr => @ckB_good x m S h n F hh hm hr
  generalize ckB x m S h n F = E at hE1 hE2 hE3 hE4 ⊢
  generalize rootL (lkS F) n = r at H1 hr32 hE3 hE4
  generalize rootL (tkS S) m = s at H2 hs32 hE3 hE4
  generalize mayT S m = M at H0 hE2 hE3 hE4
  clear hv hu hz
  by_cases hh : x.h = h
  · have hd1 : ((x.h : Int) == (h : Int)) = true := by simp [hh]
    have hd1' : ((x.h : Int) != (h : Int)) = false := by simp [hh]
    by_cases hM : M = 0
    · subst hM
      have HE3 := Lib.hid (hE3 hh rfl)
      have HE4 := Lib.hid (hE4 hh rfl)
      obtain ⟨hx0, hx1, hx2, hx3⟩ := hx
      clear hE1 hE2 hE3 hE4
      go_enter Tryd.func12, Tryd.ntmps12
      go_wp2_with (first
        | (refine wpList_exec 8 rfl (by rfl) _ _ (execFieldBA ⟨w.heap.size, 0, none⟩ ⟨w.heap.size, 0, none⟩ 0 0 (.inl ⟨rfl, rfl⟩) rfl _ rfl rfl) ?_; try simp only [List.setIfInBounds_toArray, List.set_cons_succ, List.set_cons_zero])
        | (refine wpList_exec 9 rfl (by rfl) _ _ (execFieldHA ⟨w.heap.size, 0, none⟩ ⟨w.heap.size, 0, none⟩ 0 0 (.inl ⟨rfl, rfl⟩) rfl _ rfl rfl) ?_; try simp only [List.setIfInBounds_toArray, List.set_cons_succ, List.set_cons_zero])
        | (refine wpList_exec 10 rfl (by rfl) _ _ (loadU32A rfl rfl ((CAt.ofRow R3.out).bh.cell _ 0 rfl _ (hdC_0 x))) ?_; try simp only [List.setIfInBounds_toArray, List.set_cons_succ, List.set_cons_zero])
        | (refine wpList_exec 13 rfl (by rfl) _ _ (execFieldBA ⟨w.heap.size, 0, none⟩ ⟨w.heap.size, 66, none⟩ 1 66 (.inr ⟨rfl, rfl⟩) rfl _ rfl rfl) ?_; try simp only [List.setIfInBounds_toArray, List.set_cons_succ, List.set_cons_zero])
        | (refine wpList_exec 14 rfl (by rfl) _ _ (loadStrsA rfl rfl ((CAt.ofRow R3.out).bt _ rfl)) ?_; try simp only [List.setIfInBounds_toArray, List.set_cons_succ, List.set_cons_zero]))
      generalize w.alloc (.cells (bkC x (.slice p m c)) 35) = v1 at R3 K1 ⊢
      refine (H0.out v1 (SSl.kept _ _ _ _ _ K1.out HU.out)).mono ?_
      rintro e v2 ⟨rfl, k2⟩
      replace R3 := Lib.hid (R3.out.kept k2)
      replace K1 := Lib.hid (K1.out.trans k2)
      clear k2 H0
      obtain ⟨b1, hb1⟩ : ∃ b, decide (x.l = r) = b := ⟨_, rfl⟩
      have HB1 := Lib.hid hb1
      cases b1
      · have HE : Hid (E = 12) := Lib.hid (HE3.out fun h2 => by rw [decide_eq_false_iff_not] at hb1; exact hb1 h2.1)
        clear hb1 HE3 HE4
        go_wp2_with fail
        refine wp_region_table [(19, .is (.pointer (some ⟨w.heap.size, 0, none⟩))), (20, .is (.pointer (some ⟨w.heap.size, 1, none⟩))), (21, .is (.agg (bC 32 x.l))), (22, .is (v)), (23, .is (.agg (bC 32 r))), (24, .is (.bool (!false))), (25, .is (.bool true)), (26, .is (undef)), (27, .is (undef)), (28, .is (undef)), (29, .is (undef)), (30, .is (undef)), (31, .is (undef)), (32, .is (undef)), (33, .is (.bool true))] (by kernel_rfl) (by kernel_rfl) ?_ ?_
        · refine ⟨fun t w1 hf hk hp => ?_, ?_⟩
          · have h3 : slot t 3 = .pointer (some ⟨w.heap.size, 0, none⟩) := hf 3 (by kernel_rfl)
            clear hf hp
            refine stepAt_plain rfl ?_
            exact stepOK_pure (.pointer (some ⟨w.heap.size, 0, none⟩)) (execFieldBA ⟨w.heap.size, 0, none⟩ ⟨w.heap.size, 0, none⟩ 0 0 (.inl ⟨rfl, rfl⟩) rfl w1 rfl h3) rfl
          refine ⟨fun t w1 hf hk hp => ?_, ?_⟩
          · have h19 : slot t 19 = .pointer (some ⟨w.heap.size, 0, none⟩) := hp 19 (by kernel_rfl)
            clear hf hp
            refine stepAt_plain rfl ?_
            exact stepOK_pure (.pointer (some ⟨w.heap.size, 1, none⟩)) (execFieldHA ⟨w.heap.size, 0, none⟩ ⟨w.heap.size, 1, none⟩ 1 1 (.inr (.inl ⟨rfl, rfl⟩)) rfl w1 rfl h19) rfl
          refine ⟨fun t w1 hf hk hp => ?_, ?_⟩
          · have h20 : slot t 20 = .pointer (some ⟨w.heap.size, 1, none⟩) := hp 20 (by kernel_rfl)
            clear hf hp
            refine stepAt_plain rfl ?_
            exact stepOK_pure (.agg (bC 32 x.l)) (loadHashA rfl h20 ((CAt.ofRow (R3.out.kept hk)).bh.hl _ rfl)) rfl
          refine ⟨fun t w1 hf hk hp => ?_, ?_⟩
          · have h2 : slot t 2 = v := hf 2 (by kernel_rfl)
            clear hf hp
            refine stepAt_plain rfl ?_
            exact stepOK_move _ (.inl rfl) h2
          refine ⟨fun t w1 hf hk hp => ?_, ?_⟩
          · have h22 : slot t 22 = v := hp 22 (by kernel_rfl)
            clear hf hp
            refine stepAt_plain rfl ?_
            refine stepOK_call #[v] rfl (by simp only [List.map_toArray, List.map_cons, List.map_nil, evS, h22]) (by go_simp) ((H1.out w1 (HSl.kept _ _ _ _ _ (K1.out.trans hk) HV.out)).mono fun e w' ⟨he, hk'⟩ => ⟨_, he, hk', rfl⟩)
          refine ⟨fun t w1 hf hk hp => ?_, ?_⟩
          · have h21 : slot t 21 = .agg (bC 32 x.l) := hp 21 (by kernel_rfl)
            have h23 : slot t 23 = .agg (bC 32 r) := hp 23 (by kernel_rfl)
            clear hf hp
            refine stepAt_plain rfl ?_
            exact stepOK_pure (.bool (!false)) ((HB1.out ▸ execNeHs x.l r hx1 hr32 w1 rfl h21 h23)) rfl
          refine ⟨fun t w1 hf hk hp => ?_, ?_⟩
          · have h24 : slot t 24 = .bool (!false) := hp 24 (by kernel_rfl)
            clear hf hp
            refine stepAt_plain rfl ?_
            exact stepOK_move _ (.inl rfl) h24
          refine ⟨fun t w1 hf hk hp => ?_, ?_⟩
          · have h25 : slot t 25 = .bool true := hp 25 (by kernel_rfl)
            clear hf hp
            exact stepAt_off 25 false (by kernel_rfl) h25 rfl
          refine ⟨fun t w1 hf hk hp => ?_, ?_⟩
          · have h25 : slot t 25 = .bool true := hp 25 (by kernel_rfl)
            clear hf hp
            exact stepAt_off 25 false (by kernel_rfl) h25 rfl
          refine ⟨fun t w1 hf hk hp => ?_, ?_⟩
          · have h25 : slot t 25 = .bool true := hp 25 (by kernel_rfl)
            clear hf hp
            exact stepAt_off 25 false (by kernel_rfl) h25 rfl
          refine ⟨fun t w1 hf hk hp => ?_, ?_⟩
          · have h25 : slot t 25 = .bool true := hp 25 (by kernel_rfl)
            clear hf hp
            exact stepAt_off 25 false (by kernel_rfl) h25 rfl
          refine ⟨fun t w1 hf hk hp => ?_, ?_⟩
          · have h25 : slot t 25 = .bool true := hp 25 (by kernel_rfl)
            clear hf hp
            exact stepAt_off 25 false (by kernel_rfl) h25 rfl
          refine ⟨fun t w1 hf hk hp => ?_, ?_⟩
          · have h25 : slot t 25 = .bool true := hp 25 (by kernel_rfl)
            clear hf hp
            exact stepAt_off 25 false (by kernel_rfl) h25 rfl
          refine ⟨fun t w1 hf hk hp => ?_, ?_⟩
          · have h25 : slot t 25 = .bool true := hp 25 (by kernel_rfl)
            clear hf hp
            exact stepAt_off 25 false (by kernel_rfl) h25 rfl
          refine ⟨fun t w1 hf hk hp => ?_, ?_⟩
          · have h25 : slot t 25 = .bool true := hp 25 (by kernel_rfl)
            have h32 : slot t 32 = undef := hp 32 (by kernel_rfl)
            clear hf hp
            refine stepAt_plain rfl ?_
            refine stepOK_pure (.bool true) ?_ rfl
            simp only [execOp, evS, h25, h32]
            go_simp
          exact trivial
        · intro t w1 hsz hf hk hfacts
          have h33 : slot t 33 = .bool true := hfacts 14 _ rfl 33 rfl
          have h2 : slot t 2 = v := hf 2 (by kernel_rfl)
          have h3 : slot t 3 = .pointer (some ⟨w.heap.size, 0, none⟩) := hf 3 (by kernel_rfl)
          have harr : t = #[slot t 0, slot t 1, slot t 2, slot t 3, slot t 4, slot t 5, slot t 6, slot t 7, slot t 8, slot t 9, slot t 10, slot t 11, slot t 12, slot t 13, slot t 14, slot t 15, slot t 16, slot t 17, slot t 18, slot t 19, slot t 20, slot t 21, slot t 22, slot t 23, slot t 24, slot t 25, slot t 26, slot t 27, slot t 28, slot t 29, slot t 30, slot t 31, slot t 32, slot t 33] := arr_eq t 34 hsz
          rw [harr, h33, h2, h3]
          clear harr hfacts hf h33 h2 h3
          generalize slot t 0 = x0; generalize slot t 1 = x1; generalize slot t 4 = x4; generalize slot t 5 = x5; generalize slot t 6 = x6; generalize slot t 7 = x7; generalize slot t 8 = x8; generalize slot t 9 = x9; generalize slot t 10 = x10; generalize slot t 11 = x11; generalize slot t 12 = x12; generalize slot t 13 = x13
          generalize slot t 14 = x14; generalize slot t 15 = x15; generalize slot t 16 = x16; generalize slot t 17 = x17; generalize slot t 18 = x18; generalize slot t 19 = x19; generalize slot t 20 = x20; generalize slot t 21 = x21; generalize slot t 22 = x22; generalize slot t 23 = x23; generalize slot t 24 = x24; generalize slot t 25 = x25
          generalize slot t 26 = x26; generalize slot t 27 = x27; generalize slot t 28 = x28; generalize slot t 29 = x29; generalize slot t 30 = x30; generalize slot t 31 = x31; generalize slot t 32 = x32
          clear hsz t
          replace K1 := Lib.hid (K1.out.trans hk)
          clear hk
          go_wp2_with fail
          go_ret
          exact ⟨ret_int HE.out.symm, K1.out⟩
      · obtain ⟨b2, hb2⟩ : ∃ b, decide (x.t = s) = b := ⟨_, rfl⟩
        have HB2 := Lib.hid hb2
        have HE : Hid (E = bif b2 then 0 else 12) := Lib.hid (by
          have h1 : x.l = r := of_decide_eq_true hb1
          cases b2
          · exact HE3.out fun h2 => by rw [decide_eq_false_iff_not] at hb2; exact hb2 h2.2
          · exact HE4.out ⟨h1, of_decide_eq_true hb2⟩)
        clear hb1 hb2 HE3 HE4
        go_wp2_with fail
        refine wp_region_table [(19, .is (.pointer (some ⟨w.heap.size, 0, none⟩))), (20, .is (.pointer (some ⟨w.heap.size, 1, none⟩))), (21, .is (.agg (bC 32 x.l))), (22, .is (v)), (23, .is (.agg (bC 32 r))), (24, .is (.bool (!true))), (25, .is (.bool false)), (26, .is (.pointer (some ⟨w.heap.size, 0, none⟩))), (27, .is (.pointer (some ⟨w.heap.size, 33, none⟩))), (28, .is (.agg (bC 32 x.t))), (29, .is (.pointer (some ⟨w.heap.size, 66, none⟩))), (30, .is (.slice p m c)), (31, .is (.agg (bC 32 s))), (32, .is (.bool (!b2))), (33, .is (.bool (!b2)))] (by kernel_rfl) (by kernel_rfl) ?_ ?_
        · refine ⟨fun t w1 hf hk hp => ?_, ?_⟩
          · have h3 : slot t 3 = .pointer (some ⟨w.heap.size, 0, none⟩) := hf 3 (by kernel_rfl)
            clear hf hp
            refine stepAt_plain rfl ?_
            exact stepOK_pure (.pointer (some ⟨w.heap.size, 0, none⟩)) (execFieldBA ⟨w.heap.size, 0, none⟩ ⟨w.heap.size, 0, none⟩ 0 0 (.inl ⟨rfl, rfl⟩) rfl w1 rfl h3) rfl
          refine ⟨fun t w1 hf hk hp => ?_, ?_⟩
          · have h19 : slot t 19 = .pointer (some ⟨w.heap.size, 0, none⟩) := hp 19 (by kernel_rfl)
            clear hf hp
            refine stepAt_plain rfl ?_
            exact stepOK_pure (.pointer (some ⟨w.heap.size, 1, none⟩)) (execFieldHA ⟨w.heap.size, 0, none⟩ ⟨w.heap.size, 1, none⟩ 1 1 (.inr (.inl ⟨rfl, rfl⟩)) rfl w1 rfl h19) rfl
          refine ⟨fun t w1 hf hk hp => ?_, ?_⟩
          · have h20 : slot t 20 = .pointer (some ⟨w.heap.size, 1, none⟩) := hp 20 (by kernel_rfl)
            clear hf hp
            refine stepAt_plain rfl ?_
            exact stepOK_pure (.agg (bC 32 x.l)) (loadHashA rfl h20 ((CAt.ofRow (R3.out.kept hk)).bh.hl _ rfl)) rfl
          refine ⟨fun t w1 hf hk hp => ?_, ?_⟩
          · have h2 : slot t 2 = v := hf 2 (by kernel_rfl)
            clear hf hp
            refine stepAt_plain rfl ?_
            exact stepOK_move _ (.inl rfl) h2
          refine ⟨fun t w1 hf hk hp => ?_, ?_⟩
          · have h22 : slot t 22 = v := hp 22 (by kernel_rfl)
            clear hf hp
            refine stepAt_plain rfl ?_
            refine stepOK_call #[v] rfl (by simp only [List.map_toArray, List.map_cons, List.map_nil, evS, h22]) (by go_simp) ((H1.out w1 (HSl.kept _ _ _ _ _ (K1.out.trans hk) HV.out)).mono fun e w' ⟨he, hk'⟩ => ⟨_, he, hk', rfl⟩)
          refine ⟨fun t w1 hf hk hp => ?_, ?_⟩
          · have h21 : slot t 21 = .agg (bC 32 x.l) := hp 21 (by kernel_rfl)
            have h23 : slot t 23 = .agg (bC 32 r) := hp 23 (by kernel_rfl)
            clear hf hp
            refine stepAt_plain rfl ?_
            exact stepOK_pure (.bool (!true)) ((HB1.out ▸ execNeHs x.l r hx1 hr32 w1 rfl h21 h23)) rfl
          refine ⟨fun t w1 hf hk hp => ?_, ?_⟩
          · have h24 : slot t 24 = .bool (!true) := hp 24 (by kernel_rfl)
            clear hf hp
            refine stepAt_plain rfl ?_
            exact stepOK_move _ (.inl rfl) h24
          refine ⟨fun t w1 hf hk hp => ?_, ?_⟩
          · have h3 : slot t 3 = .pointer (some ⟨w.heap.size, 0, none⟩) := hf 3 (by kernel_rfl)
            have h25 : slot t 25 = .bool false := hp 25 (by kernel_rfl)
            clear hf hp
            refine stepAt_on 25 false (by kernel_rfl) h25 ?_
            exact stepOK_pure (.pointer (some ⟨w.heap.size, 0, none⟩)) (execFieldBA ⟨w.heap.size, 0, none⟩ ⟨w.heap.size, 0, none⟩ 0 0 (.inl ⟨rfl, rfl⟩) rfl w1 rfl h3) rfl
          refine ⟨fun t w1 hf hk hp => ?_, ?_⟩
          · have h26 : slot t 26 = .pointer (some ⟨w.heap.size, 0, none⟩) := hp 26 (by kernel_rfl)
            have h25 : slot t 25 = .bool false := hp 25 (by kernel_rfl)
            clear hf hp
            refine stepAt_on 25 false (by kernel_rfl) h25 ?_
            exact stepOK_pure (.pointer (some ⟨w.heap.size, 33, none⟩)) (execFieldHA ⟨w.heap.size, 0, none⟩ ⟨w.heap.size, 33, none⟩ 2 33 (.inr (.inr (.inl ⟨rfl, rfl⟩))) rfl w1 rfl h26) rfl
          refine ⟨fun t w1 hf hk hp => ?_, ?_⟩
          · have h27 : slot t 27 = .pointer (some ⟨w.heap.size, 33, none⟩) := hp 27 (by kernel_rfl)
            have h25 : slot t 25 = .bool false := hp 25 (by kernel_rfl)
            clear hf hp
            refine stepAt_on 25 false (by kernel_rfl) h25 ?_
            exact stepOK_pure (.agg (bC 32 x.t)) (loadHashA rfl h27 ((CAt.ofRow (R3.out.kept hk)).bh.ht _ rfl)) rfl
          refine ⟨fun t w1 hf hk hp => ?_, ?_⟩
          · have h3 : slot t 3 = .pointer (some ⟨w.heap.size, 0, none⟩) := hf 3 (by kernel_rfl)
            have h25 : slot t 25 = .bool false := hp 25 (by kernel_rfl)
            clear hf hp
            refine stepAt_on 25 false (by kernel_rfl) h25 ?_
            exact stepOK_pure (.pointer (some ⟨w.heap.size, 66, none⟩)) (execFieldBA ⟨w.heap.size, 0, none⟩ ⟨w.heap.size, 66, none⟩ 1 66 (.inr ⟨rfl, rfl⟩) rfl w1 rfl h3) rfl
          refine ⟨fun t w1 hf hk hp => ?_, ?_⟩
          · have h29 : slot t 29 = .pointer (some ⟨w.heap.size, 66, none⟩) := hp 29 (by kernel_rfl)
            have h25 : slot t 25 = .bool false := hp 25 (by kernel_rfl)
            clear hf hp
            refine stepAt_on 25 false (by kernel_rfl) h25 ?_
            exact stepOK_pure (.slice p m c) (loadStrsA rfl h29 ((CAt.ofRow (R3.out.kept hk)).bt _ rfl)) rfl
          refine ⟨fun t w1 hf hk hp => ?_, ?_⟩
          · have h30 : slot t 30 = .slice p m c := hp 30 (by kernel_rfl)
            have h25 : slot t 25 = .bool false := hp 25 (by kernel_rfl)
            clear hf hp
            refine stepAt_on 25 false (by kernel_rfl) h25 ?_
            refine stepOK_call #[.slice p m c] rfl (by simp only [List.map_toArray, List.map_cons, List.map_nil, evS, h30]) (by go_simp) ((H2.out w1 (SSl.kept _ _ _ _ _ (K1.out.trans hk) HU.out)).mono fun e w' ⟨he, hk'⟩ => ⟨_, he, hk', rfl⟩)
          refine ⟨fun t w1 hf hk hp => ?_, ?_⟩
          · have h28 : slot t 28 = .agg (bC 32 x.t) := hp 28 (by kernel_rfl)
            have h31 : slot t 31 = .agg (bC 32 s) := hp 31 (by kernel_rfl)
            have h25 : slot t 25 = .bool false := hp 25 (by kernel_rfl)
            clear hf hp
            refine stepAt_on 25 false (by kernel_rfl) h25 ?_
            exact stepOK_pure (.bool (!b2)) ((HB2.out ▸ execNeHs x.t s hx2 hs32 w1 rfl h28 h31)) rfl
          refine ⟨fun t w1 hf hk hp => ?_, ?_⟩
          · have h25 : slot t 25 = .bool false := hp 25 (by kernel_rfl)
            have h32 : slot t 32 = .bool (!b2) := hp 32 (by kernel_rfl)
            clear hf hp
            refine stepAt_plain rfl ?_
            refine stepOK_pure (.bool (!b2)) ?_ rfl
            simp only [execOp, evS, h25, h32]
            go_simp
          exact trivial
        · intro t w1 hsz hf hk hfacts
          have h33 : slot t 33 = .bool (!b2) := hfacts 14 _ rfl 33 rfl
          have h2 : slot t 2 = v := hf 2 (by kernel_rfl)
          have h3 : slot t 3 = .pointer (some ⟨w.heap.size, 0, none⟩) := hf 3 (by kernel_rfl)
          have harr : t = #[slot t 0, slot t 1, slot t 2, slot t 3, slot t 4, slot t 5, slot t 6, slot t 7, slot t 8, slot t 9, slot t 10, slot t 11, slot t 12, slot t 13, slot t 14, slot t 15, slot t 16, slot t 17, slot t 18, slot t 19, slot t 20, slot t 21, slot t 22, slot t 23, slot t 24, slot t 25, slot t 26, slot t 27, slot t 28, slot t 29, slot t 30, slot t 31, slot t 32, slot t 33] := arr_eq t 34 hsz
          rw [harr, h33, h2, h3]
          clear harr hfacts hf h33 h2 h3
          generalize slot t 0 = x0; generalize slot t 1 = x1; generalize slot t 4 = x4; generalize slot t 5 = x5; generalize slot t 6 = x6; generalize slot t 7 = x7; generalize slot t 8 = x8; generalize slot t 9 = x9; generalize slot t 10 = x10; generalize slot t 11 = x11; generalize slot t 12 = x12; generalize slot t 13 = x13
          generalize slot t 14 = x14; generalize slot t 15 = x15; generalize slot t 16 = x16; generalize slot t 17 = x17; generalize slot t 18 = x18; generalize slot t 19 = x19; generalize slot t 20 = x20; generalize slot t 21 = x21; generalize slot t 22 = x22; generalize slot t 23 = x23; generalize slot t 24 = x24; generalize slot t 25 = x25
          generalize slot t 26 = x26; generalize slot t 27 = x27; generalize slot t 28 = x28; generalize slot t 29 = x29; generalize slot t 30 = x30; generalize slot t 31 = x31; generalize slot t 32 = x32
          clear hsz t
          replace K1 := Lib.hid (K1.out.trans hk)
          clear hk
          cases b2
          · go_wp2_with fail
            go_ret
            exact ⟨ret_int HE.out.symm, K1.out⟩
          · go_wp2_with fail
            go_ret
            exact ⟨ret_int HE.out.symm, K1.out⟩
    · have HE := Lib.hid (hE2 hh hM)
      have hd2 : (M == 0) = false := by simp [hM]
      have hd2' : (M != 0) = true := by simp [hM]
      clear hE1 hE2 hE3 hE4 H1 H2 hM
      go_enter Tryd.func12, Tryd.ntmps12
      go_wp2_with (first
        | (refine wpList_exec 8 rfl (by rfl) _ _ (execFieldBA ⟨w.heap.size, 0, none⟩ ⟨w.heap.size, 0, none⟩ 0 0 (.inl ⟨rfl, rfl⟩) rfl _ rfl rfl) ?_; try simp only [List.setIfInBounds_toArray, List.set_cons_succ, List.set_cons_zero])
        | (refine wpList_exec 9 rfl (by rfl) _ _ (execFieldHA ⟨w.heap.size, 0, none⟩ ⟨w.heap.size, 0, none⟩ 0 0 (.inl ⟨rfl, rfl⟩) rfl _ rfl rfl) ?_; try simp only [List.setIfInBounds_toArray, List.set_cons_succ, List.set_cons_zero])
        | (refine wpList_exec 10 rfl (by rfl) _ _ (loadU32A rfl rfl ((CAt.ofRow R3.out).bh.cell _ 0 rfl _ (hdC_0 x))) ?_; try simp only [List.setIfInBounds_toArray, List.set_cons_succ, List.set_cons_zero])
        | (refine wpList_exec 13 rfl (by rfl) _ _ (execFieldBA ⟨w.heap.size, 0, none⟩ ⟨w.heap.size, 66, none⟩ 1 66 (.inr ⟨rfl, rfl⟩) rfl _ rfl rfl) ?_; try simp only [List.setIfInBounds_toArray, List.set_cons_succ, List.set_cons_zero])
        | (refine wpList_exec 14 rfl (by rfl) _ _ (loadStrsA rfl rfl ((CAt.ofRow R3.out).bt _ rfl)) ?_; try simp only [List.setIfInBounds_toArray, List.set_cons_succ, List.set_cons_zero]))
      generalize w.alloc (.cells (bkC x (.slice p m c)) 35) = v1 at R3 K1 ⊢
      refine (H0.out v1 (SSl.kept _ _ _ _ _ K1.out HU.out)).mono ?_
      rintro e v2 ⟨rfl, k2⟩
      replace K1 := Lib.hid (K1.out.trans k2)
      clear k2 H0
      go_wp2_with fail
      go_ret
      exact ⟨ret_int HE.out.symm, K1.out⟩
  · have HE := Lib.hid (hE1 hh)
    have hd1 : ((x.h : Int) == (h : Int)) = false := by simp; omega
    have hd1' : ((x.h : Int) != (h : Int)) = true := by simp; omega
    clear hE1 hE2 hE3 hE4 H0 H1 H2 hh
    go_enter Tryd.func12, Tryd.ntmps12
    go_wp2_with (first
      | (refine wpList_exec 8 rfl (by rfl) _ _ (execFieldBA ⟨w.heap.size, 0, none⟩ ⟨w.heap.size, 0, none⟩ 0 0 (.inl ⟨rfl, rfl⟩) rfl _ rfl rfl) ?_; try simp only [List.setIfInBounds_toArray, List.set_cons_succ, List.set_cons_zero])
      | (refine wpList_exec 9 rfl (by rfl) _ _ (execFieldHA ⟨w.heap.size, 0, none⟩ ⟨w.heap.size, 0, none⟩ 0 0 (.inl ⟨rfl, rfl⟩) rfl _ rfl rfl) ?_; try simp only [List.setIfInBounds_toArray, List.set_cons_succ, List.set_cons_zero])
      | (refine wpList_exec 10 rfl (by rfl) _ _ (loadU32A rfl rfl ((CAt.ofRow R3.out).bh.cell _ 0 rfl _ (hdC_0 x))) ?_; try simp only [List.setIfInBounds_toArray, List.set_cons_succ, List.set_cons_zero]))
    go_ret
    exact ⟨ret_int HE.out.symm, K1.out⟩
set_option maxRecDepth 100000 in
set_option maxHeartbeats 4000000 in
theorem refSameB22_any : BlockSameC 9 := by
  intro x y m k S R u t w hx hy hu ht
  obtain ⟨p, c, rfl, hc, hcm, hS⟩ := hu
  obtain ⟨p', c', rfl, hc', hcm', hR⟩ := ht
  have HS := Lib.hid hS
  have HR := Lib.hid hR
  have HX := Lib.hid hx
  have HY := Lib.hid hy
  have hm63 : m ≤ 9223372036854775807 := by unfold maxLen at hcm; omega
  have R2 := Lib.hid ((Rowz.new w (bkC x (.slice p m c)) 35).alloc (.cells (bkC y (.slice p' k c')) 35))
  have R3 := Lib.hid (Rowz.newEq1 w (.cells (bkC x (.slice p m c)) 35) _ (bkC y (.slice p' k c')) 35 rfl)
  have K1 := Lib.hid (((Kept.refl w).alloc (.cells (bkC x (.slice p m c)) 35)).alloc (.cells (bkC y (.slice p' k c')) 35))
  clear hS hR hx hy hc hcm hc' hcm'
  by_cases hxy : x = y
  · by_cases hmk : m = k
    · subst hmk
      have hd0 : ((m : Int) != (m : Int)) = false := by simp
      have HB : Hid (eqB x y m m S R = eqS m m S R) := Lib.hid (by rw [eqB, decide_eq_true hxy, Bool.true_and])
      rw [HB.out]
      have hne : Hid (∀ {o : Oper} {t : Array Value} {a b : Operand} (w : World), o.op = .binOp .neq 33 a b 33 → evS t a = .agg (hdC x) → evS t b = .agg (hdC y) → (execOp (evS t) o).run Tryd.prog w = .ok (.value (.bool false)) w) := Lib.hid fun w ho ha hb => by
        subst hxy; exact execNeHdSelf x HX.out w ho ha hb
      clear hxy HB
      go_enter Tryd.func9, Tryd.ntmps9
      go_wp2_with (first
        | (refine park_at 6 rfl ?_)
        | fail)
      generalize (w.alloc (.cells (bkC x (.slice p m c)) 35)).alloc (.cells (bkC y (.slice p' m c')) 35) = v1 at R2 R3 K1 ⊢
      refine unpark ?_
      go_wp2_with (first
        | (refine wpList_exec 6 rfl (by rfl) _ _ (execFieldBA ⟨w.heap.size, 0, none⟩ ⟨w.heap.size, 0, none⟩ 0 0 (.inl ⟨rfl, rfl⟩) rfl _ rfl rfl) ?_; try simp only [List.setIfInBounds_toArray, List.set_cons_succ, List.set_cons_zero])
        | (refine wpList_exec 7 rfl (by rfl) _ _ (loadHdA rfl rfl (CAt.ofRow R2.out).bh) ?_; try simp only [List.setIfInBounds_toArray, List.set_cons_succ, List.set_cons_zero])
        | (refine wpList_exec 8 rfl (by rfl) _ _ (execFieldBA ⟨w.heap.size + 1, 0, none⟩ ⟨w.heap.size + 1, 0, none⟩ 0 0 (.inl ⟨rfl, rfl⟩) rfl _ rfl rfl) ?_; try simp only [List.setIfInBounds_toArray, List.set_cons_succ, List.set_cons_zero])
        | (refine wpList_exec 9 rfl (by rfl) _ _ (loadHdA rfl rfl (CAt.ofRow R3.out).bh) ?_; try simp only [List.setIfInBounds_toArray, List.set_cons_succ, List.set_cons_zero])
        | (refine wpList_exec 10 rfl (by rfl) _ _ (hne.out _ rfl rfl rfl) ?_; try simp only [List.setIfInBounds_toArray, List.set_cons_succ, List.set_cons_zero])
        | (refine wpList_exec 12 rfl (by rfl) _ _ (execFieldBA ⟨w.heap.size, 0, none⟩ ⟨w.heap.size, 66, none⟩ 1 66 (.inr ⟨rfl, rfl⟩) rfl _ rfl rfl) ?_; try simp only [List.setIfInBounds_toArray, List.set_cons_succ, List.set_cons_zero])
        | (refine wpList_exec 13 rfl (by rfl) _ _ (loadStrsA rfl rfl ((CAt.ofRow R2.out).bt _ rfl)) ?_; try simp only [List.setIfInBounds_toArray, List.set_cons_succ, List.set_cons_zero])
        | (refine wpList_exec 15 rfl (by rfl) _ _ (execFieldBA ⟨w.heap.size + 1, 0, none⟩ ⟨w.heap.size + 1, 66, none⟩ 1 66 (.inr ⟨rfl, rfl⟩) rfl _ rfl rfl) ?_; try simp only [List.setIfInBounds_toArray, List.set_cons_succ, List.set_cons_zero])
        | (refine wpList_exec 16 rfl (by rfl) _ _ (loadStrsA rfl rfl ((CAt.ofRow R3.out).bt _ rfl)) ?_; try simp only [List.setIfInBounds_toArray, List.set_cons_succ, List.set_cons_zero]))
      clear hne
      go_loopw [5] (fun i wr => ∃ k : Nat, k ≤ m ∧ i = .int .i64 (k : Int) ∧ Hid (∀ i, i < k → S i = R i) ∧ Hid (Kept v1 wr)) (fun i _ => m - (intOf i).toNat)
      case atStart => exact ⟨0, by omega, rfl, Lib.hid (fun i h => by omega), Lib.hid (Kept.refl _)⟩
      case round =>
        obtain ⟨k, hk, rfl, HN, KW⟩ := hrel
        have R2w := Lib.hid (R2.out.kept KW.out)
        have R3w := Lib.hid (R3.out.kept KW.out)
        have KE := Lib.hid (K1.out.trans KW.out)
        by_cases hlt : k < m
        · have hd : decide ((k : Int) < (m : Int)) = true := decide_eq_true (by omega)
          have hd' : decide (k < m) = true := decide_eq_true hlt
          obtain ⟨q, rfl, _⟩ := HS.out.some (by omega)
          obtain ⟨q', rfl, _⟩ := HR.out.some (by omega)
          go_wp2_with (first
            | (refine wpList_exec 21 rfl (by rfl) _ _ (execFieldBA ⟨w.heap.size, 0, none⟩ ⟨w.heap.size, 66, none⟩ 1 66 (.inr ⟨rfl, rfl⟩) rfl _ rfl rfl) ?_; try simp only [List.setIfInBounds_toArray, List.set_cons_succ, List.set_cons_zero])
            | (refine wpList_exec 22 rfl (by rfl) _ _ (loadStrsA rfl rfl ((CAt.ofRow R2w.out).bt _ rfl)) ?_; try simp only [List.setIfInBounds_toArray, List.set_cons_succ, List.set_cons_zero]))
          refine wp_region_table [(27, .is (.pointer (some ⟨w.heap.size, 66, none⟩))), (28, .is (.slice (some q) m c)), (29, .is (.int .i64 (k : Int))), (30, .is (.pointer (some (q.add k)))), (31, .is (.string (S k))), (32, .is (.pointer (some ⟨w.heap.size + 1, 66, none⟩))), (33, .is (.slice (some q') m c')), (34, .is (.int .i64 (k : Int))), (35, .is (.pointer (some (q'.add k)))), (36, .is (.string (R k))), (37, .is (.bool (!decide (S k = R k))))] (by kernel_rfl) (by kernel_rfl) ?_ ?_
          · refine ⟨fun t w1 hf hk hp => ?_, ?_⟩
            · have h2 : slot t 2 = .pointer (some ⟨w.heap.size, 0, none⟩) := hf 2 (by kernel_rfl)
              clear hf hp
              refine stepAt_plain rfl ?_
              exact stepOK_pure (.pointer (some ⟨w.heap.size, 66, none⟩)) (execFieldBA ⟨w.heap.size, 0, none⟩ ⟨w.heap.size, 66, none⟩ 1 66 (.inr ⟨rfl, rfl⟩) rfl w1 rfl h2) rfl
            refine ⟨fun t w1 hf hk hp => ?_, ?_⟩
            · have h27 : slot t 27 = .pointer (some ⟨w.heap.size, 66, none⟩) := hp 27 (by kernel_rfl)
              clear hf hp
              refine stepAt_plain rfl ?_
              exact stepOK_pure (.slice (some q) m c) (loadStrsA rfl h27 ((CAt.ofRow (R2w.out.kept hk)).bt _ rfl)) rfl
            refine ⟨fun t w1 hf hk hp => ?_, ?_⟩
            · have h5 : slot t 5 = .int .i64 (k : Int) := hf 5 (by kernel_rfl)
              clear hf hp
              refine stepAt_plain rfl ?_
              exact stepOK_move _ (.inl rfl) h5
            refine ⟨fun t w1 hf hk hp => ?_, ?_⟩
            · have h28 : slot t 28 = .slice (some q) m c := hp 28 (by kernel_rfl)
              have h29 : slot t 29 = .int .i64 (k : Int) := hp 29 (by kernel_rfl)
              clear hf hp
              refine stepAt_plain rfl ?_
              exact stepOK_pure (.pointer (some (q.add k))) (execIndexS q m c k hlt w1 rfl h28 h29) rfl
            refine ⟨fun t w1 hf hk hp => ?_, ?_⟩
            · have h30 : slot t 30 = .pointer (some (q.add k)) := hp 30 (by kernel_rfl)
              clear hf hp
              refine stepAt_plain rfl ?_
              exact stepOK_pure (.string (S k)) (load_sat k rfl h30 (HS.out.kept (KE.out.trans hk)) hlt) rfl
            refine ⟨fun t w1 hf hk hp => ?_, ?_⟩
            · have h3 : slot t 3 = .pointer (some ⟨w.heap.size + 1, 0, none⟩) := hf 3 (by kernel_rfl)
              clear hf hp
              refine stepAt_plain rfl ?_
              exact stepOK_pure (.pointer (some ⟨w.heap.size + 1, 66, none⟩)) (execFieldBA ⟨w.heap.size + 1, 0, none⟩ ⟨w.heap.size + 1, 66, none⟩ 1 66 (.inr ⟨rfl, rfl⟩) rfl w1 rfl h3) rfl
            refine ⟨fun t w1 hf hk hp => ?_, ?_⟩
            · have h32 : slot t 32 = .pointer (some ⟨w.heap.size + 1, 66, none⟩) := hp 32 (by kernel_rfl)
              clear hf hp
              refine stepAt_plain rfl ?_
              exact stepOK_pure (.slice (some q') m c') (loadStrsA rfl h32 ((CAt.ofRow (R3w.out.kept hk)).bt _ rfl)) rfl
            refine ⟨fun t w1 hf hk hp => ?_, ?_⟩
            · have h5 : slot t 5 = .int .i64 (k : Int) := hf 5 (by kernel_rfl)
              clear hf hp
              refine stepAt_plain rfl ?_
              exact stepOK_move _ (.inl rfl) h5
            refine ⟨fun t w1 hf hk hp => ?_, ?_⟩
            · have h33 : slot t 33 = .slice (some q') m c' := hp 33 (by kernel_rfl)
              have h34 : slot t 34 = .int .i64 (k : Int) := hp 34 (by kernel_rfl)
              clear hf hp
              refine stepAt_plain rfl ?_
              exact stepOK_pure (.pointer (some (q'.add k))) (execIndexS q' m c' k hlt w1 rfl h33 h34) rfl
            refine ⟨fun t w1 hf hk hp => ?_, ?_⟩
            · have h35 : slot t 35 = .pointer (some (q'.add k)) := hp 35 (by kernel_rfl)
              clear hf hp
              refine stepAt_plain rfl ?_
              exact stepOK_pure (.string (R k)) (load_sat k rfl h35 (HR.out.kept (KE.out.trans hk)) hlt) rfl
            refine ⟨fun t w1 hf hk hp => ?_, ?_⟩
            · have h31 : slot t 31 = .string (S k) := hp 31 (by kernel_rfl)
              have h36 : slot t 36 = .string (R k) := hp 36 (by kernel_rfl)
              clear hf hp
              refine stepAt_plain rfl ?_
              exact stepOK_pure (.bool (!decide (S k = R k))) (execNeS (S k) (R k) w1 rfl h31 h36) rfl
            exact trivial
          · intro t w1 hsz hf hk hfacts
            have h37 : slot t 37 = .bool (!decide (S k = R k)) := hfacts 10 _ rfl 37 rfl
            have h2 : slot t 2 = .pointer (some ⟨w.heap.size, 0, none⟩) := hf 2 (by kernel_rfl)
            have h3 : slot t 3 = .pointer (some ⟨w.heap.size + 1, 0, none⟩) := hf 3 (by kernel_rfl)
            have h5 : slot t 5 = .int .i64 (k : Int) := hf 5 (by kernel_rfl)
            have h0 := hf 0 (by kernel_rfl)
            conv at h0 => rhs; whnf
            try change slot t 0 = undef at h0
            have h1 := hf 1 (by kernel_rfl)
            conv at h1 => rhs; whnf
            try change slot t 1 = undef at h1
            have h4 := hf 4 (by kernel_rfl)
            conv at h4 => rhs; whnf
            try change slot t 4 = undef at h4
            have h6 := hf 6 (by kernel_rfl)
            conv at h6 => rhs; whnf
            try change slot t 6 = undef at h6
            have h7 := hf 7 (by kernel_rfl)
            conv at h7 => rhs; whnf
            try change slot t 7 = undef at h7
            have h8 := hf 8 (by kernel_rfl)
            conv at h8 => rhs; whnf
            try change slot t 8 = undef at h8
            have h9 := hf 9 (by kernel_rfl)
            conv at h9 => rhs; whnf
            try change slot t 9 = undef at h9
            have h10 := hf 10 (by kernel_rfl)
            conv at h10 => rhs; whnf
            try change slot t 10 = undef at h10
            have h11 := hf 11 (by kernel_rfl)
            conv at h11 => rhs; whnf
            try change slot t 11 = undef at h11
            have h12 := hf 12 (by kernel_rfl)
            conv at h12 => rhs; whnf
            try change slot t 12 = undef at h12
            have h13 := hf 13 (by kernel_rfl)
            conv at h13 => rhs; whnf
            try change slot t 13 = undef at h13
            have h14 := hf 14 (by kernel_rfl)
            conv at h14 => rhs; whnf
            try change slot t 14 = undef at h14
            have h15 := hf 15 (by kernel_rfl)
            conv at h15 => rhs; whnf
            try change slot t 15 = undef at h15
            have h16 := hf 16 (by kernel_rfl)
            conv at h16 => rhs; whnf
            try change slot t 16 = undef at h16
            have h17 := hf 17 (by kernel_rfl)
            conv at h17 => rhs; whnf
            try change slot t 17 = undef at h17
            have h18 := hf 18 (by kernel_rfl)
            conv at h18 => rhs; whnf
            try change slot t 18 = undef at h18
            have h19 := hf 19 (by kernel_rfl)
            conv at h19 => rhs; whnf
            try change slot t 19 = undef at h19
            have h20 := hf 20 (by kernel_rfl)
            conv at h20 => rhs; whnf
            try change slot t 20 = undef at h20
            have h21 := hf 21 (by kernel_rfl)
            conv at h21 => rhs; whnf
            try change slot t 21 = undef at h21
            have h22 := hf 22 (by kernel_rfl)
            conv at h22 => rhs; whnf
            try change slot t 22 = undef at h22
            have h23 := hf 23 (by kernel_rfl)
            conv at h23 => rhs; whnf
            try change slot t 23 = undef at h23
            have h24 := hf 24 (by kernel_rfl)
            conv at h24 => rhs; whnf
            try change slot t 24 = undef at h24
            have h25 := hf 25 (by kernel_rfl)
            conv at h25 => rhs; whnf
            try change slot t 25 = undef at h25
            have h26 := hf 26 (by kernel_rfl)
            conv at h26 => rhs; whnf
            try change slot t 26 = undef at h26
            have harr : t = #[slot t 0, slot t 1, slot t 2, slot t 3, slot t 4, slot t 5, slot t 6, slot t 7, slot t 8, slot t 9, slot t 10, slot t 11, slot t 12, slot t 13, slot t 14, slot t 15, slot t 16, slot t 17, slot t 18, slot t 19, slot t 20, slot t 21, slot t 22, slot t 23, slot t 24, slot t 25, slot t 26, slot t 27, slot t 28, slot t 29, slot t 30, slot t 31, slot t 32, slot t 33, slot t 34, slot t 35, slot t 36, slot t 37] := arr_eq t 38 hsz
            rw [harr, h37, h2, h3, h5, h0, h1, h4, h6, h7, h8, h9, h10, h11, h12, h13, h14, h15, h16, h17, h18, h19, h20, h21, h22, h23, h24, h25, h26]
            clear harr hfacts hf h37 h2 h3 h5 h0 h1 h4 h6 h7 h8 h9 h10 h11 h12 h13 h14 h15 h16 h17 h18 h19 h20 h21 h22 h23 h24 h25 h26
            generalize slot t 27 = x27; generalize slot t 28 = x28; generalize slot t 29 = x29; generalize slot t 30 = x30; generalize slot t 31 = x31; generalize slot t 32 = x32; generalize slot t 33 = x33; generalize slot t 34 = x34; generalize slot t 35 = x35; generalize slot t 36 = x36
            clear hsz t
            replace KW := Lib.hid (KW.out.trans hk)
            clear hk KE R2w R3w
            by_cases he : S k = R k
            · have hd2 : decide (S k = R k) = true := decide_eq_true he
              have HN2 : Hid (∀ i, i < k + 1 → S i = R i) := Lib.hid fun i hi => by
                by_cases e : i = k
                · subst e; exact he
                · exact HN.out i (by omega)
              rw [hd2]
              clear he hd2 HN
              go_wp2
              go_roundw
              case rel => exact ⟨k + 1, by omega, by go_num, HN2, KW⟩
              case measure => simp [intOf]; omega
            · have hd2 : decide (S k = R k) = false := decide_eq_false he
              have HE : Hid (eqS m m S R = false) := Lib.hid (eqS_at k hlt he)
              rw [hd2]
              clear he hd2 HN
              go_wp2
              go_ret
              exact ⟨by rw [HE.out]; rfl, K1.out.trans KW.out⟩
        · have hd : decide ((k : Int) < (m : Int)) = false := decide_eq_false (by omega)
          have hd' : decide (k < m) = false := decide_eq_false hlt
          have HE : Hid (eqS m m S R = true) := Lib.hid (eqS_yes.2 ⟨rfl, fun i hi => HN.out i (by omega)⟩)
          go_wp2_with (first
            | (refine wpList_exec 21 rfl (by rfl) _ _ (execFieldBA ⟨w.heap.size, 0, none⟩ ⟨w.heap.size, 66, none⟩ 1 66 (.inr ⟨rfl, rfl⟩) rfl _ rfl rfl) ?_; try simp only [List.setIfInBounds_toArray, List.set_cons_succ, List.set_cons_zero])
            | (refine wpList_exec 22 rfl (by rfl) _ _ (loadStrsA rfl rfl ((CAt.ofRow R2w.out).bt _ rfl)) ?_; try simp only [List.setIfInBounds_toArray, List.set_cons_succ, List.set_cons_zero]))
          go_ret
          exact ⟨by rw [HE.out]; rfl, KE.out⟩
    · have hd0 : ((m : Int) != (k : Int)) = true := by simp; omega
      have hd0' : ((m : Int) == (k : Int)) = false := by simp; omega
      have HB : Hid (eqB x y m k S R = false) := Lib.hid (by rw [eqB, eqS_no hmk, Bool.and_false])
      have hne : Hid (∀ {o : Oper} {t : Array Value} {a b : Operand} (w : World), o.op = .binOp .neq 33 a b 33 → evS t a = .agg (hdC x) → evS t b = .agg (hdC y) → (execOp (evS t) o).run Tryd.prog w = .ok (.value (.bool false)) w) := Lib.hid fun w ho ha hb => by
        subst hxy; exact execNeHdSelf x HX.out w ho ha hb
      rw [HB.out]
      clear hxy hmk HB
      go_enter Tryd.func9, Tryd.ntmps9
      go_wp2_with (first
        | (refine park_at 6 rfl ?_)
        | fail)
      generalize (w.alloc (.cells (bkC x (.slice p m c)) 35)).alloc (.cells (bkC y (.slice p' k c')) 35) = v1 at R2 R3 K1 ⊢
      refine unpark ?_
      go_wp2_with (first
        | (refine wpList_exec 6 rfl (by rfl) _ _ (execFieldBA ⟨w.heap.size, 0, none⟩ ⟨w.heap.size, 0, none⟩ 0 0 (.inl ⟨rfl, rfl⟩) rfl _ rfl rfl) ?_; try simp only [List.setIfInBounds_toArray, List.set_cons_succ, List.set_cons_zero])
        | (refine wpList_exec 7 rfl (by rfl) _ _ (loadHdA rfl rfl (CAt.ofRow R2.out).bh) ?_; try simp only [List.setIfInBounds_toArray, List.set_cons_succ, List.set_cons_zero])
        | (refine wpList_exec 8 rfl (by rfl) _ _ (execFieldBA ⟨w.heap.size + 1, 0, none⟩ ⟨w.heap.size + 1, 0, none⟩ 0 0 (.inl ⟨rfl, rfl⟩) rfl _ rfl rfl) ?_; try simp only [List.setIfInBounds_toArray, List.set_cons_succ, List.set_cons_zero])
        | (refine wpList_exec 9 rfl (by rfl) _ _ (loadHdA rfl rfl (CAt.ofRow R3.out).bh) ?_; try simp only [List.setIfInBounds_toArray, List.set_cons_succ, List.set_cons_zero])
        | (refine wpList_exec 10 rfl (by rfl) _ _ (hne.out _ rfl rfl rfl) ?_; try simp only [List.setIfInBounds_toArray, List.set_cons_succ, List.set_cons_zero])
        | (refine wpList_exec 12 rfl (by rfl) _ _ (execFieldBA ⟨w.heap.size, 0, none⟩ ⟨w.heap.size, 66, none⟩ 1 66 (.inr ⟨rfl, rfl⟩) rfl _ rfl rfl) ?_; try simp only [List.setIfInBounds_toArray, List.set_cons_succ, List.set_cons_zero])
        | (refine wpList_exec 13 rfl (by rfl) _ _ (loadStrsA rfl rfl ((CAt.ofRow R2.out).bt _ rfl)) ?_; try simp only [List.setIfInBounds_toArray, List.set_cons_succ, List.set_cons_zero])
        | (refine wpList_exec 15 rfl (by rfl) _ _ (execFieldBA ⟨w.heap.size + 1, 0, none⟩ ⟨w.heap.size + 1, 66, none⟩ 1 66 (.inr ⟨rfl, rfl⟩) rfl _ rfl rfl) ?_; try simp only [List.setIfInBounds_toArray, List.set_cons_succ, List.set_cons_zero])
        | (refine wpList_exec 16 rfl (by rfl) _ _ (loadStrsA rfl rfl ((CAt.ofRow R3.out).bt _ rfl)) ?_; try simp only [List.setIfInBounds_toArray, List.set_cons_succ, List.set_cons_zero]))
      go_ret
      exact ⟨rfl, K1.out⟩
  · have HB : Hid (eqB x y m k S R = false) := Lib.hid (by rw [eqB, decide_eq_false hxy, Bool.false_and])
    have hne : Hid (∀ {o : Oper} {t : Array Value} {a b : Operand} (w : World), o.op = .binOp .neq 33 a b 33 → evS t a = .agg (hdC x) → evS t b = .agg (hdC y) → (execOp (evS t) o).run Tryd.prog w = .ok (.value (.bool true)) w) := Lib.hid fun w ho ha hb =>
      execNeHdYes x y HX.out HY.out hxy w ho ha hb
    rw [HB.out]
    clear hxy HB
    go_enter Tryd.func9, Tryd.ntmps9
    go_wp2_with (first
      | (refine park_at 6 rfl ?_)
      | fail)
    generalize (w.alloc (.cells (bkC x (.slice p m c)) 35)).alloc (.cells (bkC y (.slice p' k c')) 35) = v1 at R2 R3 K1 ⊢
    refine unpark ?_
    go_wp2_with (first
      | (refine wpList_exec 6 rfl (by rfl) _ _ (execFieldBA ⟨w.heap.size, 0, none⟩ ⟨w.heap.size, 0, none⟩ 0 0 (.inl ⟨rfl, rfl⟩) rfl _ rfl rfl) ?_; try simp only [List.setIfInBounds_toArray, List.set_cons_succ, List.set_cons_zero])
      | (refine wpList_exec 7 rfl (by rfl) _ _ (loadHdA rfl rfl (CAt.ofRow R2.out).bh) ?_; try simp only [List.setIfInBounds_toArray, List.set_cons_succ, List.set_cons_zero])
      | (refine wpList_exec 8 rfl (by rfl) _ _ (execFieldBA ⟨w.heap.size + 1, 0, none⟩ ⟨w.heap.size + 1, 0, none⟩ 0 0 (.inl ⟨rfl, rfl⟩) rfl _ rfl rfl) ?_; try simp only [List.setIfInBounds_toArray, List.set_cons_succ, List.set_cons_zero])
      | (refine wpList_exec 9 rfl (by rfl) _ _ (loadHdA rfl rfl (CAt.ofRow R3.out).bh) ?_; try simp only [List.setIfInBounds_toArray, List.set_cons_succ, List.set_cons_zero])
      | (refine wpList_exec 10 rfl (by rfl) _ _ (hne.out _ rfl rfl rfl) ?_; try simp only [List.setIfInBounds_toArray, List.set_cons_succ, List.set_cons_zero]))
    go_ret
    exact ⟨rfl, K1.out⟩
end Go.Proofs.YtlfkkfacbcpogaaDoor
