/-
  Contracts of package block. Conditions: at most a thousand entries, two thousand transactions of at most ten thousand bytes; a header's parts fit; sha's table of round constants stands (Make, Check).
-/
import Derived.Test.YtlfkkfacbcpogaaDoorBlkForm
import Derived.Test.YtlfkkfacbcpogaaDoorBlkRef
import Derived.Test.YtlfkkfacbcpogaaDoorSlcLib
import Derived.Test.YtlfkkfacbcpogaaDoorHeadRef
import Derived.Test.YtlfkkfacbcpogaaDoorTxWalkA
namespace Go.Proofs.YtlfkkfacbcpogaaDoor
set_option maxRecDepth 4000
open Go.RowKit

theorem hdC_nostr (x : Hd) (j : Nat) (s : ByteArray) : (hdC x)[j]? ≠ some (.string s) := by
  intro h
  have hj : j < 66 := by
    have := (Array.getElem?_eq_some_iff.1 h).1
    rwa [hdC_size] at this
  by_cases h0 : j = 0
  · subst h0; rw [hdC_0] at h; simp at h
  · by_cases h1 : j < 33
    · rw [show j = 1 + (j - 1) by omega, hdC_l x (j - 1) (by omega)] at h; simp at h
    · by_cases h2 : j < 65
      · rw [show j = 33 + (j - 33) by omega, hdC_t x (j - 33) (by omega)] at h; simp at h
      · rw [show j = 65 by omega, hdC_65] at h; simp at h
theorem bkC_nostr (x : Hd) (p : Option Addr) (n c : Nat) (j : Nat) (s : ByteArray) : (bkC x (.slice p n c))[j]? ≠ some (.string s) := by
  intro h
  have hj : j < 67 := by
    have := (Array.getElem?_eq_some_iff.1 h).1
    rwa [bkC_size] at this
  by_cases h1 : j < 66
  · obtain ⟨v, hv⟩ : ∃ v, (hdC x)[j]? = some v := ⟨_, Array.getElem?_eq_getElem (by rw [hdC_size]; exact h1)⟩
    have := bkC_hd x (.slice p n c) j v hv
    rw [Nat.zero_add, h] at this
    exact hdC_nostr x j s (by rw [hv, ← this])
  · rw [show j = 66 by omega, bkC_66] at h; simp at h
/-- Strings stay where a row without strings is stored into. -/
theorem SSl.setRow {n : Nat} {S : Nat → ByteArray} {v : Value} {w : World} {g : Nat} {C : Array Value} {T : TypeId} (h : SSl n S v w) (hr : Rowz w g C T) (hC : ∀ (j : Nat) s, C[j]? ≠ Option.some (.string s)) (D : Array Value) : SSl n S v (w.setRow g D) := by
  obtain ⟨p, c, hv, h1, h2, h3⟩ := h
  refine ⟨p, c, hv, h1, h2, fun i hi => ?_⟩
  obtain ⟨a, ha, hb, hc⟩ := h3 i hi
  refine ⟨a, ha, by simpa using hb, ?_⟩
  have hne : (a.add i).block ≠ g := by
    intro e
    have hr2 : w.heap[(a.add i).block]? = Option.some (.cells C T (0, 0)) := by rw [e]; exact hr
    unfold World.cell? at hc
    rw [hr2] at hc
    simp only at hc
    split at hc
    · cases hc
    · exact hC _ _ hc
  rw [cell_setRow_other w g D _ hne]
  exact hc
set_option maxRecDepth 100000 in
set_option maxHeartbeats 1000000 in
theorem blockMake_any : BlockMakeC 8 := by
  intro h n F v m S u k w hh hk hv hn hu hm hz hT
  have HT := Lib.hid hT
  have H1 : Hid (∀ w, HSl n F v w → Tab w → _) := Lib.hid fun w hv ht => linkRoot_any n F v w hv hn ht
  have H2 : Hid (∀ w, SSl m S u w → Tab w → _) := Lib.hid fun w hu ht => txsRoot_any m S u w hu hm hz ht
  have H3 : Hid (∀ w, SSl m S u w → Calls Tryd.prog 16 #[u] w fun e w' => ∃ v, e = .returned v ∧ SSl m S v w' ∧ Kept w w') := Lib.hid fun w hu => (slicesCloneS_any m S u w hu (by omega)).mono fun e w' ⟨p, c, he, hs, hk⟩ => ⟨_, he, hs, hk⟩
  have HV := Lib.hid hv
  have HU := Lib.hid hu
  have R8 := Lib.hid (Rowz.new w (bkC hdZ (.slice none 0 0)) 35)
  have K1 := Lib.hid ((Kept.refl w).alloc (.cells (bkC hdZ (.slice none 0 0)) 35))
  have hz0 : Tryd.zeroCells35 = bkC hdZ (.slice none 0 0) := by kernel_rfl
  unfold mkB
  generalize rootL (lkS F) n = r at H1 ⊢
  generalize rootL (tkS S) m = s at H2 ⊢
  clear hv hu hz hT
  go_enter Tryd.func8, Tryd.ntmps8
  go_wp2_with fail
  generalize w.alloc (.cells (bkC hdZ (.slice none 0 0)) 35) = v1 at R8 K1 ⊢
  refine (H1.out v1 (HSl.kept _ _ _ _ _ K1.out HV.out) (HT.out.kept K1.out)).mono ?_
  rintro e v2 ⟨rfl, k2⟩
  replace R8 := Lib.hid (R8.out.kept k2)
  replace K1 := Lib.hid (K1.out.trans k2)
  clear k2 H1
  go_wp2_with fail
  refine (H2.out v2 (SSl.kept _ _ _ _ _ K1.out HU.out) (HT.out.kept K1.out)).mono ?_
  rintro e v3 ⟨rfl, k3⟩
  replace R8 := Lib.hid (R8.out.kept k3)
  replace K1 := Lib.hid (K1.out.trans k3)
  clear k3 H2
  go_wp2_with (first
    | (refine wpList_exec 16 rfl (by rfl) _ _ (execBuildH4 h k r s _ rfl rfl rfl rfl rfl) ?_; try simp only [List.setIfInBounds_toArray, List.set_cons_succ, List.set_cons_zero])
    | (refine wpList_exec 9 rfl (by rfl) _ _ (execAllocHd _ rfl) ?_; try simp only [List.setIfInBounds_toArray, List.set_cons_succ, List.set_cons_zero])
    | (refine wpList_store_made rfl 33 _ _ rfl _ _ (hdC ⟨h, r, s, k⟩) rfl rfl 33 _ rfl (info_hdr _) (by rw [hdC_size, hdC_size]) (hdC_one _) ?_; intro v4 R9 k4))
  obtain ⟨g9, hg9⟩ : ∃ g, g = v3.heap.size := ⟨_, rfl⟩
  rw [← hg9] at R9 ⊢
  clear hg9
  replace R8 := Lib.hid (R8.out.kept k4.out)
  replace K1 := Lib.hid (K1.out.trans k4.out)
  clear k4
  refine wp_region_tail 3 [(17, .is (.agg (hdC ⟨h, r, s, k⟩))), (18, .is (u)), (19, .such (SSl m S) (SSl.kept m S))] (by kernel_rfl) (by kernel_rfl) ?_ ?_
  · refine ⟨fun t w1 hf hk hp => ?_, ?_⟩
    · have h9 : slot t 9 = .pointer (some ⟨g9, 0, none⟩) := hf 9 (by kernel_rfl)
      clear hf hp
      refine stepM_at (by kernel_rfl) ?_
      refine stepAt_plain rfl ?_
      exact stepOK_pure (.agg (hdC ⟨h, r, s, k⟩)) (loadHd rfl h9 (R9.out.kept hk)) rfl
    refine ⟨fun t w1 hf hk hp => ?_, ?_⟩
    · have h2 : slot t 2 = u := hf 2 (by kernel_rfl)
      clear hf hp
      refine stepM_at (by kernel_rfl) ?_
      refine stepAt_plain rfl ?_
      exact stepOK_move _ (.inl rfl) h2
    refine ⟨fun t w1 hf hk hp => ?_, ?_⟩
    · have h18 : slot t 18 = u := hp 18 (by kernel_rfl)
      clear hf hp
      refine stepM_at (by kernel_rfl) ?_
      refine stepAt_plain rfl ?_
      refine stepOK_call #[u] rfl (by simp only [List.map_toArray, List.map_cons, List.map_nil, evS, h18]) (by go_simp) ((H3.out w1 (SSl.kept _ _ _ _ _ (K1.out.trans hk) HU.out)).mono fun e w' ⟨v, he, hpv, hk'⟩ => ⟨v, he, hk', hpv⟩)
    exact trivial
  · intro t w1 hsz hf hk hfacts
    have h17 : slot t 17 = .agg (hdC ⟨h, r, s, k⟩) := hfacts 0 _ (by decide) rfl 17 rfl
    obtain ⟨v19, h19, p19⟩ : ∃ v, slot t 19 = v ∧ (SSl m S) v w1 := ⟨_, rfl, hfacts 2 _ (by decide) rfl 19 rfl⟩
    have h2 : slot t 2 = u := hf 2 (by kernel_rfl)
    have h8 : slot t 8 = .pointer (some ⟨w.heap.size, 0, none⟩) := hf 8 (by kernel_rfl)
    have h9 : slot t 9 = .pointer (some ⟨g9, 0, none⟩) := hf 9 (by kernel_rfl)
    have harr : t = #[slot t 0, slot t 1, slot t 2, slot t 3, slot t 4, slot t 5, slot t 6, slot t 7, slot t 8, slot t 9, slot t 10, slot t 11, slot t 12, slot t 13, slot t 14, slot t 15, slot t 16, slot t 17, slot t 18, slot t 19, slot t 20] := arr_eq t 21 hsz
    rw [harr, h17, h19, h2, h8, h9]
    clear harr hfacts hf h17 h19 h2 h8 h9
    generalize slot t 0 = x0; generalize slot t 1 = x1; generalize slot t 3 = x3; generalize slot t 4 = x4; generalize slot t 5 = x5; generalize slot t 6 = x6; generalize slot t 7 = x7; generalize slot t 10 = x10; generalize slot t 11 = x11; generalize slot t 12 = x12; generalize slot t 13 = x13; generalize slot t 14 = x14
    generalize slot t 15 = x15; generalize slot t 16 = x16; generalize slot t 18 = x18; generalize slot t 20 = x20
    clear hsz t
    simp only [List.drop_succ_cons, List.drop_zero]
    obtain ⟨p2, c2, rfl⟩ := p19.slice
    have HS := Lib.hid p19
    replace R8 := Lib.hid (R8.out.kept hk)
    replace K1 := Lib.hid (K1.out.trans hk)
    have hlt : w.heap.size < w1.heap.size := R8.out.lt
    clear hk p19 H3
    go_wp2_with (first
      | (refine wpList_exec 20 rfl (by rfl) _ _ (execBuildB2 ⟨h, r, s, k⟩ p2 m c2 _ rfl rfl rfl) ?_; try simp only [List.setIfInBounds_toArray, List.set_cons_succ, List.set_cons_zero])
      | (refine wpList_store_row rfl 35 _ _ rfl w.heap.size (bkC ⟨h, r, s, k⟩ (.slice p2 m c2)) rfl rfl 35 (bkC hdZ (.slice none 0 0)) R8.out (info_blk _ _) (by rw [bkC_size, bkC_size]) (bkC_one _ _ _ _) ?_))
    refine bodyPost_ret (v := .agg (bkC ⟨h, r, s, k⟩ (.slice p2 m c2))) (results_cell_row Tryd.results8 _ _ w.heap.size 35 _ (0, 0) _ rfl R8.out.row Tryd.underlying35 rfl (info_blk _ _)) rfl ⟨p2, c2, rfl, ?_, K1.out.setRow (Nat.le_refl _) _⟩
    exact HS.out.setRow R8.out (bkC_nostr _ _ _ _) _
set_option maxRecDepth 100000 in
set_option maxHeartbeats 1000000 in
theorem blockCheck_any : BlockCheckC 11 := by
  intro x m S u h n F v w hx hu hm hz hh32 hv hn hT
  have HT := Lib.hid hT
  have H0 : Hid (∀ w, SSl m S u w → _) := Lib.hid fun w hu => txsMay_any m S u w hu hm hz
  have H1 : Hid (∀ w, HSl n F v w → Tab w → _) := Lib.hid fun w hv ht => linkRoot_any n F v w hv hn ht
  have H2 : Hid (∀ w, SSl m S u w → Tab w → _) := Lib.hid fun w hu ht => txsRoot_any m S u w hu hm hz ht
  have HV := Lib.hid hv
  have HU := Lib.hid hu
  obtain ⟨p, c, rfl⟩ := hu.slice
  have R3 := Lib.hid (Rowz.new w (bkC x (.slice p m c)) 35)
  have K1 := Lib.hid ((Kept.refl w).alloc (.cells (bkC x (.slice p m c)) 35))
  have hr32 : (rootL (lkS F) n).length = 32 := shaL_length _
  have hs32 : (rootL (tkS S) m).length = 32 := shaL_length _
  have hE1 := fun hh => @ckB_height x m S h n F hh
  have hE2 := fun hh hm => @ckB_may x m S h n F hh hm
  have hE3 := fun hh hm hr => @ckB_root x m S h n F hh hm hr
  have hE4 := fun hh hm hr => @ckB_good x m S h n F hh hm hr
  generalize ckB x m S h n F = E at hE1 hE2 hE3 hE4 ⊢
  generalize rootL (lkS F) n = r at H1 hr32 hE3 hE4
  generalize rootL (tkS S) m = s at H2 hs32 hE3 hE4
  generalize mayT S m = M at H0 hE2 hE3 hE4
  clear hv hu hz hT hh32
  by_cases hh : x.h = h
  · have hd1 : ((x.h : Int) == (h : Int)) = true := by simp [hh]
    have hd1' : ((x.h : Int) != (h : Int)) = false := by simp [hh]
    by_cases hM : M = 0
    · subst hM
      have HE3 := Lib.hid (hE3 hh rfl)
      have HE4 := Lib.hid (hE4 hh rfl)
      obtain ⟨hx0, hx1, hx2, hx3⟩ := hx
      clear hE1 hE2 hE3 hE4
      go_enter Tryd.func11, Tryd.ntmps11
      go_wp2_with (first
        | (refine wpList_exec 8 rfl (by rfl) _ _ (execFieldBA ⟨w.heap.size, 0, none⟩ ⟨w.heap.size, 0, none⟩ 0 0 (.inl ⟨rfl, rfl⟩) rfl _ rfl rfl) ?_; try simp only [List.setIfInBounds_toArray, List.set_cons_succ, List.set_cons_zero])
        | (refine wpList_exec 9 rfl (by rfl) _ _ (execFieldHA ⟨w.heap.size, 0, none⟩ ⟨w.heap.size, 0, none⟩ 0 0 (.inl ⟨rfl, rfl⟩) rfl _ rfl rfl) ?_; try simp only [List.setIfInBounds_toArray, List.set_cons_succ, List.set_cons_zero])
        | (refine wpList_exec 10 rfl (by rfl) _ _ (loadU32A rfl rfl ((CAt.ofRow R3.out).bh.cell _ 0 rfl _ (hdC_0 x))) ?_; try simp only [List.setIfInBounds_toArray, List.set_cons_succ, List.set_cons_zero])
        | (refine wpList_exec 13 rfl (by rfl) _ _ (execFieldBA ⟨w.heap.size, 0, none⟩ ⟨w.heap.size, 66, none⟩ 1 66 (.inr ⟨rfl, rfl⟩) rfl _ rfl rfl) ?_; try simp only [List.setIfInBounds_toArray, List.set_cons_succ, List.set_cons_zero])
        | (refine wpList_exec 14 rfl (by rfl) _ _ (loadStrsA rfl rfl ((CAt.ofRow R3.out).bt _ rfl)) ?_; try simp only [List.setIfInBounds_toArray, List.set_cons_succ, List.set_cons_zero]))
      generalize w.alloc (.cells (bkC x (.slice p m c)) 35) = v1 at R3 K1 ⊢
      refine (H0.out v1 (SSl.kept _ _ _ _ _ K1.out HU.out)).mono ?_
      rintro e v2 ⟨rfl, k2⟩
      replace R3 := Lib.hid (R3.out.kept k2)
      replace K1 := Lib.hid (K1.out.trans k2)
      clear k2 H0
      obtain ⟨b1, hb1⟩ : ∃ b, decide (x.l = r) = b := ⟨_, rfl⟩
      have HB1 := Lib.hid hb1
      cases b1
      · have HE : Hid (E = 12) := Lib.hid (HE3.out fun h2 => by rw [decide_eq_false_iff_not] at hb1; exact hb1 h2.1)
        clear hb1 HE3 HE4
        go_wp2_with fail
        refine wp_region_table [(19, .is (.pointer (some ⟨w.heap.size, 0, none⟩))), (20, .is (.pointer (some ⟨w.heap.size, 1, none⟩))), (21, .is (.agg (bC 32 x.l))), (22, .is (v)), (23, .is (.agg (bC 32 r))), (24, .is (.bool (!false))), (25, .is (.bool true)), (26, .is (undef)), (27, .is (undef)), (28, .is (undef)), (29, .is (undef)), (30, .is (undef)), (31, .is (undef)), (32, .is (undef)), (33, .is (.bool true))] (by kernel_rfl) (by kernel_rfl) ?_ ?_
        · refine ⟨fun t w1 hf hk hp => ?_, ?_⟩
          · have h3 : slot t 3 = .pointer (some ⟨w.heap.size, 0, none⟩) := hf 3 (by kernel_rfl)
            clear hf hp
            refine stepAt_plain rfl ?_
            exact stepOK_pure (.pointer (some ⟨w.heap.size, 0, none⟩)) (execFieldBA ⟨w.heap.size, 0, none⟩ ⟨w.heap.size, 0, none⟩ 0 0 (.inl ⟨rfl, rfl⟩) rfl w1 rfl h3) rfl
          refine ⟨fun t w1 hf hk hp => ?_, ?_⟩
          · have h19 : slot t 19 = .pointer (some ⟨w.heap.size, 0, none⟩) := hp 19 (by kernel_rfl)
            clear hf hp
            refine stepAt_plain rfl ?_
            exact stepOK_pure (.pointer (some ⟨w.heap.size, 1, none⟩)) (execFieldHA ⟨w.heap.size, 0, none⟩ ⟨w.heap.size, 1, none⟩ 1 1 (.inr (.inl ⟨rfl, rfl⟩)) rfl w1 rfl h19) rfl
          refine ⟨fun t w1 hf hk hp => ?_, ?_⟩
          · have h20 : slot t 20 = .pointer (some ⟨w.heap.size, 1, none⟩) := hp 20 (by kernel_rfl)
            clear hf hp
            refine stepAt_plain rfl ?_
            exact stepOK_pure (.agg (bC 32 x.l)) (loadHashA rfl h20 ((CAt.ofRow (R3.out.kept hk)).bh.hl _ rfl)) rfl
          refine ⟨fun t w1 hf hk hp => ?_, ?_⟩
          · have h2 : slot t 2 = v := hf 2 (by kernel_rfl)
            clear hf hp
            refine stepAt_plain rfl ?_
            exact stepOK_move _ (.inl rfl) h2
          refine ⟨fun t w1 hf hk hp => ?_, ?_⟩
          · have h22 : slot t 22 = v := hp 22 (by kernel_rfl)
            clear hf hp
            refine stepAt_plain rfl ?_
            refine stepOK_call #[v] rfl (by simp only [List.map_toArray, List.map_cons, List.map_nil, evS, h22]) (by go_simp) ((H1.out w1 (HSl.kept _ _ _ _ _ (K1.out.trans hk) HV.out) (HT.out.kept (K1.out.trans hk))).mono fun e w' ⟨he, hk'⟩ => ⟨_, he, hk', rfl⟩)
          refine ⟨fun t w1 hf hk hp => ?_, ?_⟩
          · have h21 : slot t 21 = .agg (bC 32 x.l) := hp 21 (by kernel_rfl)
            have h23 : slot t 23 = .agg (bC 32 r) := hp 23 (by kernel_rfl)
            clear hf hp
            refine stepAt_plain rfl ?_
            exact stepOK_pure (.bool (!false)) ((HB1.out ▸ execNeHs x.l r hx1 hr32 w1 rfl h21 h23)) rfl
          refine ⟨fun t w1 hf hk hp => ?_, ?_⟩
          · have h24 : slot t 24 = .bool (!false) := hp 24 (by kernel_rfl)
            clear hf hp
            refine stepAt_plain rfl ?_
            exact stepOK_move _ (.inl rfl) h24
          refine ⟨fun t w1 hf hk hp => ?_, ?_⟩
          · have h25 : slot t 25 = .bool true := hp 25 (by kernel_rfl)
            clear hf hp
            exact stepAt_off 25 false (by kernel_rfl) h25 rfl
          refine ⟨fun t w1 hf hk hp => ?_, ?_⟩
          · have h25 : slot t 25 = .bool true := hp 25 (by kernel_rfl)
            clear hf hp
            exact stepAt_off 25 false (by kernel_rfl) h25 rfl
          refine ⟨fun t w1 hf hk hp => ?_, ?_⟩
          · have h25 : slot t 25 = .bool true := hp 25 (by kernel_rfl)
            clear hf hp
            exact stepAt_off 25 false (by kernel_rfl) h25 rfl
          refine ⟨fun t w1 hf hk hp => ?_, ?_⟩
          · have h25 : slot t 25 = .bool true := hp 25 (by kernel_rfl)
            clear hf hp
            exact stepAt_off 25 false (by kernel_rfl) h25 rfl
          refine ⟨fun t w1 hf hk hp => ?_, ?_⟩
          · have h25 : slot t 25 = .bool true := hp 25 (by kernel_rfl)
            clear hf hp
            exact stepAt_off 25 false (by kernel_rfl) h25 rfl
          refine ⟨fun t w1 hf hk hp => ?_, ?_⟩
          · have h25 : slot t 25 = .bool true := hp 25 (by kernel_rfl)
            clear hf hp
            exact stepAt_off 25 false (by kernel_rfl) h25 rfl
          refine ⟨fun t w1 hf hk hp => ?_, ?_⟩
          · have h25 : slot t 25 = .bool true := hp 25 (by kernel_rfl)
            clear hf hp
            exact stepAt_off 25 false (by kernel_rfl) h25 rfl
          refine ⟨fun t w1 hf hk hp => ?_, ?_⟩
          · have h25 : slot t 25 = .bool true := hp 25 (by kernel_rfl)
            have h32 : slot t 32 = undef := hp 32 (by kernel_rfl)
            clear hf hp
            refine stepAt_plain rfl ?_
            refine stepOK_pure (.bool true) ?_ rfl
            simp only [execOp, evS, h25, h32]
            go_simp
          exact trivial
        · intro t w1 hsz hf hk hfacts
          have h33 : slot t 33 = .bool true := hfacts 14 _ rfl 33 rfl
          have h2 : slot t 2 = v := hf 2 (by kernel_rfl)
          have h3 : slot t 3 = .pointer (some ⟨w.heap.size, 0, none⟩) := hf 3 (by kernel_rfl)
          have harr : t = #[slot t 0, slot t 1, slot t 2, slot t 3, slot t 4, slot t 5, slot t 6, slot t 7, slot t 8, slot t 9, slot t 10, slot t 11, slot t 12, slot t 13, slot t 14, slot t 15, slot t 16, slot t 17, slot t 18, slot t 19, slot t 20, slot t 21, slot t 22, slot t 23, slot t 24, slot t 25, slot t 26, slot t 27, slot t 28, slot t 29, slot t 30, slot t 31, slot t 32, slot t 33] := arr_eq t 34 hsz
          rw [harr, h33, h2, h3]
          clear harr hfacts hf h33 h2 h3
          generalize slot t 0 = x0; generalize slot t 1 = x1; generalize slot t 4 = x4; generalize slot t 5 = x5; generalize slot t 6 = x6; generalize slot t 7 = x7; generalize slot t 8 = x8; generalize slot t 9 = x9; generalize slot t 10 = x10; generalize slot t 11 = x11; generalize slot t 12 = x12; generalize slot t 13 = x13
          generalize slot t 14 = x14; generalize slot t 15 = x15; generalize slot t 16 = x16; generalize slot t 17 = x17; generalize slot t 18 = x18; generalize slot t 19 = x19; generalize slot t 20 = x20; generalize slot t 21 = x21; generalize slot t 22 = x22; generalize slot t 23 = x23; generalize slot t 24 = x24; generalize slot t 25 = x25
          generalize slot t 26 = x26; generalize slot t 27 = x27; generalize slot t 28 = x28; generalize slot t 29 = x29; generalize slot t 30 = x30; generalize slot t 31 = x31; generalize slot t 32 = x32
          clear hsz t
          replace K1 := Lib.hid (K1.out.trans hk)
          clear hk
          go_wp2_with fail
          go_ret
          exact ⟨ret_int HE.out.symm, K1.out⟩
      · obtain ⟨b2, hb2⟩ : ∃ b, decide (x.t = s) = b := ⟨_, rfl⟩
        have HB2 := Lib.hid hb2
        have HE : Hid (E = bif b2 then 0 else 12) := Lib.hid (by
          have h1 : x.l = r := of_decide_eq_true hb1
          cases b2
          · exact HE3.out fun h2 => by rw [decide_eq_false_iff_not] at hb2; exact hb2 h2.2
          · exact HE4.out ⟨h1, of_decide_eq_true hb2⟩)
        clear hb1 hb2 HE3 HE4
        go_wp2_with fail
        refine wp_region_table [(19, .is (.pointer (some ⟨w.heap.size, 0, none⟩))), (20, .is (.pointer (some ⟨w.heap.size, 1, none⟩))), (21, .is (.agg (bC 32 x.l))), (22, .is (v)), (23, .is (.agg (bC 32 r))), (24, .is (.bool (!true))), (25, .is (.bool false)), (26, .is (.pointer (some ⟨w.heap.size, 0, none⟩))), (27, .is (.pointer (some ⟨w.heap.size, 33, none⟩))), (28, .is (.agg (bC 32 x.t))), (29, .is (.pointer (some ⟨w.heap.size, 66, none⟩))), (30, .is (.slice p m c)), (31, .is (.agg (bC 32 s))), (32, .is (.bool (!b2))), (33, .is (.bool (!b2)))] (by kernel_rfl) (by kernel_rfl) ?_ ?_
        · refine ⟨fun t w1 hf hk hp => ?_, ?_⟩
          · have h3 : slot t 3 = .pointer (some ⟨w.heap.size, 0, none⟩) := hf 3 (by kernel_rfl)
            clear hf hp
            refine stepAt_plain rfl ?_
            exact stepOK_pure (.pointer (some ⟨w.heap.size, 0, none⟩)) (execFieldBA ⟨w.heap.size, 0, none⟩ ⟨w.heap.size, 0, none⟩ 0 0 (.inl ⟨rfl, rfl⟩) rfl w1 rfl h3) rfl
          refine ⟨fun t w1 hf hk hp => ?_, ?_⟩
          · have h19 : slot t 19 = .pointer (some ⟨w.heap.size, 0, none⟩) := hp 19 (by kernel_rfl)
            clear hf hp
            refine stepAt_plain rfl ?_
            exact stepOK_pure (.pointer (some ⟨w.heap.size, 1, none⟩)) (execFieldHA ⟨w.heap.size, 0, none⟩ ⟨w.heap.size, 1, none⟩ 1 1 (.inr (.inl ⟨rfl, rfl⟩)) rfl w1 rfl h19) rfl
          refine ⟨fun t w1 hf hk hp => ?_, ?_⟩
          · have h20 : slot t 20 = .pointer (some ⟨w.heap.size, 1, none⟩) := hp 20 (by kernel_rfl)
            clear hf hp
            refine stepAt_plain rfl ?_
            exact stepOK_pure (.agg (bC 32 x.l)) (loadHashA rfl h20 ((CAt.ofRow (R3.out.kept hk)).bh.hl _ rfl)) rfl
          refine ⟨fun t w1 hf hk hp => ?_, ?_⟩
          · have h2 : slot t 2 = v := hf 2 (by kernel_rfl)
            clear hf hp
            refine stepAt_plain rfl ?_
            exact stepOK_move _ (.inl rfl) h2
          refine ⟨fun t w1 hf hk hp => ?_, ?_⟩
          · have h22 : slot t 22 = v := hp 22 (by kernel_rfl)
            clear hf hp
            refine stepAt_plain rfl ?_
            refine stepOK_call #[v] rfl (by simp only [List.map_toArray, List.map_cons, List.map_nil, evS, h22]) (by go_simp) ((H1.out w1 (HSl.kept _ _ _ _ _ (K1.out.trans hk) HV.out) (HT.out.kept (K1.out.trans hk))).mono fun e w' ⟨he, hk'⟩ => ⟨_, he, hk', rfl⟩)
          refine ⟨fun t w1 hf hk hp => ?_, ?_⟩
          · have h21 : slot t 21 = .agg (bC 32 x.l) := hp 21 (by kernel_rfl)
            have h23 : slot t 23 = .agg (bC 32 r) := hp 23 (by kernel_rfl)
            clear hf hp
            refine stepAt_plain rfl ?_
            exact stepOK_pure (.bool (!true)) ((HB1.out ▸ execNeHs x.l r hx1 hr32 w1 rfl h21 h23)) rfl
          refine ⟨fun t w1 hf hk hp => ?_, ?_⟩
          · have h24 : slot t 24 = .bool (!true) := hp 24 (by kernel_rfl)
            clear hf hp
            refine stepAt_plain rfl ?_
            exact stepOK_move _ (.inl rfl) h24
          refine ⟨fun t w1 hf hk hp => ?_, ?_⟩
          · have h3 : slot t 3 = .pointer (some ⟨w.heap.size, 0, none⟩) := hf 3 (by kernel_rfl)
            have h25 : slot t 25 = .bool false := hp 25 (by kernel_rfl)
            clear hf hp
            refine stepAt_on 25 false (by kernel_rfl) h25 ?_
            exact stepOK_pure (.pointer (some ⟨w.heap.size, 0, none⟩)) (execFieldBA ⟨w.heap.size, 0, none⟩ ⟨w.heap.size, 0, none⟩ 0 0 (.inl ⟨rfl, rfl⟩) rfl w1 rfl h3) rfl
          refine ⟨fun t w1 hf hk hp => ?_, ?_⟩
          · have h26 : slot t 26 = .pointer (some ⟨w.heap.size, 0, none⟩) := hp 26 (by kernel_rfl)
            have h25 : slot t 25 = .bool false := hp 25 (by kernel_rfl)
            clear hf hp
            refine stepAt_on 25 false (by kernel_rfl) h25 ?_
            exact stepOK_pure (.pointer (some ⟨w.heap.size, 33, none⟩)) (execFieldHA ⟨w.heap.size, 0, none⟩ ⟨w.heap.size, 33, none⟩ 2 33 (.inr (.inr (.inl ⟨rfl, rfl⟩))) rfl w1 rfl h26) rfl
          refine ⟨fun t w1 hf hk hp => ?_, ?_⟩
          · have h27 : slot t 27 = .pointer (some ⟨w.heap.size, 33, none⟩) := hp 27 (by kernel_rfl)
            have h25 : slot t 25 = .bool false := hp 25 (by kernel_rfl)
            clear hf hp
            refine stepAt_on 25 false (by kernel_rfl) h25 ?_
            exact stepOK_pure (.agg (bC 32 x.t)) (loadHashA rfl h27 ((CAt.ofRow (R3.out.kept hk)).bh.ht _ rfl)) rfl
          refine ⟨fun t w1 hf hk hp => ?_, ?_⟩
          · have h3 : slot t 3 = .pointer (some ⟨w.heap.size, 0, none⟩) := hf 3 (by kernel_rfl)
            have h25 : slot t 25 = .bool false := hp 25 (by kernel_rfl)
            clear hf hp
            refine stepAt_on 25 false (by kernel_rfl) h25 ?_
            exact stepOK_pure (.pointer (some ⟨w.heap.size, 66, none⟩)) (execFieldBA ⟨w.heap.size, 0, none⟩ ⟨w.heap.size, 66, none⟩ 1 66 (.inr ⟨rfl, rfl⟩) rfl w1 rfl h3) rfl
          refine ⟨fun t w1 hf hk hp => ?_, ?_⟩
          · have h29 : slot t 29 = .pointer (some ⟨w.heap.size, 66, none⟩) := hp 29 (by kernel_rfl)
            have h25 : slot t 25 = .bool false := hp 25 (by kernel_rfl)
            clear hf hp
            refine stepAt_on 25 false (by kernel_rfl) h25 ?_
            exact stepOK_pure (.slice p m c) (loadStrsA rfl h29 ((CAt.ofRow (R3.out.kept hk)).bt _ rfl)) rfl
          refine ⟨fun t w1 hf hk hp => ?_, ?_⟩
          · have h30 : slot t 30 = .slice p m c := hp 30 (by kernel_rfl)
            have h25 : slot t 25 = .bool false := hp 25 (by kernel_rfl)
            clear hf hp
            refine stepAt_on 25 false (by kernel_rfl) h25 ?_
            refine stepOK_call #[.slice p m c] rfl (by simp only [List.map_toArray, List.map_cons, List.map_nil, evS, h30]) (by go_simp) ((H2.out w1 (SSl.kept _ _ _ _ _ (K1.out.trans hk) HU.out) (HT.out.kept (K1.out.trans hk))).mono fun e w' ⟨he, hk'⟩ => ⟨_, he, hk', rfl⟩)
          refine ⟨fun t w1 hf hk hp => ?_, ?_⟩
          · have h28 : slot t 28 = .agg (bC 32 x.t) := hp 28 (by kernel_rfl)
            have h31 : slot t 31 = .agg (bC 32 s) := hp 31 (by kernel_rfl)
            have h25 : slot t 25 = .bool false := hp 25 (by kernel_rfl)
            clear hf hp
            refine stepAt_on 25 false (by kernel_rfl) h25 ?_
            exact stepOK_pure (.bool (!b2)) ((HB2.out ▸ execNeHs x.t s hx2 hs32 w1 rfl h28 h31)) rfl
          refine ⟨fun t w1 hf hk hp => ?_, ?_⟩
          · have h25 : slot t 25 = .bool false := hp 25 (by kernel_rfl)
            have h32 : slot t 32 = .bool (!b2) := hp 32 (by kernel_rfl)
            clear hf hp
            refine stepAt_plain rfl ?_
            refine stepOK_pure (.bool (!b2)) ?_ rfl
            simp only [execOp, evS, h25, h32]
            go_simp
          exact trivial
        · intro t w1 hsz hf hk hfacts
          have h33 : slot t 33 = .bool (!b2) := hfacts 14 _ rfl 33 rfl
          have h2 : slot t 2 = v := hf 2 (by kernel_rfl)
          have h3 : slot t 3 = .pointer (some ⟨w.heap.size, 0, none⟩) := hf 3 (by kernel_rfl)
          have harr : t = #[slot t 0, slot t 1, slot t 2, slot t 3, slot t 4, slot t 5, slot t 6, slot t 7, slot t 8, slot t 9, slot t 10, slot t 11, slot t 12, slot t 13, slot t 14, slot t 15, slot t 16, slot t 17, slot t 18, slot t 19, slot t 20, slot t 21, slot t 22, slot t 23, slot t 24, slot t 25, slot t 26, slot t 27, slot t 28, slot t 29, slot t 30, slot t 31, slot t 32, slot t 33] := arr_eq t 34 hsz
          rw [harr, h33, h2, h3]
          clear harr hfacts hf h33 h2 h3
          generalize slot t 0 = x0; generalize slot t 1 = x1; generalize slot t 4 = x4; generalize slot t 5 = x5; generalize slot t 6 = x6; generalize slot t 7 = x7; generalize slot t 8 = x8; generalize slot t 9 = x9; generalize slot t 10 = x10; generalize slot t 11 = x11; generalize slot t 12 = x12; generalize slot t 13 = x13
          generalize slot t 14 = x14; generalize slot t 15 = x15; generalize slot t 16 = x16; generalize slot t 17 = x17; generalize slot t 18 = x18; generalize slot t 19 = x19; generalize slot t 20 = x20; generalize slot t 21 = x21; generalize slot t 22 = x22; generalize slot t 23 = x23; generalize slot t 24 = x24; generalize slot t 25 = x25
          generalize slot t 26 = x26; generalize slot t 27 = x27; generalize slot t 28 = x28; generalize slot t 29 = x29; generalize slot t 30 = x30; generalize slot t 31 = x31; generalize slot t 32 = x32
          clear hsz t
          replace K1 := Lib.hid (K1.out.trans hk)
          clear hk
          cases b2
          · go_wp2_with fail
            go_ret
            exact ⟨ret_int HE.out.symm, K1.out⟩
          · go_wp2_with fail
            go_ret
            exact ⟨ret_int HE.out.symm, K1.out⟩
    · have HE := Lib.hid (hE2 hh hM)
      have hd2 : (M == 0) = false := by simp [hM]
      have hd2' : (M != 0) = true := by simp [hM]
      clear hE1 hE2 hE3 hE4 H1 H2 hM
      go_enter Tryd.func11, Tryd.ntmps11
      go_wp2_with (first
        | (refine wpList_exec 8 rfl (by rfl) _ _ (execFieldBA ⟨w.heap.size, 0, none⟩ ⟨w.heap.size, 0, none⟩ 0 0 (.inl ⟨rfl, rfl⟩) rfl _ rfl rfl) ?_; try simp only [List.setIfInBounds_toArray, List.set_cons_succ, List.set_cons_zero])
        | (refine wpList_exec 9 rfl (by rfl) _ _ (execFieldHA ⟨w.heap.size, 0, none⟩ ⟨w.heap.size, 0, none⟩ 0 0 (.inl ⟨rfl, rfl⟩) rfl _ rfl rfl) ?_; try simp only [List.setIfInBounds_toArray, List.set_cons_succ, List.set_cons_zero])
        | (refine wpList_exec 10 rfl (by rfl) _ _ (loadU32A rfl rfl ((CAt.ofRow R3.out).bh.cell _ 0 rfl _ (hdC_0 x))) ?_; try simp only [List.setIfInBounds_toArray, List.set_cons_succ, List.set_cons_zero])
        | (refine wpList_exec 13 rfl (by rfl) _ _ (execFieldBA ⟨w.heap.size, 0, none⟩ ⟨w.heap.size, 66, none⟩ 1 66 (.inr ⟨rfl, rfl⟩) rfl _ rfl rfl) ?_; try simp only [List.setIfInBounds_toArray, List.set_cons_succ, List.set_cons_zero])
        | (refine wpList_exec 14 rfl (by rfl) _ _ (loadStrsA rfl rfl ((CAt.ofRow R3.out).bt _ rfl)) ?_; try simp only [List.setIfInBounds_toArray, List.set_cons_succ, List.set_cons_zero]))
      generalize w.alloc (.cells (bkC x (.slice p m c)) 35) = v1 at R3 K1 ⊢
      refine (H0.out v1 (SSl.kept _ _ _ _ _ K1.out HU.out)).mono ?_
      rintro e v2 ⟨rfl, k2⟩
      replace K1 := Lib.hid (K1.out.trans k2)
      clear k2 H0
      go_wp2_with fail
      go_ret
      exact ⟨ret_int HE.out.symm, K1.out⟩
  · have HE := Lib.hid (hE1 hh)
    have hd1 : ((x.h : Int) == (h : Int)) = false := by simp; omega
    have hd1' : ((x.h : Int) != (h : Int)) = true := by simp; omega
    clear hE1 hE2 hE3 hE4 H0 H1 H2 hh
    go_enter Tryd.func11, Tryd.ntmps11
    go_wp2_with (first
      | (refine wpList_exec 8 rfl (by rfl) _ _ (execFieldBA ⟨w.heap.size, 0, none⟩ ⟨w.heap.size, 0, none⟩ 0 0 (.inl ⟨rfl, rfl⟩) rfl _ rfl rfl) ?_; try simp only [List.setIfInBounds_toArray, List.set_cons_succ, List.set_cons_zero])
      | (refine wpList_exec 9 rfl (by rfl) _ _ (execFieldHA ⟨w.heap.size, 0, none⟩ ⟨w.heap.size, 0, none⟩ 0 0 (.inl ⟨rfl, rfl⟩) rfl _ rfl rfl) ?_; try simp only [List.setIfInBounds_toArray, List.set_cons_succ, List.set_cons_zero])
      | (refine wpList_exec 10 rfl (by rfl) _ _ (loadU32A rfl rfl ((CAt.ofRow R3.out).bh.cell _ 0 rfl _ (hdC_0 x))) ?_; try simp only [List.setIfInBounds_toArray, List.set_cons_succ, List.set_cons_zero]))
    go_ret
    exact ⟨ret_int HE.out.symm, K1.out⟩
set_option maxRecDepth 100000 in
set_option maxHeartbeats 4000000 in
theorem blockSame_any : BlockSameC 13 := by
  intro x y m k S R u t w hx hy hu ht
  have HQ : Hid (∀ w, SSl m S u w → SSl k R t w → Calls Tryd.prog 21 #[u, t] w fun e w' => e = .returned (.bool (eqS m k S R)) ∧ Kept w w') := Lib.hid fun w hu ht => (slicesEqualS_any m k S R u t w hu ht).mono fun e w' ⟨B, he, hB, hk⟩ => ⟨by
    rw [he]
    congr 2
    cases B with
    | true => exact (eqS_yes.2 (hB.1 rfl)).symm
    | false =>
      cases e2 : eqS m k S R with
      | false => rfl
      | true => exact absurd (hB.2 (eqS_yes.1 e2)) (by simp), hk⟩
  have HU := Lib.hid hu
  have HW := Lib.hid ht
  obtain ⟨p, c, rfl⟩ := hu.slice
  obtain ⟨p', c', rfl⟩ := ht.slice
  have R2 := Lib.hid ((Rowz.new w (bkC x (.slice p m c)) 35).alloc (.cells (bkC y (.slice p' k c')) 35))
  have R3 := Lib.hid (Rowz.newEq1 w (.cells (bkC x (.slice p m c)) 35) _ (bkC y (.slice p' k c')) 35 rfl)
  have K1 := Lib.hid (((Kept.refl w).alloc (.cells (bkC x (.slice p m c)) 35)).alloc (.cells (bkC y (.slice p' k c')) 35))
  have HX := Lib.hid hx
  have HY := Lib.hid hy
  unfold eqB
  obtain ⟨b, hb⟩ : ∃ b, decide (x = y) = b := ⟨_, rfl⟩
  have heq : Hid (∀ {o : Oper} {t : Array Value} {a b2 : Operand} (w : World), o.op = .binOp .eql 33 a b2 33 → evS t a = .agg (hdC x) → evS t b2 = .agg (hdC y) → (execOp (evS t) o).run Tryd.prog w = .ok (.value (.bool b)) w) := Lib.hid fun w ho ha hb2 => by
    rw [← hb]; exact execEqHd x y HX.out HY.out w ho ha hb2
  rw [hb]
  generalize eqS m k S R = B at HQ ⊢
  clear hb hu ht hx hy
  cases b
  all_goals
    go_enter Tryd.func13, Tryd.ntmps13
    go_wp2_with (first
      | (refine park_at 5 rfl ?_)
      | fail)
    generalize (w.alloc (.cells (bkC x (.slice p m c)) 35)).alloc (.cells (bkC y (.slice p' k c')) 35) = v1 at R2 R3 K1 ⊢
    refine unpark ?_
    go_wp2_with (first
      | (refine wpList_exec 5 rfl (by rfl) _ _ (execFieldBA ⟨w.heap.size, 0, none⟩ ⟨w.heap.size, 0, none⟩ 0 0 (.inl ⟨rfl, rfl⟩) rfl _ rfl rfl) ?_; try simp only [List.setIfInBounds_toArray, List.set_cons_succ, List.set_cons_zero])
      | (refine wpList_exec 6 rfl (by rfl) _ _ (loadHdA rfl rfl (CAt.ofRow R2.out).bh) ?_; try simp only [List.setIfInBounds_toArray, List.set_cons_succ, List.set_cons_zero])
      | (refine wpList_exec 7 rfl (by rfl) _ _ (execFieldBA ⟨w.heap.size + 1, 0, none⟩ ⟨w.heap.size + 1, 0, none⟩ 0 0 (.inl ⟨rfl, rfl⟩) rfl _ rfl rfl) ?_; try simp only [List.setIfInBounds_toArray, List.set_cons_succ, List.set_cons_zero])
      | (refine wpList_exec 8 rfl (by rfl) _ _ (loadHdA rfl rfl (CAt.ofRow R3.out).bh) ?_; try simp only [List.setIfInBounds_toArray, List.set_cons_succ, List.set_cons_zero])
      | (refine wpList_exec 9 rfl (by rfl) _ _ (heq.out _ rfl rfl rfl) ?_; try simp only [List.setIfInBounds_toArray, List.set_cons_succ, List.set_cons_zero])
      | (refine wpList_exec 11 rfl (by rfl) _ _ (execFieldBA ⟨w.heap.size, 0, none⟩ ⟨w.heap.size, 66, none⟩ 1 66 (.inr ⟨rfl, rfl⟩) rfl _ rfl rfl) ?_; try simp only [List.setIfInBounds_toArray, List.set_cons_succ, List.set_cons_zero])
      | (refine wpList_exec 12 rfl (by rfl) _ _ (loadStrsA rfl rfl ((CAt.ofRow R2.out).bt _ rfl)) ?_; try simp only [List.setIfInBounds_toArray, List.set_cons_succ, List.set_cons_zero])
      | (refine wpList_exec 13 rfl (by rfl) _ _ (execFieldBA ⟨w.heap.size + 1, 0, none⟩ ⟨w.heap.size + 1, 66, none⟩ 1 66 (.inr ⟨rfl, rfl⟩) rfl _ rfl rfl) ?_; try simp only [List.setIfInBounds_toArray, List.set_cons_succ, List.set_cons_zero])
      | (refine wpList_exec 14 rfl (by rfl) _ _ (loadStrsA rfl rfl ((CAt.ofRow R3.out).bt _ rfl)) ?_; try simp only [List.setIfInBounds_toArray, List.set_cons_succ, List.set_cons_zero]))
  · go_ret
    exact ⟨rfl, K1.out⟩
  · refine (HQ.out v1 (SSl.kept _ _ _ _ _ K1.out HU.out) (SSl.kept _ _ _ _ _ K1.out HW.out)).mono ?_
    rintro e v2 ⟨rfl, k2⟩
    replace K1 := Lib.hid (K1.out.trans k2)
    clear k2
    go_wp2_with fail
    go_ret
    exact ⟨by rw [Bool.true_and]; rfl, K1.out⟩
end Go.Proofs.YtlfkkfacbcpogaaDoor
