/-
  Contracts of package ident. Conditions: a header's parts fit; sha's table of round constants stands (Id, Ids).
-/
import Derived.Test.YtncnlmjhejminaaDoorIdentForm
import Derived.Test.YtncnlmjhejminaaDoorHeadWalkA
namespace Go.Proofs.YtncnlmjhejminaaDoor
set_option maxRecDepth 4000
open Go.RowKit

set_option maxRecDepth 100000 in
set_option maxHeartbeats 1000000 in
theorem identText_any : IdentTextC 10 := by
  intro x w hx
  have hz := hdS_size x hx
  have H1 : Hid (∀ w, _) := Lib.hid fun w => headBytes_any x w hx
  have H2 : Hid (∀ w, _) := Lib.hid fun w => tagHead_any (hdS x) w (by omega)
  generalize headS (hdS x) = T at H2 ⊢
  generalize hdS x = B at H1 H2 hz
  have R1 := Lib.hid (Rowz.new w (hdC x) 32)
  have K1 := Lib.hid ((Kept.refl w).alloc (.cells (hdC x) 32))
  go_enter Tryd.func10, Tryd.ntmps10
  go_wp2_with (refine wpList_exec 3 rfl (by rfl) _ _ (loadHd rfl rfl R1.out) ?_)
  generalize w.alloc (.cells (hdC x) 32) = v1 at R1 K1 ⊢
  refine (H1.out v1).mono ?_
  rintro e v2 ⟨rfl, k2⟩
  replace K1 := Lib.hid (K1.out.trans k2)
  clear k2 R1 H1
  go_wp2_with fail
  refine (H2.out v2).mono ?_
  rintro e v3 ⟨rfl, k3⟩
  replace K1 := Lib.hid (K1.out.trans k3)
  clear k3 H2
  go_wp2_with fail
  go_ret
  exact ⟨rfl, K1.out⟩
set_option maxRecDepth 100000 in
set_option maxHeartbeats 1000000 in
theorem identId_any : IdentIdC 9 := by
  intro x w hx hT
  have HT := Lib.hid hT
  have hz := hdS_size x hx
  have H1 : Hid (∀ w, _) := Lib.hid fun w => headBytes_any x w hx
  have H2 : Hid (∀ w, Tab w → Calls Tryd.prog 15 #[.string (hdS x)] w fun e w' => e = .returned (.agg (bC 32 (idH x))) ∧ Kept w w') := Lib.hid fun w ht => tagHeadSum_any (hdS x) (by omega) w ht
  generalize idH x = I at H2 ⊢
  generalize hdS x = B at H1 H2 hz
  have R1 := Lib.hid ((Rowz.new w (hdC x) 32).alloc (.cells (bC 32 []) 27))
  have R2 := Lib.hid (Rowz.newEq1 w (.cells (hdC x) 32) _ (bC 32 []) 27 rfl)
  have K1 := Lib.hid (((Kept.refl w).alloc (.cells (hdC x) 32)).alloc (.cells (bC 32 []) 27))
  clear hT
  go_enter Tryd.func9, Tryd.ntmps9
  go_wp2_with (refine wpList_exec 3 rfl (by rfl) _ _ (loadHd rfl rfl R1.out) ?_)
  change Calls _ _ _ ((w.alloc (.cells (hdC x) 32)).alloc (.cells (bC 32 []) 27)) _
  generalize (w.alloc (.cells (hdC x) 32)).alloc (.cells (bC 32 []) 27) = v1 at R1 R2 K1 ⊢
  refine (H1.out v1).mono ?_
  rintro e v2 ⟨rfl, k2⟩
  replace R2 := Lib.hid (R2.out.kept k2)
  replace K1 := Lib.hid (K1.out.trans k2)
  clear k2 R1 H1
  go_wp2_with fail
  refine (H2.out v2 (HT.out.kept K1.out)).mono ?_
  rintro e v3 ⟨rfl, k3⟩
  replace R2 := Lib.hid (R2.out.kept k3)
  replace K1 := Lib.hid (K1.out.trans k3)
  clear k3 H2
  go_wp2_with (refine wpList_store_row rfl 27 _ _ rfl (w.heap.size + 1) (bC 32 I) rfl rfl 27 (bC 32 []) R2.out (info_hash _) (by simp [bC_size]) (bC_one _ _) ?_)
  refine bodyPost_ret (v := .agg (bC 32 I)) (results_cell_row Tryd.results9 _ _ (w.heap.size + 1) 27 _ (0, 0) _ rfl R2.out.row Tryd.underlying27 rfl (info_hash _)) rfl ⟨rfl, ?_⟩
  exact K1.out.setRow (by omega) _
set_option maxRecDepth 100000 in
set_option maxHeartbeats 1000000 in
theorem identIds_any : IdentIdsC 7 := by
  intro p n c X w hX hn hT
  have HX := Lib.hid hX
  have HT := Lib.hid hT
  have hm := run_make_hashes n w (by omega)
  clear hX hT
  go_enter Tryd.func7, Tryd.ntmps7
  go_wp2_with fail
  clear hm
  have R1 := Lib.hid (Rowz.new w (hC n (fun _ => [])) 27)
  have K1 := Lib.hid ((Kept.refl w).alloc (.cells (hC n (fun _ => [])) 27))
  generalize w.alloc (.cells (hC n (fun _ => [])) 27) = v at R1 K1 ⊢
  obtain ⟨g, hg⟩ : ∃ g, g = w.heap.size := ⟨_, rfl⟩
  have HG : Hid (w.heap.size ≤ g) := Lib.hid (by omega)
  rw [← hg] at R1 ⊢
  clear hg
  go_loopw [11] (fun i wr => ∃ k : Nat, k ≤ n ∧ i = .int .i64 k ∧ Hid (Rowz wr g (hC n (upH (fun i => idH (X i)) k)) 27) ∧ Hid (Kept w wr)) (fun i _ => n - (intOf i).toNat)
  case atStart => exact ⟨0, by omega, rfl, R1, K1⟩
  case round =>
    clear R1 K1
    obtain ⟨k, hk, rfl, R1, K1⟩ := hrel
    by_cases hlt : k < n
    · have hd : decide ((k : Int) < (n : Int)) = true := decide_eq_true (by omega)
      have hd' : decide (k < n) = true := decide_eq_true hlt
      obtain ⟨q, rfl, _⟩ := HX.out.some (by omega)
      have HXw := Lib.hid (HX.out.kept K1.out)
      have hok := HX.out.oks k hlt
      have HL : Hid (∀ w, Tab w → _) := Lib.hid fun w hw => identId_any (X k) w hok hw
      clear hok
      go_wp2_with (first
        | (refine wpList_exec 14 rfl (by rfl) _ _ (execIndexX q n c k hlt _ rfl rfl rfl) ?_)
        | (refine wpList_exec 15 rfl (by rfl) _ _ (load_xat k rfl rfl HXw.out hlt) ?_)
        | (refine wpList_exec 5 rfl (by rfl) _ _ (execAllocHd _ rfl) ?_)
        | (refine wpList_store_made rfl 32 _ _ rfl _ _ (hdC (X k)) rfl rfl 32 _ rfl (info_hdr _) (by rw [hdC_size, hdC_size]) (hdC_one _) ?_; intro v3 R5 k3)
        | (refine wpList_exec 18 rfl (by rfl) _ _ (loadHd rfl rfl R5.out) ?_))
      replace R1 := Lib.hid (R1.out.kept k3.out)
      replace K1 := Lib.hid (K1.out.trans k3.out)
      refine (HL.out _ (HT.out.kept K1.out)).mono ?_
      rintro e v1 ⟨rfl, k1⟩
      have R2 := Lib.hid (R1.out.kept k1)
      have K2 := Lib.hid (K1.out.trans k1)
      clear R1 K1 k1 k3 HL R5 HXw
      go_wp2_with (refine wpList_store_hash rfl _ _ rfl g k n (upH (fun i => idH (X i)) k) (idH (X k)) _ rfl rfl R2 hlt ?_)
      go_roundw
      case measure => simp [intOf]; omega
      case rel => exact ⟨k + 1, by omega, rfl, Lib.hid (by rw [← upH_put]; exact R2.out.row), Lib.hid (K2.out.setRow HG.out _)⟩
    · have hd : decide ((k : Int) < (n : Int)) = false := decide_eq_false (by omega)
      have hd' : decide (k < n) = false := decide_eq_false hlt
      obtain rfl : k = n := by omega
      go_wp2_with fail
      go_ret
      refine ⟨_, rfl, ⟨_, _, rfl, Nat.le_refl _, by unfold maxLen; omega, HAt.ofRow (F := fun i => idH (X i)) (T := 27) ?_ (fun i _ => idH_length _)⟩, K1.out⟩
      rw [← upH_all]; exact R1.out
set_option maxRecDepth 100000 in
set_option maxHeartbeats 1000000 in
theorem slicesIndex_any : IdentFirstC 21 := by
  intro n F v w l hv hn hl
  obtain ⟨p, c, rfl, hc, hcm, hF⟩ := hv
  have HF := Lib.hid hF
  have R3 := Lib.hid (Rowz.new w (bC 32 l) 27)
  have K1 := Lib.hid ((Kept.refl w).alloc (.cells (bC 32 l) 27))
  clear hF hc hcm
  go_enter Tryd.func21, Tryd.ntmps21
  go_wp2_with fail
  generalize w.heap.size = g at R3 ⊢
  generalize w.alloc (.cells (bC 32 l) 27) = v1 at R3 K1 ⊢
  replace HF := Lib.hid (HF.out.kept K1.out)
  go_loopw [8] (fun i wr => ∃ k : Nat, k ≤ n ∧ i = .int .i64 k ∧ Hid (∀ i, i < k → F i ≠ l) ∧ Hid (Kept v1 wr)) (fun i _ => n - (intOf i).toNat)
  case atStart => exact ⟨0, by omega, rfl, Lib.hid (fun i h => by omega), Lib.hid (Kept.refl _)⟩
  case round =>
    obtain ⟨k, hk, rfl, HN, KW⟩ := hrel
    by_cases hlt : k < n
    · have hd : decide ((k : Int) < (n : Int)) = true := decide_eq_true (by omega)
      have hd' : decide (k < n) = true := decide_eq_true hlt
      obtain ⟨q, rfl, _⟩ := HF.out.some (by omega)
      have hlk := HF.out.length k hlt
      go_wp2_with fail
      refine wp_region_table [(11, .is (.agg (bC 32 l))), (12, .is (.slice (some q) n c)), (13, .is (.int .i64 (k : Int))), (14, .is (.pointer (some (q.add (k * 32))))), (15, .is (.agg (bC 32 (F k)))), (16, .is (.bool (decide (l = F k))))] (by kernel_rfl) (by kernel_rfl) ?_ ?_
      · refine ⟨fun t w1 hf hk hp => ?_, ?_⟩
        · have h3 : slot t 3 = .pointer (some ⟨g, 0, none⟩) := hf 3 (by kernel_rfl)
          clear hf hp
          refine stepAt_plain rfl ?_
          exact stepOK_pure (.agg (bC 32 l)) (load_h rfl h3 (R3.out.kept (KW.out.trans hk))) rfl
        refine ⟨fun t w1 hf hk hp => ?_, ?_⟩
        · have h0 : slot t 0 = .slice (some q) n c := hf 0 (by kernel_rfl)
          clear hf hp
          refine stepAt_plain rfl ?_
          exact stepOK_move _ (.inl rfl) h0
        refine ⟨fun t w1 hf hk hp => ?_, ?_⟩
        · have h5 : slot t 5 = .int .i64 (k : Int) := hf 5 (by kernel_rfl)
          clear hf hp
          refine stepAt_plain rfl ?_
          exact stepOK_move _ (.inl rfl) h5
        refine ⟨fun t w1 hf hk hp => ?_, ?_⟩
        · have h12 : slot t 12 = .slice (some q) n c := hp 12 (by kernel_rfl)
          have h13 : slot t 13 = .int .i64 (k : Int) := hp 13 (by kernel_rfl)
          clear hf hp
          refine stepAt_plain rfl ?_
          exact stepOK_pure (.pointer (some (q.add (k * 32)))) (execIndexH q n c k hlt w1 rfl h12 h13) rfl
        refine ⟨fun t w1 hf hk hp => ?_, ?_⟩
        · have h14 : slot t 14 = .pointer (some (q.add (k * 32))) := hp 14 (by kernel_rfl)
          clear hf hp
          refine stepAt_plain rfl ?_
          have hq0 := (HF.out.kept (KW.out.trans hk)).load k hlt
          exact stepOK_sem (.agg (bC 32 (F k))) (by simp only [execOp, evS, h14]) hq0 rfl
        refine ⟨fun t w1 hf hk hp => ?_, ?_⟩
        · have h11 : slot t 11 = .agg (bC 32 l) := hp 11 (by kernel_rfl)
          have h15 : slot t 15 = .agg (bC 32 (F k)) := hp 15 (by kernel_rfl)
          clear hf hp
          refine stepAt_plain rfl ?_
          exact stepOK_pure (.bool (decide (l = F k))) (execEqHs l (F k) hl hlk w1 rfl h11 h15) rfl
        exact trivial
      · intro t w1 hsz hf hk hfacts
        have h16 : slot t 16 = .bool (decide (l = F k)) := hfacts 5 _ rfl 16 rfl
        have h0 : slot t 0 = .slice (some q) n c := hf 0 (by kernel_rfl)
        have h3 : slot t 3 = .pointer (some ⟨g, 0, none⟩) := hf 3 (by kernel_rfl)
        have h5 : slot t 5 = .int .i64 (k : Int) := hf 5 (by kernel_rfl)
        have h8 : slot t 8 = .int .i64 (k : Int) := hf 8 (by kernel_rfl)
        have h1 := hf 1 (by kernel_rfl)
        conv at h1 => rhs; whnf
        try change slot t 1 = undef at h1
        have h2 := hf 2 (by kernel_rfl)
        conv at h2 => rhs; whnf
        try change slot t 2 = undef at h2
        have h4 := hf 4 (by kernel_rfl)
        conv at h4 => rhs; whnf
        try change slot t 4 = undef at h4
        have h6 := hf 6 (by kernel_rfl)
        conv at h6 => rhs; whnf
        try change slot t 6 = undef at h6
        have h7 := hf 7 (by kernel_rfl)
        conv at h7 => rhs; whnf
        try change slot t 7 = undef at h7
        have h9 := hf 9 (by kernel_rfl)
        conv at h9 => rhs; whnf
        try change slot t 9 = undef at h9
        have h10 := hf 10 (by kernel_rfl)
        conv at h10 => rhs; whnf
        try change slot t 10 = undef at h10
        have h17 := hf 17 (by kernel_rfl)
        conv at h17 => rhs; whnf
        try change slot t 17 = undef at h17
        have h18 := hf 18 (by kernel_rfl)
        conv at h18 => rhs; whnf
        try change slot t 18 = undef at h18
        have harr : t = #[slot t 0, slot t 1, slot t 2, slot t 3, slot t 4, slot t 5, slot t 6, slot t 7, slot t 8, slot t 9, slot t 10, slot t 11, slot t 12, slot t 13, slot t 14, slot t 15, slot t 16, slot t 17, slot t 18] := arr_eq t 19 hsz
        rw [harr, h16, h0, h3, h5, h8, h1, h2, h4, h6, h7, h9, h10, h17, h18]
        clear harr hfacts hf h16 h0 h3 h5 h8 h1 h2 h4 h6 h7 h9 h10 h17 h18
        generalize slot t 11 = x11; generalize slot t 12 = x12; generalize slot t 13 = x13; generalize slot t 14 = x14; generalize slot t 15 = x15
        clear hsz t
        have KW1 := Lib.hid (KW.out.trans hk)
        clear hk KW
        by_cases he : F k = l
        · have hd2 : decide (l = F k) = true := decide_eq_true he.symm
          have HE : Hid (fstL F n l = (k : Int)) := Lib.hid (fstL_at F n l k hlt HN.out he)
          rw [hd2]
          clear he hd2 HN
          go_wp2
          go_ret
          exact ⟨ret_int HE.out.symm, K1.out.trans KW1.out⟩
        · have hd2 : decide (l = F k) = false := decide_eq_false (fun h => he h.symm)
          have HN2 : Hid (∀ i, i < k + 1 → F i ≠ l) := Lib.hid fun i hi => by
            by_cases e : i = k
            · subst e; exact he
            · exact HN.out i (by omega)
          rw [hd2]
          clear he hd2 HN
          go_wp2
          go_roundw
          case rel => exact ⟨k + 1, by omega, by go_num, HN2, KW1⟩
          case measure => simp [intOf]; omega
    · have hd : decide ((k : Int) < (n : Int)) = false := decide_eq_false (by omega)
      have hd' : decide (k < n) = false := decide_eq_false hlt
      have HE : Hid (fstL F n l = -1) := Lib.hid (fstL_none F n l fun i hi => HN.out i (by omega))
      go_wp2_with fail
      go_ret
      exact ⟨ret_int HE.out.symm, K1.out.trans KW.out⟩
set_option maxRecDepth 100000 in
set_option maxHeartbeats 1000000 in
theorem identFirst_any : IdentFirstC 13 := by
  intro n F v w l hv hn hl
  have hv1 : Hid (∀ w', Kept w w' → HSl n F v w') := Lib.hid fun w' k => HSl.kept _ _ _ _ _ k hv
  have R3 := Lib.hid (Rowz.new w (bC 32 l) 27)
  have K1 := Lib.hid ((Kept.refl w).alloc (.cells (bC 32 l) 27))
  have H1 : Hid (∀ w, HSl n F v w → _) := Lib.hid fun w h => slicesIndex_any n F v w l h hn hl
  generalize fstL F n l = r at H1 ⊢
  clear hv
  go_enter Tryd.func13, Tryd.ntmps13
  go_wp2_with (refine wpList_exec 6 rfl (by rfl) _ _ (load_h rfl rfl R3.out) ?_)
  generalize w.alloc (.cells (bC 32 l) 27) = v1 at R3 K1 ⊢
  refine (H1.out v1 (hv1.out _ K1.out)).mono ?_
  rintro e v2 ⟨rfl, k2⟩
  replace K1 := Lib.hid (K1.out.trans k2)
  clear k2
  go_wp2_with fail
  go_ret
  exact ⟨rfl, K1.out⟩
end Go.Proofs.YtncnlmjhejminaaDoor
