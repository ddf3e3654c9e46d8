/-
  Contracts of package sha: the method Sum of State, and Sum. Conditions: the message keeps within 2^47 - 4096 bytes; the variable 'rounds' holds the 64 constants.
-/
import Derived.Test.YtecfgjoomckleaaDoorShaWalkG
namespace Go.Proofs.YtecfgjoomckleaaDoor
set_option maxRecDepth 4000
open Go.RowKit

theorem run_slice_held (b h : Nat) (w : World) (hh : h < 64) :
    (Instr.sliceAt 66 (.pointer (some ⟨b, 8, none⟩)) none (some (.int .u64 (h : Int))) none).run Tryd.prog w = .ok (.slice (some ⟨b, 8, none⟩) h 64) w := by
  have ha : Tryd.prog.arrayLen 66 = 64 := by kernel_rfl
  have hs : (sizeOf (Tryd.prog.elem 66)).run Tryd.prog w = .ok 1 w := by kernel_rfl
  rw [run_sliceAt_array_h w 66 ⟨b, 8, none⟩ (by kernel_rfl) .u64 (h : Int) (by omega) (by rw [ha]; omega), hs]
  simp [Result.andThen, slicedAt, Addr.add_mid, ha]

theorem pend_str (b : Nat) (M p : ByteArray) (h0 : Nat) (hh : h0 = M.size % 64) (hp : p = M.extract (64 * (M.size / 64)) M.size) (w' : World) (h : StIs w' b M) :
    (convert 64 9 (.slice (some ⟨b, 8, none⟩) h0 64)).run Tryd.prog w' = .ok (.string p) w' := by
  obtain ⟨l, R, hr, _, _, hR, _, hpd⟩ := h
  have hpl : p.data.toList = R.take h0 := by
    rw [hp, ba_extract, List.take_of_length_le (by rw [ba_len]; exact Nat.le_refl _), hh, hpd]
  have hlen : (R.take h0).length = h0 := by rw [List.length_take]; omega
  have := run_strB w' b 8 64 (R.take h0) (fun j hj => by
    rw [hr.bytes j (by omega), List.getD_eq_getElem?_getD, List.getElem?_eq_getElem (by omega)]
    simp)
  rw [hlen] at this
  rw [this, ← hpl]

set_option maxRecDepth 100000 in
set_option maxHeartbeats 2000000 in
theorem stateSum_any (b : Nat) (M : ByteArray) (w : World) (hs : StIs w b M) (ht : Tab w) (hM : M.size ≤ 140737488351232) :
    Calls Tryd.prog 37 #[.pointer (some ⟨b, 0, none⟩)] w fun e w' => e = .returned (.agg (bC 32 (shaL M))) ∧ Grown w w' := by
  obtain ⟨h0, hh0⟩ : ∃ h, h = M.size % 64 := ⟨_, rfl⟩
  obtain ⟨p, hp⟩ : ∃ p, p = M.extract (64 * (M.size / 64)) M.size := ⟨_, rfl⟩
  have hh64 : h0 < 64 := by omega
  have hps : p.size = h0 := by rw [hp, ByteArray.size_extract]; omega
  have hrem : ((M.size : Int)).tmod 64 = (h0 : Int) := by rw [Int.tmod_eq_emod_of_nonneg (by omega)]; omega
  have hcvt := fun w' h => pend_str b M p h0 hh0 hp w' h
  have HSP := Lib.hid (shaL_split M p hp)
  have HC : Hid (∀ w', StIs w' b M → w'.cell? ⟨b, 72, none⟩ = some (.int .u64 (M.size : Int))) := Lib.hid (fun w' h => by
    obtain ⟨l, R, hr, _⟩ := h; exact hr.count)
  have hpd : (padS M.size).size ≤ 72 := by rw [padS_size]; have := zeros_le M.size; omega
  clear hh0 hp
  go_enter Tryd.func37, Tryd.ntmps37
  go_wp2_with fail
  change Code.wp _ _ _ _ (w.alloc (.cells (bC 32 []) 41))
  have A0 := Lib.hid (hs.grown ((Grown.refl w).alloc (bC 32 []) 41))
  have A1 := Lib.hid (Rowz.new w (bC 32 []) 41)
  have A3 := Lib.hid ((Grown.refl w).alloc (bC 32 []) 41)
  have A4 := Lib.hid (ht.alloc (.cells (bC 32 []) 41))
  clear hs ht
  generalize w.alloc (.cells (bC 32 []) 41) = v at A0 A1 A3 A4 ⊢
  have hS : StIs v.drew b M := A0.out
  refine wp_region_held_drew (S := fun w' => StIs w' b M) (by kernel_rfl) hS (fun _ => ?_)
  refine wpAnyH_take1 0 10 (.pointer (some ⟨b, 0, none⟩)) rfl rfl (by kernel_rfl) (by kernel_rfl) (by kernel_rfl) (fun _ _ _ h => h) hS (Or.inl ⟨by rfl, fun _ _ => by rfl⟩) ?_
  simp only [List.setIfInBounds_toArray, List.set_cons_zero, List.set_cons_succ]
  refine wpAnyH_take1 1 11 (.pointer (some ⟨b, 0, none⟩)) rfl rfl (by kernel_rfl) (by kernel_rfl) (by kernel_rfl) (fun _ _ _ h => h) hS (Or.inl ⟨by rfl, fun _ _ => by kernel_rfl⟩) ?_
  simp only [List.setIfInBounds_toArray, List.set_cons_zero, List.set_cons_succ]
  refine wpAnyH_take1 2 12 (.pointer (some ⟨b, 8, none⟩)) rfl rfl (by kernel_rfl) (by kernel_rfl) (by kernel_rfl) (fun _ _ _ h => h) hS (Or.inl ⟨by rfl, fun _ _ => by kernel_rfl⟩) ?_
  simp only [List.setIfInBounds_toArray, List.set_cons_zero, List.set_cons_succ]
  refine wpAnyH_take1 3 13 (.pointer (some ⟨b, 0, none⟩)) rfl rfl (by kernel_rfl) (by kernel_rfl) (by kernel_rfl) (fun _ _ _ h => h) hS (Or.inl ⟨by rfl, fun _ _ => by rfl⟩) ?_
  simp only [List.setIfInBounds_toArray, List.set_cons_zero, List.set_cons_succ]
  refine wpAnyH_take1 4 14 (.pointer (some ⟨b, 0, none⟩)) rfl rfl (by kernel_rfl) (by kernel_rfl) (by kernel_rfl) (fun _ _ _ h => h) hS (Or.inl ⟨by rfl, fun _ _ => by kernel_rfl⟩) ?_
  simp only [List.setIfInBounds_toArray, List.set_cons_zero, List.set_cons_succ]
  refine wpAnyH_take1 5 15 (.pointer (some ⟨b, 72, none⟩)) rfl rfl (by kernel_rfl) (by kernel_rfl) (by kernel_rfl) (fun _ _ _ h => h) hS (Or.inl ⟨by rfl, fun _ _ => by kernel_rfl⟩) ?_
  simp only [List.setIfInBounds_toArray, List.set_cons_zero, List.set_cons_succ]
  refine wpAnyH_take1 6 16 (.int .u64 (M.size : Int)) rfl rfl (by kernel_rfl) (by kernel_rfl) (by kernel_rfl) (fun _ _ _ h => h) hS (Or.inl ⟨by rfl, fun w' h => by have hc := HC.out w' h; go_simp⟩) ?_
  simp only [List.setIfInBounds_toArray, List.set_cons_zero, List.set_cons_succ]
  refine wpAnyH_take1 7 17 (.int .u64 (h0 : Int)) rfl rfl (by kernel_rfl) (by kernel_rfl) (by kernel_rfl) (fun _ _ _ h => h) hS (Or.inl ⟨by rfl, fun _ _ => by go_simp⟩) ?_
  simp only [List.setIfInBounds_toArray, List.set_cons_zero, List.set_cons_succ]
  refine wpAnyH_take1 8 18 (.slice (some ⟨b, 8, none⟩) h0 64) rfl rfl (by kernel_rfl) (by kernel_rfl) (by kernel_rfl) (fun _ _ _ h => h) hS (yieldsIf_slice rfl 66 _ _ _ _ rfl (.pointer (some ⟨b, 8, none⟩)) _ none (some (.int .u64 (h0 : Int))) none rfl rfl rfl rfl (fun w' _ => run_slice_held b h0 w' hh64)) ?_
  simp only [List.setIfInBounds_toArray, List.set_cons_zero, List.set_cons_succ]
  refine wpAnyH_take1 9 19 (.string p) rfl rfl (by kernel_rfl) (by kernel_rfl) (by kernel_rfl) (fun _ _ _ h => h) hS (yieldsIf_convert rfl 64 9 _ rfl (.slice (some ⟨b, 8, none⟩) h0 64) _ rfl (fun w' h => hcvt w' h)) ?_
  simp only [List.setIfInBounds_toArray, List.set_cons_zero, List.set_cons_succ]
  refine wpAnyH_take1 10 20 (.pointer (some ⟨b, 0, none⟩)) rfl rfl (by kernel_rfl) (by kernel_rfl) (by kernel_rfl) (fun _ _ _ h => h) hS (Or.inl ⟨by rfl, fun _ _ => by rfl⟩) ?_
  simp only [List.setIfInBounds_toArray, List.set_cons_zero, List.set_cons_succ]
  refine wpAnyH_take1 11 21 (.pointer (some ⟨b, 0, none⟩)) rfl rfl (by kernel_rfl) (by kernel_rfl) (by kernel_rfl) (fun _ _ _ h => h) hS (Or.inl ⟨by rfl, fun _ _ => by kernel_rfl⟩) ?_
  simp only [List.setIfInBounds_toArray, List.set_cons_zero, List.set_cons_succ]
  refine wpAnyH_take1 12 22 (.pointer (some ⟨b, 72, none⟩)) rfl rfl (by kernel_rfl) (by kernel_rfl) (by kernel_rfl) (fun _ _ _ h => h) hS (Or.inl ⟨by rfl, fun _ _ => by kernel_rfl⟩) ?_
  simp only [List.setIfInBounds_toArray, List.set_cons_zero, List.set_cons_succ]
  refine wpAnyH_take1 13 23 (.int .u64 (M.size : Int)) rfl rfl (by kernel_rfl) (by kernel_rfl) (by kernel_rfl) (fun _ _ _ h => h) hS (Or.inl ⟨by rfl, fun w' h => by have hc := HC.out w' h; go_simp⟩) ?_
  simp only [List.setIfInBounds_toArray, List.set_cons_zero, List.set_cons_succ]
  refine wpAnyH_ready (rs := [14]) (by kernel_rfl) (by simp) (AllReadyH.cons rfl (fun K hK => ?_) AllReadyH.nil)
  rw [if_pos (by rfl)]
  go_simp
  refine (shaPad_any M.size _ (by omega)).mono ?_
  rintro e v1 ⟨rfl, hg1⟩
  have B0 : Hid (StIs v1 b M) := Lib.hid (StIs.grown (w := v.drew) A0.out hg1)
  have B1 : Hid (Rowz v1 w.heap.size (bC 32 []) 41) := Lib.hid (Rowz.grown (w := v.drew) A1.out hg1)
  have B3 : Hid (Grown w v1) := Lib.hid (Grown.trans (b := v.drew) A3.out hg1)
  have B4 : Hid (Tab v1) := Lib.hid (Tab.grown (w := v.drew) A4.out hg1)
  refine hK.out _ _ B0.out (fun _ => ?_)
  clear hK K hg1 A0 A1 A3 A4 hS hcvt
  have hadd : ¬ 9223372036854775807 < h0 + (padS M.size).size := by omega
  refine wpAnyH_ready (rs := [15]) (by kernel_rfl) (by simp) (AllReadyH.cons rfl (fun K hK => ?_) AllReadyH.nil)
  rw [if_pos (by rfl)]
  go_simp
  refine hK.out _ _ B0.out (fun _ => ?_)
  clear hK K hadd
  refine wpAnyH_ready (rs := [16]) (by kernel_rfl) (by simp) (AllReadyH.cons rfl (fun K hK => ?_) AllReadyH.nil)
  rw [if_pos (by rfl)]
  go_simp
  refine hK.out _ _ B0.out (fun _ => ?_)
  clear hK K
  refine wpAnyH_done (by kernel_rfl) ?_ _
  obtain ⟨t, ht⟩ : ∃ t, t = p ++ padS M.size := ⟨_, rfl⟩
  have hts : t.size ≤ maxLen := by rw [ht, ByteArray.size_append]; unfold maxLen; omega
  rw [← ht] at HSP ⊢
  have HTS := Lib.hid hts
  clear ht hts hps hpd hrem
  obtain ⟨X, hX⟩ : ∃ X, X = mixN (mixN first8 M (M.size / 64)) t (t.size / 64) := ⟨_, rfl⟩
  have hXl : X.length = 8 := by rw [hX]; exact mixN_length _ _ (mixN_length _ _ rfl _) _
  have hXt : ∀ x ∈ X, x < 4294967296 := by rw [hX]; exact mixN_lt _ _ (mixN_lt _ _ (by decide) _) _
  have HXL := Lib.hid hXl
  have HXT := Lib.hid hXt
  have HX := Lib.hid hX
  rw [← hX] at HSP
  clear hX hXl hXt
  go_wp2_with fail
  refine (words_any b M v1 B0.out).mono ?_
  rintro e v2 ⟨rfl, hg1⟩
  have C1 := Lib.hid (B1.out.grown hg1)
  have C3 := Lib.hid (Grown.trans B3.out hg1)
  have C4 := Lib.hid (B4.out.grown hg1)
  clear hg1 B0 B1 B3 B4
  go_wp2_with fail
  refine (mixAll_any (mixN first8 M (M.size / 64)) t v2 HTS.out (mixN_length _ _ rfl _) (mixN_lt _ _ (by decide) _) C4.out).mono ?_
  rintro e v3 ⟨rfl, hg1⟩
  rw [← HX.out]
  have D1 := Lib.hid (C1.out.grown hg1)
  have D3 := Lib.hid (Grown.trans C3.out hg1)
  clear hg1 C1 C3 C4
  go_wp2_with (first
    | (refine wpList_store_row rfl 65 _ _ rfl v3.heap.size (wC 8 X) rfl rfl 65 _ (Rowz.new v3 _ _) (info8W _) (by rw [wC_size]; rfl) (wC_one _ _) ?_; rw [World.setRow_alloc_new])
    | (refine wpList_load_row rfl 65 _ rfl v3.heap.size rfl 65 (wC 8 X) (0, 0) _ (Rowz.new v3 _ _) Tryd.underlying65 rfl (info8W _) ?_))
  refine (bytesOf_any X _ HXL.out HXT.out).mono ?_
  rintro e v4 ⟨rfl, hg1⟩
  rw [← HSP.out]
  have E1 := Lib.hid ((D1.out.alloc (.cells (wC 8 X) 65)).grown hg1)
  have E3 := Lib.hid (Grown.trans (D3.out.alloc (wC 8 X) 65) hg1)
  go_wp2_with (refine wpList_store_row rfl 41 _ _ rfl w.heap.size (bC 32 (shaL M)) rfl rfl 41 (bC 32 []) E1.out (info32 _) (by simp [bC_size]) (bC_one _ _) ?_)
  refine bodyPost_ret (v := .agg (bC 32 (shaL M))) (results_cell_row Tryd.results37 _ _ w.heap.size 41 _ (0, 0) _ rfl E1.out.row Tryd.underlying41 rfl (info32 _)) rfl ⟨rfl, ?_⟩
  exact Grown.setRow E3.out E1.out (Nat.le_refl _) _

set_option maxRecDepth 100000 in
set_option maxHeartbeats 1000000 in
theorem stateSum_nil (w : World) (ht : Tab w) :
    Calls Tryd.prog 37 #[.pointer none] w fun e w' => e = .returned (.agg (bC 32 (shaL ⟨#[]⟩))) ∧ Grown w w' := by
  go_enter Tryd.func37, Tryd.ntmps37
  go_wp2_with fail
  change Calls _ _ _ (w.alloc (.cells (bC 32 []) 41)) _
  have A1 := Lib.hid (Rowz.new w (bC 32 []) 41)
  have A3 := Lib.hid ((Grown.refl w).alloc (bC 32 []) 41)
  have A4 := Lib.hid (ht.alloc (.cells (bC 32 []) 41))
  clear ht
  generalize w.alloc (.cells (bC 32 []) 41) = v at A1 A3 A4 ⊢
  refine (shaNew_any v).mono ?_
  rintro e v1 ⟨rfl, hst, hg1⟩
  go_wp2_with fail
  refine (stateSum_any v.heap.size ⟨#[]⟩ v1 hst (A4.out.grown hg1) (by decide)).mono ?_
  rintro e v2 ⟨rfl, hg2⟩
  have E1 := Lib.hid ((A1.out.grown hg1).grown hg2)
  have E3 := Lib.hid (Grown.trans (Grown.trans A3.out hg1) hg2)
  go_wp2_with (refine wpList_store_row rfl 41 _ _ rfl w.heap.size (bC 32 (shaL ⟨#[]⟩)) rfl rfl 41 (bC 32 []) E1.out (info32 _) (by simp [bC_size]) (bC_one _ _) ?_)
  refine bodyPost_ret (v := .agg (bC 32 (shaL ⟨#[]⟩))) (results_cell_row Tryd.results37 _ _ w.heap.size 41 _ (0, 0) _ rfl E1.out.row Tryd.underlying41 rfl (info32 _)) rfl ⟨rfl, ?_⟩
  exact Grown.setRow E3.out E1.out (Nat.le_refl _) _

theorem ba_nil_append (s : ByteArray) : (⟨#[]⟩ : ByteArray) ++ s = s := by
  apply ba_ext; rw [ba_append]; rfl

set_option maxRecDepth 100000 in
set_option maxHeartbeats 1000000 in
theorem shaSum_any (s : ByteArray) (w : World) (ht : Tab w) (hs : s.size ≤ 140737488351232) :
    Calls Tryd.prog 29 #[.string s] w fun e w' => e = .returned (.agg (bC 32 (shaL s))) ∧ Grown w w' := by
  have hpos := ht.pos
  have e0 : (⟨#[]⟩ : ByteArray).size = 0 := rfl
  go_enter Tryd.func29, Tryd.ntmps29
  go_wp2_with fail
  change Calls _ _ _ (w.alloc (.cells (bC 32 []) 41)) _
  have A1 := Lib.hid (Rowz.new w (bC 32 []) 41)
  have A3 := Lib.hid ((Grown.refl w).alloc (bC 32 []) 41)
  have A4 := Lib.hid (ht.alloc (.cells (bC 32 []) 41))
  have hvs : (w.alloc (.cells (bC 32 []) 41)).heap.size = w.heap.size + 1 := by simp
  clear ht
  generalize w.alloc (.cells (bC 32 []) 41) = v at A1 A3 A4 hvs ⊢
  refine (shaNew_any v).mono ?_
  rintro e v1 ⟨rfl, hst, hg1⟩
  rw [hvs] at hst
  have B1 := Lib.hid (A1.out.grown hg1)
  have B4 := Lib.hid (A4.out.grown hg1)
  have B3 := Lib.hid (Grown.trans A3.out hg1)
  go_wp2_with fail
  refine (shaWrite_any (w.heap.size + 1) ⟨#[]⟩ s v1 hst B4.out (by omega) (by rw [e0]; omega)).mono ?_
  rintro e v2 ⟨rfl, hst2, hon⟩
  rw [ba_nil_append] at hst2
  have C1 := Lib.hid (B1.out.only hon (by omega))
  have C4 := Lib.hid (B4.out.only hon (by omega))
  have C3 := Lib.hid (hon.1 w B3.out (by omega))
  go_wp2_with fail
  refine (stateSum_any (w.heap.size + 1) s v2 hst2 C4.out hs).mono ?_
  rintro e v3 ⟨rfl, hg2⟩
  have E1 := Lib.hid (C1.out.grown hg2)
  have E3 := Lib.hid (Grown.trans C3.out hg2)
  go_wp2_with (refine wpList_store_row rfl 41 _ _ rfl w.heap.size (bC 32 (shaL s)) rfl rfl 41 (bC 32 []) E1.out (info32 _) (by simp [bC_size]) (bC_one _ _) ?_)
  refine bodyPost_ret (v := .agg (bC 32 (shaL s))) (results_cell_row Tryd.results29 _ _ w.heap.size 41 _ (0, 0) _ rfl E1.out.row Tryd.underlying41 rfl (info32 _)) rfl ⟨rfl, ?_⟩
  exact Grown.setRow E3.out E1.out (Nat.le_refl _) _
end Go.Proofs.YtecfgjoomckleaaDoor
