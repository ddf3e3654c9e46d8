/-
  Contract of package sha: the method Write of State. Conditions: the message keeps within 2^47 - 4096 bytes; the variable 'rounds' holds the 64 constants.
-/
import Derived.Test.YtecfgjoomckleaaDoorShaMathB
namespace Go.Proofs.YtecfgjoomckleaaDoor
set_option maxRecDepth 4000
open Go.RowKit

theorem Tab.only {w w' : World} {b : Nat} (h : Tab w) (k : Only b w w') (hb : 0 ≠ b) : Tab w' := by
  intro i hi
  rw [← h i hi]
  simp only [World.cell?]
  rw [k.2.1 0 h.pos hb]

theorem run_slice_rest (b h : Nat) (w : World) (hh : h < 64) :
    (Instr.sliceAt 66 (.pointer (some ⟨b, 8, none⟩)) (some (.int .i64 (h : Int))) none none).run Tryd.prog w = .ok (.slice (some ⟨b, 8 + h, none⟩) (64 - h) (64 - h)) w := by
  have ha : Tryd.prog.arrayLen 66 = 64 := by kernel_rfl
  have hs : (sizeOf (Tryd.prog.elem 66)).run Tryd.prog w = .ok 1 w := by kernel_rfl
  rw [run_sliceAt_array_l w 66 ⟨b, 8, none⟩ (by kernel_rfl) .i64 (h : Int) (by omega) (by rw [ha]; omega), hs]
  simp [Result.andThen, slicedAt, Addr.add_mid, ha]
  omega

theorem run_slice_whole (b : Nat) (w : World) :
    (Instr.sliceAt 66 (.pointer (some ⟨b, 8, none⟩)) none none none).run Tryd.prog w = .ok (.slice (some ⟨b, 8, none⟩) 64 64) w := by kernel_rfl
theorem Only.newRow {b g : Nat} {u v : World} {C : Array Value} {T : TypeId} (h : Only b u v) (hr : Rowz v g C T) (hg : u.heap.size ≤ g) (D : Array Value) : Only b u (v.setRow g D) := by
  refine ⟨fun w0 g0 hb => Grown.setRow (h.1 w0 g0 hb) hr (Nat.le_trans g0.2.2 hg) D, fun i hi hn => ?_, by simpa using h.2.2⟩
  rw [setRow_other v g i D (by omega)]
  exact h.2.1 i hi hn

set_option maxRecDepth 100000 in
set_option maxHeartbeats 4000000 in
theorem shaWrite_any (b : Nat) (M s : ByteArray) (w : World) (hs : StIs w b M) (ht : Tab w) (hb0 : 0 ≠ b) (hsz : M.size + s.size ≤ 140737488351232) :
    Calls Tryd.prog 36 #[.pointer (some ⟨b, 0, none⟩), .string s] w fun e w' => e = .returned (.tuple #[]) ∧ StIs w' b (M ++ s) ∧ Only b w w' := by
  have hbl := hs.lt
  have hpos := ht.pos
  obtain ⟨q, hq⟩ : ∃ q, q = M.size / 64 := ⟨_, rfl⟩
  obtain ⟨h0, hh0⟩ : ∃ h, h = M.size % 64 := ⟨_, rfl⟩
  have hh64 : h0 < 64 := by omega
  have hrem : ((M.size : Int)).tmod 64 = (h0 : Int) := by rw [Int.tmod_eq_emod_of_nonneg (by omega)]; omega
  have hwr : IntKind.i64.wrap (h0 : Int) = (h0 : Int) := IntWalk.i64_in _ (by omega)
  have HQ := Lib.hid hq
  have HH := Lib.hid hh0
  clear hq hh0
  have hcnt : ∀ w', StIs w' b M → w'.cell? ⟨b, 72, none⟩ = some (.int .u64 (M.size : Int)) := fun w' h => by
    obtain ⟨l, R, hr, _⟩ := h; exact hr.count
  have HC := Lib.hid hcnt
  clear hcnt
  have A0 := Lib.hid hs
  have A4 := Lib.hid ht
  clear hs ht
  go_enter Tryd.func36, Tryd.ntmps36
  go_wp2_with fail
  go_cut [4, 5] from 7 to 16 (fun s4 s5 wx => ∃ g, s4 = .pointer (some ⟨g, 0, none⟩) ∧ s5 = .int .i64 (h0 : Int) ∧ w.heap.size ≤ g ∧ Hid (Rowz wx g (wC 8 (mixN first8 M q)) 65) ∧ Hid (StIs wx b M) ∧ Hid (Grown w wx) ∧ Hid (Tab wx))
  case first =>
    refine wp_region_held_drew (S := fun w' => StIs w' b M) (by kernel_rfl) A0.out (fun _ => ?_)
    refine wpAnyH_take (i := 0) (v := .pointer (some ⟨b, 0, none⟩)) rfl (by kernel_rfl) (by kernel_rfl) (by kernel_rfl) (fun _ _ _ h => h) (Or.inl ⟨by rfl, fun _ _ => by rfl⟩) A0.out ?_
    refine wpAnyH_take (i := 2) (v := .pointer (some ⟨b, 0, none⟩)) rfl (by kernel_rfl) (by kernel_rfl) (by kernel_rfl) (fun _ _ _ h => h) (Or.inl ⟨by rfl, fun _ _ => by rfl⟩) A0.out ?_
    refine wpAnyH_take (i := 3) (v := .pointer (some ⟨b, 0, none⟩)) rfl (by kernel_rfl) (by kernel_rfl) (by kernel_rfl) (fun _ _ _ h => h) (Or.inl ⟨by rfl, fun _ _ => by go_simp⟩) A0.out ?_
    refine wpAnyH_take (i := 4) (v := .pointer (some ⟨b, 72, none⟩)) rfl (by kernel_rfl) (by kernel_rfl) (by kernel_rfl) (fun _ _ _ h => h) (Or.inl ⟨by rfl, fun _ _ => by go_simp⟩) A0.out ?_
    refine wpAnyH_take (i := 5) (v := .int .u64 (M.size : Int)) rfl (by kernel_rfl) (by kernel_rfl) (by kernel_rfl) (fun _ _ _ h => h) (Or.inl ⟨by rfl, fun w' h' => by have hc := HC.out w' h'; go_simp⟩) A0.out ?_
    refine wpAnyH_take (i := 6) (v := .int .u64 (h0 : Int)) rfl (by kernel_rfl) (by kernel_rfl) (by kernel_rfl) (fun _ _ _ h => h) (Or.inl ⟨by rfl, fun _ _ => by go_simp⟩) A0.out ?_
    refine wpAnyH_take (i := 7) (v := .int .i64 (h0 : Int)) rfl (by kernel_rfl) (by kernel_rfl) (by kernel_rfl) (fun _ _ _ h => h) (Or.inl ⟨by rfl, fun _ _ => by go_simp⟩) A0.out ?_
    refine wpAnyH_ready (rs := [1, 8]) (by kernel_rfl) (by simp) (AllReadyH.cons rfl (fun K hK => ?_) (AllReadyH.cons rfl (fun K hK => ?_) AllReadyH.nil))
    · rw [if_pos (by rfl)]
      go_simp
      refine (words_any b M w.drew A0.out).mono ?_
      rintro e v1 ⟨rfl, hg⟩
      rw [← HQ.out]
      have B0 : Hid (StIs v1 b M) := Lib.hid (StIs.grown (w := w.drew) A0.out hg)
      have B3 : Hid (Grown w v1) := Lib.hid hg
      have B4 : Hid (Tab v1) := Lib.hid (Tab.grown (w := w.drew) A4.out hg)
      have hz1 : w.heap.size ≤ v1.heap.size := hg.2.2
      refine hK.out _ _ B0.out (fun _ => ?_)
      clear hK K
      refine wpAnyH_ready (rs := [8]) (by kernel_rfl) (by simp) (AllReadyH.cons rfl (fun K hK => ?_) AllReadyH.nil)
      rw [if_pos (by rfl)]
      go_simp
      have C0 : Hid (StIs (v1.alloc (.cells #[.int .u32 0, .int .u32 0, .int .u32 0, .int .u32 0, .int .u32 0, .int .u32 0, .int .u32 0, .int .u32 0] 65)) b M) := Lib.hid (B0.out.grown ((Grown.refl _).alloc _ _))
      have C3 : Hid (Grown w (v1.alloc (.cells #[.int .u32 0, .int .u32 0, .int .u32 0, .int .u32 0, .int .u32 0, .int .u32 0, .int .u32 0, .int .u32 0] 65))) := Lib.hid (B3.out.alloc _ _)
      have C4 : Hid (Tab (v1.alloc (.cells #[.int .u32 0, .int .u32 0, .int .u32 0, .int .u32 0, .int .u32 0, .int .u32 0, .int .u32 0, .int .u32 0] 65))) := Lib.hid (B4.out.alloc _)
      have C5 : Hid (Rowz (v1.alloc (.cells #[.int .u32 0, .int .u32 0, .int .u32 0, .int .u32 0, .int .u32 0, .int .u32 0, .int .u32 0, .int .u32 0] 65)) v1.heap.size (wC 8 []) 65) := Lib.hid (Rowz.newEq v1 _ _ _ (by kernel_rfl))
      refine hK.out _ _ C0.out (fun _ => ?_)
      clear hK K
      generalize v1.alloc (.cells #[.int .u32 0, .int .u32 0, .int .u32 0, .int .u32 0, .int .u32 0, .int .u32 0, .int .u32 0, .int .u32 0] 65) = v2 at C0 C3 C4 C5 ⊢
      refine wpAnyH_ready (rs := [9]) (by kernel_rfl) (by simp) (AllReadyH.cons rfl (fun K hK => ?_) AllReadyH.nil)
      rw [if_pos (by rfl)]
      refine wp_store_row 65 _ _ rfl v1.heap.size (wC 8 (mixN first8 M q)) rfl rfl 65 (wC 8 []) C5.out (info8W _) (by simp [wC_size]) (wC_one _ _) ?_
      have D0 := Lib.hid (StIs.only C0.out (Only.ofRow C5.out (wC 8 (mixN first8 M q))) (by omega))
      have D3 := Lib.hid (Grown.setRow C3.out C5.out (by omega) (wC 8 (mixN first8 M q)))
      have D4 := Lib.hid (C4.out.setRow v1.heap.size (wC 8 (mixN first8 M q)) (by omega))
      have D5 := Lib.hid (Rowz.row (D := wC 8 (mixN first8 M q)) C5.out)
      refine hK.out _ _ D0.out (fun _ => ?_)
      clear hK K
      refine wpAnyH_ready (rs := [10]) (by kernel_rfl) (by simp) (AllReadyH.cons rfl (fun K hK => ?_) AllReadyH.nil)
      rw [if_pos (by rfl)]
      go_simp
      refine hK.out _ _ D0.out (fun _ => ?_)
      clear hK K
      refine wpAnyH_done (by kernel_rfl) ?_ _
      go_wp2_with fail
      go_meet
      case rel => exact ⟨v1.heap.size, rfl, rfl, by omega, D5, D0, D3, D4⟩
    · rw [if_pos (by rfl)]
      go_simp
      have B3 : Hid (Grown w (w.alloc (.cells #[.int .u32 0, .int .u32 0, .int .u32 0, .int .u32 0, .int .u32 0, .int .u32 0, .int .u32 0, .int .u32 0] 65)).drew) := Lib.hid (by apply Grown.drew; exact (Grown.refl w).alloc _ _)
      have B0 : Hid (StIs (w.alloc (.cells #[.int .u32 0, .int .u32 0, .int .u32 0, .int .u32 0, .int .u32 0, .int .u32 0, .int .u32 0, .int .u32 0] 65)).drew b M) := Lib.hid (StIs.grown A0.out B3.out)
      have B4 : Hid (Tab (w.alloc (.cells #[.int .u32 0, .int .u32 0, .int .u32 0, .int .u32 0, .int .u32 0, .int .u32 0, .int .u32 0, .int .u32 0] 65)).drew) := Lib.hid (Tab.grown A4.out B3.out)
      have B5 : Hid (Rowz (w.alloc (.cells #[.int .u32 0, .int .u32 0, .int .u32 0, .int .u32 0, .int .u32 0, .int .u32 0, .int .u32 0, .int .u32 0] 65)).drew w.heap.size (wC 8 []) 65) := Lib.hid (Rowz.newEq w _ _ _ (by kernel_rfl))
      refine hK.out _ _ B0.out (fun _ => ?_)
      clear hK K
      generalize (w.alloc (.cells #[.int .u32 0, .int .u32 0, .int .u32 0, .int .u32 0, .int .u32 0, .int .u32 0, .int .u32 0, .int .u32 0] 65)).drew = v1 at B0 B3 B4 B5 ⊢
      refine wpAnyH_ready (rs := [1]) (by kernel_rfl) (by simp) (AllReadyH.cons rfl (fun K hK => ?_) AllReadyH.nil)
      rw [if_pos (by rfl)]
      go_simp
      refine (words_any b M _ B0.out).mono ?_
      rintro e v2 ⟨rfl, hg⟩
      rw [← HQ.out]
      have C0 : Hid (StIs v2 b M) := Lib.hid (B0.out.grown hg)
      have C3 : Hid (Grown w v2) := Lib.hid (Grown.trans B3.out hg)
      have C4 : Hid (Tab v2) := Lib.hid (B4.out.grown hg)
      have C5 : Hid (Rowz v2 w.heap.size (wC 8 []) 65) := Lib.hid (B5.out.grown hg)
      clear hg
      refine hK.out _ _ C0.out (fun _ => ?_)
      clear hK K
      refine wpAnyH_ready (rs := [9]) (by kernel_rfl) (by simp) (AllReadyH.cons rfl (fun K hK => ?_) AllReadyH.nil)
      rw [if_pos (by rfl)]
      refine wp_store_row 65 _ _ rfl w.heap.size (wC 8 (mixN first8 M q)) rfl rfl 65 (wC 8 []) C5.out (info8W _) (by simp [wC_size]) (wC_one _ _) ?_
      have D0 := Lib.hid (StIs.only C0.out (Only.ofRow C5.out (wC 8 (mixN first8 M q))) (by omega))
      have D3 := Lib.hid (Grown.setRow C3.out C5.out (by omega) (wC 8 (mixN first8 M q)))
      have D4 := Lib.hid (C4.out.setRow w.heap.size (wC 8 (mixN first8 M q)) (by omega))
      have D5 := Lib.hid (Rowz.row (D := wC 8 (mixN first8 M q)) C5.out)
      refine hK.out _ _ D0.out (fun _ => ?_)
      clear hK K
      refine wpAnyH_ready (rs := [10]) (by kernel_rfl) (by simp) (AllReadyH.cons rfl (fun K hK => ?_) AllReadyH.nil)
      rw [if_pos (by rfl)]
      go_simp
      refine hK.out _ _ D0.out (fun _ => ?_)
      clear hK K
      refine wpAnyH_done (by kernel_rfl) ?_ _
      go_wp2_with fail
      go_meet
      case rel => exact ⟨w.heap.size, rfl, rfl, by omega, D5, D0, D3, D4⟩
  case rest =>
    clear A0 A4
    obtain ⟨g, rfl, rfl, hg, R4, ST, G0, T0⟩ := hcut
    obtain ⟨l, R, hr, hl, hlt, hR, hm, hp⟩ := ST.out
    clear ST
    have hgb : g ≠ b := by omega
    have hc := hr.count
    have hf := hr.free 72
    obtain ⟨c, hcc⟩ : ∃ c, c = (M ++ s).size := ⟨_, rfl⟩
    have hcv : c = M.size + s.size := by rw [hcc, ByteArray.size_append]
    have hw1 : IntKind.u64.wrap (s.size : Int) = (s.size : Int) := by rw [IntKind.wrap_u64]; omega
    have hw2 : IntKind.u64.wrap ((M.size : Int) + (s.size : Int)) = (c : Int) := by rw [IntKind.wrap_u64]; omega
    have hsl := fun w' => run_slice_rest b h0 w' (by omega)
    have hrow : Hid (Rowz (wc.setCell ⟨b, 72, none⟩ (.int .u64 (c : Int))) b (stC l R c) 68) := Lib.hid (by
      rw [← stC_count l R M.size c]; exact hr.set 72 _)
    have V4 := Lib.hid (R4.out.other ⟨b, 72, none⟩ (.int .u64 (c : Int)) (by simpa using hgb))
    have V3 := Lib.hid (Only.trans (Only.ofGrown b G0.out) (Only.ofCell wc 72 (.int .u64 (c : Int))))
    have VT := Lib.hid (T0.out.setCell ⟨b, 72, none⟩ (.int .u64 (c : Int)) hb0)
    have HL := Lib.hid hl
    have HLT := Lib.hid hlt
    have HR := Lib.hid hR
    have HM := Lib.hid hm
    have HP := Lib.hid hp
    have HCC := Lib.hid hcc
    clear hl hlt hR hm hp R4 G0 T0 hr hcc hcv
    by_cases hless : h0 + s.size < 64
    · obtain ⟨n, hn⟩ : ∃ n, n = s.size := ⟨_, rfl⟩
      have HN := Lib.hid hn
      have HNM : Hid (n = min s.size (64 - h0)) := Lib.hid (by omega)
      have hn64 : h0 + n < 64 := by omega
      have hd : decide ((h0 : Int) + (n : Int) < 64) = true := by simp; omega
      have hfit : 8 + h0 + n ≤ (stC l R c).size := by rw [stC_size]; omega
      clear hn
      go_wp2_with (refine wpList_copy_str rfl (.tmp 31) (.tmp 32) 64 9 rfl 5 Tryd.underlying64 sizeU8 b (8 + h0) (64 - h0) (64 - h0) rfl s rfl (stC l R c) 68 hrow.out n HNM.out hfit ?_)
      refine bodyPost_ret (v := .tuple #[]) (results_none Tryd.results36 _ _ _) rfl ⟨rfl, ?_, Only.trans V3.out (Only.ofRow hrow.out _)⟩
      have e1 : s.data.toList.take n = s.data.toList := List.take_of_length_le (by rw [ba_len, HN.out]; exact Nat.le_refl _)
      have hw := write_less M s l R HR.out HM.out HP.out (by rw [← HH.out]; exact hless)
      rw [e1, stC_bytes l R s.data.toList c h0 HR.out (by rw [ba_len]; omega)]
      rw [← HH.out] at hw
      refine ⟨l, _, ?_, HL.out, HLT.out, ?_, hw.1, hw.2⟩
      · rw [← HCC.out]; exact hrow.out.row
      · rw [List.length_append, List.length_append, List.length_take, List.length_drop, ba_len, HR.out]; omega
    · obtain ⟨n, hn⟩ : ∃ n, n = 64 - h0 := ⟨_, rfl⟩
      have HNM : Hid (n = min s.size (64 - h0)) := Lib.hid (by omega)
      have hd : decide ((h0 : Int) + (n : Int) < 64) = false := by simp; omega
      have hfit : 8 + h0 + n ≤ (stC l R c).size := by rw [stC_size]; omega
      have hns : n ≤ s.size := by omega
      have hn64 : h0 + n = 64 := by omega
      have hnI : (n : Int) ≤ (s.size : Int) := by omega
      clear hn
      go_wp2_with (refine wpList_copy_str rfl (.tmp 31) (.tmp 32) 64 9 rfl 5 Tryd.underlying64 sizeU8 b (8 + h0) (64 - h0) (64 - h0) rfl s rfl (stC l R c) 68 hrow.out n HNM.out hfit ?_)
      obtain ⟨R2, hR2⟩ : ∃ R2, R2 = R.take h0 ++ s.data.toList.take n ++ R.drop (h0 + (s.data.toList.take n).length) := ⟨_, rfl⟩
      have hl2 : (s.data.toList.take n).length = n := by rw [List.length_take, ba_len]; omega
      have eR : spl (stC l R c) (8 + h0) (Lib.byteCells (s.data.toList.take n)) = stC l R2 c := by
        rw [stC_bytes l R _ c h0 HR.out (by omega), hR2]
      rw [eR]
      have LR2 : R2.length = 64 := by rw [hR2, List.length_append, List.length_append, List.length_take, List.length_drop, hl2, HR.out]; omega
      have HB : Hid (mixW (mixN first8 M q) ⟨R2.toArray⟩ = mixN first8 (M ++ s) (q + 1)) := Lib.hid (by
        rw [hR2, HQ.out, HH.out]; exact write_block M s R HR.out HP.out n (by rw [← HH.out]; exact hn64) hns)
      clear hR2 hl2 eR
      have W5 := Lib.hid (hrow.out.row (D := stC l R2 c))
      have W4 := Lib.hid (V4.out.rowOther (D := stC l R2 c) (k := b) hgb)
      have W3 := Lib.hid (Only.trans V3.out (Only.ofRow hrow.out (stC l R2 c)))
      have WT := Lib.hid (VT.out.setRow b (stC l R2 c) hb0)
      generalize (wc.setCell ⟨b, 72, none⟩ (.int .u64 (c : Int))).setRow b (stC l R2 c) = v at W5 W4 W3 WT ⊢
      clear V4 V3 VT hrow hsl hc hf hw1 hw2 hd hfit
      have hcvt : ∀ w', Rowz w' b (stC l R2 c) 68 → (convert 64 9 (.slice (some ⟨b, 8, none⟩) 64 64)).run Tryd.prog w' = .ok (.string ⟨R2.toArray⟩) w' := by
        intro w' h
        have := run_strB w' b 8 64 R2 (fun j hj => by
          rw [h.bytes j (by omega), List.getD_eq_getElem?_getD, List.getElem?_eq_getElem hj]; rfl)
        rw [LR2] at this
        exact this
      have hS : Rowz v.drew b (stC l R2 c) 68 := W5.out
      refine wp_region_held_drew (S := fun w' => Rowz w' b (stC l R2 c) 68) (by kernel_rfl) hS (fun _ => ?_)
      refine wpAnyH_take1 1 40 (.pointer (some ⟨b, 0, none⟩)) rfl rfl (by kernel_rfl) (by kernel_rfl) (by kernel_rfl) (fun _ _ _ h => h) hS (Or.inl ⟨by rfl, fun _ _ => by rfl⟩) ?_
      simp only [List.setIfInBounds_toArray, List.set_cons_zero, List.set_cons_succ]
      refine wpAnyH_take1 2 41 (.pointer (some ⟨b, 0, none⟩)) rfl rfl (by kernel_rfl) (by kernel_rfl) (by kernel_rfl) (fun _ _ _ h => h) hS (Or.inl ⟨by rfl, fun _ _ => by kernel_rfl⟩) ?_
      simp only [List.setIfInBounds_toArray, List.set_cons_zero, List.set_cons_succ]
      refine wpAnyH_take1 3 42 (.pointer (some ⟨b, 8, none⟩)) rfl rfl (by kernel_rfl) (by kernel_rfl) (by kernel_rfl) (fun _ _ _ h => h) hS (Or.inl ⟨by rfl, fun _ _ => by kernel_rfl⟩) ?_
      simp only [List.setIfInBounds_toArray, List.set_cons_zero, List.set_cons_succ]
      refine wpAnyH_take1 4 43 (.slice (some ⟨b, 8, none⟩) 64 64) rfl rfl (by kernel_rfl) (by kernel_rfl) (by kernel_rfl) (fun _ _ _ h => h) hS (Or.inl ⟨by rfl, fun _ _ => by kernel_rfl⟩) ?_
      simp only [List.setIfInBounds_toArray, List.set_cons_zero, List.set_cons_succ]
      refine wpAnyH_take1 5 44 (.string ⟨R2.toArray⟩) rfl rfl (by kernel_rfl) (by kernel_rfl) (by kernel_rfl) (fun _ _ _ h => h) hS (yieldsIf_convert rfl 64 9 _ rfl (.slice (some ⟨b, 8, none⟩) 64 64) _ rfl (fun w' h => hcvt w' h)) ?_
      simp only [List.setIfInBounds_toArray, List.set_cons_zero, List.set_cons_succ]
      refine wpAnyH_take1 7 46 (.string s) rfl rfl (by kernel_rfl) (by kernel_rfl) (by kernel_rfl) (fun _ _ _ h => h) hS (Or.inl ⟨by rfl, fun _ _ => by rfl⟩) ?_
      simp only [List.setIfInBounds_toArray, List.set_cons_zero, List.set_cons_succ]
      refine wpAnyH_take1 8 47 (.int .i64 (n : Int)) rfl rfl (by kernel_rfl) (by kernel_rfl) (by kernel_rfl) (fun _ _ _ h => h) hS (Or.inl ⟨by rfl, fun _ _ => by rfl⟩) ?_
      simp only [List.setIfInBounds_toArray, List.set_cons_zero, List.set_cons_succ]
      refine wpAnyH_take1 9 48 (.string (s.extract n s.size)) rfl rfl (by kernel_rfl) (by kernel_rfl) (by kernel_rfl) (fun _ _ _ h => h) hS (yieldsIf_slice rfl 9 _ _ _ _ rfl (.string s) _ (some (.int .i64 (n : Int))) none none rfl rfl rfl rfl (fun w' _ => run_slice_tail s n w' hns)) ?_
      simp only [List.setIfInBounds_toArray, List.set_cons_zero, List.set_cons_succ]
      refine wpAnyH_ready (rs := [0]) (by kernel_rfl) (by simp) (AllReadyH.cons rfl (fun K hK => ?_) AllReadyH.nil)
      rw [if_pos (by rfl)]
      refine wp_load_row 65 _ rfl g rfl 65 (wC 8 (mixN first8 M q)) (0, 0) _ W4.out Tryd.underlying65 rfl (info8W _) ?_
      refine hK.out _ _ hS (fun _ => ?_)
      clear hK K
      refine wpAnyH_ready (rs := [6]) (by kernel_rfl) (by simp) (AllReadyH.cons rfl (fun K hK => ?_) AllReadyH.nil)
      rw [if_pos (by rfl)]
      go_simp
      have hr2 : (⟨R2.toArray⟩ : ByteArray).size = 64 := by rw [← ba_len]; simpa using LR2
      refine (shaMix_any (mixN first8 M q) ⟨R2.toArray⟩ v.drew (by rw [hr2]; decide) (mixN_length _ _ rfl _) (mixN_lt _ _ (by decide) _) WT.out).mono ?_
      rintro e v1 ⟨rfl, hg1⟩
      rw [HB.out]
      have X5 : Hid (Rowz v1 b (stC l R2 c) 68) := Lib.hid (Rowz.grown (w := v.drew) W5.out hg1)
      have X4 : Hid (Rowz v1 g (wC 8 (mixN first8 M q)) 65) := Lib.hid (Rowz.grown (w := v.drew) W4.out hg1)
      have X3 : Hid (Only b w v1) := Lib.hid (Only.trans (v := v.drew) W3.out (Only.ofGrown b hg1))
      have XT : Hid (Tab v1) := Lib.hid (Tab.grown (w := v.drew) WT.out hg1)
      refine hK.out _ _ X5.out (fun _ => ?_)
      clear hK K hg1 hS
      refine wpAnyH_ready (rs := [10]) (by kernel_rfl) (by simp) (AllReadyH.cons rfl (fun K hK => ?_) AllReadyH.nil)
      rw [if_pos (by rfl)]
      go_simp
      obtain ⟨t, ht⟩ : ∃ t, t = s.extract n s.size := ⟨_, rfl⟩
      have hts : t.size ≤ maxLen := by rw [ht, ByteArray.size_extract]; unfold maxLen; omega
      rw [← ht]
      have HTT := Lib.hid ht
      clear ht
      refine (mixAll_any (mixN first8 (M ++ s) (q + 1)) t v1 hts (mixN_length _ _ rfl _) (mixN_lt _ _ (by decide) _) XT.out).mono ?_
      rintro e v2 ⟨rfl, hg1⟩
      obtain ⟨X, hX⟩ : ∃ X, X = mixN (mixN first8 (M ++ s) (q + 1)) t (t.size / 64) := ⟨_, rfl⟩
      obtain ⟨r, hrr⟩ : ∃ r, r = t.extract (64 * (t.size / 64)) t.size := ⟨_, rfl⟩
      have hrs : r.size < 64 := by rw [hrr, ByteArray.size_extract]; omega
      have hXl : X.length = 8 := by rw [hX]; exact mixN_length _ _ (mixN_length _ _ rfl _) _
      have hXt : ∀ x ∈ X, x < 4294967296 := by rw [hX]; exact mixN_lt _ _ (mixN_lt _ _ (by decide) _) _
      have HXL := Lib.hid hXl
      have HXT := Lib.hid hXt
      have HX := Lib.hid hX
      have HRR := Lib.hid hrr
      rw [← hX, ← hrr]
      clear hX hrr hXl hXt
      have Y5 : Hid (Rowz v2 b (stC l R2 c) 68) := Lib.hid (X5.out.grown hg1)
      have Y4 : Hid (Rowz v2 g (wC 8 (mixN first8 M q)) 65) := Lib.hid (X4.out.grown hg1)
      have Y3 : Hid (Only b w v2) := Lib.hid (Only.trans X3.out (Only.ofGrown b hg1))
      have hS : Rowz v2 b (stC l R2 c) 68 := Y5.out
      refine hK.out _ _ hS (fun _ => ?_)
      clear hK K hg1 X5 X4 X3 XT
      refine wpAnyH_take1 11 38 (.tuple #[.agg (wC 8 X), .string r]) rfl rfl (by kernel_rfl) (by kernel_rfl) (by kernel_rfl) (fun _ _ _ h => h) hS (Or.inl ⟨by rfl, fun _ _ => by rfl⟩) ?_
      simp only [List.setIfInBounds_toArray, List.set_cons_zero, List.set_cons_succ]
      refine wpAnyH_take1 12 50 (.agg (wC 8 X)) rfl rfl (by kernel_rfl) (by kernel_rfl) (by kernel_rfl) (fun _ _ _ h => h) hS (Or.inl ⟨by rfl, fun _ _ => by go_simp⟩) ?_
      simp only [List.setIfInBounds_toArray, List.set_cons_zero, List.set_cons_succ]
      refine wpAnyH_take1 13 51 (.string r) rfl rfl (by kernel_rfl) (by kernel_rfl) (by kernel_rfl) (fun _ _ _ h => h) hS (Or.inl ⟨by rfl, fun _ _ => by go_simp⟩) ?_
      simp only [List.setIfInBounds_toArray, List.set_cons_zero, List.set_cons_succ]
      refine wpAnyH_ready (rs := [14]) (by kernel_rfl) (by simp) (AllReadyH.cons rfl (fun K hK => ?_) AllReadyH.nil)
      rw [if_pos (by rfl)]
      refine wp_store_row 65 _ _ rfl g (wC 8 X) rfl rfl 65 (wC 8 (mixN first8 M q)) Y4.out (info8W _) (by simp [wC_size]) (wC_one _ _) ?_
      have hgw : w.heap.size ≤ g := hg
      have Z5 : Hid (Rowz (v2.setRow g (wC 8 X)) b (stC l R2 c) 68) := Lib.hid (Y5.out.rowOther (fun e => hgb e.symm))
      have Z4 : Hid (Rowz (v2.setRow g (wC 8 X)) g (wC 8 X) 65) := Lib.hid Y4.out.row
      have Z3 : Hid (Only b w (v2.setRow g (wC 8 X))) := Lib.hid (Only.newRow Y3.out Y4.out hgw _)
      refine hK.out _ _ Z5.out (fun _ => ?_)
      clear hK K Y5 Y4 Y3 hS
      generalize v2.setRow g (wC 8 X) = v3 at Z5 Z4 Z3 ⊢
      refine wpAnyH_ready (rs := [15]) (by kernel_rfl) (by simp) (AllReadyH.cons rfl (fun K hK => ?_) AllReadyH.nil)
      rw [if_pos (by rfl)]
      go_simp
      refine hK.out _ _ Z5.out (fun _ => ?_)
      clear hK K
      refine wpAnyH_done (by kernel_rfl) ?_ _
      have hsl := fun w' => run_slice_whole b w'
      have hrfit : 8 + 0 + r.size ≤ (stC X R2 c).size := by rw [stC_size]; omega
      have HFit : Hid (r.size = min r.size 64) := Lib.hid (by omega)
      have Zr : Hid (Rowz (v3.setRow b (spl (stC l R2 c) 0 (wC 8 X).toList)) b (stC X R2 c) 68) := Lib.hid (by rw [stC_words]; exact Z5.out.row)
      go_wp2_with (first
        | (refine wpList_load_row rfl 65 _ rfl g rfl 65 (wC 8 X) (0, 0) _ Z4.out Tryd.underlying65 rfl (info8W _) ?_)
        | (refine wpList_store_part rfl 65 _ _ rfl b 0 (wC 8 X) rfl rfl 68 (stC l R2 c) Z5.out (by rw [wC_size, stC_size]; decide) (info8W _) (wC_one _ _) ?_)
        | (refine wpList_copy_str rfl (.tmp 59) (.tmp 60) 64 9 rfl 5 Tryd.underlying64 sizeU8 b (8 + 0) 64 64 rfl r rfl (stC X R2 c) 68 Zr.out r.size HFit.out hrfit ?_))
      have e1 : r.data.toList.take r.size = r.data.toList := List.take_of_length_le (by rw [ba_len]; exact Nat.le_refl _)
      have hw := write_more M s t R2 n (by rw [← HH.out]; exact hn64) hns HTT.out
      rw [← HQ.out, ← HX.out, ← HRR.out] at hw
      have eR : spl (stC X R2 c) 8 (Lib.byteCells (List.take r.size r.data.toList)) = stC X (R2.take 0 ++ r.data.toList ++ R2.drop (0 + r.data.toList.length)) c := by
        rw [e1]; exact stC_bytes X R2 r.data.toList c 0 LR2 (by rw [ba_len]; omega)
      rw [eR]
      refine ⟨rfl, .tuple #[], results_none Tryd.results36 _ _ _, rfl, ?_, Only.trans (Only.trans Z3.out (Only.ofRow Z5.out _)) (Only.ofRow Zr.out _)⟩
      refine ⟨X, _, ?_, HXL.out, HXT.out, ?_, fun _ => hw.1, hw.2⟩
      · rw [← HCC.out]; exact Zr.out.row
      · rw [List.length_append, List.length_append, List.length_take, List.length_drop, ba_len, LR2]; omega

theorem shaWrite_nil (s : ByteArray) (w : World) :
    Calls Tryd.prog 36 #[.pointer none, .string s] w fun e w' => e = .returned (.tuple #[]) ∧ w = w' := by
  go_enter Tryd.func36, Tryd.ntmps36
  go_wp2
  exact bodyPost_ret (v := .tuple #[]) (results_none Tryd.results36 _ _ _) rfl ⟨rfl, rfl⟩
end Go.Proofs.YtecfgjoomckleaaDoor
