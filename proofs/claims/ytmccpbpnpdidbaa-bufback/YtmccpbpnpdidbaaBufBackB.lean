/-
  The law's step 'back': what a step put is what a cursor takes. Conditions: a step's string has at most 2000 bytes.
-/
import Derived.Test.YtmccpbpnpdidbaaBufBackA
namespace Go.Proofs.Ytmccpbpnpdidbaa
open Go.RowKit

set_option maxRecDepth 100000 in
set_option maxHeartbeats 2000000 in
theorem back9_any (g : Nat) (t : ByteArray) (k : Int) (S : ByteArray) (n : Nat) (h : List UInt8) (w : World) (H : CurAt w g ⟨putB k S n h ++ t, 0⟩) (hh : h.length = 32) (hn : n < 18446744073709551616) (hS : S.size ≤ 2000) :
    Calls Try.prog 12 #[.pointer (some ⟨g, 0, none⟩), .agg (stp k S n h)] w fun e w' => e = .returned (.bool true) ∧ CurAt w' g ⟨t, 0⟩ ∧ OnlyC g w w' := by
  have hgl : g < w.heap.size := Rowz.lt H
  go_enter Try.func12, Try.ntmps12
  go_wp2_with (refine park_at 6 rfl ?_)
  have R0 : Hid (Rowz (w.alloc (.cells (stp k S n h) 35)) w.heap.size (stp k S n h) 35) := Lib.hid (Rowz.new w _ _)
  have O00 : Hid (OnlyC g w (w.alloc (.cells (stp k S n h) 35))) := Lib.hid (OnlyC.ofGrown g ((Grown.refl w).alloc _ _))
  have C0 : Hid (CurAt (w.alloc (.cells (stp k S n h) 35)) g ⟨putB k S n h ++ t, 0⟩) := Lib.hid (Rowz.alloc H _)
  clear H
  obtain ⟨b, hb⟩ : ∃ b, b = w.heap.size := ⟨_, rfl⟩
  have hbg : b ≠ g := by omega
  rw [← hb] at R0 ⊢
  clear hb hgl
  generalize w.alloc (.cells (stp k S n h) 35) = v at R0 O00 C0 ⊢
  refine unpark ?_
  have c0 : v.cell? ⟨b, 0, none⟩ = some (.int .i64 k) := stp_c0 R0.out
  by_cases h1 : k = 1
  · subst h1
    have HP : Hid (putB 1 S n h = S ++ S) := Lib.hid (by simp [putB])
    go_wp2_with fail
    have CU : CurAt v.drew g ⟨putB 1 S n h ++ t, 0⟩ := C0.out
    have RS : Rowz v.drew b (stp 1 S n h) 35 := R0.out
    rw [HP.out] at CU
    refine wp_region_held_drew (S := fun w' => Rowz w' b (stp 1 S n h) 35) (by kernel_rfl) RS (fun _ => ?_)
    have O0 := O00.out
    clear O00 C0 R0 HP
    change OnlyC g w v.drew at O0
    generalize v.drew = u at CU RS O0 ⊢
    refine wpAnyH_take1 0 9 (.pointer (some ⟨g, 0, none⟩)) rfl rfl (by kernel_rfl) (by kernel_rfl) (by kernel_rfl) (fun _ _ _ h => h) RS (yieldsIf_exec (by rfl) fun w' hw' => execMoveB w' (Or.inl rfl) rfl) ?_
    simp only [List.setIfInBounds_toArray, List.set_cons_zero, List.set_cons_succ]
    refine wpAnyH_take1 1 10 (.pointer (some ⟨b, 1, none⟩)) rfl rfl (by kernel_rfl) (by kernel_rfl) (by kernel_rfl) (fun _ _ _ h => h) RS (yieldsIf_exec (by rfl) fun w' hw' => execField b 1 (by omega) w' rfl rfl) ?_
    simp only [List.setIfInBounds_toArray, List.set_cons_zero, List.set_cons_succ]
    refine wpAnyH_take1 2 11 (.string S) rfl rfl (by kernel_rfl) (by kernel_rfl) (by kernel_rfl) (fun _ _ _ h => h) RS (yieldsIf_exec (by rfl) fun w' hw' => execLoadAny rfl rfl (run_loadS (stp_c1 hw'))) ?_
    simp only [List.setIfInBounds_toArray, List.set_cons_zero, List.set_cons_succ]
    refine wpAnyH_take1 3 12 (.int .i64 (S.size : Int)) rfl rfl (by kernel_rfl) (by kernel_rfl) (by kernel_rfl) (fun _ _ _ h => h) RS (yieldsIf_exec (by rfl) fun w' hw' => execLenS w' rfl rfl rfl) ?_
    simp only [List.setIfInBounds_toArray, List.set_cons_zero, List.set_cons_succ]
    refine wpAnyH_take1 4 13 (.int .i64 ((2 : Int) * (S.size : Int))) rfl rfl (by kernel_rfl) (by kernel_rfl) (by kernel_rfl) (fun _ _ _ h => h) RS (yieldsIf_exec (by rfl) fun w' hw' => execMul2 S.size (by omega) w' rfl rfl) ?_
    simp only [List.setIfInBounds_toArray, List.set_cons_zero, List.set_cons_succ]
    refine wpAnyH_take1 6 15 (.pointer (some ⟨b, 1, none⟩)) rfl rfl (by kernel_rfl) (by kernel_rfl) (by kernel_rfl) (fun _ _ _ h => h) RS (yieldsIf_exec (by rfl) fun w' hw' => execField b 1 (by omega) w' rfl rfl) ?_
    simp only [List.setIfInBounds_toArray, List.set_cons_zero, List.set_cons_succ]
    refine wpAnyH_take1 7 16 (.string S) rfl rfl (by kernel_rfl) (by kernel_rfl) (by kernel_rfl) (fun _ _ _ h => h) RS (yieldsIf_exec (by rfl) fun w' hw' => execLoadAny rfl rfl (run_loadS (stp_c1 hw'))) ?_
    simp only [List.setIfInBounds_toArray, List.set_cons_zero, List.set_cons_succ]
    refine wpAnyH_take1 8 17 (.pointer (some ⟨b, 1, none⟩)) rfl rfl (by kernel_rfl) (by kernel_rfl) (by kernel_rfl) (fun _ _ _ h => h) RS (yieldsIf_exec (by rfl) fun w' hw' => execField b 1 (by omega) w' rfl rfl) ?_
    simp only [List.setIfInBounds_toArray, List.set_cons_zero, List.set_cons_succ]
    refine wpAnyH_take1 9 18 (.string S) rfl rfl (by kernel_rfl) (by kernel_rfl) (by kernel_rfl) (fun _ _ _ h => h) RS (yieldsIf_exec (by rfl) fun w' hw' => execLoadAny rfl rfl (run_loadS (stp_c1 hw'))) ?_
    simp only [List.setIfInBounds_toArray, List.set_cons_zero, List.set_cons_succ]
    refine wpAnyH_take1 10 19 (.string (S ++ S)) rfl rfl (by kernel_rfl) (by kernel_rfl) (by kernel_rfl) (fun _ _ _ h => h) RS (yieldsIf_exec (by rfl) fun w' hw' => execAddB S S (by omega) w' rfl rfl rfl) ?_
    simp only [List.setIfInBounds_toArray, List.set_cons_zero, List.set_cons_succ]
    refine wpAnyH_ready (rs := [5]) (by kernel_rfl) (by simp) (AllReadyH.cons rfl (fun K hK => ?_) AllReadyH.nil)
    rw [if_pos (by rfl)]
    go_simp
    refine (curRaw_back g (S ++ S) t _ (by rw [ByteArray.size_append]; omega) u CU).mono ?_
    rintro e u1 ⟨rfl, CU, ON⟩
    replace RS := Rowz.onlyC RS ON hbg
    have Ou1 := ON
    clear ON
    refine hK.out _ _ RS (fun _ => ?_)
    clear hK K
    refine wpAnyH_take1 11 20 (.bool true) rfl rfl (by kernel_rfl) (by kernel_rfl) (by kernel_rfl) (fun _ _ _ h => h) RS (yieldsIf_exec (by rfl) fun w' hw' => execEqS1 (S ++ S) w' rfl rfl rfl) ?_
    simp only [List.setIfInBounds_toArray, List.set_cons_zero, List.set_cons_succ]
    refine wpAnyH_take1 12 4 (.bool true) rfl rfl (by kernel_rfl) (by kernel_rfl) (by kernel_rfl) (fun _ _ _ h => h) RS (yieldsIf_exec (by rfl) fun w' hw' => execMoveB w' (Or.inr rfl) rfl) ?_
    simp only [List.setIfInBounds_toArray, List.set_cons_zero, List.set_cons_succ]
    refine wpAnyH_done (by kernel_rfl) ?_ _
    have CF := Lib.hid CU
    have OF := Lib.hid (O0.trans Ou1)
    clear CU RS
    go_wp2_with fail
    go_ret
    exact ⟨rfl, CF.out, OF.out⟩
  by_cases h2 : k = 2
  · subst h2
    have HP : Hid (putB 2 S n h = oneB (n % 256)) := Lib.hid (by simp [putB])
    go_wp2_with fail
    have CU : CurAt v.drew g ⟨putB 2 S n h ++ t, 0⟩ := C0.out
    have RS : Rowz v.drew b (stp 2 S n h) 35 := R0.out
    rw [HP.out] at CU
    refine wp_region_held_drew (S := fun w' => Rowz w' b (stp 2 S n h) 35) (by kernel_rfl) RS (fun _ => ?_)
    have O0 := O00.out
    clear O00 C0 R0 HP
    change OnlyC g w v.drew at O0
    generalize v.drew = u at CU RS O0 ⊢
    refine wpAnyH_take1 0 23 (.pointer (some ⟨g, 0, none⟩)) rfl rfl (by kernel_rfl) (by kernel_rfl) (by kernel_rfl) (fun _ _ _ h => h) RS (yieldsIf_exec (by rfl) fun w' hw' => execMoveB w' (Or.inl rfl) rfl) ?_
    simp only [List.setIfInBounds_toArray, List.set_cons_zero, List.set_cons_succ]
    refine wpAnyH_take1 2 25 (.pointer (some ⟨b, 2, none⟩)) rfl rfl (by kernel_rfl) (by kernel_rfl) (by kernel_rfl) (fun _ _ _ h => h) RS (yieldsIf_exec (by rfl) fun w' hw' => execField b 2 (by omega) w' rfl rfl) ?_
    simp only [List.setIfInBounds_toArray, List.set_cons_zero, List.set_cons_succ]
    refine wpAnyH_take1 3 26 (.int .u64 (n : Int)) rfl rfl (by kernel_rfl) (by kernel_rfl) (by kernel_rfl) (fun _ _ _ h => h) RS (yieldsIf_exec (by rfl) fun w' hw' => execLoadAny rfl rfl (run_load64 (stp_c2 hw'))) ?_
    simp only [List.setIfInBounds_toArray, List.set_cons_zero, List.set_cons_succ]
    refine wpAnyH_take1 4 27 (.int .u8 (((n % 256 : Nat)) : Int)) rfl rfl (by kernel_rfl) (by kernel_rfl) (by kernel_rfl) (fun _ _ _ h => h) RS (yieldsIf_exec (by rfl) fun w' hw' => execConv8 n w' rfl rfl) ?_
    simp only [List.setIfInBounds_toArray, List.set_cons_zero, List.set_cons_succ]
    refine wpAnyH_ready (rs := [1]) (by kernel_rfl) (by simp) (AllReadyH.cons rfl (fun K hK => ?_) AllReadyH.nil)
    rw [if_pos (by rfl)]
    go_simp
    refine (curByte_back g (n % 256) (by omega) t u CU).mono ?_
    rintro e u1 ⟨rfl, CU, ON⟩
    replace RS := Rowz.onlyC RS ON hbg
    have Ou1 := ON
    clear ON
    refine hK.out _ _ RS (fun _ => ?_)
    clear hK K
    refine wpAnyH_take1 5 28 (.bool true) rfl rfl (by kernel_rfl) (by kernel_rfl) (by kernel_rfl) (fun _ _ _ h => h) RS (yieldsIf_exec (by rfl) fun w' hw' => execEqI1 (((n % 256 : Nat)) : Int) w' rfl rfl rfl) ?_
    simp only [List.setIfInBounds_toArray, List.set_cons_zero, List.set_cons_succ]
    refine wpAnyH_take1 6 4 (.bool true) rfl rfl (by kernel_rfl) (by kernel_rfl) (by kernel_rfl) (fun _ _ _ h => h) RS (yieldsIf_exec (by rfl) fun w' hw' => execMoveB w' (Or.inr rfl) rfl) ?_
    simp only [List.setIfInBounds_toArray, List.set_cons_zero, List.set_cons_succ]
    refine wpAnyH_done (by kernel_rfl) ?_ _
    have CF := Lib.hid CU
    have OF := Lib.hid (O0.trans Ou1)
    clear CU RS
    go_wp2_with fail
    go_ret
    exact ⟨rfl, CF.out, OF.out⟩
  by_cases h3 : k = 3
  · subst h3
    have HP : Hid (putB 3 S n h = vS n) := Lib.hid (by simp [putB])
    go_wp2_with fail
    have CU : CurAt v.drew g ⟨putB 3 S n h ++ t, 0⟩ := C0.out
    have RS : Rowz v.drew b (stp 3 S n h) 35 := R0.out
    rw [HP.out] at CU
    refine wp_region_held_drew (S := fun w' => Rowz w' b (stp 3 S n h) 35) (by kernel_rfl) RS (fun _ => ?_)
    have O0 := O00.out
    clear O00 C0 R0 HP
    change OnlyC g w v.drew at O0
    generalize v.drew = u at CU RS O0 ⊢
    refine wpAnyH_take1 0 31 (.pointer (some ⟨g, 0, none⟩)) rfl rfl (by kernel_rfl) (by kernel_rfl) (by kernel_rfl) (fun _ _ _ h => h) RS (yieldsIf_exec (by rfl) fun w' hw' => execMoveB w' (Or.inl rfl) rfl) ?_
    simp only [List.setIfInBounds_toArray, List.set_cons_zero, List.set_cons_succ]
    refine wpAnyH_take1 1 32 (.pointer (some ⟨b, 2, none⟩)) rfl rfl (by kernel_rfl) (by kernel_rfl) (by kernel_rfl) (fun _ _ _ h => h) RS (yieldsIf_exec (by rfl) fun w' hw' => execField b 2 (by omega) w' rfl rfl) ?_
    simp only [List.setIfInBounds_toArray, List.set_cons_zero, List.set_cons_succ]
    refine wpAnyH_take1 2 33 (.int .u64 (n : Int)) rfl rfl (by kernel_rfl) (by kernel_rfl) (by kernel_rfl) (fun _ _ _ h => h) RS (yieldsIf_exec (by rfl) fun w' hw' => execLoadAny rfl rfl (run_load64 (stp_c2 hw'))) ?_
    simp only [List.setIfInBounds_toArray, List.set_cons_zero, List.set_cons_succ]
    refine wpAnyH_take1 4 35 (.pointer (some ⟨b, 2, none⟩)) rfl rfl (by kernel_rfl) (by kernel_rfl) (by kernel_rfl) (fun _ _ _ h => h) RS (yieldsIf_exec (by rfl) fun w' hw' => execField b 2 (by omega) w' rfl rfl) ?_
    simp only [List.setIfInBounds_toArray, List.set_cons_zero, List.set_cons_succ]
    refine wpAnyH_take1 5 36 (.int .u64 (n : Int)) rfl rfl (by kernel_rfl) (by kernel_rfl) (by kernel_rfl) (fun _ _ _ h => h) RS (yieldsIf_exec (by rfl) fun w' hw' => execLoadAny rfl rfl (run_load64 (stp_c2 hw'))) ?_
    simp only [List.setIfInBounds_toArray, List.set_cons_zero, List.set_cons_succ]
    refine wpAnyH_ready (rs := [3]) (by kernel_rfl) (by simp) (AllReadyH.cons rfl (fun K hK => ?_) AllReadyH.nil)
    rw [if_pos (by rfl)]
    go_simp
    refine (curNum_back g n hn t u CU).mono ?_
    rintro e u1 ⟨rfl, CU, ON⟩
    replace RS := Rowz.onlyC RS ON hbg
    have Ou1 := ON
    clear ON
    refine hK.out _ _ RS (fun _ => ?_)
    clear hK K
    refine wpAnyH_take1 6 37 (.bool true) rfl rfl (by kernel_rfl) (by kernel_rfl) (by kernel_rfl) (fun _ _ _ h => h) RS (yieldsIf_exec (by rfl) fun w' hw' => execEq641 n w' rfl rfl rfl) ?_
    simp only [List.setIfInBounds_toArray, List.set_cons_zero, List.set_cons_succ]
    refine wpAnyH_take1 7 4 (.bool true) rfl rfl (by kernel_rfl) (by kernel_rfl) (by kernel_rfl) (fun _ _ _ h => h) RS (yieldsIf_exec (by rfl) fun w' hw' => execMoveB w' (Or.inr rfl) rfl) ?_
    simp only [List.setIfInBounds_toArray, List.set_cons_zero, List.set_cons_succ]
    refine wpAnyH_done (by kernel_rfl) ?_ _
    have CF := Lib.hid CU
    have OF := Lib.hid (O0.trans Ou1)
    clear CU RS
    go_wp2_with fail
    go_ret
    exact ⟨rfl, CF.out, OF.out⟩
  by_cases h4 : k = 4
  · subst h4
    have HP : Hid (putB 4 S n h = hB h ++ hB h) := Lib.hid (by simp [putB])
    go_wp2_with fail
    have CU : CurAt v.drew g ⟨putB 4 S n h ++ t, 0⟩ := C0.out
    have RS : Rowz v.drew b (stp 4 S n h) 35 := R0.out
    rw [HP.out] at CU
    refine wp_region_held_drew (S := fun w' => Rowz w' b (stp 4 S n h) 35) (by kernel_rfl) RS (fun _ => ?_)
    have O0 := O00.out
    clear O00 C0 R0 HP
    change OnlyC g w v.drew at O0
    generalize v.drew = u at CU RS O0 ⊢
    rw [ba_assoc] at CU
    refine wpAnyH_take1 0 40 (.pointer (some ⟨g, 0, none⟩)) rfl rfl (by kernel_rfl) (by kernel_rfl) (by kernel_rfl) (fun _ _ _ h => h) RS (yieldsIf_exec (by rfl) fun w' hw' => execMoveB w' (Or.inl rfl) rfl) ?_
    simp only [List.setIfInBounds_toArray, List.set_cons_zero, List.set_cons_succ]
    refine wpAnyH_take1 2 42 (.pointer (some ⟨b, 3, none⟩)) rfl rfl (by kernel_rfl) (by kernel_rfl) (by kernel_rfl) (fun _ _ _ h => h) RS (yieldsIf_exec (by rfl) fun w' hw' => execField b 3 (by omega) w' rfl rfl) ?_
    simp only [List.setIfInBounds_toArray, List.set_cons_zero, List.set_cons_succ]
    refine wpAnyH_take1 3 43 (.agg (bC 32 h)) rfl rfl (by kernel_rfl) (by kernel_rfl) (by kernel_rfl) (fun _ _ _ h => h) RS (yieldsIf_exec (by rfl) fun w' hw' => execLoadAny rfl rfl (run_loadH3 hw')) ?_
    simp only [List.setIfInBounds_toArray, List.set_cons_zero, List.set_cons_succ]
    refine wpAnyH_ready (rs := [1]) (by kernel_rfl) (by simp) (AllReadyH.cons rfl (fun K hK => ?_) AllReadyH.nil)
    rw [if_pos (by rfl)]
    go_simp
    refine (curHash_back g h hh (hB h ++ t) u CU).mono ?_
    rintro e u1 ⟨rfl, CU, ON⟩
    replace RS := Rowz.onlyC RS ON hbg
    have Ou1 := ON
    clear ON
    refine hK.out _ _ RS (fun _ => ?_)
    clear hK K
    refine wpAnyH_take1 4 44 (.bool true) rfl rfl (by kernel_rfl) (by kernel_rfl) (by kernel_rfl) (fun _ _ _ h => h) RS (yieldsIf_exec (by rfl) fun w' hw' => execEqH1 h hh w' rfl rfl rfl) ?_
    simp only [List.setIfInBounds_toArray, List.set_cons_zero, List.set_cons_succ]
    refine wpAnyH_take1 5 45 (.bool true) rfl rfl (by kernel_rfl) (by kernel_rfl) (by kernel_rfl) (fun _ _ _ h => h) RS (yieldsIf_exec (by rfl) fun w' hw' => execMoveB w' (Or.inl rfl) rfl) ?_
    simp only [List.setIfInBounds_toArray, List.set_cons_zero, List.set_cons_succ]
    refine wpAnyH_take1 6 46 (.pointer (some ⟨g, 0, none⟩)) rfl rfl (by kernel_rfl) (by kernel_rfl) (by kernel_rfl) (fun _ _ _ h => h) RS (yieldsIf_exec (by rfl) fun w' hw' => execMoveB w' (Or.inl rfl) rfl) ?_
    simp only [List.setIfInBounds_toArray, List.set_cons_zero, List.set_cons_succ]
    refine wpAnyH_take1 8 48 (.pointer (some ⟨b, 3, none⟩)) rfl rfl (by kernel_rfl) (by kernel_rfl) (by kernel_rfl) (fun _ _ _ h => h) RS (yieldsIf_exec (by rfl) fun w' hw' => execField b 3 (by omega) w' rfl rfl) ?_
    simp only [List.setIfInBounds_toArray, List.set_cons_zero, List.set_cons_succ]
    refine wpAnyH_take1 9 49 (.agg (bC 32 h)) rfl rfl (by kernel_rfl) (by kernel_rfl) (by kernel_rfl) (fun _ _ _ h => h) RS (yieldsIf_exec (by rfl) fun w' hw' => execLoadAny rfl rfl (run_loadH3 hw')) ?_
    simp only [List.setIfInBounds_toArray, List.set_cons_zero, List.set_cons_succ]
    refine wpAnyH_ready (rs := [7]) (by kernel_rfl) (by simp) (AllReadyH.cons rfl (fun K hK => ?_) AllReadyH.nil)
    rw [if_pos (by rfl)]
    go_simp
    refine (curHash_back g h hh t u1 CU).mono ?_
    rintro e u2 ⟨rfl, CU, ON⟩
    replace RS := Rowz.onlyC RS ON hbg
    have Ou2 := ON
    clear ON
    refine hK.out _ _ RS (fun _ => ?_)
    clear hK K
    refine wpAnyH_take1 10 50 (.bool true) rfl rfl (by kernel_rfl) (by kernel_rfl) (by kernel_rfl) (fun _ _ _ h => h) RS (yieldsIf_exec (by rfl) fun w' hw' => execEqH1 h hh w' rfl rfl rfl) ?_
    simp only [List.setIfInBounds_toArray, List.set_cons_zero, List.set_cons_succ]
    refine wpAnyH_take1 11 51 (.bool true) rfl rfl (by kernel_rfl) (by kernel_rfl) (by kernel_rfl) (fun _ _ _ h => h) RS (yieldsIf_exec (by rfl) fun w' hw' => execPickT w' rfl rfl rfl) ?_
    simp only [List.setIfInBounds_toArray, List.set_cons_zero, List.set_cons_succ]
    refine wpAnyH_take1 12 4 (.bool true) rfl rfl (by kernel_rfl) (by kernel_rfl) (by kernel_rfl) (fun _ _ _ h => h) RS (yieldsIf_exec (by rfl) fun w' hw' => execMoveB w' (Or.inr rfl) rfl) ?_
    simp only [List.setIfInBounds_toArray, List.set_cons_zero, List.set_cons_succ]
    refine wpAnyH_done (by kernel_rfl) ?_ _
    have CF := Lib.hid CU
    have OF := Lib.hid ((O0.trans Ou1).trans Ou2)
    clear CU RS
    go_wp2_with fail
    go_ret
    exact ⟨rfl, CF.out, OF.out⟩
  have HP : Hid (putB k S n h = vS S.size ++ S) := Lib.hid (by simp [putB, h1, h2, h3, h4])
  have d1 : (k == 1) = false := by simp [h1]
  have d2 : (k == 2) = false := by simp [h2]
  have d3 : (k == 3) = false := by simp [h3]
  have d4 : (k == 4) = false := by simp [h4]
  clear h1 h2 h3 h4
  go_wp2_with fail
  have CU : CurAt v.drew g ⟨putB k S n h ++ t, 0⟩ := C0.out
  have RS : Rowz v.drew b (stp k S n h) 35 := R0.out
  rw [HP.out] at CU
  refine wp_region_held_drew (S := fun w' => Rowz w' b (stp k S n h) 35) (by kernel_rfl) RS (fun _ => ?_)
  have O0 := O00.out
  clear O00 C0 R0 HP
  change OnlyC g w v.drew at O0
  generalize v.drew = u at CU RS O0 ⊢
  rw [ba_assoc] at CU
  refine wpAnyH_take1 0 52 (.pointer (some ⟨g, 0, none⟩)) rfl rfl (by kernel_rfl) (by kernel_rfl) (by kernel_rfl) (fun _ _ _ h => h) RS (yieldsIf_exec (by rfl) fun w' hw' => execMoveB w' (Or.inl rfl) rfl) ?_
  simp only [List.setIfInBounds_toArray, List.set_cons_zero, List.set_cons_succ]
  refine wpAnyH_take1 1 53 (.pointer (some ⟨b, 1, none⟩)) rfl rfl (by kernel_rfl) (by kernel_rfl) (by kernel_rfl) (fun _ _ _ h => h) RS (yieldsIf_exec (by rfl) fun w' hw' => execField b 1 (by omega) w' rfl rfl) ?_
  simp only [List.setIfInBounds_toArray, List.set_cons_zero, List.set_cons_succ]
  refine wpAnyH_take1 2 54 (.string S) rfl rfl (by kernel_rfl) (by kernel_rfl) (by kernel_rfl) (fun _ _ _ h => h) RS (yieldsIf_exec (by rfl) fun w' hw' => execLoadAny rfl rfl (run_loadS (stp_c1 hw'))) ?_
  simp only [List.setIfInBounds_toArray, List.set_cons_zero, List.set_cons_succ]
  refine wpAnyH_take1 3 55 (.int .i64 (S.size : Int)) rfl rfl (by kernel_rfl) (by kernel_rfl) (by kernel_rfl) (fun _ _ _ h => h) RS (yieldsIf_exec (by rfl) fun w' hw' => execLenS w' rfl rfl rfl) ?_
  simp only [List.setIfInBounds_toArray, List.set_cons_zero, List.set_cons_succ]
  refine wpAnyH_take1 5 57 (.pointer (some ⟨b, 1, none⟩)) rfl rfl (by kernel_rfl) (by kernel_rfl) (by kernel_rfl) (fun _ _ _ h => h) RS (yieldsIf_exec (by rfl) fun w' hw' => execField b 1 (by omega) w' rfl rfl) ?_
  simp only [List.setIfInBounds_toArray, List.set_cons_zero, List.set_cons_succ]
  refine wpAnyH_take1 6 58 (.string S) rfl rfl (by kernel_rfl) (by kernel_rfl) (by kernel_rfl) (fun _ _ _ h => h) RS (yieldsIf_exec (by rfl) fun w' hw' => execLoadAny rfl rfl (run_loadS (stp_c1 hw'))) ?_
  simp only [List.setIfInBounds_toArray, List.set_cons_zero, List.set_cons_succ]
  refine wpAnyH_ready (rs := [4]) (by kernel_rfl) (by simp) (AllReadyH.cons rfl (fun K hK => ?_) AllReadyH.nil)
  rw [if_pos (by rfl)]
  go_simp
  refine (curText_back g S t hS u CU).mono ?_
  rintro e u1 ⟨rfl, CU, ON⟩
  replace RS := Rowz.onlyC RS ON hbg
  have Ou1 := ON
  clear ON
  refine hK.out _ _ RS (fun _ => ?_)
  clear hK K
  refine wpAnyH_take1 7 59 (.bool true) rfl rfl (by kernel_rfl) (by kernel_rfl) (by kernel_rfl) (fun _ _ _ h => h) RS (yieldsIf_exec (by rfl) fun w' hw' => execEqS1 S w' rfl rfl rfl) ?_
  simp only [List.setIfInBounds_toArray, List.set_cons_zero, List.set_cons_succ]
  refine wpAnyH_take1 8 4 (.bool true) rfl rfl (by kernel_rfl) (by kernel_rfl) (by kernel_rfl) (fun _ _ _ h => h) RS (yieldsIf_exec (by rfl) fun w' hw' => execMoveB w' (Or.inr rfl) rfl) ?_
  simp only [List.setIfInBounds_toArray, List.set_cons_zero, List.set_cons_succ]
  refine wpAnyH_done (by kernel_rfl) ?_ _
  have CF := Lib.hid CU
  have OF := Lib.hid (O0.trans Ou1)
  clear CU RS
  go_wp2_with fail
  go_ret
  exact ⟨rfl, CF.out, OF.out⟩
end Go.Proofs.Ytmccpbpnpdidbaa
