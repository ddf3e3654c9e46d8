/-
  Contract of the law's own step 'do': the kind that reads a hash; then all kinds.
-/
import Derived.Test.YtbnaiojbkecofaaCurDo
namespace Go.Proofs.Ytbnaiojbkecofaa
open Go.RowKit

set_option maxRecDepth 100000 in
set_option maxHeartbeats 2000000 in
theorem do4 (g : Nat) (c d : Cu) (n : Int) (m : Nat) (x : Int) (w : World) (h : CurAt w g c) :
    Calls Try.prog 7 #[.pointer (some ⟨g, 0, none⟩), .agg #[.string d.b, .int .i64 d.e], .agg #[.int .i64 4, .int .i64 n, .int .u64 (m : Int), .int .i64 x]] w (DoPost w g c d (rawP c 32).2 (rawR d 32).2) := by
  have hgl : g < w.heap.size := Rowz.lt h
  have D0 := doAt_start w g c d 4 n m x h
  clear h
  obtain ⟨v0, hv⟩ : ∃ v, v = ((w.alloc (.cells #[.string d.b, .int .i64 d.e] 27)).alloc (.cells #[.int .i64 4, .int .i64 n, .int .u64 (m : Int), .int .i64 x] 32)).alloc (.cells #[.string noB, .int .i64 0] 27) := ⟨_, rfl⟩
  rw [← hv] at D0
  have HR := refHash8_any d v0
  rw [hv] at HR
  replace HR := Lib.hid HR
  have HE : Hid (c = d → c.ok → hashL (rawP c 32).1 = hashL (rawR d 32).1) := Lib.hid fun h1 h2 => by rw [rawP_eq c 32 h2, h1]
  generalize rawR d 32 = q at HR HE ⊢
  obtain ⟨s, d'⟩ := q
  simp only at HR HE
  have HL := Lib.hid (hashL_length s)
  generalize hashL s = l at HR HE HL
  replace D0 := Lib.hid D0
  go_enter Try.func7, Try.ntmps7
  go_wp2_with fail
  refine HR.out.mono ?_
  rintro e w1 ⟨rfl, G1⟩
  rw [← hv] at G1
  replace D0 := Lib.hid (D0.out.grown G1)
  clear hv HR G1
  have hsz : w.heap.size + 1 + 1 < w1.heap.size := Rowz.lt D0.out.r6
  have RH : Hid (Rowz ((w1.alloc (.cells (bC 32 []) 46)).alloc (.cells #[.string noB, .int .i64 0] 27)) w1.heap.size (bC 32 []) 46) := Lib.hid ((Rowz.new w1 _ _).alloc _)
  have RK : Hid (Rowz ((w1.alloc (.cells (bC 32 []) 46)).alloc (.cells #[.string noB, .int .i64 0] 27)) (w1.heap.size + 1) #[.string noB, .int .i64 0] 27) := Lib.hid (Rowz.newEq1 w1 _ _ _ _ rfl)
  have GA : Hid (Grown w1 ((w1.alloc (.cells (bC 32 []) 46)).alloc (.cells #[.string noB, .int .i64 0] 27))) := Lib.hid (((Grown.refl w1).alloc _ _).alloc _ _)
  go_wp2_with (refine park_none rfl ?_)
  refine unpark ?_
  refine wpList_store_rowN rfl 46 _ _ rfl w1.heap.size (bC 32 l) rfl rfl 46 (bC 32 []) RH.out (info32c _) (by simp [bC_size]) (bC_one _ _) ?_
  intro v2 hv2
  have s1 : Rowz v2 w1.heap.size (bC 32 l) 46 := by (rw [hv2.out]; exact Rowz.row RH.out)
  have s2 : Rowz v2 (w1.heap.size + 1) #[.string noB, .int .i64 0] 27 := by (rw [hv2.out]; exact Rowz.rowOther RK.out (by omega))
  have s3 : Grown w1 v2 := by (rw [hv2.out]; exact Grown.setRow GA.out RH.out (Nat.le_refl _) (bC 32 l))
  replace RH := Lib.hid s1
  replace RK := Lib.hid s2
  replace GA := Lib.hid s3
  clear s1 s2 s3 hv2
  go_wp2_with (refine park_none rfl ?_)
  refine unpark ?_
  refine wpList_store_rowN rfl 27 _ _ rfl (w1.heap.size + 1) #[.string d'.b, .int .i64 d'.e] rfl rfl 27 #[.string noB, .int .i64 0] RK.out (infoC _ _) rfl (by simp [Value.oneCell']) ?_
  intro v3 hv3
  have s1 : Rowz v3 w1.heap.size (bC 32 l) 46 := by (rw [hv3.out]; exact Rowz.rowOther RH.out (by omega))
  have s2 : Rowz v3 (w1.heap.size + 1) #[.string d'.b, .int .i64 d'.e] 27 := by (rw [hv3.out]; exact Rowz.row RK.out)
  have s3 : Grown w1 v3 := by (rw [hv3.out]; exact Grown.setRow GA.out RK.out (by omega) _)
  replace RH := Lib.hid s1
  replace RK := Lib.hid s2
  replace GA := Lib.hid s3
  clear s1 s2 s3 hv3
  go_wp2_with fail
  have D1 : DoAt w v3.drew w.heap.size g c d 4 n m x := D0.out.grown GA.out
  have rK : Rowz v3.drew (w1.heap.size + 1) #[.string d'.b, .int .i64 d'.e] 27 := RK.out
  have rH : Rowz v3.drew w1.heap.size (bC 32 l) 46 := RH.out
  clear D0 GA RK RH
  refine wp_region_held_drew (S := fun w' => Rowz w' (w1.heap.size + 1) #[.string d'.b, .int .i64 d'.e] 27 ∧ Rowz w' w1.heap.size (bC 32 l) 46) (by kernel_rfl) ⟨rK, rH⟩ (fun _ => ?_)
  generalize v3.drew = u at D1 rK rH ⊢
  refine wpAnyH_take1 0 76 (.agg #[.string d'.b, .int .i64 d'.e]) rfl rfl (by kernel_rfl) (by kernel_rfl) (by kernel_rfl) (fun _ _ _ h => h) ⟨rK, rH⟩ (yieldsIf_load_row rfl 27 _ rfl (w1.heap.size + 1) rfl _ 27 _ (fun _ h => h.1) Try.underlying27 rfl (infoC _ _)) ?_
  simp only [List.setIfInBounds_toArray, List.set_cons_zero, List.set_cons_succ]
  refine wpAnyH_take1 1 77 (.pointer (some ⟨g, 0, none⟩)) rfl rfl (by kernel_rfl) (by kernel_rfl) (by kernel_rfl) (fun _ _ _ h => h) ⟨rK, rH⟩ (Or.inl ⟨by rfl, fun _ _ => by rfl⟩) ?_
  simp only [List.setIfInBounds_toArray, List.set_cons_zero, List.set_cons_succ]
  refine wpAnyH_take1 3 79 (.agg (bC 32 l)) rfl rfl (by kernel_rfl) (by kernel_rfl) (by kernel_rfl) (fun _ _ _ h => h) ⟨rK, rH⟩ (yieldsIf_load_row rfl 46 _ rfl w1.heap.size rfl _ 46 _ (fun _ h => h.2) Try.underlying46 rfl (info32c _)) ?_
  simp only [List.setIfInBounds_toArray, List.set_cons_zero, List.set_cons_succ]
  refine wpAnyH_ready (rs := [2]) (by kernel_rfl) (by simp) (AllReadyH.cons rfl (fun K hK => ?_) AllReadyH.nil)
  rw [if_pos (by rfl)]
  go_simp
  refine (curHash_any g c u D1.cu).mono ?_
  rintro e u1 ⟨rfl, C1, O1⟩
  have qK := Rowz.onlyC rK O1 (show w1.heap.size + 1 ≠ g by omega)
  have qH := Rowz.onlyC rH O1 (show w1.heap.size ≠ g by omega)
  have q6 := Rowz.onlyC D1.r6 O1 (show w.heap.size + 1 + 1 ≠ g by omega)
  have qo := D1.on.trans O1
  refine hK.out _ _ ⟨qK, qH⟩ (fun _ => ?_)
  clear hK K D1 rK rH O1
  refine wpAnyH_take1 4 80 (.bool (decide (hashL (rawP c 32).1 = l))) rfl rfl (by kernel_rfl) (by kernel_rfl) (by kernel_rfl) (fun _ _ _ h => h) ⟨qK, qH⟩ (yieldsIf_exec (by rfl) fun w' _ => execEqHs (hashL (rawP c 32).1) l (hashL_length _) HL.out w' rfl rfl rfl) ?_
  simp only [List.setIfInBounds_toArray, List.set_cons_zero, List.set_cons_succ]
  obtain ⟨B, hB⟩ : ∃ B, B = decide (hashL (rawP c 32).1 = l) := ⟨_, rfl⟩
  rw [← hB]
  have HB : Hid (c = d → c.ok → B = true) := Lib.hid fun h1 h2 => by rw [hB, HE.out h1 h2]; simp
  clear hB
  refine wpAnyH_ready (rs := [5]) (by kernel_rfl) (by simp) (AllReadyH.cons rfl (fun K hK => ?_) AllReadyH.nil)
  rw [if_pos (by rfl)]
  refine wp_store_row 27 _ _ rfl (w.heap.size + 1 + 1) #[.string d'.b, .int .i64 d'.e] rfl rfl 27 #[.string noB, .int .i64 0] q6 (infoC _ _) rfl (by simp [Value.oneCell']) ?_
  have pK := qK.rowOther (k := w.heap.size + 1 + 1) (D := #[.string d'.b, .int .i64 d'.e]) (by omega)
  have pH := qH.rowOther (k := w.heap.size + 1 + 1) (D := #[.string d'.b, .int .i64 d'.e]) (by omega)
  have p6 := q6.row (D := #[.string d'.b, .int .i64 d'.e])
  have pc := Rowz.rowOther (k := w.heap.size + 1 + 1) (D := #[.string d'.b, .int .i64 d'.e]) C1 (by omega)
  have po := OnlyC.newRow qo q6 (by omega) #[.string d'.b, .int .i64 d'.e]
  refine hK.out _ _ ⟨pK, pH⟩ (fun _ => ?_)
  clear hK K qK qH q6 qo C1
  generalize u1.setRow (w.heap.size + 1 + 1) #[.string d'.b, .int .i64 d'.e] = u2 at pK pH p6 pc po ⊢
  refine wpAnyH_take1 6 7 (.bool B) rfl rfl (by kernel_rfl) (by kernel_rfl) (by kernel_rfl) (fun _ _ _ h => h) ⟨pK, pH⟩ (Or.inl ⟨by rfl, fun _ _ => by rfl⟩) ?_
  simp only [List.setIfInBounds_toArray, List.set_cons_zero, List.set_cons_succ]
  refine wpAnyH_done (by kernel_rfl) ?_ _
  replace p6 := Lib.hid p6
  replace pc := Lib.hid pc
  replace po := Lib.hid po
  clear pK pH
  go_wp2_with fail
  refine bodyPost_ret (results_row_tmp Try.results7 _ _ (w.heap.size + 1 + 1) 27 _ _ _ rfl rfl p6.out Try.underlying27 rfl (infoC _ _)) rfl ⟨B, rfl, HB.out, pc.out, po.out⟩

theorem do_any (g : Nat) (c d : Cu) (k n : Int) (m : Nat) (x : Int) (w : World) (h : CurAt w g c) (hd : d.b.size ≤ maxLen) (hn : n < 9223372036854775808) :
    Calls Try.prog 7 #[.pointer (some ⟨g, 0, none⟩), .agg #[.string d.b, .int .i64 d.e], .agg #[.int .i64 k, .int .i64 n, .int .u64 (m : Int), .int .i64 x]] w (DoPost w g c d (stepP c k n m x) (stepR d k n m x)) := by
  unfold stepP stepR
  by_cases k1 : k = 1
  · subst k1
    rw [if_pos rfl, if_pos rfl]
    by_cases hs : (rawR d 1).1.size = 0
    · exact do1a g c d n m x w h hs
    · exact do1b g c d n m x w h hs
  rw [if_neg k1, if_neg k1]
  by_cases k2 : k = 2
  · subst k2
    rw [if_pos rfl, if_pos rfl]
    exact do2 g c d n m x w h hd
  rw [if_neg k2, if_neg k2]
  by_cases k3 : k = 3
  · subst k3
    rw [if_pos rfl, if_pos rfl]
    exact do3 g c d n m x w h
  rw [if_neg k3, if_neg k3]
  by_cases k4 : k = 4
  · subst k4
    rw [if_pos rfl, if_pos rfl]
    exact do4 g c d n m x w h
  rw [if_neg k4, if_neg k4]
  by_cases k5 : k = 5
  · subst k5
    rw [if_pos rfl, if_pos rfl]
    exact do5 g c d n m x w h hd hn
  rw [if_neg k5, if_neg k5]
  exact do6 g c d k n m x w h k1 k2 k3 k4 k5

theorem stepP_eq (c : Cu) (k n : Int) (m : Nat) (x : Int) (h : c.ok) : stepP c k n m x = stepR c k n m x := by
  unfold stepP stepR
  rw [rawP_eq c _ h, numP_eq c _ h, rawP_eq c _ h, rawP_eq c _ h, textP_eq c _ h]
theorem stepP_ok (c : Cu) (k n : Int) (m : Nat) (x : Int) (h : c.ok) : (stepP c k n m x).ok := by
  unfold stepP
  repeat' split
  · exact rawP_ok c _ h
  · exact numP_ok c _ h
  · exact rawP_ok c _ h
  · exact rawP_ok c _ h
  · exact textP_ok c _ h
  · exact failC_ok c _ h
/-- What is left is the end of what was left. -/
def Ends (s t : ByteArray) : Prop := ∃ j, j ≤ t.size ∧ s = t.extract j t.size
theorem Ends.refl (s : ByteArray) : Ends s s := ⟨0, Nat.zero_le _, by simp⟩
theorem Ends.none (t : ByteArray) : Ends noB t := ⟨t.size, Nat.le_refl _, (size0 (by rw [ByteArray.size_extract]; omega)).symm⟩
theorem Ends.trans {r s t : ByteArray} (h : Ends r s) (k : Ends s t) : Ends r t := by
  obtain ⟨i, hi, rfl⟩ := h
  obtain ⟨j, hj, rfl⟩ := k
  rw [ByteArray.size_extract] at hi ⊢
  refine ⟨j + i, by omega, ?_⟩
  rw [ByteArray.extract_extract]
  congr 1
  omega
theorem failC_ends (c : Cu) (x : Int) : Ends (failC c x).b c.b := by
  unfold failC
  split
  · exact Ends.none _
  · exact Ends.refl _
theorem rawP_ends (c : Cu) (n : Int) : Ends (rawP c n).2.b c.b := by
  unfold rawP
  split
  · exact failC_ends c 3
  split
  · exact failC_ends c 1
  · exact ⟨n.toNat, by omega, rfl⟩
theorem numP_ends (c : Cu) (m : Nat) : Ends (numP c m).2.b c.b := by
  unfold numP
  split
  · exact failC_ends c _
  split
  · exact failC_ends c _
  · exact ⟨_, (tk_fits (sl c.b)).2, rfl⟩
theorem stepP_ends (c : Cu) (k n : Int) (m : Nat) (x : Int) : Ends (stepP c k n m x).b c.b := by
  unfold stepP
  repeat' split
  · exact rawP_ends c _
  · exact numP_ends c _
  · exact rawP_ends c _
  · exact rawP_ends c _
  · exact (rawP_ends _ _).trans (numP_ends c _)
  · exact failC_ends c _
theorem Ends.size {s t : ByteArray} (h : Ends s t) : s.size ≤ t.size := by
  obtain ⟨j, hj, rfl⟩ := h
  rw [ByteArray.size_extract]; omega
theorem rawP_err (c : Cu) (n : Int) (h : c.e ≠ 0) : (rawP c n).2.e = c.e := by
  unfold rawP
  rw [failC_err c _ h, failC_err c _ h]
  repeat' split
  all_goals rfl
theorem numP_err (c : Cu) (m : Nat) (h : c.e ≠ 0) : (numP c m).2.e = c.e := by
  unfold numP
  rw [failC_err c _ h, failC_err c _ h]
  repeat' split
  all_goals rfl
theorem stepP_err (c : Cu) (k n : Int) (m : Nat) (x : Int) (h : c.e ≠ 0) : (stepP c k n m x).e = c.e := by
  unfold stepP
  repeat' split
  · exact rawP_err c _ h
  · exact numP_err c _ h
  · exact rawP_err c _ h
  · exact rawP_err c _ h
  · exact (rawP_err _ _ (by rw [numP_err c _ h]; exact h)).trans (numP_err c _ h)
  · rw [failC_err c _ h]
end Go.Proofs.Ytbnaiojbkecofaa
