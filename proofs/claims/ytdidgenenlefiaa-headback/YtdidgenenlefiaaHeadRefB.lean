/-
  Contract of the reference's Get of headers (milepostref17). No condition.
-/
import Derived.Test.YtdidgenenlefiaaHeadRef
namespace Go.Proofs.Ytdidgenenlefiaa
set_option maxRecDepth 4000
open Go.RowKit

theorem rawR_76 (c : Cu) : (rawR c 76).1.size = 0 ∨ (rawR c 76).1.size = 76 := by
  unfold rawR
  rw [if_neg (by omega)]
  split
  · exact .inl rfl
  · split
    · exact .inl rfl
    · rename_i h1 h2
      right
      show (c.b.extract 0 76).size = 76
      rw [ByteArray.size_extract]; omega
noncomputable def gH (c : Cu) : Hd := if (rawR c 76).1.size = 0 then hdZ else hdT (rawR c 76).1
theorem gH_ok (c : Cu) : (gH c).ok := by
  unfold gH
  split
  · exact hdZ_ok
  · exact hdT_ok _
theorem l32_getD (s : ByteArray) (a k : Nat) (hk : k < 32) (h : a + k < s.size) : (((l32 s a).getD k 0).toNat : Nat) = (s[a + k]).toNat := by
  have hl : a + k < s.data.toList.length := by simpa using h
  simp only [l32, List.getD_eq_getElem?_getD, List.getElem?_map, List.getElem?_range hk, Option.map_some, Option.getD_some, List.getElem?_eq_getElem hl]
  rfl
theorem hdC_take0 (h n : Nat) (l t : List UInt8) : hdC ⟨h, List.replicate 32 0, List.replicate 32 0, n⟩ = hdC ⟨h, l.take 0, t.take 0, n⟩ := by
  rw [List.take_zero, List.take_zero]; kernel_rfl
theorem execAllocHd {o : Oper} {t : Array Value} (w : World) (ho : o.op = .alloc 27) : (execOp (evS t) o).run Try.prog w = .ok (.value (.pointer (some ⟨w.heap.size, 0, none⟩))) (w.alloc (.cells (hdC hdZ) 27)) := by
  unfold execOp
  rw [ho]
  kernel_rfl
theorem execBuildHn {o : Oper} {t : Array Value} {x y : Operand} (h n : Nat) (w : World) (ho : o.op = .build 27 #[(0, x), (3, y)]) (hx : evS t x = .int .u32 (h : Int)) (hy : evS t y = .int .u64 (n : Int)) :
    (execOp (evS t) o).run Try.prog w = .ok (.value (.agg (hdC ⟨h, List.replicate 32 0, List.replicate 32 0, n⟩))) w := by
  have hr := run_buildHn (h : Int) (n : Int) w h n rfl rfl
  unfold execOp
  simp [ho, hx, hy, hr, Result.andThen_ok]
theorem execBuildH0 {o : Oper} {t : Array Value} (w : World) (ho : o.op = .build 27 #[]) : (execOp (evS t) o).run Try.prog w = .ok (.value (.agg (hdC hdZ))) w := by
  have hr := run_buildH0 w
  unfold execOp
  simp [ho, hr, Result.andThen_ok]
set_option maxRecDepth 100000 in
set_option maxHeartbeats 2000000 in
theorem refGet17_any (c : Cu) (w : World) :
    Calls Try.prog 10 #[.agg #[.string c.b, .int .i64 c.e]] w fun e w' => e = .returned (.tuple #[.agg (hdC (gH c)), .agg #[.string (rawR c 76).2.b, .int .i64 (rawR c 76).2.e]]) ∧ Kept w w' := by
  have HRw : Hid (∀ w, _) := Lib.hid fun w => refRaw8_any c 76 w
  have h76 := rawR_76 c
  have hg : gH c = if (rawR c 76).1.size = 0 then hdZ else hdT (rawR c 76).1 := rfl
  rw [hg]
  clear hg
  have hsz : (rawR c 76).1.size ≤ maxLen := by rcases h76 with h | h <;> rw [h] <;> unfold maxLen <;> omega
  generalize (rawR c 76).1 = s at HRw h76 hsz ⊢
  generalize (rawR c 76).2 = d at HRw ⊢
  obtain ⟨X, hX⟩ : ∃ X, X = if s.size = 0 then hdZ else hdT s := ⟨_, rfl⟩
  rw [← hX]
  replace hX := Lib.hid hX
  have R1 := Lib.hid (((Rowz.new w #[.string c.b, .int .i64 c.e] 35).alloc (.cells (hdC hdZ) 27)).alloc (.cells #[.string noB, .int .i64 0] 35))
  have R2 := Lib.hid ((Rowz.newEq1 w (.cells #[.string c.b, .int .i64 c.e] 35) _ (hdC hdZ) 27 rfl).alloc (.cells #[.string noB, .int .i64 0] 35))
  have R3 := Lib.hid (Rowz.newEq1 (w.alloc (.cells #[.string c.b, .int .i64 c.e] 35)) (.cells (hdC hdZ) 27) _ #[.string noB, .int .i64 0] 35 rfl)
  have b1 : (w.alloc (.cells #[.string c.b, .int .i64 c.e] 35)).heap.size + 1 = w.heap.size + 1 + 1 := by simp
  rw [b1] at R3
  have K1 := Lib.hid ((((Kept.refl w).alloc (.cells #[.string c.b, .int .i64 c.e] 35)).alloc (.cells (hdC hdZ) 27)).alloc (.cells #[.string noB, .int .i64 0] 35))
  clear b1
  go_enter Try.func10, Try.ntmps10
  go_wp2_with (first
    | (refine wpList_exec 2 rfl (by rfl) _ _ (execAllocHd _ rfl) ?_)
    | (refine park_at 9 rfl ?_))
  change Parked (wpList _ _ _ _ _ (((w.alloc (.cells #[.string c.b, .int .i64 c.e] 35)).alloc (.cells (hdC hdZ) 27)).alloc (.cells #[.string noB, .int .i64 0] 35)))
  generalize ((w.alloc (.cells #[.string c.b, .int .i64 c.e] 35)).alloc (.cells (hdC hdZ) 27)).alloc (.cells #[.string noB, .int .i64 0] 35) = v1 at R1 R2 R3 K1 ⊢
  refine unpark ?_
  refine wpList_exec 9 rfl (by rfl) (.agg #[.string c.b, .int .i64 c.e]) _ (execLoadRow 35 rfl w.heap.size rfl _ 35 _ R1.out Try.underlying35 rfl (infoC _ _)) ?_
  go_wp2_with fail
  refine (HRw.out v1).mono ?_
  rintro e v2 ⟨rfl, k2⟩
  replace R2 := Lib.hid (R2.out.kept (Grown.kept k2))
  replace R3 := Lib.hid (R3.out.kept (Grown.kept k2))
  have K2 := Lib.hid (K1.out.trans (Grown.kept k2))
  clear k2 K1 R1 HRw
  obtain ⟨g5, hg5⟩ : ∃ g, g = v2.heap.size := ⟨_, rfl⟩
  have HG : Hid (w.heap.size + 1 + 1 < g5) := Lib.hid (by rw [hg5]; exact R3.out.lt)
  by_cases h0 : s.size = 0
  · have hX' : X = hdZ := by rw [hX.out, if_pos h0]
    subst hX'
    clear hX
    obtain rfl := size0 h0
    have hE := isE_yes
    go_wp2_with (refine wpList_store_made rfl 35 _ _ rfl _ _ #[.string d.b, .int .i64 d.e] rfl rfl 35 _ rfl (infoC _ _) rfl (by simp [Value.oneCell']) ?_; intro v3 R5 k3)
    rw [← hg5] at R5 ⊢
    clear hg5
    have r2 : Rowz v3.drew (w.heap.size + 1) (hdC hdZ) 27 := R2.out.kept k3.out
    have r3 : Rowz v3.drew (w.heap.size + 1 + 1) #[.string noB, .int .i64 0] 35 := R3.out.kept k3.out
    have r5 : Rowz v3.drew g5 #[.string d.b, .int .i64 d.e] 35 := R5.out
    have kk : Kept w v3.drew := K2.out.trans k3.out
    refine wp_region_held_drew (S := fun w' => Kept w w' ∧ Rowz w' g5 #[.string d.b, .int .i64 d.e] 35) (by kernel_rfl) ⟨kk, r5⟩ (fun _ => ?_)
    clear R2 R3 R5 K2 k3
    generalize v3.drew = u at r2 r3 r5 kk ⊢
    refine wpAnyH_take1 0 15 (.agg (hdC hdZ)) rfl rfl (by kernel_rfl) (by kernel_rfl) (by kernel_rfl) (fun _ _ _ h => h) ⟨kk, r5⟩ (yieldsIf_exec (by rfl) fun w' hw' => execBuildH0 w' rfl) ?_
    simp only [List.setIfInBounds_toArray, List.set_cons_zero, List.set_cons_succ]
    refine wpAnyH_take1 1 16 (.agg #[.string d.b, .int .i64 d.e]) rfl rfl (by kernel_rfl) (by kernel_rfl) (by kernel_rfl) (fun _ _ _ h => h) ⟨kk, r5⟩ (yieldsIf_exec (by rfl) fun w' hw' => execLoadRow 35 rfl g5 rfl _ 35 _ hw'.2 Try.underlying35 rfl (infoC _ _)) ?_
    simp only [List.setIfInBounds_toArray, List.set_cons_zero, List.set_cons_succ]
    refine wpAnyH_ready (rs := [2]) (by kernel_rfl) (by simp) (AllReadyH.cons rfl (fun K hK => ?_) AllReadyH.nil)
    rw [if_pos (by rfl)]
    refine wp_store_row 27 _ _ rfl (w.heap.size + 1) (hdC hdZ) rfl rfl 27 (hdC hdZ) r2 (info_hdr _) rfl (hdC_one _) ?_
    have k4 := kk.setRow (g := w.heap.size + 1) (by omega) (hdC hdZ)
    have q2 := r2.row (D := hdC hdZ)
    have q3 := r3.rowOther (D := hdC hdZ) (k := w.heap.size + 1) (by omega)
    have q5 := r5.rowOther (D := hdC hdZ) (k := w.heap.size + 1) (by have := HG.out; omega)
    generalize u.setRow (w.heap.size + 1) (hdC hdZ) = u2 at k4 q2 q3 q5 ⊢
    refine hK.out _ _ ⟨k4, q5⟩ (fun _ => ?_)
    clear hK K
    simp only [Act.put]
    refine wpAnyH_ready (rs := [3]) (by kernel_rfl) (by simp) (AllReadyH.cons rfl (fun K hK => ?_) AllReadyH.nil)
    rw [if_pos (by rfl)]
    refine wp_store_row 35 _ _ rfl (w.heap.size + 1 + 1) #[.string d.b, .int .i64 d.e] rfl rfl 35 #[.string noB, .int .i64 0] q3 (infoC _ _) rfl (by simp [Value.oneCell']) ?_
    have k5 := k4.setRow (g := w.heap.size + 1 + 1) (by omega) #[.string d.b, .int .i64 d.e]
    have y2 := q2.rowOther (D := #[.string d.b, .int .i64 d.e]) (k := w.heap.size + 1 + 1) (by omega)
    have y3 := q3.row (D := #[.string d.b, .int .i64 d.e])
    have y5 := q5.rowOther (D := #[.string d.b, .int .i64 d.e]) (k := w.heap.size + 1 + 1) (by have := HG.out; omega)
    generalize u2.setRow (w.heap.size + 1 + 1) #[.string d.b, .int .i64 d.e] = u3 at k5 y2 y3 y5 ⊢
    refine hK.out _ _ ⟨k5, y5⟩ (fun _ => ?_)
    clear hK K
    simp only [Act.put]
    refine wpAnyH_done (by kernel_rfl) ?_ _
    have Y2 := Lib.hid y2
    have Y3 := Lib.hid y3
    have KF := Lib.hid k5
    clear r2 r3 r5 kk k4 q2 q3 q5 k5 y2 y3 y5
    go_wp2_with fail
    exact bodyPost_ret (results_row_row Try.results10 _ _ (w.heap.size + 1) (w.heap.size + 1 + 1) 27 35 _ _ _ _ rfl rfl Y2.out Y3.out Try.underlying27 rfl (info_hdr _) Try.underlying35 rfl (infoC _ _)) rfl ⟨rfl, KF.out⟩
  · have hX' : X = hdT s := by rw [hX.out, if_neg h0]
    clear hX
    have h76' : s.size = 76 := by omega
    have hE := isE_no h0
    have HT1 : Hid (∀ w, Calls Try.prog 22 #[.string s, .int .i64 0, .int .i64 4] w fun e w' => e = .returned (.int .u64 ((tkz s ((0 : Nat) : Int) 4 : Nat) : Int)) ∧ w = w') := Lib.hid fun w => refTake_any s ((0 : Nat) : Int) 4 w hsz (by omega) (by omega) (by omega)
    have HT2 : Hid (∀ w, Calls Try.prog 22 #[.string s, .int .i64 68, .int .i64 8] w fun e w' => e = .returned (.int .u64 ((tkz s ((68 : Nat) : Int) 8 : Nat) : Int)) ∧ w = w') := Lib.hid fun w => refTake_any s ((68 : Nat) : Int) 8 w hsz (by omega) (by omega) (by omega)
    have hHd : hdT s = ⟨tkz s ((0 : Nat) : Int) 4, l32 s 4, l32 s 36, tkz s ((68 : Nat) : Int) 8⟩ := rfl
    have hlt : tkz s ((0 : Nat) : Int) 4 < 4294967296 := Nat.lt_of_lt_of_le (tkz_lt s _ 4) (by decide)
    rw [hHd] at hX'
    clear hHd
    generalize tkz s ((0 : Nat) : Int) 4 = H at HT1 hlt hX'
    generalize tkz s ((68 : Nat) : Int) 8 = N at HT2 hX'
    subst hX'
    have hw : IntKind.u32.wrap (H : Int) = (H : Int) := by simp only [IntKind.wrap, IntKind.signed, IntKind.bits]; simp; omega
    have hb1 : Hid (∀ k (hk : k < 32), (((l32 s 4).getD k 0).toNat : Nat) = (s[4 + k]'(by omega)).toNat) := Lib.hid fun k hk => l32_getD s 4 k hk (by omega)
    have hb2 : Hid (∀ k (hk : k < 32), (((l32 s 36).getD k 0).toNat : Nat) = (s[36 + k]'(by omega)).toNat) := Lib.hid fun k hk => l32_getD s 36 k hk (by omega)
    clear h0 h76 hlt
    go_wp2_with (first
      | (refine wpList_store_made rfl 35 _ _ rfl _ _ #[.string d.b, .int .i64 d.e] rfl rfl 35 _ rfl (infoC _ _) rfl (by simp [Value.oneCell']) ?_; intro v3 R5 k3))
    rw [← hg5] at R5 ⊢
    clear hg5
    replace R2 := Lib.hid (R2.out.kept k3.out)
    replace R3 := Lib.hid (R3.out.kept k3.out)
    have K3 := Lib.hid (K2.out.trans k3.out)
    clear k3 K2
    refine (HT1.out v3).mono ?_
    rintro e v4 ⟨rfl, rfl⟩
    go_wp2_with fail
    refine (HT2.out v3).mono ?_
    rintro e v4 ⟨rfl, rfl⟩
    clear HT1 HT2
    go_wp2_with (first
      | (refine wpList_exec 22 rfl (by rfl) _ _ (execBuildHn H N _ rfl rfl rfl) ?_)
      | (refine wpList_exec 6 rfl (by rfl) _ _ (execAllocHd _ rfl) ?_)
      | (refine wpList_store_made rfl 27 _ _ rfl _ _ (hdC ⟨H, List.replicate 32 0, List.replicate 32 0, N⟩) rfl rfl 27 _ rfl (info_hdr _) (by rw [hdC_size, hdC_size]) (hdC_one _) ?_; intro v4 R6 k4))
    obtain ⟨g6, hg6⟩ : ∃ g, g = v3.heap.size := ⟨_, rfl⟩
    have HG6 : Hid (v3.heap.size ≤ g6) := Lib.hid (by omega)
    rw [← hg6] at R6 ⊢
    clear hg6
    rw [hdC_take0 H N (l32 s 4) (l32 s 36)] at R6
    have hlL := l32_length s 4
    have hlT := l32_length s 36
    generalize hLL : l32 s 4 = LL at R6 hb1 hlL ⊢
    generalize hLT : l32 s 36 = LT at R6 hb2 hlT ⊢
    replace hLL := Lib.hid hLL
    replace hLT := Lib.hid hLT
    go_loopw [7] (fun i wr => ∃ k : Nat, k ≤ 32 ∧ i = .int .i64 k ∧ Hid (Rowz wr g6 (hdC ⟨H, LL.take k, LT.take k, N⟩) 27) ∧ Hid (Kept v3 wr)) (fun i _ => 32 - (intOf i).toNat)
    case atStart => exact ⟨0, by omega, rfl, R6, k4⟩
    case round =>
      clear R6 k4
      obtain ⟨k, hk, rfl, R6, KK⟩ := hrel
      by_cases hlt : k < 32
      · have hd1 : decide ((k : Int) < 32) = true := decide_eq_true (by omega)
        have hd1' : decide (k < 32) = true := decide_eq_true hlt
        have x1 : 4 + k < s.size := by omega
        have x2 : 36 + k < s.size := by omega
        have c1 : wr.cell? ⟨g6, 1 + k, none⟩ = some (.int .u8 ((((LL.take k).getD k 0).toNat : Nat) : Int)) := by rw [R6.out.cell]; exact hdC_l _ k hlt
        have f1 := R6.out.free (1 + k)
        go_wp2_with (refine park_at 38 rfl ?_)
        have R7 : Hid (Rowz (wr.setCell ⟨g6, 1 + k, none⟩ (.int .u8 (((s[4 + k]'x1).toNat : Nat) : Int))) g6 (hdC ⟨H, LL.take (k + 1), LT.take k, N⟩) 27) := Lib.hid (by
          have h := Rowz.set R6.out (1 + k) (.int .u8 (((s[4 + k]'x1).toNat : Nat) : Int))
          rwa [hdC_setl H N LL (LT.take k) k hlt (((s[4 + k]'x1).toNat : Nat) : Int) (by rw [hb1.out k hlt])] at h)
        have K7 := Lib.hid (KK.out.setCell (a := ⟨g6, 1 + k, none⟩) HG6.out (.int .u8 (((s[4 + k]'x1).toNat : Nat) : Int)))
        generalize wr.setCell ⟨g6, 1 + k, none⟩ (.int .u8 (((s[4 + k]'x1).toNat : Nat) : Int)) = wa at R7 K7 ⊢
        clear c1 f1 R6 KK
        have c2 : wa.cell? ⟨g6, 33 + k, none⟩ = some (.int .u8 ((((LT.take k).getD k 0).toNat : Nat) : Int)) := by rw [R7.out.cell]; exact hdC_t _ k hlt
        have f2 := R7.out.free (33 + k)
        refine unpark ?_
        go_wp2_with fail
        go_roundw
        case rel =>
          refine ⟨k + 1, by omega, by go_num, Lib.hid ?_, Lib.hid (K7.out.setCell (a := ⟨g6, 33 + k, none⟩) HG6.out _)⟩
          have h := Rowz.set R7.out (33 + k) (.int .u8 (((s[36 + k]'x2).toNat : Nat) : Int))
          rwa [hdC_sett H N (LL.take (k + 1)) LT k hlt (((s[36 + k]'x2).toNat : Nat) : Int) (by rw [hb2.out k hlt])] at h
        case measure => simp [intOf]; omega
      · have hd1 : decide ((k : Int) < 32) = false := decide_eq_false (by omega)
        have hd1' : decide (k < 32) = false := decide_eq_false hlt
        obtain rfl : k = 32 := by omega
        have R6' : Hid (Rowz wr g6 (hdC ⟨H, LL, LT, N⟩) 27) := Lib.hid (by have := R6.out; rwa [List.take_of_length_le (by omega), List.take_of_length_le (by omega)] at this)
        clear R6
        go_wp2_with fail
        have r2 : Rowz wr.drew (w.heap.size + 1) (hdC hdZ) 27 := R2.out.kept KK.out
        have r3 : Rowz wr.drew (w.heap.size + 1 + 1) #[.string noB, .int .i64 0] 35 := R3.out.kept KK.out
        have r5 : Rowz wr.drew g5 #[.string d.b, .int .i64 d.e] 35 := R5.out.kept KK.out
        have r6 : Rowz wr.drew g6 (hdC ⟨H, LL, LT, N⟩) 27 := R6'.out
        clear R6'
        have hi : (Try.prog.info? 27).map (·.size) = some (hdC ⟨H, LL, LT, N⟩).size := info_hdr _
        have hs : (hdC hdZ).size = (hdC ⟨H, LL, LT, N⟩).size := by rw [hdC_size, hdC_size]
        have h1 : (hdC ⟨H, LL, LT, N⟩).all (·.oneCell') = true := hdC_one _
        obtain ⟨C, hC⟩ : ∃ C, C = hdC ⟨H, LL, LT, N⟩ := ⟨_, rfl⟩
        rw [← hC] at r6 hi hs h1
        replace hC := Lib.hid hC
        have kk : Kept w wr.drew := K3.out.trans KK.out
        have hg6 : w.heap.size + 1 + 1 < g6 := by have := R3.out.lt; have := HG6.out; omega
        have hg5 := HG.out
        refine wp_region_held_drew (S := fun w' => Kept w w' ∧ Rowz w' g5 #[.string d.b, .int .i64 d.e] 35 ∧ Rowz w' g6 C 27) (by kernel_rfl) ⟨kk, r5, r6⟩ (fun _ => ?_)
        clear R2 R3 R5 K3 KK HG HG6
        generalize wr.drew = u at r2 r3 r5 r6 kk ⊢
        refine wpAnyH_take1 0 41 (.agg C) rfl rfl (by kernel_rfl) (by kernel_rfl) (by kernel_rfl) (fun _ _ _ h => h) ⟨kk, r5, r6⟩ (yieldsIf_exec (by rfl) fun w' hw' => execLoadRow 27 rfl g6 rfl _ 27 _ hw'.2.2 Try.underlying27 rfl hi) ?_
        simp only [List.setIfInBounds_toArray, List.set_cons_zero, List.set_cons_succ]
        refine wpAnyH_take1 1 42 (.agg #[.string d.b, .int .i64 d.e]) rfl rfl (by kernel_rfl) (by kernel_rfl) (by kernel_rfl) (fun _ _ _ h => h) ⟨kk, r5, r6⟩ (yieldsIf_exec (by rfl) fun w' hw' => execLoadRow 35 rfl g5 rfl _ 35 _ hw'.2.1 Try.underlying35 rfl (infoC _ _)) ?_
        simp only [List.setIfInBounds_toArray, List.set_cons_zero, List.set_cons_succ]
        refine wpAnyH_ready (rs := [2]) (by kernel_rfl) (by simp) (AllReadyH.cons rfl (fun K hK => ?_) AllReadyH.nil)
        rw [if_pos (by rfl)]
        refine wp_store_row 27 _ _ rfl (w.heap.size + 1) C rfl rfl 27 (hdC hdZ) r2 hi hs h1 ?_
        have k4 := kk.setRow (g := w.heap.size + 1) (by omega) C
        have q2 := r2.row (D := C)
        have q3 := r3.rowOther (D := C) (k := w.heap.size + 1) (by omega)
        have q5 := r5.rowOther (D := C) (k := w.heap.size + 1) (by omega)
        have q6 := r6.rowOther (D := C) (k := w.heap.size + 1) (by omega)
        generalize u.setRow (w.heap.size + 1) C = u2 at k4 q2 q3 q5 q6 ⊢
        refine hK.out _ _ ⟨k4, q5, q6⟩ (fun _ => ?_)
        clear hK K
        simp only [Act.put]
        refine wpAnyH_ready (rs := [3]) (by kernel_rfl) (by simp) (AllReadyH.cons rfl (fun K hK => ?_) AllReadyH.nil)
        rw [if_pos (by rfl)]
        refine wp_store_row 35 _ _ rfl (w.heap.size + 1 + 1) #[.string d.b, .int .i64 d.e] rfl rfl 35 #[.string noB, .int .i64 0] q3 (infoC _ _) rfl (by simp [Value.oneCell']) ?_
        have k5 := k4.setRow (g := w.heap.size + 1 + 1) (by omega) #[.string d.b, .int .i64 d.e]
        have y2 := q2.rowOther (D := #[.string d.b, .int .i64 d.e]) (k := w.heap.size + 1 + 1) (by omega)
        have y3 := q3.row (D := #[.string d.b, .int .i64 d.e])
        have y5 := q5.rowOther (D := #[.string d.b, .int .i64 d.e]) (k := w.heap.size + 1 + 1) (by omega)
        have y6 := q6.rowOther (D := #[.string d.b, .int .i64 d.e]) (k := w.heap.size + 1 + 1) (by omega)
        generalize u2.setRow (w.heap.size + 1 + 1) #[.string d.b, .int .i64 d.e] = u3 at k5 y2 y3 y5 y6 ⊢
        refine hK.out _ _ ⟨k5, y5, y6⟩ (fun _ => ?_)
        clear hK K
        simp only [Act.put]
        refine wpAnyH_done (by kernel_rfl) ?_ _
        have Y2 := Lib.hid y2
        have Y3 := Lib.hid y3
        have KF := Lib.hid k5
        clear r2 r3 r5 r6 kk k4 q2 q3 q5 q6 k5 y2 y3 y5 y6
        go_wp2_with fail
        exact bodyPost_ret (results_row_row Try.results10 _ _ (w.heap.size + 1) (w.heap.size + 1 + 1) 27 35 _ _ _ _ rfl rfl Y2.out Y3.out Try.underlying27 rfl hi Try.underlying35 rfl (infoC _ _)) rfl ⟨by rw [hC.out, ← hLL.out, ← hLT.out], KF.out⟩
end Go.Proofs.Ytdidgenenlefiaa
