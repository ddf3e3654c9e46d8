/-
  Contracts of inter.First, inter.Next, inter.Entry. Conditions: at most a thousand entries.
-/
import Derived.Test.YtfadcibmkjpjoaaInterForm
import Derived.Test.YtfadcibmkjpjoaaSlcRep
namespace Go.Proofs.Ytfadcibmkjpjoaa
set_option maxRecDepth 4000
open Go.RowKit

theorem HSl.ofRow {w : World} {g n : Nat} {F : Nat → List UInt8} {T : TypeId} (h : Rowz w g (hC n F) T) (hl : ∀ i, i < n → (F i).length = 32) (hn : n ≤ maxLen) : HSl n F (.slice (.some ⟨g, 0, none⟩) n n) w :=
  ⟨_, _, rfl, Nat.le_refl _, hn, HAt.ofRow h hl⟩
theorem HSl.nil (F : Nat → List UInt8) (w : World) : HSl 0 F (.slice none 0 0) w := ⟨none, 0, rfl, Nat.le_refl _, Nat.zero_le _, HAt.zero _ _ _⟩
set_option maxHeartbeats 400000 in
theorem interFirst_any : InterFirstC 7 := by
  intro l w hl
  have R0 := Lib.hid (Rowz.new w (bC 32 l) 24)
  have K0 := Lib.hid ((Kept.refl w).alloc (.cells (bC 32 l) 24))
  go_enter Try.func7, Try.ntmps7
  go_wp2_with (first
    | (refine wpList_exec 3 rfl (by rfl) _ _ (load_h rfl rfl R0.out) ?_)
    | (refine park_at 4 rfl ?_))
  refine unpark ?_
  generalize w.alloc (.cells (bC 32 l) 24) = v0 at R0 K0 ⊢
  refine wpList_exec 4 rfl (by rfl) (.slice (some ⟨v0.heap.size, 0, none⟩) 1 1) (v0.alloc (.cells (bC 32 l) 24)) (execBuild1 rfl rfl (run_build1h _ _)) ?_
  have R1 := Lib.hid (Rowz.new v0 (bC 32 l) 24)
  have K1 := Lib.hid (K0.out.alloc (.cells (bC 32 l) 24))
  generalize v0.alloc (.cells (bC 32 l) 24) = v1 at R1 K1 ⊢
  go_wp2_with fail
  go_ret
  exact ⟨_, rfl, HSl.ofRow (by rw [hC_one1]; exact R1.out) (fun _ _ => hl) (by decide), K1.out⟩
/-- What Next lays behind one another. -/
theorem nx_row (F : Nat → List UInt8) (n : Nat) (h : List UInt8) (L m : Nat) (hn : 0 < n) (hm : m = if n - 1 < L + 1 then n - 1 else L + 1) :
    hC (L + 1 + (n - m)) (fun i => if i < L + 1 then h else F (m + (i - (L + 1)))) = hC (nxN n L) (nxF F n h L) := by
  have e : L + 1 + (n - m) = nxN n L := by rw [nxN_pos n L hn]; split at hm <;> omega
  rw [e]
  refine hC_congr _ _ _ fun i hi => ?_
  unfold nxF
  rw [nxN_pos n L hn] at hi ⊢
  by_cases a : i < L + 1
  · rw [if_pos a, if_pos (by omega)]
  · rw [if_neg a, if_neg (by omega)]
    split at hm
    · by_cases b : i < n
      · rw [if_pos b]; congr 1; omega
      · rw [if_neg b]; congr 1; omega
    · by_cases b : i < n
      · rw [if_pos b]; congr 1; omega
      · rw [if_neg b]; congr 1; omega
set_option maxRecDepth 100000 in
set_option maxHeartbeats 2000000 in
theorem interNext_any : InterNextC 9 := by
  intro n F v w l a hv hn hh ha1 ha2
  obtain ⟨p, c, rfl, hc, hcm, hF⟩ := hv
  by_cases h0 : n = 0
  · subst h0
    have HN : Hid (nxN 0 (lvlC a) = 0) := Lib.hid rfl
    have HK := Lib.hid ((Kept.refl w).alloc (.cells (bC 32 l) 24))
    clear hF hc hcm hn
    go_enter Try.func9, Try.ntmps9
    go_wp2
    go_ret
    exact ⟨_, rfl, by rw [HN.out]; exact HSl.nil _ _, HK.out⟩
  · have hd0 : ((n : Int) == 0) = false := by simp; omega
    have HL := Lib.hid (lvlC_le a)
    obtain ⟨x1, hx1⟩ : ∃ x, (if (0 : Int) > a then 0 else a) = x := ⟨_, rfl⟩
    have HC : Hid ((if (255 : Int) < x1 then 255 else x1) = ((lvlC a : Nat) : Int)) := Lib.hid (by rw [← hx1]; unfold lvlC; split <;> split <;> (try split) <;> (try split) <;> omega)
    have HX1 := Lib.hid hx1
    clear hx1
    have HG := Lib.hid (nxF_length F n l (lvlC a) hF.length hh (by omega))
    obtain ⟨m, hm⟩ : ∃ m, m = if n - 1 < lvlC a + 1 then n - 1 else lvlC a + 1 := ⟨_, rfl⟩
    have HX := Lib.hid (nx_row F n l (lvlC a) m (by omega) hm)
    have HM : Hid ((if ((n - 1 : Nat) : Int) < ((lvlC a + 1 : Nat) : Int) then ((n - 1 : Nat) : Int) else ((lvlC a + 1 : Nat) : Int)) = (m : Int)) := Lib.hid (by rw [hm]; split <;> split <;> omega)
    have hmn : m < n := by split at hm <;> omega
    have HNN := Lib.hid (nxN_pos n (lvlC a) (by omega))
    have hnx : nxN n (lvlC a) = lvlC a + 1 + (n - m) := by rw [nxN_pos n (lvlC a) (by omega)]; split at hm <;> omega
    have HNX := Lib.hid hnx
    clear hm hnx
    obtain ⟨q, rfl, _⟩ := hF.some (show 0 < n by omega)
    generalize nxF F n l (lvlC a) = G at HG HX ⊢
    generalize nxN n (lvlC a) = M at HG HX HNX HNN ⊢
    generalize lvlC a = L at HL HC HM HX HNX HNN
    have HF := Lib.hid hF
    have H0 := Lib.hid (show 0 < n by omega)
    have HMN := Lib.hid hmn
    have HH := Lib.hid hh
    have hcut := Lib.hid fun u => run_cutH_right q n c m u (by omega) (by omega)
    have R4 := Lib.hid (Rowz.new w (bC 32 l) 24)
    have K4 := Lib.hid ((Kept.refl w).alloc (.cells (bC 32 l) 24))
    clear hF hc hcm h0 hh hmn
    go_enter Try.func9, Try.ntmps9
    go_wp2_with (first
      | (refine wpList_exec 13 rfl (by rfl) _ _ (execMaxI a 0 x1 HX1.out _ rfl rfl rfl) ?_)
      | (refine wpList_exec 14 rfl (by rfl) _ _ (execMinI x1 255 (L : Int) HC.out _ rfl rfl rfl) ?_)
      | (refine wpList_exec 15 rfl (by rfl) _ _ (execAddHH L 1 (by have := HL.out; omega) _ rfl rfl rfl) ?_)
      | (refine wpList_exec 20 rfl (by rfl) _ _ (execPredH n H0.out (by omega) _ rfl rfl) ?_)
      | (refine wpList_exec 21 rfl (by rfl) _ _ (execMinI ((L + 1 : Nat) : Int) ((n - 1 : Nat) : Int) (m : Int) HM.out _ rfl rfl rfl) ?_)
      | (refine wpList_exec 22 rfl (by rfl) _ _ (execSliceH _ _ _ _ _ rfl rfl rfl rfl rfl (hcut.out _)) ?_)
      | (refine wpList_exec 23 rfl (by rfl) _ _ (load_h rfl rfl R4.out) ?_)
      | (refine park_at 24 rfl ?_))
    refine unpark ?_
    generalize w.alloc (.cells (bC 32 l) 24) = v0 at R4 K4 ⊢
    refine wpList_exec 24 rfl (by rfl) (.slice (some ⟨v0.heap.size, 0, none⟩) 1 1) (v0.alloc (.cells (bC 32 l) 24)) (execBuild1 rfl rfl (run_build1h _ _)) ?_
    have R5 := Lib.hid (Rowz.new v0 (bC 32 l) 24)
    have K5 := Lib.hid (K4.out.alloc (.cells (bC 32 l) 24))
    generalize v0.heap.size = g5 at R5 ⊢
    generalize v0.alloc (.cells (bC 32 l) 24) = v1 at R5 K5 ⊢
    have HR := Lib.hid (slicesRepeat_any l (L + 1) g5 1 v1 HH.out R5.out (by omega) (by have := HL.out; omega))
    go_wp2_with (first
      | (go_at_call 12; refine HR.out.mono ?_; rintro e w6 ⟨g, rfl, hb6, R6, K6⟩; replace R6 := Lib.hid R6; replace K6 := Lib.hid (K5.out.trans K6); replace hb6 := Lib.hid hb6)
      | (refine park_at 28 rfl ?_))
    refine unpark ?_
    obtain ⟨i, hi, z, hz, hs32, hb32, hzs⟩ := info_hashes
    have O6 : Hid (w6.ownsRow w.heap.size 24 32 (.slice (some ⟨g, 0, none⟩) (L + 1) (L + 1)) (L + 1) (hC (L + 1) (fun _ => l)).toList) := Lib.hid (ownsRow_hashes R6.out (Nat.le_trans K5.out.size hb6.out) (by have := HL.out; unfold maxLen; omega))
    have hFm := Lib.hid ((HF.out.kept K6.out).right m (Nat.le_of_lt HMN.out))
    refine wpList_append_own w6 rfl _ _ 22 rfl w.heap.size 24 i z 32 32 Try.underlying22 hi hz hs32 hb32 hzs (by decide) _ (L + 1) (hC (L + 1) (fun _ => l)).toList rfl O6.out (q.add (m * 32)) (n - m) (c - m) (hC (n - m) (fun i => F (m + i))).toList rfl (by rw [Array.length_toList, hC_size]) (fun j u hj => hFm.out.cells j u hj) (hC_one _ _) (by have := HL.out; unfold maxLen; omega) (by have := HL.out; omega) K6.out.size ?_
    intro v' w' ho hgr _
    have KF := Lib.hid (K6.out.grownBy hgr fun k hk' => (O6.out.lt k hk').1)
    rw [hC_cat, HX.out, ← HNX.out] at ho
    have HV : Hid (HSl M G v' w') := Lib.hid (HAt.ofOwns ho fun i _ => HG.out i)
    clear ho hgr hi hz hs32 hb32 hzs
    go_wp2_with fail
    go_ret
    exact ⟨_, rfl, HV.out, KF.out⟩
theorem run_build_zH (w : World) : (Instr.build 24 #[]).run Try.prog w = .ok (.agg (bC 32 zH)) w := by kernel_rfl
theorem execBuild_zH {o : Oper} {t : Array Value} (w : World) (ho : o.op = .build 24 #[]) : (execOp (evS t) o).run Try.prog w = .ok (.value (.agg (bC 32 zH))) w := by
  unfold execOp
  rw [ho]
  simp [run_build_zH, Result.andThen]
theorem execAlloc_zH {o : Oper} {t : Array Value} (w : World) (ho : o.op = .alloc 24) : (execOp (evS t) o).run Try.prog w = .ok (.value (.pointer (some ⟨w.heap.size, 0, none⟩))) (w.alloc (.cells (bC 32 zH) 24)) := by
  unfold execOp
  rw [ho]
  kernel_rfl
set_option maxRecDepth 100000 in
set_option maxHeartbeats 1000000 in
theorem interEntry_any : InterEntryC 11 := by
  intro n F v w a hv hn ha1 ha2
  obtain ⟨p, c, rfl, hc, hcm, hF⟩ := hv
  have R4 := Lib.hid (Rowz.new w (bC 32 zH) 24)
  have K4 := Lib.hid ((Kept.refl w).alloc (.cells (bC 32 zH) 24))
  have HG := Lib.hid (Nat.le_refl w.heap.size)
  by_cases h0 : 0 ≤ a ∧ 0 < n
  · obtain ⟨ha0, hn0⟩ := h0
    obtain ⟨q, rfl, _⟩ := hF.some hn0
    obtain ⟨m, hm⟩ : ∃ m, m = if a.toNat < n then a.toNat else n - 1 := ⟨_, rfl⟩
    have EF : enF F n a = F m := by unfold enF; rw [if_pos ⟨ha0, hn0⟩, hm]
    have EB : enB n a = true := decide_eq_true ⟨ha0, hn0⟩
    have hmn : m < n := by split at hm <;> omega
    have HM : Hid ((if ((n - 1 : Nat) : Int) < a then ((n - 1 : Nat) : Int) else a) = (m : Int)) := Lib.hid (by rw [hm]; split <;> split <;> omega)
    have hd0 : ((n : Int) == 0) = false := by simp; omega
    have hd1 : decide (a < 0) = false := decide_eq_false (by omega)
    have HF := Lib.hid (hF.kept K4.out)
    have HP := Lib.hid hn0
    rw [EF, EB]
    clear EF EB hF hc hcm hm hn0 ha0
    go_enter Try.func11, Try.ntmps11
    go_wp2_with (first
      | (refine wpList_exec 4 rfl (by rfl) _ _ (execAlloc_zH _ rfl) ?_; generalize w.alloc (.cells (bC 32 zH) 24) = v0 at R4 K4 HF ⊢)
      | (refine wpList_exec 18 rfl (by rfl) _ _ (execPredH n HP.out (by omega) _ rfl rfl) ?_)
      | (refine wpList_exec 19 rfl (by rfl) _ _ (execMinI a ((n - 1 : Nat) : Int) (m : Int) HM.out _ rfl rfl rfl) ?_)
      | (refine wpList_exec 20 rfl (by rfl) _ _ (execIndexH q n c m hmn _ rfl rfl rfl) ?_)
      | (refine wpList_exec 21 rfl (by rfl) _ _ (load_at m rfl rfl HF.out hmn) ?_)
      | (refine wpList_store_row rfl 24 _ _ rfl _ (bC 32 (F m)) rfl rfl 24 (bC 32 zH) R4.out (info_hash _) (by rw [bC_size, bC_size]) (bC_one _ _) ?_))
    exact bodyPost_ret (results_row_tmp Try.results11 _ _ _ 24 _ _ _ rfl rfl R4.out.row Try.underlying24 rfl (info_hash _)) rfl ⟨rfl, K4.out.setRow HG.out _⟩
  · have EF : enF F n a = zH := by unfold enF; rw [if_neg h0]
    have EB : enB n a = false := decide_eq_false h0
    have hd0 : Hid (((n : Int) == 0) = true ∨ (((n : Int) == 0) = false ∧ decide (a < 0) = true)) := Lib.hid (by
      rcases Nat.eq_zero_or_pos n with e | e
      · exact .inl (by simp; omega)
      · exact .inr ⟨by simp; omega, decide_eq_true (by omega)⟩)
    rw [EF, EB]
    clear EF EB hF hc hcm h0
    rcases hd0.out with d0 | ⟨d0, d1⟩
    all_goals
      go_enter Try.func11, Try.ntmps11
      go_wp2_with (first
        | (refine wpList_exec 4 rfl (by rfl) _ _ (execAlloc_zH _ rfl) ?_; generalize w.alloc (.cells (bC 32 zH) 24) = v0 at R4 K4 ⊢)
        | (refine wpList_exec 13 rfl (by rfl) _ _ (execBuild_zH _ rfl) ?_)
        | (refine wpList_store_row rfl 24 _ _ rfl _ (bC 32 zH) rfl rfl 24 (bC 32 zH) R4.out (info_hash _) rfl (bC_one _ _) ?_))
      exact bodyPost_ret (results_row_tmp Try.results11 _ _ _ 24 _ _ _ rfl rfl R4.out.row Try.underlying24 rfl (info_hash _)) rfl ⟨rfl, K4.out.setRow HG.out _⟩
end Go.Proofs.Ytfadcibmkjpjoaa
