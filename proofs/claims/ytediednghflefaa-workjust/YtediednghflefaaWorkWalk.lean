/-
  Contracts of package work: Ok, Most, Level. Conditions: numbers of 256 bits.
-/
import Derived.Test.YtediednghflefaaWorkForm
import Derived.Test.YtediednghflefaaWideWalkB
import Derived.Test.YtediednghflefaaGuardLib
namespace Go.Proofs.Ytediednghflefaa
set_option maxRecDepth 4000
open Go.RowKit

theorem bl_lo (x : Nat) (h : x ≠ 0) : 2 ^ (bl x - 1) ≤ x := by
  unfold bl
  rw [if_neg h, Nat.add_sub_cancel]
  exact Nat.log2_self_le h
theorem bl_hi (x : Nat) : x < 2 ^ bl x := by
  unfold bl
  split
  · omega
  · exact Nat.lt_log2_self
theorem bl_pos (x : Nat) (h : x ≠ 0) : 0 < bl x := by
  unfold bl
  rw [if_neg h]
  omega
theorem bl_mono (A T : Nat) (hA : A ≠ 0) (h : A ≤ T) : bl A ≤ bl T := by
  apply Classical.byContradiction
  intro hn
  have h1 := bl_lo A hA
  have h2 := bl_hi T
  have h3 : 2 ^ bl T ≤ 2 ^ (bl A - 1) := Nat.pow_le_pow_right (by decide) (by omega)
  omega
theorem div_pow_le (T m n : Nat) (h : m ≤ n) : T / 2 ^ n ≤ T / 2 ^ m := Nat.div_le_div_left (Nat.pow_le_pow_right (by decide) h) (Nat.pow_pos (by decide))
theorem lvl_at (A T D : Nat) (hA : A ≠ 0) (hT : T < 2 ^ 256) (hD : bl A + D = bl T) (h : A ≤ T / 2 ^ D) : lvl A T = (D : Int) := by
  have hb := bl_le T 256 hT
  have hp := bl_pos A hA
  rw [lvl_eq A T (D + 1) (by omega) (fun m hm => Nat.le_trans h (div_pow_le T m D (by omega))) (fun _ hle => ?_)]
  · omega
  · have h1 := Nat.le_trans (bl_lo A hA) hle
    rw [Nat.le_div_iff_mul_le (Nat.pow_pos (by decide)), ← Nat.pow_add] at h1
    have h2 := bl_hi T
    rw [show bl A - 1 + (D + 1) = bl T by omega] at h1
    omega
theorem lvl_under (A T D : Nat) (hA : A ≠ 0) (hT : T < 2 ^ 256) (hD : bl A + D = bl T) (h : ¬ A ≤ T / 2 ^ D) : lvl A T = (D : Int) - 1 := by
  have hb := bl_le T 256 hT
  have hp := bl_pos A hA
  have hT0 : T ≠ 0 := fun e => by
    rw [e] at hD
    have : bl 0 = 0 := bl_zero
    omega
  refine lvl_eq A T D (by omega) (fun m hm => ?_) (fun _ => h)
  rw [Nat.le_div_iff_mul_le (Nat.pow_pos (by decide))]
  have h1 := bl_lo T hT0
  have h2 := bl_hi A
  have h3 : 2 ^ bl A * 2 ^ m ≤ 2 ^ (bl T - 1) := by
    rw [← Nat.pow_add]
    exact Nat.pow_le_pow_right (by decide) (by omega)
  have h4 : A * 2 ^ m ≤ 2 ^ bl A * 2 ^ m := Nat.mul_le_mul_right _ (Nat.le_of_lt h2)
  omega
theorem lvl_no (A T : Nat) (h : ¬ A ≤ T) : lvl A T = -1 :=
  lvl_eq A T 0 (by omega) (fun m h => absurd h (by omega)) (fun _ => by rwa [Nat.pow_zero, Nat.div_one])
theorem lvl_zero (T : Nat) : lvl 0 T = 255 := lvl_eq 0 T 256 (by omega) (fun _ _ => Nat.zero_le _) (fun h => absurd h (by omega))
theorem be32_inj (A B : Nat) (hA : A < 2 ^ 256) (hB : B < 2 ^ 256) (h : be 32 A = be 32 B) : A = B := by
  apply lmb_inj A B hA hB
  intro i hi
  rw [← take_limb A i hi, ← take_limb B i hi]
  simp only [beS, h]
theorem zero_bytes : List.replicate 32 (0 : UInt8) = be 32 0 := by decide +kernel
theorem bC_zero32 : bC 32 [] = bC 32 (be 32 0) := by rw [← zero_bytes]; kernel_rfl
theorem run_build_hash0 (w : World) : (Instr.build 23 #[]).run Try.prog w = .ok (.agg (bC 32 [])) w := by kernel_rfl
theorem execBuild0h {o : Oper} {t : Array Value} (w : World) (ho : o.op = .build 23 #[]) : (execOp (evS t) o).run Try.prog w = .ok (.value (.agg (bC 32 (be 32 0)))) w := by
  have hr := run_build_hash0 w
  rw [bC_zero32] at hr
  unfold execOp
  simp [ho, hr, Result.andThen_ok]
theorem loadH19 {o : Oper} {t : Array Value} {x : Operand} {w : World} {g : Nat} {l : List UInt8} (ho : o.op = .load 23 x) (hx : evS t x = .pointer (some ⟨g, 0, none⟩)) (hg : Rowz w g (bC 32 l) 23) :
    (execOp (evS t) o).run Try.prog w = .ok (.value (.agg (bC 32 l))) w :=
  execLoadRow 23 ho g hx _ 23 _ hg Try.underlying23 rfl (infoH _)

set_option maxRecDepth 100000 in
set_option maxHeartbeats 1000000 in
theorem workOk_any : WorkOkC 6 := by
  intro A T w hA hT
  have hb := cmp_le A T
  have HC : Hid (∀ w, _) := Lib.hid fun w => wideCmp_any A T w hA hT
  generalize cmpN A T = q at HC hb
  generalize decide (A ≤ T) = b at hb ⊢
  have R2 := Lib.hid ((Rowz.new w (bC 32 (be 32 A)) 23).alloc (.cells (bC 32 (be 32 T)) 23))
  have R3 := Lib.hid (Rowz.newEq1 w (.cells (bC 32 (be 32 A)) 23) _ (bC 32 (be 32 T)) 23 rfl)
  have K1 := Lib.hid (((Kept.refl w).alloc (.cells (bC 32 (be 32 A)) 23)).alloc (.cells (bC 32 (be 32 T)) 23))
  go_enter Try.func6, Try.ntmps6
  go_wp2_with fail
  generalize (w.alloc (.cells (bC 32 (be 32 A)) 23)).alloc (.cells (bC 32 (be 32 T)) 23) = v1 at R2 R3 K1 ⊢
  refine wp_region_table [(5, .is (.agg (bC 32 (be 32 A)))), (6, .is (.agg (nC A 4))), (7, .is (.agg (bC 32 (be 32 T)))), (8, .is (.agg (nC T 4))), (9, .is (.int .i64 q)), (10, .is (.bool b)), (4, .is (.bool b))] (by kernel_rfl) (by kernel_rfl) ?_ ?_
  · refine ⟨fun t w1 hf hk hp => ?_, ?_⟩
    · have h2 : slot t 2 = .pointer (some ⟨w.heap.size, 0, none⟩) := hf 2 (by kernel_rfl)
      clear hf hp
      refine stepAt_plain rfl ?_
      have hq0 := Rowz.load (R2.out.kept hk) 32 5 Try.underlying23 (infoH _)
      exact stepOK_sem (.agg (bC 32 (be 32 A))) (by simp only [execOp, evS, h2]) hq0 rfl
    refine ⟨fun t w1 hf hk hp => ?_, ?_⟩
    · have h5 : slot t 5 = .agg (bC 32 (be 32 A)) := hp 5 (by kernel_rfl)
      clear hf hp
      refine stepAt_plain rfl ?_
      refine stepOK_call #[.agg (bC 32 (be 32 A))] rfl (by simp only [List.map_toArray, List.map_cons, List.map_nil, evS, h5]) (by go_simp) ((wideOf_any A w1).mono fun e w' ⟨he, hk'⟩ => ⟨_, he, Grown.kept hk', rfl⟩)
    refine ⟨fun t w1 hf hk hp => ?_, ?_⟩
    · have h3 : slot t 3 = .pointer (some ⟨w.heap.size + 1, 0, none⟩) := hf 3 (by kernel_rfl)
      clear hf hp
      refine stepAt_plain rfl ?_
      have hq0 := Rowz.load (R3.out.kept hk) 32 5 Try.underlying23 (infoH _)
      exact stepOK_sem (.agg (bC 32 (be 32 T))) (by simp only [execOp, evS, h3]) hq0 rfl
    refine ⟨fun t w1 hf hk hp => ?_, ?_⟩
    · have h7 : slot t 7 = .agg (bC 32 (be 32 T)) := hp 7 (by kernel_rfl)
      clear hf hp
      refine stepAt_plain rfl ?_
      refine stepOK_call #[.agg (bC 32 (be 32 T))] rfl (by simp only [List.map_toArray, List.map_cons, List.map_nil, evS, h7]) (by go_simp) ((wideOf_any T w1).mono fun e w' ⟨he, hk'⟩ => ⟨_, he, Grown.kept hk', rfl⟩)
    refine ⟨fun t w1 hf hk hp => ?_, ?_⟩
    · have h6 : slot t 6 = .agg (nC A 4) := hp 6 (by kernel_rfl)
      have h8 : slot t 8 = .agg (nC T 4) := hp 8 (by kernel_rfl)
      clear hf hp
      refine stepAt_plain rfl ?_
      refine stepOK_call #[.agg (nC A 4), .agg (nC T 4)] rfl (by simp only [List.map_toArray, List.map_cons, List.map_nil, evS, h6, h8]) (by go_simp) ((HC.out w1).mono fun e w' ⟨he, hk'⟩ => ⟨_, he, Grown.kept hk', rfl⟩)
    refine ⟨fun t w1 hf hk hp => ?_, ?_⟩
    · have h9 : slot t 9 = .int .i64 q := hp 9 (by kernel_rfl)
      clear hf hp
      refine stepAt_plain rfl ?_
      have hq0 := hb
      refine stepOK_pure (.bool b) ?_ rfl
      simp only [execOp, evS, h9]
      go_simp
    refine ⟨fun t w1 hf hk hp => ?_, ?_⟩
    · have h10 : slot t 10 = .bool b := hp 10 (by kernel_rfl)
      clear hf hp
      refine stepAt_plain rfl ?_
      exact stepOK_move _ (.inr rfl) h10
    exact trivial
  · intro t w1 hsz hf hk hfacts
    have h4 : slot t 4 = .bool b := hfacts 6 _ rfl 4 rfl
    have h2 : slot t 2 = .pointer (some ⟨w.heap.size, 0, none⟩) := hf 2 (by kernel_rfl)
    have h3 : slot t 3 = .pointer (some ⟨w.heap.size + 1, 0, none⟩) := hf 3 (by kernel_rfl)
    have harr : t = #[slot t 0, slot t 1, slot t 2, slot t 3, slot t 4, slot t 5, slot t 6, slot t 7, slot t 8, slot t 9, slot t 10] := arr_eq t 11 hsz
    rw [harr, h4, h2, h3]
    clear harr hfacts hf h4 h2 h3
    generalize slot t 0 = x0; generalize slot t 1 = x1; generalize slot t 5 = x5; generalize slot t 6 = x6; generalize slot t 7 = x7; generalize slot t 8 = x8; generalize slot t 9 = x9; generalize slot t 10 = x10
    clear hsz t
    have K2 := Lib.hid (K1.out.trans hk)
    clear hk
    go_wp2_with fail
    go_ret
    exact ⟨rfl, K2.out⟩
set_option maxRecDepth 100000 in
set_option maxHeartbeats 1000000 in
theorem workMost_any : WorkMostC 11 := by
  intro T n w hT h1 h2
  have HS : Hid (∀ w, _) := Lib.hid fun w => wideShr_any T n w hT h2
  have HH : Hid (∀ w, _) := Lib.hid fun w => wideHash_any (shr256 T n) w
  clear hT h1 h2
  generalize shr256 T n = M at HS HH ⊢
  have R2 := Lib.hid ((Rowz.new w (bC 32 (be 32 T)) 23).alloc (.cells (bC 32 []) 23))
  have R4 := Lib.hid (Rowz.newEq1 w (.cells (bC 32 (be 32 T)) 23) _ (bC 32 []) 23 rfl)
  have K1 := Lib.hid (((Kept.refl w).alloc (.cells (bC 32 (be 32 T)) 23)).alloc (.cells (bC 32 []) 23))
  go_enter Try.func11, Try.ntmps11
  go_wp2_with (refine wpList_load_row rfl 23 _ rfl w.heap.size rfl 23 (bC 32 (be 32 T)) (0, 0) _ R2.out Try.underlying23 rfl (infoH _) ?_)
  change Calls _ _ _ ((w.alloc (.cells (bC 32 (be 32 T)) 23)).alloc (.cells (bC 32 []) 23)) _
  generalize (w.alloc (.cells (bC 32 (be 32 T)) 23)).alloc (.cells (bC 32 []) 23) = v1 at R2 R4 K1 ⊢
  refine (wideOf_any T v1).mono ?_
  rintro e v2 ⟨rfl, k2⟩
  replace R4 := Lib.hid (Rowz.grown R4.out k2)
  replace K1 := Lib.hid (K1.out.trans (Grown.kept k2))
  clear k2 R2
  go_wp2_with fail
  refine (HS.out v2).mono ?_
  rintro e v3 ⟨rfl, k3⟩
  replace R4 := Lib.hid (R4.out.kept k3)
  replace K1 := Lib.hid (K1.out.trans k3)
  clear k3 HS
  go_wp2_with fail
  refine (HH.out v3).mono ?_
  rintro e v4 ⟨rfl, k4⟩
  replace R4 := Lib.hid (R4.out.kept k4)
  replace K1 := Lib.hid (K1.out.trans k4)
  clear k4 HH
  go_wp2_with (refine wpList_store_row rfl 23 _ _ rfl (w.heap.size + 1) (bC 32 (be 32 M)) rfl rfl 23 (bC 32 []) R4.out (infoH _) (by simp [bC_size]) (bC_one _ _) ?_)
  refine bodyPost_ret (v := .agg (bC 32 (be 32 M))) (results_cell_row Try.results11 _ _ (w.heap.size + 1) 23 _ (0, 0) _ rfl R4.out.row Try.underlying23 rfl (infoH _)) rfl ⟨rfl, ?_⟩
  exact K1.out.setRow (by omega) _
set_option maxRecDepth 100000 in
set_option maxHeartbeats 1000000 in
theorem workLength_any (N : Nat) (w : World) (hN : N < 2 ^ 256) :
    Calls Try.prog 18 #[.agg (bC 32 (be 32 N))] w fun e w' => e = .returned (.int .i64 ((bl N : Nat) : Int)) ∧ Kept w w' := by
  have HL : Hid (∀ w, _) := Lib.hid fun w => wideLen_any N w hN
  generalize bl N = q at HL ⊢
  have R1 := Lib.hid (Rowz.new w (bC 32 (be 32 N)) 23)
  have K1 := Lib.hid ((Kept.refl w).alloc (.cells (bC 32 (be 32 N)) 23))
  go_enter Try.func18, Try.ntmps18
  go_wp2_with (refine wpList_exec 3 rfl (by rfl) _ _ (loadH19 rfl rfl R1.out) ?_)
  refine (wideOf_any N _).mono ?_
  rintro e v2 ⟨rfl, k2⟩
  replace K1 := Lib.hid (K1.out.trans (Grown.kept k2))
  go_wp2_with fail
  refine (HL.out _).mono ?_
  rintro e v3 ⟨rfl, k3⟩
  replace K1 := Lib.hid (K1.out.trans (Grown.kept k3))
  go_wp2_with fail
  go_ret
  exact ⟨rfl, K1.out⟩
set_option maxRecDepth 100000 in
set_option maxHeartbeats 1000000 in
theorem workLevel_any : WorkLevelC 8 := by
  intro A T w hA hT
  have HO : Hid (∀ w, _) := Lib.hid fun w => workOk_any A T w hA hT
  have R2 := Lib.hid ((Rowz.new w (bC 32 (be 32 A)) 23).alloc (.cells (bC 32 (be 32 T)) 23))
  have R3 := Lib.hid (Rowz.newEq1 w (.cells (bC 32 (be 32 A)) 23) _ (bC 32 (be 32 T)) 23 rfl)
  have K1 := Lib.hid (((Kept.refl w).alloc (.cells (bC 32 (be 32 A)) 23)).alloc (.cells (bC 32 (be 32 T)) 23))
  go_enter Try.func8, Try.ntmps8
  go_wp2_with (first
    | (refine wpList_exec 6 rfl (by rfl) _ _ (loadH19 rfl rfl R2.out) ?_)
    | (refine wpList_exec 7 rfl (by rfl) _ _ (loadH19 rfl rfl R3.out) ?_))
  generalize (w.alloc (.cells (bC 32 (be 32 A)) 23)).alloc (.cells (bC 32 (be 32 T)) 23) = v1 at R2 R3 K1 ⊢
  refine (HO.out v1).mono ?_
  rintro e v2 ⟨rfl, k2⟩
  replace R2 := Lib.hid (R2.out.kept k2)
  replace R3 := Lib.hid (R3.out.kept k2)
  replace K1 := Lib.hid (K1.out.trans k2)
  clear k2 HO
  by_cases hle : A ≤ T
  · rw [decide_eq_true hle]
    have hz : (be 32 A = be 32 0) ↔ A = 0 := ⟨fun h => be32_inj A 0 hA (by decide) h, fun h => by rw [h]⟩
    by_cases h0 : A = 0
    · have hL : Hid (lvl A T = 255) := Lib.hid (by rw [h0]; exact lvl_zero T)
      have hE : Hid (be 32 A = be 32 0) := Lib.hid (hz.2 h0)
      clear hz h0 hle hA hT
      go_wp2_with (first
        | (refine wpList_exec 10 rfl (by rfl) _ _ (loadH19 rfl rfl R2.out) ?_)
        | (refine wpList_exec 11 rfl (by rfl) _ _ (execBuild0h _ rfl) ?_)
        | (refine wpList_exec 12 rfl (by rfl) _ _ (execEqHs (be 32 A) (be 32 0) (be_length _ _) (be_length _ _) _ rfl rfl rfl) ?_; rw [decide_eq_true hE.out]))
      go_ret
      exact ⟨ret_int hL.out.symm, K1.out⟩
    · have hE : Hid (¬ be 32 A = be 32 0) := Lib.hid (fun h => h0 (hz.1 h))
      obtain ⟨D, hD⟩ : ∃ D, bl A + D = bl T := ⟨bl T - bl A, by have := bl_mono A T h0 hle; omega⟩
      have HT : Hid (∀ w, _) := Lib.hid fun w => workLength_any T w hT
      have HA : Hid (∀ w, _) := Lib.hid fun w => workLength_any A w hA
      have hb := bl_le T 256 hT
      have HM : Hid (∀ w, Calls Try.prog 11 #[.agg (bC 32 (be 32 T)), .int .i64 (D : Int)] w fun e w' => e = .returned (.agg (bC 32 (be 32 (T / 2 ^ D)))) ∧ Kept w w') := Lib.hid fun w => by
        have := workMost_any T (D : Int) w hT (by omega) (by omega)
        rwa [shr_nat] at this
      have HK : Hid (∀ w, _) := Lib.hid fun w => workOk_any A (T / 2 ^ D) w hA (Nat.lt_of_le_of_lt (Nat.div_le_self _ _) hT)
      have HL : Hid (lvl A T = if decide (A ≤ T / 2 ^ D) then (D : Int) else (D : Int) - 1) := Lib.hid (by
        by_cases h : A ≤ T / 2 ^ D
        · rw [if_pos (decide_eq_true h)]; exact lvl_at A T D h0 hT hD h
        · rw [if_neg (by simpa using h)]; exact lvl_under A T D h0 hT hD h)
      clear hz h0 hle hA hT
      generalize bl A = q at HA hD
      generalize bl T = p at HT hD hb
      generalize decide (A ≤ T / 2 ^ D) = b at HK HL
      generalize be 32 (T / 2 ^ D) = M at HM HK
      go_wp2_with (first
        | (refine wpList_exec 10 rfl (by rfl) _ _ (loadH19 rfl rfl R2.out) ?_)
        | (refine wpList_exec 11 rfl (by rfl) _ _ (execBuild0h _ rfl) ?_)
        | (refine wpList_exec 12 rfl (by rfl) _ _ (execEqHs (be 32 A) (be 32 0) (be_length _ _) (be_length _ _) _ rfl rfl rfl) ?_; rw [decide_eq_false hE.out]))
      refine wp_region_table [(13, .is (.agg (bC 32 (be 32 T)))), (14, .is (.int .i64 (p : Int))), (15, .is (.agg (bC 32 (be 32 A)))), (16, .is (.int .i64 (q : Int))), (17, .is (.int .i64 (D : Int))), (5, .is (.int .i64 (D : Int)))] (by kernel_rfl) (by kernel_rfl) ?_ ?_
      · refine ⟨fun t w1 hf hk hp => ?_, ?_⟩
        · have h3 : slot t 3 = .pointer (some ⟨w.heap.size + 1, 0, none⟩) := hf 3 (by kernel_rfl)
          clear hf hp
          refine stepAt_plain rfl ?_
          have hq0 := Rowz.load (R3.out.kept hk) 32 5 Try.underlying23 (infoH _)
          exact stepOK_sem (.agg (bC 32 (be 32 T))) (by simp only [execOp, evS, h3]) hq0 rfl
        refine ⟨fun t w1 hf hk hp => ?_, ?_⟩
        · have h13 : slot t 13 = .agg (bC 32 (be 32 T)) := hp 13 (by kernel_rfl)
          clear hf hp
          refine stepAt_plain rfl ?_
          refine stepOK_call #[.agg (bC 32 (be 32 T))] rfl (by simp only [List.map_toArray, List.map_cons, List.map_nil, evS, h13]) (by go_simp) ((HT.out w1).mono fun e w' ⟨he, hk'⟩ => ⟨_, he, hk', rfl⟩)
        refine ⟨fun t w1 hf hk hp => ?_, ?_⟩
        · have h2 : slot t 2 = .pointer (some ⟨w.heap.size, 0, none⟩) := hf 2 (by kernel_rfl)
          clear hf hp
          refine stepAt_plain rfl ?_
          have hq0 := Rowz.load (R2.out.kept hk) 32 5 Try.underlying23 (infoH _)
          exact stepOK_sem (.agg (bC 32 (be 32 A))) (by simp only [execOp, evS, h2]) hq0 rfl
        refine ⟨fun t w1 hf hk hp => ?_, ?_⟩
        · have h15 : slot t 15 = .agg (bC 32 (be 32 A)) := hp 15 (by kernel_rfl)
          clear hf hp
          refine stepAt_plain rfl ?_
          refine stepOK_call #[.agg (bC 32 (be 32 A))] rfl (by simp only [List.map_toArray, List.map_cons, List.map_nil, evS, h15]) (by go_simp) ((HA.out w1).mono fun e w' ⟨he, hk'⟩ => ⟨_, he, hk', rfl⟩)
        refine ⟨fun t w1 hf hk hp => ?_, ?_⟩
        · have h14 : slot t 14 = .int .i64 (p : Int) := hp 14 (by kernel_rfl)
          have h16 : slot t 16 = .int .i64 (q : Int) := hp 16 (by kernel_rfl)
          clear hf hp
          refine stepAt_plain rfl ?_
          refine stepOK_pure (.int .i64 (D : Int)) ?_ rfl
          simp only [execOp, evS, h14, h16]
          go_simp
          rw [IntWalk.i64_in _ (by omega)]; omega
        refine ⟨fun t w1 hf hk hp => ?_, ?_⟩
        · have h17 : slot t 17 = .int .i64 (D : Int) := hp 17 (by kernel_rfl)
          clear hf hp
          refine stepAt_plain rfl ?_
          exact stepOK_move _ (.inr rfl) h17
        exact trivial
      · intro t w1 hsz hf hk hfacts
        have h5 : slot t 5 = .int .i64 (D : Int) := hfacts 5 _ rfl 5 rfl
        have h2 : slot t 2 = .pointer (some ⟨w.heap.size, 0, none⟩) := hf 2 (by kernel_rfl)
        have h3 : slot t 3 = .pointer (some ⟨w.heap.size + 1, 0, none⟩) := hf 3 (by kernel_rfl)
        have h4 : slot t 4 = .int .i64 0 := hf 4 (by kernel_rfl)
        have harr : t = #[slot t 0, slot t 1, slot t 2, slot t 3, slot t 4, slot t 5, slot t 6, slot t 7, slot t 8, slot t 9, slot t 10, slot t 11, slot t 12, slot t 13, slot t 14, slot t 15, slot t 16, slot t 17, slot t 18, slot t 19, slot t 20, slot t 21, slot t 22, slot t 23, slot t 24, slot t 25] := arr_eq t 26 hsz
        rw [harr, h5, h2, h3, h4]
        clear harr hfacts hf h5 h2 h3 h4
        generalize slot t 0 = x0; generalize slot t 1 = x1; generalize slot t 6 = x6; generalize slot t 7 = x7; generalize slot t 8 = x8; generalize slot t 9 = x9; generalize slot t 10 = x10; generalize slot t 11 = x11; generalize slot t 12 = x12; generalize slot t 13 = x13; generalize slot t 14 = x14; generalize slot t 15 = x15
        generalize slot t 16 = x16; generalize slot t 17 = x17; generalize slot t 18 = x18; generalize slot t 19 = x19; generalize slot t 20 = x20; generalize slot t 21 = x21; generalize slot t 22 = x22; generalize slot t 23 = x23; generalize slot t 24 = x24; generalize slot t 25 = x25
        clear hsz t
        have K2 := Lib.hid (K1.out.trans hk)
        replace R2 := Lib.hid (R2.out.kept hk)
        replace R3 := Lib.hid (R3.out.kept hk)
        clear hk K1
        go_wp2_with fail
        refine wp_region_table [(18, .is (.agg (bC 32 (be 32 A)))), (19, .is (.agg (bC 32 (be 32 T)))), (20, .is (.int .i64 (D : Int))), (21, .is (.agg (bC 32 M))), (22, .is (.bool b))] (by kernel_rfl) (by kernel_rfl) ?_ ?_
        · refine ⟨fun t w1 hf hk hp => ?_, ?_⟩
          · have h2 : slot t 2 = .pointer (some ⟨w.heap.size, 0, none⟩) := hf 2 (by kernel_rfl)
            clear hf hp
            refine stepAt_plain rfl ?_
            have hq0 := Rowz.load (R2.out.kept hk) 32 5 Try.underlying23 (infoH _)
            exact stepOK_sem (.agg (bC 32 (be 32 A))) (by simp only [execOp, evS, h2]) hq0 rfl
          refine ⟨fun t w1 hf hk hp => ?_, ?_⟩
          · have h3 : slot t 3 = .pointer (some ⟨w.heap.size + 1, 0, none⟩) := hf 3 (by kernel_rfl)
            clear hf hp
            refine stepAt_plain rfl ?_
            have hq0 := Rowz.load (R3.out.kept hk) 32 5 Try.underlying23 (infoH _)
            exact stepOK_sem (.agg (bC 32 (be 32 T))) (by simp only [execOp, evS, h3]) hq0 rfl
          refine ⟨fun t w1 hf hk hp => ?_, ?_⟩
          · have h5 : slot t 5 = .int .i64 (D : Int) := hf 5 (by kernel_rfl)
            clear hf hp
            refine stepAt_plain rfl ?_
            exact stepOK_move _ (.inl rfl) h5
          refine ⟨fun t w1 hf hk hp => ?_, ?_⟩
          · have h19 : slot t 19 = .agg (bC 32 (be 32 T)) := hp 19 (by kernel_rfl)
            have h20 : slot t 20 = .int .i64 (D : Int) := hp 20 (by kernel_rfl)
            clear hf hp
            refine stepAt_plain rfl ?_
            refine stepOK_call #[.agg (bC 32 (be 32 T)), .int .i64 (D : Int)] rfl (by simp only [List.map_toArray, List.map_cons, List.map_nil, evS, h19, h20]) (by go_simp) ((HM.out w1).mono fun e w' ⟨he, hk'⟩ => ⟨_, he, hk', rfl⟩)
          refine ⟨fun t w1 hf hk hp => ?_, ?_⟩
          · have h18 : slot t 18 = .agg (bC 32 (be 32 A)) := hp 18 (by kernel_rfl)
            have h21 : slot t 21 = .agg (bC 32 M) := hp 21 (by kernel_rfl)
            clear hf hp
            refine stepAt_plain rfl ?_
            refine stepOK_call #[.agg (bC 32 (be 32 A)), .agg (bC 32 M)] rfl (by simp only [List.map_toArray, List.map_cons, List.map_nil, evS, h18, h21]) (by go_simp) ((HK.out w1).mono fun e w' ⟨he, hk'⟩ => ⟨_, he, hk', rfl⟩)
          exact trivial
        · intro t w1 hsz hf hk hfacts
          have h22 : slot t 22 = .bool b := hfacts 4 _ rfl 22 rfl
          have h2 : slot t 2 = .pointer (some ⟨w.heap.size, 0, none⟩) := hf 2 (by kernel_rfl)
          have h3 : slot t 3 = .pointer (some ⟨w.heap.size + 1, 0, none⟩) := hf 3 (by kernel_rfl)
          have h4 : slot t 4 = .int .i64 0 := hf 4 (by kernel_rfl)
          have h5 : slot t 5 = .int .i64 (D : Int) := hf 5 (by kernel_rfl)
          have harr : t = #[slot t 0, slot t 1, slot t 2, slot t 3, slot t 4, slot t 5, slot t 6, slot t 7, slot t 8, slot t 9, slot t 10, slot t 11, slot t 12, slot t 13, slot t 14, slot t 15, slot t 16, slot t 17, slot t 18, slot t 19, slot t 20, slot t 21, slot t 22, slot t 23, slot t 24, slot t 25] := arr_eq t 26 hsz
          rw [harr, h22, h2, h3, h4, h5]
          clear harr hfacts hf h22 h2 h3 h4 h5
          generalize slot t 0 = x0; generalize slot t 1 = x1; generalize slot t 6 = x6; generalize slot t 7 = x7; generalize slot t 8 = x8; generalize slot t 9 = x9; generalize slot t 10 = x10; generalize slot t 11 = x11; generalize slot t 12 = x12; generalize slot t 13 = x13; generalize slot t 14 = x14; generalize slot t 15 = x15
          generalize slot t 16 = x16; generalize slot t 17 = x17; generalize slot t 18 = x18; generalize slot t 19 = x19; generalize slot t 20 = x20; generalize slot t 21 = x21; generalize slot t 23 = x23; generalize slot t 24 = x24; generalize slot t 25 = x25
          clear hsz t
          have K3 := Lib.hid (K2.out.trans hk)
          clear hk K2
          cases b
          · have w25 : IntKind.i64.wrap ((D : Int) - 1) = (D : Int) - 1 := IntWalk.i64_in _ (by omega)
            go_wp2_with fail
            go_ret
            exact ⟨ret_int HL.out.symm, K3.out⟩
          · go_wp2_with fail
            go_ret
            exact ⟨ret_int HL.out.symm, K3.out⟩
  · rw [decide_eq_false hle]
    have hL : Hid (lvl A T = -1) := Lib.hid (lvl_no A T hle)
    clear hle hA hT
    go_wp2_with fail
    go_ret
    exact ⟨ret_int hL.out.symm, K1.out⟩
end Go.Proofs.Ytediednghflefaa
