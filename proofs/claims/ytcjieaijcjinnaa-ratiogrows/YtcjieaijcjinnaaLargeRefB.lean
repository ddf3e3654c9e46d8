/-
  Contracts of milepostref05's Add and of milepostlaw05's same.
-/
import Derived.Test.YtcjieaijcjinnaaLargeRefA
import Derived.Test.YtcjieaijcjinnaaLargeWalkD
import Derived.Test.YtcjieaijcjinnaaFactLib
import Derived.Test.YtcjieaijcjinnaaTailLib
namespace Go.Proofs.Ytcjieaijcjinnaa
open Go.RowKit

theorem carryD_end (A B M : Nat) (hA : A < 65536 ^ M) (hB : B < 65536 ^ M) : carryD A B (M + 1) = 0 := by
  have h := pos16 M
  have hp : 65536 ^ (M + 1) = 65536 ^ M * 65536 := Nat.pow_succ ..
  unfold carryD
  rw [Nat.mod_eq_of_lt (by omega), Nat.mod_eq_of_lt (by omega)]
  exact Nat.div_eq_of_lt (by omega)
set_option maxRecDepth 100000 in
set_option maxHeartbeats 4000000 in
theorem refAdd5_any (A B : Nat) (v u : Value) (w : World) (hv : Dig A v w) (hu : Dig B u w) (hm : dl A ≤ 1000) (hm2 : dl B ≤ 1000) :
    Calls Try.prog 13 #[v, u] w fun e w' => ∃ v, e = .returned v ∧ Dig (A + B) v w' ∧ Kept w w' := by
  obtain ⟨p, cap, rfl, hc, hp⟩ := hv
  obtain ⟨p2, cap2, rfl, hc2, hp2⟩ := hu
  have HA := Lib.hid (dl_lt A)
  have HB := Lib.hid (dl_lt B)
  have HZ1 : Hid (∀ {k}, dl A ≤ k → dgt A k = 0) := Lib.hid fun h => dgt_none A _ _ (dl_lt A) h
  have HZ2 : Hid (∀ {k}, dl B ≤ k → dgt B k = 0) := Lib.hid fun h => dgt_none B _ _ (dl_lt B) h
  have HP := Lib.hid hp
  have HP2 := Lib.hid hp2
  clear hp hp2
  generalize dl A = la at *
  generalize dl B = lb at *
  obtain ⟨M, hM1, hM2, hM3, hM⟩ : ∃ M, la ≤ M ∧ lb ≤ M ∧ M ≤ 1000 ∧ (M ≤ la ∨ M ≤ lb) := ⟨max la lb, by omega, by omega, by omega, by omega⟩
  have HEND : Hid (carryD A B (M + 1) = 0) := Lib.hid (carryD_end A B M (Nat.lt_of_lt_of_le HA.out (Nat.pow_le_pow_right (by decide) hM1)) (Nat.lt_of_lt_of_le HB.out (Nat.pow_le_pow_right (by decide) hM2)))
  go_enter Try.func13, Try.ntmps13
  go_wp2
  go_loopw [5, 6, 7] (fun v c i wr => ∃ (k : Nat), k ≤ M + 1 ∧ i = .int .i64 (k : Int) ∧ c = .int .i64 ((carryD A B k : Nat) : Int) ∧ Hid (wr.ownsRow w.heap.size 3 1 v k (dgL (A + B) k)) ∧ Hid (Kept w wr)) (fun _ _ i _ => M + 1 - (intOf i).toNat)
  case atStart => exact ⟨0, by omega, rfl, by rw [carryD_zero]; rfl, Lib.hid (World.ownsRow_nil _ _ _ _), Lib.hid (Kept.refl w)⟩
  case round =>
    obtain ⟨k, hk, rfl, rfl, HO, HK⟩ := hrel
    have HS := Lib.hid (dgL_succ (A + B) k)
    have hcl := carryD_le A B k
    have hal := dgt_lt A k
    have hbl := dgt_lt B k
    by_cases h1 : k < la
    · by_cases h2 : k < lb
      · obtain ⟨g, cur, rfl, hr, hb⟩ := HP.out (by omega)
        have c1 : wr.cell? ⟨g, k, none⟩ = some (.int .i64 ((dgt A k : Nat) : Int)) := by rw [(hr.kept HK.out).cell, hb k h1]
        have h1i : (k : Int) < ((la : Nat) : Int) := by omega
        clear hr hb
        obtain ⟨g2, cur2, rfl, hr2, hb2⟩ := HP2.out (by omega)
        have c2 : wr.cell? ⟨g2, k, none⟩ = some (.int .i64 ((dgt B k : Nat) : Int)) := by rw [(hr2.kept HK.out).cell, hb2 k h2]
        have h2i : (k : Int) < ((lb : Nat) : Int) := by omega
        clear hr2 hb2
        have hd1 : decide (k < la) = true := decide_eq_true h1
        have hd2 : decide (k < lb) = true := decide_eq_true h2
        have HD : Hid ((((carryD A B k : Nat) : Int) + ((dgt A k : Nat) : Int) + ((dgt B k : Nat) : Int)) % 65536 = ((dgt (A + B) k : Nat) : Int)) := Lib.hid (by rw [← addD_dgt A B k]; omega)
        have HC : Hid ((((carryD A B k : Nat) : Int) + ((dgt A k : Nat) : Int) + ((dgt B k : Nat) : Int)) / 65536 = ((carryD A B (k + 1) : Nat) : Int)) := Lib.hid (by rw [← addD_carry A B k]; omega)
        generalize hA1 : dgt A k = a at *
        generalize hB1 : dgt B k = b at *
        generalize hC1 : carryD A B k = c at *
        clear hA1 hB1 hC1
        go_wp2_with (at_builtin; refine wpList_append1 rfl _ _ 26 rfl w 3 (.int .i64 0) 8 Try.underlying26 infoInt rfl _ _ _ rfl HO rfl rfl (by unfold maxLen; omega) (by omega) HK ?_; intro v' w' HO' HK')
        go_roundw
        case rel => exact ⟨k + 1, by omega, by go_num, by rw [← HC.out], Lib.hid (by rw [HS.out, ← HD.out]; exact HO'.out), HK'⟩
        case measure => simp [intOf]; omega
      · obtain ⟨g, cur, rfl, hr, hb⟩ := HP.out (by omega)
        have c1 : wr.cell? ⟨g, k, none⟩ = some (.int .i64 ((dgt A k : Nat) : Int)) := by rw [(hr.kept HK.out).cell, hb k h1]
        have h1i : (k : Int) < ((la : Nat) : Int) := by omega
        clear hr hb
        have hd1 : decide (k < la) = true := decide_eq_true h1
        have hd2 : decide (k < lb) = false := decide_eq_false h2
        have hz2 : dgt B k = 0 := HZ2.out (by omega)
        have HD : Hid ((((carryD A B k : Nat) : Int) + ((dgt A k : Nat) : Int)) % 65536 = ((dgt (A + B) k : Nat) : Int)) := Lib.hid (by rw [← addD_dgt A B k]; omega)
        have HC : Hid ((((carryD A B k : Nat) : Int) + ((dgt A k : Nat) : Int)) / 65536 = ((carryD A B (k + 1) : Nat) : Int)) := Lib.hid (by rw [← addD_carry A B k]; omega)
        generalize hA1 : dgt A k = a at *
        generalize hB1 : dgt B k = b at *
        generalize hC1 : carryD A B k = c at *
        clear hA1 hB1 hC1
        clear hz2
        go_wp2_with (at_builtin; refine wpList_append1 rfl _ _ 26 rfl w 3 (.int .i64 0) 8 Try.underlying26 infoInt rfl _ _ _ rfl HO rfl rfl (by unfold maxLen; omega) (by omega) HK ?_; intro v' w' HO' HK')
        go_roundw
        case rel => exact ⟨k + 1, by omega, by go_num, by rw [← HC.out], Lib.hid (by rw [HS.out, ← HD.out]; exact HO'.out), HK'⟩
        case measure => simp [intOf]; omega
    · by_cases h2 : k < lb
      · obtain ⟨g2, cur2, rfl, hr2, hb2⟩ := HP2.out (by omega)
        have c2 : wr.cell? ⟨g2, k, none⟩ = some (.int .i64 ((dgt B k : Nat) : Int)) := by rw [(hr2.kept HK.out).cell, hb2 k h2]
        have h2i : (k : Int) < ((lb : Nat) : Int) := by omega
        clear hr2 hb2
        have hd1 : decide (k < la) = false := decide_eq_false h1
        have hd2 : decide (k < lb) = true := decide_eq_true h2
        have hz1 : dgt A k = 0 := HZ1.out (by omega)
        have HD : Hid ((((carryD A B k : Nat) : Int) + ((dgt B k : Nat) : Int)) % 65536 = ((dgt (A + B) k : Nat) : Int)) := Lib.hid (by rw [← addD_dgt A B k]; omega)
        have HC : Hid ((((carryD A B k : Nat) : Int) + ((dgt B k : Nat) : Int)) / 65536 = ((carryD A B (k + 1) : Nat) : Int)) := Lib.hid (by rw [← addD_carry A B k]; omega)
        generalize hA1 : dgt A k = a at *
        generalize hB1 : dgt B k = b at *
        generalize hC1 : carryD A B k = c at *
        clear hA1 hB1 hC1
        clear hz1
        go_wp2_with (at_builtin; refine wpList_append1 rfl _ _ 26 rfl w 3 (.int .i64 0) 8 Try.underlying26 infoInt rfl _ _ _ rfl HO rfl rfl (by unfold maxLen; omega) (by omega) HK ?_; intro v' w' HO' HK')
        go_roundw
        case rel => exact ⟨k + 1, by omega, by go_num, by rw [← HC.out], Lib.hid (by rw [HS.out, ← HD.out]; exact HO'.out), HK'⟩
        case measure => simp [intOf]; omega
      · by_cases h3 : 0 < carryD A B k
        · have hkM : k < M + 1 := by
            rcases Nat.lt_or_ge k (M + 1) with h | h
            · exact h
            · have e : k = M + 1 := by omega
              rw [e, HEND.out] at h3
              omega
          have hd1 : decide (k < la) = false := decide_eq_false h1
          have hd2 : decide (k < lb) = false := decide_eq_false h2
          have hz1 : dgt A k = 0 := HZ1.out (by omega)
          have hz2 : dgt B k = 0 := HZ2.out (by omega)
          have hd3 : decide (0 < carryD A B k) = true := decide_eq_true h3
          have HD : Hid ((((carryD A B k : Nat) : Int)) % 65536 = ((dgt (A + B) k : Nat) : Int)) := Lib.hid (by rw [← addD_dgt A B k]; omega)
          have HC : Hid ((((carryD A B k : Nat) : Int)) / 65536 = ((carryD A B (k + 1) : Nat) : Int)) := Lib.hid (by rw [← addD_carry A B k]; omega)
          generalize hA1 : dgt A k = a at *
          generalize hB1 : dgt B k = b at *
          generalize hC1 : carryD A B k = c at *
          clear hA1 hB1 hC1
          clear hz1
          clear hz2
          go_wp2_with (at_builtin; refine wpList_append1 rfl _ _ 26 rfl w 3 (.int .i64 0) 8 Try.underlying26 infoInt rfl _ _ _ rfl HO rfl rfl (by unfold maxLen; omega) (by omega) HK ?_; intro v' w' HO' HK')
          go_roundw
          case rel => exact ⟨k + 1, by omega, by go_num, by rw [← HC.out], Lib.hid (by rw [HS.out, ← HD.out]; exact HO'.out), HK'⟩
          case measure => simp [intOf]; omega
        · have hd1 : decide (k < la) = false := decide_eq_false h1
          have hd2 : decide (k < lb) = false := decide_eq_false h2
          have hc0 : carryD A B k = 0 := by omega
          have HN : Hid (A + B < 65536 ^ k) := Lib.hid (addD_end A B k (Nat.lt_of_lt_of_le HA.out (Nat.pow_le_pow_right (by decide) (by omega))) (Nat.lt_of_lt_of_le HB.out (Nat.pow_le_pow_right (by decide) (by omega))) hc0)
          have HD : Hid (DigM (A + B) k u5 wr) := Lib.hid (digM_owns HO.out)
          rw [hc0]
          clear hc0 h3 hcl hal hbl HO HS
          go_wp2_with (go_at_call 37; refine (trim_any (A + B) k _ _ HD.out HN.out (by omega)).mono ?_; rintro e w2 ⟨v2, rfl, hd2, hk2⟩)
          go_ret
          exact ⟨_, rfl, hd2, HK.out.trans hk2⟩

theorem run_all5 (b : Nat) (w : World) : (Instr.sliceAt 24 (.pointer (some ⟨b, 0, none⟩)) none none none).run Try.prog w = .ok (.slice (some ⟨b, 0, none⟩) 5 5) w := by kernel_rfl
theorem limbs5_any (N g : Nat) (w : World) (hr : Rowz w g (lC N 5) 24) (hN : N < 2 ^ 320) :
    Calls Try.prog 10 #[.slice (some ⟨g, 0, none⟩) 5 5] w fun e w' => ∃ v, e = .returned v ∧ Dig N v w' ∧ Kept w w' :=
  limbs_any N 5 g 24 (lC N 5) w hr (fun i hi => lC_get N 5 i hi hi) (Nat.le_refl _) (by rw [show 64 * 5 = 320 from rfl]; exact hN)
theorem dl20 (N : Nat) (h : N < 2 ^ 320) : dl N ≤ 20 := by
  have := bl_le N 320 h
  unfold dl; omega
theorem refCmpEq_any (A : Nat) (v u : Value) (w : World) (hv : Dig A v w) (hu : Dig A u w) (hm : dl A ≤ 1000000) :
    Calls Try.prog 15 #[v, u] w fun e w' => e = .returned (.int .i64 0) ∧ Kept w w' := by
  have h := refCmp5_any A A v u w hv hu hm
  rw [cmpN_eq rfl] at h
  exact h
set_option maxRecDepth 100000 in
set_option maxHeartbeats 2000000 in
theorem same5_any (Y : Nat) (v : Value) (w : World) (hv : Dig Y v w) (hm : dl Y ≤ 1000000) :
    Calls Try.prog 12 #[.agg (lC (cut Y) 5), .bool (fit Y), v] w fun e w' => e = .returned (.bool true) ∧ Kept w w' := by
  by_cases hY : Y < 2 ^ 320
  · rw [cut_of hY, fit_of hY]
    have F0 := Lib.hid (Rowz.new w (lC Y 5) 24)
    have K0 := Lib.hid ((Kept.refl w).alloc (.cells (lC Y 5) 24))
    have HV := Lib.hid (dig_kept _ _ _ K0.out hv)
    have hb : ¬ (320 < bl Y) := by have := bl_le Y 320 hY; omega
    have hd : decide ((320 : Int) < ((bl Y : Nat) : Int)) = false := decide_eq_false (by omega)
    have HY := Lib.hid hY
    have CL := Lib.hid (refLen5_any Y v _ HV.out hm)
    have CLM := Lib.hid fun w1 (hk : Kept (w.alloc (.cells (lC Y 5) 24)) w1) => limbs5_any Y w.heap.size w1 (F0.out.kept hk) HY.out
    clear hY hv hb
    go_enter Try.func12, Try.ntmps12
    go_wp2_with (first | (go_at_call 17; refine CL.out.mono ?_; rintro e w2 ⟨rfl, rfl⟩) | (refine park_at 19 rfl ?_))
    refine unpark ?_
    refine wpList_table 7 [(19, .is (.slice (some ⟨w.heap.size, 0, none⟩) 5 5)), (20, .such (Dig Y) dig_kept), (21, .is (v)), (22, .is (.int .i64 0)), (23, .is (.bool true)), (24, .is (.bool true)), (6, .is (.bool true))] (by kernel_rfl) ?_ ?_
    · refine ⟨fun t w1 hf hk hp => ?_, ?_⟩
      · have h3 : slot t 3 = .pointer (some ⟨w.heap.size, 0, none⟩) := hf 3 (by kernel_rfl)
        have h18 : slot t 18 = .bool true := hf 18 (by kernel_rfl)
        clear hf hp
        refine stepAt_on 18 true (by kernel_rfl) h18 ?_
        have hq0 := run_all5 w.heap.size w1
        exact stepOK_sem (.slice (some ⟨w.heap.size, 0, none⟩) 5 5) (by simp only [execOp, evS, Option.map_none, h3]) hq0 rfl
      refine ⟨fun t w1 hf hk hp => ?_, ?_⟩
      · have h19 : slot t 19 = .slice (some ⟨w.heap.size, 0, none⟩) 5 5 := hp 19 (by kernel_rfl)
        have h18 : slot t 18 = .bool true := hf 18 (by kernel_rfl)
        clear hf hp
        refine stepAt_on 18 true (by kernel_rfl) h18 ?_
        refine stepOK_call #[.slice (some ⟨w.heap.size, 0, none⟩) 5 5] rfl (by simp only [List.map_toArray, List.map_cons, List.map_nil, evS, h19]) (by go_simp) ((CLM.out w1 hk).mono fun e w' ⟨v, he, hpv, hk'⟩ => ⟨v, he, hk', hpv⟩)
      refine ⟨fun t w1 hf hk hp => ?_, ?_⟩
      · have h2 : slot t 2 = v := hf 2 (by kernel_rfl)
        have h18 : slot t 18 = .bool true := hf 18 (by kernel_rfl)
        clear hf hp
        refine stepAt_on 18 true (by kernel_rfl) h18 ?_
        exact stepOK_move _ (.inl rfl) h2
      refine ⟨fun t w1 hf hk hp => ?_, ?_⟩
      · obtain ⟨v20, h20, p20⟩ : ∃ v, slot t 20 = v ∧ (Dig Y) v w1 := ⟨_, rfl, hp 20 (by kernel_rfl)⟩
        have h21 : slot t 21 = v := hp 21 (by kernel_rfl)
        have h18 : slot t 18 = .bool true := hf 18 (by kernel_rfl)
        clear hf hp
        refine stepAt_on 18 true (by kernel_rfl) h18 ?_
        refine stepOK_call #[v20, v] rfl (by simp only [List.map_toArray, List.map_cons, List.map_nil, evS, h20, h21]) (by go_simp) ((refCmpEq_any Y _ _ w1 p20 (dig_kept _ _ _ hk HV.out) hm).mono fun e w' ⟨he, hk'⟩ => ⟨_, he, hk', rfl⟩)
      refine ⟨fun t w1 hf hk hp => ?_, ?_⟩
      · have h22 : slot t 22 = .int .i64 0 := hp 22 (by kernel_rfl)
        have h18 : slot t 18 = .bool true := hf 18 (by kernel_rfl)
        clear hf hp
        refine stepAt_on 18 true (by kernel_rfl) h18 ?_
        refine stepOK_pure (.bool true) ?_ rfl
        simp only [execOp, evS, h22]
        go_simp
      refine ⟨fun t w1 hf hk hp => ?_, ?_⟩
      · have h18 : slot t 18 = .bool true := hf 18 (by kernel_rfl)
        have h23 : slot t 23 = .bool true := hp 23 (by kernel_rfl)
        clear hf hp
        refine stepAt_plain rfl ?_
        refine stepOK_pure (.bool true) ?_ rfl
        simp only [execOp, evS, h18, h23]
        go_simp
      refine ⟨fun t w1 hf hk hp => ?_, ?_⟩
      · have h24 : slot t 24 = .bool true := hp 24 (by kernel_rfl)
        clear hf hp
        refine stepAt_plain rfl ?_
        exact stepOK_move _ (.inr rfl) h24
      exact trivial
    · intro t w1 hsz hf hk hfacts
      have h6 : slot t 6 = .bool true := hfacts 6 (by kernel_rfl)
      have h2 : slot t 2 = v := hf 2 (by kernel_rfl)
      have h3 : slot t 3 = .pointer (some ⟨w.heap.size, 0, none⟩) := hf 3 (by kernel_rfl)
      have h18 : slot t 18 = .bool true := hf 18 (by kernel_rfl)
      have harr : t = #[slot t 0, slot t 1, slot t 2, slot t 3, slot t 4, slot t 5, slot t 6, slot t 7, slot t 8, slot t 9, slot t 10, slot t 11, slot t 12, slot t 13, slot t 14, slot t 15, slot t 16, slot t 17, slot t 18, slot t 19, slot t 20, slot t 21, slot t 22, slot t 23, slot t 24] := arr_eq t 25 hsz
      rw [harr, h6, h2, h3, h18]
      clear harr hfacts hf h6 h2 h3 h18
      generalize slot t 0 = x0; generalize slot t 1 = x1; generalize slot t 4 = x4; generalize slot t 5 = x5; generalize slot t 7 = x7; generalize slot t 8 = x8; generalize slot t 9 = x9; generalize slot t 10 = x10; generalize slot t 11 = x11; generalize slot t 12 = x12; generalize slot t 13 = x13; generalize slot t 14 = x14
      generalize slot t 15 = x15; generalize slot t 16 = x16; generalize slot t 17 = x17; generalize slot t 19 = x19; generalize slot t 20 = x20; generalize slot t 21 = x21; generalize slot t 22 = x22; generalize slot t 23 = x23; generalize slot t 24 = x24
      clear hsz t
      simp only [List.drop_succ_cons, List.drop_zero]
      go_wp2
      go_ret
      exact ⟨rfl, K0.out.trans hk⟩
  · have hY' : 2 ^ 320 ≤ Y := Nat.le_of_not_lt hY
    rw [cut_no hY', fit_no hY']
    have F0 := Lib.hid (Rowz.new w (lC 0 5) 24)
    have K0 := Lib.hid ((Kept.refl w).alloc (.cells (lC 0 5) 24))
    have hb : 320 < bl Y := bl_ge Y 320 hY'
    have hd : decide ((320 : Int) < ((bl Y : Nat) : Int)) = true := decide_eq_true (by omega)
    have CL := Lib.hid (refLen5_any Y v _ (dig_kept _ _ _ K0.out hv) hm)
    have hs0 : ∀ w, (Op.equalIn 10000 24 (.agg (lC 0 5)) (.agg (lC 0 5))).run Try.prog w = .ok true w := fun w => by rw [sameL 0 0 pos320 pos320 w]; rfl
    have hgd := guardL
    clear hY hY' hv hb
    go_enter Try.func12, Try.ntmps12
    go_wp2_with (first | (go_at_call 17; refine CL.out.mono ?_; rintro e w2 ⟨rfl, rfl⟩) | (refine park_at 13 rfl ?_))
    refine unpark ?_
    refine wpList_table 5 [(13, .is (.agg (lC 0 5))), (14, .is (.agg (lC 0 5))), (15, .is (.bool true)), (16, .is (.bool true)), (6, .is (.bool true))] (by kernel_rfl) ?_ ?_
    · refine ⟨fun t w1 hf hk hp => ?_, ?_⟩
      · have h3 : slot t 3 = .pointer (some ⟨w.heap.size, 0, none⟩) := hf 3 (by kernel_rfl)
        have h12 : slot t 12 = .bool true := hf 12 (by kernel_rfl)
        clear hf hp
        refine stepAt_on 12 true (by kernel_rfl) h12 ?_
        have hq0 := Rowz.load (F0.out.kept hk) 5 22 Try.underlying24 (infoL _ _)
        exact stepOK_sem (.agg (lC 0 5)) (by simp only [execOp, evS, h3]) hq0 rfl
      refine ⟨fun t w1 hf hk hp => ?_, ?_⟩
      · have h12 : slot t 12 = .bool true := hf 12 (by kernel_rfl)
        clear hf hp
        refine stepAt_on 12 true (by kernel_rfl) h12 ?_
        refine stepOK_pure (.agg (lC 0 5)) ?_ rfl
        simp only [execOp, evS]
        go_simp
        kernel_rfl
      refine ⟨fun t w1 hf hk hp => ?_, ?_⟩
      · have h13 : slot t 13 = .agg (lC 0 5) := hp 13 (by kernel_rfl)
        have h14 : slot t 14 = .agg (lC 0 5) := hp 14 (by kernel_rfl)
        have h12 : slot t 12 = .bool true := hf 12 (by kernel_rfl)
        clear hf hp
        refine stepAt_on 12 true (by kernel_rfl) h12 ?_
        have hq0 := hs0 w1
        have hq1 := hgd
        refine stepOK_pure (.bool true) ?_ rfl
        simp only [execOp, evS, h13, h14]
        go_simp
      refine ⟨fun t w1 hf hk hp => ?_, ?_⟩
      · have h12 : slot t 12 = .bool true := hf 12 (by kernel_rfl)
        have h15 : slot t 15 = .bool true := hp 15 (by kernel_rfl)
        clear hf hp
        refine stepAt_plain rfl ?_
        refine stepOK_pure (.bool true) ?_ rfl
        simp only [execOp, evS, h12, h15]
        go_simp
      refine ⟨fun t w1 hf hk hp => ?_, ?_⟩
      · have h16 : slot t 16 = .bool true := hp 16 (by kernel_rfl)
        clear hf hp
        refine stepAt_plain rfl ?_
        exact stepOK_move _ (.inr rfl) h16
      exact trivial
    · intro t w1 hsz hf hk hfacts
      have h6 : slot t 6 = .bool true := hfacts 6 (by kernel_rfl)
      have h3 : slot t 3 = .pointer (some ⟨w.heap.size, 0, none⟩) := hf 3 (by kernel_rfl)
      have h12 : slot t 12 = .bool true := hf 12 (by kernel_rfl)
      have harr : t = #[slot t 0, slot t 1, slot t 2, slot t 3, slot t 4, slot t 5, slot t 6, slot t 7, slot t 8, slot t 9, slot t 10, slot t 11, slot t 12, slot t 13, slot t 14, slot t 15, slot t 16, slot t 17, slot t 18, slot t 19, slot t 20, slot t 21, slot t 22, slot t 23, slot t 24] := arr_eq t 25 hsz
      rw [harr, h6, h3, h12]
      clear harr hfacts hf h6 h3 h12
      generalize slot t 0 = x0; generalize slot t 1 = x1; generalize slot t 2 = x2; generalize slot t 4 = x4; generalize slot t 5 = x5; generalize slot t 7 = x7; generalize slot t 8 = x8; generalize slot t 9 = x9; generalize slot t 10 = x10; generalize slot t 11 = x11; generalize slot t 13 = x13; generalize slot t 14 = x14
      generalize slot t 15 = x15; generalize slot t 16 = x16; generalize slot t 17 = x17; generalize slot t 18 = x18; generalize slot t 19 = x19; generalize slot t 20 = x20; generalize slot t 21 = x21; generalize slot t 22 = x22; generalize slot t 23 = x23; generalize slot t 24 = x24
      clear hsz t
      simp only [List.drop_succ_cons, List.drop_zero]
      go_wp2
      go_ret
      exact ⟨rfl, K0.out.trans hk⟩
end Go.Proofs.Ytcjieaijcjinnaa
