/-
  Contracts of milepostref07: Put and Take.
-/
import Derived.Test.YtbnaiojbkecofaaNumWalkB
namespace Go.Proofs.Ytbnaiojbkecofaa
open Go.RowKit

theorem val_step (l : List UInt8) (i : Nat) (h : i < l.length) : valL (l.drop i) = (l.getD i 0).toNat % 128 + 128 * valL (l.drop (i + 1)) := by
  rw [List.drop_eq_getElem_cons h, valL, List.getD_eq_getElem?_getD, List.getElem?_eq_getElem h]
  rfl
set_option maxRecDepth 100000 in
set_option maxHeartbeats 1000000 in
theorem refTake7_any (s : ByteArray) (w : World) (hs : s.size ≤ maxLen) :
    Calls Try.prog 31 #[.string s] w fun e w' => e = .returned (tkV (sl s)) ∧ w = w' := by
  unfold maxLen at hs
  go_enter Try.func31, Try.ntmps31
  go_wp2
  go_loop [5] (fun i => ∃ k : Nat, i = .int .i64 (k : Int) ∧ Hid (Ups (sl s) k)) (fun i => 10 - (intOf i).toNat)
  case atStart => exact ⟨0, rfl, Lib.hid (ups_zero _)⟩
  case round =>
    obtain ⟨k, rfl, HU⟩ := hrel
    have hk10 := HU.out.1
    have hkl := HU.out.2.1
    rw [sl_length] at hkl
    by_cases hsz : k = s.size
    · have hd1 : decide ((k : Int) < (s.size : Int)) = false := by simp; omega
      have hd1' : decide (k < s.size) = false := by simp; omega
      by_cases h10 : k = 10
      · have HE := Lib.hid (tk_form (h10 ▸ HU.out))
        have hd2 : ((k : Int) == 10) = true := by simp; omega
        clear hsz h10
        go_wp2
        exact bodyPost_ret (results_tmp3 Try.results31 _ _ _) rfl ⟨ret_tk HE.out, rfl⟩
      · have HE := Lib.hid (tk_short HU.out (by omega) (by rw [sl_length]; exact hsz))
        have hd2 : ((k : Int) == 10) = false := by simp; omega
        have hd3 : ((k : Int) == (s.size : Int)) = true := by simp; omega
        clear hsz h10
        go_wp2
        exact bodyPost_ret (results_tmp3 Try.results31 _ _ _) rfl ⟨ret_tk HE.out, rfl⟩
    · have hlt : k < s.size := by omega
      have hd1 : decide ((k : Int) < (s.size : Int)) = true := by simp; omega
      have hd1' : decide (k < s.size) = true := by simp; omega
      have hki : (k : Int) < (s.size : Int) := by omega
      by_cases h10 : k = 10
      · have HE := Lib.hid (tk_form (h10 ▸ HU.out))
        have hd2 : ((k : Int) == 10) = true := by simp; omega
        have hd4 : decide ((k : Int) < 10) = false := by simp; omega
        clear hsz h10
        go_wp2
        exact bodyPost_ret (results_tmp3 Try.results31 _ _ _) rfl ⟨ret_tk HE.out, rfl⟩
      · have hd2 : ((k : Int) == 10) = false := by simp; omega
        have hd4 : decide ((k : Int) < 10) = true := by simp; omega
        have hd3 : ((k : Int) == (s.size : Int)) = false := by simp; omega
        have HC := Lib.hid (sl_get s k hlt)
        have hll : k < (sl s).length := by rw [sl_length]; exact hlt
        have HCL : s[k].toNat < 256 := s[k].toNat_lt
        by_cases hge : 128 ≤ s[k].toNat
        · have hdg : decide ((s[k].toNat : Int) ≥ 128) = true := by simp; omega
          have HU2 := Lib.hid (ups_succ HU.out (by omega) hll (by rw [← HC.out]; exact hge))
          clear hsz
          go_wp2
          go_round
          case rel => exact ⟨k + 1, by go_num, HU2⟩
          case measure => simp [intOf]; omega
        · have hdg : decide ((128 : Int) ≤ (s[k].toNat : Int)) = false := by simp; omega
          have HG := Lib.hid hge
          have hg128 : s[k].toNat < 128 := by omega
          clear hge hsz
          by_cases hz : 0 < k ∧ s[k].toNat = 0
          · have HE := Lib.hid (tk_zero HU.out (by omega) hll hz.1 (by rw [← HC.out]; exact hz.2))
            have hk0 : 0 < k := hz.1
            have hc0 : s[k].toNat ≤ 0 := by omega
            clear hz
            go_wp2
            exact bodyPost_ret (results_tmp3 Try.results31 _ _ _) rfl ⟨ret_tk HE.out, rfl⟩
          · by_cases hr : k = 9 ∧ 1 < s[k].toNat
            · have HE := Lib.hid (tk_range HU.out hr.1 hll (by rw [← HC.out]; exact hr.2) (by rw [← HC.out]; have := HG.out; omega))
              obtain ⟨rfl, hc1⟩ := hr
              clear hz
              go_wp2
              exact bodyPost_ret (results_tmp3 Try.results31 _ _ _) rfl ⟨ret_tk HE.out, rfl⟩
            · have HE := Lib.hid (tk_ok HU.out (by omega) hll (by rw [← HC.out]; have := HG.out; omega) (by rw [← HC.out]; omega) (by rw [← HC.out]; omega))
              have HF := Lib.hid (val_fits (sl s) k (by omega) hll (by rw [← HC.out]; omega))
              obtain ⟨D, hT, hB, hD0, hV0⟩ : ∃ D : Nat → Nat, (∀ i, i ≤ k → ∀ h : i < s.size, D i = s[i].toNat % 128 + 128 * D (i + 1)) ∧ (∀ i, D i < 18446744073709551616) ∧ D (k + 1) = 0 ∧ D 0 = valL ((sl s).take (k + 1)) := by
                refine ⟨fun i => valL (((sl s).take (k + 1)).drop i), fun i hi h => ?_, fun i => Nat.lt_of_le_of_lt (valL_drop_le _ i) HF.out, ?_, rfl⟩
                · show valL (((sl s).take (k + 1)).drop i) = _
                  rw [val_step _ i (by rw [List.length_take]; omega), sl_get s i h, List.getD_eq_getElem?_getD, List.getElem?_take, if_pos (by omega), ← List.getD_eq_getElem?_getD]
                · show valL (((sl s).take (k + 1)).drop (k + 1)) = _
                  rw [List.drop_eq_nil_of_le (by rw [List.length_take]; omega)]; rfl
              have HT := Lib.hid hT
              have HB := Lib.hid hB
              have HD0 := Lib.hid hD0
              have HE2 : Hid (tkL (sl s) = (D 0, k + 1, 0)) := Lib.hid (by rw [HE.out, hV0])
              clear hT hB hD0 hV0 HE HF
              obtain ⟨K, hK⟩ : ∃ K, K = k + 1 := ⟨_, rfl⟩
              have HKK : Hid ((k : Int) + 1 = (K : Int)) := Lib.hid (by omega)
              have hKs : K ≤ s.size := by omega
              replace HT : Hid (∀ i, i < K → ∀ h : i < s.size, D i = s[i].toNat % 128 + 128 * D (i + 1)) := Lib.hid fun i hi h => HT.out i (by omega) h
              rw [← hK] at HD0 HE2
              clear hK
              have h9 : k = 9 ∨ k ≠ 9 := by omega
              rcases h9 with rfl | h9 <;> go_wp2
              all_goals (
                go_loop [6, 7] (fun x i => ∃ j : Nat, j ≤ K ∧ i = .int .i64 ((j : Int) - 1) ∧ x = .int .u64 ((D j : Nat) : Int)) (fun _ i => (intOf i + 1).toNat)
                case atStart => exact ⟨K, Nat.le_refl _, congrArg (Value.int .i64) (by have := HKK.out; omega), by rw [HD0.out]; rfl⟩
                case round =>
                  obtain ⟨j, hj, rfl, rfl⟩ := hrel
                  cases j with
                  | zero =>
                    go_wp2
                    refine bodyPost_ret (results_tmp3 Try.results31 _ _ _) rfl ⟨?_, rfl⟩
                    rw [← ret_tk HE2.out, ← HKK.out]
                    rfl
                  | succ j =>
                    have e1 : (((j + 1 : Nat) : Int) - 1) = (j : Int) := by omega
                    rw [e1]
                    have hjs : j < s.size := by omega
                    have hji : (j : Int) < (s.size : Int) := by omega
                    have hd0 : decide ((0 : Int) ≤ (j : Int)) = true := by simp
                    have HS := Lib.hid (HT.out j (by omega) hjs)
                    have hb1 := HB.out j
                    have hb2 := HB.out (j + 1)
                    have hcl : s[j].toNat < 256 := s[j].toNat_lt
                    have hbb : D (j + 1) * 128 + s[j].toNat % 128 < 18446744073709551616 := by rw [HS.out] at hb1; omega
                    clear e1
                    generalize D (j + 1) = d at HS hb2 hbb ⊢
                    go_wp2
                    go_round
                    case rel => exact ⟨j, by omega, by go_num, by rw [HS.out]; go_num⟩
                    case measure => simp [intOf])
end Go.Proofs.Ytbnaiojbkecofaa
