/-
  Contract of num.Take.
-/
import Derived.Test.YtmccpbpnpdidbaaNumWalkA
namespace Go.Proofs.Ytmccpbpnpdidbaa
open Go.RowKit

def sl (s : ByteArray) : List UInt8 := s.data.toList
theorem sl_length (s : ByteArray) : (sl s).length = s.size := rfl
theorem sl_get (s : ByteArray) (k : Nat) (h : k < s.size) : (s[k]).toNat = ((sl s).getD k 0).toNat := by
  have h2 : k < (sl s).length := by rw [sl_length]; exact h
  rw [List.getD_eq_getElem?_getD, List.getElem?_eq_getElem h2]
  rfl
/-- What Take answers. -/
def tkV (l : List UInt8) : Value := .tuple #[.int .u64 ((tkL l).1 : Int), .int .i64 ((tkL l).2.1 : Int), .int .i64 ((tkL l).2.2 : Int)]
theorem ret_tk {l : List UInt8} {a b c : Nat} (h : tkL l = (a, b, c)) : Ending.returned (.tuple #[.int .u64 (a : Int), .int .i64 (b : Int), .int .i64 (c : Int)]) = .returned (tkV l) := by
  rw [tkV, h]

def TakeJ (s : ByteArray) (w : World) (a : Act) (w' : World) : Prop :=
  ∃ (k X : Nat) (u7 u9 u10 u11 u12 u13 u14 u15 u16 u17 u18 u19 u20 u21 u22 u23 u24 u25 u26 u27 u28 u29 : Value),
    a = { tmps := #[.string s, undef, .int .u64 0, .int .i64 0, .int .i64 0, .int .u64 (X : Int), .int .i64 (k : Int), u7, undef, u9, u10, u11, u12, u13, u14, u15, u16, u17, u18, u19, u20, u21, u22, u23, u24, u25, u26, u27, u28, u29, undef, undef, undef, undef, undef, undef, undef, undef], defers := [] } ∧
    Hid (X = valL ((sl s).take k) % 18446744073709551616) ∧ Hid (Ups (sl s) k) ∧ w' = w
def takeM (a : Act) (_ : World) : Nat := 10 - (intOf (a.tmps.getD 6 undef)).toNat
theorem or_step (X V c k : Nat) (hk : k ≤ 9) (hX : X = V % 18446744073709551616) (hV : V < 128 ^ k) : bits .or .u64 (X : Int) (IntKind.u64.wrap ((c : Int) * 2 ^ (7 * k))) = (((V + 128 ^ k * c) % 18446744073709551616 : Nat) : Int) := by
  have e7 : (128 : Nat) ^ k = 2 ^ (7 * k) := by rw [Nat.pow_mul]
  have hle : (2 : Nat) ^ (7 * k) ≤ 2 ^ 63 := Nat.pow_le_pow_right (by decide) (by omega)
  obtain ⟨m, hm⟩ : ∃ m, 2 ^ 64 = 2 ^ (7 * k) * m := ⟨2 ^ (64 - 7 * k), by rw [← Nat.pow_add, show 7 * k + (64 - 7 * k) = 64 by omega]⟩
  have hx : X = V := by rw [hX]; rw [e7] at hV; omega
  rw [hx]
  have ew : IntKind.u64.wrap ((c : Int) * 2 ^ (7 * k)) = ((2 ^ (7 * k) * (c % m) : Nat) : Int) := by
    rw [IntKind.wrap_u64]
    have : (c : Int) * 2 ^ (7 * k) = ((2 ^ (7 * k) * c : Nat) : Int) := by rw [Int.natCast_mul, Int.natCast_pow, Int.mul_comm]; rfl
    rw [this, ← Nat.mul_mod_mul_left, ← hm]
    omega
  have hm0 : 0 < m := by
    rcases Nat.eq_zero_or_pos m with h | h
    · rw [h] at hm; simp at hm
    · exact h
  rw [e7] at hV ⊢
  have hlt : 2 ^ (7 * k) * (c % m) + V < 2 ^ 64 := by
    have h1 : c % m < m := Nat.mod_lt _ hm0
    have h2 : 2 ^ (7 * k) * (c % m + 1) ≤ 2 ^ (7 * k) * m := Nat.mul_le_mul_left _ h1
    rw [← hm, Nat.mul_add, Nat.mul_one] at h2
    omega
  rw [ew, bits_or_u64_nat _ _ (by omega) (by omega), Nat.or_comm, ← Nat.two_pow_add_eq_or_of_lt hV]
  congr 1
  have e1 : V + 2 ^ (7 * k) * c = 2 ^ (7 * k) * (c % m) + V + 2 ^ 64 * (c / m) := by
    have := Nat.div_add_mod c m
    rw [hm, Nat.mul_assoc]
    have h3 : 2 ^ (7 * k) * c = 2 ^ (7 * k) * (m * (c / m)) + 2 ^ (7 * k) * (c % m) := by rw [← Nat.mul_add, this]
    rw [h3]; omega
  rw [e1, show (18446744073709551616 : Nat) = 2 ^ 64 by decide, Nat.add_mul_mod_self_left, Nat.mod_eq_of_lt hlt]
set_option maxRecDepth 100000 in
set_option maxHeartbeats 1000000 in
theorem numTake_any (s : ByteArray) (w : World) :
    Calls Try.prog 34 #[.string s] w fun e w' => e = .returned (tkV (sl s)) ∧ w = w' := by
  go_enter Try.func34, Try.ntmps34
  go_wp2
  refine wp_goto2 0 (TakeJ s w) takeM rfl ?_ ?_
  · go_wp2
    refine ⟨0, 0, _, _, _, _, _, _, _, _, _, _, _, _, _, _, _, _, _, _, _, _, _, _, rfl, Lib.hid rfl, Lib.hid (ups_zero _), rfl⟩
  · rintro a' wr ⟨k, X, u7, u9, u10, u11, u12, u13, u14, u15, u16, u17, u18, u19, u20, u21, u22, u23, u24, u25, u26, u27, u28, u29, rfl, HX, HU, rfl⟩
    have hXb : X < 18446744073709551616 := by rw [HX.out]; exact Nat.mod_lt _ (by decide)
    have hk10 := HU.out.1
    have hkl := HU.out.2.1
    rw [sl_length] at hkl
    by_cases h10 : k = 10
    · subst h10
      have HE := Lib.hid (tk_form HU.out)
      go_wp2
      simp only [Exit.jump]
      exact bodyPost_ret (results_tmp3 Try.results34 _ _ _) rfl ⟨ret_tk HE.out, rfl⟩
    · have hd10 : ((k : Int) == 10) = false := by simp; omega
      by_cases hsz : k = s.size
      · have HE := Lib.hid (tk_short HU.out (by omega) (by rw [sl_length]; exact hsz))
        have hdz : ((k : Int) == (s.size : Int)) = true := by simp; omega
        clear hsz
        go_wp2
        simp only [Exit.jump]
        exact bodyPost_ret (results_tmp3 Try.results34 _ _ _) rfl ⟨ret_tk HE.out, rfl⟩
      · have hlt : k < s.size := by omega
        have hdz : ((k : Int) == (s.size : Int)) = false := by simp; omega
        have hki : (k : Int) < (s.size : Int) := by omega
        have HC := Lib.hid (sl_get s k hlt)
        have HCL : s[k].toNat < 256 := s[k].toNat_lt
        have ha := and127 _ HCL
        have HV : Hid (valL ((sl s).take k) < 128 ^ k) := Lib.hid (by
          have h := valL_lt ((sl s).take k)
          rw [List.length_take, sl_length, Nat.min_eq_left (by omega)] at h
          exact h)
        have HOR := Lib.hid (or_step X _ (s[k].toNat % 128) k (by omega) HX.out HV.out)
        have HX2 : Hid ((valL ((sl s).take k) + 128 ^ k * (s[k].toNat % 128)) % 18446744073709551616 = valL ((sl s).take (k + 1)) % 18446744073709551616) := Lib.hid (by
          rw [HC.out, val_take _ k (by rw [sl_length]; exact hlt)])
        go_wp2_with (refine park_at 25 rfl ?_)
        rw [show ((s[k].toNat : Int) % 128) = ((s[k].toNat % 128 : Nat) : Int) from rfl]
        generalize IntKind.u64.wrap (((s[k].toNat % 128 : Nat) : Int) * 2 ^ (7 * k)) = W at HOR ⊢
        have hor := HOR.out
        rw [HX2.out] at hor
        generalize hY : valL ((sl s).take (k + 1)) % 18446744073709551616 = Y at hor
        have HY := Lib.hid hY
        clear hY ha HOR
        have hYb : Y < 18446744073709551616 := by rw [← HY.out]; exact Nat.mod_lt _ (by decide)
        refine unpark ?_
        by_cases hge : 128 ≤ s[k].toNat
        · have hdg : decide ((s[k].toNat : Int) ≥ 128) = true := by simp; omega
          have HU2 := Lib.hid (ups_succ HU.out (by omega) (by rw [sl_length]; exact hlt) (by rw [← HC.out]; exact hge))
          go_wp2
          go_step3
          refine ⟨rfl, ⟨k + 1, Y, _, _, _, _, _, _, _, _, _, _, _, _, _, _, _, _, _, _, _, _, _, _, rfl, Lib.hid HY.out.symm, HU2, rfl⟩, ?_⟩
          show 10 - (intOf (.int .i64 _)).toNat < 10 - (intOf (.int .i64 _)).toNat
          simp only [intOf]
          omega
        · have hdg : decide ((s[k].toNat : Int) ≥ 128) = false := by simp; omega
          have hll : k < (sl s).length := by rw [sl_length]; exact hlt
          have HL : Hid (∀ w, Calls Try.prog 38 #[.int .u8 (s[k].toNat : Int), .int .i64 ((k : Int) + 1)] w fun e w' => e = .returned (.int .i64 (lastE s[k].toNat (k + 1))) ∧ w = w') := Lib.hid fun w => numLast_any s[k].toNat (k + 1) w HCL (by omega)
          have HG := Lib.hid hge
          clear hge
          by_cases hz : 0 < k ∧ s[k].toNat = 0
          · have hE : lastE s[k].toNat (k + 1) = 2 := by rw [lastE, if_pos (by omega)]
            have HE := Lib.hid (tk_zero HU.out (by omega) hll hz.1 (by rw [← HC.out]; exact hz.2))
            rw [hE] at HL
            clear hz hE
            go_wp2_with (go_at_call 38; refine (HL.out _).mono ?_; rintro e w' ⟨rfl, rfl⟩)
            simp only [Exit.jump]
            exact bodyPost_ret (results_tmp3 Try.results34 _ _ _) rfl ⟨ret_tk HE.out, rfl⟩
          · by_cases hr : k = 9 ∧ 1 < s[k].toNat
            · have hE : lastE s[k].toNat (k + 1) = 3 := by rw [lastE, if_neg (by omega), if_pos (by omega)]
              have HE := Lib.hid (tk_range HU.out hr.1 hll (by rw [← HC.out]; exact hr.2) (by rw [← HC.out]; have := HG.out; omega))
              rw [hE] at HL
              clear hz hE hr
              go_wp2_with (go_at_call 38; refine (HL.out _).mono ?_; rintro e w' ⟨rfl, rfl⟩)
              simp only [Exit.jump]
              exact bodyPost_ret (results_tmp3 Try.results34 _ _ _) rfl ⟨ret_tk HE.out, rfl⟩
            · have hE : lastE s[k].toNat (k + 1) = 0 := by rw [lastE, if_neg (by omega), if_neg (by omega)]
              have HE := Lib.hid (tk_ok HU.out (by omega) hll (by rw [← HC.out]; have := HG.out; omega) (by rw [← HC.out]; omega) (by rw [← HC.out]; omega))
              have HF := Lib.hid (val_fits (sl s) k (by omega) hll (by rw [← HC.out]; omega))
              have HYV : Hid (Y = valL ((sl s).take (k + 1))) := Lib.hid (by rw [← HY.out]; exact Nat.mod_eq_of_lt HF.out)
              rw [hE] at HL
              clear hz hE hr
              go_wp2_with (go_at_call 38; refine (HL.out _).mono ?_; rintro e w' ⟨rfl, rfl⟩)
              simp only [Exit.jump]
              refine bodyPost_ret (results_tmp3 Try.results34 _ _ _) rfl ⟨?_, rfl⟩
              rw [← ret_tk HE.out, ← HYV.out]
              rfl
end Go.Proofs.Ytmccpbpnpdidbaa
