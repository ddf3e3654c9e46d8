/-
  Contracts of milepostref10 (figure, value, Text) and of milepostref03.Raw. Conditions: a number below 16; a string has at most a million bytes.
-/
import Derived.Test.YthigdhdapbjakaaHexWalkA
namespace Go.Proofs.Ythigdhdapbjakaa
open Go.RowKit

theorem refFigure_any (n : Nat) (w : World) (hn : n < 16) :
    Calls Try.prog 13 #[.int .i64 (n : Int)] w fun e w' => e = .returned (.int .u8 (fig n : Int)) ∧ w = w' := by
  by_cases h : n < 10
  · have hd : decide ((n : Int) < 10) = true := decide_eq_true (by omega)
    have hw : IntKind.u8.wrap (48 + (n : Int)) = 48 + (n : Int) := by rw [IntKind.wrap_u8]; omega
    have HF : Hid (fig n = 48 + n) := Lib.hid (by rw [fig, if_pos h])
    go_enter Try.func13, Try.ntmps13
    go_wp2
    go_ret
    exact ⟨ret_int (by rw [HF.out]; omega), rfl⟩
  · have hd : decide ((n : Int) < 10) = false := decide_eq_false (by omega)
    have hw : IntKind.u8.wrap (97 + (n : Int) - 10) = 87 + (n : Int) := by rw [IntKind.wrap_u8]; omega
    have HF : Hid (fig n = 87 + n) := Lib.hid (by rw [fig, if_neg h])
    go_enter Try.func13, Try.ntmps13
    go_wp2
    go_ret
    exact ⟨ret_int (by rw [HF.out]; omega), rfl⟩
def refV (c : Nat) : Int := if valN c < 16 then (valN c : Int) else -1
theorem refV_yes {c : Nat} (h : valN c < 16) : refV c = (valN c : Int) := by rw [refV, if_pos h]
theorem refV_no {c : Nat} (h : ¬ valN c < 16) : refV c = -1 := by rw [refV, if_neg h]
theorem refValue_any (c : Nat) (w : World) :
    Calls Try.prog 15 #[.int .u8 (c : Int)] w fun e w' => e = .returned (.int .i64 (refV c)) ∧ w = w' := by
  go_enter Try.func15, Try.ntmps15
  go_wp2
  go_loop [3] (fun i => ∃ k : Nat, k ≤ 16 ∧ i = .int .i64 (k : Int) ∧ Hid (∀ j, j < k → fig j ≠ c)) (fun i => 16 - (intOf i).toNat)
  case atStart => exact ⟨0, by omega, rfl, Lib.hid fun j hj => by omega⟩
  case round =>
    obtain ⟨k, hk, rfl, HN⟩ := hrel
    by_cases hlt : k < 16
    · have hd : decide ((k : Int) < 16) = true := decide_eq_true (by omega)
      have HF : Hid (∀ w, Calls Try.prog 13 #[.int .i64 (k : Int)] w fun e w' => e = .returned (.int .u8 (fig k : Int)) ∧ w = w') := Lib.hid fun w => refFigure_any k w hlt
      by_cases he : fig k = c
      · have hq : ((fig k : Int) == (c : Int)) = true := by simp; omega
        have HV : Hid (refV c = (k : Int)) := Lib.hid (by
          have hv : valN c = k := by rw [← he]; exact val_fig k hlt
          rw [refV_yes (by omega), hv])
        clear he
        go_wp2_with (go_at_call 13; refine (HF.out _).mono ?_; rintro e w' ⟨rfl, rfl⟩)
        go_ret
        exact ⟨ret_int HV.out.symm, rfl⟩
      · have hq : ((fig k : Int) == (c : Int)) = false := by simp; omega
        have HE := Lib.hid he
        clear he
        go_wp2_with (go_at_call 13; refine (HF.out _).mono ?_; rintro e w' ⟨rfl, rfl⟩)
        go_round
        case rel =>
          refine ⟨k + 1, by omega, by go_num, Lib.hid fun j hj => ?_⟩
          rcases Nat.lt_or_ge j k with h | h
          · exact HN.out j h
          · rw [show j = k by omega]; exact HE.out
        case measure => simp [intOf]; omega
    · have hd : decide ((k : Int) < 16) = false := decide_eq_false (by omega)
      obtain rfl : k = 16 := by omega
      have HV := Lib.hid (refV_no (val_none c HN.out))
      go_wp2
      go_ret
      exact ⟨ret_int HV.out.symm, rfl⟩
theorem run_make32x (w : World) : (Instr.makeSlice 32 (.int .i64 32) (.int .i64 32)).run Try.prog w = .ok (.slice (some ⟨w.heap.size, 0, none⟩) 32 32) (w.alloc (.cells (bC 32 []) 5)) := by kernel_rfl
theorem take_stepx (l : List UInt8) (k : Nat) (h : k < l.length) : l.take k ++ [l.getD k 0] = l.take (k + 1) := by
  rw [List.take_add_one]
  simp [List.getD_eq_getElem?_getD, h]
theorem run_rowS (w : World) (g n : Nat) (T : TypeId) (l : List UInt8) (hl : l.length = n) (hr : Rowz w g (bC n l) T) :
    (convert 32 9 (.slice (some ⟨g, 0, none⟩) n n)).run Try.prog w = .ok (.string (lS l)) w := by
  have h := run_strB w g 0 n l (fun j hj => by
    rw [Nat.zero_add, hr.byte j (by omega)]
    simp [List.getD_eq_getElem?_getD, hj])
  rw [hl] at h
  exact h
set_option maxHeartbeats 400000 in
theorem refRaw_l (l : List UInt8) (hl : l.length = 32) (w : World) :
    Calls Try.prog 12 #[.agg (bC 32 l)] w fun e w' => e = .returned (.string (lS l)) ∧ Grown w w' := by
  have hm := run_make32x (w.alloc (.cells (bC 32 l) 28))
  go_enter Try.func12, Try.ntmps12
  go_wp2_with fail
  clear hm
  have F0 := Lib.hid ((Rowz.new w (bC 32 l) 28).alloc (.cells (bC 32 []) 5))
  have F1 := Lib.hid (Rowz.newEq1 w (.cells (bC 32 l) 28) (.cells (bC 32 []) 5) _ _ rfl)
  have F2 := Lib.hid (((Grown.refl w).alloc (bC 32 l) 28).alloc (bC 32 []) 5)
  generalize (w.alloc (.cells (bC 32 l) 28)).alloc (.cells (bC 32 []) 5) = v at F0 F1 F2 ⊢
  obtain ⟨b, hb⟩ : ∃ b, b = w.heap.size := ⟨_, rfl⟩
  have HB := Lib.hid hb
  rw [← hb] at F0 F1 ⊢
  clear hb
  go_loopw [4] (fun i wr => ∃ k : Nat, k ≤ 32 ∧ i = .int .i64 k ∧ Hid (Rowz wr b (bC 32 l) 28) ∧ Hid (Rowz wr (b + 1) (bC 32 (l.take k)) 5) ∧ Hid (Grown w wr)) (fun i _ => 32 - (intOf i).toNat)
  case atStart => exact ⟨0, by omega, rfl, F0, F1, F2⟩
  case round =>
    clear F0 F1 F2
    obtain ⟨k, hk, rfl, F0, F1, F2⟩ := hrel
    by_cases hlt : k < 32
    · have hd : decide ((k : Int) < 32) = true := by simp; omega
      have hc0 := F0.out.byte k hlt
      have hc1 := F1.out.byte k hlt
      have hf1 := F1.out.free k
      go_wp2
      go_roundw
      case measure => simp [intOf]; omega
      case rel =>
        have hkl : k < l.length := by omega
        have hv : ((l[k].toNat : Nat) : Int) = (((l.getD k 0).toNat : Nat) : Int) := by simp [List.getD_eq_getElem?_getD, hkl]
        exact ⟨k + 1, by omega, rfl, Lib.hid (F0.out.other _ _ (by simp)), Lib.hid (take_stepx l k (by omega) ▸ F1.out.pushB k (by simp; omega) _ _ hv), Lib.hid (F2.out.setCell (by rw [← HB.out]; simp) _)⟩
    · have hd : decide ((k : Int) < 32) = false := by simp; omega
      obtain rfl : k = 32 := by omega
      have hq := run_rowS wr (b + 1) 32 _ l hl (by have h := F1.out; rwa [List.take_of_length_le (by omega)] at h)
      go_wp2
      go_ret
      exact ⟨rfl, F2.out⟩
set_option maxRecDepth 100000 in
set_option maxHeartbeats 1000000 in
theorem refText10_any (s : ByteArray) (w : World) (hs : s.size ≤ 1000000) :
    Calls Try.prog 7 #[.string s] w fun e w' => e = .returned (.string (hexS s)) ∧ Grown w w' := by
  by_cases h0 : s.size = 0
  · obtain rfl := size0 h0
    have he := isE_yes
    go_enter Try.func7, Try.ntmps7
    go_wp2
    go_ret
    exact ⟨rfl, Grown.refl w⟩
  · have he := isE_no h0
    have hmk : ∀ w, (Instr.makeSlice 32 (.int .i64 (2 * (s.size : Int))) (.int .i64 (2 * (s.size : Int)))).run Try.prog w = .ok (.slice (some ⟨w.heap.size, 0, none⟩) (2 * s.size) (2 * s.size)) (w.alloc (.cells (bC (2 * s.size) []) 5)) := fun w => run_makeLC (2 * s.size) (2 * s.size) w (by omega) (by omega)
    have HX := Lib.hid (hexS_some h0)
    have HF : Hid (∀ n w, n < 16 → Calls Try.prog 13 #[.int .i64 ((n : Nat) : Int)] w fun e w' => e = .returned (.int .u8 (fig n : Int)) ∧ w = w') := Lib.hid fun n w h => refFigure_any n w h
    go_enter Try.func7, Try.ntmps7
    go_wp2
    clear hmk he
    have F0 := Lib.hid (Rowz.new w (bC (2 * s.size) []) 5)
    have F1 := Lib.hid ((Grown.refl w).alloc (bC (2 * s.size) []) 5)
    generalize w.alloc (.cells (bC (2 * s.size) []) 5) = v0 at F0 F1 ⊢
    go_loopw [4] (fun i wr => ∃ k : Nat, k ≤ s.size ∧ i = .int .i64 (k : Int) ∧ Hid (Rowz wr w.heap.size (bC (2 * s.size) (hexTo (sl s) (2 * k))) 5) ∧ Hid (Grown w wr)) (fun i _ => s.size - (intOf i).toNat)
    case atStart => exact ⟨0, by omega, rfl, F0, F1⟩
    case round =>
      clear F0 F1
      obtain ⟨k, hk, rfl, F0, F1⟩ := hrel
      by_cases hlt : k < s.size
      · have hd : decide ((k : Int) < (s.size : Int)) = true := decide_eq_true (by omega)
        have hd' : decide (k < s.size) = true := decide_eq_true hlt
        have hki : (k : Int) < (s.size : Int) := by omega
        obtain ⟨c, hc⟩ : ∃ c, c = byteL (sl s) k := ⟨_, rfl⟩
        have hcl : c < 256 := by rw [hc]; exact byteL_lt _ _
        have hcs : (s[k]).toNat = c := by rw [hc]; exact sl_get s k hlt
        have HC := Lib.hid hc
        clear hc
        have hc0 := F0.out.byte (2 * k) (by omega)
        have hc1 := F0.out.byte (2 * k + 1) (by omega)
        have hf0 := F0.out.free (2 * k)
        have hf1 := F0.out.free (2 * k + 1)
        obtain ⟨a, ha⟩ : ∃ a, a = c / 16 := ⟨_, rfl⟩
        obtain ⟨b, hb⟩ : ∃ b, b = c % 16 := ⟨_, rfl⟩
        have qa : (c : Int) / 16 = (a : Int) := by omega
        have qb : (c : Int) % 16 = (b : Int) := by omega
        have la : a < 16 := by omega
        have lb : b < 16 := by omega
        have HE : Hid (hexTo (sl s) (2 * k) ++ [UInt8.ofNat (fig a)] ++ [UInt8.ofNat (fig b)] = hexTo (sl s) (2 * (k + 1))) := Lib.hid (by
          rw [show 2 * (k + 1) = 2 * k + 1 + 1 by omega, hexTo_odd, hexTo_even, ← HC.out, ha, hb])
        have hfa := fig_lt a la
        have hfb := fig_lt b lb
        clear ha hb HC
        go_wp2_with (go_at_call 13; refine (HF.out _ _ (by assumption)).mono ?_; rintro e w' ⟨rfl, rfl⟩)
        go_roundw
        case measure => simp [intOf]; omega
        case rel =>
          refine ⟨k + 1, by omega, by go_num, Lib.hid ?_, Lib.hid ((F1.out.setCell (by simp) _).setCell (by simp) _)⟩
          rw [← HE.out]
          refine Rowz.pushB (Rowz.pushB F0.out (2 * k) (by simp [hexTo_length]) _ _ (by simp; omega)) (2 * k + 1) (by simp [hexTo_length]) _ _ (by simp; omega)
      · have hd : decide ((k : Int) < (s.size : Int)) = false := decide_eq_false (by omega)
        have hd' : decide (k < s.size) = false := decide_eq_false hlt
        obtain rfl : k = s.size := by omega
        have hcv := run_rowS wr w.heap.size (2 * s.size) _ _ (hexTo_length _ _) F0.out
        go_wp2
        go_ret
        exact ⟨ret_str HX.out.symm, F1.out⟩
end Go.Proofs.Ythigdhdapbjakaa
