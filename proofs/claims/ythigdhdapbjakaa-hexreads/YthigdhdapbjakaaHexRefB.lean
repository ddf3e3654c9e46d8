/-
  Contract of milepostref10.Bytes. Condition: a string has at most a million bytes.
-/
import Derived.Test.YthigdhdapbjakaaHexRefA
import Derived.Test.YthigdhdapbjakaaHexWalkB
namespace Go.Proofs.Ythigdhdapbjakaa
open Go.RowKit

theorem refBytes_dash (w : World) :
    Calls Try.prog 10 #[.string dashB] w fun e w' => e = .returned (.tuple #[.string (unS dashB), .bool (unB dashB)]) ∧ Grown w w' := by
  have he := eq45_yes
  go_enter Try.func10, Try.ntmps10
  go_wp2
  exact bodyPost_ret (results_tmp2 Try.results10 _ _ _) rfl ⟨ret_un unS_dash unB_dash, Grown.refl w⟩
theorem refBytes_odd (s : ByteArray) (w : World) (hs : s.size ≤ 1000000) (hd : s ≠ dashB) (ho : s.size = 0 ∨ s.size % 2 = 1) :
    Calls Try.prog 10 #[.string s] w fun e w' => e = .returned (.tuple #[.string (unS s), .bool (unB s)]) ∧ Grown w w' := by
  have HB := Lib.hid (unB_odd hd ho)
  have HS := Lib.hid (unS_no HB.out)
  have he := eq45_no hd
  clear hd
  rcases ho with h0 | h1
  · obtain rfl := size0 h0
    have hi := isE_yes
    go_enter Try.func10, Try.ntmps10
    go_wp2
    exact bodyPost_ret (results_tmp2 Try.results10 _ _ _) rfl ⟨ret_un HS.out HB.out, Grown.refl w⟩
  · have hi := isE_no (s := s) (by omega)
    have hm : ((s.size : Int) % 2) = 1 := by omega
    clear h1
    go_enter Try.func10, Try.ntmps10
    go_wp2
    exact bodyPost_ret (results_tmp2 Try.results10 _ _ _) rfl ⟨ret_un HS.out HB.out, Grown.refl w⟩
set_option maxRecDepth 100000 in
set_option maxHeartbeats 2000000 in
theorem refBytes_even (s : ByteArray) (w : World) (n : Nat) (hn : s.size = 2 * n) (hs : s.size ≤ 1000000) (hd : s ≠ dashB) (h0 : ¬ s.size = 0) :
    Calls Try.prog 10 #[.string s] w fun e w' => e = .returned (.tuple #[.string (unS s), .bool (unB s)]) ∧ Grown w w' := by
  have HB := Lib.hid (unB_even hd h0 (by omega))
  have HY : Hid (unB s = true → unS s = lS (prsAt (sl s) n)) := Lib.hid (fun h => by rw [unS_yes hd h, hn, show 2 * n / 2 = n by omega])
  have he := eq45_no hd
  have hi := isE_no h0
  have hm : ((s.size : Int) % 2) = 0 := by omega
  have hmk : ∀ w, (Instr.makeSlice 32 (.int .i64 ((s.size : Int) / 2)) (.int .i64 ((s.size : Int) / 2))).run Try.prog w = .ok (.slice (some ⟨w.heap.size, 0, none⟩) n n) (w.alloc (.cells (bC n []) 5)) := fun w => by
    have h := run_makeLC n n w (by omega) (by omega)
    rwa [show (n : Int) = (s.size : Int) / 2 by omega] at h
  have HV : Hid (∀ (c : Nat) w, Calls Try.prog 15 #[.int .u8 (c : Int)] w fun e w' => e = .returned (.int .i64 (refV c)) ∧ w = w') := Lib.hid refValue_any
  clear hd
  have HN := Lib.hid hn
  have hn1 : n ≤ 500000 := by omega
  clear hn
  go_enter Try.func10, Try.ntmps10
  go_wp2
  clear hmk he hi hm
  have F0 := Lib.hid (Rowz.new w (bC n []) 5)
  have F1 := Lib.hid ((Grown.refl w).alloc (bC n []) 5)
  generalize w.alloc (.cells (bC n []) 5) = v0 at F0 F1 ⊢
  go_loopw [5] (fun i wr => ∃ k : Nat, k ≤ n ∧ i = .int .i64 (k : Int) ∧ Hid (okB (sl s) (2 * k) = true) ∧ Hid (Rowz wr w.heap.size (bC n (prsAt (sl s) k)) 5) ∧ Hid (Grown w wr)) (fun i _ => n - (intOf i).toNat)
  case atStart => exact ⟨0, by omega, rfl, Lib.hid rfl, F0, F1⟩
  case round =>
    clear F0 F1
    obtain ⟨k, hk, rfl, HD, F0, F1⟩ := hrel
    by_cases hlt : k < n
    · have hd : decide ((k : Int) < (n : Int)) = true := decide_eq_true (by omega)
      have hd' : decide (k < n) = true := decide_eq_true hlt
      have hk0 : 2 * k < s.size := by have := HN.out; omega
      have hk1 : 2 * k + 1 < s.size := by have := HN.out; omega
      have hi0 : 2 * (k : Int) < (s.size : Int) := by omega
      have hi1 : 2 * (k : Int) + 1 < (s.size : Int) := by omega
      obtain ⟨c, hc⟩ : ∃ c, c = byteL (sl s) (2 * k) := ⟨_, rfl⟩
      obtain ⟨d, hdd⟩ : ∃ d, d = byteL (sl s) (2 * k + 1) := ⟨_, rfl⟩
      have hcs : (s[2 * k]).toNat = c := by rw [hc]; exact sl_get s _ hk0
      have hds : (s[2 * k + 1]).toNat = d := by rw [hdd]; exact sl_get s _ hk1
      have hcell := F0.out.byte k hlt
      have hfree := F0.out.free k
      by_cases hv : valN c < 16
      · by_cases hu : valN d < 16
        · obtain ⟨a, ha⟩ : ∃ a, a = valN c := ⟨_, rfl⟩
          obtain ⟨b, hb⟩ : ∃ b, b = valN d := ⟨_, rfl⟩
          have r0 : refV c = (a : Int) := by rw [ha]; exact refV_yes hv
          have r1 : refV d = (b : Int) := by rw [hb]; exact refV_yes hu
          have la : a < 16 := by omega
          have lb : b < 16 := by omega
          have d0 : decide ((a : Int) < 0) = false := decide_eq_false (by omega)
          have d1 : decide ((b : Int) < 0) = false := decide_eq_false (by omega)
          have hw : IntKind.u8.wrap (16 * (a : Int) + (b : Int)) = 16 * (a : Int) + (b : Int) := by rw [IntKind.wrap_u8]; omega
          have HE : Hid (prsAt (sl s) k ++ [UInt8.ofNat (16 * a + b)] = prsAt (sl s) (k + 1)) := Lib.hid (by rw [prsAt_succ, prC, ← hc, ← hdd, ha, hb])
          have HD2 : Hid (okB (sl s) (2 * (k + 1)) = true) := Lib.hid (by
            rw [show 2 * (k + 1) = 2 * k + 1 + 1 by omega]
            exact okB_succ _ _ (okB_succ _ _ HD.out (by rw [← hc]; exact hv)) (by rw [← hdd]; exact hu))
          clear ha hb hv hu hc hdd HD
          go_wp2_with (go_at_call 15; refine (HV.out _ _).mono ?_; rintro e w' ⟨rfl, rfl⟩)
          go_roundw
          case measure => simp [intOf]; omega
          case rel =>
            refine ⟨k + 1, by omega, by go_num, HD2, Lib.hid ?_, Lib.hid (F1.out.setCell (by simp) _)⟩
            rw [← HE.out]
            exact Rowz.pushB F0.out k (by simp [prsAt_length]) _ _ (by simp; omega)
        · have HU := Lib.hid (HB.out.trans (okB_not (sl s) (2 * k + 1) s.size hk1 (by rw [← hdd]; exact hu)))
          have HS := Lib.hid (unS_no HU.out)
          obtain ⟨a, ha⟩ : ∃ a, a = valN c := ⟨_, rfl⟩
          have r0 : refV c = (a : Int) := by rw [ha]; exact refV_yes hv
          have r1 : refV d = -1 := refV_no hu
          have d0 : decide ((a : Int) < 0) = false := decide_eq_false (by omega)
          clear ha hv hu hc hdd HD
          go_wp2_with (go_at_call 15; refine (HV.out _ _).mono ?_; rintro e w' ⟨rfl, rfl⟩)
          exact bodyPost_ret (results_tmp2 Try.results10 _ _ _) rfl ⟨ret_un HS.out HU.out, F1.out⟩
      · have HU := Lib.hid (HB.out.trans (okB_not (sl s) (2 * k) s.size hk0 (by rw [← hc]; exact hv)))
        have HS := Lib.hid (unS_no HU.out)
        have r0 : refV c = -1 := refV_no hv
        clear hv hc hdd HD
        go_wp2_with (go_at_call 15; refine (HV.out _ _).mono ?_; rintro e w' ⟨rfl, rfl⟩)
        exact bodyPost_ret (results_tmp2 Try.results10 _ _ _) rfl ⟨ret_un HS.out HU.out, F1.out⟩
    · have hd : decide ((k : Int) < (n : Int)) = false := decide_eq_false (by omega)
      have hd' : decide (k < n) = false := decide_eq_false hlt
      obtain rfl : k = n := by omega
      have HU : Hid (unB s = true) := Lib.hid (by rw [HB.out, HN.out]; exact HD.out)
      have hcv := run_rowS wr w.heap.size k _ _ (prsAt_length _ _) F0.out
      go_wp2
      exact bodyPost_ret (results_tmp2 Try.results10 _ _ _) rfl ⟨ret_un (HY.out HU.out) HU.out, F1.out⟩
theorem refBytes_any (s : ByteArray) (w : World) (hs : s.size ≤ 1000000) :
    Calls Try.prog 10 #[.string s] w fun e w' => e = .returned (.tuple #[.string (unS s), .bool (unB s)]) ∧ Grown w w' := by
  by_cases hd : s = dashB
  · subst hd; exact refBytes_dash w
  · by_cases h0 : s.size = 0
    · exact refBytes_odd s w hs hd (.inl h0)
    · rcases Nat.mod_two_eq_zero_or_one s.size with h | h
      · exact refBytes_even s w (s.size / 2) (by omega) hs hd h0
      · exact refBytes_odd s w hs hd (.inr h)
end Go.Proofs.Ythigdhdapbjakaa
