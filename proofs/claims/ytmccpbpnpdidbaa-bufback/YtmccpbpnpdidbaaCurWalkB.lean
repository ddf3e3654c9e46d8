/-
  Contracts of cur: Fail, Raw, Left, Err, Done, Byte, Num, Text, on a cursor and on none.
-/
import Derived.Test.YtmccpbpnpdidbaaCurWalkA
namespace Go.Proofs.Ytmccpbpnpdidbaa
open Go.RowKit

set_option maxRecDepth 100000 in
theorem curFail_any (g : Nat) (c : Cu) (x : Int) (w : World) (h : CurAt w g c) :
    Calls Try.prog 31 #[.pointer (some ⟨g, 0, none⟩), .int .i64 x] w fun e w' => e = .returned (.tuple #[]) ∧ CurAt w' g (failC c x) ∧ OnlyC g w w' := by
  have HC := Lib.hid (curKeep_any g c x w h)
  clear h
  by_cases hx : x ≠ 0 ∧ c.e = 0
  · have hk : keepB c x = true := by simp [keepB, hx]
    have HF : Hid (failC c x = ⟨noB, keepE c x⟩) := Lib.hid (by rw [failC, if_pos hx, keepE, if_pos hx])
    clear hx
    go_enter Try.func31, Try.ntmps31
    go_wp2_with (first
      | (go_at_call 36; refine HC.out.mono ?_; rintro e w1 ⟨rfl, H1, O1⟩; replace H1 := Lib.hid H1; replace O1 := Lib.hid O1)
      | (go_at_call 37; refine (curDrop_any g _ _ H1.out).mono ?_; rintro e w2 ⟨rfl, H2, O2⟩; replace H2 := Lib.hid H2; replace O2 := Lib.hid O2))
    exact ⟨rfl, .tuple #[], results_none Try.results31 _ _ _, rfl, by rw [HF.out]; exact H2.out, O1.out.trans O2.out⟩
  · have hk : keepB c x = false := by simp [keepB]; simpa using hx
    have HF : Hid (failC c x = ⟨c.b, keepE c x⟩) := Lib.hid (by rw [failC, if_neg hx, keepE, if_neg hx])
    clear hx
    go_enter Try.func31, Try.ntmps31
    go_wp2_with (go_at_call 36; refine HC.out.mono ?_; rintro e w1 ⟨rfl, H1, O1⟩; replace H1 := Lib.hid H1; replace O1 := Lib.hid O1)
    exact ⟨rfl, .tuple #[], results_none Try.results31 _ _ _, rfl, by rw [HF.out]; exact H1.out, O1.out⟩
theorem curFail_nil (x : Int) (w : World) :
    Calls Try.prog 31 #[.pointer none, .int .i64 x] w fun e w' => e = .returned (.tuple #[]) ∧ w = w' := by
  go_enter Try.func31, Try.ntmps31
  go_wp2
  exact ⟨rfl, .tuple #[], results_none Try.results31 _ _ _, rfl, rfl⟩

theorem curLeft_any (g : Nat) (c : Cu) (w : World) (h : CurAt w g c) :
    Calls Try.prog 28 #[.pointer (some ⟨g, 0, none⟩)] w fun e w' => e = .returned (.int .i64 (c.b.size : Int)) ∧ w = w' := by
  have HC := Lib.hid (curSize_any g c w h)
  clear h
  go_enter Try.func28, Try.ntmps28
  go_wp2_with (go_at_call 32; refine HC.out.mono ?_; rintro e w1 ⟨rfl, rfl⟩)
  go_ret
  exact ⟨rfl, rfl⟩
theorem curLeft_nil (w : World) :
    Calls Try.prog 28 #[.pointer none] w fun e w' => e = .returned (.int .i64 0) ∧ w = w' := by
  go_enter Try.func28, Try.ntmps28
  go_wp2
  go_ret
  exact ⟨rfl, rfl⟩
theorem curErr_any (g : Nat) (c : Cu) (w : World) (h : CurAt w g c) :
    Calls Try.prog 13 #[.pointer (some ⟨g, 0, none⟩)] w fun e w' => e = .returned (.int .i64 c.e) ∧ w = w' := by
  have HC := Lib.hid (curKept_any g c w h)
  clear h
  go_enter Try.func13, Try.ntmps13
  go_wp2_with (go_at_call 27; refine HC.out.mono ?_; rintro e w1 ⟨rfl, rfl⟩)
  go_ret
  exact ⟨rfl, rfl⟩
theorem curErr_nil (w : World) :
    Calls Try.prog 13 #[.pointer none] w fun e w' => e = .returned (.int .i64 6) ∧ w = w' := by
  go_enter Try.func13, Try.ntmps13
  go_wp2
  go_ret
  exact ⟨rfl, rfl⟩
theorem curDone_any (g : Nat) (c : Cu) (w : World) (h : CurAt w g c) :
    Calls Try.prog 14 #[.pointer (some ⟨g, 0, none⟩)] w fun e w' => e = .returned (.int .i64 (doneC c)) ∧ w = w' := by
  have HE := Lib.hid (curErr_any g c w h)
  have HL := Lib.hid (curLeft_any g c w h)
  clear h
  by_cases he : c.e = 0
  · have hd : (c.e == 0) = true := by simp [he]
    by_cases hs : 0 < c.b.size
    · have hd2 : decide ((c.b.size : Int) > 0) = true := by simp; omega
      have HD : Hid (doneC c = 2) := Lib.hid (by rw [doneC, if_pos ⟨he, hs⟩])
      clear he
      go_enter Try.func14, Try.ntmps14
      go_wp2_with (first
        | (go_at_call 13; refine HE.out.mono ?_; rintro e w1 ⟨rfl, rfl⟩)
        | (go_at_call 28; refine HL.out.mono ?_; rintro e w1 ⟨rfl, rfl⟩))
      go_ret
      exact ⟨ret_int HD.out.symm, rfl⟩
    · have hd2 : decide ((c.b.size : Int) > 0) = false := decide_eq_false (by omega)
      have HD : Hid (doneC c = c.e) := Lib.hid (by rw [doneC, if_neg (fun h => hs h.2)])
      clear he
      go_enter Try.func14, Try.ntmps14
      go_wp2_with (first
        | (go_at_call 13; refine HE.out.mono ?_; rintro e w1 ⟨rfl, rfl⟩)
        | (go_at_call 28; refine HL.out.mono ?_; rintro e w1 ⟨rfl, rfl⟩))
      go_ret
      exact ⟨ret_int HD.out.symm, rfl⟩
  · have hd : (c.e == 0) = false := by simp [he]
    have HD : Hid (doneC c = c.e) := Lib.hid (by rw [doneC, if_neg (fun h => he h.1)])
    clear he
    go_enter Try.func14, Try.ntmps14
    go_wp2_with (go_at_call 13; refine HE.out.mono ?_; rintro e w1 ⟨rfl, rfl⟩)
    go_ret
    exact ⟨ret_int HD.out.symm, rfl⟩
theorem curDone_nil (w : World) :
    Calls Try.prog 14 #[.pointer none] w fun e w' => e = .returned (.int .i64 6) ∧ w = w' := by
  have HE := Lib.hid (curErr_nil w)
  go_enter Try.func14, Try.ntmps14
  go_wp2_with (go_at_call 13; refine HE.out.mono ?_; rintro e w1 ⟨rfl, rfl⟩)
  go_ret
  exact ⟨rfl, rfl⟩

theorem curRaw_any (g : Nat) (c : Cu) (n : Int) (w : World) (h : CurAt w g c) :
    Calls Try.prog 22 #[.pointer (some ⟨g, 0, none⟩), .int .i64 n] w fun e w' => e = .returned (.string (rawP c n).1) ∧ CurAt w' g (rawP c n).2 ∧ OnlyC g w w' := by
  have HS := Lib.hid (curSize_any g c w h)
  have H := Lib.hid h
  clear h
  by_cases hn : n < 0
  · have HR : Hid (rawP c n = (noB, failC c 3)) := Lib.hid (by rw [rawP, if_pos hn])
    have HF := Lib.hid (curFail_any g c 3 w H.out)
    have hd : decide (n < 0) = true := by simp; omega
    go_enter Try.func22, Try.ntmps22
    go_wp2_with (go_at_call 31; refine HF.out.mono ?_; rintro e w1 ⟨rfl, H1, O1⟩; replace H1 := Lib.hid H1; replace O1 := Lib.hid O1)
    go_ret
    rw [HR.out]
    exact ⟨rfl, H1.out, O1.out⟩
  have hd : decide (n < 0) = false := by simp; omega
  by_cases hb : (c.b.size : Int) < n
  · have HR : Hid (rawP c n = (noB, failC c 1)) := Lib.hid (by rw [rawP, if_neg hn, if_pos hb])
    have HF := Lib.hid (curFail_any g c 1 w H.out)
    have hd2 : decide (n > (c.b.size : Int)) = true := by simp; omega
    go_enter Try.func22, Try.ntmps22
    go_wp2_with (first
      | (go_at_call 32; refine HS.out.mono ?_; rintro e w1 ⟨rfl, rfl⟩)
      | (go_at_call 31; refine HF.out.mono ?_; rintro e w1 ⟨rfl, H1, O1⟩; replace H1 := Lib.hid H1; replace O1 := Lib.hid O1))
    go_ret
    rw [HR.out]
    exact ⟨rfl, H1.out, O1.out⟩
  · obtain ⟨m, rfl⟩ : ∃ m : Nat, n = m := ⟨n.toNat, by omega⟩
    have HR : Hid (rawP c m = (c.b.extract 0 m, ⟨c.b.extract m c.b.size, c.e⟩)) := Lib.hid (by rw [rawP, if_neg hn, if_neg hb]; rfl)
    have HF := Lib.hid (curCut_any g c m w H.out (by omega))
    have hd2 : decide (c.b.size < m) = false := by simp; omega
    clear hn hb hd
    go_enter Try.func22, Try.ntmps22
    go_wp2_with (first
      | (go_at_call 32; refine HS.out.mono ?_; rintro e w1 ⟨rfl, rfl⟩)
      | (go_at_call 33; refine HF.out.mono ?_; rintro e w1 ⟨rfl, H1, O1⟩; replace H1 := Lib.hid H1; replace O1 := Lib.hid O1))
    go_ret
    rw [HR.out]
    exact ⟨rfl, H1.out, O1.out⟩
theorem curRaw_nil (n : Int) (w : World) :
    Calls Try.prog 22 #[.pointer none, .int .i64 n] w fun e w' => e = .returned (.string noB) ∧ w = w' := by
  go_enter Try.func22, Try.ntmps22
  go_wp2
  go_ret
  exact ⟨rfl, rfl⟩

set_option maxRecDepth 100000 in
theorem curByte_any (g : Nat) (c : Cu) (w : World) (h : CurAt w g c) :
    Calls Try.prog 23 #[.pointer (some ⟨g, 0, none⟩)] w fun e w' => e = .returned (.int .u8 ((firstB (rawP c 1).1 : Nat) : Int)) ∧ CurAt w' g (rawP c 1).2 ∧ OnlyC g w w' := by
  have HR := Lib.hid (curRaw_any g c 1 w h)
  clear h
  generalize rawP c 1 = r at HR ⊢
  obtain ⟨s, c'⟩ := r
  by_cases hs : s.size = 0
  · obtain rfl := size0 hs
    have hb : noB.toList.isEmpty = true := isE_yes
    clear hs
    go_enter Try.func23, Try.ntmps23
    go_wp2_with (go_at_call 22; refine HR.out.mono ?_; rintro e w1 ⟨rfl, H1, O1⟩; replace H1 := Lib.hid H1; replace O1 := Lib.hid O1)
    go_ret
    exact ⟨rfl, H1.out, O1.out⟩
  · have hb : s.toList.isEmpty = false := isE_no hs
    have hl : 0 < s.size := by omega
    have hli : (0 : Int) < (s.size : Int) := by omega
    have HV : Hid (s[0].toNat = firstB s) := Lib.hid (sl_get s 0 hl)
    clear hs
    go_enter Try.func23, Try.ntmps23
    go_wp2_with (go_at_call 22; refine HR.out.mono ?_; rintro e w1 ⟨rfl, H1, O1⟩; replace H1 := Lib.hid H1; replace O1 := Lib.hid O1)
    go_ret
    refine ⟨?_, H1.out, O1.out⟩
    rw [← HV.out]
    rfl
theorem curByte_nil (w : World) :
    Calls Try.prog 23 #[.pointer none] w fun e w' => e = .returned (.int .u8 0) ∧ w = w' := by
  have HR := Lib.hid (curRaw_nil 1 w)
  have hb : noB.toList.isEmpty = true := isE_yes
  go_enter Try.func23, Try.ntmps23
  go_wp2_with (go_at_call 22; refine HR.out.mono ?_; rintro e w1 ⟨rfl, rfl⟩)
  go_ret
  exact ⟨rfl, rfl⟩

theorem tk_fits (l : List UInt8) : (tkL l).1 < 18446744073709551616 ∧ (tkL l).2.1 ≤ l.length := by
  rcases tk_cases l with h | h | h | ⟨k, _, h1, h2, _, _, h9, h⟩
  · rw [h]; exact ⟨by decide, Nat.zero_le _⟩
  · rw [h]; exact ⟨by decide, Nat.zero_le _⟩
  · rw [h]; exact ⟨by decide, Nat.zero_le _⟩
  · rw [h]; exact ⟨val_fits l k h1 h2 h9, h2⟩
set_option maxRecDepth 100000 in
theorem curNum_any (g : Nat) (c : Cu) (most : Nat) (w : World) (h : CurAt w g c) :
    Calls Try.prog 24 #[.pointer (some ⟨g, 0, none⟩), .int .u64 (most : Int)] w fun e w' => e = .returned (.int .u64 ((numP c most).1 : Int)) ∧ CurAt w' g (numP c most).2 ∧ OnlyC g w w' := by
  have HQ := Lib.hid (curFront_any g c w h)
  have H := Lib.hid h
  have hb := tk_fits (sl c.b)
  rw [sl_length] at hb
  clear h
  obtain ⟨X, n, er, hT⟩ : ∃ X n er, tkL (sl c.b) = (X, n, er) := ⟨_, _, _, rfl⟩
  have HT := Lib.hid (numTake_at c.b X n er hT)
  rw [hT] at hb
  have hX : X < 18446744073709551616 := hb.1
  have hn : n ≤ c.b.size := hb.2
  clear hb
  by_cases he : er = 0
  · have hde : ((er : Int) == 0) = true := by simp [he]
    by_cases hx : most < X
    · have HR : Hid (numP c most = (0, failC c 3)) := Lib.hid (by rw [numP, hT]; simp only; rw [if_neg (by simp [he]), if_pos hx])
      have hdx : decide (most < X) = true := decide_eq_true hx
      have HF := Lib.hid (curFail_any g c 3 w H.out)
      clear hT he
      go_enter Try.func24, Try.ntmps24
      go_wp2_with (first
        | (go_at_call 35; refine HQ.out.mono ?_; rintro e w1 ⟨rfl, rfl⟩)
        | (go_at_call 34; refine (HT.out _).mono ?_; rintro e w1 ⟨rfl, rfl⟩)
        | (go_at_call 31; refine HF.out.mono ?_; rintro e w1 ⟨rfl, H1, O1⟩; replace H1 := Lib.hid H1; replace O1 := Lib.hid O1))
      go_ret
      rw [HR.out]
      exact ⟨rfl, H1.out, O1.out⟩
    · have HR : Hid (numP c most = (X, ⟨c.b.extract n c.b.size, c.e⟩)) := Lib.hid (by rw [numP, hT]; simp only; rw [if_neg (by simp [he]), if_neg hx])
      have hdx : decide (most < X) = false := decide_eq_false hx
      have HF := Lib.hid (curCut_any g c n w H.out hn)
      clear hT he hx
      go_enter Try.func24, Try.ntmps24
      go_wp2_with (first
        | (go_at_call 35; refine HQ.out.mono ?_; rintro e w1 ⟨rfl, rfl⟩)
        | (go_at_call 34; refine (HT.out _).mono ?_; rintro e w1 ⟨rfl, rfl⟩)
        | (go_at_call 33; refine HF.out.mono ?_; rintro e w1 ⟨rfl, H1, O1⟩; replace H1 := Lib.hid H1; replace O1 := Lib.hid O1))
      go_ret
      rw [HR.out]
      exact ⟨rfl, H1.out, O1.out⟩
  · have hde : ((er : Int) == 0) = false := by simp [he]
    have HR : Hid (numP c most = (0, failC c (er : Int))) := Lib.hid (by rw [numP, hT]; simp only; rw [if_pos he])
    have HF := Lib.hid (curFail_any g c (er : Int) w H.out)
    clear hT he
    go_enter Try.func24, Try.ntmps24
    go_wp2_with (first
      | (go_at_call 35; refine HQ.out.mono ?_; rintro e w1 ⟨rfl, rfl⟩)
      | (go_at_call 34; refine (HT.out _).mono ?_; rintro e w1 ⟨rfl, rfl⟩)
      | (go_at_call 31; refine HF.out.mono ?_; rintro e w1 ⟨rfl, H1, O1⟩; replace H1 := Lib.hid H1; replace O1 := Lib.hid O1))
    go_ret
    rw [HR.out]
    exact ⟨rfl, H1.out, O1.out⟩
theorem curNum_nil (most : Int) (w : World) :
    Calls Try.prog 24 #[.pointer none, .int .u64 most] w fun e w' => e = .returned (.int .u64 0) ∧ w = w' := by
  go_enter Try.func24, Try.ntmps24
  go_wp2
  go_ret
  exact ⟨rfl, rfl⟩
end Go.Proofs.Ytmccpbpnpdidbaa
