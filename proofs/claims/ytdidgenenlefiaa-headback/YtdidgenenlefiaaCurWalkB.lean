/-
  Contracts of cur: Fail, Raw, Left, Err, Done, Byte, Num, Text, on a cursor and on none.
-/
import Derived.Test.YtdidgenenlefiaaCurWalkA
namespace Go.Proofs.Ytdidgenenlefiaa
set_option maxRecDepth 4000
open Go.RowKit

set_option maxRecDepth 100000 in
theorem curFail_any (g : Nat) (c : Cu) (x : Int) (w : World) (h : CurAt w g c) :
    Calls Try.prog 31 #[.pointer (some ⟨g, 0, none⟩), .int .i64 x] w fun e w' => e = .returned (.tuple #[]) ∧ CurAt w' g (failC c x) ∧ OnlyC g w w' := by
  have HC := Lib.hid (curKeep_any g c x w h)
  clear h
  by_cases hx : x ≠ 0 ∧ c.e = 0
  · have hk : keepB c x = true := by simp [keepB, hx]
    have HF : Hid (failC c x = ⟨noB, keepE c x⟩) := Lib.hid (by rw [failC, if_pos hx, keepE, if_pos hx])
    clear hx
    go_enter Try.func31, Try.ntmps31
    go_wp2_with (first
      | (go_at_call 34; refine HC.out.mono ?_; rintro e w1 ⟨rfl, H1, O1⟩; replace H1 := Lib.hid H1; replace O1 := Lib.hid O1)
      | (go_at_call 35; refine (curDrop_any g _ _ H1.out).mono ?_; rintro e w2 ⟨rfl, H2, O2⟩; replace H2 := Lib.hid H2; replace O2 := Lib.hid O2))
    exact ⟨rfl, .tuple #[], results_none Try.results31 _ _ _, rfl, by rw [HF.out]; exact H2.out, O1.out.trans O2.out⟩
  · have hk : keepB c x = false := by simp [keepB]; simpa using hx
    have HF : Hid (failC c x = ⟨c.b, keepE c x⟩) := Lib.hid (by rw [failC, if_neg hx, keepE, if_neg hx])
    clear hx
    go_enter Try.func31, Try.ntmps31
    go_wp2_with (go_at_call 34; refine HC.out.mono ?_; rintro e w1 ⟨rfl, H1, O1⟩; replace H1 := Lib.hid H1; replace O1 := Lib.hid O1)
    exact ⟨rfl, .tuple #[], results_none Try.results31 _ _ _, rfl, by rw [HF.out]; exact H1.out, O1.out⟩
theorem curFail_nil (x : Int) (w : World) :
    Calls Try.prog 31 #[.pointer none, .int .i64 x] w fun e w' => e = .returned (.tuple #[]) ∧ w = w' := by
  go_enter Try.func31, Try.ntmps31
  go_wp2
  exact ⟨rfl, .tuple #[], results_none Try.results31 _ _ _, rfl, rfl⟩

theorem curLeft_any (g : Nat) (c : Cu) (w : World) (h : CurAt w g c) :
    Calls Try.prog 14 #[.pointer (some ⟨g, 0, none⟩)] w fun e w' => e = .returned (.int .i64 (c.b.size : Int)) ∧ w = w' := by
  have HC := Lib.hid (curSize_any g c w h)
  clear h
  go_enter Try.func14, Try.ntmps14
  go_wp2_with (go_at_call 27; refine HC.out.mono ?_; rintro e w1 ⟨rfl, rfl⟩)
  go_ret
  exact ⟨rfl, rfl⟩
theorem curLeft_nil (w : World) :
    Calls Try.prog 14 #[.pointer none] w fun e w' => e = .returned (.int .i64 0) ∧ w = w' := by
  go_enter Try.func14, Try.ntmps14
  go_wp2
  go_ret
  exact ⟨rfl, rfl⟩
theorem curErr_any (g : Nat) (c : Cu) (w : World) (h : CurAt w g c) :
    Calls Try.prog 15 #[.pointer (some ⟨g, 0, none⟩)] w fun e w' => e = .returned (.int .i64 c.e) ∧ w = w' := by
  have HC := Lib.hid (curKept_any g c w h)
  clear h
  go_enter Try.func15, Try.ntmps15
  go_wp2_with (go_at_call 28; refine HC.out.mono ?_; rintro e w1 ⟨rfl, rfl⟩)
  go_ret
  exact ⟨rfl, rfl⟩
theorem curErr_nil (w : World) :
    Calls Try.prog 15 #[.pointer none] w fun e w' => e = .returned (.int .i64 6) ∧ w = w' := by
  go_enter Try.func15, Try.ntmps15
  go_wp2
  go_ret
  exact ⟨rfl, rfl⟩
theorem curDone_any (g : Nat) (c : Cu) (w : World) (h : CurAt w g c) :
    Calls Try.prog 20 #[.pointer (some ⟨g, 0, none⟩)] w fun e w' => e = .returned (.int .i64 (doneC c)) ∧ w = w' := by
  have HE := Lib.hid (curErr_any g c w h)
  have HL := Lib.hid (curLeft_any g c w h)
  clear h
  by_cases he : c.e = 0
  · have hd : (c.e == 0) = true := by simp [he]
    by_cases hs : 0 < c.b.size
    · have hd2 : decide ((c.b.size : Int) > 0) = true := by simp; omega
      have HD : Hid (doneC c = 2) := Lib.hid (by rw [doneC, if_pos ⟨he, hs⟩])
      clear he
      go_enter Try.func20, Try.ntmps20
      go_wp2_with (first
        | (go_at_call 15; refine HE.out.mono ?_; rintro e w1 ⟨rfl, rfl⟩)
        | (go_at_call 14; refine HL.out.mono ?_; rintro e w1 ⟨rfl, rfl⟩))
      go_ret
      exact ⟨ret_int HD.out.symm, rfl⟩
    · have hd2 : decide ((c.b.size : Int) > 0) = false := decide_eq_false (by omega)
      have HD : Hid (doneC c = c.e) := Lib.hid (by rw [doneC, if_neg (fun h => hs h.2)])
      clear he
      go_enter Try.func20, Try.ntmps20
      go_wp2_with (first
        | (go_at_call 15; refine HE.out.mono ?_; rintro e w1 ⟨rfl, rfl⟩)
        | (go_at_call 14; refine HL.out.mono ?_; rintro e w1 ⟨rfl, rfl⟩))
      go_ret
      exact ⟨ret_int HD.out.symm, rfl⟩
  · have hd : (c.e == 0) = false := by simp [he]
    have HD : Hid (doneC c = c.e) := Lib.hid (by rw [doneC, if_neg (fun h => he h.1)])
    clear he
    go_enter Try.func20, Try.ntmps20
    go_wp2_with (go_at_call 15; refine HE.out.mono ?_; rintro e w1 ⟨rfl, rfl⟩)
    go_ret
    exact ⟨ret_int HD.out.symm, rfl⟩
theorem curDone_nil (w : World) :
    Calls Try.prog 20 #[.pointer none] w fun e w' => e = .returned (.int .i64 6) ∧ w = w' := by
  have HE := Lib.hid (curErr_nil w)
  go_enter Try.func20, Try.ntmps20
  go_wp2_with (go_at_call 15; refine HE.out.mono ?_; rintro e w1 ⟨rfl, rfl⟩)
  go_ret
  exact ⟨rfl, rfl⟩

theorem curRaw_any (g : Nat) (c : Cu) (n : Int) (w : World) (h : CurAt w g c) :
    Calls Try.prog 23 #[.pointer (some ⟨g, 0, none⟩), .int .i64 n] w fun e w' => e = .returned (.string (rawP c n).1) ∧ CurAt w' g (rawP c n).2 ∧ OnlyC g w w' := by
  have HS := Lib.hid (curSize_any g c w h)
  have H := Lib.hid h
  clear h
  by_cases hn : n < 0
  · have HR : Hid (rawP c n = (noB, failC c 3)) := Lib.hid (by rw [rawP, if_pos hn])
    have HF := Lib.hid (curFail_any g c 3 w H.out)
    have hd : decide (n < 0) = true := by simp; omega
    go_enter Try.func23, Try.ntmps23
    go_wp2_with (go_at_call 31; refine HF.out.mono ?_; rintro e w1 ⟨rfl, H1, O1⟩; replace H1 := Lib.hid H1; replace O1 := Lib.hid O1)
    go_ret
    rw [HR.out]
    exact ⟨rfl, H1.out, O1.out⟩
  have hd : decide (n < 0) = false := by simp; omega
  by_cases hb : (c.b.size : Int) < n
  · have HR : Hid (rawP c n = (noB, failC c 1)) := Lib.hid (by rw [rawP, if_neg hn, if_pos hb])
    have HF := Lib.hid (curFail_any g c 1 w H.out)
    have hd2 : decide (n > (c.b.size : Int)) = true := by simp; omega
    go_enter Try.func23, Try.ntmps23
    go_wp2_with (first
      | (go_at_call 27; refine HS.out.mono ?_; rintro e w1 ⟨rfl, rfl⟩)
      | (go_at_call 31; refine HF.out.mono ?_; rintro e w1 ⟨rfl, H1, O1⟩; replace H1 := Lib.hid H1; replace O1 := Lib.hid O1))
    go_ret
    rw [HR.out]
    exact ⟨rfl, H1.out, O1.out⟩
  · obtain ⟨m, rfl⟩ : ∃ m : Nat, n = m := ⟨n.toNat, by omega⟩
    have HR : Hid (rawP c m = (c.b.extract 0 m, ⟨c.b.extract m c.b.size, c.e⟩)) := Lib.hid (by rw [rawP, if_neg hn, if_neg hb]; rfl)
    have HF := Lib.hid (curCut_any g c m w H.out (by omega))
    have hd2 : decide (c.b.size < m) = false := by simp; omega
    clear hn hb hd
    go_enter Try.func23, Try.ntmps23
    go_wp2_with (first
      | (go_at_call 27; refine HS.out.mono ?_; rintro e w1 ⟨rfl, rfl⟩)
      | (go_at_call 32; refine HF.out.mono ?_; rintro e w1 ⟨rfl, H1, O1⟩; replace H1 := Lib.hid H1; replace O1 := Lib.hid O1))
    go_ret
    rw [HR.out]
    exact ⟨rfl, H1.out, O1.out⟩
theorem curRaw_nil (n : Int) (w : World) :
    Calls Try.prog 23 #[.pointer none, .int .i64 n] w fun e w' => e = .returned (.string noB) ∧ w = w' := by
  go_enter Try.func23, Try.ntmps23
  go_wp2
  go_ret
  exact ⟨rfl, rfl⟩

theorem tk_fits (l : List UInt8) : (tkL l).1 < 18446744073709551616 ∧ (tkL l).2.1 ≤ l.length := by
  rcases tk_cases l with h | h | h | ⟨k, _, h1, h2, _, _, h9, h⟩
  · rw [h]; exact ⟨by decide, Nat.zero_le _⟩
  · rw [h]; exact ⟨by decide, Nat.zero_le _⟩
  · rw [h]; exact ⟨by decide, Nat.zero_le _⟩
  · rw [h]; exact ⟨val_fits l k h1 h2 h9, h2⟩
end Go.Proofs.Ytdidgenenlefiaa
