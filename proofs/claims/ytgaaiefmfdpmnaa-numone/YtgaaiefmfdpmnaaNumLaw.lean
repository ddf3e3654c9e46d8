/-
  What the laws of num share: Take's answer as a tuple, the examples.
-/
import Derived.Test.YtgaaiefmfdpmnaaNumRefA
import Derived.Test.YtgaaiefmfdpmnaaFactLib
namespace Go.Proofs.Ytgaaiefmfdpmnaa
open Go.RowKit

theorem numTake_at (s : ByteArray) (X n e : Nat) (h : tkL (sl s) = (X, n, e)) (w : World) :
    Calls Try.prog 11 #[.string s] w fun r w' => r = .returned (.tuple #[.int .u64 (X : Int), .int .i64 (n : Int), .int .i64 (e : Int)]) ∧ w = w' := by
  have h1 := numTake_any s w
  rw [tkV, h] at h1
  exact h1
theorem refTake7_at (s : ByteArray) (X n e : Nat) (hs : s.size ≤ maxLen) (h : tkL (sl s) = (X, n, e)) (w : World) :
    Calls Try.prog 12 #[.string s] w fun r w' => r = .returned (.tuple #[.int .u64 (X : Int), .int .i64 (n : Int), .int .i64 (e : Int)]) ∧ w = w' := by
  have h1 := refTake7_any s w hs
  rw [tkV, h] at h1
  exact h1
theorem num_ex1 (w : World) : Calls Try.prog 11 #[.string ⟨#[128, 0]⟩] w fun r w' => r = .returned (.tuple #[.int .u64 0, .int .i64 0, .int .i64 2]) ∧ w = w' :=
  numTake_at ⟨#[128, 0]⟩ 0 0 2 (by decide) w
theorem num_ex2 (w : World) : Calls Try.prog 11 #[.string ⟨#[128]⟩] w fun r w' => r = .returned (.tuple #[.int .u64 0, .int .i64 0, .int .i64 1]) ∧ w = w' :=
  numTake_at ⟨#[128]⟩ 0 0 1 (by decide) w
theorem num_ex3 (w : World) : Calls Try.prog 7 #[.int .u64 300] w fun r w' => r = .returned (.string ⟨#[172, 2]⟩) ∧ Kept w w' := by
  have h := numPut_any 300 w (by omega)
  rw [show vS 300 = ⟨#[172, 2]⟩ by rw [vS, vs_more 300 (by omega), vs_one _ (by omega)]; rfl] at h
  exact h
set_option maxHeartbeats 400000 in
theorem awake7_any (w : World) : Calls Try.prog 10 #[] w fun e w' => e = .returned (.bool true) ∧ Kept w w' := by
  have H1 := Lib.hid num_ex1
  have H2 := Lib.hid num_ex2
  have H3 := Lib.hid num_ex3
  go_enter Try.func10, Try.ntmps10
  go_wp2_with (first
    | (go_at_call 11; refine (H1.out _).mono ?_; rintro e w' ⟨rfl, rfl⟩; clear H1)
    | (go_at_call 11; refine (H2.out _).mono ?_; rintro e w' ⟨rfl, rfl⟩; clear H2)
    | (go_at_call 7; refine (H3.out _).mono ?_; rintro e w1 ⟨rfl, hg⟩))
  go_ret
  exact ⟨rfl, hg⟩
theorem sl_append (a b : ByteArray) : sl (a ++ b) = sl a ++ sl b := by
  show (a ++ b).data.toList = a.data.toList ++ b.data.toList
  rw [ByteArray.data_append, Array.toList_append]
theorem sl_vS (x : Nat) : sl (vS x) = vs x := rfl
theorem vS_taken (s : ByteArray) (k x : Nat) (hv : vs x = (sl s).take k) : vS x = s.extract 0 k := by
  have e : (s.extract 0 k).data = s.data.extract 0 k := by rw [ByteArray.data_extract]
  apply ByteArray.ext
  rw [e, ← Array.toList_inj, Array.toList_extract]
  show vs x = _
  rw [hv]
  simp [sl, List.extract]
end Go.Proofs.Ytgaaiefmfdpmnaa
