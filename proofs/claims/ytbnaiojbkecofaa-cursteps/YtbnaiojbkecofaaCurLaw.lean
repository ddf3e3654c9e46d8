/-
  What the laws of cur share: the example.
-/
import Derived.Test.YtbnaiojbkecofaaCurRefC
import Derived.Test.YtbnaiojbkecofaaEqHash
namespace Go.Proofs.Ytbnaiojbkecofaa
open Go.RowKit

theorem zeroH : bC 32 [] = bC 32 (hashL noB) := hashL_row noB

def exC : Cu := ⟨⟨#[1, 2]⟩, 0⟩
theorem ex1 : rawP exC 1 = (⟨#[1]⟩, ⟨⟨#[2]⟩, 0⟩) := by
  rw [rawP, if_neg (by decide), if_neg (by decide)]
  rfl
theorem ex2 : numP ⟨⟨#[2]⟩, 0⟩ 1 = (0, ⟨noB, 3⟩) := by
  have e : tkL (sl ⟨#[2]⟩) = (2, 1, 0) := by decide
  rw [numP, e]
  simp only
  rw [if_neg (by decide), if_pos (by decide), failC_set _ _ rfl (by decide)]
theorem zero1 : rawP ⟨noB, 0⟩ 1 = (noB, ⟨noB, 1⟩) := by
  rw [rawP, if_neg (by decide), if_pos (by decide), failC_set _ _ rfl (by decide)]
theorem awake8_any (w : World) : Calls Try.prog 12 #[] w fun e w' => e = .returned (.bool true) ∧ Grown w w' := by
  have HA := Lib.hid (curRead_any ⟨#[1, 2]⟩ w)
  have HB : Hid (∀ w0, CurAt w0 w.heap.size exC → Calls Try.prog 16 #[.pointer (some ⟨w.heap.size, 0, none⟩)] w0 fun e w' => e = .returned (.int .u8 1) ∧ CurAt w' w.heap.size ⟨⟨#[2]⟩, 0⟩ ∧ OnlyC w.heap.size w0 w') := Lib.hid fun w0 h => by
    have := curByte_any w.heap.size exC w0 h
    rw [ex1] at this
    exact this
  have HN : Hid (∀ w0, CurAt w0 w.heap.size ⟨⟨#[2]⟩, 0⟩ → Calls Try.prog 17 #[.pointer (some ⟨w.heap.size, 0, none⟩), .int .u64 1] w0 fun e w' => e = .returned (.int .u64 0) ∧ CurAt w' w.heap.size ⟨noB, 3⟩ ∧ OnlyC w.heap.size w0 w') := Lib.hid fun w0 h => by
    have := curNum_any w.heap.size ⟨⟨#[2]⟩, 0⟩ 1 w0 h
    rw [ex2] at this
    exact this
  have HL : Hid (∀ w0, CurAt w0 w.heap.size ⟨noB, 3⟩ → Calls Try.prog 8 #[.pointer (some ⟨w.heap.size, 0, none⟩)] w0 fun e w' => e = .returned (.int .i64 0) ∧ w0 = w') := Lib.hid fun w0 h => curLeft_any _ ⟨noB, 3⟩ w0 h
  have HE : Hid (∀ w0, CurAt w0 w.heap.size ⟨noB, 3⟩ → Calls Try.prog 9 #[.pointer (some ⟨w.heap.size, 0, none⟩)] w0 fun e w' => e = .returned (.int .i64 3) ∧ w0 = w') := Lib.hid fun w0 h => curErr_any _ ⟨noB, 3⟩ w0 h
  go_enter Try.func12, Try.ntmps12
  go_wp2_with (first
    | (go_at_call 6; refine HA.out.mono ?_; rintro e w1 ⟨rfl, H1, G1⟩; replace H1 := Lib.hid H1; replace G1 := Lib.hid G1)
    | (go_at_call 16; refine (HB.out _ H1.out).mono ?_; rintro e w2 ⟨rfl, H2, O2⟩; replace H2 := Lib.hid H2; replace G1 := Lib.hid (O2.grown w G1.out (Nat.le_refl _)); clear O2 H1)
    | (go_at_call 17; refine (HN.out _ H2.out).mono ?_; rintro e w3 ⟨rfl, H3, O3⟩; replace H3 := Lib.hid H3; replace G1 := Lib.hid (O3.grown w G1.out (Nat.le_refl _)); clear O3 H2)
    | (go_at_call 8; refine (HL.out _ H3.out).mono ?_; rintro e w4 ⟨rfl, rfl⟩)
    | (go_at_call 9; refine (HE.out _ H3.out).mono ?_; rintro e w4 ⟨rfl, rfl⟩))
  go_ret
  exact ⟨rfl, G1.out⟩
end Go.Proofs.Ytbnaiojbkecofaa
