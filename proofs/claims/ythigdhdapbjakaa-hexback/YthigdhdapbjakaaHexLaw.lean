/-
  The examples of law 10 hold.
-/
import Derived.Test.YthigdhdapbjakaaHexWalkB
import Derived.Test.YthigdhdapbjakaaHexWalkA
namespace Go.Proofs.Ythigdhdapbjakaa
open Go.RowKit

theorem ex6A : unB ⟨#[54, 65]⟩ = false := by decide +kernel
theorem exA0 : (hexS ⟨#[97, 48]⟩).toList = [54, 49, 51, 48] := by rw [ByteArray.toList_eq]; decide +kernel
set_option maxRecDepth 100000 in
theorem awake10_any (w : World) :
    Calls Try.prog 8 #[] w fun e w' => e = .returned (.bool true) ∧ Kept w w' := by
  have H1 : Hid (∀ w, Calls Try.prog 9 #[.string ⟨#[54, 65]⟩] w fun e w' => e = .returned (.tuple #[.string noB, .bool false]) ∧ Kept w w') := Lib.hid fun w => by
    have h := hexBytes_any ⟨#[54, 65]⟩ w (by decide)
    rwa [unS_no ex6A, ex6A] at h
  obtain ⟨t, H2, ht⟩ : ∃ t : ByteArray, Hid (∀ w, Calls Try.prog 6 #[.string ⟨#[97, 48]⟩] w fun e w' => e = .returned (.string t) ∧ Kept w w') ∧ t.toList = [54, 49, 51, 48] :=
    ⟨_, Lib.hid fun w => hexText_any ⟨#[97, 48]⟩ w (by decide), exA0⟩
  have he : (t.toList == [54, 49, 51, 48]) = true := by rw [ht]; rfl
  clear ht
  go_enter Try.func8, Try.ntmps8
  go_wp2_with (first
    | (go_at_call 9; refine (H1.out _).mono ?_; rintro e w1 ⟨rfl, k1⟩; have K1 := Lib.hid k1; clear k1)
    | (go_at_call 6; refine (H2.out _).mono ?_; rintro e w2 ⟨rfl, k2⟩; have K2 := Lib.hid (K1.out.trans k2); clear k2))
  go_ret
  exact ⟨rfl, K2.out⟩
end Go.Proofs.Ythigdhdapbjakaa
