/-
  Contracts of milepostref07: Put and Take.
-/
import Derived.Test.YtmccpbpnpdidbaaNumWalkB
namespace Go.Proofs.Ytmccpbpnpdidbaa
open Go.RowKit

set_option maxHeartbeats 400000 in
theorem refPut7_any (x : Nat) : ∀ (w : World), x < 18446744073709551616 →
    Calls Try.prog 19 #[.int .u64 (x : Int)] w fun e w' => e = .returned (.string (vS x)) ∧ Grown w w' := by
  induction x using Nat.strongRecOn with
  | _ x ih =>
    intro w hx
    by_cases hlt : x < 128
    · have hd : decide ((x : Int) < 128) = true := by simp; omega
      have HE := Lib.hid (vS_one x hlt)
      have hw : IntKind.i64.wrap (x : Int) = (x : Int) := by rw [IntKind.wrap_i64]; omega
      clear ih
      go_enter Try.func19, Try.ntmps19
      go_wp2_with (go_at_call 30; refine (byte_any x _ (by omega)).mono ?_; rintro e w' ⟨rfl, hg⟩)
      go_ret
      exact ⟨ret_str HE.out, hg⟩
    · have hd : decide ((x : Int) < 128) = false := by simp; omega
      have HE := Lib.hid (vS_more x (by omega))
      have HC : Hid (∀ w, Calls Try.prog 19 #[.int .u64 ((x : Int) / 128)] w fun e w' => e = .returned (.string (vS (x / 128))) ∧ Grown w w') := Lib.hid fun w => ih (x / 128) (by omega) w (by omega)
      have HB : Hid (∀ w, Calls Try.prog 30 #[.int .i64 ((x : Int) % 128 + 128)] w fun e w' => e = .returned (.string ⟨#[UInt8.ofNat (x % 128 + 128)]⟩) ∧ Grown w w') := Lib.hid fun w => byte_any (x % 128 + 128) w (by omega)
      have hs1 : (vS (x / 128)).size ≤ 10 := by rw [vS_size]; exact vs_len10 _ (by omega)
      have hs2 : (⟨#[UInt8.ofNat (x % 128 + 128)]⟩ : ByteArray).size = 1 := rfl
      clear ih
      generalize vS (x / 128) = t at HC HE hs1
      generalize (⟨#[UInt8.ofNat (x % 128 + 128)]⟩ : ByteArray) = b at HB HE hs2
      go_enter Try.func19, Try.ntmps19
      go_wp2_with (first
        | (go_at_call 30; refine (HB.out _).mono ?_; rintro e w1 ⟨rfl, hg1⟩)
        | (go_at_call 19; refine (HC.out _).mono ?_; rintro e w2 ⟨rfl, hg2⟩))
      go_ret
      exact ⟨ret_str HE.out, Grown.trans hg1 hg2⟩

end Go.Proofs.Ytmccpbpnpdidbaa
