/-
  Much of milepostlaw22. Condition: sizes fit.
-/
import Derived.Test.YtlfkkfacbcpogaaDoorTxRefA
namespace Go.Proofs.YtlfkkfacbcpogaaDoor
set_option maxRecDepth 4000
open Go.RowKit

/-- Are transactions too many, or too much, to be asked? -/
def mT22 (S : Nat → ByteArray) (n : Nat) : Bool := decide (60 < n ∧ n ≤ 1024) || decide (1050 < n) || decide (6000 < smT S (min n 1100))
theorem mT22_no {S : Nat → ByteArray} {n : Nat} (h : mT22 S n = false) : (n ≤ 60 ∨ (1024 < n ∧ n ≤ 1050)) ∧ ∀ i, i < n → (S i).size ≤ 6000 := by
  unfold mT22 at h
  rw [Bool.or_eq_false_iff, Bool.or_eq_false_iff, decide_eq_false_iff_not, decide_eq_false_iff_not, decide_eq_false_iff_not] at h
  obtain ⟨⟨h1, h2⟩, h3⟩ := h
  rw [show min n 1100 = n by omega] at h3
  exact ⟨by omega, fun i hi => smT_small S n i hi (by omega)⟩
set_option maxRecDepth 100000 in
set_option maxHeartbeats 1000000 in
theorem much22_val (p : Option Addr) (n c : Nat) (S : Nat → ByteArray) (w : World) (hS : SAt w p n S) (hz : ∀ i, i < n → (S i).size ≤ 140737488351232) (hn : n ≤ 9223372036854775807) :
    Calls Tryd.prog 6 #[.slice p n c] w fun e w' => e = .returned (.bool (mT22 S n)) ∧ w = w' := by
  have HS := Lib.hid hS
  have HZ := Lib.hid hz
  clear hS hz
  go_enter Tryd.func6, Tryd.ntmps6
  go_wp2
  go_loopw [3, 4] (fun a i wr => ∃ k : Nat, k ≤ n ∧ k ≤ 1100 ∧ i = .int .i64 k ∧ a = .int .i64 (smT S k : Int) ∧ wr = w) (fun _ i _ => 1100 - (intOf i).toNat)
  case atStart => exact ⟨0, by omega, by omega, rfl, rfl, rfl⟩
  case round =>
    obtain ⟨k, hk, hk1, rfl, rfl, rfl⟩ := hrel
    by_cases hlt : k < n ∧ k < 1100
    · obtain ⟨h1, h2⟩ := hlt
      have hd1 : decide ((k : Int) < (n : Int)) = true := decide_eq_true (by omega)
      have hd1' : decide (k < n) = true := decide_eq_true h1
      have hd2 : decide ((k : Int) < 1100) = true := decide_eq_true (by omega)
      obtain ⟨q, rfl, _⟩ := HS.out.some (by omega)
      have hcell := HS.out.cell k h1
      have hsz := HZ.out k h1
      have hle := smT_le S k
      have hE : smT S (k + 1) = min (smT S k + 1 + (S k).size) 1048576 := rfl
      generalize smT S k = a at hle hE ⊢
      go_wp2
      go_roundw
      case rel => exact ⟨k + 1, by omega, by omega, by go_num, by rw [hE]; congr 1; omega, trivial⟩
      case measure => simp [intOf]; omega
    · have hkm : min n 1100 = k := by omega
      have HD : Hid (mT22 S n = (decide (60 < n ∧ n ≤ 1024) || decide (1050 < n) || decide (6000 < smT S k))) := Lib.hid (by rw [← hkm]; rfl)
      have g1 : Hid (decide ((k : Int) < (n : Int)) = false ∨ (decide ((k : Int) < (n : Int)) = true ∧ decide (k < n) = true ∧ decide ((k : Int) < 1100) = false)) := Lib.hid (by
        by_cases h : k < n
        · exact .inr ⟨decide_eq_true (by omega), decide_eq_true h, decide_eq_false (by omega)⟩
        · exact .inl (decide_eq_false (by omega)))
      clear hkm hlt
      generalize smT S k = a at HD ⊢
      by_cases c1 : 60 < n ∧ n ≤ 1024
      · have e1 : decide ((n : Int) > 60) = true := decide_eq_true (by omega)
        have e2 : decide ((n : Int) ≤ 1024) = true := decide_eq_true (by omega)
        have HB : Hid (mT22 S n = true) := Lib.hid (by rw [HD.out, decide_eq_true c1]; rfl)
        clear c1 HD
        rcases g1.out with hd1 | ⟨hd1, hd1', hd2⟩
        all_goals
          (try have hd3 : decide (k < n) = false := by simpa using hd1)
          go_wp2
          go_ret
          exact ⟨by rw [HB.out]; rfl, by first | rfl | trivial⟩
      · by_cases c2 : 1050 < n
        · have e1 : decide ((n : Int) > 60) = true := decide_eq_true (by omega)
          have e2 : decide ((n : Int) ≤ 1024) = false := decide_eq_false (by omega)
          have e3 : decide ((n : Int) > 1050) = true := decide_eq_true (by omega)
          have HB : Hid (mT22 S n = true) := Lib.hid (by rw [HD.out, decide_eq_true c2]; simp)
          clear c1 c2 HD
          rcases g1.out with hd1 | ⟨hd1, hd1', hd2⟩
          all_goals
            (try have hd3 : decide (k < n) = false := by simpa using hd1)
            go_wp2
            go_ret
            exact ⟨by rw [HB.out]; rfl, by first | rfl | trivial⟩
        · have e3 : decide ((n : Int) > 1050) = false := decide_eq_false (by omega)
          obtain ⟨b, hb⟩ : ∃ b, decide ((a : Int) > 6000) = b := ⟨_, rfl⟩
          have hb' : decide ((6000 : Int) < (a : Int)) = b := hb
          have hb'' : decide (6000 < a) = b := by rw [← hb]; exact decide_eq_decide.2 (by omega)
          have HB : Hid (mT22 S n = b) := Lib.hid (by rw [HD.out, decide_eq_false c1, decide_eq_false c2, Bool.false_or, Bool.false_or, hb''])
          have e0 : Hid (decide ((n : Int) > 60) = false ∨ (decide ((n : Int) > 60) = true ∧ decide ((n : Int) ≤ 1024) = false)) := Lib.hid (by
            by_cases h : 60 < n
            · exact .inr ⟨decide_eq_true (by omega), decide_eq_false (by omega)⟩
            · exact .inl (decide_eq_false (by omega)))
          clear c1 c2 HD
          rcases g1.out with hd1 | ⟨hd1, hd1', hd2⟩ <;> rcases e0.out with e1 | ⟨e1, e2⟩
          all_goals
            (try have hd3 : decide (k < n) = false := by simpa using hd1)
            go_wp2
            go_ret
            exact ⟨by rw [HB.out]; rfl, by first | rfl | trivial⟩
theorem much22_any (p : Option Addr) (n c : Nat) (S : Nat → ByteArray) (w : World) (hS : SAt w p n S) (hz : ∀ i, i < n → (S i).size ≤ 140737488351232) (hn : n ≤ 9223372036854775807) :
    Calls Tryd.prog 6 #[.slice p n c] w fun e w' => ∃ B : Bool, e = .returned (.bool B) ∧ w = w' ∧ (B = false → (n ≤ 60 ∨ (1024 < n ∧ n ≤ 1050)) ∧ ∀ i, i < n → (S i).size ≤ 6000) :=
  (much22_val p n c S w hS hz hn).mono fun _ _ ⟨he, hw⟩ => ⟨_, he, hw, mT22_no⟩
end Go.Proofs.YtlfkkfacbcpogaaDoor
