/-
  Contracts of milepostref11: Sides, Depth; of milepostlaw11: same, awake.
-/
import Derived.Test.YtecfgjoomckleaaDoorShapeWalkC
import Derived.OwnWalk
import Derived.BigQuiet
namespace Go.Proofs.YtecfgjoomckleaaDoor
set_option maxRecDepth 4000
open Go.RowKit

theorem infoBool11 : (Tryd.prog.info? 4).map (fun i => (i.zero, i.size, i.bytes)) = some (some (.bool false), 1, 1) := by kernel_rfl
set_option maxHeartbeats 1000000 in
theorem refSides_nat (n : Nat) : ∀ (i : Nat) (w : World), n < 9223372036854775808 → i < n →
    Calls Tryd.prog 18 #[.int .i64 (n : Int), .int .i64 (i : Int)] w fun e w' => ∃ v, e = .returned v ∧ w'.ownsRow w.heap.size 4 1 v (sidesN n i).length ((sidesN n i).map Value.bool) ∧ Kept w w' := by
  induction n using Nat.strongRecOn with
  | _ n ih =>
    intro i w hn hi
    by_cases h2 : n < 2
    · obtain rfl : n = 1 := by omega
      obtain rfl : i = 0 := by omega
      rw [sidesN_one 0 (by decide)]
      clear ih
      go_enter Tryd.func18, Tryd.ntmps18
      go_wp2
      go_ret
      exact ⟨_, rfl, World.ownsRow_nil _ _ _ _, Kept.refl _⟩
    · obtain ⟨p, hp⟩ : ∃ p, p = leftN n := ⟨_, rfl⟩
      have hp0 : 0 < p := by rw [hp]; exact leftN_pos (by omega)
      have hpn : p < n := by rw [hp]; exact leftN_lt (by omega)
      have HL : Hid (∀ w, Calls Tryd.prog 24 #[.int .i64 (n : Int)] w fun e w' => e = .returned (.int .i64 (p : Int)) ∧ w = w') := Lib.hid fun w => by
        have h := refLeft_any (n : Int) w (by omega)
        rwa [show leftI (n : Int) = p from hp.symm] at h
      have hd1 : decide ((i : Int) < 0) = false := decide_eq_false (by omega)
      have hd2 : decide ((i : Int) ≥ (n : Int)) = false := decide_eq_false (by omega)
      have hd2' : decide (n ≤ i) = false := decide_eq_false (by omega)
      have hin : (i : Int) < (n : Int) := by omega
      have hd3 : ((n : Int) == 1) = false := by simp; omega
      have hn1 : ¬ (n : Int) = 1 := by omega
      by_cases hl : i < p
      · have hd4 : decide ((i : Int) < (p : Int)) = true := decide_eq_true (by omega)
        have hd4' : decide (i < p) = true := decide_eq_true hl
        have HS := Lib.hid (sidesN_left (n := n) (i := i) (by omega) (by omega))
        have HC : Hid (∀ w, Calls Tryd.prog 18 #[.int .i64 (p : Int), .int .i64 (i : Int)] w fun e w' => ∃ v, e = .returned v ∧ w'.ownsRow w.heap.size 4 1 v (sidesN p i).length ((sidesN p i).map Value.bool) ∧ Kept w w') := Lib.hid fun w => ih p hpn i w (by omega) hl
        have hlen : (sidesN p i).length ≤ 63 := by rw [sidesN_length]; exact dn_len63 i (by omega)
        rw [← hp] at HS
        replace hp := Lib.hid hp
        clear ih
        generalize sidesN p i = l at HC HS hlen
        go_enter Tryd.func18, Tryd.ntmps18
        go_wp2_with (first
          | (go_at_call 24; refine (HL.out _).mono ?_; rintro e w1 ⟨rfl, rfl⟩)
          | (go_at_call 18; refine (HC.out _).mono ?_; rintro e w2 ⟨v, rfl, ho, hk⟩; have HO := Lib.hid ho; have HK := Lib.hid hk; clear ho hk)
          | (at_builtin; refine wpList_append1 rfl _ _ 38 rfl w 4 (.bool false) 1 Tryd.underlying38 infoBool11 rfl _ _ _ rfl HO rfl rfl (by unfold maxLen; omega) (by omega) HK ?_; intro v' w' HO' HK'))
        go_ret
        exact ⟨_, rfl, by rw [HS.out]; simpa using HO'.out, HK'.out⟩
      · have hd4 : decide ((i : Int) < (p : Int)) = false := decide_eq_false (by omega)
        have hd4' : decide (i < p) = false := decide_eq_false hl
        have HS := Lib.hid (sidesN_right (n := n) (i := i) (by omega) (by omega))
        have HC : Hid (∀ w, Calls Tryd.prog 18 #[.int .i64 ((n : Int) - (p : Int)), .int .i64 ((i : Int) - (p : Int))] w fun e w' => ∃ v, e = .returned v ∧ w'.ownsRow w.heap.size 4 1 v (sidesN (n - p) (i - p)).length ((sidesN (n - p) (i - p)).map Value.bool) ∧ Kept w w') := Lib.hid fun w => by
          have h := ih (n - p) (by omega) (i - p) w (by omega) (by omega)
          rwa [show ((n - p : Nat) : Int) = (n : Int) - (p : Int) by omega, show ((i - p : Nat) : Int) = (i : Int) - (p : Int) by omega] at h
        have hlen : (sidesN (n - p) (i - p)).length ≤ 63 := by rw [sidesN_length]; exact dn_len63 _ (by omega)
        rw [← hp] at HS
        replace hp := Lib.hid hp
        clear ih
        generalize sidesN (n - p) (i - p) = l at HC HS hlen
        go_enter Tryd.func18, Tryd.ntmps18
        go_wp2_with (first
          | (go_at_call 24; refine (HL.out _).mono ?_; rintro e w1 ⟨rfl, rfl⟩)
          | (go_at_call 18; refine (HC.out _).mono ?_; rintro e w2 ⟨v, rfl, ho, hk⟩; have HO := Lib.hid ho; have HK := Lib.hid hk; clear ho hk)
          | (at_builtin; refine wpList_append1 rfl _ _ 38 rfl w 4 (.bool false) 1 Tryd.underlying38 infoBool11 rfl _ _ _ rfl HO rfl rfl (by unfold maxLen; omega) (by omega) HK ?_; intro v' w' HO' HK'))
        go_ret
        exact ⟨_, rfl, by rw [HS.out]; simpa using HO'.out, HK'.out⟩

set_option maxHeartbeats 400000 in
theorem refSides_any (n i : Int) (w : World) (hu : n < 9223372036854775808) :
    Calls Tryd.prog 18 #[.int .i64 n, .int .i64 i] w fun e w' => ∃ v, e = .returned v ∧ BRow w' v (sidesI n i) ∧ Kept w w' := by
  by_cases h : 0 ≤ i ∧ i < n
  · obtain ⟨I, rfl⟩ := Int.eq_ofNat_of_zero_le h.1
    obtain ⟨N, rfl⟩ := Int.eq_ofNat_of_zero_le (show 0 ≤ n by omega)
    rw [sidesI_yes (by omega)]
    refine (refSides_nat N I w (by omega) (by omega)).mono ?_
    rintro e w' ⟨v, rfl, ho, hk⟩
    exact ⟨v, rfl, BRow.ofOwns ho rfl, hk⟩
  · rw [sidesI_no h]
    by_cases h0 : i < 0
    · have hd1 : decide (i < 0) = true := decide_eq_true h0
      clear h
      go_enter Tryd.func18, Tryd.ntmps18
      go_wp2
      go_ret
      exact ⟨_, rfl, BRow.none _, Kept.refl _⟩
    · have hd1 : decide (i < 0) = false := decide_eq_false h0
      have h1 : n ≤ i := by omega
      have hd2 : decide (i ≥ n) = true := decide_eq_true h1
      have h2 : 0 ≤ i := by omega
      clear h h0
      go_enter Tryd.func18, Tryd.ntmps18
      go_wp2
      go_ret
      exact ⟨_, rfl, BRow.none _, Kept.refl _⟩

set_option maxHeartbeats 400000 in
theorem refDepth_any (n i : Int) (w : World) (hu : n < 9223372036854775808) :
    Calls Tryd.prog 10 #[.int .i64 n, .int .i64 i] w fun e w' => e = .returned (.int .i64 (depthI n i)) ∧ Kept w w' := by
  by_cases h : 0 ≤ i ∧ i < n
  · have hE : depthI n i = ((sidesI n i).length : Int) := by rw [depthI, sidesI, if_pos h, if_pos h]
    have HC : Hid (∀ w, Calls Tryd.prog 18 #[.int .i64 n, .int .i64 i] w fun e w' => ∃ p cap, e = .returned (.slice p (sidesI n i).length cap) ∧ Kept w w') := Lib.hid fun w => by
      refine (refSides_any n i w hu).mono ?_
      rintro e w' ⟨v, rfl, ⟨p, cap, rfl, _⟩, hk⟩
      exact ⟨p, cap, rfl, hk⟩
    rw [hE]
    clear hE
    generalize (sidesI n i).length = L at HC ⊢
    have hd1 : decide (i < 0) = false := decide_eq_false (by omega)
    have hd2 : decide (i ≥ n) = false := decide_eq_false (by omega)
    have h0 : 0 ≤ i := h.1
    have h1 : i < n := h.2
    clear h
    go_enter Tryd.func10, Tryd.ntmps10
    go_wp2_with (go_at_call 18; refine (HC.out _).mono ?_; rintro e w1 ⟨p, cap, rfl, k1⟩; have K1 := Lib.hid k1; clear k1)
    go_ret
    exact ⟨rfl, K1.out⟩
  · rw [depthI_no h]
    by_cases h0 : i < 0
    · have hd1 : decide (i < 0) = true := decide_eq_true h0
      clear h
      go_enter Tryd.func10, Tryd.ntmps10
      go_wp2
      go_ret
      exact ⟨rfl, Kept.refl _⟩
    · have hd1 : decide (i < 0) = false := decide_eq_false h0
      have h1 : n ≤ i := by omega
      have hd2 : decide (i ≥ n) = true := decide_eq_true h1
      have h2 : 0 ≤ i := by omega
      clear h h0
      go_enter Tryd.func10, Tryd.ntmps10
      go_wp2
      go_ret
      exact ⟨rfl, Kept.refl _⟩
end Go.Proofs.YtecfgjoomckleaaDoor
