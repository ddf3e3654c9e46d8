/-
  For layer 12's laws: the reference's Hashes; Much and awake of milepostlaw12. Conditions: sizes fit; sha's table of round constants stands (awake).
-/
import Derived.Test.YtecfgjoomckleaaDoorTreeWalkC
namespace Go.Proofs.YtecfgjoomckleaaDoor
set_option maxRecDepth 4000
open Go.RowKit

theorem execNeHs {o : Oper} {t : Array Value} {x y : Operand} (l m : List UInt8) (hl : l.length = 32) (hm : m.length = 32) (w : World) (ho : o.op = .binOp .neq 41 x y 41) (hx : evS t x = .agg (bC 32 l)) (hy : evS t y = .agg (bC 32 m)) :
    (execOp (evS t) o).run Tryd.prog w = .ok (.value (.bool (!decide (l = m)))) w := by
  have hq0 := sameH l m hl hm w
  have hq1 := guardH
  unfold execOp
  rw [ho]
  simp only [hx, hy]
  go_simp
theorem execIndexH {o : Oper} {t : Array Value} {x y : Operand} (q : Addr) (n c k : Nat) (hk : k < n) (w : World) (ho : o.op = .indexAddr 25 x y) (hx : evS t x = .slice (some q) n c) (hy : evS t y = .int .i64 (k : Int)) :
    (execOp (evS t) o).run Tryd.prog w = .ok (.value (.pointer (some (q.add (k * 32))))) w := by
  have h1 : ((k : Int) < (n : Int)) := by omega
  have hs := sizeHash w
  unfold execOp
  rw [ho]
  simp only [hx, hy]
  go_simp

set_option maxRecDepth 100000 in
set_option maxHeartbeats 1000000 in
theorem refHashes_any (n m : Nat) (F G : Nat → List UInt8) (v u : Value) (w : World) (hv : HSl n F v w) (hu : HSl m G u w) :
    Calls Tryd.prog 17 #[v, u] w fun e w' => ∃ B : Bool, e = .returned (.bool B) ∧ (B = true ↔ n = m ∧ ∀ i, i < n → F i = G i) ∧ Kept w w' := by
  obtain ⟨p, c, rfl, hc, hcm, hF⟩ := hv
  obtain ⟨p', c', rfl, hc', hcm', hG⟩ := hu
  by_cases hnm : n = m
  · subst hnm
    have HF := Lib.hid hF
    have HG := Lib.hid hG
    have hd0 : ((n : Int) != (n : Int)) = false := by simp
    have hn63 : n ≤ 9223372036854775807 := by unfold maxLen at hcm; omega
    clear hF hG hc hcm hc' hcm'
    go_enter Tryd.func17, Tryd.ntmps17
    go_wp2
    go_loopw [5] (fun i wr => ∃ k : Nat, k ≤ n ∧ i = .int .i64 k ∧ Hid (∀ i, i < k → F i = G i) ∧ Hid (Kept w wr)) (fun i _ => n - (intOf i).toNat)
    case atStart => exact ⟨0, by omega, rfl, Lib.hid (fun i hi => absurd hi (Nat.not_lt_zero i)), Lib.hid (Kept.refl w)⟩
    case round =>
      obtain ⟨k, hk, rfl, HU, HK⟩ := hrel
      by_cases hlt : k < n
      · have hd1 : decide ((k : Int) < (n : Int)) = true := decide_eq_true (by omega)
        have hd1' : decide (k < n) = true := decide_eq_true hlt
        obtain ⟨q, rfl, _⟩ := HF.out.some (by omega)
        obtain ⟨q', rfl, _⟩ := HG.out.some (by omega)
        have hl := HF.out.length k hlt
        have hl' := HG.out.length k hlt
        go_wp2_with fail
        refine wp_region_table [(17, .is (.slice (some q) n c)), (18, .is (.int .i64 (k : Int))), (19, .is (.pointer (some (q.add (k * 32))))), (20, .is (.agg (bC 32 (F k)))), (21, .is (.slice (some q') n c')), (22, .is (.int .i64 (k : Int))), (23, .is (.pointer (some (q'.add (k * 32))))), (24, .is (.agg (bC 32 (G k)))), (25, .is (.bool (!decide (F k = G k))))] (by kernel_rfl) (by kernel_rfl) ?_ ?_
        · refine ⟨fun t w1 hf hk hp => ?_, ?_⟩
          · have h0 : slot t 0 = .slice (some q) n c := hf 0 (by kernel_rfl)
            clear hf hp
            refine stepAt_plain rfl ?_
            exact stepOK_move _ (.inl rfl) h0
          refine ⟨fun t w1 hf hk hp => ?_, ?_⟩
          · have h5 : slot t 5 = .int .i64 (k : Int) := hf 5 (by kernel_rfl)
            clear hf hp
            refine stepAt_plain rfl ?_
            exact stepOK_move _ (.inl rfl) h5
          refine ⟨fun t w1 hf hk hp => ?_, ?_⟩
          · have h17 : slot t 17 = .slice (some q) n c := hp 17 (by kernel_rfl)
            have h18 : slot t 18 = .int .i64 (k : Int) := hp 18 (by kernel_rfl)
            clear hf hp
            refine stepAt_plain rfl ?_
            exact stepOK_pure (.pointer (some (q.add (k * 32)))) (execIndexH q n c k hlt w1 rfl h17 h18) rfl
          refine ⟨fun t w1 hf hk hp => ?_, ?_⟩
          · have h19 : slot t 19 = .pointer (some (q.add (k * 32))) := hp 19 (by kernel_rfl)
            clear hf hp
            refine stepAt_plain rfl ?_
            have hq0 := (HF.out.kept (HK.out.trans hk)).load k hlt
            exact stepOK_sem (.agg (bC 32 (F k))) (by simp only [execOp, evS, h19]) hq0 rfl
          refine ⟨fun t w1 hf hk hp => ?_, ?_⟩
          · have h1 : slot t 1 = .slice (some q') n c' := hf 1 (by kernel_rfl)
            clear hf hp
            refine stepAt_plain rfl ?_
            exact stepOK_move _ (.inl rfl) h1
          refine ⟨fun t w1 hf hk hp => ?_, ?_⟩
          · have h5 : slot t 5 = .int .i64 (k : Int) := hf 5 (by kernel_rfl)
            clear hf hp
            refine stepAt_plain rfl ?_
            exact stepOK_move _ (.inl rfl) h5
          refine ⟨fun t w1 hf hk hp => ?_, ?_⟩
          · have h21 : slot t 21 = .slice (some q') n c' := hp 21 (by kernel_rfl)
            have h22 : slot t 22 = .int .i64 (k : Int) := hp 22 (by kernel_rfl)
            clear hf hp
            refine stepAt_plain rfl ?_
            exact stepOK_pure (.pointer (some (q'.add (k * 32)))) (execIndexH q' n c' k hlt w1 rfl h21 h22) rfl
          refine ⟨fun t w1 hf hk hp => ?_, ?_⟩
          · have h23 : slot t 23 = .pointer (some (q'.add (k * 32))) := hp 23 (by kernel_rfl)
            clear hf hp
            refine stepAt_plain rfl ?_
            have hq0 := (HG.out.kept (HK.out.trans hk)).load k hlt
            exact stepOK_sem (.agg (bC 32 (G k))) (by simp only [execOp, evS, h23]) hq0 rfl
          refine ⟨fun t w1 hf hk hp => ?_, ?_⟩
          · have h20 : slot t 20 = .agg (bC 32 (F k)) := hp 20 (by kernel_rfl)
            have h24 : slot t 24 = .agg (bC 32 (G k)) := hp 24 (by kernel_rfl)
            clear hf hp
            refine stepAt_plain rfl ?_
            exact stepOK_pure (.bool (!decide (F k = G k))) (execNeHs (F k) (G k) hl hl' w1 rfl h20 h24) rfl
          exact trivial
        · intro t w1 hsz hf hk hfacts
          have h25 : slot t 25 = .bool (!decide (F k = G k)) := hfacts 8 _ rfl 25 rfl
          have h0 : slot t 0 = .slice (some q) n c := hf 0 (by kernel_rfl)
          have h1 : slot t 1 = .slice (some q') n c' := hf 1 (by kernel_rfl)
          have h5 : slot t 5 = .int .i64 (k : Int) := hf 5 (by kernel_rfl)
          have h2 := hf 2 (by kernel_rfl)
          conv at h2 => rhs; whnf
          try change slot t 2 = undef at h2
          have h3 := hf 3 (by kernel_rfl)
          conv at h3 => rhs; whnf
          try change slot t 3 = undef at h3
          have h4 := hf 4 (by kernel_rfl)
          conv at h4 => rhs; whnf
          try change slot t 4 = undef at h4
          have h6 := hf 6 (by kernel_rfl)
          conv at h6 => rhs; whnf
          try change slot t 6 = undef at h6
          have h7 := hf 7 (by kernel_rfl)
          conv at h7 => rhs; whnf
          try change slot t 7 = undef at h7
          have h8 := hf 8 (by kernel_rfl)
          conv at h8 => rhs; whnf
          try change slot t 8 = undef at h8
          have h9 := hf 9 (by kernel_rfl)
          conv at h9 => rhs; whnf
          try change slot t 9 = undef at h9
          have h10 := hf 10 (by kernel_rfl)
          conv at h10 => rhs; whnf
          try change slot t 10 = undef at h10
          have h11 := hf 11 (by kernel_rfl)
          conv at h11 => rhs; whnf
          try change slot t 11 = undef at h11
          have h12 := hf 12 (by kernel_rfl)
          conv at h12 => rhs; whnf
          try change slot t 12 = undef at h12
          have h13 := hf 13 (by kernel_rfl)
          conv at h13 => rhs; whnf
          try change slot t 13 = undef at h13
          have h14 := hf 14 (by kernel_rfl)
          conv at h14 => rhs; whnf
          try change slot t 14 = undef at h14
          have h15 := hf 15 (by kernel_rfl)
          conv at h15 => rhs; whnf
          try change slot t 15 = undef at h15
          have h16 := hf 16 (by kernel_rfl)
          conv at h16 => rhs; whnf
          try change slot t 16 = undef at h16
          have harr : t = #[slot t 0, slot t 1, slot t 2, slot t 3, slot t 4, slot t 5, slot t 6, slot t 7, slot t 8, slot t 9, slot t 10, slot t 11, slot t 12, slot t 13, slot t 14, slot t 15, slot t 16, slot t 17, slot t 18, slot t 19, slot t 20, slot t 21, slot t 22, slot t 23, slot t 24, slot t 25] := arr_eq t 26 hsz
          rw [harr, h25, h0, h1, h5, h2, h3, h4, h6, h7, h8, h9, h10, h11, h12, h13, h14, h15, h16]
          clear harr hfacts hf h25 h0 h1 h5 h2 h3 h4 h6 h7 h8 h9 h10 h11 h12 h13 h14 h15 h16
          generalize slot t 17 = x17; generalize slot t 18 = x18; generalize slot t 19 = x19; generalize slot t 20 = x20; generalize slot t 21 = x21; generalize slot t 22 = x22; generalize slot t 23 = x23; generalize slot t 24 = x24
          clear hsz t
          have HK1 := Lib.hid (HK.out.trans hk)
          clear hk HK
          by_cases he : F k = G k
          · have hd2 : decide (F k = G k) = true := decide_eq_true he
            have HU1 : Hid (∀ i, i < k + 1 → F i = G i) := Lib.hid (fun i hi => by
              rcases Nat.lt_or_eq_of_le (show i ≤ k by omega) with h | h
              · exact HU.out i h
              · subst h; exact he)
            rw [hd2]
            clear he hd2 HU
            go_wp2
            go_roundw
            case rel => exact ⟨k + 1, by omega, by go_num, HU1, HK1⟩
            case measure => simp [intOf]; omega
          · have hd2 : decide (F k = G k) = false := decide_eq_false he
            rw [hd2]
            have HE := Lib.hid he
            clear he hd2
            go_wp2
            go_ret
            exact ⟨_, rfl, ⟨fun h => by simp at h, fun h => absurd (h.2 k hlt) HE.out⟩, HK1.out⟩
      · have hd1 : decide ((k : Int) < (n : Int)) = false := decide_eq_false (by omega)
        have hd1' : decide (k < n) = false := decide_eq_false hlt
        obtain rfl : k = n := by omega
        go_wp2
        go_ret
        exact ⟨_, rfl, ⟨fun _ => ⟨trivial, HU.out⟩, fun _ => rfl⟩, HK.out⟩
  · have hd0 : ((n : Int) != (m : Int)) = true := by simp; omega
    have hd2 : ¬ (n : Int) = (m : Int) := by omega
    have HN := Lib.hid hnm
    clear hF hG hc hcm hc' hcm' hnm
    go_enter Tryd.func17, Tryd.ntmps17
    go_wp2
    go_ret
    exact ⟨_, rfl, ⟨fun h => by simp at h, fun h => absurd h.1 HN.out⟩, Kept.refl _⟩

/-- The total size of the first k strings, as far as it is reckoned. -/
def sumTo (S : Nat → ByteArray) : Nat → Nat
  | 0 => 0
  | k + 1 => min (sumTo S k + (S k).size) 1048576
theorem sumTo_le (S : Nat → ByteArray) (k : Nat) : sumTo S k ≤ 1048576 := by
  cases k with
  | zero => exact Nat.zero_le _
  | succ k => exact Nat.min_le_right _ _
theorem sumTo_mono (S : Nat → ByteArray) {k : Nat} : ∀ n, k ≤ n → sumTo S k ≤ sumTo S n := by
  intro n h
  induction n with
  | zero => obtain rfl : k = 0 := by omega
            exact Nat.le_refl _
  | succ n ih =>
    rcases Nat.lt_or_eq_of_le h with h1 | h1
    · have h2 := ih (by omega)
      have h3 := sumTo_le S n
      show sumTo S k ≤ min (sumTo S n + (S n).size) 1048576
      omega
    · subst h1; exact Nat.le_refl _
theorem sumTo_small (S : Nat → ByteArray) (n i : Nat) (hi : i < n) (h : sumTo S n ≤ 5000) : (S i).size ≤ 5000 := by
  have h1 := sumTo_mono S n (show i + 1 ≤ n by omega)
  have h2 : sumTo S (i + 1) = min (sumTo S i + (S i).size) 1048576 := rfl
  omega
set_option maxRecDepth 100000 in
set_option maxHeartbeats 1000000 in
theorem much12_any (p : Option Addr) (n c : Nat) (S : Nat → ByteArray) (w : World) (hS : SAt w p n S) (hz : ∀ i, i < n → (S i).size ≤ 140737488351232) (hn : n ≤ 9223372036854775807) :
    Calls Tryd.prog 5 #[.slice p n c] w fun e w' => ∃ B : Bool, e = .returned (.bool B) ∧ w = w' ∧ (B = false → n ≤ 100 ∧ ∀ i, i < n → (S i).size ≤ 5000) := by
  have HS := Lib.hid hS
  have HZ := Lib.hid hz
  clear hS hz
  go_enter Tryd.func5, Tryd.ntmps5
  go_wp2
  go_loopw [3, 4] (fun a i wr => ∃ k : Nat, k ≤ n ∧ k ≤ 101 ∧ i = .int .i64 k ∧ a = .int .i64 (sumTo S k : Int) ∧ wr = w) (fun _ i _ => 101 - (intOf i).toNat)
  case atStart => exact ⟨0, by omega, by omega, rfl, rfl, rfl⟩
  case round =>
    obtain ⟨k, hk, hk1, rfl, rfl, rfl⟩ := hrel
    by_cases hlt : k < n ∧ k < 101
    · obtain ⟨h1, h2⟩ := hlt
      have hd1 : decide ((k : Int) < (n : Int)) = true := decide_eq_true (by omega)
      have hd1' : decide (k < n) = true := decide_eq_true h1
      have hd2 : decide ((k : Int) < 101) = true := decide_eq_true (by omega)
      obtain ⟨q, rfl, _⟩ := HS.out.some (by omega)
      have hcell := HS.out.cell k h1
      have hsz := HZ.out k h1
      have hle := sumTo_le S k
      have hE : sumTo S (k + 1) = min (sumTo S k + (S k).size) 1048576 := rfl
      generalize sumTo S k = a at hle hE ⊢
      go_wp2
      go_roundw
      case rel => exact ⟨k + 1, by omega, by omega, by go_num, by rw [hE]; congr 1; omega, trivial⟩
      case measure => simp [intOf]; omega
    · have hdone : ¬ (n ≤ 100 ∧ sumTo S k ≤ 5000) ∨ (n ≤ 100 ∧ ∀ i, i < n → (S i).size ≤ 5000) := by
        by_cases h1 : n ≤ 100 ∧ sumTo S k ≤ 5000
        · obtain rfl : k = n := by omega
          exact .inr ⟨h1.1, fun i hi => sumTo_small S k i hi h1.2⟩
        · exact .inl h1
      have HD := Lib.hid hdone
      clear hdone
      generalize sumTo S k = a at HD ⊢
      by_cases h1 : k < n
      · have h2 : ¬ k < 101 := fun h => hlt ⟨h1, h⟩
        have hd1 : decide ((k : Int) < (n : Int)) = true := decide_eq_true (by omega)
        have hd1' : decide (k < n) = true := decide_eq_true h1
        have hd2 : decide ((k : Int) < 101) = false := decide_eq_false (by omega)
        have hd3 : decide ((n : Int) > 100) = true := decide_eq_true (by omega)
        clear hlt
        go_wp2
        go_ret
        exact ⟨_, rfl, rfl, fun h => by simp at h⟩
      · have hd1 : decide ((k : Int) < (n : Int)) = false := decide_eq_false (by omega)
        have hd1' : decide (k < n) = false := decide_eq_false h1
        clear hlt
        by_cases h3 : 100 < n
        · have hd3 : decide ((n : Int) > 100) = true := decide_eq_true (by omega)
          go_wp2
          go_ret
          exact ⟨_, rfl, rfl, fun h => by simp at h⟩
        · have hd3 : decide ((n : Int) > 100) = false := decide_eq_false (by omega)
          by_cases h4 : 5000 < a
          · have hd4 : decide ((a : Int) > 5000) = true := decide_eq_true (by omega)
            go_wp2
            go_ret
            exact ⟨_, rfl, rfl, fun h => by simp at h⟩
          · have hd4 : decide ((a : Int) > 5000) = false := decide_eq_false (by omega)
            have HE : Hid (n ≤ 100 ∧ ∀ i, i < n → (S i).size ≤ 5000) := Lib.hid (by rcases HD.out with h | h; exact absurd ⟨by omega, by omega⟩ h; exact h)
            go_wp2
            go_ret
            exact ⟨_, rfl, rfl, fun _ => HE.out⟩

end Go.Proofs.YtecfgjoomckleaaDoor
