/-
  Contracts of package ratio's Above and Least, of milepostref06, and chapter 6's examples. Conditions: the arguments fit their kinds.
-/
import Derived.Test.YtcjieaijcjinnaaRatioWalkA
namespace Go.Proofs.Ytcjieaijcjinnaa
open Go.RowKit

theorem cmp_gt (X Y : Nat) : decide (0 < cmpN X Y) = decide (Y < X) := by
  rcases Nat.lt_trichotomy X Y with h | h | h
  · rw [cmpN_lt h, decide_eq_false (by omega), decide_eq_false (by omega)]
  · rw [cmpN_eq h, decide_eq_false (by omega), decide_eq_false (by omega)]
  · rw [cmpN_gt h, decide_eq_true (by omega), decide_eq_true h]
theorem cmp_ge (X Y : Nat) : decide (0 ≤ cmpN X Y) = decide (Y ≤ X) := by
  rcases Nat.lt_trichotomy X Y with h | h | h
  · rw [cmpN_lt h, decide_eq_false (by omega), decide_eq_false (by omega)]
  · rw [cmpN_eq h, decide_eq_true (by omega), decide_eq_true (by omega)]
  · rw [cmpN_gt h, decide_eq_true (by omega), decide_eq_true (by omega)]
theorem dl_small (x : Nat) (h : x < 4294967296) : dl x ≤ 1000 := by
  have := bl_le x 32 h
  unfold dl; omega
set_option maxHeartbeats 400000 in
theorem above_any (n o : Nat) (up a b : Int) (w : World) (hn : n < 4294967296) (ho : o < 4294967296) (hb1 : -9223372036854775808 ≤ b) (hb2 : b ≤ 9223372036854775807) :
    Calls Try.prog 33 #[.int .u32 (n : Int), .int .u32 (o : Int), .int .i64 up, .int .i64 a, .int .i64 b] w fun e w' => e = .returned (.bool (aboveB n o up a b)) ∧ Kept w w' := by
  cases hok : okR up a b with
  | false =>
    have CC := Lib.hid (compare_bad n o up a b w hb1 hb2 hok)
    have hB : Hid (aboveB n o up a b = false) := Lib.hid (by simp [aboveB, hok])
    clear hok
    go_enter Try.func33, Try.ntmps33
    go_wp2_with (go_at_call 48; refine CC.out.mono ?_; rintro e w1 ⟨rfl, k1⟩)
    go_ret
    rw [hB.out]
    exact ⟨rfl, k1⟩
  | true =>
    have CC := Lib.hid (compare_ok n o up a b w hn ho hok)
    have hB : Hid (aboveB n o up a b = decide (rgt o a b < lft n b up)) := Lib.hid (by simp [aboveB, hok])
    have HE := Lib.hid (cmp_gt (lft n b up) (rgt o a b))
    clear hok
    generalize lft n b up = X at CC hB HE
    generalize rgt o a b = Y at CC hB HE
    generalize cmpN X Y = z at CC HE
    go_enter Try.func33, Try.ntmps33
    go_wp2_with (go_at_call 48; refine CC.out.mono ?_; rintro e w1 ⟨rfl, k1⟩)
    go_ret
    rw [hB.out, ← HE.out]
    exact ⟨rfl, k1⟩
set_option maxHeartbeats 400000 in
theorem least_any (n o : Nat) (up a b : Int) (w : World) (hn : n < 4294967296) (ho : o < 4294967296) (hb1 : -9223372036854775808 ≤ b) (hb2 : b ≤ 9223372036854775807) :
    Calls Try.prog 34 #[.int .u32 (n : Int), .int .u32 (o : Int), .int .i64 up, .int .i64 a, .int .i64 b] w fun e w' => e = .returned (.bool (leastB n o up a b)) ∧ Kept w w' := by
  cases hok : okR up a b with
  | false =>
    have CC := Lib.hid (compare_bad n o up a b w hb1 hb2 hok)
    have hB : Hid (leastB n o up a b = false) := Lib.hid (by simp [leastB, hok])
    clear hok
    go_enter Try.func34, Try.ntmps34
    go_wp2_with (go_at_call 48; refine CC.out.mono ?_; rintro e w1 ⟨rfl, k1⟩)
    go_ret
    rw [hB.out]
    exact ⟨rfl, k1⟩
  | true =>
    have CC := Lib.hid (compare_ok n o up a b w hn ho hok)
    have hB : Hid (leastB n o up a b = decide (rgt o a b ≤ lft n b up)) := Lib.hid (by simp [leastB, hok])
    have HE := Lib.hid (cmp_ge (lft n b up) (rgt o a b))
    clear hok
    generalize lft n b up = X at CC hB HE
    generalize rgt o a b = Y at CC hB HE
    generalize cmpN X Y = z at CC HE
    go_enter Try.func34, Try.ntmps34
    go_wp2_with (go_at_call 48; refine CC.out.mono ?_; rintro e w1 ⟨rfl, k1⟩)
    go_ret
    rw [hB.out, ← HE.out]
    exact ⟨rfl, k1⟩
set_option maxHeartbeats 400000 in
theorem refMay6_any (a b : Int) (w : World) : Calls Try.prog 32 #[.int .i64 a, .int .i64 b] w fun e w' => e = .returned (.bool (mayB a b)) ∧ w = w' := by
  by_cases h1 : 0 < a
  · have hd1 : decide (0 < a) = true := decide_eq_true h1
    by_cases h2 : a < b
    · have hd2 : decide (a < b) = true := decide_eq_true h2
      by_cases h3 : b ≤ 65536
      · have hd3 : decide (b ≤ 65536) = true := decide_eq_true h3
        have hm := Lib.hid (mayB_of h1 h2 h3)
        clear h1 h2 h3
        go_enter Try.func32, Try.ntmps32
        go_wp2
        go_ret
        rw [hm.out]
        exact ⟨rfl, rfl⟩
      · have hd3 : decide (b ≤ 65536) = false := decide_eq_false h3
        have hm := Lib.hid (mayB_no (a := a) (b := b) (by omega))
        clear h1 h2 h3
        go_enter Try.func32, Try.ntmps32
        go_wp2
        go_ret
        rw [hm.out]
        exact ⟨rfl, rfl⟩
    · have hd2 : decide (a < b) = false := decide_eq_false h2
      have hm := Lib.hid (mayB_no (a := a) (b := b) (by omega))
      clear h1 h2
      go_enter Try.func32, Try.ntmps32
      go_wp2
      go_ret
      rw [hm.out]
      exact ⟨rfl, rfl⟩
  · have hd1 : decide (0 < a) = false := decide_eq_false h1
    have hm := Lib.hid (mayB_no (a := a) (b := b) (by omega))
    clear h1
    go_enter Try.func32, Try.ntmps32
    go_wp2
    go_ret
    rw [hm.out]
    exact ⟨rfl, rfl⟩

def cmp6 (n o : Nat) (up a b : Int) : Int := if okR up a b then cmpN (lft n b up) (rgt o a b) else 2
set_option maxHeartbeats 800000 in
theorem refCmp6_bad (n o : Nat) (up a b : Int) (w : World) (hok : okR up a b = false) :
    Calls Try.prog 30 #[.int .u32 (n : Int), .int .u32 (o : Int), .int .i64 up, .int .i64 a, .int .i64 b] w fun e w' => e = .returned (.int .i64 2) ∧ Kept w w' := by
  have CM := Lib.hid fun w => refMay6_any a b w
  cases hm : mayB a b with
  | false =>
    rw [hm] at CM
    clear hm hok
    go_enter Try.func30, Try.ntmps30
    go_wp2_with (go_at_call 32; refine (CM.out _).mono ?_; rintro e w1 ⟨rfl, rfl⟩)
    go_ret
    exact ⟨rfl, Kept.refl _⟩
  | true =>
    have hu : up < 0 ∨ 255 < up := by
      simp only [okR, hm, Bool.true_and, decide_eq_false_iff_not] at hok
      omega
    rw [hm] at CM
    clear hm hok
    by_cases h0 : up < 0
    · have hd1 : decide (up < 0) = true := decide_eq_true h0
      clear hu h0
      go_enter Try.func30, Try.ntmps30
      go_wp2_with (go_at_call 32; refine (CM.out _).mono ?_; rintro e w1 ⟨rfl, rfl⟩)
      go_ret
      exact ⟨rfl, Kept.refl _⟩
    · have hd1 : decide (up < 0) = false := decide_eq_false h0
      have hd2 : decide (255 < up) = true := decide_eq_true (by omega)
      clear hu h0
      go_enter Try.func30, Try.ntmps30
      go_wp2_with (go_at_call 32; refine (CM.out _).mono ?_; rintro e w1 ⟨rfl, rfl⟩)
      go_ret
      exact ⟨rfl, Kept.refl _⟩
set_option maxRecDepth 100000 in
set_option maxHeartbeats 1600000 in
theorem refCmp6_big1 (n o aa bb c u : Nat) (w : World) (hn : n < 4294967296) (ho : o < 4294967296) (hb : bb ≤ 65536) (hc : (bb : Int) - (aa : Int) = (c : Int)) (hc2 : c ≤ 65536) (hm : mayB (aa : Int) (bb : Int) = true) (hu255 : u ≤ 255) (h1 : 65536 ≤ n) :
    Calls Try.prog 30 #[.int .u32 (n : Int), .int .u32 (o : Int), .int .i64 (u : Int), .int .i64 (aa : Int), .int .i64 (bb : Int)] w fun e w' => e = .returned (.int .i64 (cmpN (n * bb * 2 ^ u) (o * c))) ∧ Kept w w' := by
  have CM := Lib.hid fun w => refMay6_any (aa : Int) (bb : Int) w
  rw [hm] at CM
  have hdx : dl (n * bb * 2 ^ u) ≤ 1000000 := Nat.le_trans (dl20 _ (prod_lt n bb u hn (by omega) hu255)) (by decide)
  have hdnb : dl (n * bb) ≤ 1000 := Nat.le_trans (dl20 _ (by have h := prod_lt n bb 0 hn (by omega) (by omega); rwa [Nat.pow_zero, Nat.mul_one] at h)) (by decide)
  have hdp : dl (2 ^ u) ≤ 1000 := by rw [dl_pow]; omega
  have hdn : dl n ≤ 1000 := dl_small n hn
  have hdo : dl o ≤ 1000 := dl_small o ho
  have hdb : dl bb ≤ 1000 := dl_small bb (by omega)
  have hdc : dl c ≤ 1000 := dl_small c (by omega)
  have hu : u ≤ 1000 := by omega
  have C1 := Lib.hid fun w => refOf5_any n w (by omega)
  have C2 := Lib.hid fun w => refOf5_any bb w (by omega)
  have C3 := Lib.hid fun w => refOf5_any o w (by omega)
  have C4 := Lib.hid fun w => refOf5_any c w (by omega)
  have hd1 : decide ((u : Int) < 0) = false := decide_eq_false (by omega)
  have hd2 : decide ((255 : Int) < (u : Int)) = false := decide_eq_false (by omega)
  have hsn1 : decide ((n : Int) < 65536) = false := decide_eq_false (by omega)
  have hsn2 : decide (n < 65536) = false := decide_eq_false (by omega)
  have hw1 : IntKind.u64.wrap (bb : Int) = (bb : Int) := by rw [IntKind.wrap_u64]; omega
  have hw2 : IntKind.u64.wrap (c : Int) = (c : Int) := by rw [IntKind.wrap_u64]; omega
  have hw3 : IntKind.u64.wrap (n : Int) = (n : Int) := by rw [IntKind.wrap_u64]; omega
  have hw4 : IntKind.u64.wrap (o : Int) = (o : Int) := by rw [IntKind.wrap_u64]; omega
  have hcc : IntKind.i64.wrap ((bb : Int) - (aa : Int)) = (c : Int) := by rw [hc, IntKind.wrap_i64]; omega
  clear hc hm
  go_enter Try.func30, Try.ntmps30
  go_wp2_with (first
    | (go_at_call 32; refine (CM.out _).mono ?_; rintro e w0 ⟨rfl, rfl⟩)
    | (go_at_call 21; refine (C1.out _).mono ?_; rintro e w1 ⟨x1, rfl, d1, k1⟩; clear C1)
    | (go_at_call 21; refine (C2.out _).mono ?_; rintro e w2 ⟨x2, rfl, d2, k2⟩; clear C2; replace d1 := dig_kept _ _ _ k2 d1)
    | (go_at_call 20; refine (refMul5_any n bb _ _ _ d1 d2 hdn hdb).mono ?_; rintro e w3 ⟨x3, rfl, d3, k3⟩; clear d1 d2)
    | (go_at_call 23; refine (refPower5_any u _ hu).mono ?_; rintro e w4 ⟨x4, rfl, d4, k4⟩; replace d3 := dig_kept _ _ _ k4 d3)
    | (go_at_call 20; refine (refMul5_any (n * bb) (2 ^ u) _ _ _ d3 d4 hdnb hdp).mono ?_; rintro e w5 ⟨x5, rfl, d5, k5⟩; clear d3 d4)
    | (go_at_call 21; refine (C3.out _).mono ?_; rintro e w6 ⟨x6, rfl, d6, k6⟩; clear C3; replace d5 := dig_kept _ _ _ k6 d5)
    | (go_at_call 21; refine (C4.out _).mono ?_; rintro e w7 ⟨x7, rfl, d7, k7⟩; clear C4; replace d5 := dig_kept _ _ _ k7 d5; replace d6 := dig_kept _ _ _ k7 d6)
    | (go_at_call 20; refine (refMul5_any o c _ _ _ d6 d7 hdo hdc).mono ?_; rintro e w8 ⟨x8, rfl, d8, k8⟩; clear d6 d7; replace d5 := dig_kept _ _ _ k8 d5)
    | (go_at_call 15; refine (refCmp5_any (n * bb * 2 ^ u) (o * c) _ _ _ d5 d8 hdx).mono ?_; rintro e w9 ⟨rfl, k9⟩))
  go_ret
  exact ⟨rfl, ((((((((k1.trans k2).trans k3).trans k4).trans k5).trans k6).trans k7).trans k8).trans k9)⟩
set_option maxRecDepth 100000 in
set_option maxHeartbeats 1600000 in
theorem refCmp6_big2 (n o aa bb c u : Nat) (w : World) (hn : n < 4294967296) (ho : o < 4294967296) (hb : bb ≤ 65536) (hc : (bb : Int) - (aa : Int) = (c : Int)) (hc2 : c ≤ 65536) (hm : mayB (aa : Int) (bb : Int) = true) (hu255 : u ≤ 255) (h1 : n < 65536) (h2 : 65536 ≤ o) :
    Calls Try.prog 30 #[.int .u32 (n : Int), .int .u32 (o : Int), .int .i64 (u : Int), .int .i64 (aa : Int), .int .i64 (bb : Int)] w fun e w' => e = .returned (.int .i64 (cmpN (n * bb * 2 ^ u) (o * c))) ∧ Kept w w' := by
  have CM := Lib.hid fun w => refMay6_any (aa : Int) (bb : Int) w
  rw [hm] at CM
  have hdx : dl (n * bb * 2 ^ u) ≤ 1000000 := Nat.le_trans (dl20 _ (prod_lt n bb u hn (by omega) hu255)) (by decide)
  have hdnb : dl (n * bb) ≤ 1000 := Nat.le_trans (dl20 _ (by have h := prod_lt n bb 0 hn (by omega) (by omega); rwa [Nat.pow_zero, Nat.mul_one] at h)) (by decide)
  have hdp : dl (2 ^ u) ≤ 1000 := by rw [dl_pow]; omega
  have hdn : dl n ≤ 1000 := dl_small n hn
  have hdo : dl o ≤ 1000 := dl_small o ho
  have hdb : dl bb ≤ 1000 := dl_small bb (by omega)
  have hdc : dl c ≤ 1000 := dl_small c (by omega)
  have hu : u ≤ 1000 := by omega
  have C1 := Lib.hid fun w => refOf5_any n w (by omega)
  have C2 := Lib.hid fun w => refOf5_any bb w (by omega)
  have C3 := Lib.hid fun w => refOf5_any o w (by omega)
  have C4 := Lib.hid fun w => refOf5_any c w (by omega)
  have hd1 : decide ((u : Int) < 0) = false := decide_eq_false (by omega)
  have hd2 : decide ((255 : Int) < (u : Int)) = false := decide_eq_false (by omega)
  have hsn1 : decide ((n : Int) < 65536) = true := decide_eq_true (by omega)
  have hsn2 : decide (n < 65536) = true := decide_eq_true (by omega)
  have hso1 : decide ((o : Int) < 65536) = false := decide_eq_false (by omega)
  have hso2 : decide (o < 65536) = false := decide_eq_false (by omega)
  have hw1 : IntKind.u64.wrap (bb : Int) = (bb : Int) := by rw [IntKind.wrap_u64]; omega
  have hw2 : IntKind.u64.wrap (c : Int) = (c : Int) := by rw [IntKind.wrap_u64]; omega
  have hw3 : IntKind.u64.wrap (n : Int) = (n : Int) := by rw [IntKind.wrap_u64]; omega
  have hw4 : IntKind.u64.wrap (o : Int) = (o : Int) := by rw [IntKind.wrap_u64]; omega
  have hcc : IntKind.i64.wrap ((bb : Int) - (aa : Int)) = (c : Int) := by rw [hc, IntKind.wrap_i64]; omega
  clear hc hm
  go_enter Try.func30, Try.ntmps30
  go_wp2_with (first
    | (go_at_call 32; refine (CM.out _).mono ?_; rintro e w0 ⟨rfl, rfl⟩)
    | (go_at_call 21; refine (C1.out _).mono ?_; rintro e w1 ⟨x1, rfl, d1, k1⟩; clear C1)
    | (go_at_call 21; refine (C2.out _).mono ?_; rintro e w2 ⟨x2, rfl, d2, k2⟩; clear C2; replace d1 := dig_kept _ _ _ k2 d1)
    | (go_at_call 20; refine (refMul5_any n bb _ _ _ d1 d2 hdn hdb).mono ?_; rintro e w3 ⟨x3, rfl, d3, k3⟩; clear d1 d2)
    | (go_at_call 23; refine (refPower5_any u _ hu).mono ?_; rintro e w4 ⟨x4, rfl, d4, k4⟩; replace d3 := dig_kept _ _ _ k4 d3)
    | (go_at_call 20; refine (refMul5_any (n * bb) (2 ^ u) _ _ _ d3 d4 hdnb hdp).mono ?_; rintro e w5 ⟨x5, rfl, d5, k5⟩; clear d3 d4)
    | (go_at_call 21; refine (C3.out _).mono ?_; rintro e w6 ⟨x6, rfl, d6, k6⟩; clear C3; replace d5 := dig_kept _ _ _ k6 d5)
    | (go_at_call 21; refine (C4.out _).mono ?_; rintro e w7 ⟨x7, rfl, d7, k7⟩; clear C4; replace d5 := dig_kept _ _ _ k7 d5; replace d6 := dig_kept _ _ _ k7 d6)
    | (go_at_call 20; refine (refMul5_any o c _ _ _ d6 d7 hdo hdc).mono ?_; rintro e w8 ⟨x8, rfl, d8, k8⟩; clear d6 d7; replace d5 := dig_kept _ _ _ k8 d5)
    | (go_at_call 15; refine (refCmp5_any (n * bb * 2 ^ u) (o * c) _ _ _ d5 d8 hdx).mono ?_; rintro e w9 ⟨rfl, k9⟩))
  go_ret
  exact ⟨rfl, ((((((((k1.trans k2).trans k3).trans k4).trans k5).trans k6).trans k7).trans k8).trans k9)⟩
set_option maxRecDepth 100000 in
set_option maxHeartbeats 1600000 in
theorem refCmp6_big3 (n o aa bb c u : Nat) (w : World) (hn : n < 4294967296) (ho : o < 4294967296) (hb : bb ≤ 65536) (hc : (bb : Int) - (aa : Int) = (c : Int)) (hc2 : c ≤ 65536) (hm : mayB (aa : Int) (bb : Int) = true) (hu255 : u ≤ 255) (h1 : n < 65536) (h2 : o < 65536) (h3 : 16 < u) :
    Calls Try.prog 30 #[.int .u32 (n : Int), .int .u32 (o : Int), .int .i64 (u : Int), .int .i64 (aa : Int), .int .i64 (bb : Int)] w fun e w' => e = .returned (.int .i64 (cmpN (n * bb * 2 ^ u) (o * c))) ∧ Kept w w' := by
  have CM := Lib.hid fun w => refMay6_any (aa : Int) (bb : Int) w
  rw [hm] at CM
  have hdx : dl (n * bb * 2 ^ u) ≤ 1000000 := Nat.le_trans (dl20 _ (prod_lt n bb u hn (by omega) hu255)) (by decide)
  have hdnb : dl (n * bb) ≤ 1000 := Nat.le_trans (dl20 _ (by have h := prod_lt n bb 0 hn (by omega) (by omega); rwa [Nat.pow_zero, Nat.mul_one] at h)) (by decide)
  have hdp : dl (2 ^ u) ≤ 1000 := by rw [dl_pow]; omega
  have hdn : dl n ≤ 1000 := dl_small n hn
  have hdo : dl o ≤ 1000 := dl_small o ho
  have hdb : dl bb ≤ 1000 := dl_small bb (by omega)
  have hdc : dl c ≤ 1000 := dl_small c (by omega)
  have hu : u ≤ 1000 := by omega
  have C1 := Lib.hid fun w => refOf5_any n w (by omega)
  have C2 := Lib.hid fun w => refOf5_any bb w (by omega)
  have C3 := Lib.hid fun w => refOf5_any o w (by omega)
  have C4 := Lib.hid fun w => refOf5_any c w (by omega)
  have hd1 : decide ((u : Int) < 0) = false := decide_eq_false (by omega)
  have hd2 : decide ((255 : Int) < (u : Int)) = false := decide_eq_false (by omega)
  have hsn1 : decide ((n : Int) < 65536) = true := decide_eq_true (by omega)
  have hsn2 : decide (n < 65536) = true := decide_eq_true (by omega)
  have hso1 : decide ((o : Int) < 65536) = true := decide_eq_true (by omega)
  have hso2 : decide (o < 65536) = true := decide_eq_true (by omega)
  have hsu1 : decide ((u : Int) ≤ 16) = false := decide_eq_false (by omega)
  have hsu2 : decide (u ≤ 16) = false := decide_eq_false (by omega)
  have hw1 : IntKind.u64.wrap (bb : Int) = (bb : Int) := by rw [IntKind.wrap_u64]; omega
  have hw2 : IntKind.u64.wrap (c : Int) = (c : Int) := by rw [IntKind.wrap_u64]; omega
  have hw3 : IntKind.u64.wrap (n : Int) = (n : Int) := by rw [IntKind.wrap_u64]; omega
  have hw4 : IntKind.u64.wrap (o : Int) = (o : Int) := by rw [IntKind.wrap_u64]; omega
  have hcc : IntKind.i64.wrap ((bb : Int) - (aa : Int)) = (c : Int) := by rw [hc, IntKind.wrap_i64]; omega
  clear hc hm
  go_enter Try.func30, Try.ntmps30
  go_wp2_with (first
    | (go_at_call 32; refine (CM.out _).mono ?_; rintro e w0 ⟨rfl, rfl⟩)
    | (go_at_call 21; refine (C1.out _).mono ?_; rintro e w1 ⟨x1, rfl, d1, k1⟩; clear C1)
    | (go_at_call 21; refine (C2.out _).mono ?_; rintro e w2 ⟨x2, rfl, d2, k2⟩; clear C2; replace d1 := dig_kept _ _ _ k2 d1)
    | (go_at_call 20; refine (refMul5_any n bb _ _ _ d1 d2 hdn hdb).mono ?_; rintro e w3 ⟨x3, rfl, d3, k3⟩; clear d1 d2)
    | (go_at_call 23; refine (refPower5_any u _ hu).mono ?_; rintro e w4 ⟨x4, rfl, d4, k4⟩; replace d3 := dig_kept _ _ _ k4 d3)
    | (go_at_call 20; refine (refMul5_any (n * bb) (2 ^ u) _ _ _ d3 d4 hdnb hdp).mono ?_; rintro e w5 ⟨x5, rfl, d5, k5⟩; clear d3 d4)
    | (go_at_call 21; refine (C3.out _).mono ?_; rintro e w6 ⟨x6, rfl, d6, k6⟩; clear C3; replace d5 := dig_kept _ _ _ k6 d5)
    | (go_at_call 21; refine (C4.out _).mono ?_; rintro e w7 ⟨x7, rfl, d7, k7⟩; clear C4; replace d5 := dig_kept _ _ _ k7 d5; replace d6 := dig_kept _ _ _ k7 d6)
    | (go_at_call 20; refine (refMul5_any o c _ _ _ d6 d7 hdo hdc).mono ?_; rintro e w8 ⟨x8, rfl, d8, k8⟩; clear d6 d7; replace d5 := dig_kept _ _ _ k8 d5)
    | (go_at_call 15; refine (refCmp5_any (n * bb * 2 ^ u) (o * c) _ _ _ d5 d8 hdx).mono ?_; rintro e w9 ⟨rfl, k9⟩))
  go_ret
  exact ⟨rfl, ((((((((k1.trans k2).trans k3).trans k4).trans k5).trans k6).trans k7).trans k8).trans k9)⟩
theorem shl_wrap (X u Z : Nat) (hZ : Z = X * 2 ^ u) (hl : Z ≤ 9223372036854775807) : wrap64 ((X : Int) * 2 ^ u) = (Z : Int) := by
  have h : (X : Int) * 2 ^ u = (Z : Int) := by rw [hZ]; simp
  rw [h]
  unfold wrap64
  omega
set_option maxRecDepth 4000 in
set_option maxHeartbeats 400000 in
theorem refCmp6_small (n o aa bb c u : Nat) (w : World) (hb : bb ≤ 65536) (hc : (bb : Int) - (aa : Int) = (c : Int)) (hc2 : c ≤ 65536) (hm : mayB (aa : Int) (bb : Int) = true) (h1 : n < 65536) (h2 : o < 65536) (h3 : u ≤ 16) :
    Calls Try.prog 30 #[.int .u32 (n : Int), .int .u32 (o : Int), .int .i64 (u : Int), .int .i64 (aa : Int), .int .i64 (bb : Int)] w fun e w' => e = .returned (.int .i64 (cmpN (n * bb * 2 ^ u) (o * c))) ∧ Kept w w' := by
  have CM := Lib.hid fun w => refMay6_any (aa : Int) (bb : Int) w
  rw [hm] at CM
  have hd1 : decide ((u : Int) < 0) = false := decide_eq_false (by omega)
  have hd2 : decide ((255 : Int) < (u : Int)) = false := decide_eq_false (by omega)
  have hsn1 : decide ((n : Int) < 65536) = true := decide_eq_true (by omega)
  have hsn2 : decide (n < 65536) = true := decide_eq_true (by omega)
  have hso1 : decide ((o : Int) < 65536) = true := decide_eq_true (by omega)
  have hso2 : decide (o < 65536) = true := decide_eq_true (by omega)
  have hsu1 : decide ((u : Int) ≤ 16) = true := decide_eq_true (by omega)
  have hsu2 : decide (u ≤ 16) = true := decide_eq_true (by omega)
  have hw3 : IntKind.i64.wrap (n : Int) = (n : Int) := by rw [IntKind.wrap_i64]; omega
  have hw4 : IntKind.i64.wrap (o : Int) = (o : Int) := by rw [IntKind.wrap_i64]; omega
  have hcc : IntKind.i64.wrap ((bb : Int) - (aa : Int)) = (c : Int) := by rw [hc, IntKind.wrap_i64]; omega
  obtain ⟨X, hX, hnb⟩ : ∃ X, X = n * bb ∧ X ≤ 4294901760 := ⟨_, rfl, Nat.le_trans (Nat.mul_le_mul (Nat.le_of_lt_succ h1) hb) (by decide)⟩
  obtain ⟨Y, hY, hoc⟩ : ∃ Y, Y = o * c ∧ Y ≤ 4294901760 := ⟨_, rfl, Nat.le_trans (Nat.mul_le_mul (Nat.le_of_lt_succ h2) hc2) (by decide)⟩
  have hwm : (n : Int) * (bb : Int) = (X : Int) := by rw [hX]; simp
  have hwo : (o : Int) * (c : Int) = (Y : Int) := by rw [hY]; simp
  rw [← hX, ← hY]
  obtain ⟨Z, hZ, hZl⟩ : ∃ Z, Z = X * 2 ^ u ∧ Z ≤ 281470681743360 := ⟨_, rfl, Nat.le_trans (Nat.mul_le_mul hnb (pow_mono u 16 h3)) (by decide)⟩
  rw [← hZ]
  have HW := Lib.hid (shl_wrap X u Z hZ (by omega))
  clear hX hY hZ hc hm
  go_enter Try.func30, Try.ntmps30
  go_wp2_with (first | (go_at_call 32; refine (CM.out _).mono ?_; rintro e w1 ⟨rfl, rfl⟩) | (refine park_at 50 rfl ?_))
  rw [HW.out]
  clear HW hwm hnb
  refine unpark ?_
  by_cases h4 : Y < Z
  · have hq := Lib.hid (cmpN_gt h4)
    have hg1 : decide (Y < Z) = true := decide_eq_true h4
    clear h4
    go_wp2
    go_ret
    rw [hq.out]
    exact ⟨rfl, Kept.refl _⟩
  · have hg1 : decide (Y < Z) = false := decide_eq_false h4
    by_cases h5 : Z < Y
    · have hq := Lib.hid (cmpN_lt h5)
      have hg2 : decide (Z < Y) = true := decide_eq_true h5
      clear h4 h5
      go_wp2
      go_ret
      rw [hq.out]
      exact ⟨rfl, Kept.refl _⟩
    · have hq := Lib.hid (cmpN_eq (show Z = Y by omega))
      have hg2 : decide (Z < Y) = false := decide_eq_false h5
      clear h4 h5
      go_wp2
      go_ret
      rw [hq.out]
      exact ⟨rfl, Kept.refl _⟩
theorem cmp6_ok {n o : Nat} {up a b : Int} (h : okR up a b = true) : cmp6 n o up a b = cmpN (lft n b up) (rgt o a b) := by unfold cmp6; rw [if_pos h]
theorem refCmp6_any (n o : Nat) (up a b : Int) (w : World) (hn : n < 4294967296) (ho : o < 4294967296) :
    Calls Try.prog 30 #[.int .u32 (n : Int), .int .u32 (o : Int), .int .i64 up, .int .i64 a, .int .i64 b] w fun e w' => e = .returned (.int .i64 (cmp6 n o up a b)) ∧ Kept w w' := by
  cases hok : okR up a b with
  | false =>
    have e : cmp6 n o up a b = 2 := by unfold cmp6; rw [hok]; rfl
    rw [e]
    exact refCmp6_bad n o up a b w hok
  | true =>
    rw [cmp6_ok hok]
    simp only [okR, Bool.and_eq_true, decide_eq_true_eq] at hok
    obtain ⟨hm, hu0, hu1⟩ := hok
    obtain ⟨h1, h2, h3⟩ := (mayB_iff a b).1 hm
    obtain ⟨bb, rfl⟩ : ∃ bb : Nat, b = (bb : Int) := ⟨b.toNat, by omega⟩
    obtain ⟨aa, rfl⟩ : ∃ aa : Nat, a = (aa : Int) := ⟨a.toNat, by omega⟩
    obtain ⟨u, rfl⟩ : ∃ u : Nat, up = (u : Int) := ⟨up.toNat, by omega⟩
    obtain ⟨c, hc⟩ : ∃ c : Nat, (bb : Int) - (aa : Int) = (c : Int) := ⟨bb - aa, by omega⟩
    have e2 : rgt o (aa : Int) (bb : Int) = o * c := by unfold rgt; rw [hc]; rfl
    rw [e2, show lft n (bb : Int) (u : Int) = n * bb * 2 ^ u from rfl]
    by_cases g1 : n < 65536
    · by_cases g2 : o < 65536
      · by_cases g3 : u ≤ 16
        · exact refCmp6_small n o aa bb c u w (by omega) hc (by omega) hm g1 g2 g3
        · exact refCmp6_big3 n o aa bb c u w hn ho (by omega) hc (by omega) hm (by omega) g1 g2 (by omega)
      · exact refCmp6_big2 n o aa bb c u w hn ho (by omega) hc (by omega) hm (by omega) g1 (by omega)
    · exact refCmp6_big1 n o aa bb c u w hn ho (by omega) hc (by omega) hm (by omega) (by omega)
theorem cmpN_range (A B : Nat) : cmpN A B = -1 ∨ cmpN A B = 0 ∨ cmpN A B = 1 := by
  rcases Nat.lt_trichotomy A B with h | h | h
  · exact .inl (cmpN_lt h)
  · exact .inr (.inl (cmpN_eq h))
  · exact .inr (.inr (cmpN_gt h))
theorem above_cmp (n o : Nat) (up a b : Int) : (cmp6 n o up a b == 1) = aboveB n o up a b := by
  unfold aboveB
  cases hok : okR up a b with
  | false => unfold cmp6; rw [hok]; rfl
  | true =>
    rw [cmp6_ok hok, ← cmp_gt, Bool.true_and]
    rcases cmpN_range (lft n b up) (rgt o a b) with h | h | h <;> rw [h] <;> rfl
theorem least_cmp (n o : Nat) (up a b : Int) : ((cmp6 n o up a b == 0) || (cmp6 n o up a b == 1)) = leastB n o up a b := by
  unfold leastB
  cases hok : okR up a b with
  | false => unfold cmp6; rw [hok]; rfl
  | true =>
    rw [cmp6_ok hok, ← cmp_ge, Bool.true_and]
    rcases cmpN_range (lft n b up) (rgt o a b) with h | h | h <;> rw [h] <;> rfl

theorem awA (n o : Nat) (up a b : Int) (r : Bool) (w : World) (hn : n < 4294967296) (ho : o < 4294967296) (hb1 : -9223372036854775808 ≤ b) (hb2 : b ≤ 9223372036854775807) (h : aboveB n o up a b = r) :
    Calls Try.prog 33 #[.int .u32 (n : Int), .int .u32 (o : Int), .int .i64 up, .int .i64 a, .int .i64 b] w fun e w' => e = .returned (.bool r) ∧ Kept w w' := by
  rw [← h]; exact above_any n o up a b w hn ho hb1 hb2
theorem awL (n o : Nat) (up a b : Int) (r : Bool) (w : World) (hn : n < 4294967296) (ho : o < 4294967296) (hb1 : -9223372036854775808 ≤ b) (hb2 : b ≤ 9223372036854775807) (h : leastB n o up a b = r) :
    Calls Try.prog 34 #[.int .u32 (n : Int), .int .u32 (o : Int), .int .i64 up, .int .i64 a, .int .i64 b] w fun e w' => e = .returned (.bool r) ∧ Kept w w' := by
  rw [← h]; exact least_any n o up a b w hn ho hb1 hb2
set_option maxHeartbeats 800000 in
theorem awake6_any (w : World) : Calls Try.prog 35 #[] w fun e w' => e = .returned (.bool true) ∧ Kept w w' := by
  have C1 : Hid (∀ w, Calls Try.prog 33 #[.int .u32 1, .int .u32 2, .int .i64 0, .int .i64 1, .int .i64 2] w fun e w' => e = .returned (.bool false) ∧ Kept w w') := Lib.hid fun w => awA 1 2 0 1 2 false w (by decide) (by decide) (by decide) (by decide) (by decide +kernel)
  have C2 : Hid (∀ w, Calls Try.prog 34 #[.int .u32 1, .int .u32 2, .int .i64 0, .int .i64 1, .int .i64 2] w fun e w' => e = .returned (.bool true) ∧ Kept w w') := Lib.hid fun w => awL 1 2 0 1 2 true w (by decide) (by decide) (by decide) (by decide) (by decide +kernel)
  have C3 : Hid (∀ w, Calls Try.prog 33 #[.int .u32 1, .int .u32 2, .int .i64 1, .int .i64 1, .int .i64 2] w fun e w' => e = .returned (.bool true) ∧ Kept w w') := Lib.hid fun w => awA 1 2 1 1 2 true w (by decide) (by decide) (by decide) (by decide) (by decide +kernel)
  go_enter Try.func35, Try.ntmps35
  go_wp2_with (first
    | (go_at_call 33; refine (C1.out _).mono ?_; rintro e w1 ⟨rfl, k1⟩; clear C1)
    | (go_at_call 34; refine (C2.out _).mono ?_; rintro e w2 ⟨rfl, k2⟩)
    | (go_at_call 33; refine (C3.out _).mono ?_; rintro e w3 ⟨rfl, k3⟩))
  go_ret
  exact ⟨rfl, (k1.trans k2).trans k3⟩
end Go.Proofs.Ytcjieaijcjinnaa
