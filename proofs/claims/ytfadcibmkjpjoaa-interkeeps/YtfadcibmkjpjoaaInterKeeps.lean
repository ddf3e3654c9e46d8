/-
  From the genesis block on no vector gets shorter, each has at most 257 entries and ends with the genesis block; each entry up to a block's level is that block, and none above it changes, for any ids and levels; chapter 20's examples hold: 'InterKeeps' returns true.
  Conditions: none.
-/
import Derived.Test.YtfadcibmkjpjoaaRows
import Derived.Test.YtfadcibmkjpjoaaInterLaw
import Derived.Test.YtfadcibmkjpjoaaLawLibI
import Derived.WalkKit
import Derived.ProofKit
import Derived.OpenShut
import Derived.ShutString
import Derived.SizedLaws
import Derived.Test.YtfadcibmkjpjoaaBas
namespace Go.Proofs.Ytfadcibmkjpjoaa.interKeeps
open Go.ChangeShapes Go.WideShapes Go.ChangeAt Go.RowKit
open Go.ChangeMaps (open_string shut_string)
set_option linter.unusedVariables false

theorem own : ownKnob Try.prog.godebug = none := by kernel_rfl
theorem laidOut : laidOutB Try.prog = true := by kernel_rfl

set_option maxRecDepth 100000 in
set_option maxHeartbeats 4000000 in
theorem walk (a0 : List UInt8) (n0 : a0.length = 32) (p1 : Option Addr) (n1 c1 : Nat) (F1 : Nat → List UInt8) (z1 : n1 ≤ c1 ∧ c1 ≤ maxLen) (p2 : Option Addr) (n2 c2 : Nat) (I2 : Nat → Int) (z2 : n2 ≤ c2 ∧ c2 ≤ maxLen) (y2 : ∀ i, i < n2 → (Lit.int .i64 (I2 i)).wf = true) (w : World) (e1 : HAt w p1 n1 F1) (e2 : IAt w p2 n2 I2) :
    Calls Try.prog 5 #[.agg (bC 32 a0), .slice p1 n1 c1, .slice p2 n2 c2] w fun e w' => e = .returned (.bool true) ∧ Kept w w' := by
  have HA : Hid (∀ w, _) := Lib.hid fun w => awake20_any w
  have R3 := Lib.hid (Rowz.new w (bC 32 a0) 24)
  have K1 := Lib.hid ((Kept.refl w).alloc (.cells (bC 32 a0) 24))
  by_cases hn : 60 < n1 ∨ n2 < n1
  · have g0 : Hid (decide ((n1 : Int) > 60) = true ∨ (decide ((n1 : Int) > 60) = false ∧ decide ((n2 : Int) < (n1 : Int)) = true ∧ decide (n2 < n1) = true)) := Lib.hid (by
      by_cases h : 60 < n1
      · exact .inl (decide_eq_true (by omega))
      · exact .inr ⟨decide_eq_false (by omega), decide_eq_true (by omega), decide_eq_true (by omega)⟩)
    clear hn e1 z1 e2 z2 y2
    rcases g0.out with g1 | ⟨g1, g2, g2'⟩
    all_goals
      have g1' := g1
      simp only [gt_iff_lt] at g1'
      go_enter Try.func5, Try.ntmps5
      go_wp2_with fail
      refine (HA.out _).mono ?_
      rintro e v1 ⟨rfl, k1⟩
      replace K1 := Lib.hid (K1.out.trans k1)
      go_wp2_with fail
      go_ret
      exact ⟨rfl, K1.out⟩
  · have g1 : decide ((n1 : Int) > 60) = false := decide_eq_false (by omega)
    have g1' : decide ((60 : Int) < (n1 : Int)) = false := decide_eq_false (by omega)
    have g2 : decide ((n2 : Int) < (n1 : Int)) = false := decide_eq_false (by omega)
    have g2' : decide (n2 < n1) = false := decide_eq_false (by omega)
    have h60 : n1 ≤ 60 := by omega
    have h12 : n1 ≤ n2 := by omega
    have H1 : Hid (∀ w, _) := Lib.hid fun w => interFirst_any a0 w n0
    have HF1 := Lib.hid e1
    have HI := Lib.hid e2
    have HY := Lib.hid y2
    have hl0 := n0
    clear e1 z1 e2 z2 y2 hn n0
    go_enter Try.func5, Try.ntmps5
    go_wp2_with (refine wpList_exec 26 rfl (by rfl) _ _ (load_h rfl rfl R3.out) ?_)
    generalize w.alloc (.cells (bC 32 a0) 24) = v1 at R3 K1 ⊢
    refine (H1.out v1).mono ?_
    rintro e v2 ⟨x, rfl, hx, k2⟩
    have X0 := Lib.hid hx
    replace R3 := Lib.hid (R3.out.kept k2)
    replace K1 := Lib.hid (K1.out.trans k2)
    replace HF1 := Lib.hid (HF1.out.kept K1.out)
    replace HI := Lib.hid (HI.out.kept K1.out)
    clear hx k2 H1
    go_wp2_with fail
    go_loopw [7, 8] (fun v i wr => ∃ (k n : Nat) (F : Nat → List UInt8), k ≤ n1 ∧ i = .int .i64 (k : Int) ∧ Hid (0 < n ∧ n ≤ 257 ∧ F (n - 1) = a0) ∧ Hid (HSl n F v wr) ∧ Hid (Kept v2 wr)) (fun _ i _ => n1 - (intOf i).toNat)
    case atStart => exact ⟨0, 1, fun _ => a0, by omega, rfl, Lib.hid ⟨by omega, by omega, rfl⟩, X0, Lib.hid (Kept.refl _)⟩
    case round =>
      clear X0
      rename_i v _
      obtain ⟨wo, hwo⟩ : ∃ wo, wo = wr := ⟨_, rfl⟩
      subst hwo
      obtain ⟨k, n, F, hk, rfl, HN, X0, KW⟩ := hrel
      by_cases hk1 : k < n1
      · have hd : decide ((k : Int) < (n1 : Int)) = true := decide_eq_true (by omega)
        have hd' : decide (k < n1) = true := decide_eq_true hk1
        have hk2 : k < n2 := by omega
        obtain ⟨pv, cv, rfl, hv1, hv2, hvF⟩ := X0.out
        obtain ⟨qv, rfl, _⟩ := hvF.some HN.out.1
        have HV := Lib.hid hvF
        clear X0 hvF
        obtain ⟨q1, rfl, _⟩ := HF1.out.some (show 0 < n1 by omega)
        obtain ⟨q2, rfl, _⟩ := HI.out.some (show 0 < n2 by omega)
        obtain ⟨bi1, bi2⟩ := bounds_i64 (HY.out k hk2)
        have H2 : Hid (∀ w, HSl n F (.slice (some qv) n cv) w → _) := Lib.hid fun w hv => interNext_any n F (.slice (some qv) n cv) w (F1 k) (I2 k) hv (by have := HN.out; omega) (HF1.out.length k hk1) bi1 bi2
        have HG0 := Lib.hid (nxF_length F n (F1 k) (lvlC (I2 k)) HV.out.length (HF1.out.length k hk1) HN.out.1)
        have HL := nx_last F n (F1 k) (lvlC (I2 k)) HN.out.1
        have HM := nxN_pos n (lvlC (I2 k)) HN.out.1
        have HM2 := lvlC_le (I2 k)
        have HEv : Hid (∀ (m : Nat) (w : World), m ≤ 257 → HAt w (some qv) n F → _) := Lib.hid fun m w hm hv => interEntry_any n F (.slice (some qv) n cv) w (m : Int) ⟨some qv, cv, rfl, hv1, hv2, hv⟩ (by have := HN.out; omega) (by omega) (by omega)
        have HEl := Lib.hid (fun m : Nat => enF_length (nxF F n (F1 k) (lvlC (I2 k))) (nxN n (lvlC (I2 k))) (m : Int) (fun i _ => HG0.out i))
        obtain ⟨G, hG⟩ : ∃ G, G = nxF F n (F1 k) (lvlC (I2 k)) := ⟨_, rfl⟩
        obtain ⟨M, hM⟩ : ∃ M, M = nxN n (lvlC (I2 k)) := ⟨_, rfl⟩
        rw [← hG] at H2 HG0 HL HEl
        rw [← hM] at H2 HL HM HEl
        have HMa : Hid (0 < M ∧ n ≤ M ∧ M ≤ 257) := Lib.hid (by have := HN.out; omega)
        rw [HN.out.2.2] at HL
        have HLast := Lib.hid HL
        replace hG := Lib.hid hG
        replace hM := Lib.hid hM
        clear HL HM HM2
        have HF1w := Lib.hid (HF1.out.kept KW.out)
        have HIw := Lib.hid (HI.out.kept KW.out)
        go_wp2_with fail
        refine wp_region_table [(34, .is (.slice (some qv) n cv)), (35, .is (.slice (some q1) n1 c1)), (36, .is (.int .i64 (k : Int))), (37, .is (.pointer (some (q1.add (k * 32))))), (38, .is (.agg (bC 32 (F1 k)))), (39, .is (.slice (some q2) n2 c2)), (40, .is (.int .i64 (k : Int))), (41, .is (.pointer (some (q2.add k)))), (42, .is (.int .i64 (I2 k))), (43, .such (HSl M G) (HSl.kept M G)), (9, .such (HSl M G) (HSl.kept M G))] (by kernel_rfl) (by kernel_rfl) ?_ ?_
        · refine ⟨fun t w1 hf hk hp => ?_, ?_⟩
          · have h7 : slot t 7 = .slice (some qv) n cv := hf 7 (by kernel_rfl)
            clear hf hp
            refine stepAt_plain rfl ?_
            exact stepOK_move _ (.inl rfl) h7
          refine ⟨fun t w1 hf hk hp => ?_, ?_⟩
          · have h1 : slot t 1 = .slice (some q1) n1 c1 := hf 1 (by kernel_rfl)
            clear hf hp
            refine stepAt_plain rfl ?_
            exact stepOK_move _ (.inl rfl) h1
          refine ⟨fun t w1 hf hk hp => ?_, ?_⟩
          · have h8 : slot t 8 = .int .i64 (k : Int) := hf 8 (by kernel_rfl)
            clear hf hp
            refine stepAt_plain rfl ?_
            exact stepOK_move _ (.inl rfl) h8
          refine ⟨fun t w1 hf hk hp => ?_, ?_⟩
          · have h35 : slot t 35 = .slice (some q1) n1 c1 := hp 35 (by kernel_rfl)
            have h36 : slot t 36 = .int .i64 (k : Int) := hp 36 (by kernel_rfl)
            clear hf hp
            refine stepAt_plain rfl ?_
            exact stepOK_pure (.pointer (some (q1.add (k * 32)))) (execIndexH q1 n1 c1 k hk1 w1 rfl h35 h36) rfl
          refine ⟨fun t w1 hf hk hp => ?_, ?_⟩
          · have h37 : slot t 37 = .pointer (some (q1.add (k * 32))) := hp 37 (by kernel_rfl)
            clear hf hp
            refine stepAt_plain rfl ?_
            have hq0 := (HF1w.out.kept hk).load k hk1
            exact stepOK_sem (.agg (bC 32 (F1 k))) (by simp only [execOp, evS, h37]) hq0 rfl
          refine ⟨fun t w1 hf hk hp => ?_, ?_⟩
          · have h2 : slot t 2 = .slice (some q2) n2 c2 := hf 2 (by kernel_rfl)
            clear hf hp
            refine stepAt_plain rfl ?_
            exact stepOK_move _ (.inl rfl) h2
          refine ⟨fun t w1 hf hk hp => ?_, ?_⟩
          · have h8 : slot t 8 = .int .i64 (k : Int) := hf 8 (by kernel_rfl)
            clear hf hp
            refine stepAt_plain rfl ?_
            exact stepOK_move _ (.inl rfl) h8
          refine ⟨fun t w1 hf hk hp => ?_, ?_⟩
          · have h39 : slot t 39 = .slice (some q2) n2 c2 := hp 39 (by kernel_rfl)
            have h40 : slot t 40 = .int .i64 (k : Int) := hp 40 (by kernel_rfl)
            clear hf hp
            refine stepAt_plain rfl ?_
            exact stepOK_pure (.pointer (some (q2.add k))) (execIndexI20 q2 n2 c2 k hk2 w1 rfl h39 h40) rfl
          refine ⟨fun t w1 hf hk hp => ?_, ?_⟩
          · have h41 : slot t 41 = .pointer (some (q2.add k)) := hp 41 (by kernel_rfl)
            clear hf hp
            refine stepAt_plain rfl ?_
            have hq0 := run_loadI20 ((HIw.out.kept hk).cell k hk2)
            exact stepOK_sem (.int .i64 (I2 k)) (by simp only [execOp, evS, h41]) hq0 rfl
          refine ⟨fun t w1 hf hk hp => ?_, ?_⟩
          · have h34 : slot t 34 = .slice (some qv) n cv := hp 34 (by kernel_rfl)
            have h38 : slot t 38 = .agg (bC 32 (F1 k)) := hp 38 (by kernel_rfl)
            have h42 : slot t 42 = .int .i64 (I2 k) := hp 42 (by kernel_rfl)
            clear hf hp
            refine stepAt_plain rfl ?_
            refine stepOK_call #[.slice (some qv) n cv, .agg (bC 32 (F1 k)), .int .i64 (I2 k)] rfl (by simp only [List.map_toArray, List.map_cons, List.map_nil, evS, h34, h38, h42]) (by go_simp) ((H2.out w1 ⟨some qv, cv, rfl, hv1, hv2, HV.out.kept hk⟩).mono fun e w' ⟨v, he, hpv, hk'⟩ => ⟨v, he, hk', hpv⟩)
          refine ⟨fun t w1 hf hk hp => ?_, ?_⟩
          · obtain ⟨v43, h43, p43⟩ : ∃ v, slot t 43 = v ∧ (HSl M G) v w1 := ⟨_, rfl, hp 43 (by kernel_rfl)⟩
            clear hf hp
            refine stepAt_plain rfl ?_
            exact stepOK_move _ (.inr rfl) (by simp only [evS, h43]; exact p43)
          exact trivial
        · intro t w1 hsz hf hk hfacts
          obtain ⟨v9, h9, p9⟩ : ∃ v, slot t 9 = v ∧ (HSl M G) v w1 := ⟨_, rfl, hfacts 10 _ rfl 9 rfl⟩
          have h1 : slot t 1 = .slice (some q1) n1 c1 := hf 1 (by kernel_rfl)
          have h2 : slot t 2 = .slice (some q2) n2 c2 := hf 2 (by kernel_rfl)
          have h7 : slot t 7 = .slice (some qv) n cv := hf 7 (by kernel_rfl)
          have h8 : slot t 8 = .int .i64 (k : Int) := hf 8 (by kernel_rfl)
          have h0 := hf 0 (by kernel_rfl)
          conv at h0 => rhs; whnf
          try change slot t 0 = undef at h0
          have h3 := hf 3 (by kernel_rfl)
          conv at h3 => rhs; whnf
          try change slot t 3 = undef at h3
          have h4 := hf 4 (by kernel_rfl)
          conv at h4 => rhs; whnf
          try change slot t 4 = undef at h4
          have h5 := hf 5 (by kernel_rfl)
          conv at h5 => rhs; whnf
          try change slot t 5 = undef at h5
          have h6 := hf 6 (by kernel_rfl)
          conv at h6 => rhs; whnf
          try change slot t 6 = undef at h6
          have h10 := hf 10 (by kernel_rfl)
          conv at h10 => rhs; whnf
          try change slot t 10 = undef at h10
          have h11 := hf 11 (by kernel_rfl)
          conv at h11 => rhs; whnf
          try change slot t 11 = undef at h11
          have h12 := hf 12 (by kernel_rfl)
          conv at h12 => rhs; whnf
          try change slot t 12 = undef at h12
          have h13 := hf 13 (by kernel_rfl)
          conv at h13 => rhs; whnf
          try change slot t 13 = undef at h13
          have h14 := hf 14 (by kernel_rfl)
          conv at h14 => rhs; whnf
          try change slot t 14 = undef at h14
          have h15 := hf 15 (by kernel_rfl)
          conv at h15 => rhs; whnf
          try change slot t 15 = undef at h15
          have h16 := hf 16 (by kernel_rfl)
          conv at h16 => rhs; whnf
          try change slot t 16 = undef at h16
          have h17 := hf 17 (by kernel_rfl)
          conv at h17 => rhs; whnf
          try change slot t 17 = undef at h17
          have h18 := hf 18 (by kernel_rfl)
          conv at h18 => rhs; whnf
          try change slot t 18 = undef at h18
          have h19 := hf 19 (by kernel_rfl)
          conv at h19 => rhs; whnf
          try change slot t 19 = undef at h19
          have h20 := hf 20 (by kernel_rfl)
          conv at h20 => rhs; whnf
          try change slot t 20 = undef at h20
          have h21 := hf 21 (by kernel_rfl)
          conv at h21 => rhs; whnf
          try change slot t 21 = undef at h21
          have h22 := hf 22 (by kernel_rfl)
          conv at h22 => rhs; whnf
          try change slot t 22 = undef at h22
          have h23 := hf 23 (by kernel_rfl)
          conv at h23 => rhs; whnf
          try change slot t 23 = undef at h23
          have h24 := hf 24 (by kernel_rfl)
          conv at h24 => rhs; whnf
          try change slot t 24 = undef at h24
          have h25 := hf 25 (by kernel_rfl)
          conv at h25 => rhs; whnf
          try change slot t 25 = undef at h25
          have h26 := hf 26 (by kernel_rfl)
          conv at h26 => rhs; whnf
          try change slot t 26 = undef at h26
          have h27 := hf 27 (by kernel_rfl)
          conv at h27 => rhs; whnf
          try change slot t 27 = undef at h27
          have h28 := hf 28 (by kernel_rfl)
          conv at h28 => rhs; whnf
          try change slot t 28 = undef at h28
          have h29 := hf 29 (by kernel_rfl)
          conv at h29 => rhs; whnf
          try change slot t 29 = undef at h29
          have h30 := hf 30 (by kernel_rfl)
          conv at h30 => rhs; whnf
          try change slot t 30 = undef at h30
          have h31 := hf 31 (by kernel_rfl)
          conv at h31 => rhs; whnf
          try change slot t 31 = undef at h31
          have h32 := hf 32 (by kernel_rfl)
          conv at h32 => rhs; whnf
          try change slot t 32 = undef at h32
          have h33 := hf 33 (by kernel_rfl)
          conv at h33 => rhs; whnf
          try change slot t 33 = undef at h33
          have h44 := hf 44 (by kernel_rfl)
          conv at h44 => rhs; whnf
          try change slot t 44 = undef at h44
          have h45 := hf 45 (by kernel_rfl)
          conv at h45 => rhs; whnf
          try change slot t 45 = undef at h45
          have h46 := hf 46 (by kernel_rfl)
          conv at h46 => rhs; whnf
          try change slot t 46 = undef at h46
          have h47 := hf 47 (by kernel_rfl)
          conv at h47 => rhs; whnf
          try change slot t 47 = undef at h47
          have h48 := hf 48 (by kernel_rfl)
          conv at h48 => rhs; whnf
          try change slot t 48 = undef at h48
          have h49 := hf 49 (by kernel_rfl)
          conv at h49 => rhs; whnf
          try change slot t 49 = undef at h49
          have h50 := hf 50 (by kernel_rfl)
          conv at h50 => rhs; whnf
          try change slot t 50 = undef at h50
          have h51 := hf 51 (by kernel_rfl)
          conv at h51 => rhs; whnf
          try change slot t 51 = undef at h51
          have h52 := hf 52 (by kernel_rfl)
          conv at h52 => rhs; whnf
          try change slot t 52 = undef at h52
          have h53 := hf 53 (by kernel_rfl)
          conv at h53 => rhs; whnf
          try change slot t 53 = undef at h53
          have h54 := hf 54 (by kernel_rfl)
          conv at h54 => rhs; whnf
          try change slot t 54 = undef at h54
          have h55 := hf 55 (by kernel_rfl)
          conv at h55 => rhs; whnf
          try change slot t 55 = undef at h55
          have h56 := hf 56 (by kernel_rfl)
          conv at h56 => rhs; whnf
          try change slot t 56 = undef at h56
          have h57 := hf 57 (by kernel_rfl)
          conv at h57 => rhs; whnf
          try change slot t 57 = undef at h57
          have h58 := hf 58 (by kernel_rfl)
          conv at h58 => rhs; whnf
          try change slot t 58 = undef at h58
          have h59 := hf 59 (by kernel_rfl)
          conv at h59 => rhs; whnf
          try change slot t 59 = undef at h59
          have h60 := hf 60 (by kernel_rfl)
          conv at h60 => rhs; whnf
          try change slot t 60 = undef at h60
          have h61 := hf 61 (by kernel_rfl)
          conv at h61 => rhs; whnf
          try change slot t 61 = undef at h61
          have h62 := hf 62 (by kernel_rfl)
          conv at h62 => rhs; whnf
          try change slot t 62 = undef at h62
          have h63 := hf 63 (by kernel_rfl)
          conv at h63 => rhs; whnf
          try change slot t 63 = undef at h63
          have h64 := hf 64 (by kernel_rfl)
          conv at h64 => rhs; whnf
          try change slot t 64 = undef at h64
          have h65 := hf 65 (by kernel_rfl)
          conv at h65 => rhs; whnf
          try change slot t 65 = undef at h65
          have h66 := hf 66 (by kernel_rfl)
          conv at h66 => rhs; whnf
          try change slot t 66 = undef at h66
          have h67 := hf 67 (by kernel_rfl)
          conv at h67 => rhs; whnf
          try change slot t 67 = undef at h67
          have h68 := hf 68 (by kernel_rfl)
          conv at h68 => rhs; whnf
          try change slot t 68 = undef at h68
          have h69 := hf 69 (by kernel_rfl)
          conv at h69 => rhs; whnf
          try change slot t 69 = undef at h69
          have h70 := hf 70 (by kernel_rfl)
          conv at h70 => rhs; whnf
          try change slot t 70 = undef at h70
          have h71 := hf 71 (by kernel_rfl)
          conv at h71 => rhs; whnf
          try change slot t 71 = undef at h71
          have h72 := hf 72 (by kernel_rfl)
          conv at h72 => rhs; whnf
          try change slot t 72 = undef at h72
          have h73 := hf 73 (by kernel_rfl)
          conv at h73 => rhs; whnf
          try change slot t 73 = undef at h73
          have h74 := hf 74 (by kernel_rfl)
          conv at h74 => rhs; whnf
          try change slot t 74 = undef at h74
          have h75 := hf 75 (by kernel_rfl)
          conv at h75 => rhs; whnf
          try change slot t 75 = undef at h75
          have h76 := hf 76 (by kernel_rfl)
          conv at h76 => rhs; whnf
          try change slot t 76 = undef at h76
          have h77 := hf 77 (by kernel_rfl)
          conv at h77 => rhs; whnf
          try change slot t 77 = undef at h77
          have h78 := hf 78 (by kernel_rfl)
          conv at h78 => rhs; whnf
          try change slot t 78 = undef at h78
          have h79 := hf 79 (by kernel_rfl)
          conv at h79 => rhs; whnf
          try change slot t 79 = undef at h79
          have h80 := hf 80 (by kernel_rfl)
          conv at h80 => rhs; whnf
          try change slot t 80 = undef at h80
          have h81 := hf 81 (by kernel_rfl)
          conv at h81 => rhs; whnf
          try change slot t 81 = undef at h81
          have h82 := hf 82 (by kernel_rfl)
          conv at h82 => rhs; whnf
          try change slot t 82 = undef at h82
          have h83 := hf 83 (by kernel_rfl)
          conv at h83 => rhs; whnf
          try change slot t 83 = undef at h83
          have h84 := hf 84 (by kernel_rfl)
          conv at h84 => rhs; whnf
          try change slot t 84 = undef at h84
          have h85 := hf 85 (by kernel_rfl)
          conv at h85 => rhs; whnf
          try change slot t 85 = undef at h85
          have h86 := hf 86 (by kernel_rfl)
          conv at h86 => rhs; whnf
          try change slot t 86 = undef at h86
          have h87 := hf 87 (by kernel_rfl)
          conv at h87 => rhs; whnf
          try change slot t 87 = undef at h87
          have h88 := hf 88 (by kernel_rfl)
          conv at h88 => rhs; whnf
          try change slot t 88 = undef at h88
          have h89 := hf 89 (by kernel_rfl)
          conv at h89 => rhs; whnf
          try change slot t 89 = undef at h89
          have h90 := hf 90 (by kernel_rfl)
          conv at h90 => rhs; whnf
          try change slot t 90 = undef at h90
          have h91 := hf 91 (by kernel_rfl)
          conv at h91 => rhs; whnf
          try change slot t 91 = undef at h91
          have h92 := hf 92 (by kernel_rfl)
          conv at h92 => rhs; whnf
          try change slot t 92 = undef at h92
          have h93 := hf 93 (by kernel_rfl)
          conv at h93 => rhs; whnf
          try change slot t 93 = undef at h93
          have h94 := hf 94 (by kernel_rfl)
          conv at h94 => rhs; whnf
          try change slot t 94 = undef at h94
          have h95 := hf 95 (by kernel_rfl)
          conv at h95 => rhs; whnf
          try change slot t 95 = undef at h95
          have h96 := hf 96 (by kernel_rfl)
          conv at h96 => rhs; whnf
          try change slot t 96 = undef at h96
          have h97 := hf 97 (by kernel_rfl)
          conv at h97 => rhs; whnf
          try change slot t 97 = undef at h97
          have h98 := hf 98 (by kernel_rfl)
          conv at h98 => rhs; whnf
          try change slot t 98 = undef at h98
          have h99 := hf 99 (by kernel_rfl)
          conv at h99 => rhs; whnf
          try change slot t 99 = undef at h99
          have h100 := hf 100 (by kernel_rfl)
          conv at h100 => rhs; whnf
          try change slot t 100 = undef at h100
          have h101 := hf 101 (by kernel_rfl)
          conv at h101 => rhs; whnf
          try change slot t 101 = undef at h101
          have h102 := hf 102 (by kernel_rfl)
          conv at h102 => rhs; whnf
          try change slot t 102 = undef at h102
          have h103 := hf 103 (by kernel_rfl)
          conv at h103 => rhs; whnf
          try change slot t 103 = undef at h103
          have h104 := hf 104 (by kernel_rfl)
          conv at h104 => rhs; whnf
          try change slot t 104 = undef at h104
          have h105 := hf 105 (by kernel_rfl)
          conv at h105 => rhs; whnf
          try change slot t 105 = undef at h105
          have h106 := hf 106 (by kernel_rfl)
          conv at h106 => rhs; whnf
          try change slot t 106 = undef at h106
          have h107 := hf 107 (by kernel_rfl)
          conv at h107 => rhs; whnf
          try change slot t 107 = undef at h107
          have h108 := hf 108 (by kernel_rfl)
          conv at h108 => rhs; whnf
          try change slot t 108 = undef at h108
          have h109 := hf 109 (by kernel_rfl)
          conv at h109 => rhs; whnf
          try change slot t 109 = undef at h109
          have h110 := hf 110 (by kernel_rfl)
          conv at h110 => rhs; whnf
          try change slot t 110 = undef at h110
          have h111 := hf 111 (by kernel_rfl)
          conv at h111 => rhs; whnf
          try change slot t 111 = undef at h111
          have h112 := hf 112 (by kernel_rfl)
          conv at h112 => rhs; whnf
          try change slot t 112 = undef at h112
          have h113 := hf 113 (by kernel_rfl)
          conv at h113 => rhs; whnf
          try change slot t 113 = undef at h113
          have h114 := hf 114 (by kernel_rfl)
          conv at h114 => rhs; whnf
          try change slot t 114 = undef at h114
          have h115 := hf 115 (by kernel_rfl)
          conv at h115 => rhs; whnf
          try change slot t 115 = undef at h115
          have h116 := hf 116 (by kernel_rfl)
          conv at h116 => rhs; whnf
          try change slot t 116 = undef at h116
          have h117 := hf 117 (by kernel_rfl)
          conv at h117 => rhs; whnf
          try change slot t 117 = undef at h117
          have h118 := hf 118 (by kernel_rfl)
          conv at h118 => rhs; whnf
          try change slot t 118 = undef at h118
          have h119 := hf 119 (by kernel_rfl)
          conv at h119 => rhs; whnf
          try change slot t 119 = undef at h119
          have harr : t = #[slot t 0, slot t 1, slot t 2, slot t 3, slot t 4, slot t 5, slot t 6, slot t 7, slot t 8, slot t 9, slot t 10, slot t 11, slot t 12, slot t 13, slot t 14, slot t 15, slot t 16, slot t 17, slot t 18, slot t 19, slot t 20, slot t 21, slot t 22, slot t 23, slot t 24, slot t 25, slot t 26, slot t 27, slot t 28, slot t 29, slot t 30, slot t 31, slot t 32, slot t 33, slot t 34, slot t 35, slot t 36, slot t 37, slot t 38, slot t 39, slot t 40, slot t 41, slot t 42, slot t 43, slot t 44, slot t 45, slot t 46, slot t 47, slot t 48, slot t 49, slot t 50, slot t 51, slot t 52, slot t 53, slot t 54, slot t 55, slot t 56, slot t 57, slot t 58, slot t 59, slot t 60, slot t 61, slot t 62, slot t 63, slot t 64, slot t 65, slot t 66, slot t 67, slot t 68, slot t 69, slot t 70, slot t 71, slot t 72, slot t 73, slot t 74, slot t 75, slot t 76, slot t 77, slot t 78, slot t 79, slot t 80, slot t 81, slot t 82, slot t 83, slot t 84, slot t 85, slot t 86, slot t 87, slot t 88, slot t 89, slot t 90, slot t 91, slot t 92, slot t 93, slot t 94, slot t 95, slot t 96, slot t 97, slot t 98, slot t 99, slot t 100, slot t 101, slot t 102, slot t 103, slot t 104, slot t 105, slot t 106, slot t 107, slot t 108, slot t 109, slot t 110, slot t 111, slot t 112, slot t 113, slot t 114, slot t 115, slot t 116, slot t 117, slot t 118, slot t 119] := arr_eq t 120 hsz
          rw [harr, h9, h1, h2, h7, h8, h0, h3, h4, h5, h6, h10, h11, h12, h13, h14, h15, h16, h17, h18, h19, h20, h21, h22, h23, h24, h25, h26, h27, h28, h29, h30, h31, h32, h33, h44, h45, h46, h47, h48, h49, h50, h51, h52, h53, h54, h55, h56, h57, h58, h59, h60, h61, h62, h63, h64, h65, h66, h67, h68, h69, h70, h71, h72, h73, h74, h75, h76, h77, h78, h79, h80, h81, h82, h83, h84, h85, h86, h87, h88, h89, h90, h91, h92, h93, h94, h95, h96, h97, h98, h99, h100, h101, h102, h103, h104, h105, h106, h107, h108, h109, h110, h111, h112, h113, h114, h115, h116, h117, h118, h119]
          clear harr hfacts hf h9 h1 h2 h7 h8 h0 h3 h4 h5 h6 h10 h11 h12 h13 h14 h15 h16 h17 h18 h19 h20 h21 h22 h23 h24 h25 h26 h27 h28 h29 h30 h31 h32 h33 h44 h45 h46 h47 h48 h49 h50 h51 h52 h53 h54 h55 h56 h57 h58 h59 h60 h61 h62 h63 h64 h65 h66 h67 h68 h69 h70 h71 h72 h73 h74 h75 h76 h77 h78 h79 h80 h81 h82 h83 h84 h85 h86 h87 h88 h89 h90 h91 h92 h93 h94 h95 h96 h97 h98 h99 h100 h101 h102 h103 h104 h105 h106 h107 h108 h109 h110 h111 h112 h113 h114 h115 h116 h117 h118 h119
          generalize slot t 34 = x34; generalize slot t 35 = x35; generalize slot t 36 = x36; generalize slot t 37 = x37; generalize slot t 38 = x38; generalize slot t 39 = x39; generalize slot t 40 = x40; generalize slot t 41 = x41; generalize slot t 42 = x42; generalize slot t 43 = x43
          clear hsz t
          obtain ⟨p9, c9, rfl, hs1, hs2, h9F⟩ := p9
          obtain ⟨q9, rfl, _⟩ := h9F.some HMa.out.1
          have H9 := Lib.hid h9F
          replace KW := Lib.hid (KW.out.trans hk)
          replace HV := Lib.hid (HV.out.kept hk)
          have R3w := Lib.hid (R3.out.kept KW.out)
          clear hk h9F H2 HF1w HIw
          obtain ⟨M1, hM1⟩ : ∃ M1, M1 = M - 1 := ⟨_, rfl⟩
          have HP : Hid (∀ {o : Oper} {t : Array Value} {x : Operand} (w : World), o.op = .binOp .sub 3 x (.const (.int .i64 1)) 3 → evS t x = .int .i64 (M : Int) → (execOp (evS t) o).run Try.prog w = .ok (.value (.int .i64 (M1 : Int))) w) := Lib.hid fun w ho hx => by rw [hM1]; exact execPred M HMa.out.1 (by have := HMa.out; omega) w ho hx
          have hM1l : M1 < M := by have := HMa.out; omega
          have hld : Hid (∀ u, Kept w1 u → (Instr.loadAt 24 (.pointer (some (q9.add (M1 * 32))))).run Try.prog u = .ok (.agg (bC 32 a0)) u) := Lib.hid fun u hu => by
            have := (H9.out.kept hu).load M1 hM1l
            have e : G M1 = a0 := by rw [hM1]; exact HLast.out
            rwa [e] at this
          have d1 : ((M : Int) == 0) = false := by have := HMa.out; simp; omega
          have d2 : decide ((M : Int) < (n : Int)) = false := decide_eq_false (by have := HMa.out; omega)
          have d2' : decide (M < n) = false := decide_eq_false (by have := HMa.out; omega)
          have d3 : decide ((M : Int) > 257) = false := decide_eq_false (by have := HMa.out; omega)
          have d3' : decide ((257 : Int) < (M : Int)) = false := decide_eq_false (by have := HMa.out; omega)
          have d3'' : decide (257 < M) = false := decide_eq_false (by have := HMa.out; omega)
          replace hM1 := Lib.hid hM1
          obtain ⟨v5, hv5⟩ : ∃ v5, v5 = w1 := ⟨_, rfl⟩
          subst hv5
          go_wp2_with fail
          refine wp_region_table [(44, .is (.slice (some q9) M c9)), (45, .is (.int .i64 (M : Int))), (46, .is (.bool false)), (47, .is (.bool false)), (48, .is (.slice (some q9) M c9)), (49, .is (.int .i64 (M : Int))), (50, .is (.slice (some qv) n cv)), (51, .is (.int .i64 (n : Int))), (52, .is (.bool false)), (53, .is (.bool false)), (54, .is (.bool false)), (55, .is (.slice (some q9) M c9)), (56, .is (.int .i64 (M : Int))), (57, .is (.bool false)), (58, .is (.bool false)), (59, .is (.bool false)), (60, .is (.slice (some q9) M c9)), (61, .is (.slice (some q9) M c9)), (62, .is (.int .i64 (M : Int))), (63, .is (.int .i64 (M1 : Int))), (64, .is (.pointer (some (q9.add (M1 * 32))))), (65, .is (.agg (bC 32 a0))), (66, .is (.agg (bC 32 a0))), (67, .is (.bool false)), (68, .is (.bool false))] (by kernel_rfl) (by kernel_rfl) ?_ ?_
          · refine ⟨fun t w1 hf hk hp => ?_, ?_⟩
            · have h9 : slot t 9 = .slice (some q9) M c9 := hf 9 (by kernel_rfl)
              clear hf hp
              refine stepAt_plain rfl ?_
              exact stepOK_move _ (.inl rfl) h9
            refine ⟨fun t w1 hf hk hp => ?_, ?_⟩
            · have h44 : slot t 44 = .slice (some q9) M c9 := hp 44 (by kernel_rfl)
              clear hf hp
              refine stepAt_plain rfl ?_
              exact stepOK_pure (.int .i64 (M : Int)) (execLenHs w1 rfl (by assumption)) rfl
            refine ⟨fun t w1 hf hk hp => ?_, ?_⟩
            · have h45 : slot t 45 = .int .i64 (M : Int) := hp 45 (by kernel_rfl)
              clear hf hp
              refine stepAt_plain rfl ?_
              refine stepOK_pure (.bool false) ?_ rfl
              simp only [execOp, evS, h45]
              go_simp
            refine ⟨fun t w1 hf hk hp => ?_, ?_⟩
            · have h46 : slot t 46 = .bool false := hp 46 (by kernel_rfl)
              clear hf hp
              refine stepAt_plain rfl ?_
              exact stepOK_move _ (.inl rfl) h46
            refine ⟨fun t w1 hf hk hp => ?_, ?_⟩
            · have h9 : slot t 9 = .slice (some q9) M c9 := hf 9 (by kernel_rfl)
              have h47 : slot t 47 = .bool false := hp 47 (by kernel_rfl)
              clear hf hp
              refine stepAt_on 47 false (by kernel_rfl) h47 ?_
              exact stepOK_move _ (.inl rfl) h9
            refine ⟨fun t w1 hf hk hp => ?_, ?_⟩
            · have h48 : slot t 48 = .slice (some q9) M c9 := hp 48 (by kernel_rfl)
              have h47 : slot t 47 = .bool false := hp 47 (by kernel_rfl)
              clear hf hp
              refine stepAt_on 47 false (by kernel_rfl) h47 ?_
              exact stepOK_pure (.int .i64 (M : Int)) (execLenHs w1 rfl (by assumption)) rfl
            refine ⟨fun t w1 hf hk hp => ?_, ?_⟩
            · have h7 : slot t 7 = .slice (some qv) n cv := hf 7 (by kernel_rfl)
              have h47 : slot t 47 = .bool false := hp 47 (by kernel_rfl)
              clear hf hp
              refine stepAt_on 47 false (by kernel_rfl) h47 ?_
              exact stepOK_move _ (.inl rfl) h7
            refine ⟨fun t w1 hf hk hp => ?_, ?_⟩
            · have h50 : slot t 50 = .slice (some qv) n cv := hp 50 (by kernel_rfl)
              have h47 : slot t 47 = .bool false := hp 47 (by kernel_rfl)
              clear hf hp
              refine stepAt_on 47 false (by kernel_rfl) h47 ?_
              exact stepOK_pure (.int .i64 (n : Int)) (execLenHs w1 rfl (by assumption)) rfl
            refine ⟨fun t w1 hf hk hp => ?_, ?_⟩
            · have h49 : slot t 49 = .int .i64 (M : Int) := hp 49 (by kernel_rfl)
              have h51 : slot t 51 = .int .i64 (n : Int) := hp 51 (by kernel_rfl)
              have h47 : slot t 47 = .bool false := hp 47 (by kernel_rfl)
              clear hf hp
              refine stepAt_on 47 false (by kernel_rfl) h47 ?_
              refine stepOK_pure (.bool false) ?_ rfl
              simp only [execOp, evS, h49, h51]
              go_simp
            refine ⟨fun t w1 hf hk hp => ?_, ?_⟩
            · have h47 : slot t 47 = .bool false := hp 47 (by kernel_rfl)
              have h52 : slot t 52 = .bool false := hp 52 (by kernel_rfl)
              clear hf hp
              refine stepAt_plain rfl ?_
              refine stepOK_pure (.bool false) ?_ rfl
              simp only [execOp, evS, h47, h52]
              go_simp
            refine ⟨fun t w1 hf hk hp => ?_, ?_⟩
            · have h53 : slot t 53 = .bool false := hp 53 (by kernel_rfl)
              clear hf hp
              refine stepAt_plain rfl ?_
              exact stepOK_move _ (.inl rfl) h53
            refine ⟨fun t w1 hf hk hp => ?_, ?_⟩
            · have h9 : slot t 9 = .slice (some q9) M c9 := hf 9 (by kernel_rfl)
              have h54 : slot t 54 = .bool false := hp 54 (by kernel_rfl)
              clear hf hp
              refine stepAt_on 54 false (by kernel_rfl) h54 ?_
              exact stepOK_move _ (.inl rfl) h9
            refine ⟨fun t w1 hf hk hp => ?_, ?_⟩
            · have h55 : slot t 55 = .slice (some q9) M c9 := hp 55 (by kernel_rfl)
              have h54 : slot t 54 = .bool false := hp 54 (by kernel_rfl)
              clear hf hp
              refine stepAt_on 54 false (by kernel_rfl) h54 ?_
              exact stepOK_pure (.int .i64 (M : Int)) (execLenHs w1 rfl (by assumption)) rfl
            refine ⟨fun t w1 hf hk hp => ?_, ?_⟩
            · have h56 : slot t 56 = .int .i64 (M : Int) := hp 56 (by kernel_rfl)
              have h54 : slot t 54 = .bool false := hp 54 (by kernel_rfl)
              clear hf hp
              refine stepAt_on 54 false (by kernel_rfl) h54 ?_
              refine stepOK_pure (.bool false) ?_ rfl
              simp only [execOp, evS, h56]
              go_simp
            refine ⟨fun t w1 hf hk hp => ?_, ?_⟩
            · have h54 : slot t 54 = .bool false := hp 54 (by kernel_rfl)
              have h57 : slot t 57 = .bool false := hp 57 (by kernel_rfl)
              clear hf hp
              refine stepAt_plain rfl ?_
              refine stepOK_pure (.bool false) ?_ rfl
              simp only [execOp, evS, h54, h57]
              go_simp
            refine ⟨fun t w1 hf hk hp => ?_, ?_⟩
            · have h58 : slot t 58 = .bool false := hp 58 (by kernel_rfl)
              clear hf hp
              refine stepAt_plain rfl ?_
              exact stepOK_move _ (.inl rfl) h58
            refine ⟨fun t w1 hf hk hp => ?_, ?_⟩
            · have h9 : slot t 9 = .slice (some q9) M c9 := hf 9 (by kernel_rfl)
              have h59 : slot t 59 = .bool false := hp 59 (by kernel_rfl)
              clear hf hp
              refine stepAt_on 59 false (by kernel_rfl) h59 ?_
              exact stepOK_move _ (.inl rfl) h9
            refine ⟨fun t w1 hf hk hp => ?_, ?_⟩
            · have h9 : slot t 9 = .slice (some q9) M c9 := hf 9 (by kernel_rfl)
              have h59 : slot t 59 = .bool false := hp 59 (by kernel_rfl)
              clear hf hp
              refine stepAt_on 59 false (by kernel_rfl) h59 ?_
              exact stepOK_move _ (.inl rfl) h9
            refine ⟨fun t w1 hf hk hp => ?_, ?_⟩
            · have h61 : slot t 61 = .slice (some q9) M c9 := hp 61 (by kernel_rfl)
              have h59 : slot t 59 = .bool false := hp 59 (by kernel_rfl)
              clear hf hp
              refine stepAt_on 59 false (by kernel_rfl) h59 ?_
              exact stepOK_pure (.int .i64 (M : Int)) (execLenHs w1 rfl (by assumption)) rfl
            refine ⟨fun t w1 hf hk hp => ?_, ?_⟩
            · have h62 : slot t 62 = .int .i64 (M : Int) := hp 62 (by kernel_rfl)
              have h59 : slot t 59 = .bool false := hp 59 (by kernel_rfl)
              clear hf hp
              refine stepAt_on 59 false (by kernel_rfl) h59 ?_
              exact stepOK_pure (.int .i64 (M1 : Int)) (HP.out w1 rfl h62) rfl
            refine ⟨fun t w1 hf hk hp => ?_, ?_⟩
            · have h60 : slot t 60 = .slice (some q9) M c9 := hp 60 (by kernel_rfl)
              have h63 : slot t 63 = .int .i64 (M1 : Int) := hp 63 (by kernel_rfl)
              have h59 : slot t 59 = .bool false := hp 59 (by kernel_rfl)
              clear hf hp
              refine stepAt_on 59 false (by kernel_rfl) h59 ?_
              exact stepOK_pure (.pointer (some (q9.add (M1 * 32)))) (execIndexH q9 M c9 M1 hM1l w1 rfl h60 h63) rfl
            refine ⟨fun t w1 hf hk hp => ?_, ?_⟩
            · have h64 : slot t 64 = .pointer (some (q9.add (M1 * 32))) := hp 64 (by kernel_rfl)
              have h59 : slot t 59 = .bool false := hp 59 (by kernel_rfl)
              clear hf hp
              refine stepAt_on 59 false (by kernel_rfl) h59 ?_
              have hq0 := hld.out w1 hk
              exact stepOK_sem (.agg (bC 32 a0)) (by simp only [execOp, evS, h64]) hq0 rfl
            refine ⟨fun t w1 hf hk hp => ?_, ?_⟩
            · have h3 : slot t 3 = .pointer (some ⟨w.heap.size, 0, none⟩) := hf 3 (by kernel_rfl)
              have h59 : slot t 59 = .bool false := hp 59 (by kernel_rfl)
              clear hf hp
              refine stepAt_on 59 false (by kernel_rfl) h59 ?_
              exact stepOK_pure (.agg (bC 32 a0)) (load_h rfl h3 (R3w.out.kept hk)) rfl
            refine ⟨fun t w1 hf hk hp => ?_, ?_⟩
            · have h65 : slot t 65 = .agg (bC 32 a0) := hp 65 (by kernel_rfl)
              have h66 : slot t 66 = .agg (bC 32 a0) := hp 66 (by kernel_rfl)
              have h59 : slot t 59 = .bool false := hp 59 (by kernel_rfl)
              clear hf hp
              refine stepAt_on 59 false (by kernel_rfl) h59 ?_
              exact stepOK_pure (.bool false) (execNeSelf a0 hl0 w1 rfl h65 h66) rfl
            refine ⟨fun t w1 hf hk hp => ?_, ?_⟩
            · have h59 : slot t 59 = .bool false := hp 59 (by kernel_rfl)
              have h67 : slot t 67 = .bool false := hp 67 (by kernel_rfl)
              clear hf hp
              refine stepAt_plain rfl ?_
              refine stepOK_pure (.bool false) ?_ rfl
              simp only [execOp, evS, h59, h67]
              go_simp
            exact trivial
          · intro t w1 hsz hf hk hfacts
            have h68 : slot t 68 = .bool false := hfacts 24 _ rfl 68 rfl
            have h3 : slot t 3 = .pointer (some ⟨w.heap.size, 0, none⟩) := hf 3 (by kernel_rfl)
            have h7 : slot t 7 = .slice (some qv) n cv := hf 7 (by kernel_rfl)
            have h9 : slot t 9 = .slice (some q9) M c9 := hf 9 (by kernel_rfl)
            have h0 := hf 0 (by kernel_rfl)
            conv at h0 => rhs; whnf
            try change slot t 0 = undef at h0
            have h1 := hf 1 (by kernel_rfl)
            conv at h1 => rhs; whnf
            try change slot t 1 = undef at h1
            have h2 := hf 2 (by kernel_rfl)
            conv at h2 => rhs; whnf
            try change slot t 2 = undef at h2
            have h4 := hf 4 (by kernel_rfl)
            conv at h4 => rhs; whnf
            try change slot t 4 = undef at h4
            have h5 := hf 5 (by kernel_rfl)
            conv at h5 => rhs; whnf
            try change slot t 5 = undef at h5
            have h6 := hf 6 (by kernel_rfl)
            conv at h6 => rhs; whnf
            try change slot t 6 = undef at h6
            have h8 := hf 8 (by kernel_rfl)
            conv at h8 => rhs; whnf
            try change slot t 8 = undef at h8
            have h10 := hf 10 (by kernel_rfl)
            conv at h10 => rhs; whnf
            try change slot t 10 = undef at h10
            have h11 := hf 11 (by kernel_rfl)
            conv at h11 => rhs; whnf
            try change slot t 11 = undef at h11
            have h12 := hf 12 (by kernel_rfl)
            conv at h12 => rhs; whnf
            try change slot t 12 = undef at h12
            have h13 := hf 13 (by kernel_rfl)
            conv at h13 => rhs; whnf
            try change slot t 13 = undef at h13
            have h14 := hf 14 (by kernel_rfl)
            conv at h14 => rhs; whnf
            try change slot t 14 = undef at h14
            have h15 := hf 15 (by kernel_rfl)
            conv at h15 => rhs; whnf
            try change slot t 15 = undef at h15
            have h16 := hf 16 (by kernel_rfl)
            conv at h16 => rhs; whnf
            try change slot t 16 = undef at h16
            have h17 := hf 17 (by kernel_rfl)
            conv at h17 => rhs; whnf
            try change slot t 17 = undef at h17
            have h18 := hf 18 (by kernel_rfl)
            conv at h18 => rhs; whnf
            try change slot t 18 = undef at h18
            have h19 := hf 19 (by kernel_rfl)
            conv at h19 => rhs; whnf
            try change slot t 19 = undef at h19
            have h20 := hf 20 (by kernel_rfl)
            conv at h20 => rhs; whnf
            try change slot t 20 = undef at h20
            have h21 := hf 21 (by kernel_rfl)
            conv at h21 => rhs; whnf
            try change slot t 21 = undef at h21
            have h22 := hf 22 (by kernel_rfl)
            conv at h22 => rhs; whnf
            try change slot t 22 = undef at h22
            have h23 := hf 23 (by kernel_rfl)
            conv at h23 => rhs; whnf
            try change slot t 23 = undef at h23
            have h24 := hf 24 (by kernel_rfl)
            conv at h24 => rhs; whnf
            try change slot t 24 = undef at h24
            have h25 := hf 25 (by kernel_rfl)
            conv at h25 => rhs; whnf
            try change slot t 25 = undef at h25
            have h26 := hf 26 (by kernel_rfl)
            conv at h26 => rhs; whnf
            try change slot t 26 = undef at h26
            have h27 := hf 27 (by kernel_rfl)
            conv at h27 => rhs; whnf
            try change slot t 27 = undef at h27
            have h28 := hf 28 (by kernel_rfl)
            conv at h28 => rhs; whnf
            try change slot t 28 = undef at h28
            have h29 := hf 29 (by kernel_rfl)
            conv at h29 => rhs; whnf
            try change slot t 29 = undef at h29
            have h30 := hf 30 (by kernel_rfl)
            conv at h30 => rhs; whnf
            try change slot t 30 = undef at h30
            have h31 := hf 31 (by kernel_rfl)
            conv at h31 => rhs; whnf
            try change slot t 31 = undef at h31
            have h32 := hf 32 (by kernel_rfl)
            conv at h32 => rhs; whnf
            try change slot t 32 = undef at h32
            have h33 := hf 33 (by kernel_rfl)
            conv at h33 => rhs; whnf
            try change slot t 33 = undef at h33
            have h34 := hf 34 (by kernel_rfl)
            conv at h34 => rhs; whnf
            try change slot t 34 = undef at h34
            have h35 := hf 35 (by kernel_rfl)
            conv at h35 => rhs; whnf
            try change slot t 35 = undef at h35
            have h36 := hf 36 (by kernel_rfl)
            conv at h36 => rhs; whnf
            try change slot t 36 = undef at h36
            have h37 := hf 37 (by kernel_rfl)
            conv at h37 => rhs; whnf
            try change slot t 37 = undef at h37
            have h38 := hf 38 (by kernel_rfl)
            conv at h38 => rhs; whnf
            try change slot t 38 = undef at h38
            have h39 := hf 39 (by kernel_rfl)
            conv at h39 => rhs; whnf
            try change slot t 39 = undef at h39
            have h40 := hf 40 (by kernel_rfl)
            conv at h40 => rhs; whnf
            try change slot t 40 = undef at h40
            have h41 := hf 41 (by kernel_rfl)
            conv at h41 => rhs; whnf
            try change slot t 41 = undef at h41
            have h42 := hf 42 (by kernel_rfl)
            conv at h42 => rhs; whnf
            try change slot t 42 = undef at h42
            have h43 := hf 43 (by kernel_rfl)
            conv at h43 => rhs; whnf
            try change slot t 43 = undef at h43
            have h69 := hf 69 (by kernel_rfl)
            conv at h69 => rhs; whnf
            try change slot t 69 = undef at h69
            have h70 := hf 70 (by kernel_rfl)
            conv at h70 => rhs; whnf
            try change slot t 70 = undef at h70
            have h71 := hf 71 (by kernel_rfl)
            conv at h71 => rhs; whnf
            try change slot t 71 = undef at h71
            have h72 := hf 72 (by kernel_rfl)
            conv at h72 => rhs; whnf
            try change slot t 72 = undef at h72
            have h73 := hf 73 (by kernel_rfl)
            conv at h73 => rhs; whnf
            try change slot t 73 = undef at h73
            have h74 := hf 74 (by kernel_rfl)
            conv at h74 => rhs; whnf
            try change slot t 74 = undef at h74
            have h75 := hf 75 (by kernel_rfl)
            conv at h75 => rhs; whnf
            try change slot t 75 = undef at h75
            have h76 := hf 76 (by kernel_rfl)
            conv at h76 => rhs; whnf
            try change slot t 76 = undef at h76
            have h77 := hf 77 (by kernel_rfl)
            conv at h77 => rhs; whnf
            try change slot t 77 = undef at h77
            have h78 := hf 78 (by kernel_rfl)
            conv at h78 => rhs; whnf
            try change slot t 78 = undef at h78
            have h79 := hf 79 (by kernel_rfl)
            conv at h79 => rhs; whnf
            try change slot t 79 = undef at h79
            have h80 := hf 80 (by kernel_rfl)
            conv at h80 => rhs; whnf
            try change slot t 80 = undef at h80
            have h81 := hf 81 (by kernel_rfl)
            conv at h81 => rhs; whnf
            try change slot t 81 = undef at h81
            have h82 := hf 82 (by kernel_rfl)
            conv at h82 => rhs; whnf
            try change slot t 82 = undef at h82
            have h83 := hf 83 (by kernel_rfl)
            conv at h83 => rhs; whnf
            try change slot t 83 = undef at h83
            have h84 := hf 84 (by kernel_rfl)
            conv at h84 => rhs; whnf
            try change slot t 84 = undef at h84
            have h85 := hf 85 (by kernel_rfl)
            conv at h85 => rhs; whnf
            try change slot t 85 = undef at h85
            have h86 := hf 86 (by kernel_rfl)
            conv at h86 => rhs; whnf
            try change slot t 86 = undef at h86
            have h87 := hf 87 (by kernel_rfl)
            conv at h87 => rhs; whnf
            try change slot t 87 = undef at h87
            have h88 := hf 88 (by kernel_rfl)
            conv at h88 => rhs; whnf
            try change slot t 88 = undef at h88
            have h89 := hf 89 (by kernel_rfl)
            conv at h89 => rhs; whnf
            try change slot t 89 = undef at h89
            have h90 := hf 90 (by kernel_rfl)
            conv at h90 => rhs; whnf
            try change slot t 90 = undef at h90
            have h91 := hf 91 (by kernel_rfl)
            conv at h91 => rhs; whnf
            try change slot t 91 = undef at h91
            have h92 := hf 92 (by kernel_rfl)
            conv at h92 => rhs; whnf
            try change slot t 92 = undef at h92
            have h93 := hf 93 (by kernel_rfl)
            conv at h93 => rhs; whnf
            try change slot t 93 = undef at h93
            have h94 := hf 94 (by kernel_rfl)
            conv at h94 => rhs; whnf
            try change slot t 94 = undef at h94
            have h95 := hf 95 (by kernel_rfl)
            conv at h95 => rhs; whnf
            try change slot t 95 = undef at h95
            have h96 := hf 96 (by kernel_rfl)
            conv at h96 => rhs; whnf
            try change slot t 96 = undef at h96
            have h97 := hf 97 (by kernel_rfl)
            conv at h97 => rhs; whnf
            try change slot t 97 = undef at h97
            have h98 := hf 98 (by kernel_rfl)
            conv at h98 => rhs; whnf
            try change slot t 98 = undef at h98
            have h99 := hf 99 (by kernel_rfl)
            conv at h99 => rhs; whnf
            try change slot t 99 = undef at h99
            have h100 := hf 100 (by kernel_rfl)
            conv at h100 => rhs; whnf
            try change slot t 100 = undef at h100
            have h101 := hf 101 (by kernel_rfl)
            conv at h101 => rhs; whnf
            try change slot t 101 = undef at h101
            have h102 := hf 102 (by kernel_rfl)
            conv at h102 => rhs; whnf
            try change slot t 102 = undef at h102
            have h103 := hf 103 (by kernel_rfl)
            conv at h103 => rhs; whnf
            try change slot t 103 = undef at h103
            have h104 := hf 104 (by kernel_rfl)
            conv at h104 => rhs; whnf
            try change slot t 104 = undef at h104
            have h105 := hf 105 (by kernel_rfl)
            conv at h105 => rhs; whnf
            try change slot t 105 = undef at h105
            have h106 := hf 106 (by kernel_rfl)
            conv at h106 => rhs; whnf
            try change slot t 106 = undef at h106
            have h107 := hf 107 (by kernel_rfl)
            conv at h107 => rhs; whnf
            try change slot t 107 = undef at h107
            have h108 := hf 108 (by kernel_rfl)
            conv at h108 => rhs; whnf
            try change slot t 108 = undef at h108
            have h109 := hf 109 (by kernel_rfl)
            conv at h109 => rhs; whnf
            try change slot t 109 = undef at h109
            have h110 := hf 110 (by kernel_rfl)
            conv at h110 => rhs; whnf
            try change slot t 110 = undef at h110
            have h111 := hf 111 (by kernel_rfl)
            conv at h111 => rhs; whnf
            try change slot t 111 = undef at h111
            have h112 := hf 112 (by kernel_rfl)
            conv at h112 => rhs; whnf
            try change slot t 112 = undef at h112
            have h113 := hf 113 (by kernel_rfl)
            conv at h113 => rhs; whnf
            try change slot t 113 = undef at h113
            have h114 := hf 114 (by kernel_rfl)
            conv at h114 => rhs; whnf
            try change slot t 114 = undef at h114
            have h115 := hf 115 (by kernel_rfl)
            conv at h115 => rhs; whnf
            try change slot t 115 = undef at h115
            have h116 := hf 116 (by kernel_rfl)
            conv at h116 => rhs; whnf
            try change slot t 116 = undef at h116
            have h117 := hf 117 (by kernel_rfl)
            conv at h117 => rhs; whnf
            try change slot t 117 = undef at h117
            have h118 := hf 118 (by kernel_rfl)
            conv at h118 => rhs; whnf
            try change slot t 118 = undef at h118
            have h119 := hf 119 (by kernel_rfl)
            conv at h119 => rhs; whnf
            try change slot t 119 = undef at h119
            have harr : t = #[slot t 0, slot t 1, slot t 2, slot t 3, slot t 4, slot t 5, slot t 6, slot t 7, slot t 8, slot t 9, slot t 10, slot t 11, slot t 12, slot t 13, slot t 14, slot t 15, slot t 16, slot t 17, slot t 18, slot t 19, slot t 20, slot t 21, slot t 22, slot t 23, slot t 24, slot t 25, slot t 26, slot t 27, slot t 28, slot t 29, slot t 30, slot t 31, slot t 32, slot t 33, slot t 34, slot t 35, slot t 36, slot t 37, slot t 38, slot t 39, slot t 40, slot t 41, slot t 42, slot t 43, slot t 44, slot t 45, slot t 46, slot t 47, slot t 48, slot t 49, slot t 50, slot t 51, slot t 52, slot t 53, slot t 54, slot t 55, slot t 56, slot t 57, slot t 58, slot t 59, slot t 60, slot t 61, slot t 62, slot t 63, slot t 64, slot t 65, slot t 66, slot t 67, slot t 68, slot t 69, slot t 70, slot t 71, slot t 72, slot t 73, slot t 74, slot t 75, slot t 76, slot t 77, slot t 78, slot t 79, slot t 80, slot t 81, slot t 82, slot t 83, slot t 84, slot t 85, slot t 86, slot t 87, slot t 88, slot t 89, slot t 90, slot t 91, slot t 92, slot t 93, slot t 94, slot t 95, slot t 96, slot t 97, slot t 98, slot t 99, slot t 100, slot t 101, slot t 102, slot t 103, slot t 104, slot t 105, slot t 106, slot t 107, slot t 108, slot t 109, slot t 110, slot t 111, slot t 112, slot t 113, slot t 114, slot t 115, slot t 116, slot t 117, slot t 118, slot t 119] := arr_eq t 120 hsz
            rw [harr, h68, h3, h7, h9, h0, h1, h2, h4, h5, h6, h8, h10, h11, h12, h13, h14, h15, h16, h17, h18, h19, h20, h21, h22, h23, h24, h25, h26, h27, h28, h29, h30, h31, h32, h33, h34, h35, h36, h37, h38, h39, h40, h41, h42, h43, h69, h70, h71, h72, h73, h74, h75, h76, h77, h78, h79, h80, h81, h82, h83, h84, h85, h86, h87, h88, h89, h90, h91, h92, h93, h94, h95, h96, h97, h98, h99, h100, h101, h102, h103, h104, h105, h106, h107, h108, h109, h110, h111, h112, h113, h114, h115, h116, h117, h118, h119]
            clear harr hfacts hf h68 h3 h7 h9 h0 h1 h2 h4 h5 h6 h8 h10 h11 h12 h13 h14 h15 h16 h17 h18 h19 h20 h21 h22 h23 h24 h25 h26 h27 h28 h29 h30 h31 h32 h33 h34 h35 h36 h37 h38 h39 h40 h41 h42 h43 h69 h70 h71 h72 h73 h74 h75 h76 h77 h78 h79 h80 h81 h82 h83 h84 h85 h86 h87 h88 h89 h90 h91 h92 h93 h94 h95 h96 h97 h98 h99 h100 h101 h102 h103 h104 h105 h106 h107 h108 h109 h110 h111 h112 h113 h114 h115 h116 h117 h118 h119
            generalize slot t 44 = x44; generalize slot t 45 = x45; generalize slot t 46 = x46; generalize slot t 47 = x47; generalize slot t 48 = x48; generalize slot t 49 = x49; generalize slot t 50 = x50; generalize slot t 51 = x51; generalize slot t 52 = x52; generalize slot t 53 = x53; generalize slot t 54 = x54; generalize slot t 55 = x55
            generalize slot t 56 = x56; generalize slot t 57 = x57; generalize slot t 58 = x58; generalize slot t 59 = x59; generalize slot t 60 = x60; generalize slot t 61 = x61; generalize slot t 62 = x62; generalize slot t 63 = x63; generalize slot t 64 = x64; generalize slot t 65 = x65; generalize slot t 66 = x66; generalize slot t 67 = x67
            clear hsz t
            replace KW := Lib.hid (KW.out.trans hk)
            replace HV := Lib.hid (HV.out.kept hk)
            replace H9 := Lib.hid (H9.out.kept hk)
            clear hk hld HP R3w d1 d2 d2' d3 d3' d3''
            obtain ⟨v6, hv6⟩ : ∃ v6, v6 = w1 := ⟨_, rfl⟩
            subst hv6
            go_wp2_with fail
            go_loopw [10] (fun i wx => ∃ m : Nat, m ≤ 257 ∧ i = .int .i64 (m : Int) ∧ Hid (Kept v6 wx)) (fun i _ => 257 - (intOf i).toNat)
            case atStart => exact ⟨0, by omega, rfl, Lib.hid (Kept.refl _)⟩
            case round =>
              obtain ⟨m, hm, rfl, KI⟩ := hrel
              by_cases hm1 : m < 257
              · have dm : decide ((m : Int) < 257) = true := decide_eq_true (by omega)
                have dm' : decide (m < 257) = true := decide_eq_true hm1
                have E1 := Lib.hid (HEv.out m wr hm (HV.out.kept KI.out))
                go_wp2_with fail
                refine E1.out.mono ?_
                rintro e u1 ⟨rfl, k1⟩
                have E2 : Hid (∀ u, HAt u (some q9) M G → _) := Lib.hid fun u hu => interEntry_any M G (.slice (some q9) M c9) u (m : Int) ⟨some q9, c9, rfl, hs1, hs2, hu⟩ (by have := HMa.out; omega) (by omega) (by omega)
                have hl13 := HEl.out m
                obtain ⟨X11, hX11⟩ : ∃ X, X = enF F n (m : Int) := ⟨_, rfl⟩
                obtain ⟨X13, hX13⟩ : ∃ X, X = enF G M (m : Int) := ⟨_, rfl⟩
                rw [← hX13] at E2 hl13
                have hX13q : Hid (X13 = enF (nxF F n (F1 k) (lvlC (I2 k))) (nxN n (lvlC (I2 k))) (m : Int)) := Lib.hid (by rw [hX13, hG.out, hM.out])
                rw [← hX11]
                replace hX11 := Lib.hid hX11
                clear hX13 E1
                generalize enB n (m : Int) = b11
                generalize enB M (m : Int) = b13 at E2
                have KB := Lib.hid (KI.out.trans k1)
                clear k1 KI
                go_wp2_with (first
                  | (refine wpList_store_made rfl 24 _ _ rfl _ _ (bC 32 X11) rfl rfl 24 _ rfl (info_hash _) (by simp [bC_size]) (bC_one _ _) ?_; intro u2 R11 k2))
                obtain ⟨g11, hg11⟩ : ∃ g, g = u1.heap.size := ⟨_, rfl⟩
                rw [← hg11] at R11 ⊢
                clear hg11
                replace KB := Lib.hid (KB.out.trans k2.out)
                clear k2
                refine (E2.out _ (H9.out.kept KB.out)).mono ?_
                rintro e u3 ⟨rfl, k3⟩
                replace R11 := Lib.hid (R11.out.kept k3)
                replace KB := Lib.hid (KB.out.trans k3)
                clear k3 E2
                go_wp2_with (refine wpList_store_made rfl 24 _ _ rfl _ _ (bC 32 X13) rfl rfl 24 _ rfl (info_hash _) (by simp [bC_size]) (bC_one _ _) ?_; intro u4 R13 k4)
                obtain ⟨g13, hg13⟩ : ∃ g, g = u3.heap.size := ⟨_, rfl⟩
                rw [← hg13] at R13 ⊢
                clear hg13
                replace R11 := Lib.hid (R11.out.kept k4.out)
                replace KB := Lib.hid (KB.out.trans k4.out)
                clear k4
                have HIu := Lib.hid (HI.out.kept (KW.out.trans KB.out))
                have HFu := Lib.hid (HF1.out.kept (KW.out.trans KB.out))
                obtain ⟨mx, hmx⟩ : ∃ mx, mx = max (I2 k) 0 := ⟨_, rfl⟩
                have hmx0 := Lib.hid hmx
                have hm255 : m < 257 := hm1
                clear hmx
                rcases (show ((m : Int) ≤ mx ∧ m ≤ 255) ∨ ((m : Int) ≤ mx ∧ ¬ m ≤ 255) ∨ ¬ (m : Int) ≤ mx from by omega) with ⟨c1, c2⟩ | ⟨c1, c2⟩ | c1
                · have g1 : decide ((m : Int) ≤ mx) = true := decide_eq_true c1
                  have g2 : decide ((m : Int) ≤ 255) = true := decide_eq_true (by omega)
                  have g2' : decide (m ≤ 255) = true := decide_eq_true c2
                  have g3 : decide ((m : Int) > mx) = false := decide_eq_false (by omega)
                  have g3' : decide (mx < (m : Int)) = false := decide_eq_false (by omega)
                  have hE : Hid (X13 = F1 k) := Lib.hid (by rw [hX13q.out]; exact en_low F n (F1 k) (I2 k) m HN.out.1 (by rw [← hmx0.out]; exact c1) c2)
                  have hld : Hid (∀ u, Kept u4 u → (Instr.loadAt 24 (.pointer (some (q1.add (k * 32))))).run Try.prog u = .ok (.agg (bC 32 X13)) u) := Lib.hid fun u hu => by rw [hE.out]; exact (HFu.out.kept hu).load k hk1
                  clear hE c1 c2 hX11 hX13q
                  refine wp_region_table [(85, .is (.int .i64 (m : Int))), (86, .is (.slice (some q2) n2 c2)), (87, .is (.int .i64 (k : Int))), (88, .is (.pointer (some (q2.add k)))), (89, .is (.int .i64 (I2 k))), (90, .is (.int .i64 mx)), (91, .is (.bool true)), (92, .is (.bool true)), (93, .is (.int .i64 (m : Int))), (94, .is (.bool true)), (95, .is (.bool true)), (96, .is (.bool true)), (97, .is (.agg (bC 32 X13))), (98, .is (.slice (some q1) n1 c1)), (99, .is (.int .i64 (k : Int))), (100, .is (.pointer (some (q1.add (k * 32))))), (101, .is (.agg (bC 32 X13))), (102, .is (.bool false)), (103, .is (.bool false)), (104, .is (.bool false)), (105, .is (.int .i64 (m : Int))), (106, .is (.slice (some q2) n2 c2)), (107, .is (.int .i64 (k : Int))), (108, .is (.pointer (some (q2.add k)))), (109, .is (.int .i64 (I2 k))), (110, .is (.int .i64 mx)), (111, .is (.bool false)), (112, .is (.bool false)), (113, .is (undef)), (114, .is (undef)), (115, .is (undef)), (116, .is (.bool false)), (117, .is (.bool false))] (by kernel_rfl) (by kernel_rfl) ?_ ?_
                  · refine ⟨fun t w1 hf hk hp => ?_, ?_⟩
                    · have h10 : slot t 10 = .int .i64 (m : Int) := hf 10 (by kernel_rfl)
                      clear hf hp
                      refine stepAt_plain rfl ?_
                      exact stepOK_move _ (.inl rfl) h10
                    refine ⟨fun t w1 hf hk hp => ?_, ?_⟩
                    · have h2 : slot t 2 = .slice (some q2) n2 c2 := hf 2 (by kernel_rfl)
                      clear hf hp
                      refine stepAt_plain rfl ?_
                      exact stepOK_move _ (.inl rfl) h2
                    refine ⟨fun t w1 hf hk hp => ?_, ?_⟩
                    · have h8 : slot t 8 = .int .i64 (k : Int) := hf 8 (by kernel_rfl)
                      clear hf hp
                      refine stepAt_plain rfl ?_
                      exact stepOK_move _ (.inl rfl) h8
                    refine ⟨fun t w1 hf hk hp => ?_, ?_⟩
                    · have h86 : slot t 86 = .slice (some q2) n2 c2 := hp 86 (by kernel_rfl)
                      have h87 : slot t 87 = .int .i64 (k : Int) := hp 87 (by kernel_rfl)
                      clear hf hp
                      refine stepAt_plain rfl ?_
                      exact stepOK_pure (.pointer (some (q2.add k))) (execIndexI20 q2 n2 c2 k hk2 w1 rfl (by assumption) (by assumption)) rfl
                    refine ⟨fun t w1 hf hk hp => ?_, ?_⟩
                    · have h88 : slot t 88 = .pointer (some (q2.add k)) := hp 88 (by kernel_rfl)
                      clear hf hp
                      refine stepAt_plain rfl ?_
                      have hq0 := run_loadI20 ((HIu.out.kept hk).cell k hk2)
                      exact stepOK_sem (.int .i64 (I2 k)) (by simp only [execOp, evS, h88]) hq0 rfl
                    refine ⟨fun t w1 hf hk hp => ?_, ?_⟩
                    · have h89 : slot t 89 = .int .i64 (I2 k) := hp 89 (by kernel_rfl)
                      clear hf hp
                      refine stepAt_plain rfl ?_
                      exact stepOK_pure (.int .i64 mx) (execMax0 (I2 k) mx hmx0.out w1 rfl (by assumption)) rfl
                    refine ⟨fun t w1 hf hk hp => ?_, ?_⟩
                    · have h85 : slot t 85 = .int .i64 (m : Int) := hp 85 (by kernel_rfl)
                      have h90 : slot t 90 = .int .i64 mx := hp 90 (by kernel_rfl)
                      clear hf hp
                      refine stepAt_plain rfl ?_
                      refine stepOK_pure (.bool true) ?_ rfl
                      simp only [execOp, evS, h85, h90]
                      go_simp
                    refine ⟨fun t w1 hf hk hp => ?_, ?_⟩
                    · have h91 : slot t 91 = .bool true := hp 91 (by kernel_rfl)
                      clear hf hp
                      refine stepAt_plain rfl ?_
                      exact stepOK_move _ (.inl rfl) h91
                    refine ⟨fun t w1 hf hk hp => ?_, ?_⟩
                    · have h10 : slot t 10 = .int .i64 (m : Int) := hf 10 (by kernel_rfl)
                      have h92 : slot t 92 = .bool true := hp 92 (by kernel_rfl)
                      clear hf hp
                      refine stepAt_on 92 true (by kernel_rfl) h92 ?_
                      exact stepOK_move _ (.inl rfl) h10
                    refine ⟨fun t w1 hf hk hp => ?_, ?_⟩
                    · have h93 : slot t 93 = .int .i64 (m : Int) := hp 93 (by kernel_rfl)
                      have h92 : slot t 92 = .bool true := hp 92 (by kernel_rfl)
                      clear hf hp
                      refine stepAt_on 92 true (by kernel_rfl) h92 ?_
                      refine stepOK_pure (.bool true) ?_ rfl
                      simp only [execOp, evS, h93]
                      go_simp
                    refine ⟨fun t w1 hf hk hp => ?_, ?_⟩
                    · have h92 : slot t 92 = .bool true := hp 92 (by kernel_rfl)
                      have h94 : slot t 94 = .bool true := hp 94 (by kernel_rfl)
                      clear hf hp
                      refine stepAt_plain rfl ?_
                      refine stepOK_pure (.bool true) ?_ rfl
                      simp only [execOp, evS, h92, h94]
                      go_simp
                    refine ⟨fun t w1 hf hk hp => ?_, ?_⟩
                    · have h95 : slot t 95 = .bool true := hp 95 (by kernel_rfl)
                      clear hf hp
                      refine stepAt_plain rfl ?_
                      exact stepOK_move _ (.inl rfl) h95
                    refine ⟨fun t w1 hf hk hp => ?_, ?_⟩
                    · have h13 : slot t 13 = .pointer (some ⟨g13, 0, none⟩) := hf 13 (by kernel_rfl)
                      have h96 : slot t 96 = .bool true := hp 96 (by kernel_rfl)
                      clear hf hp
                      refine stepAt_on 96 true (by kernel_rfl) h96 ?_
                      exact stepOK_pure (.agg (bC 32 X13)) (load_h rfl h13 (R13.out.kept hk)) rfl
                    refine ⟨fun t w1 hf hk hp => ?_, ?_⟩
                    · have h1 : slot t 1 = .slice (some q1) n1 c1 := hf 1 (by kernel_rfl)
                      have h96 : slot t 96 = .bool true := hp 96 (by kernel_rfl)
                      clear hf hp
                      refine stepAt_on 96 true (by kernel_rfl) h96 ?_
                      exact stepOK_move _ (.inl rfl) h1
                    refine ⟨fun t w1 hf hk hp => ?_, ?_⟩
                    · have h8 : slot t 8 = .int .i64 (k : Int) := hf 8 (by kernel_rfl)
                      have h96 : slot t 96 = .bool true := hp 96 (by kernel_rfl)
                      clear hf hp
                      refine stepAt_on 96 true (by kernel_rfl) h96 ?_
                      exact stepOK_move _ (.inl rfl) h8
                    refine ⟨fun t w1 hf hk hp => ?_, ?_⟩
                    · have h98 : slot t 98 = .slice (some q1) n1 c1 := hp 98 (by kernel_rfl)
                      have h99 : slot t 99 = .int .i64 (k : Int) := hp 99 (by kernel_rfl)
                      have h96 : slot t 96 = .bool true := hp 96 (by kernel_rfl)
                      clear hf hp
                      refine stepAt_on 96 true (by kernel_rfl) h96 ?_
                      exact stepOK_pure (.pointer (some (q1.add (k * 32)))) (execIndexH q1 n1 c1 k hk1 w1 rfl h98 h99) rfl
                    refine ⟨fun t w1 hf hk hp => ?_, ?_⟩
                    · have h100 : slot t 100 = .pointer (some (q1.add (k * 32))) := hp 100 (by kernel_rfl)
                      have h96 : slot t 96 = .bool true := hp 96 (by kernel_rfl)
                      clear hf hp
                      refine stepAt_on 96 true (by kernel_rfl) h96 ?_
                      have hq0 := hld.out w1 hk
                      exact stepOK_sem (.agg (bC 32 X13)) (by simp only [execOp, evS, h100]) hq0 rfl
                    refine ⟨fun t w1 hf hk hp => ?_, ?_⟩
                    · have h97 : slot t 97 = .agg (bC 32 X13) := hp 97 (by kernel_rfl)
                      have h101 : slot t 101 = .agg (bC 32 X13) := hp 101 (by kernel_rfl)
                      have h96 : slot t 96 = .bool true := hp 96 (by kernel_rfl)
                      clear hf hp
                      refine stepAt_on 96 true (by kernel_rfl) h96 ?_
                      exact stepOK_pure (.bool false) (execNeSelf X13 hl13 w1 rfl h97 h101) rfl
                    refine ⟨fun t w1 hf hk hp => ?_, ?_⟩
                    · have h96 : slot t 96 = .bool true := hp 96 (by kernel_rfl)
                      have h102 : slot t 102 = .bool false := hp 102 (by kernel_rfl)
                      clear hf hp
                      refine stepAt_plain rfl ?_
                      refine stepOK_pure (.bool false) ?_ rfl
                      simp only [execOp, evS, h96, h102]
                      go_simp
                    refine ⟨fun t w1 hf hk hp => ?_, ?_⟩
                    · have h103 : slot t 103 = .bool false := hp 103 (by kernel_rfl)
                      clear hf hp
                      refine stepAt_plain rfl ?_
                      exact stepOK_move _ (.inl rfl) h103
                    refine ⟨fun t w1 hf hk hp => ?_, ?_⟩
                    · have h10 : slot t 10 = .int .i64 (m : Int) := hf 10 (by kernel_rfl)
                      have h104 : slot t 104 = .bool false := hp 104 (by kernel_rfl)
                      clear hf hp
                      refine stepAt_on 104 false (by kernel_rfl) h104 ?_
                      exact stepOK_move _ (.inl rfl) h10
                    refine ⟨fun t w1 hf hk hp => ?_, ?_⟩
                    · have h2 : slot t 2 = .slice (some q2) n2 c2 := hf 2 (by kernel_rfl)
                      have h104 : slot t 104 = .bool false := hp 104 (by kernel_rfl)
                      clear hf hp
                      refine stepAt_on 104 false (by kernel_rfl) h104 ?_
                      exact stepOK_move _ (.inl rfl) h2
                    refine ⟨fun t w1 hf hk hp => ?_, ?_⟩
                    · have h8 : slot t 8 = .int .i64 (k : Int) := hf 8 (by kernel_rfl)
                      have h104 : slot t 104 = .bool false := hp 104 (by kernel_rfl)
                      clear hf hp
                      refine stepAt_on 104 false (by kernel_rfl) h104 ?_
                      exact stepOK_move _ (.inl rfl) h8
                    refine ⟨fun t w1 hf hk hp => ?_, ?_⟩
                    · have h106 : slot t 106 = .slice (some q2) n2 c2 := hp 106 (by kernel_rfl)
                      have h107 : slot t 107 = .int .i64 (k : Int) := hp 107 (by kernel_rfl)
                      have h104 : slot t 104 = .bool false := hp 104 (by kernel_rfl)
                      clear hf hp
                      refine stepAt_on 104 false (by kernel_rfl) h104 ?_
                      exact stepOK_pure (.pointer (some (q2.add k))) (execIndexI20 q2 n2 c2 k hk2 w1 rfl (by assumption) (by assumption)) rfl
                    refine ⟨fun t w1 hf hk hp => ?_, ?_⟩
                    · have h108 : slot t 108 = .pointer (some (q2.add k)) := hp 108 (by kernel_rfl)
                      have h104 : slot t 104 = .bool false := hp 104 (by kernel_rfl)
                      clear hf hp
                      refine stepAt_on 104 false (by kernel_rfl) h104 ?_
                      have hq0 := run_loadI20 ((HIu.out.kept hk).cell k hk2)
                      exact stepOK_sem (.int .i64 (I2 k)) (by simp only [execOp, evS, h108]) hq0 rfl
                    refine ⟨fun t w1 hf hk hp => ?_, ?_⟩
                    · have h109 : slot t 109 = .int .i64 (I2 k) := hp 109 (by kernel_rfl)
                      have h104 : slot t 104 = .bool false := hp 104 (by kernel_rfl)
                      clear hf hp
                      refine stepAt_on 104 false (by kernel_rfl) h104 ?_
                      exact stepOK_pure (.int .i64 mx) (execMax0 (I2 k) mx hmx0.out w1 rfl (by assumption)) rfl
                    refine ⟨fun t w1 hf hk hp => ?_, ?_⟩
                    · have h105 : slot t 105 = .int .i64 (m : Int) := hp 105 (by kernel_rfl)
                      have h110 : slot t 110 = .int .i64 mx := hp 110 (by kernel_rfl)
                      have h104 : slot t 104 = .bool false := hp 104 (by kernel_rfl)
                      clear hf hp
                      refine stepAt_on 104 false (by kernel_rfl) h104 ?_
                      refine stepOK_pure (.bool false) ?_ rfl
                      simp only [execOp, evS, h105, h110]
                      go_simp
                    refine ⟨fun t w1 hf hk hp => ?_, ?_⟩
                    · have h111 : slot t 111 = .bool false := hp 111 (by kernel_rfl)
                      have h104 : slot t 104 = .bool false := hp 104 (by kernel_rfl)
                      clear hf hp
                      refine stepAt_on 104 false (by kernel_rfl) h104 ?_
                      exact stepOK_move _ (.inl rfl) h111
                    refine ⟨fun t w1 hf hk hp => ?_, ?_⟩
                    · have h112 : slot t 112 = .bool false := hp 112 (by kernel_rfl)
                      clear hf hp
                      exact stepAt_off 112 true (by kernel_rfl) h112 rfl
                    refine ⟨fun t w1 hf hk hp => ?_, ?_⟩
                    · have h112 : slot t 112 = .bool false := hp 112 (by kernel_rfl)
                      clear hf hp
                      exact stepAt_off 112 true (by kernel_rfl) h112 rfl
                    refine ⟨fun t w1 hf hk hp => ?_, ?_⟩
                    · have h112 : slot t 112 = .bool false := hp 112 (by kernel_rfl)
                      clear hf hp
                      exact stepAt_off 112 true (by kernel_rfl) h112 rfl
                    refine ⟨fun t w1 hf hk hp => ?_, ?_⟩
                    · have h112 : slot t 112 = .bool false := hp 112 (by kernel_rfl)
                      have h115 : slot t 115 = undef := hp 115 (by kernel_rfl)
                      have h104 : slot t 104 = .bool false := hp 104 (by kernel_rfl)
                      clear hf hp
                      refine stepAt_on 104 false (by kernel_rfl) h104 ?_
                      refine stepOK_pure (.bool false) ?_ rfl
                      simp only [execOp, evS, h112, h115]
                      go_simp
                    refine ⟨fun t w1 hf hk hp => ?_, ?_⟩
                    · have h104 : slot t 104 = .bool false := hp 104 (by kernel_rfl)
                      have h116 : slot t 116 = .bool false := hp 116 (by kernel_rfl)
                      clear hf hp
                      refine stepAt_plain rfl ?_
                      refine stepOK_pure (.bool false) ?_ rfl
                      simp only [execOp, evS, h104, h116]
                      go_simp
                    exact trivial
                  · intro t w1 hsz hf hk hfacts
                    have h117 : slot t 117 = .bool false := hfacts 32 _ rfl 117 rfl
                    have h1 : slot t 1 = .slice (some q1) n1 c1 := hf 1 (by kernel_rfl)
                    have h2 : slot t 2 = .slice (some q2) n2 c2 := hf 2 (by kernel_rfl)
                    have h8 : slot t 8 = .int .i64 (k : Int) := hf 8 (by kernel_rfl)
                    have h10 : slot t 10 = .int .i64 (m : Int) := hf 10 (by kernel_rfl)
                    have h11 : slot t 11 = .pointer (some ⟨g11, 0, none⟩) := hf 11 (by kernel_rfl)
                    have h13 : slot t 13 = .pointer (some ⟨g13, 0, none⟩) := hf 13 (by kernel_rfl)
                    have h0 := hf 0 (by kernel_rfl)
                    conv at h0 => rhs; whnf
                    try change slot t 0 = undef at h0
                    have h3 := hf 3 (by kernel_rfl)
                    conv at h3 => rhs; whnf
                    try change slot t 3 = undef at h3
                    have h4 := hf 4 (by kernel_rfl)
                    conv at h4 => rhs; whnf
                    try change slot t 4 = undef at h4
                    have h5 := hf 5 (by kernel_rfl)
                    conv at h5 => rhs; whnf
                    try change slot t 5 = undef at h5
                    have h6 := hf 6 (by kernel_rfl)
                    conv at h6 => rhs; whnf
                    try change slot t 6 = undef at h6
                    have h7 := hf 7 (by kernel_rfl)
                    conv at h7 => rhs; whnf
                    try change slot t 7 = undef at h7
                    have h9 := hf 9 (by kernel_rfl)
                    conv at h9 => rhs; whnf
                    try change slot t 9 = undef at h9
                    have h12 := hf 12 (by kernel_rfl)
                    conv at h12 => rhs; whnf
                    try change slot t 12 = undef at h12
                    have h14 := hf 14 (by kernel_rfl)
                    conv at h14 => rhs; whnf
                    try change slot t 14 = undef at h14
                    have h15 := hf 15 (by kernel_rfl)
                    conv at h15 => rhs; whnf
                    try change slot t 15 = undef at h15
                    have h16 := hf 16 (by kernel_rfl)
                    conv at h16 => rhs; whnf
                    try change slot t 16 = undef at h16
                    have h17 := hf 17 (by kernel_rfl)
                    conv at h17 => rhs; whnf
                    try change slot t 17 = undef at h17
                    have h18 := hf 18 (by kernel_rfl)
                    conv at h18 => rhs; whnf
                    try change slot t 18 = undef at h18
                    have h19 := hf 19 (by kernel_rfl)
                    conv at h19 => rhs; whnf
                    try change slot t 19 = undef at h19
                    have h20 := hf 20 (by kernel_rfl)
                    conv at h20 => rhs; whnf
                    try change slot t 20 = undef at h20
                    have h21 := hf 21 (by kernel_rfl)
                    conv at h21 => rhs; whnf
                    try change slot t 21 = undef at h21
                    have h22 := hf 22 (by kernel_rfl)
                    conv at h22 => rhs; whnf
                    try change slot t 22 = undef at h22
                    have h23 := hf 23 (by kernel_rfl)
                    conv at h23 => rhs; whnf
                    try change slot t 23 = undef at h23
                    have h24 := hf 24 (by kernel_rfl)
                    conv at h24 => rhs; whnf
                    try change slot t 24 = undef at h24
                    have h25 := hf 25 (by kernel_rfl)
                    conv at h25 => rhs; whnf
                    try change slot t 25 = undef at h25
                    have h26 := hf 26 (by kernel_rfl)
                    conv at h26 => rhs; whnf
                    try change slot t 26 = undef at h26
                    have h27 := hf 27 (by kernel_rfl)
                    conv at h27 => rhs; whnf
                    try change slot t 27 = undef at h27
                    have h28 := hf 28 (by kernel_rfl)
                    conv at h28 => rhs; whnf
                    try change slot t 28 = undef at h28
                    have h29 := hf 29 (by kernel_rfl)
                    conv at h29 => rhs; whnf
                    try change slot t 29 = undef at h29
                    have h30 := hf 30 (by kernel_rfl)
                    conv at h30 => rhs; whnf
                    try change slot t 30 = undef at h30
                    have h31 := hf 31 (by kernel_rfl)
                    conv at h31 => rhs; whnf
                    try change slot t 31 = undef at h31
                    have h32 := hf 32 (by kernel_rfl)
                    conv at h32 => rhs; whnf
                    try change slot t 32 = undef at h32
                    have h33 := hf 33 (by kernel_rfl)
                    conv at h33 => rhs; whnf
                    try change slot t 33 = undef at h33
                    have h34 := hf 34 (by kernel_rfl)
                    conv at h34 => rhs; whnf
                    try change slot t 34 = undef at h34
                    have h35 := hf 35 (by kernel_rfl)
                    conv at h35 => rhs; whnf
                    try change slot t 35 = undef at h35
                    have h36 := hf 36 (by kernel_rfl)
                    conv at h36 => rhs; whnf
                    try change slot t 36 = undef at h36
                    have h37 := hf 37 (by kernel_rfl)
                    conv at h37 => rhs; whnf
                    try change slot t 37 = undef at h37
                    have h38 := hf 38 (by kernel_rfl)
                    conv at h38 => rhs; whnf
                    try change slot t 38 = undef at h38
                    have h39 := hf 39 (by kernel_rfl)
                    conv at h39 => rhs; whnf
                    try change slot t 39 = undef at h39
                    have h40 := hf 40 (by kernel_rfl)
                    conv at h40 => rhs; whnf
                    try change slot t 40 = undef at h40
                    have h41 := hf 41 (by kernel_rfl)
                    conv at h41 => rhs; whnf
                    try change slot t 41 = undef at h41
                    have h42 := hf 42 (by kernel_rfl)
                    conv at h42 => rhs; whnf
                    try change slot t 42 = undef at h42
                    have h43 := hf 43 (by kernel_rfl)
                    conv at h43 => rhs; whnf
                    try change slot t 43 = undef at h43
                    have h44 := hf 44 (by kernel_rfl)
                    conv at h44 => rhs; whnf
                    try change slot t 44 = undef at h44
                    have h45 := hf 45 (by kernel_rfl)
                    conv at h45 => rhs; whnf
                    try change slot t 45 = undef at h45
                    have h46 := hf 46 (by kernel_rfl)
                    conv at h46 => rhs; whnf
                    try change slot t 46 = undef at h46
                    have h47 := hf 47 (by kernel_rfl)
                    conv at h47 => rhs; whnf
                    try change slot t 47 = undef at h47
                    have h48 := hf 48 (by kernel_rfl)
                    conv at h48 => rhs; whnf
                    try change slot t 48 = undef at h48
                    have h49 := hf 49 (by kernel_rfl)
                    conv at h49 => rhs; whnf
                    try change slot t 49 = undef at h49
                    have h50 := hf 50 (by kernel_rfl)
                    conv at h50 => rhs; whnf
                    try change slot t 50 = undef at h50
                    have h51 := hf 51 (by kernel_rfl)
                    conv at h51 => rhs; whnf
                    try change slot t 51 = undef at h51
                    have h52 := hf 52 (by kernel_rfl)
                    conv at h52 => rhs; whnf
                    try change slot t 52 = undef at h52
                    have h53 := hf 53 (by kernel_rfl)
                    conv at h53 => rhs; whnf
                    try change slot t 53 = undef at h53
                    have h54 := hf 54 (by kernel_rfl)
                    conv at h54 => rhs; whnf
                    try change slot t 54 = undef at h54
                    have h55 := hf 55 (by kernel_rfl)
                    conv at h55 => rhs; whnf
                    try change slot t 55 = undef at h55
                    have h56 := hf 56 (by kernel_rfl)
                    conv at h56 => rhs; whnf
                    try change slot t 56 = undef at h56
                    have h57 := hf 57 (by kernel_rfl)
                    conv at h57 => rhs; whnf
                    try change slot t 57 = undef at h57
                    have h58 := hf 58 (by kernel_rfl)
                    conv at h58 => rhs; whnf
                    try change slot t 58 = undef at h58
                    have h59 := hf 59 (by kernel_rfl)
                    conv at h59 => rhs; whnf
                    try change slot t 59 = undef at h59
                    have h60 := hf 60 (by kernel_rfl)
                    conv at h60 => rhs; whnf
                    try change slot t 60 = undef at h60
                    have h61 := hf 61 (by kernel_rfl)
                    conv at h61 => rhs; whnf
                    try change slot t 61 = undef at h61
                    have h62 := hf 62 (by kernel_rfl)
                    conv at h62 => rhs; whnf
                    try change slot t 62 = undef at h62
                    have h63 := hf 63 (by kernel_rfl)
                    conv at h63 => rhs; whnf
                    try change slot t 63 = undef at h63
                    have h64 := hf 64 (by kernel_rfl)
                    conv at h64 => rhs; whnf
                    try change slot t 64 = undef at h64
                    have h65 := hf 65 (by kernel_rfl)
                    conv at h65 => rhs; whnf
                    try change slot t 65 = undef at h65
                    have h66 := hf 66 (by kernel_rfl)
                    conv at h66 => rhs; whnf
                    try change slot t 66 = undef at h66
                    have h67 := hf 67 (by kernel_rfl)
                    conv at h67 => rhs; whnf
                    try change slot t 67 = undef at h67
                    have h68 := hf 68 (by kernel_rfl)
                    conv at h68 => rhs; whnf
                    try change slot t 68 = undef at h68
                    have h69 := hf 69 (by kernel_rfl)
                    conv at h69 => rhs; whnf
                    try change slot t 69 = undef at h69
                    have h70 := hf 70 (by kernel_rfl)
                    conv at h70 => rhs; whnf
                    try change slot t 70 = undef at h70
                    have h71 := hf 71 (by kernel_rfl)
                    conv at h71 => rhs; whnf
                    try change slot t 71 = undef at h71
                    have h72 := hf 72 (by kernel_rfl)
                    conv at h72 => rhs; whnf
                    try change slot t 72 = undef at h72
                    have h73 := hf 73 (by kernel_rfl)
                    conv at h73 => rhs; whnf
                    try change slot t 73 = undef at h73
                    have h74 := hf 74 (by kernel_rfl)
                    conv at h74 => rhs; whnf
                    try change slot t 74 = undef at h74
                    have h75 := hf 75 (by kernel_rfl)
                    conv at h75 => rhs; whnf
                    try change slot t 75 = undef at h75
                    have h76 := hf 76 (by kernel_rfl)
                    conv at h76 => rhs; whnf
                    try change slot t 76 = undef at h76
                    have h77 := hf 77 (by kernel_rfl)
                    conv at h77 => rhs; whnf
                    try change slot t 77 = undef at h77
                    have h78 := hf 78 (by kernel_rfl)
                    conv at h78 => rhs; whnf
                    try change slot t 78 = undef at h78
                    have h79 := hf 79 (by kernel_rfl)
                    conv at h79 => rhs; whnf
                    try change slot t 79 = undef at h79
                    have h80 := hf 80 (by kernel_rfl)
                    conv at h80 => rhs; whnf
                    try change slot t 80 = undef at h80
                    have h81 := hf 81 (by kernel_rfl)
                    conv at h81 => rhs; whnf
                    try change slot t 81 = undef at h81
                    have h82 := hf 82 (by kernel_rfl)
                    conv at h82 => rhs; whnf
                    try change slot t 82 = undef at h82
                    have h83 := hf 83 (by kernel_rfl)
                    conv at h83 => rhs; whnf
                    try change slot t 83 = undef at h83
                    have h84 := hf 84 (by kernel_rfl)
                    conv at h84 => rhs; whnf
                    try change slot t 84 = undef at h84
                    have h118 := hf 118 (by kernel_rfl)
                    conv at h118 => rhs; whnf
                    try change slot t 118 = undef at h118
                    have h119 := hf 119 (by kernel_rfl)
                    conv at h119 => rhs; whnf
                    try change slot t 119 = undef at h119
                    have harr : t = #[slot t 0, slot t 1, slot t 2, slot t 3, slot t 4, slot t 5, slot t 6, slot t 7, slot t 8, slot t 9, slot t 10, slot t 11, slot t 12, slot t 13, slot t 14, slot t 15, slot t 16, slot t 17, slot t 18, slot t 19, slot t 20, slot t 21, slot t 22, slot t 23, slot t 24, slot t 25, slot t 26, slot t 27, slot t 28, slot t 29, slot t 30, slot t 31, slot t 32, slot t 33, slot t 34, slot t 35, slot t 36, slot t 37, slot t 38, slot t 39, slot t 40, slot t 41, slot t 42, slot t 43, slot t 44, slot t 45, slot t 46, slot t 47, slot t 48, slot t 49, slot t 50, slot t 51, slot t 52, slot t 53, slot t 54, slot t 55, slot t 56, slot t 57, slot t 58, slot t 59, slot t 60, slot t 61, slot t 62, slot t 63, slot t 64, slot t 65, slot t 66, slot t 67, slot t 68, slot t 69, slot t 70, slot t 71, slot t 72, slot t 73, slot t 74, slot t 75, slot t 76, slot t 77, slot t 78, slot t 79, slot t 80, slot t 81, slot t 82, slot t 83, slot t 84, slot t 85, slot t 86, slot t 87, slot t 88, slot t 89, slot t 90, slot t 91, slot t 92, slot t 93, slot t 94, slot t 95, slot t 96, slot t 97, slot t 98, slot t 99, slot t 100, slot t 101, slot t 102, slot t 103, slot t 104, slot t 105, slot t 106, slot t 107, slot t 108, slot t 109, slot t 110, slot t 111, slot t 112, slot t 113, slot t 114, slot t 115, slot t 116, slot t 117, slot t 118, slot t 119] := arr_eq t 120 hsz
                    rw [harr, h117, h1, h2, h8, h10, h11, h13, h0, h3, h4, h5, h6, h7, h9, h12, h14, h15, h16, h17, h18, h19, h20, h21, h22, h23, h24, h25, h26, h27, h28, h29, h30, h31, h32, h33, h34, h35, h36, h37, h38, h39, h40, h41, h42, h43, h44, h45, h46, h47, h48, h49, h50, h51, h52, h53, h54, h55, h56, h57, h58, h59, h60, h61, h62, h63, h64, h65, h66, h67, h68, h69, h70, h71, h72, h73, h74, h75, h76, h77, h78, h79, h80, h81, h82, h83, h84, h118, h119]
                    clear harr hfacts hf h117 h1 h2 h8 h10 h11 h13 h0 h3 h4 h5 h6 h7 h9 h12 h14 h15 h16 h17 h18 h19 h20 h21 h22 h23 h24 h25 h26 h27 h28 h29 h30 h31 h32 h33 h34 h35 h36 h37 h38 h39 h40 h41 h42 h43 h44 h45 h46 h47 h48 h49 h50 h51 h52 h53 h54 h55 h56 h57 h58 h59 h60 h61 h62 h63 h64 h65 h66 h67 h68 h69 h70 h71 h72 h73 h74 h75 h76 h77 h78 h79 h80 h81 h82 h83 h84 h118 h119
                    generalize slot t 85 = x85; generalize slot t 86 = x86; generalize slot t 87 = x87; generalize slot t 88 = x88; generalize slot t 89 = x89; generalize slot t 90 = x90; generalize slot t 91 = x91; generalize slot t 92 = x92; generalize slot t 93 = x93; generalize slot t 94 = x94; generalize slot t 95 = x95; generalize slot t 96 = x96
                    generalize slot t 97 = x97; generalize slot t 98 = x98; generalize slot t 99 = x99; generalize slot t 100 = x100; generalize slot t 101 = x101; generalize slot t 102 = x102; generalize slot t 103 = x103; generalize slot t 104 = x104; generalize slot t 105 = x105; generalize slot t 106 = x106; generalize slot t 107 = x107; generalize slot t 108 = x108
                    generalize slot t 109 = x109; generalize slot t 110 = x110; generalize slot t 111 = x111; generalize slot t 112 = x112; generalize slot t 113 = x113; generalize slot t 114 = x114; generalize slot t 115 = x115; generalize slot t 116 = x116
                    clear hsz t
                    have KC := Lib.hid (KB.out.trans hk)
                    clear hk
                    go_wp2_with fail
                    go_roundw
                    case rel => exact ⟨m + 1, by omega, by go_num, KC⟩
                    case measure => simp [intOf]; omega
                · have g1 : decide ((m : Int) ≤ mx) = true := decide_eq_true c1
                  have g2 : decide ((m : Int) ≤ 255) = false := decide_eq_false (by omega)
                  have g2' : decide (m ≤ 255) = false := decide_eq_false c2
                  have g3 : decide ((m : Int) > mx) = false := decide_eq_false (by omega)
                  have g3' : decide (mx < (m : Int)) = false := decide_eq_false (by omega)
                  clear c1 c2 hX11 hX13q
                  refine wp_region_table [(85, .is (.int .i64 (m : Int))), (86, .is (.slice (some q2) n2 c2)), (87, .is (.int .i64 (k : Int))), (88, .is (.pointer (some (q2.add k)))), (89, .is (.int .i64 (I2 k))), (90, .is (.int .i64 mx)), (91, .is (.bool true)), (92, .is (.bool true)), (93, .is (.int .i64 (m : Int))), (94, .is (.bool false)), (95, .is (.bool false)), (96, .is (.bool false)), (97, .is (undef)), (98, .is (undef)), (99, .is (undef)), (100, .is (undef)), (101, .is (undef)), (102, .is (undef)), (103, .is (.bool false)), (104, .is (.bool false)), (105, .is (.int .i64 (m : Int))), (106, .is (.slice (some q2) n2 c2)), (107, .is (.int .i64 (k : Int))), (108, .is (.pointer (some (q2.add k)))), (109, .is (.int .i64 (I2 k))), (110, .is (.int .i64 mx)), (111, .is (.bool false)), (112, .is (.bool false)), (113, .is (undef)), (114, .is (undef)), (115, .is (undef)), (116, .is (.bool false)), (117, .is (.bool false))] (by kernel_rfl) (by kernel_rfl) ?_ ?_
                  · refine ⟨fun t w1 hf hk hp => ?_, ?_⟩
                    · have h10 : slot t 10 = .int .i64 (m : Int) := hf 10 (by kernel_rfl)
                      clear hf hp
                      refine stepAt_plain rfl ?_
                      exact stepOK_move _ (.inl rfl) h10
                    refine ⟨fun t w1 hf hk hp => ?_, ?_⟩
                    · have h2 : slot t 2 = .slice (some q2) n2 c2 := hf 2 (by kernel_rfl)
                      clear hf hp
                      refine stepAt_plain rfl ?_
                      exact stepOK_move _ (.inl rfl) h2
                    refine ⟨fun t w1 hf hk hp => ?_, ?_⟩
                    · have h8 : slot t 8 = .int .i64 (k : Int) := hf 8 (by kernel_rfl)
                      clear hf hp
                      refine stepAt_plain rfl ?_
                      exact stepOK_move _ (.inl rfl) h8
                    refine ⟨fun t w1 hf hk hp => ?_, ?_⟩
                    · have h86 : slot t 86 = .slice (some q2) n2 c2 := hp 86 (by kernel_rfl)
                      have h87 : slot t 87 = .int .i64 (k : Int) := hp 87 (by kernel_rfl)
                      clear hf hp
                      refine stepAt_plain rfl ?_
                      exact stepOK_pure (.pointer (some (q2.add k))) (execIndexI20 q2 n2 c2 k hk2 w1 rfl (by assumption) (by assumption)) rfl
                    refine ⟨fun t w1 hf hk hp => ?_, ?_⟩
                    · have h88 : slot t 88 = .pointer (some (q2.add k)) := hp 88 (by kernel_rfl)
                      clear hf hp
                      refine stepAt_plain rfl ?_
                      have hq0 := run_loadI20 ((HIu.out.kept hk).cell k hk2)
                      exact stepOK_sem (.int .i64 (I2 k)) (by simp only [execOp, evS, h88]) hq0 rfl
                    refine ⟨fun t w1 hf hk hp => ?_, ?_⟩
                    · have h89 : slot t 89 = .int .i64 (I2 k) := hp 89 (by kernel_rfl)
                      clear hf hp
                      refine stepAt_plain rfl ?_
                      exact stepOK_pure (.int .i64 mx) (execMax0 (I2 k) mx hmx0.out w1 rfl (by assumption)) rfl
                    refine ⟨fun t w1 hf hk hp => ?_, ?_⟩
                    · have h85 : slot t 85 = .int .i64 (m : Int) := hp 85 (by kernel_rfl)
                      have h90 : slot t 90 = .int .i64 mx := hp 90 (by kernel_rfl)
                      clear hf hp
                      refine stepAt_plain rfl ?_
                      refine stepOK_pure (.bool true) ?_ rfl
                      simp only [execOp, evS, h85, h90]
                      go_simp
                    refine ⟨fun t w1 hf hk hp => ?_, ?_⟩
                    · have h91 : slot t 91 = .bool true := hp 91 (by kernel_rfl)
                      clear hf hp
                      refine stepAt_plain rfl ?_
                      exact stepOK_move _ (.inl rfl) h91
                    refine ⟨fun t w1 hf hk hp => ?_, ?_⟩
                    · have h10 : slot t 10 = .int .i64 (m : Int) := hf 10 (by kernel_rfl)
                      have h92 : slot t 92 = .bool true := hp 92 (by kernel_rfl)
                      clear hf hp
                      refine stepAt_on 92 true (by kernel_rfl) h92 ?_
                      exact stepOK_move _ (.inl rfl) h10
                    refine ⟨fun t w1 hf hk hp => ?_, ?_⟩
                    · have h93 : slot t 93 = .int .i64 (m : Int) := hp 93 (by kernel_rfl)
                      have h92 : slot t 92 = .bool true := hp 92 (by kernel_rfl)
                      clear hf hp
                      refine stepAt_on 92 true (by kernel_rfl) h92 ?_
                      refine stepOK_pure (.bool false) ?_ rfl
                      simp only [execOp, evS, h93]
                      go_simp
                    refine ⟨fun t w1 hf hk hp => ?_, ?_⟩
                    · have h92 : slot t 92 = .bool true := hp 92 (by kernel_rfl)
                      have h94 : slot t 94 = .bool false := hp 94 (by kernel_rfl)
                      clear hf hp
                      refine stepAt_plain rfl ?_
                      refine stepOK_pure (.bool false) ?_ rfl
                      simp only [execOp, evS, h92, h94]
                      go_simp
                    refine ⟨fun t w1 hf hk hp => ?_, ?_⟩
                    · have h95 : slot t 95 = .bool false := hp 95 (by kernel_rfl)
                      clear hf hp
                      refine stepAt_plain rfl ?_
                      exact stepOK_move _ (.inl rfl) h95
                    refine ⟨fun t w1 hf hk hp => ?_, ?_⟩
                    · have h96 : slot t 96 = .bool false := hp 96 (by kernel_rfl)
                      clear hf hp
                      exact stepAt_off 96 true (by kernel_rfl) h96 rfl
                    refine ⟨fun t w1 hf hk hp => ?_, ?_⟩
                    · have h96 : slot t 96 = .bool false := hp 96 (by kernel_rfl)
                      clear hf hp
                      exact stepAt_off 96 true (by kernel_rfl) h96 rfl
                    refine ⟨fun t w1 hf hk hp => ?_, ?_⟩
                    · have h96 : slot t 96 = .bool false := hp 96 (by kernel_rfl)
                      clear hf hp
                      exact stepAt_off 96 true (by kernel_rfl) h96 rfl
                    refine ⟨fun t w1 hf hk hp => ?_, ?_⟩
                    · have h96 : slot t 96 = .bool false := hp 96 (by kernel_rfl)
                      clear hf hp
                      exact stepAt_off 96 true (by kernel_rfl) h96 rfl
                    refine ⟨fun t w1 hf hk hp => ?_, ?_⟩
                    · have h96 : slot t 96 = .bool false := hp 96 (by kernel_rfl)
                      clear hf hp
                      exact stepAt_off 96 true (by kernel_rfl) h96 rfl
                    refine ⟨fun t w1 hf hk hp => ?_, ?_⟩
                    · have h96 : slot t 96 = .bool false := hp 96 (by kernel_rfl)
                      clear hf hp
                      exact stepAt_off 96 true (by kernel_rfl) h96 rfl
                    refine ⟨fun t w1 hf hk hp => ?_, ?_⟩
                    · have h96 : slot t 96 = .bool false := hp 96 (by kernel_rfl)
                      have h102 : slot t 102 = undef := hp 102 (by kernel_rfl)
                      clear hf hp
                      refine stepAt_plain rfl ?_
                      refine stepOK_pure (.bool false) ?_ rfl
                      simp only [execOp, evS, h96, h102]
                      go_simp
                    refine ⟨fun t w1 hf hk hp => ?_, ?_⟩
                    · have h103 : slot t 103 = .bool false := hp 103 (by kernel_rfl)
                      clear hf hp
                      refine stepAt_plain rfl ?_
                      exact stepOK_move _ (.inl rfl) h103
                    refine ⟨fun t w1 hf hk hp => ?_, ?_⟩
                    · have h10 : slot t 10 = .int .i64 (m : Int) := hf 10 (by kernel_rfl)
                      have h104 : slot t 104 = .bool false := hp 104 (by kernel_rfl)
                      clear hf hp
                      refine stepAt_on 104 false (by kernel_rfl) h104 ?_
                      exact stepOK_move _ (.inl rfl) h10
                    refine ⟨fun t w1 hf hk hp => ?_, ?_⟩
                    · have h2 : slot t 2 = .slice (some q2) n2 c2 := hf 2 (by kernel_rfl)
                      have h104 : slot t 104 = .bool false := hp 104 (by kernel_rfl)
                      clear hf hp
                      refine stepAt_on 104 false (by kernel_rfl) h104 ?_
                      exact stepOK_move _ (.inl rfl) h2
                    refine ⟨fun t w1 hf hk hp => ?_, ?_⟩
                    · have h8 : slot t 8 = .int .i64 (k : Int) := hf 8 (by kernel_rfl)
                      have h104 : slot t 104 = .bool false := hp 104 (by kernel_rfl)
                      clear hf hp
                      refine stepAt_on 104 false (by kernel_rfl) h104 ?_
                      exact stepOK_move _ (.inl rfl) h8
                    refine ⟨fun t w1 hf hk hp => ?_, ?_⟩
                    · have h106 : slot t 106 = .slice (some q2) n2 c2 := hp 106 (by kernel_rfl)
                      have h107 : slot t 107 = .int .i64 (k : Int) := hp 107 (by kernel_rfl)
                      have h104 : slot t 104 = .bool false := hp 104 (by kernel_rfl)
                      clear hf hp
                      refine stepAt_on 104 false (by kernel_rfl) h104 ?_
                      exact stepOK_pure (.pointer (some (q2.add k))) (execIndexI20 q2 n2 c2 k hk2 w1 rfl (by assumption) (by assumption)) rfl
                    refine ⟨fun t w1 hf hk hp => ?_, ?_⟩
                    · have h108 : slot t 108 = .pointer (some (q2.add k)) := hp 108 (by kernel_rfl)
                      have h104 : slot t 104 = .bool false := hp 104 (by kernel_rfl)
                      clear hf hp
                      refine stepAt_on 104 false (by kernel_rfl) h104 ?_
                      have hq0 := run_loadI20 ((HIu.out.kept hk).cell k hk2)
                      exact stepOK_sem (.int .i64 (I2 k)) (by simp only [execOp, evS, h108]) hq0 rfl
                    refine ⟨fun t w1 hf hk hp => ?_, ?_⟩
                    · have h109 : slot t 109 = .int .i64 (I2 k) := hp 109 (by kernel_rfl)
                      have h104 : slot t 104 = .bool false := hp 104 (by kernel_rfl)
                      clear hf hp
                      refine stepAt_on 104 false (by kernel_rfl) h104 ?_
                      exact stepOK_pure (.int .i64 mx) (execMax0 (I2 k) mx hmx0.out w1 rfl (by assumption)) rfl
                    refine ⟨fun t w1 hf hk hp => ?_, ?_⟩
                    · have h105 : slot t 105 = .int .i64 (m : Int) := hp 105 (by kernel_rfl)
                      have h110 : slot t 110 = .int .i64 mx := hp 110 (by kernel_rfl)
                      have h104 : slot t 104 = .bool false := hp 104 (by kernel_rfl)
                      clear hf hp
                      refine stepAt_on 104 false (by kernel_rfl) h104 ?_
                      refine stepOK_pure (.bool false) ?_ rfl
                      simp only [execOp, evS, h105, h110]
                      go_simp
                    refine ⟨fun t w1 hf hk hp => ?_, ?_⟩
                    · have h111 : slot t 111 = .bool false := hp 111 (by kernel_rfl)
                      have h104 : slot t 104 = .bool false := hp 104 (by kernel_rfl)
                      clear hf hp
                      refine stepAt_on 104 false (by kernel_rfl) h104 ?_
                      exact stepOK_move _ (.inl rfl) h111
                    refine ⟨fun t w1 hf hk hp => ?_, ?_⟩
                    · have h112 : slot t 112 = .bool false := hp 112 (by kernel_rfl)
                      clear hf hp
                      exact stepAt_off 112 true (by kernel_rfl) h112 rfl
                    refine ⟨fun t w1 hf hk hp => ?_, ?_⟩
                    · have h112 : slot t 112 = .bool false := hp 112 (by kernel_rfl)
                      clear hf hp
                      exact stepAt_off 112 true (by kernel_rfl) h112 rfl
                    refine ⟨fun t w1 hf hk hp => ?_, ?_⟩
                    · have h112 : slot t 112 = .bool false := hp 112 (by kernel_rfl)
                      clear hf hp
                      exact stepAt_off 112 true (by kernel_rfl) h112 rfl
                    refine ⟨fun t w1 hf hk hp => ?_, ?_⟩
                    · have h112 : slot t 112 = .bool false := hp 112 (by kernel_rfl)
                      have h115 : slot t 115 = undef := hp 115 (by kernel_rfl)
                      have h104 : slot t 104 = .bool false := hp 104 (by kernel_rfl)
                      clear hf hp
                      refine stepAt_on 104 false (by kernel_rfl) h104 ?_
                      refine stepOK_pure (.bool false) ?_ rfl
                      simp only [execOp, evS, h112, h115]
                      go_simp
                    refine ⟨fun t w1 hf hk hp => ?_, ?_⟩
                    · have h104 : slot t 104 = .bool false := hp 104 (by kernel_rfl)
                      have h116 : slot t 116 = .bool false := hp 116 (by kernel_rfl)
                      clear hf hp
                      refine stepAt_plain rfl ?_
                      refine stepOK_pure (.bool false) ?_ rfl
                      simp only [execOp, evS, h104, h116]
                      go_simp
                    exact trivial
                  · intro t w1 hsz hf hk hfacts
                    have h117 : slot t 117 = .bool false := hfacts 32 _ rfl 117 rfl
                    have h1 : slot t 1 = .slice (some q1) n1 c1 := hf 1 (by kernel_rfl)
                    have h2 : slot t 2 = .slice (some q2) n2 c2 := hf 2 (by kernel_rfl)
                    have h8 : slot t 8 = .int .i64 (k : Int) := hf 8 (by kernel_rfl)
                    have h10 : slot t 10 = .int .i64 (m : Int) := hf 10 (by kernel_rfl)
                    have h11 : slot t 11 = .pointer (some ⟨g11, 0, none⟩) := hf 11 (by kernel_rfl)
                    have h13 : slot t 13 = .pointer (some ⟨g13, 0, none⟩) := hf 13 (by kernel_rfl)
                    have h0 := hf 0 (by kernel_rfl)
                    conv at h0 => rhs; whnf
                    try change slot t 0 = undef at h0
                    have h3 := hf 3 (by kernel_rfl)
                    conv at h3 => rhs; whnf
                    try change slot t 3 = undef at h3
                    have h4 := hf 4 (by kernel_rfl)
                    conv at h4 => rhs; whnf
                    try change slot t 4 = undef at h4
                    have h5 := hf 5 (by kernel_rfl)
                    conv at h5 => rhs; whnf
                    try change slot t 5 = undef at h5
                    have h6 := hf 6 (by kernel_rfl)
                    conv at h6 => rhs; whnf
                    try change slot t 6 = undef at h6
                    have h7 := hf 7 (by kernel_rfl)
                    conv at h7 => rhs; whnf
                    try change slot t 7 = undef at h7
                    have h9 := hf 9 (by kernel_rfl)
                    conv at h9 => rhs; whnf
                    try change slot t 9 = undef at h9
                    have h12 := hf 12 (by kernel_rfl)
                    conv at h12 => rhs; whnf
                    try change slot t 12 = undef at h12
                    have h14 := hf 14 (by kernel_rfl)
                    conv at h14 => rhs; whnf
                    try change slot t 14 = undef at h14
                    have h15 := hf 15 (by kernel_rfl)
                    conv at h15 => rhs; whnf
                    try change slot t 15 = undef at h15
                    have h16 := hf 16 (by kernel_rfl)
                    conv at h16 => rhs; whnf
                    try change slot t 16 = undef at h16
                    have h17 := hf 17 (by kernel_rfl)
                    conv at h17 => rhs; whnf
                    try change slot t 17 = undef at h17
                    have h18 := hf 18 (by kernel_rfl)
                    conv at h18 => rhs; whnf
                    try change slot t 18 = undef at h18
                    have h19 := hf 19 (by kernel_rfl)
                    conv at h19 => rhs; whnf
                    try change slot t 19 = undef at h19
                    have h20 := hf 20 (by kernel_rfl)
                    conv at h20 => rhs; whnf
                    try change slot t 20 = undef at h20
                    have h21 := hf 21 (by kernel_rfl)
                    conv at h21 => rhs; whnf
                    try change slot t 21 = undef at h21
                    have h22 := hf 22 (by kernel_rfl)
                    conv at h22 => rhs; whnf
                    try change slot t 22 = undef at h22
                    have h23 := hf 23 (by kernel_rfl)
                    conv at h23 => rhs; whnf
                    try change slot t 23 = undef at h23
                    have h24 := hf 24 (by kernel_rfl)
                    conv at h24 => rhs; whnf
                    try change slot t 24 = undef at h24
                    have h25 := hf 25 (by kernel_rfl)
                    conv at h25 => rhs; whnf
                    try change slot t 25 = undef at h25
                    have h26 := hf 26 (by kernel_rfl)
                    conv at h26 => rhs; whnf
                    try change slot t 26 = undef at h26
                    have h27 := hf 27 (by kernel_rfl)
                    conv at h27 => rhs; whnf
                    try change slot t 27 = undef at h27
                    have h28 := hf 28 (by kernel_rfl)
                    conv at h28 => rhs; whnf
                    try change slot t 28 = undef at h28
                    have h29 := hf 29 (by kernel_rfl)
                    conv at h29 => rhs; whnf
                    try change slot t 29 = undef at h29
                    have h30 := hf 30 (by kernel_rfl)
                    conv at h30 => rhs; whnf
                    try change slot t 30 = undef at h30
                    have h31 := hf 31 (by kernel_rfl)
                    conv at h31 => rhs; whnf
                    try change slot t 31 = undef at h31
                    have h32 := hf 32 (by kernel_rfl)
                    conv at h32 => rhs; whnf
                    try change slot t 32 = undef at h32
                    have h33 := hf 33 (by kernel_rfl)
                    conv at h33 => rhs; whnf
                    try change slot t 33 = undef at h33
                    have h34 := hf 34 (by kernel_rfl)
                    conv at h34 => rhs; whnf
                    try change slot t 34 = undef at h34
                    have h35 := hf 35 (by kernel_rfl)
                    conv at h35 => rhs; whnf
                    try change slot t 35 = undef at h35
                    have h36 := hf 36 (by kernel_rfl)
                    conv at h36 => rhs; whnf
                    try change slot t 36 = undef at h36
                    have h37 := hf 37 (by kernel_rfl)
                    conv at h37 => rhs; whnf
                    try change slot t 37 = undef at h37
                    have h38 := hf 38 (by kernel_rfl)
                    conv at h38 => rhs; whnf
                    try change slot t 38 = undef at h38
                    have h39 := hf 39 (by kernel_rfl)
                    conv at h39 => rhs; whnf
                    try change slot t 39 = undef at h39
                    have h40 := hf 40 (by kernel_rfl)
                    conv at h40 => rhs; whnf
                    try change slot t 40 = undef at h40
                    have h41 := hf 41 (by kernel_rfl)
                    conv at h41 => rhs; whnf
                    try change slot t 41 = undef at h41
                    have h42 := hf 42 (by kernel_rfl)
                    conv at h42 => rhs; whnf
                    try change slot t 42 = undef at h42
                    have h43 := hf 43 (by kernel_rfl)
                    conv at h43 => rhs; whnf
                    try change slot t 43 = undef at h43
                    have h44 := hf 44 (by kernel_rfl)
                    conv at h44 => rhs; whnf
                    try change slot t 44 = undef at h44
                    have h45 := hf 45 (by kernel_rfl)
                    conv at h45 => rhs; whnf
                    try change slot t 45 = undef at h45
                    have h46 := hf 46 (by kernel_rfl)
                    conv at h46 => rhs; whnf
                    try change slot t 46 = undef at h46
                    have h47 := hf 47 (by kernel_rfl)
                    conv at h47 => rhs; whnf
                    try change slot t 47 = undef at h47
                    have h48 := hf 48 (by kernel_rfl)
                    conv at h48 => rhs; whnf
                    try change slot t 48 = undef at h48
                    have h49 := hf 49 (by kernel_rfl)
                    conv at h49 => rhs; whnf
                    try change slot t 49 = undef at h49
                    have h50 := hf 50 (by kernel_rfl)
                    conv at h50 => rhs; whnf
                    try change slot t 50 = undef at h50
                    have h51 := hf 51 (by kernel_rfl)
                    conv at h51 => rhs; whnf
                    try change slot t 51 = undef at h51
                    have h52 := hf 52 (by kernel_rfl)
                    conv at h52 => rhs; whnf
                    try change slot t 52 = undef at h52
                    have h53 := hf 53 (by kernel_rfl)
                    conv at h53 => rhs; whnf
                    try change slot t 53 = undef at h53
                    have h54 := hf 54 (by kernel_rfl)
                    conv at h54 => rhs; whnf
                    try change slot t 54 = undef at h54
                    have h55 := hf 55 (by kernel_rfl)
                    conv at h55 => rhs; whnf
                    try change slot t 55 = undef at h55
                    have h56 := hf 56 (by kernel_rfl)
                    conv at h56 => rhs; whnf
                    try change slot t 56 = undef at h56
                    have h57 := hf 57 (by kernel_rfl)
                    conv at h57 => rhs; whnf
                    try change slot t 57 = undef at h57
                    have h58 := hf 58 (by kernel_rfl)
                    conv at h58 => rhs; whnf
                    try change slot t 58 = undef at h58
                    have h59 := hf 59 (by kernel_rfl)
                    conv at h59 => rhs; whnf
                    try change slot t 59 = undef at h59
                    have h60 := hf 60 (by kernel_rfl)
                    conv at h60 => rhs; whnf
                    try change slot t 60 = undef at h60
                    have h61 := hf 61 (by kernel_rfl)
                    conv at h61 => rhs; whnf
                    try change slot t 61 = undef at h61
                    have h62 := hf 62 (by kernel_rfl)
                    conv at h62 => rhs; whnf
                    try change slot t 62 = undef at h62
                    have h63 := hf 63 (by kernel_rfl)
                    conv at h63 => rhs; whnf
                    try change slot t 63 = undef at h63
                    have h64 := hf 64 (by kernel_rfl)
                    conv at h64 => rhs; whnf
                    try change slot t 64 = undef at h64
                    have h65 := hf 65 (by kernel_rfl)
                    conv at h65 => rhs; whnf
                    try change slot t 65 = undef at h65
                    have h66 := hf 66 (by kernel_rfl)
                    conv at h66 => rhs; whnf
                    try change slot t 66 = undef at h66
                    have h67 := hf 67 (by kernel_rfl)
                    conv at h67 => rhs; whnf
                    try change slot t 67 = undef at h67
                    have h68 := hf 68 (by kernel_rfl)
                    conv at h68 => rhs; whnf
                    try change slot t 68 = undef at h68
                    have h69 := hf 69 (by kernel_rfl)
                    conv at h69 => rhs; whnf
                    try change slot t 69 = undef at h69
                    have h70 := hf 70 (by kernel_rfl)
                    conv at h70 => rhs; whnf
                    try change slot t 70 = undef at h70
                    have h71 := hf 71 (by kernel_rfl)
                    conv at h71 => rhs; whnf
                    try change slot t 71 = undef at h71
                    have h72 := hf 72 (by kernel_rfl)
                    conv at h72 => rhs; whnf
                    try change slot t 72 = undef at h72
                    have h73 := hf 73 (by kernel_rfl)
                    conv at h73 => rhs; whnf
                    try change slot t 73 = undef at h73
                    have h74 := hf 74 (by kernel_rfl)
                    conv at h74 => rhs; whnf
                    try change slot t 74 = undef at h74
                    have h75 := hf 75 (by kernel_rfl)
                    conv at h75 => rhs; whnf
                    try change slot t 75 = undef at h75
                    have h76 := hf 76 (by kernel_rfl)
                    conv at h76 => rhs; whnf
                    try change slot t 76 = undef at h76
                    have h77 := hf 77 (by kernel_rfl)
                    conv at h77 => rhs; whnf
                    try change slot t 77 = undef at h77
                    have h78 := hf 78 (by kernel_rfl)
                    conv at h78 => rhs; whnf
                    try change slot t 78 = undef at h78
                    have h79 := hf 79 (by kernel_rfl)
                    conv at h79 => rhs; whnf
                    try change slot t 79 = undef at h79
                    have h80 := hf 80 (by kernel_rfl)
                    conv at h80 => rhs; whnf
                    try change slot t 80 = undef at h80
                    have h81 := hf 81 (by kernel_rfl)
                    conv at h81 => rhs; whnf
                    try change slot t 81 = undef at h81
                    have h82 := hf 82 (by kernel_rfl)
                    conv at h82 => rhs; whnf
                    try change slot t 82 = undef at h82
                    have h83 := hf 83 (by kernel_rfl)
                    conv at h83 => rhs; whnf
                    try change slot t 83 = undef at h83
                    have h84 := hf 84 (by kernel_rfl)
                    conv at h84 => rhs; whnf
                    try change slot t 84 = undef at h84
                    have h118 := hf 118 (by kernel_rfl)
                    conv at h118 => rhs; whnf
                    try change slot t 118 = undef at h118
                    have h119 := hf 119 (by kernel_rfl)
                    conv at h119 => rhs; whnf
                    try change slot t 119 = undef at h119
                    have harr : t = #[slot t 0, slot t 1, slot t 2, slot t 3, slot t 4, slot t 5, slot t 6, slot t 7, slot t 8, slot t 9, slot t 10, slot t 11, slot t 12, slot t 13, slot t 14, slot t 15, slot t 16, slot t 17, slot t 18, slot t 19, slot t 20, slot t 21, slot t 22, slot t 23, slot t 24, slot t 25, slot t 26, slot t 27, slot t 28, slot t 29, slot t 30, slot t 31, slot t 32, slot t 33, slot t 34, slot t 35, slot t 36, slot t 37, slot t 38, slot t 39, slot t 40, slot t 41, slot t 42, slot t 43, slot t 44, slot t 45, slot t 46, slot t 47, slot t 48, slot t 49, slot t 50, slot t 51, slot t 52, slot t 53, slot t 54, slot t 55, slot t 56, slot t 57, slot t 58, slot t 59, slot t 60, slot t 61, slot t 62, slot t 63, slot t 64, slot t 65, slot t 66, slot t 67, slot t 68, slot t 69, slot t 70, slot t 71, slot t 72, slot t 73, slot t 74, slot t 75, slot t 76, slot t 77, slot t 78, slot t 79, slot t 80, slot t 81, slot t 82, slot t 83, slot t 84, slot t 85, slot t 86, slot t 87, slot t 88, slot t 89, slot t 90, slot t 91, slot t 92, slot t 93, slot t 94, slot t 95, slot t 96, slot t 97, slot t 98, slot t 99, slot t 100, slot t 101, slot t 102, slot t 103, slot t 104, slot t 105, slot t 106, slot t 107, slot t 108, slot t 109, slot t 110, slot t 111, slot t 112, slot t 113, slot t 114, slot t 115, slot t 116, slot t 117, slot t 118, slot t 119] := arr_eq t 120 hsz
                    rw [harr, h117, h1, h2, h8, h10, h11, h13, h0, h3, h4, h5, h6, h7, h9, h12, h14, h15, h16, h17, h18, h19, h20, h21, h22, h23, h24, h25, h26, h27, h28, h29, h30, h31, h32, h33, h34, h35, h36, h37, h38, h39, h40, h41, h42, h43, h44, h45, h46, h47, h48, h49, h50, h51, h52, h53, h54, h55, h56, h57, h58, h59, h60, h61, h62, h63, h64, h65, h66, h67, h68, h69, h70, h71, h72, h73, h74, h75, h76, h77, h78, h79, h80, h81, h82, h83, h84, h118, h119]
                    clear harr hfacts hf h117 h1 h2 h8 h10 h11 h13 h0 h3 h4 h5 h6 h7 h9 h12 h14 h15 h16 h17 h18 h19 h20 h21 h22 h23 h24 h25 h26 h27 h28 h29 h30 h31 h32 h33 h34 h35 h36 h37 h38 h39 h40 h41 h42 h43 h44 h45 h46 h47 h48 h49 h50 h51 h52 h53 h54 h55 h56 h57 h58 h59 h60 h61 h62 h63 h64 h65 h66 h67 h68 h69 h70 h71 h72 h73 h74 h75 h76 h77 h78 h79 h80 h81 h82 h83 h84 h118 h119
                    generalize slot t 85 = x85; generalize slot t 86 = x86; generalize slot t 87 = x87; generalize slot t 88 = x88; generalize slot t 89 = x89; generalize slot t 90 = x90; generalize slot t 91 = x91; generalize slot t 92 = x92; generalize slot t 93 = x93; generalize slot t 94 = x94; generalize slot t 95 = x95; generalize slot t 96 = x96
                    generalize slot t 97 = x97; generalize slot t 98 = x98; generalize slot t 99 = x99; generalize slot t 100 = x100; generalize slot t 101 = x101; generalize slot t 102 = x102; generalize slot t 103 = x103; generalize slot t 104 = x104; generalize slot t 105 = x105; generalize slot t 106 = x106; generalize slot t 107 = x107; generalize slot t 108 = x108
                    generalize slot t 109 = x109; generalize slot t 110 = x110; generalize slot t 111 = x111; generalize slot t 112 = x112; generalize slot t 113 = x113; generalize slot t 114 = x114; generalize slot t 115 = x115; generalize slot t 116 = x116
                    clear hsz t
                    have KC := Lib.hid (KB.out.trans hk)
                    clear hk
                    go_wp2_with fail
                    go_roundw
                    case rel => exact ⟨m + 1, by omega, by go_num, KC⟩
                    case measure => simp [intOf]; omega
                · have g1 : decide ((m : Int) ≤ mx) = false := decide_eq_false c1
                  have g3 : decide ((m : Int) > mx) = true := decide_eq_true (by omega)
                  have g3' : decide (mx < (m : Int)) = true := decide_eq_true (by omega)
                  have hE : Hid (X11 = X13) := Lib.hid (by rw [hX11.out, hX13q.out]; exact (en_high F n (F1 k) (I2 k) m HN.out.1 (by rw [← hmx0.out]; omega) (by omega)).symm)
                  obtain rfl := hE.out
                  clear c1 hX11 hX13q
                  refine wp_region_table [(85, .is (.int .i64 (m : Int))), (86, .is (.slice (some q2) n2 c2)), (87, .is (.int .i64 (k : Int))), (88, .is (.pointer (some (q2.add k)))), (89, .is (.int .i64 (I2 k))), (90, .is (.int .i64 mx)), (91, .is (.bool false)), (92, .is (.bool false)), (93, .is (undef)), (94, .is (undef)), (95, .is (.bool false)), (96, .is (.bool false)), (97, .is (undef)), (98, .is (undef)), (99, .is (undef)), (100, .is (undef)), (101, .is (undef)), (102, .is (undef)), (103, .is (.bool false)), (104, .is (.bool false)), (105, .is (.int .i64 (m : Int))), (106, .is (.slice (some q2) n2 c2)), (107, .is (.int .i64 (k : Int))), (108, .is (.pointer (some (q2.add k)))), (109, .is (.int .i64 (I2 k))), (110, .is (.int .i64 mx)), (111, .is (.bool true)), (112, .is (.bool true)), (113, .is (.agg (bC 32 X11))), (114, .is (.agg (bC 32 X11))), (115, .is (.bool false)), (116, .is (.bool false)), (117, .is (.bool false))] (by kernel_rfl) (by kernel_rfl) ?_ ?_
                  · refine ⟨fun t w1 hf hk hp => ?_, ?_⟩
                    · have h10 : slot t 10 = .int .i64 (m : Int) := hf 10 (by kernel_rfl)
                      clear hf hp
                      refine stepAt_plain rfl ?_
                      exact stepOK_move _ (.inl rfl) h10
                    refine ⟨fun t w1 hf hk hp => ?_, ?_⟩
                    · have h2 : slot t 2 = .slice (some q2) n2 c2 := hf 2 (by kernel_rfl)
                      clear hf hp
                      refine stepAt_plain rfl ?_
                      exact stepOK_move _ (.inl rfl) h2
                    refine ⟨fun t w1 hf hk hp => ?_, ?_⟩
                    · have h8 : slot t 8 = .int .i64 (k : Int) := hf 8 (by kernel_rfl)
                      clear hf hp
                      refine stepAt_plain rfl ?_
                      exact stepOK_move _ (.inl rfl) h8
                    refine ⟨fun t w1 hf hk hp => ?_, ?_⟩
                    · have h86 : slot t 86 = .slice (some q2) n2 c2 := hp 86 (by kernel_rfl)
                      have h87 : slot t 87 = .int .i64 (k : Int) := hp 87 (by kernel_rfl)
                      clear hf hp
                      refine stepAt_plain rfl ?_
                      exact stepOK_pure (.pointer (some (q2.add k))) (execIndexI20 q2 n2 c2 k hk2 w1 rfl (by assumption) (by assumption)) rfl
                    refine ⟨fun t w1 hf hk hp => ?_, ?_⟩
                    · have h88 : slot t 88 = .pointer (some (q2.add k)) := hp 88 (by kernel_rfl)
                      clear hf hp
                      refine stepAt_plain rfl ?_
                      have hq0 := run_loadI20 ((HIu.out.kept hk).cell k hk2)
                      exact stepOK_sem (.int .i64 (I2 k)) (by simp only [execOp, evS, h88]) hq0 rfl
                    refine ⟨fun t w1 hf hk hp => ?_, ?_⟩
                    · have h89 : slot t 89 = .int .i64 (I2 k) := hp 89 (by kernel_rfl)
                      clear hf hp
                      refine stepAt_plain rfl ?_
                      exact stepOK_pure (.int .i64 mx) (execMax0 (I2 k) mx hmx0.out w1 rfl (by assumption)) rfl
                    refine ⟨fun t w1 hf hk hp => ?_, ?_⟩
                    · have h85 : slot t 85 = .int .i64 (m : Int) := hp 85 (by kernel_rfl)
                      have h90 : slot t 90 = .int .i64 mx := hp 90 (by kernel_rfl)
                      clear hf hp
                      refine stepAt_plain rfl ?_
                      refine stepOK_pure (.bool false) ?_ rfl
                      simp only [execOp, evS, h85, h90]
                      go_simp
                    refine ⟨fun t w1 hf hk hp => ?_, ?_⟩
                    · have h91 : slot t 91 = .bool false := hp 91 (by kernel_rfl)
                      clear hf hp
                      refine stepAt_plain rfl ?_
                      exact stepOK_move _ (.inl rfl) h91
                    refine ⟨fun t w1 hf hk hp => ?_, ?_⟩
                    · have h92 : slot t 92 = .bool false := hp 92 (by kernel_rfl)
                      clear hf hp
                      exact stepAt_off 92 true (by kernel_rfl) h92 rfl
                    refine ⟨fun t w1 hf hk hp => ?_, ?_⟩
                    · have h92 : slot t 92 = .bool false := hp 92 (by kernel_rfl)
                      clear hf hp
                      exact stepAt_off 92 true (by kernel_rfl) h92 rfl
                    refine ⟨fun t w1 hf hk hp => ?_, ?_⟩
                    · have h92 : slot t 92 = .bool false := hp 92 (by kernel_rfl)
                      have h94 : slot t 94 = undef := hp 94 (by kernel_rfl)
                      clear hf hp
                      refine stepAt_plain rfl ?_
                      refine stepOK_pure (.bool false) ?_ rfl
                      simp only [execOp, evS, h92, h94]
                      go_simp
                    refine ⟨fun t w1 hf hk hp => ?_, ?_⟩
                    · have h95 : slot t 95 = .bool false := hp 95 (by kernel_rfl)
                      clear hf hp
                      refine stepAt_plain rfl ?_
                      exact stepOK_move _ (.inl rfl) h95
                    refine ⟨fun t w1 hf hk hp => ?_, ?_⟩
                    · have h96 : slot t 96 = .bool false := hp 96 (by kernel_rfl)
                      clear hf hp
                      exact stepAt_off 96 true (by kernel_rfl) h96 rfl
                    refine ⟨fun t w1 hf hk hp => ?_, ?_⟩
                    · have h96 : slot t 96 = .bool false := hp 96 (by kernel_rfl)
                      clear hf hp
                      exact stepAt_off 96 true (by kernel_rfl) h96 rfl
                    refine ⟨fun t w1 hf hk hp => ?_, ?_⟩
                    · have h96 : slot t 96 = .bool false := hp 96 (by kernel_rfl)
                      clear hf hp
                      exact stepAt_off 96 true (by kernel_rfl) h96 rfl
                    refine ⟨fun t w1 hf hk hp => ?_, ?_⟩
                    · have h96 : slot t 96 = .bool false := hp 96 (by kernel_rfl)
                      clear hf hp
                      exact stepAt_off 96 true (by kernel_rfl) h96 rfl
                    refine ⟨fun t w1 hf hk hp => ?_, ?_⟩
                    · have h96 : slot t 96 = .bool false := hp 96 (by kernel_rfl)
                      clear hf hp
                      exact stepAt_off 96 true (by kernel_rfl) h96 rfl
                    refine ⟨fun t w1 hf hk hp => ?_, ?_⟩
                    · have h96 : slot t 96 = .bool false := hp 96 (by kernel_rfl)
                      clear hf hp
                      exact stepAt_off 96 true (by kernel_rfl) h96 rfl
                    refine ⟨fun t w1 hf hk hp => ?_, ?_⟩
                    · have h96 : slot t 96 = .bool false := hp 96 (by kernel_rfl)
                      have h102 : slot t 102 = undef := hp 102 (by kernel_rfl)
                      clear hf hp
                      refine stepAt_plain rfl ?_
                      refine stepOK_pure (.bool false) ?_ rfl
                      simp only [execOp, evS, h96, h102]
                      go_simp
                    refine ⟨fun t w1 hf hk hp => ?_, ?_⟩
                    · have h103 : slot t 103 = .bool false := hp 103 (by kernel_rfl)
                      clear hf hp
                      refine stepAt_plain rfl ?_
                      exact stepOK_move _ (.inl rfl) h103
                    refine ⟨fun t w1 hf hk hp => ?_, ?_⟩
                    · have h10 : slot t 10 = .int .i64 (m : Int) := hf 10 (by kernel_rfl)
                      have h104 : slot t 104 = .bool false := hp 104 (by kernel_rfl)
                      clear hf hp
                      refine stepAt_on 104 false (by kernel_rfl) h104 ?_
                      exact stepOK_move _ (.inl rfl) h10
                    refine ⟨fun t w1 hf hk hp => ?_, ?_⟩
                    · have h2 : slot t 2 = .slice (some q2) n2 c2 := hf 2 (by kernel_rfl)
                      have h104 : slot t 104 = .bool false := hp 104 (by kernel_rfl)
                      clear hf hp
                      refine stepAt_on 104 false (by kernel_rfl) h104 ?_
                      exact stepOK_move _ (.inl rfl) h2
                    refine ⟨fun t w1 hf hk hp => ?_, ?_⟩
                    · have h8 : slot t 8 = .int .i64 (k : Int) := hf 8 (by kernel_rfl)
                      have h104 : slot t 104 = .bool false := hp 104 (by kernel_rfl)
                      clear hf hp
                      refine stepAt_on 104 false (by kernel_rfl) h104 ?_
                      exact stepOK_move _ (.inl rfl) h8
                    refine ⟨fun t w1 hf hk hp => ?_, ?_⟩
                    · have h106 : slot t 106 = .slice (some q2) n2 c2 := hp 106 (by kernel_rfl)
                      have h107 : slot t 107 = .int .i64 (k : Int) := hp 107 (by kernel_rfl)
                      have h104 : slot t 104 = .bool false := hp 104 (by kernel_rfl)
                      clear hf hp
                      refine stepAt_on 104 false (by kernel_rfl) h104 ?_
                      exact stepOK_pure (.pointer (some (q2.add k))) (execIndexI20 q2 n2 c2 k hk2 w1 rfl (by assumption) (by assumption)) rfl
                    refine ⟨fun t w1 hf hk hp => ?_, ?_⟩
                    · have h108 : slot t 108 = .pointer (some (q2.add k)) := hp 108 (by kernel_rfl)
                      have h104 : slot t 104 = .bool false := hp 104 (by kernel_rfl)
                      clear hf hp
                      refine stepAt_on 104 false (by kernel_rfl) h104 ?_
                      have hq0 := run_loadI20 ((HIu.out.kept hk).cell k hk2)
                      exact stepOK_sem (.int .i64 (I2 k)) (by simp only [execOp, evS, h108]) hq0 rfl
                    refine ⟨fun t w1 hf hk hp => ?_, ?_⟩
                    · have h109 : slot t 109 = .int .i64 (I2 k) := hp 109 (by kernel_rfl)
                      have h104 : slot t 104 = .bool false := hp 104 (by kernel_rfl)
                      clear hf hp
                      refine stepAt_on 104 false (by kernel_rfl) h104 ?_
                      exact stepOK_pure (.int .i64 mx) (execMax0 (I2 k) mx hmx0.out w1 rfl (by assumption)) rfl
                    refine ⟨fun t w1 hf hk hp => ?_, ?_⟩
                    · have h105 : slot t 105 = .int .i64 (m : Int) := hp 105 (by kernel_rfl)
                      have h110 : slot t 110 = .int .i64 mx := hp 110 (by kernel_rfl)
                      have h104 : slot t 104 = .bool false := hp 104 (by kernel_rfl)
                      clear hf hp
                      refine stepAt_on 104 false (by kernel_rfl) h104 ?_
                      refine stepOK_pure (.bool true) ?_ rfl
                      simp only [execOp, evS, h105, h110]
                      go_simp
                    refine ⟨fun t w1 hf hk hp => ?_, ?_⟩
                    · have h111 : slot t 111 = .bool true := hp 111 (by kernel_rfl)
                      have h104 : slot t 104 = .bool false := hp 104 (by kernel_rfl)
                      clear hf hp
                      refine stepAt_on 104 false (by kernel_rfl) h104 ?_
                      exact stepOK_move _ (.inl rfl) h111
                    refine ⟨fun t w1 hf hk hp => ?_, ?_⟩
                    · have h13 : slot t 13 = .pointer (some ⟨g13, 0, none⟩) := hf 13 (by kernel_rfl)
                      have h112 : slot t 112 = .bool true := hp 112 (by kernel_rfl)
                      clear hf hp
                      refine stepAt_on 112 true (by kernel_rfl) h112 ?_
                      exact stepOK_pure (.agg (bC 32 X11)) (load_h rfl h13 (R13.out.kept hk)) rfl
                    refine ⟨fun t w1 hf hk hp => ?_, ?_⟩
                    · have h11 : slot t 11 = .pointer (some ⟨g11, 0, none⟩) := hf 11 (by kernel_rfl)
                      have h112 : slot t 112 = .bool true := hp 112 (by kernel_rfl)
                      clear hf hp
                      refine stepAt_on 112 true (by kernel_rfl) h112 ?_
                      exact stepOK_pure (.agg (bC 32 X11)) (load_h rfl h11 (R11.out.kept hk)) rfl
                    refine ⟨fun t w1 hf hk hp => ?_, ?_⟩
                    · have h113 : slot t 113 = .agg (bC 32 X11) := hp 113 (by kernel_rfl)
                      have h114 : slot t 114 = .agg (bC 32 X11) := hp 114 (by kernel_rfl)
                      have h112 : slot t 112 = .bool true := hp 112 (by kernel_rfl)
                      clear hf hp
                      refine stepAt_on 112 true (by kernel_rfl) h112 ?_
                      exact stepOK_pure (.bool false) (execNeSelf X11 hl13 w1 rfl h113 h114) rfl
                    refine ⟨fun t w1 hf hk hp => ?_, ?_⟩
                    · have h112 : slot t 112 = .bool true := hp 112 (by kernel_rfl)
                      have h115 : slot t 115 = .bool false := hp 115 (by kernel_rfl)
                      have h104 : slot t 104 = .bool false := hp 104 (by kernel_rfl)
                      clear hf hp
                      refine stepAt_on 104 false (by kernel_rfl) h104 ?_
                      refine stepOK_pure (.bool false) ?_ rfl
                      simp only [execOp, evS, h112, h115]
                      go_simp
                    refine ⟨fun t w1 hf hk hp => ?_, ?_⟩
                    · have h104 : slot t 104 = .bool false := hp 104 (by kernel_rfl)
                      have h116 : slot t 116 = .bool false := hp 116 (by kernel_rfl)
                      clear hf hp
                      refine stepAt_plain rfl ?_
                      refine stepOK_pure (.bool false) ?_ rfl
                      simp only [execOp, evS, h104, h116]
                      go_simp
                    exact trivial
                  · intro t w1 hsz hf hk hfacts
                    have h117 : slot t 117 = .bool false := hfacts 32 _ rfl 117 rfl
                    have h1 : slot t 1 = .slice (some q1) n1 c1 := hf 1 (by kernel_rfl)
                    have h2 : slot t 2 = .slice (some q2) n2 c2 := hf 2 (by kernel_rfl)
                    have h8 : slot t 8 = .int .i64 (k : Int) := hf 8 (by kernel_rfl)
                    have h10 : slot t 10 = .int .i64 (m : Int) := hf 10 (by kernel_rfl)
                    have h11 : slot t 11 = .pointer (some ⟨g11, 0, none⟩) := hf 11 (by kernel_rfl)
                    have h13 : slot t 13 = .pointer (some ⟨g13, 0, none⟩) := hf 13 (by kernel_rfl)
                    have h0 := hf 0 (by kernel_rfl)
                    conv at h0 => rhs; whnf
                    try change slot t 0 = undef at h0
                    have h3 := hf 3 (by kernel_rfl)
                    conv at h3 => rhs; whnf
                    try change slot t 3 = undef at h3
                    have h4 := hf 4 (by kernel_rfl)
                    conv at h4 => rhs; whnf
                    try change slot t 4 = undef at h4
                    have h5 := hf 5 (by kernel_rfl)
                    conv at h5 => rhs; whnf
                    try change slot t 5 = undef at h5
                    have h6 := hf 6 (by kernel_rfl)
                    conv at h6 => rhs; whnf
                    try change slot t 6 = undef at h6
                    have h7 := hf 7 (by kernel_rfl)
                    conv at h7 => rhs; whnf
                    try change slot t 7 = undef at h7
                    have h9 := hf 9 (by kernel_rfl)
                    conv at h9 => rhs; whnf
                    try change slot t 9 = undef at h9
                    have h12 := hf 12 (by kernel_rfl)
                    conv at h12 => rhs; whnf
                    try change slot t 12 = undef at h12
                    have h14 := hf 14 (by kernel_rfl)
                    conv at h14 => rhs; whnf
                    try change slot t 14 = undef at h14
                    have h15 := hf 15 (by kernel_rfl)
                    conv at h15 => rhs; whnf
                    try change slot t 15 = undef at h15
                    have h16 := hf 16 (by kernel_rfl)
                    conv at h16 => rhs; whnf
                    try change slot t 16 = undef at h16
                    have h17 := hf 17 (by kernel_rfl)
                    conv at h17 => rhs; whnf
                    try change slot t 17 = undef at h17
                    have h18 := hf 18 (by kernel_rfl)
                    conv at h18 => rhs; whnf
                    try change slot t 18 = undef at h18
                    have h19 := hf 19 (by kernel_rfl)
                    conv at h19 => rhs; whnf
                    try change slot t 19 = undef at h19
                    have h20 := hf 20 (by kernel_rfl)
                    conv at h20 => rhs; whnf
                    try change slot t 20 = undef at h20
                    have h21 := hf 21 (by kernel_rfl)
                    conv at h21 => rhs; whnf
                    try change slot t 21 = undef at h21
                    have h22 := hf 22 (by kernel_rfl)
                    conv at h22 => rhs; whnf
                    try change slot t 22 = undef at h22
                    have h23 := hf 23 (by kernel_rfl)
                    conv at h23 => rhs; whnf
                    try change slot t 23 = undef at h23
                    have h24 := hf 24 (by kernel_rfl)
                    conv at h24 => rhs; whnf
                    try change slot t 24 = undef at h24
                    have h25 := hf 25 (by kernel_rfl)
                    conv at h25 => rhs; whnf
                    try change slot t 25 = undef at h25
                    have h26 := hf 26 (by kernel_rfl)
                    conv at h26 => rhs; whnf
                    try change slot t 26 = undef at h26
                    have h27 := hf 27 (by kernel_rfl)
                    conv at h27 => rhs; whnf
                    try change slot t 27 = undef at h27
                    have h28 := hf 28 (by kernel_rfl)
                    conv at h28 => rhs; whnf
                    try change slot t 28 = undef at h28
                    have h29 := hf 29 (by kernel_rfl)
                    conv at h29 => rhs; whnf
                    try change slot t 29 = undef at h29
                    have h30 := hf 30 (by kernel_rfl)
                    conv at h30 => rhs; whnf
                    try change slot t 30 = undef at h30
                    have h31 := hf 31 (by kernel_rfl)
                    conv at h31 => rhs; whnf
                    try change slot t 31 = undef at h31
                    have h32 := hf 32 (by kernel_rfl)
                    conv at h32 => rhs; whnf
                    try change slot t 32 = undef at h32
                    have h33 := hf 33 (by kernel_rfl)
                    conv at h33 => rhs; whnf
                    try change slot t 33 = undef at h33
                    have h34 := hf 34 (by kernel_rfl)
                    conv at h34 => rhs; whnf
                    try change slot t 34 = undef at h34
                    have h35 := hf 35 (by kernel_rfl)
                    conv at h35 => rhs; whnf
                    try change slot t 35 = undef at h35
                    have h36 := hf 36 (by kernel_rfl)
                    conv at h36 => rhs; whnf
                    try change slot t 36 = undef at h36
                    have h37 := hf 37 (by kernel_rfl)
                    conv at h37 => rhs; whnf
                    try change slot t 37 = undef at h37
                    have h38 := hf 38 (by kernel_rfl)
                    conv at h38 => rhs; whnf
                    try change slot t 38 = undef at h38
                    have h39 := hf 39 (by kernel_rfl)
                    conv at h39 => rhs; whnf
                    try change slot t 39 = undef at h39
                    have h40 := hf 40 (by kernel_rfl)
                    conv at h40 => rhs; whnf
                    try change slot t 40 = undef at h40
                    have h41 := hf 41 (by kernel_rfl)
                    conv at h41 => rhs; whnf
                    try change slot t 41 = undef at h41
                    have h42 := hf 42 (by kernel_rfl)
                    conv at h42 => rhs; whnf
                    try change slot t 42 = undef at h42
                    have h43 := hf 43 (by kernel_rfl)
                    conv at h43 => rhs; whnf
                    try change slot t 43 = undef at h43
                    have h44 := hf 44 (by kernel_rfl)
                    conv at h44 => rhs; whnf
                    try change slot t 44 = undef at h44
                    have h45 := hf 45 (by kernel_rfl)
                    conv at h45 => rhs; whnf
                    try change slot t 45 = undef at h45
                    have h46 := hf 46 (by kernel_rfl)
                    conv at h46 => rhs; whnf
                    try change slot t 46 = undef at h46
                    have h47 := hf 47 (by kernel_rfl)
                    conv at h47 => rhs; whnf
                    try change slot t 47 = undef at h47
                    have h48 := hf 48 (by kernel_rfl)
                    conv at h48 => rhs; whnf
                    try change slot t 48 = undef at h48
                    have h49 := hf 49 (by kernel_rfl)
                    conv at h49 => rhs; whnf
                    try change slot t 49 = undef at h49
                    have h50 := hf 50 (by kernel_rfl)
                    conv at h50 => rhs; whnf
                    try change slot t 50 = undef at h50
                    have h51 := hf 51 (by kernel_rfl)
                    conv at h51 => rhs; whnf
                    try change slot t 51 = undef at h51
                    have h52 := hf 52 (by kernel_rfl)
                    conv at h52 => rhs; whnf
                    try change slot t 52 = undef at h52
                    have h53 := hf 53 (by kernel_rfl)
                    conv at h53 => rhs; whnf
                    try change slot t 53 = undef at h53
                    have h54 := hf 54 (by kernel_rfl)
                    conv at h54 => rhs; whnf
                    try change slot t 54 = undef at h54
                    have h55 := hf 55 (by kernel_rfl)
                    conv at h55 => rhs; whnf
                    try change slot t 55 = undef at h55
                    have h56 := hf 56 (by kernel_rfl)
                    conv at h56 => rhs; whnf
                    try change slot t 56 = undef at h56
                    have h57 := hf 57 (by kernel_rfl)
                    conv at h57 => rhs; whnf
                    try change slot t 57 = undef at h57
                    have h58 := hf 58 (by kernel_rfl)
                    conv at h58 => rhs; whnf
                    try change slot t 58 = undef at h58
                    have h59 := hf 59 (by kernel_rfl)
                    conv at h59 => rhs; whnf
                    try change slot t 59 = undef at h59
                    have h60 := hf 60 (by kernel_rfl)
                    conv at h60 => rhs; whnf
                    try change slot t 60 = undef at h60
                    have h61 := hf 61 (by kernel_rfl)
                    conv at h61 => rhs; whnf
                    try change slot t 61 = undef at h61
                    have h62 := hf 62 (by kernel_rfl)
                    conv at h62 => rhs; whnf
                    try change slot t 62 = undef at h62
                    have h63 := hf 63 (by kernel_rfl)
                    conv at h63 => rhs; whnf
                    try change slot t 63 = undef at h63
                    have h64 := hf 64 (by kernel_rfl)
                    conv at h64 => rhs; whnf
                    try change slot t 64 = undef at h64
                    have h65 := hf 65 (by kernel_rfl)
                    conv at h65 => rhs; whnf
                    try change slot t 65 = undef at h65
                    have h66 := hf 66 (by kernel_rfl)
                    conv at h66 => rhs; whnf
                    try change slot t 66 = undef at h66
                    have h67 := hf 67 (by kernel_rfl)
                    conv at h67 => rhs; whnf
                    try change slot t 67 = undef at h67
                    have h68 := hf 68 (by kernel_rfl)
                    conv at h68 => rhs; whnf
                    try change slot t 68 = undef at h68
                    have h69 := hf 69 (by kernel_rfl)
                    conv at h69 => rhs; whnf
                    try change slot t 69 = undef at h69
                    have h70 := hf 70 (by kernel_rfl)
                    conv at h70 => rhs; whnf
                    try change slot t 70 = undef at h70
                    have h71 := hf 71 (by kernel_rfl)
                    conv at h71 => rhs; whnf
                    try change slot t 71 = undef at h71
                    have h72 := hf 72 (by kernel_rfl)
                    conv at h72 => rhs; whnf
                    try change slot t 72 = undef at h72
                    have h73 := hf 73 (by kernel_rfl)
                    conv at h73 => rhs; whnf
                    try change slot t 73 = undef at h73
                    have h74 := hf 74 (by kernel_rfl)
                    conv at h74 => rhs; whnf
                    try change slot t 74 = undef at h74
                    have h75 := hf 75 (by kernel_rfl)
                    conv at h75 => rhs; whnf
                    try change slot t 75 = undef at h75
                    have h76 := hf 76 (by kernel_rfl)
                    conv at h76 => rhs; whnf
                    try change slot t 76 = undef at h76
                    have h77 := hf 77 (by kernel_rfl)
                    conv at h77 => rhs; whnf
                    try change slot t 77 = undef at h77
                    have h78 := hf 78 (by kernel_rfl)
                    conv at h78 => rhs; whnf
                    try change slot t 78 = undef at h78
                    have h79 := hf 79 (by kernel_rfl)
                    conv at h79 => rhs; whnf
                    try change slot t 79 = undef at h79
                    have h80 := hf 80 (by kernel_rfl)
                    conv at h80 => rhs; whnf
                    try change slot t 80 = undef at h80
                    have h81 := hf 81 (by kernel_rfl)
                    conv at h81 => rhs; whnf
                    try change slot t 81 = undef at h81
                    have h82 := hf 82 (by kernel_rfl)
                    conv at h82 => rhs; whnf
                    try change slot t 82 = undef at h82
                    have h83 := hf 83 (by kernel_rfl)
                    conv at h83 => rhs; whnf
                    try change slot t 83 = undef at h83
                    have h84 := hf 84 (by kernel_rfl)
                    conv at h84 => rhs; whnf
                    try change slot t 84 = undef at h84
                    have h118 := hf 118 (by kernel_rfl)
                    conv at h118 => rhs; whnf
                    try change slot t 118 = undef at h118
                    have h119 := hf 119 (by kernel_rfl)
                    conv at h119 => rhs; whnf
                    try change slot t 119 = undef at h119
                    have harr : t = #[slot t 0, slot t 1, slot t 2, slot t 3, slot t 4, slot t 5, slot t 6, slot t 7, slot t 8, slot t 9, slot t 10, slot t 11, slot t 12, slot t 13, slot t 14, slot t 15, slot t 16, slot t 17, slot t 18, slot t 19, slot t 20, slot t 21, slot t 22, slot t 23, slot t 24, slot t 25, slot t 26, slot t 27, slot t 28, slot t 29, slot t 30, slot t 31, slot t 32, slot t 33, slot t 34, slot t 35, slot t 36, slot t 37, slot t 38, slot t 39, slot t 40, slot t 41, slot t 42, slot t 43, slot t 44, slot t 45, slot t 46, slot t 47, slot t 48, slot t 49, slot t 50, slot t 51, slot t 52, slot t 53, slot t 54, slot t 55, slot t 56, slot t 57, slot t 58, slot t 59, slot t 60, slot t 61, slot t 62, slot t 63, slot t 64, slot t 65, slot t 66, slot t 67, slot t 68, slot t 69, slot t 70, slot t 71, slot t 72, slot t 73, slot t 74, slot t 75, slot t 76, slot t 77, slot t 78, slot t 79, slot t 80, slot t 81, slot t 82, slot t 83, slot t 84, slot t 85, slot t 86, slot t 87, slot t 88, slot t 89, slot t 90, slot t 91, slot t 92, slot t 93, slot t 94, slot t 95, slot t 96, slot t 97, slot t 98, slot t 99, slot t 100, slot t 101, slot t 102, slot t 103, slot t 104, slot t 105, slot t 106, slot t 107, slot t 108, slot t 109, slot t 110, slot t 111, slot t 112, slot t 113, slot t 114, slot t 115, slot t 116, slot t 117, slot t 118, slot t 119] := arr_eq t 120 hsz
                    rw [harr, h117, h1, h2, h8, h10, h11, h13, h0, h3, h4, h5, h6, h7, h9, h12, h14, h15, h16, h17, h18, h19, h20, h21, h22, h23, h24, h25, h26, h27, h28, h29, h30, h31, h32, h33, h34, h35, h36, h37, h38, h39, h40, h41, h42, h43, h44, h45, h46, h47, h48, h49, h50, h51, h52, h53, h54, h55, h56, h57, h58, h59, h60, h61, h62, h63, h64, h65, h66, h67, h68, h69, h70, h71, h72, h73, h74, h75, h76, h77, h78, h79, h80, h81, h82, h83, h84, h118, h119]
                    clear harr hfacts hf h117 h1 h2 h8 h10 h11 h13 h0 h3 h4 h5 h6 h7 h9 h12 h14 h15 h16 h17 h18 h19 h20 h21 h22 h23 h24 h25 h26 h27 h28 h29 h30 h31 h32 h33 h34 h35 h36 h37 h38 h39 h40 h41 h42 h43 h44 h45 h46 h47 h48 h49 h50 h51 h52 h53 h54 h55 h56 h57 h58 h59 h60 h61 h62 h63 h64 h65 h66 h67 h68 h69 h70 h71 h72 h73 h74 h75 h76 h77 h78 h79 h80 h81 h82 h83 h84 h118 h119
                    generalize slot t 85 = x85; generalize slot t 86 = x86; generalize slot t 87 = x87; generalize slot t 88 = x88; generalize slot t 89 = x89; generalize slot t 90 = x90; generalize slot t 91 = x91; generalize slot t 92 = x92; generalize slot t 93 = x93; generalize slot t 94 = x94; generalize slot t 95 = x95; generalize slot t 96 = x96
                    generalize slot t 97 = x97; generalize slot t 98 = x98; generalize slot t 99 = x99; generalize slot t 100 = x100; generalize slot t 101 = x101; generalize slot t 102 = x102; generalize slot t 103 = x103; generalize slot t 104 = x104; generalize slot t 105 = x105; generalize slot t 106 = x106; generalize slot t 107 = x107; generalize slot t 108 = x108
                    generalize slot t 109 = x109; generalize slot t 110 = x110; generalize slot t 111 = x111; generalize slot t 112 = x112; generalize slot t 113 = x113; generalize slot t 114 = x114; generalize slot t 115 = x115; generalize slot t 116 = x116
                    clear hsz t
                    have KC := Lib.hid (KB.out.trans hk)
                    clear hk
                    go_wp2_with fail
                    go_roundw
                    case rel => exact ⟨m + 1, by omega, by go_num, KC⟩
                    case measure => simp [intOf]; omega
              · have dm : decide ((m : Int) < 257) = false := decide_eq_false (by omega)
                have dm' : decide (m < 257) = false := decide_eq_false hm1
                go_wp2_with fail
                go_roundw
                case rel => exact ⟨k + 1, M, G, by omega, by go_num, Lib.hid ⟨HMa.out.1, HMa.out.2.2, HLast.out⟩, Lib.hid ⟨some q9, c9, rfl, hs1, hs2, H9.out.kept KI.out⟩, Lib.hid (KW.out.trans KI.out)⟩
                case measure => simp [intOf]; omega
      · have hd : decide ((k : Int) < (n1 : Int)) = false := decide_eq_false (by omega)
        have hd' : decide (k < n1) = false := decide_eq_false hk1
        clear X0
        go_wp2_with fail
        refine (HA.out _).mono ?_
        rintro e u9 ⟨rfl, k9⟩
        have KE := Lib.hid (K1.out.trans (KW.out.trans k9))
        clear k9
        go_wp2_with fail
        go_ret
        exact ⟨rfl, KE.out⟩

set_option maxRecDepth 100000 in
set_option maxHeartbeats 1000000 in
theorem lifted (os : Os) (started : os.Started) (H : Type) (enc : TypeId × Value → H) :
    ReturnsInHanded {} Try.checked os 5 .any (Rows.interKeepsSpec.pre6 enc Try.prog Try.f5 Rows.interKeepsRow.domain false) (Rows.interKeepsSpec.post enc Try.prog Try.f5 false true false false) := by
  refine returnsInHanded_of_change_sized (C := Try.checked) own started (by kernel_rfl) Try.func5
    (ChangeSpec.witness6 (enc := enc) (C := Try.checked) false ⟨#[], #[.agg #[.int .u8 0, .int .u8 0, .int .u8 0, .int .u8 0, .int .u8 0, .int .u8 0, .int .u8 0, .int .u8 0, .int .u8 0, .int .u8 0, .int .u8 0, .int .u8 0, .int .u8 0, .int .u8 0, .int .u8 0, .int .u8 0, .int .u8 0, .int .u8 0, .int .u8 0, .int .u8 0, .int .u8 0, .int .u8 0, .int .u8 0, .int .u8 0, .int .u8 0, .int .u8 0, .int .u8 0, .int .u8 0, .int .u8 0, .int .u8 0, .int .u8 0, .int .u8 0], .slice none 0 0, .slice none 0 0], []⟩ 8 (by kernel_rfl) (by kernel_rfl) (by kernel_rfl) (by kernel_rfl)) ?_
  intro W base args ds gs before hval0 hW hcnd hsz0 _
  have hval : ∀ (j : Nat) t v, Try.f5.params[j]? = some t → args[j]? = some v → Value.okWide Try.prog W .any base t v := hval0
  have hsz : (DataW.weightsEach Try.prog (Try.f5.params.toList ++ Rows.interKeepsSpec.plain.varTypes Try.prog) (ds ++ gs)).all (· ≤ reachBytes) = true := hsz0
  have hW' := hW
  obtain ⟨p, q, hA0, hV, rfl, hfz, hnd⟩ := hW
  have hA : DataW.TrodAll enc Try.prog W 0 (fun _ => true) true Try.f5.params.toList args.toList ds p := hA0
  have hAk := hA
  rw [Try.params5] at hA hval hsz
  obtain ⟨v0, vs0, d0, ds0, p0_, q0_, hargs, rfl, rfl, h0, r0_⟩ := trodAll_cons hA
  obtain ⟨v1, vs1, d1, ds1, p1_, q1_, rfl, rfl, rfl, h1, r1_⟩ := trodAll_cons r0_
  obtain ⟨v2, vs2, d2, ds2, p2_, q2_, rfl, rfl, rfl, h2, r2_⟩ := trodAll_cons r1_
  obtain ⟨rfl, rfl, rfl⟩ := trodAll_nil r2_
  obtain rfl : args = #[v0, v1, v2] := by cases args; simp_all
  obtain ⟨rfl, rfl⟩ := trodVars_none hV
  have hlt : ∀ x ∈ (p0_ ++ (p1_ ++ (p2_ ++ ([])))), x.block < W.heap.size := fun x hx => by simpa using hW'.lt x (by simpa using hx)
  obtain ⟨cs0, rfl⟩ : ∃ cs, v0 = .agg cs := by
    have := hval 0 24 v0 rfl rfl
    simp only [Value.okWide, Try.underlying24] at this
    obtain ⟨cs, h, _⟩ := this
    exact ⟨cs, h⟩
  obtain ⟨a0, n0, rfl⟩ := open_hash Try.underlying24 Try.underlying5 (by kernel_rfl) (by kernel_rfl) h0
  obtain ⟨p1, n1, c1, F1, z1, rfl, e1⟩ := open_hslice Try.underlying22 Try.underlying24 (by kernel_rfl) Try.underlying5 (by kernel_rfl) (hval 1 22 v1 rfl rfl) h1
  obtain ⟨p2, n2, c2, I2, z2, rfl, e2, y2⟩ := open_islice Try.underlying33 Try.underlying3 (by kernel_rfl) (hval 2 33 v2 rfl rfl) h2
  clear hA0 hval0
  refine (walk a0 n0 p1 n1 c1 F1 z1 p2 n2 c2 I2 z2 y2 W e1 e2).mono fun e W' ⟨he, hg⟩ => ?_
  subst he
  exact ⟨_, rfl, ⟨_, _, _, [], _, [], hW', trodAll_cons_mk (shut_bool Try.underlying4 _) trodAll_mk0, trodAll_stays laidOut hg (by kernel_rfl) hAk hlt (fun x hx => by simpa using hlt x hx), rfl, Kept.frame hg _, fun h => by cases h⟩⟩

theorem over : Rows.interKeepsRow.holds Try.pinned (OpenSpec.ofChange Rows.interKeepsSpec) :=
  OpenClaim.holds_of_wide 5 Try.f5 rfl rfl rfl rfl rfl rfl rfl ⟨rfl, rfl, rfl, rfl, rfl⟩ rfl rfl rfl rfl rfl (by kernel_rfl) Try.func5 (by kernel_rfl)
    (of_decide_eq_true (by kernel_rfl)) (by unfold Func.isWrapper; first | (rw [if_pos (by decide +kernel)]; kernel_rfl) | (rw [if_neg (by decide +kernel)]; exact ⟨rfl, rfl⟩))
    (fun os started H enc _ => lifted os started H enc)
end Go.Proofs.Ytfadcibmkjpjoaa.interKeeps
namespace Go.Proofs.Ytfadcibmkjpjoaa
theorem interKeeps_holds : Rows.InterKeepsSaid := interKeeps.over
#print axioms interKeeps_holds
end Go.Proofs.Ytfadcibmkjpjoaa
