/-
  Lists that differ have different roots, or two different texts of their trees have one hash, and the law's example holds: 'TreeApart' returns true for every input.
  Conditions: those of the given card (sha's table of round constants as the program's text lays it).
-/
import Derived.Test.YtbjomgbekkgdlaaDoorRows
import Derived.Test.YtbjomgbekkgdlaaDoorTreeClash
import Derived.Test.YtbjomgbekkgdlaaDoorLawLibE
import Derived.WalkKit
import Derived.ProofKit
import Derived.OpenShut
import Derived.ShutString
import Derived.SizedLaws
import Derived.Test.YtbjomgbekkgdlaaDoorLawLib
import Derived.LaidMore
import Derived.SevenTiedAt
import Derived.Test.YtbjomgbekkgdlaaDoorCards
import Derived.Test.YtbjomgbekkgdlaaDoorTie
import Derived.Test.YtbjomgbekkgdlaaDoorShaLaid
namespace Go.Proofs.YtbjomgbekkgdlaaDoor.treeApart
open Go.ChangeShapes Go.WideShapes Go.ChangeAt Go.RowKit
open Go.ChangeMaps (open_string shut_string)
set_option linter.unusedVariables false

theorem own : ownKnob Tryd.prog.godebug = none := by kernel_rfl
theorem laidOut : laidOutB Tryd.prog = true := by kernel_rfl

set_option maxRecDepth 100000 in
set_option maxHeartbeats 4000000 in
theorem walk (p0 : Option Addr) (n0 c0 : Nat) (S0 : Nat → ByteArray) (z0 : n0 ≤ c0 ∧ c0 ≤ maxLen) (r0 : ∀ i, i < n0 → (S0 i).size ≤ 140737488351232) (p1 : Option Addr) (n1 c1 : Nat) (S1 : Nat → ByteArray) (z1 : n1 ≤ c1 ∧ c1 ≤ maxLen) (r1 : ∀ i, i < n1 → (S1 i).size ≤ 140737488351232) (w : World) (e0 : SAt w p0 n0 S0) (e1 : SAt w p1 n1 S1) (hT : Tab w) :
    Calls Tryd.prog 5 #[.slice p0 n0 c0, .slice p1 n1 c1] w fun e w' => e = .returned (.bool true) ∧ Kept w w' := by
  have HM1 : Hid (∀ w, SAt w p0 n0 S0 → _) := Lib.hid fun w h => much12_any p0 n0 c0 S0 w h r0 (by unfold maxLen at z0; omega)
  have HM2 : Hid (∀ w, SAt w p1 n1 S1 → _) := Lib.hid fun w h => much12_any p1 n1 c1 S1 w h r1 (by unfold maxLen at z1; omega)
  have HT := Lib.hid hT
  have HS := Lib.hid e0
  have HR := Lib.hid e1
  have Z0 := Lib.hid z0
  have Z1 := Lib.hid z1
  clear e0 r0 z0 e1 r1 z1 hT
  go_enter Tryd.func5, Tryd.ntmps5
  go_wp2_with fail
  refine (HM1.out w HS.out).mono ?_
  rintro e w1 ⟨B1, rfl, rfl, hB1⟩
  cases B1 with
  | true =>
    go_wp2_with fail
    refine (awake12_any w HT.out).mono ?_
    rintro e w1 ⟨rfl, k1⟩
    replace k1 := Lib.hid k1
    go_wp2_with fail
    go_ret
    exact ⟨rfl, k1.out⟩
  | false =>
    go_wp2_with fail
    refine (HM2.out w HR.out).mono ?_
    rintro e w1 ⟨B2, rfl, rfl, hB2⟩
    cases B2 with
    | true =>
      go_wp2_with fail
      refine (awake12_any w HT.out).mono ?_
      rintro e w1 ⟨rfl, k1⟩
      replace k1 := Lib.hid k1
      go_wp2_with fail
      go_ret
      exact ⟨rfl, k1.out⟩
    | false =>
      obtain ⟨hn, hz⟩ := hB1 trivial
      obtain ⟨hm, hz'⟩ := hB2 rfl
      clear hB1 hB2 HM1 HM2
      have HC := Lib.hid (fun w hS hR => clashes_any p0 p1 n0 n1 c0 c1 S0 S1 w Z0.out Z1.out hS hR (fun i hi => Nat.le_trans (hz i hi) (by omega)) (fun i hi => Nat.le_trans (hz' i hi) (by omega)) (by omega) (by omega))
      have HR1 : Hid (∀ w, SAt w p0 n0 S0 → Tab w → _) := Lib.hid fun w hS ht => treeRoot_any p0 n0 c0 S0 w hS (fun i hi => Nat.le_trans (hz i hi) (by omega)) (by omega) ht
      have HR2 : Hid (∀ w, SAt w p1 n1 S1 → Tab w → _) := Lib.hid fun w hS ht => treeRoot_any p1 n1 c1 S1 w hS (fun i hi => Nat.le_trans (hz' i hi) (by omega)) (by omega) ht
      have HAp : Hid (¬ sameS n0 n1 S0 S1 → rootL S0 n0 = rootL S1 n1 → clashL (allT S0 n0) (allT S1 n1)) := Lib.hid (roots_apart n0 n1 S0 S1 (by omega) (by omega))
      have HSm : Hid (sameS n0 n1 S0 S1 → rootL S0 n0 = rootL S1 n1) := Lib.hid rootL_same
      have hl1 : (rootL S0 n0).length = 32 := shaL_length _
      have hl2 : (rootL S1 n1).length = 32 := shaL_length _
      clear hz hz' Z0 Z1
      generalize clashL (allT S0 n0) (allT S1 n1) = CL at HC HAp
      generalize rootL S0 n0 = A at HR1 HAp HSm hl1
      generalize rootL S1 n1 = B at HR2 HAp HSm hl2
      have HB0 : Hid (((n0 : Int) == (n1 : Int)) = true ↔ n0 = n1 ∧ ∀ j, j < 0 → S0 j = S1 j) := Lib.hid (by rw [beq_nats]; simp)
      go_wp2_with fail
      generalize ((n0 : Int) == (n1 : Int)) = D0 at HB0 ⊢
      go_loopw [5, 6] (fun d i wr => ∃ (k : Nat) (D : Bool), k ≤ n0 ∧ d = .bool D ∧ i = .int .i64 k ∧ Hid (D = true ↔ n0 = n1 ∧ ∀ j, j < k → S0 j = S1 j) ∧ Hid (Kept w wr)) (fun _ i _ => n0 - (intOf i).toNat)
      case atStart => exact ⟨0, D0, by omega, rfl, rfl, HB0, Lib.hid (Kept.refl _)⟩
      case round =>
        clear HB0
        obtain ⟨k, D, hk, rfl, rfl, HD, HK⟩ := hrel
        by_cases hlt : k < n0 ∧ D = true
        · obtain ⟨h1, rfl⟩ := hlt
          have hd1 : decide ((k : Int) < (n0 : Int)) = true := decide_eq_true (by omega)
          have hd1' : decide (k < n0) = true := decide_eq_true h1
          have HN : Hid (n0 = n1 ∧ ∀ j, j < k → S0 j = S1 j) := Lib.hid (HD.out.1 rfl)
          obtain ⟨q, rfl, _⟩ := HS.out.some (by omega)
          obtain ⟨q', rfl, _⟩ := HR.out.some (by have := HN.out.1; omega)
          have h2 : k < n1 := by have := HN.out.1; omega
          clear HD
          go_wp2_with fail
          refine wp_region_table [(29, .is (.slice (some q) n0 c0)), (30, .is (.int .i64 (k : Int))), (31, .is (.pointer (some (q.add k)))), (32, .is (.string (S0 k))), (33, .is (.slice (some q') n1 c1)), (34, .is (.int .i64 (k : Int))), (35, .is (.pointer (some (q'.add k)))), (36, .is (.string (S1 k))), (37, .is (.bool (decide (S0 k = S1 k)))), (5, .is (.bool (decide (S0 k = S1 k))))] (by kernel_rfl) (by kernel_rfl) ?_ ?_
          · refine ⟨fun t w1 hf hk hp => ?_, ?_⟩
            · have h0 : slot t 0 = .slice (some q) n0 c0 := hf 0 (by kernel_rfl)
              clear hf hp
              refine stepAt_plain rfl ?_
              exact stepOK_move _ (.inl rfl) h0
            refine ⟨fun t w1 hf hk hp => ?_, ?_⟩
            · have h6 : slot t 6 = .int .i64 (k : Int) := hf 6 (by kernel_rfl)
              clear hf hp
              refine stepAt_plain rfl ?_
              exact stepOK_move _ (.inl rfl) h6
            refine ⟨fun t w1 hf hk hp => ?_, ?_⟩
            · have h29 : slot t 29 = .slice (some q) n0 c0 := hp 29 (by kernel_rfl)
              have h30 : slot t 30 = .int .i64 (k : Int) := hp 30 (by kernel_rfl)
              clear hf hp
              refine stepAt_plain rfl ?_
              exact stepOK_pure (.pointer (some (q.add k))) (execIndexS q n0 c0 k h1 w1 rfl h29 h30) rfl
            refine ⟨fun t w1 hf hk hp => ?_, ?_⟩
            · have h31 : slot t 31 = .pointer (some (q.add k)) := hp 31 (by kernel_rfl)
              clear hf hp
              refine stepAt_plain rfl ?_
              have hq0 := (HS.out.kept (HK.out.trans hk)).load k h1
              exact stepOK_sem (.string (S0 k)) (by simp only [execOp, evS, h31]) hq0 rfl
            refine ⟨fun t w1 hf hk hp => ?_, ?_⟩
            · have h1 : slot t 1 = .slice (some q') n1 c1 := hf 1 (by kernel_rfl)
              clear hf hp
              refine stepAt_plain rfl ?_
              exact stepOK_move _ (.inl rfl) h1
            refine ⟨fun t w1 hf hk hp => ?_, ?_⟩
            · have h6 : slot t 6 = .int .i64 (k : Int) := hf 6 (by kernel_rfl)
              clear hf hp
              refine stepAt_plain rfl ?_
              exact stepOK_move _ (.inl rfl) h6
            refine ⟨fun t w1 hf hk hp => ?_, ?_⟩
            · have h33 : slot t 33 = .slice (some q') n1 c1 := hp 33 (by kernel_rfl)
              have h34 : slot t 34 = .int .i64 (k : Int) := hp 34 (by kernel_rfl)
              clear hf hp
              refine stepAt_plain rfl ?_
              exact stepOK_pure (.pointer (some (q'.add k))) (execIndexS q' n1 c1 k h2 w1 rfl h33 h34) rfl
            refine ⟨fun t w1 hf hk hp => ?_, ?_⟩
            · have h35 : slot t 35 = .pointer (some (q'.add k)) := hp 35 (by kernel_rfl)
              clear hf hp
              refine stepAt_plain rfl ?_
              have hq0 := (HR.out.kept (HK.out.trans hk)).load k h2
              exact stepOK_sem (.string (S1 k)) (by simp only [execOp, evS, h35]) hq0 rfl
            refine ⟨fun t w1 hf hk hp => ?_, ?_⟩
            · have h32 : slot t 32 = .string (S0 k) := hp 32 (by kernel_rfl)
              have h36 : slot t 36 = .string (S1 k) := hp 36 (by kernel_rfl)
              clear hf hp
              refine stepAt_plain rfl ?_
              exact stepOK_pure (.bool (decide (S0 k = S1 k))) (execEqSd (S0 k) (S1 k) w1 rfl h32 h36) rfl
            refine ⟨fun t w1 hf hk hp => ?_, ?_⟩
            · have h37 : slot t 37 = .bool (decide (S0 k = S1 k)) := hp 37 (by kernel_rfl)
              clear hf hp
              refine stepAt_plain rfl ?_
              exact stepOK_move _ (.inr rfl) h37
            exact trivial
          · intro t w1 hsz hf hk hfacts
            have h5 : slot t 5 = .bool (decide (S0 k = S1 k)) := hfacts 9 _ rfl 5 rfl
            have h0 : slot t 0 = .slice (some q) n0 c0 := hf 0 (by kernel_rfl)
            have h1 : slot t 1 = .slice (some q') n1 c1 := hf 1 (by kernel_rfl)
            have h6 : slot t 6 = .int .i64 (k : Int) := hf 6 (by kernel_rfl)
            have h2 := hf 2 (by kernel_rfl)
            conv at h2 => rhs; whnf
            try change slot t 2 = undef at h2
            have h3 := hf 3 (by kernel_rfl)
            conv at h3 => rhs; whnf
            try change slot t 3 = undef at h3
            have h4 := hf 4 (by kernel_rfl)
            conv at h4 => rhs; whnf
            try change slot t 4 = undef at h4
            have h7 := hf 7 (by kernel_rfl)
            conv at h7 => rhs; whnf
            try change slot t 7 = undef at h7
            have h8 := hf 8 (by kernel_rfl)
            conv at h8 => rhs; whnf
            try change slot t 8 = undef at h8
            have h9 := hf 9 (by kernel_rfl)
            conv at h9 => rhs; whnf
            try change slot t 9 = undef at h9
            have h10 := hf 10 (by kernel_rfl)
            conv at h10 => rhs; whnf
            try change slot t 10 = undef at h10
            have h11 := hf 11 (by kernel_rfl)
            conv at h11 => rhs; whnf
            try change slot t 11 = undef at h11
            have h12 := hf 12 (by kernel_rfl)
            conv at h12 => rhs; whnf
            try change slot t 12 = undef at h12
            have h13 := hf 13 (by kernel_rfl)
            conv at h13 => rhs; whnf
            try change slot t 13 = undef at h13
            have h14 := hf 14 (by kernel_rfl)
            conv at h14 => rhs; whnf
            try change slot t 14 = undef at h14
            have h15 := hf 15 (by kernel_rfl)
            conv at h15 => rhs; whnf
            try change slot t 15 = undef at h15
            have h16 := hf 16 (by kernel_rfl)
            conv at h16 => rhs; whnf
            try change slot t 16 = undef at h16
            have h17 := hf 17 (by kernel_rfl)
            conv at h17 => rhs; whnf
            try change slot t 17 = undef at h17
            have h18 := hf 18 (by kernel_rfl)
            conv at h18 => rhs; whnf
            try change slot t 18 = undef at h18
            have h19 := hf 19 (by kernel_rfl)
            conv at h19 => rhs; whnf
            try change slot t 19 = undef at h19
            have h20 := hf 20 (by kernel_rfl)
            conv at h20 => rhs; whnf
            try change slot t 20 = undef at h20
            have h21 := hf 21 (by kernel_rfl)
            conv at h21 => rhs; whnf
            try change slot t 21 = undef at h21
            have h22 := hf 22 (by kernel_rfl)
            conv at h22 => rhs; whnf
            try change slot t 22 = undef at h22
            have h23 := hf 23 (by kernel_rfl)
            conv at h23 => rhs; whnf
            try change slot t 23 = undef at h23
            have h24 := hf 24 (by kernel_rfl)
            conv at h24 => rhs; whnf
            try change slot t 24 = undef at h24
            have h25 := hf 25 (by kernel_rfl)
            conv at h25 => rhs; whnf
            try change slot t 25 = undef at h25
            have h26 := hf 26 (by kernel_rfl)
            conv at h26 => rhs; whnf
            try change slot t 26 = undef at h26
            have h27 := hf 27 (by kernel_rfl)
            conv at h27 => rhs; whnf
            try change slot t 27 = undef at h27
            have h28 := hf 28 (by kernel_rfl)
            conv at h28 => rhs; whnf
            try change slot t 28 = undef at h28
            have h38 := hf 38 (by kernel_rfl)
            conv at h38 => rhs; whnf
            try change slot t 38 = undef at h38
            have h39 := hf 39 (by kernel_rfl)
            conv at h39 => rhs; whnf
            try change slot t 39 = undef at h39
            have h40 := hf 40 (by kernel_rfl)
            conv at h40 => rhs; whnf
            try change slot t 40 = undef at h40
            have h41 := hf 41 (by kernel_rfl)
            conv at h41 => rhs; whnf
            try change slot t 41 = undef at h41
            have h42 := hf 42 (by kernel_rfl)
            conv at h42 => rhs; whnf
            try change slot t 42 = undef at h42
            have h43 := hf 43 (by kernel_rfl)
            conv at h43 => rhs; whnf
            try change slot t 43 = undef at h43
            have h44 := hf 44 (by kernel_rfl)
            conv at h44 => rhs; whnf
            try change slot t 44 = undef at h44
            have h45 := hf 45 (by kernel_rfl)
            conv at h45 => rhs; whnf
            try change slot t 45 = undef at h45
            have h46 := hf 46 (by kernel_rfl)
            conv at h46 => rhs; whnf
            try change slot t 46 = undef at h46
            have h47 := hf 47 (by kernel_rfl)
            conv at h47 => rhs; whnf
            try change slot t 47 = undef at h47
            have h48 := hf 48 (by kernel_rfl)
            conv at h48 => rhs; whnf
            try change slot t 48 = undef at h48
            have h49 := hf 49 (by kernel_rfl)
            conv at h49 => rhs; whnf
            try change slot t 49 = undef at h49
            have h50 := hf 50 (by kernel_rfl)
            conv at h50 => rhs; whnf
            try change slot t 50 = undef at h50
            have h51 := hf 51 (by kernel_rfl)
            conv at h51 => rhs; whnf
            try change slot t 51 = undef at h51
            have h52 := hf 52 (by kernel_rfl)
            conv at h52 => rhs; whnf
            try change slot t 52 = undef at h52
            have h53 := hf 53 (by kernel_rfl)
            conv at h53 => rhs; whnf
            try change slot t 53 = undef at h53
            have h54 := hf 54 (by kernel_rfl)
            conv at h54 => rhs; whnf
            try change slot t 54 = undef at h54
            have h55 := hf 55 (by kernel_rfl)
            conv at h55 => rhs; whnf
            try change slot t 55 = undef at h55
            have h56 := hf 56 (by kernel_rfl)
            conv at h56 => rhs; whnf
            try change slot t 56 = undef at h56
            have h57 := hf 57 (by kernel_rfl)
            conv at h57 => rhs; whnf
            try change slot t 57 = undef at h57
            have harr : t = #[slot t 0, slot t 1, slot t 2, slot t 3, slot t 4, slot t 5, slot t 6, slot t 7, slot t 8, slot t 9, slot t 10, slot t 11, slot t 12, slot t 13, slot t 14, slot t 15, slot t 16, slot t 17, slot t 18, slot t 19, slot t 20, slot t 21, slot t 22, slot t 23, slot t 24, slot t 25, slot t 26, slot t 27, slot t 28, slot t 29, slot t 30, slot t 31, slot t 32, slot t 33, slot t 34, slot t 35, slot t 36, slot t 37, slot t 38, slot t 39, slot t 40, slot t 41, slot t 42, slot t 43, slot t 44, slot t 45, slot t 46, slot t 47, slot t 48, slot t 49, slot t 50, slot t 51, slot t 52, slot t 53, slot t 54, slot t 55, slot t 56, slot t 57] := arr_eq t 58 hsz
            rw [harr, h5, h0, h1, h6, h2, h3, h4, h7, h8, h9, h10, h11, h12, h13, h14, h15, h16, h17, h18, h19, h20, h21, h22, h23, h24, h25, h26, h27, h28, h38, h39, h40, h41, h42, h43, h44, h45, h46, h47, h48, h49, h50, h51, h52, h53, h54, h55, h56, h57]
            clear harr hfacts hf h5 h0 h1 h6 h2 h3 h4 h7 h8 h9 h10 h11 h12 h13 h14 h15 h16 h17 h18 h19 h20 h21 h22 h23 h24 h25 h26 h27 h28 h38 h39 h40 h41 h42 h43 h44 h45 h46 h47 h48 h49 h50 h51 h52 h53 h54 h55 h56 h57
            generalize slot t 29 = x29; generalize slot t 30 = x30; generalize slot t 31 = x31; generalize slot t 32 = x32; generalize slot t 33 = x33; generalize slot t 34 = x34; generalize slot t 35 = x35; generalize slot t 36 = x36; generalize slot t 37 = x37
            clear hsz t
            have HK1 := Lib.hid (HK.out.trans hk)
            have HD1 : Hid (decide (S0 k = S1 k) = true ↔ n0 = n1 ∧ ∀ j, j < k + 1 → S0 j = S1 j) := Lib.hid (by
              have hN := HN.out
              rw [decide_eq_true_iff]
              constructor
              · intro e
                refine ⟨hN.1, fun j hj => ?_⟩
                rcases Nat.lt_or_eq_of_le (show j ≤ k by omega) with h | h
                · exact hN.2 j h
                · subst h; exact e
              · intro h; exact h.2 k (by omega))
            clear hk HK HN
            generalize decide (S0 k = S1 k) = D1 at HD1 ⊢
            go_wp2
            go_roundw
            case rel => exact ⟨k + 1, D1, by omega, rfl, by go_num, HD1, HK1⟩
            case measure => simp [intOf]; omega
        · have HE : Hid (D = true ↔ sameS n0 n1 S0 S1) := Lib.hid (by
            constructor
            · intro hD
              have h := HD.out.1 hD
              have : k = n0 := Classical.byContradiction fun hne => hlt ⟨by omega, hD⟩
              subst this
              exact h
            · intro h
              exact HD.out.2 ⟨h.1, fun j hj => h.2 j (by omega)⟩)
          have HQ : Hid (D = true → A = B) := Lib.hid fun hD => HSm.out (HE.out.1 hD)
          have HP : Hid (D = false → A = B → CL) := Lib.hid fun hD => HAp.out (fun h => by have := HE.out.2 h; rw [hD] at this; cases this)
          have hdD : k < n0 → D = false := fun h => by
            cases D with
            | false => rfl
            | true => exact absurd ⟨h, rfl⟩ hlt
          clear HE HD HSm HAp hlt
          by_cases h1 : k < n0
          · obtain rfl := hdD h1
            have hd1 : decide ((k : Int) < (n0 : Int)) = true := decide_eq_true (by omega)
            have hd1' : decide (k < n0) = true := decide_eq_true h1
            clear hdD
            cases hq : decide (A = B) with
            | true =>
              have HCL := Lib.hid (HP.out rfl (of_decide_eq_true hq))
              replace hq := Lib.hid hq
              clear HP HQ
              go_wp2_with fail
              refine (HR1.out _ (HS.out.kept HK.out) (HT.out.kept HK.out)).mono ?_
              rintro e w2 ⟨rfl, k2⟩
              have K2 := Lib.hid (HK.out.trans k2)
              clear k2 HK HR1
              go_wp2_with fail
              refine (HR2.out _ (HR.out.kept K2.out) (HT.out.kept K2.out)).mono ?_
              rintro e w3 ⟨rfl, k3⟩
              have K3 := Lib.hid (K2.out.trans k3)
              clear k3 K2 HR2
              go_wp2_with (refine wpList_exec 42 rfl (by rfl) (.bool true) _ (by rw [← hq.out]; exact execEqHs A B hl1 hl2 _ rfl rfl rfl) ?_)
              refine (HC.out _ (HS.out.kept K3.out) (HR.out.kept K3.out)).mono ?_
              rintro e w4 ⟨B4, rfl, hB4, k4⟩
              obtain rfl : B4 = true := hB4.2 HCL.out
              have K4 := Lib.hid (K3.out.trans k4)
              clear k4 K3 HC hB4
              go_wp2_with fail
              refine (awake12_any _ (HT.out.kept K4.out)).mono ?_
              rintro e w5 ⟨rfl, k5⟩
              have K5 := Lib.hid (K4.out.trans k5)
              clear k5 K4
              go_wp2_with fail
              go_ret
              exact ⟨rfl, K5.out⟩
            | false =>
              replace hq := Lib.hid hq
              clear HP HQ
              go_wp2_with fail
              refine (HR1.out _ (HS.out.kept HK.out) (HT.out.kept HK.out)).mono ?_
              rintro e w2 ⟨rfl, k2⟩
              have K2 := Lib.hid (HK.out.trans k2)
              clear k2 HK HR1
              go_wp2_with fail
              refine (HR2.out _ (HR.out.kept K2.out) (HT.out.kept K2.out)).mono ?_
              rintro e w3 ⟨rfl, k3⟩
              have K3 := Lib.hid (K2.out.trans k3)
              clear k3 K2 HR2
              go_wp2_with (refine wpList_exec 42 rfl (by rfl) (.bool false) _ (by rw [← hq.out]; exact execEqHs A B hl1 hl2 _ rfl rfl rfl) ?_)
              refine (awake12_any _ (HT.out.kept K3.out)).mono ?_
              rintro e w5 ⟨rfl, k5⟩
              have K5 := Lib.hid (K3.out.trans k5)
              clear k5 K3
              go_wp2_with fail
              go_ret
              exact ⟨rfl, K5.out⟩
          · have hd1 : decide ((k : Int) < (n0 : Int)) = false := decide_eq_false (by omega)
            have hd1' : decide (k < n0) = false := decide_eq_false h1
            clear hdD
            cases D with
            | true =>
              have hq := Lib.hid (decide_eq_true (HQ.out rfl))
              clear HP HQ
              go_wp2_with fail
              refine (HR1.out _ (HS.out.kept HK.out) (HT.out.kept HK.out)).mono ?_
              rintro e w2 ⟨rfl, k2⟩
              have K2 := Lib.hid (HK.out.trans k2)
              clear k2 HK HR1
              go_wp2_with fail
              refine (HR2.out _ (HR.out.kept K2.out) (HT.out.kept K2.out)).mono ?_
              rintro e w3 ⟨rfl, k3⟩
              have K3 := Lib.hid (K2.out.trans k3)
              clear k3 K2 HR2
              go_wp2_with (refine wpList_exec 42 rfl (by rfl) (.bool true) _ (by rw [← hq.out]; exact execEqHs A B hl1 hl2 _ rfl rfl rfl) ?_)
              refine (awake12_any _ (HT.out.kept K3.out)).mono ?_
              rintro e w5 ⟨rfl, k5⟩
              have K5 := Lib.hid (K3.out.trans k5)
              clear k5 K3
              go_wp2_with fail
              go_ret
              exact ⟨rfl, K5.out⟩
            | false =>
              cases hq : decide (A = B) with
              | true =>
                have HCL := Lib.hid (HP.out rfl (of_decide_eq_true hq))
                replace hq := Lib.hid hq
                clear HP HQ
                go_wp2_with fail
                refine (HR1.out _ (HS.out.kept HK.out) (HT.out.kept HK.out)).mono ?_
                rintro e w2 ⟨rfl, k2⟩
                have K2 := Lib.hid (HK.out.trans k2)
                clear k2 HK HR1
                go_wp2_with fail
                refine (HR2.out _ (HR.out.kept K2.out) (HT.out.kept K2.out)).mono ?_
                rintro e w3 ⟨rfl, k3⟩
                have K3 := Lib.hid (K2.out.trans k3)
                clear k3 K2 HR2
                go_wp2_with (refine wpList_exec 42 rfl (by rfl) (.bool true) _ (by rw [← hq.out]; exact execEqHs A B hl1 hl2 _ rfl rfl rfl) ?_)
                refine (HC.out _ (HS.out.kept K3.out) (HR.out.kept K3.out)).mono ?_
                rintro e w4 ⟨B4, rfl, hB4, k4⟩
                obtain rfl : B4 = true := hB4.2 HCL.out
                have K4 := Lib.hid (K3.out.trans k4)
                clear k4 K3 HC hB4
                go_wp2_with fail
                refine (awake12_any _ (HT.out.kept K4.out)).mono ?_
                rintro e w5 ⟨rfl, k5⟩
                have K5 := Lib.hid (K4.out.trans k5)
                clear k5 K4
                go_wp2_with fail
                go_ret
                exact ⟨rfl, K5.out⟩
              | false =>
                replace hq := Lib.hid hq
                clear HP HQ
                go_wp2_with fail
                refine (HR1.out _ (HS.out.kept HK.out) (HT.out.kept HK.out)).mono ?_
                rintro e w2 ⟨rfl, k2⟩
                have K2 := Lib.hid (HK.out.trans k2)
                clear k2 HK HR1
                go_wp2_with fail
                refine (HR2.out _ (HR.out.kept K2.out) (HT.out.kept K2.out)).mono ?_
                rintro e w3 ⟨rfl, k3⟩
                have K3 := Lib.hid (K2.out.trans k3)
                clear k3 K2 HR2
                go_wp2_with (refine wpList_exec 42 rfl (by rfl) (.bool false) _ (by rw [← hq.out]; exact execEqHs A B hl1 hl2 _ rfl rfl rfl) ?_)
                refine (awake12_any _ (HT.out.kept K3.out)).mono ?_
                rintro e w5 ⟨rfl, k5⟩
                have K5 := Lib.hid (K3.out.trans k5)
                clear k5 K3
                go_wp2_with fail
                go_ret
                exact ⟨rfl, K5.out⟩

set_option maxRecDepth 100000 in
set_option maxHeartbeats 1000000 in
theorem lifted (os : Os) (started : os.Started) (H : Type) (enc : TypeId × Value → H) :
    ReturnsInHanded {} Tryd.checked os 5 .any (fun w args => (Rows.treeApartSpec.pre enc Tryd.prog Tryd.f5 [] false w args ∧ laidMetH Tryd.prog Rows.treeApartRow.laid w) ∧ sizedMet enc Tryd.prog Tryd.f5 (OpenSpec.ofChange Rows.treeApartSpec) false w args)
      (Rows.treeApartSpec.post enc Tryd.prog Tryd.f5 false true false false) := by
  refine returnsInHanded_of_change_and (C := Tryd.checked) (X := fun w _ => laidMetH Tryd.prog Rows.treeApartRow.laid w) (fun _ _ _ hh h => h.of_heap hh) own started (by kernel_rfl) Tryd.func5
    (ChangeSpec.witness_shaped (enc := enc) (C := Tryd.checked) (os := os) (X := fun w _ => laidMetH Tryd.prog Rows.treeApartRow.laid w) false (World.doorLaid Tryd.prog 400 os) #[.slice none 0 0, .slice none 0 0] 8 rfl (World.shaped_of_RefB (by kernel_rfl) (by kernel_rfl)) (by kernel_rfl) (by kernel_rfl) (by kernel_rfl) (door_met os _)) ?_
  intro W base args ds gs before hval0 hW _ hsz0 hL _
  have hval : ∀ (j : Nat) t v, Tryd.f5.params[j]? = some t → args[j]? = some v → Value.okWide Tryd.prog W .any base t v := hval0
  have hsz : (DataW.weightsEach Tryd.prog (Tryd.f5.params.toList ++ Rows.treeApartSpec.plain.varTypes Tryd.prog) (ds ++ gs)).all (· ≤ reachBytes) = true := hsz0
  have hW' := hW
  obtain ⟨p, q, hA0, hV, rfl, hfz, hnd⟩ := hW
  have hA : DataW.TrodAll enc Tryd.prog W 0 (fun _ => true) true Tryd.f5.params.toList args.toList ds p := hA0
  have hAk := hA
  rw [Tryd.params5] at hA hval hsz
  obtain ⟨v0, vs0, d0, ds0, p0_, q0_, hargs, rfl, rfl, h0, r0_⟩ := trodAll_cons hA
  obtain ⟨v1, vs1, d1, ds1, p1_, q1_, rfl, rfl, rfl, h1, r1_⟩ := trodAll_cons r0_
  obtain ⟨rfl, rfl, rfl⟩ := trodAll_nil r1_
  obtain rfl : args = #[v0, v1] := by cases args; simp_all
  obtain ⟨rfl, rfl⟩ := trodVars_none hV
  have hlt : ∀ x ∈ (p0_ ++ (p1_ ++ ([]))), x.block < W.heap.size := fun x hx => by simpa using hW'.lt x (by simpa using hx)
  obtain ⟨p0, n0, c0, S0, z0, rfl, e0, rr0⟩ := open_sslice Tryd.underlying22 Tryd.underlying9 (by kernel_rfl) (hval 0 22 v0 rfl rfl) h0
  obtain ⟨p1, n1, c1, S1, z1, rfl, e1, rr1⟩ := open_sslice Tryd.underlying22 Tryd.underlying9 (by kernel_rfl) (hval 1 22 v1 rfl rfl) h1
  have r0 := (rr0 hsz (J := 0) rfl rfl).2
  have r1 := (rr1 hsz (J := 1) rfl rfl).2
  clear hA0 hval0
  refine (walk p0 n0 c0 S0 z0 r0 p1 n1 c1 S1 z1 r1 W e0 e1 (tab_of_laid hL)).mono fun e W' ⟨he, hg⟩ => ?_
  subst he
  exact ⟨_, rfl, ⟨_, _, _, [], _, [], hW', trodAll_cons_mk (shut_bool Tryd.underlying4 _) trodAll_mk0, trodAll_stays laidOut hg (by kernel_rfl) hAk hlt (fun x hx => by simpa using hlt x hx), rfl, Kept.frame hg _, fun h => by cases h⟩⟩

theorem over : Rows.treeApartRow.holds Tryd.pinned (OpenSpec.ofChange Rows.treeApartSpec) :=
  OpenClaim.holds_of_wide 5 Tryd.f5 rfl rfl rfl rfl rfl rfl rfl ⟨rfl, rfl, rfl, rfl, rfl⟩ rfl rfl rfl rfl rfl (by kernel_rfl) Tryd.func5 (by kernel_rfl)
    (of_decide_eq_true (by kernel_rfl)) (by unfold Func.isWrapper; first | (rw [if_pos (by decide +kernel)]; kernel_rfl) | (rw [if_neg (by decide +kernel)]; exact ⟨rfl, rfl⟩))
    (fun os started H enc _ => lifted os started H enc)
end Go.Proofs.YtbjomgbekkgdlaaDoor.treeApart
namespace Go.Proofs.YtbjomgbekkgdlaaDoor
theorem treeApart_holds : Rows.TreeApartSaid := treeApart.over
theorem treeApart_card : Rows.TreeApartCardSaid :=
  Claim7.holds_tied_plain_at .later [] [.data] true (true, "16680ee99572903cff2778b9fdd74bc0ae8ae01935b64b2c2c76b27edb33b269") false
    treeApart_holds (fun _ h => by cases h) (by kernel_rfl) (fun _ h => by cases h) treeApart_row_tie rfl ⟨rfl, rfl⟩ (by kernel_rfl) rfl
    (fun f fn hf hfn => by
      obtain rfl : f = 5 := Option.some.inj ((show Tryd.prog.funcNamed "milepost/milepostlaw12.TreeApart" = some 5 by kernel_rfl).symm.trans hf) |>.symm
      obtain rfl : fn = Tryd.f5 := (Option.some.inj (Tryd.func5.symm.trans hfn)).symm
      refine ⟨by kernel_rfl, fun j t ht => ?_⟩
      have hm : t ∈ Tryd.f5.params.toList := by simpa using Array.mem_of_getElem? ht
      have hall : (Tryd.f5.params.toList.all fun u => !Tryd.prog.wantsStandIn u) = true := by kernel_rfl
      exact (show Tryd.prog.wantsStandIn t = false by simpa using List.all_eq_true.1 hall t hm))
    (by kernel_rfl)
#print axioms treeApart_card
end Go.Proofs.YtbjomgbekkgdlaaDoor
