/-
  Of leaves and hashes that may be, each leaf's opening by One determines the root that all determine together; of others One tells that there is none; the law's example holds: 'MultiAlone' returns true for every input.
  Conditions: those of the given card (sha's table of round constants as the program's text lays it).
-/
import Derived.Test.YtggpjhldmaflaaaDoorRows
import Derived.Test.YtggpjhldmaflaaaDoorMultiWalkE
import Derived.Test.YtggpjhldmaflaaaDoorMultiAwake
import Derived.Test.YtggpjhldmaflaaaDoorMultiLaw
import Derived.Test.YtggpjhldmaflaaaDoorLawLibH
import Derived.Test.YtggpjhldmaflaaaDoorLateLib
import Derived.WalkKit
import Derived.ProofKit
import Derived.OpenShut
import Derived.ShutString
import Derived.SizedLaws
import Derived.Test.YtggpjhldmaflaaaDoorBas
import Derived.LaidMore
import Derived.SevenTiedAt
import Derived.Test.YtggpjhldmaflaaaDoorCards
import Derived.Test.YtggpjhldmaflaaaDoorTie
import Derived.Test.YtggpjhldmaflaaaDoorShb
namespace Go.Proofs.YtggpjhldmaflaaaDoor.multiAlone
open Go.ChangeShapes Go.WideShapes Go.ChangeAt Go.RowKit
open Go.ChangeMaps (open_string shut_string)
set_option linter.unusedVariables false

theorem own : ownKnob Tryd.prog.godebug = none := by kernel_rfl
theorem laidOut : laidOutB Tryd.prog = true := by kernel_rfl

set_option maxRecDepth 100000 in
set_option maxHeartbeats 4000000 in
theorem walk (p0 : Option Addr) (n0 c0 : Nat) (S0 : Nat → ByteArray) (z0 : n0 ≤ c0 ∧ c0 ≤ maxLen) (r0 : ∀ i, i < n0 → (S0 i).size ≤ 140737488351232) (a1 : Int) (p1 : Option Addr) (n1 c1 : Nat) (I1 : Nat → Int) (q1 : Option Addr) (m1 d1 : Nat) (F1 : Nat → List UInt8) (w1 : (Lit.int .i64 a1).wf = true) (z1 : n1 ≤ c1 ∧ c1 ≤ maxLen) (y1 : ∀ i, i < n1 → (Lit.int .i64 (I1 i)).wf = true) (x1 : m1 ≤ d1 ∧ d1 ≤ maxLen) (a2 : Int) (w2 : (Lit.int .i64 a2).wf = true) (w : World) (e0 : SAt w p0 n0 S0) (e1 : IAt w p1 n1 I1) (f1 : HAt w q1 m1 F1) (hT : Tab w) :
    Calls Tryd.prog 6 #[.slice p0 n0 c0, .agg #[.int .i64 a1, .slice p1 n1 c1, .slice q1 m1 d1], .int .i64 a2] w fun e w' => e = .returned (.bool true) ∧ Kept w w' := by
  have K1 := Lib.hid ((Kept.refl w).alloc (.cells #[.int .i64 a1, .slice p1 n1 c1, .slice q1 m1 d1] 28))
  have R4 := Lib.hid (Rowz.new w #[.int .i64 a1, .slice p1 n1 c1, .slice q1 m1 d1] 28)
  have HS := Lib.hid (e0.kept K1.out)
  have HI := Lib.hid (e1.kept K1.out)
  have HH : Hid (HSl m1 F1 (.slice q1 m1 d1) _) := Lib.hid (HSl.kept _ _ _ _ _ K1.out ⟨q1, d1, rfl, x1.1, x1.2, f1⟩)
  have HT := Lib.hid (hT.kept K1.out)
  have HM0 := Lib.hid (much12_any p0 n0 c0 S0 _ HS.out r0 (by unfold maxLen at z0; omega))
  have HA : Hid (∀ w, _) := Lib.hid fun w => awake16_any w
  clear hT e0 e1 f1 r0 w1 y1 w2
  go_enter Tryd.func6, Tryd.ntmps6
  go_wp2_with fail
  change Calls _ _ _ (w.alloc (.cells #[.int .i64 a1, .slice p1 n1 c1, .slice q1 m1 d1] 28)) _
  generalize w.alloc (.cells #[.int .i64 a1, .slice p1 n1 c1, .slice q1 m1 d1] 28) = v0 at K1 R4 HS HI HH HT HM0 ⊢
  refine HM0.out.mono ?_
  rintro e u0 ⟨B, rfl, rfl, hB⟩
  have f0 := R4.out.cell 0
  have f1 := R4.out.cell 1
  have f2 := R4.out.cell 2
  cases B with
  | true =>
    go_wp2_with fail
    refine (HA.out v0).mono ?_
    rintro e u1 ⟨rfl, k1⟩
    have K2 := Lib.hid (K1.out.trans k1)
    clear k1
    go_wp2_with fail
    go_ret
    exact ⟨rfl, K2.out⟩
  | false =>
    obtain ⟨hn0, hz0⟩ := hB rfl
    clear hB HM0
    by_cases hbig : 100 < a1 ∧ a1 ≤ 1048576
    · have hd1 : decide (a1 > 100) = true := decide_eq_true hbig.1
      have hd1' : decide (100 < a1) = true := decide_eq_true hbig.1
      have hd2 : decide (a1 ≤ 1048576) = true := decide_eq_true hbig.2
      go_wp2_with fail
      refine (HA.out v0).mono ?_
      rintro e u1 ⟨rfl, k1⟩
      have K2 := Lib.hid (K1.out.trans k1)
      clear k1
      go_wp2_with fail
      go_ret
      exact ⟨rfl, K2.out⟩
    · obtain ⟨E1, hE1⟩ : ∃ E, E = decide (a1 > 100) := ⟨_, rfl⟩
      have hd1 : decide (a1 > 100) = E1 := hE1.symm
      have hd1' : decide (100 < a1) = E1 := hE1.symm
      have hd2 : E1 = true → decide (a1 ≤ 1048576) = false := fun h => decide_eq_false fun h2 => hbig ⟨of_decide_eq_true (hE1.symm.trans h), h2⟩
      clear hE1
      by_cases hn1 : 200 < n1
      · have hd3 : decide ((n1 : Int) > 200) = true := decide_eq_true (by omega)
        have hd3' : decide ((200 : Int) < (n1 : Int)) = true := decide_eq_true (by omega)
        cases E1 with
        | true =>
          replace hd2 := hd2 rfl
          go_wp2_with fail
          refine (HA.out v0).mono ?_
          rintro e u1 ⟨rfl, k1⟩
          have K2 := Lib.hid (K1.out.trans k1)
          clear k1
          go_wp2_with fail
          go_ret
          exact ⟨rfl, K2.out⟩
        | false =>
          clear hd2
          go_wp2_with fail
          refine (HA.out v0).mono ?_
          rintro e u1 ⟨rfl, k1⟩
          have K2 := Lib.hid (K1.out.trans k1)
          clear k1
          go_wp2_with fail
          go_ret
          exact ⟨rfl, K2.out⟩
      · have hd3 : decide ((n1 : Int) > 200) = false := decide_eq_false (by omega)
        have hd3' : decide ((200 : Int) < (n1 : Int)) = false := decide_eq_false (by omega)
        by_cases hm1 : 200 < m1
        · have hd4 : decide ((m1 : Int) > 200) = true := decide_eq_true (by omega)
          have hd4' : decide ((200 : Int) < (m1 : Int)) = true := decide_eq_true (by omega)
          cases E1 with
          | true =>
            replace hd2 := hd2 rfl
            go_wp2_with fail
            refine (HA.out v0).mono ?_
            rintro e u1 ⟨rfl, k1⟩
            have K2 := Lib.hid (K1.out.trans k1)
            clear k1
            go_wp2_with fail
            go_ret
            exact ⟨rfl, K2.out⟩
          | false =>
            clear hd2
            go_wp2_with fail
            refine (HA.out v0).mono ?_
            rintro e u1 ⟨rfl, k1⟩
            have K2 := Lib.hid (K1.out.trans k1)
            clear k1
            go_wp2_with fail
            go_ret
            exact ⟨rfl, K2.out⟩
        · have hd4 : decide ((m1 : Int) > 200) = false := decide_eq_false (by omega)
          have hd4' : decide ((200 : Int) < (m1 : Int)) = false := decide_eq_false (by omega)
          cases E1 with
          | true =>
            replace hd2 := hd2 rfl
            have hz0' : ∀ i, i < n0 → (S0 i).size ≤ 1000000 := fun i hi => Nat.le_trans (hz0 i hi) (by omega)
            have hR := Lib.hid (multiRoot_any p0 n0 c0 S0 a1 p1 n1 c1 I1 q1 m1 d1 F1 v0 HS.out z0.1 z0.2 hz0' HI.out z1.1 z1.2 (by omega) HH.out HT.out)
            have hO : Hid (∀ w, SAt w p0 n0 S0 → IAt w p1 n1 I1 → HSl m1 F1 (.slice q1 m1 d1) w → Tab w → _) := Lib.hid fun w hS hI hH ht => multiOne_any p0 n0 c0 S0 a1 p1 n1 c1 I1 q1 m1 d1 F1 a2 w hS z0.1 z0.2 hz0' hI z1.1 z1.2 (by omega) hH ht
            have hR32 := rtM_length n0 S0 a1 n1 I1 m1 F1
            have hOB : Hid (onB n0 a1 n1 I1 m1 a2 = decide (mayM (n0 : Int) a1 n1 I1 m1 = 0 ∧ 0 ≤ a2 ∧ a2 < (n1 : Int))) := Lib.hid rfl
            have hal : Hid (∀ k : Nat, a2 = (k : Int) → k < n1 → mayM (n0 : Int) a1 n1 I1 m1 = 0 → _) := Lib.hid fun k hk1 hk h => one_alone S0 F1 h hk
            have hnn : Hid (mayM (n0 : Int) a1 n1 I1 m1 = 0 → n0 = n1) := Lib.hid fun h => by
              obtain ⟨_, _, _, _, _, h5, _⟩ := mayM_nat h
              exact h5
            go_wp2_with (refine park_at 40 rfl ?_)
            refine unpark ?_
            clear f0 f1 f2
            refine wpList_exec 40 rfl (by rfl) (.agg #[.int .i64 a1, .slice p1 n1 c1, .slice q1 m1 d1]) _ (loadMany rfl rfl R4.out rfl) ?_
            go_wp2_with fail
            refine hR.out.mono ?_
            rintro e u2 ⟨rfl, k2⟩
            have K2 := Lib.hid k2
            replace R4 := Lib.hid (R4.out.kept k2)
            clear k2 hR
            go_wp2_with (first
              | (refine wpList_store_made rfl 38 _ _ rfl _ _ (bC 32 (rtM n0 S0 a1 n1 I1 m1 F1)) rfl rfl 38 _ rfl (info_hash _) (by simp [bC_size]) (bC_one _ _) ?_; intro u3 R7 k3)
              | (refine park_at 46 rfl ?_))
            obtain ⟨g7, hg7⟩ : ∃ g, g = u2.heap.size := ⟨_, rfl⟩
            rw [← hg7] at R7 ⊢
            clear hg7
            have K3 := Lib.hid (K2.out.trans k3.out)
            replace R4 := Lib.hid (R4.out.kept k3.out)
            clear k3 K2
            refine unpark ?_
            refine wpList_exec 46 rfl (by rfl) (.agg #[.int .i64 a1, .slice p1 n1 c1, .slice q1 m1 d1]) _ (loadMany rfl rfl R4.out rfl) ?_
            go_wp2_with fail
            refine (hO.out u3 (HS.out.kept K3.out) (HI.out.kept K3.out) (HSl.kept _ _ _ _ _ K3.out HH.out) (HT.out.kept K3.out)).mono ?_
            rintro e u4 ⟨q', c', rfl, hx, k4⟩
            have X4 := Lib.hid hx
            have K4 := Lib.hid (K3.out.trans k4)
            replace R4 := Lib.hid (R4.out.kept k4)
            replace R7 := Lib.hid (R7.out.kept k4)
            clear hx k4 K3 hO
            obtain ⟨L, hL⟩ : ∃ L, L = onL n0 S0 a1 n1 I1 m1 F1 a2 := ⟨_, rfl⟩
            rw [← hL] at X4 ⊢
            replace hL := Lib.hid hL
            obtain ⟨OI, hOI⟩ : ∃ x, x = onI n0 a1 n1 I1 m1 a2 := ⟨_, rfl⟩
            rw [← hOI]
            replace hOI := Lib.hid hOI
            obtain ⟨OC, hOC⟩ : ∃ x, x = onC n0 a1 n1 I1 m1 a2 := ⟨_, rfl⟩
            rw [← hOC]
            replace hOC := Lib.hid hOC
            go_wp2_with (first
              | (refine wpList_store_made rfl 50 _ _ rfl _ _ #[.int .i64 OI, .int .i64 OC, .slice q' L.length c'] rfl rfl 50 _ rfl (opR_size OI OC (.slice q' L.length c')) rfl (opR_one OI OC q' L.length c') ?_; intro u5 R9 k5)
              | (refine park_at 52 rfl ?_))
            obtain ⟨g9, hg9⟩ : ∃ g, g = u4.heap.size := ⟨_, rfl⟩
            rw [← hg9] at R9 ⊢
            clear hg9
            have X5 := Lib.hid (HSl.kept _ _ _ _ _ k5.out X4.out)
            have K5 := Lib.hid (K4.out.trans k5.out)
            replace R4 := Lib.hid (R4.out.kept k5.out)
            replace R7 := Lib.hid (R7.out.kept k5.out)
            clear k5 K4 X4
            refine unpark ?_
            generalize hOBB : onB n0 a1 n1 I1 m1 a2 = OB
            rw [hOBB] at hOB
            clear hOBB
            have f1 := R4.out.cell 1
            by_cases hW : mayM (n0 : Int) a1 n1 I1 m1 = 0
            · rw [hW]
              by_cases hlo : a2 < 0
              · have hd5 : decide (a2 < 0) = true := decide_eq_true hlo
                have hb : OB = false := by rw [hOB.out]; exact decide_eq_false fun h => by omega
                subst hb
                clear hOB hal hnn hOI hOC hL hW
                go_wp2_with fail
                refine (HA.out u5).mono ?_
                rintro e u6 ⟨rfl, k6⟩
                have K6 := Lib.hid (K5.out.trans k6)
                clear k6 K5
                go_wp2_with fail
                go_ret
                exact ⟨rfl, K1.out.trans K6.out⟩
              · have hd5 : decide (a2 < 0) = false := decide_eq_false hlo
                by_cases hhi : (n1 : Int) ≤ a2
                · have hd6 : decide (a2 ≥ (n1 : Int)) = true := decide_eq_true hhi
                  have hd6' : decide ((n1 : Int) ≤ a2) = true := decide_eq_true hhi
                  have hb : OB = false := by rw [hOB.out]; exact decide_eq_false fun h => by omega
                  subst hb
                  clear hOB hal hnn hOI hOC hL hW
                  go_wp2_with fail
                  refine (HA.out u5).mono ?_
                  rintro e u6 ⟨rfl, k6⟩
                  have K6 := Lib.hid (K5.out.trans k6)
                  clear k6 K5
                  go_wp2_with fail
                  go_ret
                  exact ⟨rfl, K1.out.trans K6.out⟩
                · have hd6 : decide (a2 ≥ (n1 : Int)) = false := decide_eq_false hhi
                  have hd6' : decide ((n1 : Int) ≤ a2) = false := decide_eq_false hhi
                  have hb : OB = true := by rw [hOB.out]; exact decide_eq_true ⟨hW, by omega, by omega⟩
                  subst hb
                  obtain ⟨k, rfl⟩ := Int.eq_ofNat_of_zero_le (show 0 ≤ a2 by omega)
                  have hkb : k < n1 := by omega
                  obtain ⟨h1, h2, h3, h4⟩ := hal.out k rfl hkb hW
                  rw [← hL.out] at h3 h4
                  have e1 := hOI.out.trans h1
                  have e2 := hOC.out.trans h2
                  subst e1
                  subst e2
                  have hnn0 := hnn.out hW
                  subst hnn0
                  have hHR : Hid (∀ w, HSl L.length (lh L) (.slice q' L.length c') w → Tab w → Calls Tryd.prog 25 #[.string (S0 k), .agg #[.int .i64 (I1 k), .int .i64 OC, .slice q' L.length c']] w fun e w' => e = .returned (.tuple #[.agg (bC 32 (rtM n0 S0 OC n0 I1 m1 F1)), .int .i64 0]) ∧ Kept w w') := Lib.hid fun w hv ht => by
                    have := holdRoot_any (S0 k) (hz0' k hkb) (I1 k) OC L.length (lh L) _ w hv ht
                    rwa [h3, h4] at this
                  have hee : ((n0 : Int) != (n0 : Int)) = false := by simp
                  have hkn : decide (n0 ≤ k) = false := decide_eq_false (by omega)
                  clear h1 h2 h3 h4 hal hnn hL hOI hOC hW hOB hlo hhi hz0' hz0
                  generalize rtM n0 S0 OC n0 I1 m1 F1 = A at R7 hHR hR32 ⊢
                  obtain ⟨qs, rfl, _⟩ := HS.out.some (by omega)
                  obtain ⟨qi, rfl, _⟩ := HI.out.some (by omega)
                  go_wp2_with fail
                  clear f1
                  refine wp_region_late 10 8 [11] [(76, .is (.slice (some qs) n0 c0)), (77, .is (.int .i64 (k : Int))), (78, .is (.pointer (some (qs.add k)))), (79, .is (.string (S0 k))), (80, .is (.agg #[.int .i64 (I1 k), .int .i64 OC, .slice q' L.length c'])), (81, .is (.tuple #[.agg (bC 32 A), .int .i64 0])), (75, .is (.tuple #[.agg (bC 32 A), .int .i64 0])), (82, .is (.agg (bC 32 A))), (83, .is (.int .i64 0)), (11, .row ptrAt0 (bC 32 []) 38)] (by kernel_rfl) (by kernel_rfl) (fun _ _ d _ _ h => by cases d <;> exact h) (by kernel_rfl) (by kernel_rfl) ?_ ?_
                  · refine ⟨fun t w1 hf hk hp => ?_, ?_⟩
                    · have h0 : slot t 0 = .slice (some qs) n0 c0 := hf 0 (by kernel_rfl)
                      clear hf hp
                      refine stepM_at (by kernel_rfl) ?_
                      refine stepAt_plain rfl ?_
                      exact stepOK_move _ (.inl rfl) h0
                    refine ⟨fun t w1 hf hk hp => ?_, ?_⟩
                    · have h2 : slot t 2 = .int .i64 (k : Int) := hf 2 (by kernel_rfl)
                      clear hf hp
                      refine stepM_at (by kernel_rfl) ?_
                      refine stepAt_plain rfl ?_
                      exact stepOK_move _ (.inl rfl) h2
                    refine ⟨fun t w1 hf hk hp => ?_, ?_⟩
                    · have h76 : slot t 76 = .slice (some qs) n0 c0 := hp 76 (by kernel_rfl)
                      have h77 : slot t 77 = .int .i64 (k : Int) := hp 77 (by kernel_rfl)
                      clear hf hp
                      refine stepM_at (by kernel_rfl) ?_
                      refine stepAt_plain rfl ?_
                      exact stepOK_pure (.pointer (some (qs.add k))) (execIndexS qs n0 c0 k hkb w1 rfl h76 h77) rfl
                    refine ⟨fun t w1 hf hk hp => ?_, ?_⟩
                    · have h78 : slot t 78 = .pointer (some (qs.add k)) := hp 78 (by kernel_rfl)
                      clear hf hp
                      refine stepM_at (by kernel_rfl) ?_
                      refine stepAt_plain rfl ?_
                      have hq0 := (HS.out.kept (K5.out.trans hk)).load k hkb
                      exact stepOK_sem (.string (S0 k)) (by simp only [execOp, evS, h78]) hq0 rfl
                    refine ⟨fun t w1 hf hk hp => ?_, ?_⟩
                    · have h9 : slot t 9 = .pointer (some ⟨g9, 0, none⟩) := hf 9 (by kernel_rfl)
                      clear hf hp
                      refine stepM_at (by kernel_rfl) ?_
                      refine stepAt_plain rfl ?_
                      exact stepOK_pure (.agg #[.int .i64 (I1 k), .int .i64 OC, .slice q' L.length c']) (loadO rfl h9 (R9.out.kept hk) rfl) rfl
                    refine ⟨fun t w1 hf hk hp => ?_, ?_⟩
                    · have h79 : slot t 79 = .string (S0 k) := hp 79 (by kernel_rfl)
                      have h80 : slot t 80 = .agg #[.int .i64 (I1 k), .int .i64 OC, .slice q' L.length c'] := hp 80 (by kernel_rfl)
                      clear hf hp
                      refine stepM_at (by kernel_rfl) ?_
                      refine stepAt_plain rfl ?_
                      refine stepOK_call #[.string (S0 k), .agg #[.int .i64 (I1 k), .int .i64 OC, .slice q' L.length c']] rfl (by simp only [List.map_toArray, List.map_cons, List.map_nil, evS, h79, h80]) (by go_simp) ((hHR.out w1 (HSl.kept _ _ _ _ _ hk X5.out) (HT.out.kept (K5.out.trans hk))).mono fun e w' ⟨he, hk'⟩ => ⟨_, he, hk', rfl⟩)
                    refine ⟨fun t w1 hf hk hp => ?_, ?_⟩
                    · have h81 : slot t 81 = .tuple #[.agg (bC 32 A), .int .i64 0] := hp 81 (by kernel_rfl)
                      clear hf hp
                      refine stepM_at (by kernel_rfl) ?_
                      refine stepAt_plain rfl ?_
                      exact stepOK_move _ (.inl rfl) h81
                    refine ⟨fun t w1 hf hk hp => ?_, ?_⟩
                    · have h75 : slot t 75 = .tuple #[.agg (bC 32 A), .int .i64 0] := hp 75 (by kernel_rfl)
                      clear hf hp
                      refine stepM_at (by kernel_rfl) ?_
                      refine stepAt_plain rfl ?_
                      refine stepOK_pure (.agg (bC 32 A)) ?_ rfl
                      simp only [execOp, evS, h75]
                      go_simp
                    refine ⟨fun t w1 hf hk hp => ?_, ?_⟩
                    · have h75 : slot t 75 = .tuple #[.agg (bC 32 A), .int .i64 0] := hp 75 (by kernel_rfl)
                      clear hf hp
                      refine stepM_at (by kernel_rfl) ?_
                      refine stepAt_plain rfl ?_
                      refine stepOK_pure (.int .i64 0) ?_ rfl
                      simp only [execOp, evS, h75]
                      go_simp
                    refine ⟨fun t w1 hf hk hp => ?_, ?_⟩
                    · clear hf hp
                      refine stepM_made (by kernel_rfl) ?_
                      refine stepMade_new ((bC 32 [])) 38 rfl ?_ ⟨_, rfl, Rowz.new w1 _ _⟩
                      simp only [execOp, ptrAt0]
                      go_simp
                      rfl
                    exact trivial
                  · intro t w1 hsz hf hk hfacts hmd hap
                    obtain ⟨g11, h11, r11⟩ : ∃ g, slot t 11 = ptrAt0 g ∧ Rowz w1 g (bC 32 []) 38 := hfacts 9 _ (by decide) rfl 11 rfl
                    simp only [ptrAt0] at h11
                    have h82 : slot t 82 = .agg (bC 32 A) := hfacts 7 _ (by decide) rfl 82 rfl
                    have h83 : slot t 83 = .int .i64 0 := hfacts 8 _ (by decide) rfl 83 rfl
                    have h0 : slot t 0 = .slice (some qs) n0 c0 := hf 0 (by kernel_rfl)
                    have h2 : slot t 2 = .int .i64 (k : Int) := hf 2 (by kernel_rfl)
                    have h4 : slot t 4 = .pointer (some ⟨w.heap.size, 0, none⟩) := hf 4 (by kernel_rfl)
                    have h7 : slot t 7 = .pointer (some ⟨g7, 0, none⟩) := hf 7 (by kernel_rfl)
                    have h9 : slot t 9 = .pointer (some ⟨g9, 0, none⟩) := hf 9 (by kernel_rfl)
                    have h10 : slot t 10 = .bool true := hf 10 (by kernel_rfl)
                    have l11 := made_ge (hmd 11 (by kernel_rfl)) h11
                    have harr : t = #[slot t 0, slot t 1, slot t 2, slot t 3, slot t 4, slot t 5, slot t 6, slot t 7, slot t 8, slot t 9, slot t 10, slot t 11, slot t 12, slot t 13, slot t 14, slot t 15, slot t 16, slot t 17, slot t 18, slot t 19, slot t 20, slot t 21, slot t 22, slot t 23, slot t 24, slot t 25, slot t 26, slot t 27, slot t 28, slot t 29, slot t 30, slot t 31, slot t 32, slot t 33, slot t 34, slot t 35, slot t 36, slot t 37, slot t 38, slot t 39, slot t 40, slot t 41, slot t 42, slot t 43, slot t 44, slot t 45, slot t 46, slot t 47, slot t 48, slot t 49, slot t 50, slot t 51, slot t 52, slot t 53, slot t 54, slot t 55, slot t 56, slot t 57, slot t 58, slot t 59, slot t 60, slot t 61, slot t 62, slot t 63, slot t 64, slot t 65, slot t 66, slot t 67, slot t 68, slot t 69, slot t 70, slot t 71, slot t 72, slot t 73, slot t 74, slot t 75, slot t 76, slot t 77, slot t 78, slot t 79, slot t 80, slot t 81, slot t 82, slot t 83, slot t 84, slot t 85, slot t 86, slot t 87, slot t 88, slot t 89, slot t 90, slot t 91, slot t 92, slot t 93, slot t 94, slot t 95, slot t 96, slot t 97, slot t 98, slot t 99, slot t 100, slot t 101, slot t 102, slot t 103, slot t 104, slot t 105, slot t 106, slot t 107, slot t 108, slot t 109, slot t 110, slot t 111, slot t 112, slot t 113] := arr_eq t 114 hsz
                    rw [harr, h11, h82, h83, h0, h2, h4, h7, h9, h10]
                    clear harr hfacts hf hmd hap h11 h82 h83 h0 h2 h4 h7 h9 h10
                    generalize slot t 1 = x1; generalize slot t 3 = x3; generalize slot t 5 = x5; generalize slot t 6 = x6; generalize slot t 8 = x8; generalize slot t 12 = x12; generalize slot t 13 = x13; generalize slot t 14 = x14; generalize slot t 15 = x15; generalize slot t 16 = x16; generalize slot t 17 = x17; generalize slot t 18 = x18
                    generalize slot t 19 = x19; generalize slot t 20 = x20; generalize slot t 21 = x21; generalize slot t 22 = x22; generalize slot t 23 = x23; generalize slot t 24 = x24; generalize slot t 25 = x25; generalize slot t 26 = x26; generalize slot t 27 = x27; generalize slot t 28 = x28; generalize slot t 29 = x29; generalize slot t 30 = x30
                    generalize slot t 31 = x31; generalize slot t 32 = x32; generalize slot t 33 = x33; generalize slot t 34 = x34; generalize slot t 35 = x35; generalize slot t 36 = x36; generalize slot t 37 = x37; generalize slot t 38 = x38; generalize slot t 39 = x39; generalize slot t 40 = x40; generalize slot t 41 = x41; generalize slot t 42 = x42
                    generalize slot t 43 = x43; generalize slot t 44 = x44; generalize slot t 45 = x45; generalize slot t 46 = x46; generalize slot t 47 = x47; generalize slot t 48 = x48; generalize slot t 49 = x49; generalize slot t 50 = x50; generalize slot t 51 = x51; generalize slot t 52 = x52; generalize slot t 53 = x53; generalize slot t 54 = x54
                    generalize slot t 55 = x55; generalize slot t 56 = x56; generalize slot t 57 = x57; generalize slot t 58 = x58; generalize slot t 59 = x59; generalize slot t 60 = x60; generalize slot t 61 = x61; generalize slot t 62 = x62; generalize slot t 63 = x63; generalize slot t 64 = x64; generalize slot t 65 = x65; generalize slot t 66 = x66
                    generalize slot t 67 = x67; generalize slot t 68 = x68; generalize slot t 69 = x69; generalize slot t 70 = x70; generalize slot t 71 = x71; generalize slot t 72 = x72; generalize slot t 73 = x73; generalize slot t 74 = x74; generalize slot t 75 = x75; generalize slot t 76 = x76; generalize slot t 77 = x77; generalize slot t 78 = x78
                    generalize slot t 79 = x79; generalize slot t 80 = x80; generalize slot t 81 = x81; generalize slot t 84 = x84; generalize slot t 85 = x85; generalize slot t 86 = x86; generalize slot t 87 = x87; generalize slot t 88 = x88; generalize slot t 89 = x89; generalize slot t 90 = x90; generalize slot t 91 = x91; generalize slot t 92 = x92
                    generalize slot t 93 = x93; generalize slot t 94 = x94; generalize slot t 95 = x95; generalize slot t 96 = x96; generalize slot t 97 = x97; generalize slot t 98 = x98; generalize slot t 99 = x99; generalize slot t 100 = x100; generalize slot t 101 = x101; generalize slot t 102 = x102; generalize slot t 103 = x103; generalize slot t 104 = x104
                    generalize slot t 105 = x105; generalize slot t 106 = x106; generalize slot t 107 = x107; generalize slot t 108 = x108; generalize slot t 109 = x109; generalize slot t 110 = x110; generalize slot t 111 = x111; generalize slot t 112 = x112; generalize slot t 113 = x113
                    clear hsz t
                    simp only [List.drop_succ_cons, List.drop_zero]
                    have n4 : w.heap.size ≠ g11 := by have := R4.out.lt; omega
                    have n7 : g7 ≠ g11 := by have := R7.out.lt; omega
                    have n9 : g9 ≠ g11 := by have := R9.out.lt; omega
                    have K6 := Lib.hid ((K5.out.trans hk).setRow (Nat.le_trans K5.out.size l11) (bC 32 A))
                    have R4b := Lib.hid ((R4.out.kept hk).rowOther (D := bC 32 A) n4)
                    have R7b := Lib.hid ((R7.out.kept hk).rowOther (D := bC 32 A) n7)
                    have R9b := Lib.hid ((R9.out.kept hk).rowOther (D := bC 32 A) n9)
                    have R11 := Lib.hid (r11.row (D := bC 32 A))
                    refine wpList_store_row rfl 38 _ _ rfl g11 (bC 32 A) rfl rfl 38 (bC 32 []) r11 (info_hash _) (by simp [bC_size]) (bC_one _ _) ?_
                    clear r11 hk l11 n4 n7 n9 R4 R7 R9 K5
                    generalize w1.setRow g11 (bC 32 A) = v6 at K6 R4b R7b R9b R11 ⊢
                    go_wp2_with fail
                    refine wp_region_table [(84, .is (.bool true)), (85, .is (.bool true)), (86, .is (.int .i64 0)), (87, .is (.bool true)), (88, .is (.bool true)), (89, .is (.bool true)), (90, .is (.agg (bC 32 A))), (91, .is (.agg (bC 32 A))), (92, .is (.bool true)), (93, .is (.bool true)), (94, .is (.bool true)), (95, .is (.pointer (some ⟨g9, 0, none⟩))), (96, .is (.int .i64 (I1 k))), (97, .is (.pointer (some ⟨w.heap.size, 1, none⟩))), (98, .is (.slice (some qi) n0 c1)), (99, .is (.int .i64 (k : Int))), (100, .is (.pointer (some (qi.add k)))), (101, .is (.int .i64 (I1 k))), (102, .is (.bool true)), (103, .is (.bool true)), (104, .is (.bool true)), (105, .is (.pointer (some ⟨g9, 1, none⟩))), (106, .is (.int .i64 OC)), (107, .is (.pointer (some ⟨w.heap.size, 0, none⟩))), (108, .is (.int .i64 OC)), (109, .is (.bool true)), (110, .is (.bool true)), (111, .is (.bool true)), (112, .is (.bool true)), (113, .is (.bool true)), (6, .is (.bool true))] (by kernel_rfl) (by kernel_rfl) ?_ ?_
                    · refine ⟨fun t w1 hf hk hp => ?_, ?_⟩
                      · have h10 : slot t 10 = .bool true := hf 10 (by kernel_rfl)
                        clear hf hp
                        refine stepAt_plain rfl ?_
                        exact stepOK_move _ (.inl rfl) h10
                      refine ⟨fun t w1 hf hk hp => ?_, ?_⟩
                      · have h84 : slot t 84 = .bool true := hp 84 (by kernel_rfl)
                        clear hf hp
                        refine stepAt_plain rfl ?_
                        exact stepOK_move _ (.inl rfl) h84
                      refine ⟨fun t w1 hf hk hp => ?_, ?_⟩
                      · have h12 : slot t 12 = .int .i64 0 := hf 12 (by kernel_rfl)
                        have h85 : slot t 85 = .bool true := hp 85 (by kernel_rfl)
                        clear hf hp
                        refine stepAt_on 85 true (by kernel_rfl) h85 ?_
                        exact stepOK_move _ (.inl rfl) h12
                      refine ⟨fun t w1 hf hk hp => ?_, ?_⟩
                      · have h86 : slot t 86 = .int .i64 0 := hp 86 (by kernel_rfl)
                        have h85 : slot t 85 = .bool true := hp 85 (by kernel_rfl)
                        clear hf hp
                        refine stepAt_on 85 true (by kernel_rfl) h85 ?_
                        refine stepOK_pure (.bool true) ?_ rfl
                        simp only [execOp, evS, h86]
                        go_simp
                      refine ⟨fun t w1 hf hk hp => ?_, ?_⟩
                      · have h85 : slot t 85 = .bool true := hp 85 (by kernel_rfl)
                        have h87 : slot t 87 = .bool true := hp 87 (by kernel_rfl)
                        clear hf hp
                        refine stepAt_plain rfl ?_
                        refine stepOK_pure (.bool true) ?_ rfl
                        simp only [execOp, evS, h85, h87]
                        go_simp
                      refine ⟨fun t w1 hf hk hp => ?_, ?_⟩
                      · have h88 : slot t 88 = .bool true := hp 88 (by kernel_rfl)
                        clear hf hp
                        refine stepAt_plain rfl ?_
                        exact stepOK_move _ (.inl rfl) h88
                      refine ⟨fun t w1 hf hk hp => ?_, ?_⟩
                      · have h11 : slot t 11 = .pointer (some ⟨g11, 0, none⟩) := hf 11 (by kernel_rfl)
                        have h89 : slot t 89 = .bool true := hp 89 (by kernel_rfl)
                        clear hf hp
                        refine stepAt_on 89 true (by kernel_rfl) h89 ?_
                        exact stepOK_pure (.agg (bC 32 A)) (loadHr rfl h11 (R11.out.kept hk)) rfl
                      refine ⟨fun t w1 hf hk hp => ?_, ?_⟩
                      · have h7 : slot t 7 = .pointer (some ⟨g7, 0, none⟩) := hf 7 (by kernel_rfl)
                        have h89 : slot t 89 = .bool true := hp 89 (by kernel_rfl)
                        clear hf hp
                        refine stepAt_on 89 true (by kernel_rfl) h89 ?_
                        exact stepOK_pure (.agg (bC 32 A)) (loadHr rfl h7 (R7b.out.kept hk)) rfl
                      refine ⟨fun t w1 hf hk hp => ?_, ?_⟩
                      · have h90 : slot t 90 = .agg (bC 32 A) := hp 90 (by kernel_rfl)
                        have h91 : slot t 91 = .agg (bC 32 A) := hp 91 (by kernel_rfl)
                        have h89 : slot t 89 = .bool true := hp 89 (by kernel_rfl)
                        clear hf hp
                        refine stepAt_on 89 true (by kernel_rfl) h89 ?_
                        exact stepOK_pure (.bool true) (execEqH1 A hR32 w1 rfl h90 h91) rfl
                      refine ⟨fun t w1 hf hk hp => ?_, ?_⟩
                      · have h89 : slot t 89 = .bool true := hp 89 (by kernel_rfl)
                        have h92 : slot t 92 = .bool true := hp 92 (by kernel_rfl)
                        clear hf hp
                        refine stepAt_plain rfl ?_
                        refine stepOK_pure (.bool true) ?_ rfl
                        simp only [execOp, evS, h89, h92]
                        go_simp
                      refine ⟨fun t w1 hf hk hp => ?_, ?_⟩
                      · have h93 : slot t 93 = .bool true := hp 93 (by kernel_rfl)
                        clear hf hp
                        refine stepAt_plain rfl ?_
                        exact stepOK_move _ (.inl rfl) h93
                      refine ⟨fun t w1 hf hk hp => ?_, ?_⟩
                      · have h9 : slot t 9 = .pointer (some ⟨g9, 0, none⟩) := hf 9 (by kernel_rfl)
                        have h94 : slot t 94 = .bool true := hp 94 (by kernel_rfl)
                        clear hf hp
                        refine stepAt_on 94 true (by kernel_rfl) h94 ?_
                        exact stepOK_pure (.pointer (some ⟨g9, 0, none⟩)) (execFieldO g9 0 (by omega) w1 rfl h9) rfl
                      refine ⟨fun t w1 hf hk hp => ?_, ?_⟩
                      · have h95 : slot t 95 = .pointer (some ⟨g9, 0, none⟩) := hp 95 (by kernel_rfl)
                        have h94 : slot t 94 = .bool true := hp 94 (by kernel_rfl)
                        clear hf hp
                        refine stepAt_on 94 true (by kernel_rfl) h94 ?_
                        have hq0 := run_loadI ((R9b.out.kept hk).cell 0)
                        exact stepOK_sem (.int .i64 (I1 k)) (by simp only [execOp, evS, h95]) hq0 rfl
                      refine ⟨fun t w1 hf hk hp => ?_, ?_⟩
                      · have h4 : slot t 4 = .pointer (some ⟨w.heap.size, 0, none⟩) := hf 4 (by kernel_rfl)
                        have h94 : slot t 94 = .bool true := hp 94 (by kernel_rfl)
                        clear hf hp
                        refine stepAt_on 94 true (by kernel_rfl) h94 ?_
                        exact stepOK_pure (.pointer (some ⟨w.heap.size, 1, none⟩)) (execFieldM w.heap.size 1 (by omega) w1 rfl h4) rfl
                      refine ⟨fun t w1 hf hk hp => ?_, ?_⟩
                      · have h97 : slot t 97 = .pointer (some ⟨w.heap.size, 1, none⟩) := hp 97 (by kernel_rfl)
                        have h94 : slot t 94 = .bool true := hp 94 (by kernel_rfl)
                        clear hf hp
                        refine stepAt_on 94 true (by kernel_rfl) h94 ?_
                        have hq0 := run_loadIs ((R4b.out.kept hk).cell 1)
                        exact stepOK_sem (.slice (some qi) n0 c1) (by simp only [execOp, evS, h97]) hq0 rfl
                      refine ⟨fun t w1 hf hk hp => ?_, ?_⟩
                      · have h2 : slot t 2 = .int .i64 (k : Int) := hf 2 (by kernel_rfl)
                        have h94 : slot t 94 = .bool true := hp 94 (by kernel_rfl)
                        clear hf hp
                        refine stepAt_on 94 true (by kernel_rfl) h94 ?_
                        exact stepOK_move _ (.inl rfl) h2
                      refine ⟨fun t w1 hf hk hp => ?_, ?_⟩
                      · have h98 : slot t 98 = .slice (some qi) n0 c1 := hp 98 (by kernel_rfl)
                        have h99 : slot t 99 = .int .i64 (k : Int) := hp 99 (by kernel_rfl)
                        have h94 : slot t 94 = .bool true := hp 94 (by kernel_rfl)
                        clear hf hp
                        refine stepAt_on 94 true (by kernel_rfl) h94 ?_
                        exact stepOK_pure (.pointer (some (qi.add k))) (execIndexI qi n0 c1 k hkb w1 rfl h98 h99) rfl
                      refine ⟨fun t w1 hf hk hp => ?_, ?_⟩
                      · have h100 : slot t 100 = .pointer (some (qi.add k)) := hp 100 (by kernel_rfl)
                        have h94 : slot t 94 = .bool true := hp 94 (by kernel_rfl)
                        clear hf hp
                        refine stepAt_on 94 true (by kernel_rfl) h94 ?_
                        have hq0 := run_loadI ((HI.out.kept (K6.out.trans hk)).cell k hkb)
                        exact stepOK_sem (.int .i64 (I1 k)) (by simp only [execOp, evS, h100]) hq0 rfl
                      refine ⟨fun t w1 hf hk hp => ?_, ?_⟩
                      · have h96 : slot t 96 = .int .i64 (I1 k) := hp 96 (by kernel_rfl)
                        have h101 : slot t 101 = .int .i64 (I1 k) := hp 101 (by kernel_rfl)
                        have h94 : slot t 94 = .bool true := hp 94 (by kernel_rfl)
                        clear hf hp
                        refine stepAt_on 94 true (by kernel_rfl) h94 ?_
                        exact stepOK_pure (.bool true) (Eq.trans (execEqI16 (I1 k) (I1 k) w1 rfl h96 h101) (by simp)) rfl
                      refine ⟨fun t w1 hf hk hp => ?_, ?_⟩
                      · have h94 : slot t 94 = .bool true := hp 94 (by kernel_rfl)
                        have h102 : slot t 102 = .bool true := hp 102 (by kernel_rfl)
                        clear hf hp
                        refine stepAt_plain rfl ?_
                        refine stepOK_pure (.bool true) ?_ rfl
                        simp only [execOp, evS, h94, h102]
                        go_simp
                      refine ⟨fun t w1 hf hk hp => ?_, ?_⟩
                      · have h103 : slot t 103 = .bool true := hp 103 (by kernel_rfl)
                        clear hf hp
                        refine stepAt_plain rfl ?_
                        exact stepOK_move _ (.inl rfl) h103
                      refine ⟨fun t w1 hf hk hp => ?_, ?_⟩
                      · have h9 : slot t 9 = .pointer (some ⟨g9, 0, none⟩) := hf 9 (by kernel_rfl)
                        have h104 : slot t 104 = .bool true := hp 104 (by kernel_rfl)
                        clear hf hp
                        refine stepAt_on 104 true (by kernel_rfl) h104 ?_
                        exact stepOK_pure (.pointer (some ⟨g9, 1, none⟩)) (execFieldO g9 1 (by omega) w1 rfl h9) rfl
                      refine ⟨fun t w1 hf hk hp => ?_, ?_⟩
                      · have h105 : slot t 105 = .pointer (some ⟨g9, 1, none⟩) := hp 105 (by kernel_rfl)
                        have h104 : slot t 104 = .bool true := hp 104 (by kernel_rfl)
                        clear hf hp
                        refine stepAt_on 104 true (by kernel_rfl) h104 ?_
                        have hq0 := run_loadI ((R9b.out.kept hk).cell 1)
                        exact stepOK_sem (.int .i64 OC) (by simp only [execOp, evS, h105]) hq0 rfl
                      refine ⟨fun t w1 hf hk hp => ?_, ?_⟩
                      · have h4 : slot t 4 = .pointer (some ⟨w.heap.size, 0, none⟩) := hf 4 (by kernel_rfl)
                        have h104 : slot t 104 = .bool true := hp 104 (by kernel_rfl)
                        clear hf hp
                        refine stepAt_on 104 true (by kernel_rfl) h104 ?_
                        exact stepOK_pure (.pointer (some ⟨w.heap.size, 0, none⟩)) (execFieldM w.heap.size 0 (by omega) w1 rfl h4) rfl
                      refine ⟨fun t w1 hf hk hp => ?_, ?_⟩
                      · have h107 : slot t 107 = .pointer (some ⟨w.heap.size, 0, none⟩) := hp 107 (by kernel_rfl)
                        have h104 : slot t 104 = .bool true := hp 104 (by kernel_rfl)
                        clear hf hp
                        refine stepAt_on 104 true (by kernel_rfl) h104 ?_
                        have hq0 := run_loadI ((R4b.out.kept hk).cell 0)
                        exact stepOK_sem (.int .i64 OC) (by simp only [execOp, evS, h107]) hq0 rfl
                      refine ⟨fun t w1 hf hk hp => ?_, ?_⟩
                      · have h106 : slot t 106 = .int .i64 OC := hp 106 (by kernel_rfl)
                        have h108 : slot t 108 = .int .i64 OC := hp 108 (by kernel_rfl)
                        have h104 : slot t 104 = .bool true := hp 104 (by kernel_rfl)
                        clear hf hp
                        refine stepAt_on 104 true (by kernel_rfl) h104 ?_
                        exact stepOK_pure (.bool true) (Eq.trans (execEqI16 OC OC w1 rfl h106 h108) (by simp)) rfl
                      refine ⟨fun t w1 hf hk hp => ?_, ?_⟩
                      · have h104 : slot t 104 = .bool true := hp 104 (by kernel_rfl)
                        have h109 : slot t 109 = .bool true := hp 109 (by kernel_rfl)
                        clear hf hp
                        refine stepAt_plain rfl ?_
                        refine stepOK_pure (.bool true) ?_ rfl
                        simp only [execOp, evS, h104, h109]
                        go_simp
                      refine ⟨fun t w1 hf hk hp => ?_, ?_⟩
                      · have h110 : slot t 110 = .bool true := hp 110 (by kernel_rfl)
                        clear hf hp
                        refine stepAt_plain rfl ?_
                        exact stepOK_move _ (.inl rfl) h110
                      refine ⟨fun t w1 hf hk hp => ?_, ?_⟩
                      · have h111 : slot t 111 = .bool true := hp 111 (by kernel_rfl)
                        clear hf hp
                        refine stepAt_on 111 true (by kernel_rfl) h111 ?_
                        refine stepOK_call #[] rfl (by simp only [List.map_toArray, List.map_nil]) (by go_simp) ((HA.out w1).mono fun e w' ⟨he, hk'⟩ => ⟨_, he, hk', rfl⟩)
                      refine ⟨fun t w1 hf hk hp => ?_, ?_⟩
                      · have h111 : slot t 111 = .bool true := hp 111 (by kernel_rfl)
                        have h112 : slot t 112 = .bool true := hp 112 (by kernel_rfl)
                        clear hf hp
                        refine stepAt_plain rfl ?_
                        refine stepOK_pure (.bool true) ?_ rfl
                        simp only [execOp, evS, h111, h112]
                        go_simp
                      refine ⟨fun t w1 hf hk hp => ?_, ?_⟩
                      · have h113 : slot t 113 = .bool true := hp 113 (by kernel_rfl)
                        clear hf hp
                        refine stepAt_plain rfl ?_
                        exact stepOK_move _ (.inr rfl) h113
                      exact trivial
                    · intro t w1 hsz hf hk hfacts
                      have h6 : slot t 6 = .bool true := hfacts 30 _ rfl 6 rfl
                      have h2 : slot t 2 = .int .i64 (k : Int) := hf 2 (by kernel_rfl)
                      have h4 : slot t 4 = .pointer (some ⟨w.heap.size, 0, none⟩) := hf 4 (by kernel_rfl)
                      have h7 : slot t 7 = .pointer (some ⟨g7, 0, none⟩) := hf 7 (by kernel_rfl)
                      have h9 : slot t 9 = .pointer (some ⟨g9, 0, none⟩) := hf 9 (by kernel_rfl)
                      have h10 : slot t 10 = .bool true := hf 10 (by kernel_rfl)
                      have h11 : slot t 11 = .pointer (some ⟨g11, 0, none⟩) := hf 11 (by kernel_rfl)
                      have h12 : slot t 12 = .int .i64 0 := hf 12 (by kernel_rfl)
                      have harr : t = #[slot t 0, slot t 1, slot t 2, slot t 3, slot t 4, slot t 5, slot t 6, slot t 7, slot t 8, slot t 9, slot t 10, slot t 11, slot t 12, slot t 13, slot t 14, slot t 15, slot t 16, slot t 17, slot t 18, slot t 19, slot t 20, slot t 21, slot t 22, slot t 23, slot t 24, slot t 25, slot t 26, slot t 27, slot t 28, slot t 29, slot t 30, slot t 31, slot t 32, slot t 33, slot t 34, slot t 35, slot t 36, slot t 37, slot t 38, slot t 39, slot t 40, slot t 41, slot t 42, slot t 43, slot t 44, slot t 45, slot t 46, slot t 47, slot t 48, slot t 49, slot t 50, slot t 51, slot t 52, slot t 53, slot t 54, slot t 55, slot t 56, slot t 57, slot t 58, slot t 59, slot t 60, slot t 61, slot t 62, slot t 63, slot t 64, slot t 65, slot t 66, slot t 67, slot t 68, slot t 69, slot t 70, slot t 71, slot t 72, slot t 73, slot t 74, slot t 75, slot t 76, slot t 77, slot t 78, slot t 79, slot t 80, slot t 81, slot t 82, slot t 83, slot t 84, slot t 85, slot t 86, slot t 87, slot t 88, slot t 89, slot t 90, slot t 91, slot t 92, slot t 93, slot t 94, slot t 95, slot t 96, slot t 97, slot t 98, slot t 99, slot t 100, slot t 101, slot t 102, slot t 103, slot t 104, slot t 105, slot t 106, slot t 107, slot t 108, slot t 109, slot t 110, slot t 111, slot t 112, slot t 113] := arr_eq t 114 hsz
                      rw [harr, h6, h2, h4, h7, h9, h10, h11, h12]
                      clear harr hfacts hf h6 h2 h4 h7 h9 h10 h11 h12
                      generalize slot t 0 = x0; generalize slot t 1 = x1; generalize slot t 3 = x3; generalize slot t 5 = x5; generalize slot t 8 = x8; generalize slot t 13 = x13; generalize slot t 14 = x14; generalize slot t 15 = x15; generalize slot t 16 = x16; generalize slot t 17 = x17; generalize slot t 18 = x18; generalize slot t 19 = x19
                      generalize slot t 20 = x20; generalize slot t 21 = x21; generalize slot t 22 = x22; generalize slot t 23 = x23; generalize slot t 24 = x24; generalize slot t 25 = x25; generalize slot t 26 = x26; generalize slot t 27 = x27; generalize slot t 28 = x28; generalize slot t 29 = x29; generalize slot t 30 = x30; generalize slot t 31 = x31
                      generalize slot t 32 = x32; generalize slot t 33 = x33; generalize slot t 34 = x34; generalize slot t 35 = x35; generalize slot t 36 = x36; generalize slot t 37 = x37; generalize slot t 38 = x38; generalize slot t 39 = x39; generalize slot t 40 = x40; generalize slot t 41 = x41; generalize slot t 42 = x42; generalize slot t 43 = x43
                      generalize slot t 44 = x44; generalize slot t 45 = x45; generalize slot t 46 = x46; generalize slot t 47 = x47; generalize slot t 48 = x48; generalize slot t 49 = x49; generalize slot t 50 = x50; generalize slot t 51 = x51; generalize slot t 52 = x52; generalize slot t 53 = x53; generalize slot t 54 = x54; generalize slot t 55 = x55
                      generalize slot t 56 = x56; generalize slot t 57 = x57; generalize slot t 58 = x58; generalize slot t 59 = x59; generalize slot t 60 = x60; generalize slot t 61 = x61; generalize slot t 62 = x62; generalize slot t 63 = x63; generalize slot t 64 = x64; generalize slot t 65 = x65; generalize slot t 66 = x66; generalize slot t 67 = x67
                      generalize slot t 68 = x68; generalize slot t 69 = x69; generalize slot t 70 = x70; generalize slot t 71 = x71; generalize slot t 72 = x72; generalize slot t 73 = x73; generalize slot t 74 = x74; generalize slot t 75 = x75; generalize slot t 76 = x76; generalize slot t 77 = x77; generalize slot t 78 = x78; generalize slot t 79 = x79
                      generalize slot t 80 = x80; generalize slot t 81 = x81; generalize slot t 82 = x82; generalize slot t 83 = x83; generalize slot t 84 = x84; generalize slot t 85 = x85; generalize slot t 86 = x86; generalize slot t 87 = x87; generalize slot t 88 = x88; generalize slot t 89 = x89; generalize slot t 90 = x90; generalize slot t 91 = x91
                      generalize slot t 92 = x92; generalize slot t 93 = x93; generalize slot t 94 = x94; generalize slot t 95 = x95; generalize slot t 96 = x96; generalize slot t 97 = x97; generalize slot t 98 = x98; generalize slot t 99 = x99; generalize slot t 100 = x100; generalize slot t 101 = x101; generalize slot t 102 = x102; generalize slot t 103 = x103
                      generalize slot t 104 = x104; generalize slot t 105 = x105; generalize slot t 106 = x106; generalize slot t 107 = x107; generalize slot t 108 = x108; generalize slot t 109 = x109; generalize slot t 110 = x110; generalize slot t 111 = x111; generalize slot t 112 = x112; generalize slot t 113 = x113
                      clear hsz t
                      have KF := Lib.hid (K6.out.trans hk)
                      clear hk
                      go_wp2_with fail
                      go_ret
                      exact ⟨rfl, K1.out.trans KF.out⟩
            · have hWn : (mayM (n0 : Int) a1 n1 I1 m1 != 0) = true := by simpa using hW
              have hb : OB = false := by rw [hOB.out]; exact decide_eq_false fun h => hW h.1
              subst hb
              clear hOB hal hnn hOI hOC hL
              replace hW := Lib.hid hW
              generalize mayM (n0 : Int) a1 n1 I1 m1 = W at hWn hW ⊢
              go_wp2_with fail
              refine (HA.out u5).mono ?_
              rintro e u6 ⟨rfl, k6⟩
              have K6 := Lib.hid (K5.out.trans k6)
              clear k6 K5
              go_wp2_with fail
              go_ret
              exact ⟨rfl, K1.out.trans K6.out⟩
          | false =>
            clear hd2
            have hz0' : ∀ i, i < n0 → (S0 i).size ≤ 1000000 := fun i hi => Nat.le_trans (hz0 i hi) (by omega)
            have hR := Lib.hid (multiRoot_any p0 n0 c0 S0 a1 p1 n1 c1 I1 q1 m1 d1 F1 v0 HS.out z0.1 z0.2 hz0' HI.out z1.1 z1.2 (by omega) HH.out HT.out)
            have hO : Hid (∀ w, SAt w p0 n0 S0 → IAt w p1 n1 I1 → HSl m1 F1 (.slice q1 m1 d1) w → Tab w → _) := Lib.hid fun w hS hI hH ht => multiOne_any p0 n0 c0 S0 a1 p1 n1 c1 I1 q1 m1 d1 F1 a2 w hS z0.1 z0.2 hz0' hI z1.1 z1.2 (by omega) hH ht
            have hR32 := rtM_length n0 S0 a1 n1 I1 m1 F1
            have hOB : Hid (onB n0 a1 n1 I1 m1 a2 = decide (mayM (n0 : Int) a1 n1 I1 m1 = 0 ∧ 0 ≤ a2 ∧ a2 < (n1 : Int))) := Lib.hid rfl
            have hal : Hid (∀ k : Nat, a2 = (k : Int) → k < n1 → mayM (n0 : Int) a1 n1 I1 m1 = 0 → _) := Lib.hid fun k hk1 hk h => one_alone S0 F1 h hk
            have hnn : Hid (mayM (n0 : Int) a1 n1 I1 m1 = 0 → n0 = n1) := Lib.hid fun h => by
              obtain ⟨_, _, _, _, _, h5, _⟩ := mayM_nat h
              exact h5
            go_wp2_with (refine park_at 40 rfl ?_)
            refine unpark ?_
            clear f0 f1 f2
            refine wpList_exec 40 rfl (by rfl) (.agg #[.int .i64 a1, .slice p1 n1 c1, .slice q1 m1 d1]) _ (loadMany rfl rfl R4.out rfl) ?_
            go_wp2_with fail
            refine hR.out.mono ?_
            rintro e u2 ⟨rfl, k2⟩
            have K2 := Lib.hid k2
            replace R4 := Lib.hid (R4.out.kept k2)
            clear k2 hR
            go_wp2_with (first
              | (refine wpList_store_made rfl 38 _ _ rfl _ _ (bC 32 (rtM n0 S0 a1 n1 I1 m1 F1)) rfl rfl 38 _ rfl (info_hash _) (by simp [bC_size]) (bC_one _ _) ?_; intro u3 R7 k3)
              | (refine park_at 46 rfl ?_))
            obtain ⟨g7, hg7⟩ : ∃ g, g = u2.heap.size := ⟨_, rfl⟩
            rw [← hg7] at R7 ⊢
            clear hg7
            have K3 := Lib.hid (K2.out.trans k3.out)
            replace R4 := Lib.hid (R4.out.kept k3.out)
            clear k3 K2
            refine unpark ?_
            refine wpList_exec 46 rfl (by rfl) (.agg #[.int .i64 a1, .slice p1 n1 c1, .slice q1 m1 d1]) _ (loadMany rfl rfl R4.out rfl) ?_
            go_wp2_with fail
            refine (hO.out u3 (HS.out.kept K3.out) (HI.out.kept K3.out) (HSl.kept _ _ _ _ _ K3.out HH.out) (HT.out.kept K3.out)).mono ?_
            rintro e u4 ⟨q', c', rfl, hx, k4⟩
            have X4 := Lib.hid hx
            have K4 := Lib.hid (K3.out.trans k4)
            replace R4 := Lib.hid (R4.out.kept k4)
            replace R7 := Lib.hid (R7.out.kept k4)
            clear hx k4 K3 hO
            obtain ⟨L, hL⟩ : ∃ L, L = onL n0 S0 a1 n1 I1 m1 F1 a2 := ⟨_, rfl⟩
            rw [← hL] at X4 ⊢
            replace hL := Lib.hid hL
            obtain ⟨OI, hOI⟩ : ∃ x, x = onI n0 a1 n1 I1 m1 a2 := ⟨_, rfl⟩
            rw [← hOI]
            replace hOI := Lib.hid hOI
            obtain ⟨OC, hOC⟩ : ∃ x, x = onC n0 a1 n1 I1 m1 a2 := ⟨_, rfl⟩
            rw [← hOC]
            replace hOC := Lib.hid hOC
            go_wp2_with (first
              | (refine wpList_store_made rfl 50 _ _ rfl _ _ #[.int .i64 OI, .int .i64 OC, .slice q' L.length c'] rfl rfl 50 _ rfl (opR_size OI OC (.slice q' L.length c')) rfl (opR_one OI OC q' L.length c') ?_; intro u5 R9 k5)
              | (refine park_at 52 rfl ?_))
            obtain ⟨g9, hg9⟩ : ∃ g, g = u4.heap.size := ⟨_, rfl⟩
            rw [← hg9] at R9 ⊢
            clear hg9
            have X5 := Lib.hid (HSl.kept _ _ _ _ _ k5.out X4.out)
            have K5 := Lib.hid (K4.out.trans k5.out)
            replace R4 := Lib.hid (R4.out.kept k5.out)
            replace R7 := Lib.hid (R7.out.kept k5.out)
            clear k5 K4 X4
            refine unpark ?_
            generalize hOBB : onB n0 a1 n1 I1 m1 a2 = OB
            rw [hOBB] at hOB
            clear hOBB
            have f1 := R4.out.cell 1
            by_cases hW : mayM (n0 : Int) a1 n1 I1 m1 = 0
            · rw [hW]
              by_cases hlo : a2 < 0
              · have hd5 : decide (a2 < 0) = true := decide_eq_true hlo
                have hb : OB = false := by rw [hOB.out]; exact decide_eq_false fun h => by omega
                subst hb
                clear hOB hal hnn hOI hOC hL hW
                go_wp2_with fail
                refine (HA.out u5).mono ?_
                rintro e u6 ⟨rfl, k6⟩
                have K6 := Lib.hid (K5.out.trans k6)
                clear k6 K5
                go_wp2_with fail
                go_ret
                exact ⟨rfl, K1.out.trans K6.out⟩
              · have hd5 : decide (a2 < 0) = false := decide_eq_false hlo
                by_cases hhi : (n1 : Int) ≤ a2
                · have hd6 : decide (a2 ≥ (n1 : Int)) = true := decide_eq_true hhi
                  have hd6' : decide ((n1 : Int) ≤ a2) = true := decide_eq_true hhi
                  have hb : OB = false := by rw [hOB.out]; exact decide_eq_false fun h => by omega
                  subst hb
                  clear hOB hal hnn hOI hOC hL hW
                  go_wp2_with fail
                  refine (HA.out u5).mono ?_
                  rintro e u6 ⟨rfl, k6⟩
                  have K6 := Lib.hid (K5.out.trans k6)
                  clear k6 K5
                  go_wp2_with fail
                  go_ret
                  exact ⟨rfl, K1.out.trans K6.out⟩
                · have hd6 : decide (a2 ≥ (n1 : Int)) = false := decide_eq_false hhi
                  have hd6' : decide ((n1 : Int) ≤ a2) = false := decide_eq_false hhi
                  have hb : OB = true := by rw [hOB.out]; exact decide_eq_true ⟨hW, by omega, by omega⟩
                  subst hb
                  obtain ⟨k, rfl⟩ := Int.eq_ofNat_of_zero_le (show 0 ≤ a2 by omega)
                  have hkb : k < n1 := by omega
                  obtain ⟨h1, h2, h3, h4⟩ := hal.out k rfl hkb hW
                  rw [← hL.out] at h3 h4
                  have e1 := hOI.out.trans h1
                  have e2 := hOC.out.trans h2
                  subst e1
                  subst e2
                  have hnn0 := hnn.out hW
                  subst hnn0
                  have hHR : Hid (∀ w, HSl L.length (lh L) (.slice q' L.length c') w → Tab w → Calls Tryd.prog 25 #[.string (S0 k), .agg #[.int .i64 (I1 k), .int .i64 OC, .slice q' L.length c']] w fun e w' => e = .returned (.tuple #[.agg (bC 32 (rtM n0 S0 OC n0 I1 m1 F1)), .int .i64 0]) ∧ Kept w w') := Lib.hid fun w hv ht => by
                    have := holdRoot_any (S0 k) (hz0' k hkb) (I1 k) OC L.length (lh L) _ w hv ht
                    rwa [h3, h4] at this
                  have hee : ((n0 : Int) != (n0 : Int)) = false := by simp
                  have hkn : decide (n0 ≤ k) = false := decide_eq_false (by omega)
                  clear h1 h2 h3 h4 hal hnn hL hOI hOC hW hOB hlo hhi hz0' hz0
                  generalize rtM n0 S0 OC n0 I1 m1 F1 = A at R7 hHR hR32 ⊢
                  obtain ⟨qs, rfl, _⟩ := HS.out.some (by omega)
                  obtain ⟨qi, rfl, _⟩ := HI.out.some (by omega)
                  go_wp2_with fail
                  clear f1
                  refine wp_region_late 10 8 [11] [(76, .is (.slice (some qs) n0 c0)), (77, .is (.int .i64 (k : Int))), (78, .is (.pointer (some (qs.add k)))), (79, .is (.string (S0 k))), (80, .is (.agg #[.int .i64 (I1 k), .int .i64 OC, .slice q' L.length c'])), (81, .is (.tuple #[.agg (bC 32 A), .int .i64 0])), (75, .is (.tuple #[.agg (bC 32 A), .int .i64 0])), (82, .is (.agg (bC 32 A))), (83, .is (.int .i64 0)), (11, .row ptrAt0 (bC 32 []) 38)] (by kernel_rfl) (by kernel_rfl) (fun _ _ d _ _ h => by cases d <;> exact h) (by kernel_rfl) (by kernel_rfl) ?_ ?_
                  · refine ⟨fun t w1 hf hk hp => ?_, ?_⟩
                    · have h0 : slot t 0 = .slice (some qs) n0 c0 := hf 0 (by kernel_rfl)
                      clear hf hp
                      refine stepM_at (by kernel_rfl) ?_
                      refine stepAt_plain rfl ?_
                      exact stepOK_move _ (.inl rfl) h0
                    refine ⟨fun t w1 hf hk hp => ?_, ?_⟩
                    · have h2 : slot t 2 = .int .i64 (k : Int) := hf 2 (by kernel_rfl)
                      clear hf hp
                      refine stepM_at (by kernel_rfl) ?_
                      refine stepAt_plain rfl ?_
                      exact stepOK_move _ (.inl rfl) h2
                    refine ⟨fun t w1 hf hk hp => ?_, ?_⟩
                    · have h76 : slot t 76 = .slice (some qs) n0 c0 := hp 76 (by kernel_rfl)
                      have h77 : slot t 77 = .int .i64 (k : Int) := hp 77 (by kernel_rfl)
                      clear hf hp
                      refine stepM_at (by kernel_rfl) ?_
                      refine stepAt_plain rfl ?_
                      exact stepOK_pure (.pointer (some (qs.add k))) (execIndexS qs n0 c0 k hkb w1 rfl h76 h77) rfl
                    refine ⟨fun t w1 hf hk hp => ?_, ?_⟩
                    · have h78 : slot t 78 = .pointer (some (qs.add k)) := hp 78 (by kernel_rfl)
                      clear hf hp
                      refine stepM_at (by kernel_rfl) ?_
                      refine stepAt_plain rfl ?_
                      have hq0 := (HS.out.kept (K5.out.trans hk)).load k hkb
                      exact stepOK_sem (.string (S0 k)) (by simp only [execOp, evS, h78]) hq0 rfl
                    refine ⟨fun t w1 hf hk hp => ?_, ?_⟩
                    · have h9 : slot t 9 = .pointer (some ⟨g9, 0, none⟩) := hf 9 (by kernel_rfl)
                      clear hf hp
                      refine stepM_at (by kernel_rfl) ?_
                      refine stepAt_plain rfl ?_
                      exact stepOK_pure (.agg #[.int .i64 (I1 k), .int .i64 OC, .slice q' L.length c']) (loadO rfl h9 (R9.out.kept hk) rfl) rfl
                    refine ⟨fun t w1 hf hk hp => ?_, ?_⟩
                    · have h79 : slot t 79 = .string (S0 k) := hp 79 (by kernel_rfl)
                      have h80 : slot t 80 = .agg #[.int .i64 (I1 k), .int .i64 OC, .slice q' L.length c'] := hp 80 (by kernel_rfl)
                      clear hf hp
                      refine stepM_at (by kernel_rfl) ?_
                      refine stepAt_plain rfl ?_
                      refine stepOK_call #[.string (S0 k), .agg #[.int .i64 (I1 k), .int .i64 OC, .slice q' L.length c']] rfl (by simp only [List.map_toArray, List.map_cons, List.map_nil, evS, h79, h80]) (by go_simp) ((hHR.out w1 (HSl.kept _ _ _ _ _ hk X5.out) (HT.out.kept (K5.out.trans hk))).mono fun e w' ⟨he, hk'⟩ => ⟨_, he, hk', rfl⟩)
                    refine ⟨fun t w1 hf hk hp => ?_, ?_⟩
                    · have h81 : slot t 81 = .tuple #[.agg (bC 32 A), .int .i64 0] := hp 81 (by kernel_rfl)
                      clear hf hp
                      refine stepM_at (by kernel_rfl) ?_
                      refine stepAt_plain rfl ?_
                      exact stepOK_move _ (.inl rfl) h81
                    refine ⟨fun t w1 hf hk hp => ?_, ?_⟩
                    · have h75 : slot t 75 = .tuple #[.agg (bC 32 A), .int .i64 0] := hp 75 (by kernel_rfl)
                      clear hf hp
                      refine stepM_at (by kernel_rfl) ?_
                      refine stepAt_plain rfl ?_
                      refine stepOK_pure (.agg (bC 32 A)) ?_ rfl
                      simp only [execOp, evS, h75]
                      go_simp
                    refine ⟨fun t w1 hf hk hp => ?_, ?_⟩
                    · have h75 : slot t 75 = .tuple #[.agg (bC 32 A), .int .i64 0] := hp 75 (by kernel_rfl)
                      clear hf hp
                      refine stepM_at (by kernel_rfl) ?_
                      refine stepAt_plain rfl ?_
                      refine stepOK_pure (.int .i64 0) ?_ rfl
                      simp only [execOp, evS, h75]
                      go_simp
                    refine ⟨fun t w1 hf hk hp => ?_, ?_⟩
                    · clear hf hp
                      refine stepM_made (by kernel_rfl) ?_
                      refine stepMade_new ((bC 32 [])) 38 rfl ?_ ⟨_, rfl, Rowz.new w1 _ _⟩
                      simp only [execOp, ptrAt0]
                      go_simp
                      rfl
                    exact trivial
                  · intro t w1 hsz hf hk hfacts hmd hap
                    obtain ⟨g11, h11, r11⟩ : ∃ g, slot t 11 = ptrAt0 g ∧ Rowz w1 g (bC 32 []) 38 := hfacts 9 _ (by decide) rfl 11 rfl
                    simp only [ptrAt0] at h11
                    have h82 : slot t 82 = .agg (bC 32 A) := hfacts 7 _ (by decide) rfl 82 rfl
                    have h83 : slot t 83 = .int .i64 0 := hfacts 8 _ (by decide) rfl 83 rfl
                    have h0 : slot t 0 = .slice (some qs) n0 c0 := hf 0 (by kernel_rfl)
                    have h2 : slot t 2 = .int .i64 (k : Int) := hf 2 (by kernel_rfl)
                    have h4 : slot t 4 = .pointer (some ⟨w.heap.size, 0, none⟩) := hf 4 (by kernel_rfl)
                    have h7 : slot t 7 = .pointer (some ⟨g7, 0, none⟩) := hf 7 (by kernel_rfl)
                    have h9 : slot t 9 = .pointer (some ⟨g9, 0, none⟩) := hf 9 (by kernel_rfl)
                    have h10 : slot t 10 = .bool true := hf 10 (by kernel_rfl)
                    have l11 := made_ge (hmd 11 (by kernel_rfl)) h11
                    have harr : t = #[slot t 0, slot t 1, slot t 2, slot t 3, slot t 4, slot t 5, slot t 6, slot t 7, slot t 8, slot t 9, slot t 10, slot t 11, slot t 12, slot t 13, slot t 14, slot t 15, slot t 16, slot t 17, slot t 18, slot t 19, slot t 20, slot t 21, slot t 22, slot t 23, slot t 24, slot t 25, slot t 26, slot t 27, slot t 28, slot t 29, slot t 30, slot t 31, slot t 32, slot t 33, slot t 34, slot t 35, slot t 36, slot t 37, slot t 38, slot t 39, slot t 40, slot t 41, slot t 42, slot t 43, slot t 44, slot t 45, slot t 46, slot t 47, slot t 48, slot t 49, slot t 50, slot t 51, slot t 52, slot t 53, slot t 54, slot t 55, slot t 56, slot t 57, slot t 58, slot t 59, slot t 60, slot t 61, slot t 62, slot t 63, slot t 64, slot t 65, slot t 66, slot t 67, slot t 68, slot t 69, slot t 70, slot t 71, slot t 72, slot t 73, slot t 74, slot t 75, slot t 76, slot t 77, slot t 78, slot t 79, slot t 80, slot t 81, slot t 82, slot t 83, slot t 84, slot t 85, slot t 86, slot t 87, slot t 88, slot t 89, slot t 90, slot t 91, slot t 92, slot t 93, slot t 94, slot t 95, slot t 96, slot t 97, slot t 98, slot t 99, slot t 100, slot t 101, slot t 102, slot t 103, slot t 104, slot t 105, slot t 106, slot t 107, slot t 108, slot t 109, slot t 110, slot t 111, slot t 112, slot t 113] := arr_eq t 114 hsz
                    rw [harr, h11, h82, h83, h0, h2, h4, h7, h9, h10]
                    clear harr hfacts hf hmd hap h11 h82 h83 h0 h2 h4 h7 h9 h10
                    generalize slot t 1 = x1; generalize slot t 3 = x3; generalize slot t 5 = x5; generalize slot t 6 = x6; generalize slot t 8 = x8; generalize slot t 12 = x12; generalize slot t 13 = x13; generalize slot t 14 = x14; generalize slot t 15 = x15; generalize slot t 16 = x16; generalize slot t 17 = x17; generalize slot t 18 = x18
                    generalize slot t 19 = x19; generalize slot t 20 = x20; generalize slot t 21 = x21; generalize slot t 22 = x22; generalize slot t 23 = x23; generalize slot t 24 = x24; generalize slot t 25 = x25; generalize slot t 26 = x26; generalize slot t 27 = x27; generalize slot t 28 = x28; generalize slot t 29 = x29; generalize slot t 30 = x30
                    generalize slot t 31 = x31; generalize slot t 32 = x32; generalize slot t 33 = x33; generalize slot t 34 = x34; generalize slot t 35 = x35; generalize slot t 36 = x36; generalize slot t 37 = x37; generalize slot t 38 = x38; generalize slot t 39 = x39; generalize slot t 40 = x40; generalize slot t 41 = x41; generalize slot t 42 = x42
                    generalize slot t 43 = x43; generalize slot t 44 = x44; generalize slot t 45 = x45; generalize slot t 46 = x46; generalize slot t 47 = x47; generalize slot t 48 = x48; generalize slot t 49 = x49; generalize slot t 50 = x50; generalize slot t 51 = x51; generalize slot t 52 = x52; generalize slot t 53 = x53; generalize slot t 54 = x54
                    generalize slot t 55 = x55; generalize slot t 56 = x56; generalize slot t 57 = x57; generalize slot t 58 = x58; generalize slot t 59 = x59; generalize slot t 60 = x60; generalize slot t 61 = x61; generalize slot t 62 = x62; generalize slot t 63 = x63; generalize slot t 64 = x64; generalize slot t 65 = x65; generalize slot t 66 = x66
                    generalize slot t 67 = x67; generalize slot t 68 = x68; generalize slot t 69 = x69; generalize slot t 70 = x70; generalize slot t 71 = x71; generalize slot t 72 = x72; generalize slot t 73 = x73; generalize slot t 74 = x74; generalize slot t 75 = x75; generalize slot t 76 = x76; generalize slot t 77 = x77; generalize slot t 78 = x78
                    generalize slot t 79 = x79; generalize slot t 80 = x80; generalize slot t 81 = x81; generalize slot t 84 = x84; generalize slot t 85 = x85; generalize slot t 86 = x86; generalize slot t 87 = x87; generalize slot t 88 = x88; generalize slot t 89 = x89; generalize slot t 90 = x90; generalize slot t 91 = x91; generalize slot t 92 = x92
                    generalize slot t 93 = x93; generalize slot t 94 = x94; generalize slot t 95 = x95; generalize slot t 96 = x96; generalize slot t 97 = x97; generalize slot t 98 = x98; generalize slot t 99 = x99; generalize slot t 100 = x100; generalize slot t 101 = x101; generalize slot t 102 = x102; generalize slot t 103 = x103; generalize slot t 104 = x104
                    generalize slot t 105 = x105; generalize slot t 106 = x106; generalize slot t 107 = x107; generalize slot t 108 = x108; generalize slot t 109 = x109; generalize slot t 110 = x110; generalize slot t 111 = x111; generalize slot t 112 = x112; generalize slot t 113 = x113
                    clear hsz t
                    simp only [List.drop_succ_cons, List.drop_zero]
                    have n4 : w.heap.size ≠ g11 := by have := R4.out.lt; omega
                    have n7 : g7 ≠ g11 := by have := R7.out.lt; omega
                    have n9 : g9 ≠ g11 := by have := R9.out.lt; omega
                    have K6 := Lib.hid ((K5.out.trans hk).setRow (Nat.le_trans K5.out.size l11) (bC 32 A))
                    have R4b := Lib.hid ((R4.out.kept hk).rowOther (D := bC 32 A) n4)
                    have R7b := Lib.hid ((R7.out.kept hk).rowOther (D := bC 32 A) n7)
                    have R9b := Lib.hid ((R9.out.kept hk).rowOther (D := bC 32 A) n9)
                    have R11 := Lib.hid (r11.row (D := bC 32 A))
                    refine wpList_store_row rfl 38 _ _ rfl g11 (bC 32 A) rfl rfl 38 (bC 32 []) r11 (info_hash _) (by simp [bC_size]) (bC_one _ _) ?_
                    clear r11 hk l11 n4 n7 n9 R4 R7 R9 K5
                    generalize w1.setRow g11 (bC 32 A) = v6 at K6 R4b R7b R9b R11 ⊢
                    go_wp2_with fail
                    refine wp_region_table [(84, .is (.bool true)), (85, .is (.bool true)), (86, .is (.int .i64 0)), (87, .is (.bool true)), (88, .is (.bool true)), (89, .is (.bool true)), (90, .is (.agg (bC 32 A))), (91, .is (.agg (bC 32 A))), (92, .is (.bool true)), (93, .is (.bool true)), (94, .is (.bool true)), (95, .is (.pointer (some ⟨g9, 0, none⟩))), (96, .is (.int .i64 (I1 k))), (97, .is (.pointer (some ⟨w.heap.size, 1, none⟩))), (98, .is (.slice (some qi) n0 c1)), (99, .is (.int .i64 (k : Int))), (100, .is (.pointer (some (qi.add k)))), (101, .is (.int .i64 (I1 k))), (102, .is (.bool true)), (103, .is (.bool true)), (104, .is (.bool true)), (105, .is (.pointer (some ⟨g9, 1, none⟩))), (106, .is (.int .i64 OC)), (107, .is (.pointer (some ⟨w.heap.size, 0, none⟩))), (108, .is (.int .i64 OC)), (109, .is (.bool true)), (110, .is (.bool true)), (111, .is (.bool true)), (112, .is (.bool true)), (113, .is (.bool true)), (6, .is (.bool true))] (by kernel_rfl) (by kernel_rfl) ?_ ?_
                    · refine ⟨fun t w1 hf hk hp => ?_, ?_⟩
                      · have h10 : slot t 10 = .bool true := hf 10 (by kernel_rfl)
                        clear hf hp
                        refine stepAt_plain rfl ?_
                        exact stepOK_move _ (.inl rfl) h10
                      refine ⟨fun t w1 hf hk hp => ?_, ?_⟩
                      · have h84 : slot t 84 = .bool true := hp 84 (by kernel_rfl)
                        clear hf hp
                        refine stepAt_plain rfl ?_
                        exact stepOK_move _ (.inl rfl) h84
                      refine ⟨fun t w1 hf hk hp => ?_, ?_⟩
                      · have h12 : slot t 12 = .int .i64 0 := hf 12 (by kernel_rfl)
                        have h85 : slot t 85 = .bool true := hp 85 (by kernel_rfl)
                        clear hf hp
                        refine stepAt_on 85 true (by kernel_rfl) h85 ?_
                        exact stepOK_move _ (.inl rfl) h12
                      refine ⟨fun t w1 hf hk hp => ?_, ?_⟩
                      · have h86 : slot t 86 = .int .i64 0 := hp 86 (by kernel_rfl)
                        have h85 : slot t 85 = .bool true := hp 85 (by kernel_rfl)
                        clear hf hp
                        refine stepAt_on 85 true (by kernel_rfl) h85 ?_
                        refine stepOK_pure (.bool true) ?_ rfl
                        simp only [execOp, evS, h86]
                        go_simp
                      refine ⟨fun t w1 hf hk hp => ?_, ?_⟩
                      · have h85 : slot t 85 = .bool true := hp 85 (by kernel_rfl)
                        have h87 : slot t 87 = .bool true := hp 87 (by kernel_rfl)
                        clear hf hp
                        refine stepAt_plain rfl ?_
                        refine stepOK_pure (.bool true) ?_ rfl
                        simp only [execOp, evS, h85, h87]
                        go_simp
                      refine ⟨fun t w1 hf hk hp => ?_, ?_⟩
                      · have h88 : slot t 88 = .bool true := hp 88 (by kernel_rfl)
                        clear hf hp
                        refine stepAt_plain rfl ?_
                        exact stepOK_move _ (.inl rfl) h88
                      refine ⟨fun t w1 hf hk hp => ?_, ?_⟩
                      · have h11 : slot t 11 = .pointer (some ⟨g11, 0, none⟩) := hf 11 (by kernel_rfl)
                        have h89 : slot t 89 = .bool true := hp 89 (by kernel_rfl)
                        clear hf hp
                        refine stepAt_on 89 true (by kernel_rfl) h89 ?_
                        exact stepOK_pure (.agg (bC 32 A)) (loadHr rfl h11 (R11.out.kept hk)) rfl
                      refine ⟨fun t w1 hf hk hp => ?_, ?_⟩
                      · have h7 : slot t 7 = .pointer (some ⟨g7, 0, none⟩) := hf 7 (by kernel_rfl)
                        have h89 : slot t 89 = .bool true := hp 89 (by kernel_rfl)
                        clear hf hp
                        refine stepAt_on 89 true (by kernel_rfl) h89 ?_
                        exact stepOK_pure (.agg (bC 32 A)) (loadHr rfl h7 (R7b.out.kept hk)) rfl
                      refine ⟨fun t w1 hf hk hp => ?_, ?_⟩
                      · have h90 : slot t 90 = .agg (bC 32 A) := hp 90 (by kernel_rfl)
                        have h91 : slot t 91 = .agg (bC 32 A) := hp 91 (by kernel_rfl)
                        have h89 : slot t 89 = .bool true := hp 89 (by kernel_rfl)
                        clear hf hp
                        refine stepAt_on 89 true (by kernel_rfl) h89 ?_
                        exact stepOK_pure (.bool true) (execEqH1 A hR32 w1 rfl h90 h91) rfl
                      refine ⟨fun t w1 hf hk hp => ?_, ?_⟩
                      · have h89 : slot t 89 = .bool true := hp 89 (by kernel_rfl)
                        have h92 : slot t 92 = .bool true := hp 92 (by kernel_rfl)
                        clear hf hp
                        refine stepAt_plain rfl ?_
                        refine stepOK_pure (.bool true) ?_ rfl
                        simp only [execOp, evS, h89, h92]
                        go_simp
                      refine ⟨fun t w1 hf hk hp => ?_, ?_⟩
                      · have h93 : slot t 93 = .bool true := hp 93 (by kernel_rfl)
                        clear hf hp
                        refine stepAt_plain rfl ?_
                        exact stepOK_move _ (.inl rfl) h93
                      refine ⟨fun t w1 hf hk hp => ?_, ?_⟩
                      · have h9 : slot t 9 = .pointer (some ⟨g9, 0, none⟩) := hf 9 (by kernel_rfl)
                        have h94 : slot t 94 = .bool true := hp 94 (by kernel_rfl)
                        clear hf hp
                        refine stepAt_on 94 true (by kernel_rfl) h94 ?_
                        exact stepOK_pure (.pointer (some ⟨g9, 0, none⟩)) (execFieldO g9 0 (by omega) w1 rfl h9) rfl
                      refine ⟨fun t w1 hf hk hp => ?_, ?_⟩
                      · have h95 : slot t 95 = .pointer (some ⟨g9, 0, none⟩) := hp 95 (by kernel_rfl)
                        have h94 : slot t 94 = .bool true := hp 94 (by kernel_rfl)
                        clear hf hp
                        refine stepAt_on 94 true (by kernel_rfl) h94 ?_
                        have hq0 := run_loadI ((R9b.out.kept hk).cell 0)
                        exact stepOK_sem (.int .i64 (I1 k)) (by simp only [execOp, evS, h95]) hq0 rfl
                      refine ⟨fun t w1 hf hk hp => ?_, ?_⟩
                      · have h4 : slot t 4 = .pointer (some ⟨w.heap.size, 0, none⟩) := hf 4 (by kernel_rfl)
                        have h94 : slot t 94 = .bool true := hp 94 (by kernel_rfl)
                        clear hf hp
                        refine stepAt_on 94 true (by kernel_rfl) h94 ?_
                        exact stepOK_pure (.pointer (some ⟨w.heap.size, 1, none⟩)) (execFieldM w.heap.size 1 (by omega) w1 rfl h4) rfl
                      refine ⟨fun t w1 hf hk hp => ?_, ?_⟩
                      · have h97 : slot t 97 = .pointer (some ⟨w.heap.size, 1, none⟩) := hp 97 (by kernel_rfl)
                        have h94 : slot t 94 = .bool true := hp 94 (by kernel_rfl)
                        clear hf hp
                        refine stepAt_on 94 true (by kernel_rfl) h94 ?_
                        have hq0 := run_loadIs ((R4b.out.kept hk).cell 1)
                        exact stepOK_sem (.slice (some qi) n0 c1) (by simp only [execOp, evS, h97]) hq0 rfl
                      refine ⟨fun t w1 hf hk hp => ?_, ?_⟩
                      · have h2 : slot t 2 = .int .i64 (k : Int) := hf 2 (by kernel_rfl)
                        have h94 : slot t 94 = .bool true := hp 94 (by kernel_rfl)
                        clear hf hp
                        refine stepAt_on 94 true (by kernel_rfl) h94 ?_
                        exact stepOK_move _ (.inl rfl) h2
                      refine ⟨fun t w1 hf hk hp => ?_, ?_⟩
                      · have h98 : slot t 98 = .slice (some qi) n0 c1 := hp 98 (by kernel_rfl)
                        have h99 : slot t 99 = .int .i64 (k : Int) := hp 99 (by kernel_rfl)
                        have h94 : slot t 94 = .bool true := hp 94 (by kernel_rfl)
                        clear hf hp
                        refine stepAt_on 94 true (by kernel_rfl) h94 ?_
                        exact stepOK_pure (.pointer (some (qi.add k))) (execIndexI qi n0 c1 k hkb w1 rfl h98 h99) rfl
                      refine ⟨fun t w1 hf hk hp => ?_, ?_⟩
                      · have h100 : slot t 100 = .pointer (some (qi.add k)) := hp 100 (by kernel_rfl)
                        have h94 : slot t 94 = .bool true := hp 94 (by kernel_rfl)
                        clear hf hp
                        refine stepAt_on 94 true (by kernel_rfl) h94 ?_
                        have hq0 := run_loadI ((HI.out.kept (K6.out.trans hk)).cell k hkb)
                        exact stepOK_sem (.int .i64 (I1 k)) (by simp only [execOp, evS, h100]) hq0 rfl
                      refine ⟨fun t w1 hf hk hp => ?_, ?_⟩
                      · have h96 : slot t 96 = .int .i64 (I1 k) := hp 96 (by kernel_rfl)
                        have h101 : slot t 101 = .int .i64 (I1 k) := hp 101 (by kernel_rfl)
                        have h94 : slot t 94 = .bool true := hp 94 (by kernel_rfl)
                        clear hf hp
                        refine stepAt_on 94 true (by kernel_rfl) h94 ?_
                        exact stepOK_pure (.bool true) (Eq.trans (execEqI16 (I1 k) (I1 k) w1 rfl h96 h101) (by simp)) rfl
                      refine ⟨fun t w1 hf hk hp => ?_, ?_⟩
                      · have h94 : slot t 94 = .bool true := hp 94 (by kernel_rfl)
                        have h102 : slot t 102 = .bool true := hp 102 (by kernel_rfl)
                        clear hf hp
                        refine stepAt_plain rfl ?_
                        refine stepOK_pure (.bool true) ?_ rfl
                        simp only [execOp, evS, h94, h102]
                        go_simp
                      refine ⟨fun t w1 hf hk hp => ?_, ?_⟩
                      · have h103 : slot t 103 = .bool true := hp 103 (by kernel_rfl)
                        clear hf hp
                        refine stepAt_plain rfl ?_
                        exact stepOK_move _ (.inl rfl) h103
                      refine ⟨fun t w1 hf hk hp => ?_, ?_⟩
                      · have h9 : slot t 9 = .pointer (some ⟨g9, 0, none⟩) := hf 9 (by kernel_rfl)
                        have h104 : slot t 104 = .bool true := hp 104 (by kernel_rfl)
                        clear hf hp
                        refine stepAt_on 104 true (by kernel_rfl) h104 ?_
                        exact stepOK_pure (.pointer (some ⟨g9, 1, none⟩)) (execFieldO g9 1 (by omega) w1 rfl h9) rfl
                      refine ⟨fun t w1 hf hk hp => ?_, ?_⟩
                      · have h105 : slot t 105 = .pointer (some ⟨g9, 1, none⟩) := hp 105 (by kernel_rfl)
                        have h104 : slot t 104 = .bool true := hp 104 (by kernel_rfl)
                        clear hf hp
                        refine stepAt_on 104 true (by kernel_rfl) h104 ?_
                        have hq0 := run_loadI ((R9b.out.kept hk).cell 1)
                        exact stepOK_sem (.int .i64 OC) (by simp only [execOp, evS, h105]) hq0 rfl
                      refine ⟨fun t w1 hf hk hp => ?_, ?_⟩
                      · have h4 : slot t 4 = .pointer (some ⟨w.heap.size, 0, none⟩) := hf 4 (by kernel_rfl)
                        have h104 : slot t 104 = .bool true := hp 104 (by kernel_rfl)
                        clear hf hp
                        refine stepAt_on 104 true (by kernel_rfl) h104 ?_
                        exact stepOK_pure (.pointer (some ⟨w.heap.size, 0, none⟩)) (execFieldM w.heap.size 0 (by omega) w1 rfl h4) rfl
                      refine ⟨fun t w1 hf hk hp => ?_, ?_⟩
                      · have h107 : slot t 107 = .pointer (some ⟨w.heap.size, 0, none⟩) := hp 107 (by kernel_rfl)
                        have h104 : slot t 104 = .bool true := hp 104 (by kernel_rfl)
                        clear hf hp
                        refine stepAt_on 104 true (by kernel_rfl) h104 ?_
                        have hq0 := run_loadI ((R4b.out.kept hk).cell 0)
                        exact stepOK_sem (.int .i64 OC) (by simp only [execOp, evS, h107]) hq0 rfl
                      refine ⟨fun t w1 hf hk hp => ?_, ?_⟩
                      · have h106 : slot t 106 = .int .i64 OC := hp 106 (by kernel_rfl)
                        have h108 : slot t 108 = .int .i64 OC := hp 108 (by kernel_rfl)
                        have h104 : slot t 104 = .bool true := hp 104 (by kernel_rfl)
                        clear hf hp
                        refine stepAt_on 104 true (by kernel_rfl) h104 ?_
                        exact stepOK_pure (.bool true) (Eq.trans (execEqI16 OC OC w1 rfl h106 h108) (by simp)) rfl
                      refine ⟨fun t w1 hf hk hp => ?_, ?_⟩
                      · have h104 : slot t 104 = .bool true := hp 104 (by kernel_rfl)
                        have h109 : slot t 109 = .bool true := hp 109 (by kernel_rfl)
                        clear hf hp
                        refine stepAt_plain rfl ?_
                        refine stepOK_pure (.bool true) ?_ rfl
                        simp only [execOp, evS, h104, h109]
                        go_simp
                      refine ⟨fun t w1 hf hk hp => ?_, ?_⟩
                      · have h110 : slot t 110 = .bool true := hp 110 (by kernel_rfl)
                        clear hf hp
                        refine stepAt_plain rfl ?_
                        exact stepOK_move _ (.inl rfl) h110
                      refine ⟨fun t w1 hf hk hp => ?_, ?_⟩
                      · have h111 : slot t 111 = .bool true := hp 111 (by kernel_rfl)
                        clear hf hp
                        refine stepAt_on 111 true (by kernel_rfl) h111 ?_
                        refine stepOK_call #[] rfl (by simp only [List.map_toArray, List.map_nil]) (by go_simp) ((HA.out w1).mono fun e w' ⟨he, hk'⟩ => ⟨_, he, hk', rfl⟩)
                      refine ⟨fun t w1 hf hk hp => ?_, ?_⟩
                      · have h111 : slot t 111 = .bool true := hp 111 (by kernel_rfl)
                        have h112 : slot t 112 = .bool true := hp 112 (by kernel_rfl)
                        clear hf hp
                        refine stepAt_plain rfl ?_
                        refine stepOK_pure (.bool true) ?_ rfl
                        simp only [execOp, evS, h111, h112]
                        go_simp
                      refine ⟨fun t w1 hf hk hp => ?_, ?_⟩
                      · have h113 : slot t 113 = .bool true := hp 113 (by kernel_rfl)
                        clear hf hp
                        refine stepAt_plain rfl ?_
                        exact stepOK_move _ (.inr rfl) h113
                      exact trivial
                    · intro t w1 hsz hf hk hfacts
                      have h6 : slot t 6 = .bool true := hfacts 30 _ rfl 6 rfl
                      have h2 : slot t 2 = .int .i64 (k : Int) := hf 2 (by kernel_rfl)
                      have h4 : slot t 4 = .pointer (some ⟨w.heap.size, 0, none⟩) := hf 4 (by kernel_rfl)
                      have h7 : slot t 7 = .pointer (some ⟨g7, 0, none⟩) := hf 7 (by kernel_rfl)
                      have h9 : slot t 9 = .pointer (some ⟨g9, 0, none⟩) := hf 9 (by kernel_rfl)
                      have h10 : slot t 10 = .bool true := hf 10 (by kernel_rfl)
                      have h11 : slot t 11 = .pointer (some ⟨g11, 0, none⟩) := hf 11 (by kernel_rfl)
                      have h12 : slot t 12 = .int .i64 0 := hf 12 (by kernel_rfl)
                      have harr : t = #[slot t 0, slot t 1, slot t 2, slot t 3, slot t 4, slot t 5, slot t 6, slot t 7, slot t 8, slot t 9, slot t 10, slot t 11, slot t 12, slot t 13, slot t 14, slot t 15, slot t 16, slot t 17, slot t 18, slot t 19, slot t 20, slot t 21, slot t 22, slot t 23, slot t 24, slot t 25, slot t 26, slot t 27, slot t 28, slot t 29, slot t 30, slot t 31, slot t 32, slot t 33, slot t 34, slot t 35, slot t 36, slot t 37, slot t 38, slot t 39, slot t 40, slot t 41, slot t 42, slot t 43, slot t 44, slot t 45, slot t 46, slot t 47, slot t 48, slot t 49, slot t 50, slot t 51, slot t 52, slot t 53, slot t 54, slot t 55, slot t 56, slot t 57, slot t 58, slot t 59, slot t 60, slot t 61, slot t 62, slot t 63, slot t 64, slot t 65, slot t 66, slot t 67, slot t 68, slot t 69, slot t 70, slot t 71, slot t 72, slot t 73, slot t 74, slot t 75, slot t 76, slot t 77, slot t 78, slot t 79, slot t 80, slot t 81, slot t 82, slot t 83, slot t 84, slot t 85, slot t 86, slot t 87, slot t 88, slot t 89, slot t 90, slot t 91, slot t 92, slot t 93, slot t 94, slot t 95, slot t 96, slot t 97, slot t 98, slot t 99, slot t 100, slot t 101, slot t 102, slot t 103, slot t 104, slot t 105, slot t 106, slot t 107, slot t 108, slot t 109, slot t 110, slot t 111, slot t 112, slot t 113] := arr_eq t 114 hsz
                      rw [harr, h6, h2, h4, h7, h9, h10, h11, h12]
                      clear harr hfacts hf h6 h2 h4 h7 h9 h10 h11 h12
                      generalize slot t 0 = x0; generalize slot t 1 = x1; generalize slot t 3 = x3; generalize slot t 5 = x5; generalize slot t 8 = x8; generalize slot t 13 = x13; generalize slot t 14 = x14; generalize slot t 15 = x15; generalize slot t 16 = x16; generalize slot t 17 = x17; generalize slot t 18 = x18; generalize slot t 19 = x19
                      generalize slot t 20 = x20; generalize slot t 21 = x21; generalize slot t 22 = x22; generalize slot t 23 = x23; generalize slot t 24 = x24; generalize slot t 25 = x25; generalize slot t 26 = x26; generalize slot t 27 = x27; generalize slot t 28 = x28; generalize slot t 29 = x29; generalize slot t 30 = x30; generalize slot t 31 = x31
                      generalize slot t 32 = x32; generalize slot t 33 = x33; generalize slot t 34 = x34; generalize slot t 35 = x35; generalize slot t 36 = x36; generalize slot t 37 = x37; generalize slot t 38 = x38; generalize slot t 39 = x39; generalize slot t 40 = x40; generalize slot t 41 = x41; generalize slot t 42 = x42; generalize slot t 43 = x43
                      generalize slot t 44 = x44; generalize slot t 45 = x45; generalize slot t 46 = x46; generalize slot t 47 = x47; generalize slot t 48 = x48; generalize slot t 49 = x49; generalize slot t 50 = x50; generalize slot t 51 = x51; generalize slot t 52 = x52; generalize slot t 53 = x53; generalize slot t 54 = x54; generalize slot t 55 = x55
                      generalize slot t 56 = x56; generalize slot t 57 = x57; generalize slot t 58 = x58; generalize slot t 59 = x59; generalize slot t 60 = x60; generalize slot t 61 = x61; generalize slot t 62 = x62; generalize slot t 63 = x63; generalize slot t 64 = x64; generalize slot t 65 = x65; generalize slot t 66 = x66; generalize slot t 67 = x67
                      generalize slot t 68 = x68; generalize slot t 69 = x69; generalize slot t 70 = x70; generalize slot t 71 = x71; generalize slot t 72 = x72; generalize slot t 73 = x73; generalize slot t 74 = x74; generalize slot t 75 = x75; generalize slot t 76 = x76; generalize slot t 77 = x77; generalize slot t 78 = x78; generalize slot t 79 = x79
                      generalize slot t 80 = x80; generalize slot t 81 = x81; generalize slot t 82 = x82; generalize slot t 83 = x83; generalize slot t 84 = x84; generalize slot t 85 = x85; generalize slot t 86 = x86; generalize slot t 87 = x87; generalize slot t 88 = x88; generalize slot t 89 = x89; generalize slot t 90 = x90; generalize slot t 91 = x91
                      generalize slot t 92 = x92; generalize slot t 93 = x93; generalize slot t 94 = x94; generalize slot t 95 = x95; generalize slot t 96 = x96; generalize slot t 97 = x97; generalize slot t 98 = x98; generalize slot t 99 = x99; generalize slot t 100 = x100; generalize slot t 101 = x101; generalize slot t 102 = x102; generalize slot t 103 = x103
                      generalize slot t 104 = x104; generalize slot t 105 = x105; generalize slot t 106 = x106; generalize slot t 107 = x107; generalize slot t 108 = x108; generalize slot t 109 = x109; generalize slot t 110 = x110; generalize slot t 111 = x111; generalize slot t 112 = x112; generalize slot t 113 = x113
                      clear hsz t
                      have KF := Lib.hid (K6.out.trans hk)
                      clear hk
                      go_wp2_with fail
                      go_ret
                      exact ⟨rfl, K1.out.trans KF.out⟩
            · have hWn : (mayM (n0 : Int) a1 n1 I1 m1 != 0) = true := by simpa using hW
              have hb : OB = false := by rw [hOB.out]; exact decide_eq_false fun h => hW h.1
              subst hb
              clear hOB hal hnn hOI hOC hL
              replace hW := Lib.hid hW
              generalize mayM (n0 : Int) a1 n1 I1 m1 = W at hWn hW ⊢
              go_wp2_with fail
              refine (HA.out u5).mono ?_
              rintro e u6 ⟨rfl, k6⟩
              have K6 := Lib.hid (K5.out.trans k6)
              clear k6 K5
              go_wp2_with fail
              go_ret
              exact ⟨rfl, K1.out.trans K6.out⟩

set_option maxRecDepth 100000 in
set_option maxHeartbeats 1000000 in
theorem lifted (os : Os) (started : os.Started) (H : Type) (enc : TypeId × Value → H) :
    ReturnsInHanded {} Tryd.checked os 6 .any (fun w args => (Rows.multiAloneSpec.pre enc Tryd.prog Tryd.f6 [] false w args ∧ laidMetH Tryd.prog Rows.multiAloneRow.laid w) ∧ sizedMet enc Tryd.prog Tryd.f6 (OpenSpec.ofChange Rows.multiAloneSpec) false w args)
      (Rows.multiAloneSpec.post enc Tryd.prog Tryd.f6 false true false false) := by
  refine returnsInHanded_of_change_and (C := Tryd.checked) (X := fun w _ => laidMetH Tryd.prog Rows.multiAloneRow.laid w) (fun _ _ _ hh h => h.of_heap hh) own started (by kernel_rfl) Tryd.func6
    (ChangeSpec.witness_shaped (enc := enc) (C := Tryd.checked) (os := os) (X := fun w _ => laidMetH Tryd.prog Rows.multiAloneRow.laid w) false (World.doorLaid Tryd.prog 400 os) #[.slice none 0 0, .agg #[.int .i64 0, .slice none 0 0, .slice none 0 0], .int .i64 0] 8 rfl (World.shaped_of_RefB (by kernel_rfl) (by kernel_rfl)) (by kernel_rfl) (by kernel_rfl) (by kernel_rfl) (door_met os _)) ?_
  intro W base args ds gs before hval0 hW _ hsz0 hL _
  have hval : ∀ (j : Nat) t v, Tryd.f6.params[j]? = some t → args[j]? = some v → Value.okWide Tryd.prog W .any base t v := hval0
  have hsz : (DataW.weightsEach Tryd.prog (Tryd.f6.params.toList ++ Rows.multiAloneSpec.plain.varTypes Tryd.prog) (ds ++ gs)).all (· ≤ reachBytes) = true := hsz0
  have hW' := hW
  obtain ⟨p, q, hA0, hV, rfl, hfz, hnd⟩ := hW
  have hA : DataW.TrodAll enc Tryd.prog W 0 (fun _ => true) true Tryd.f6.params.toList args.toList ds p := hA0
  have hAk := hA
  rw [Tryd.params6] at hA hval hsz
  obtain ⟨v0, vs0, d0, ds0, p0_, q0_, hargs, rfl, rfl, h0, r0_⟩ := trodAll_cons hA
  obtain ⟨v1, vs1, d1, ds1, p1_, q1_, rfl, rfl, rfl, h1, r1_⟩ := trodAll_cons r0_
  obtain ⟨v2, vs2, d2, ds2, p2_, q2_, rfl, rfl, rfl, h2, r2_⟩ := trodAll_cons r1_
  obtain ⟨rfl, rfl, rfl⟩ := trodAll_nil r2_
  obtain rfl : args = #[v0, v1, v2] := by cases args; simp_all
  obtain ⟨rfl, rfl⟩ := trodVars_none hV
  have hlt : ∀ x ∈ (p0_ ++ (p1_ ++ (p2_ ++ ([])))), x.block < W.heap.size := fun x hx => by simpa using hW'.lt x (by simpa using hx)
  obtain ⟨p0, n0, c0, S0, z0, rfl, e0, rr0⟩ := open_sslice Tryd.underlying22 Tryd.underlying9 (by kernel_rfl) (hval 0 22 v0 rfl rfl) h0
  obtain ⟨cs1, rfl, _⟩ := okWide_struct Tryd.underlying28 (hval 1 28 v1 rfl rfl)
  obtain ⟨a1, p1, n1, c1, I1, q1, m1, d1, F1, w1, z1, y1, x1, rfl, e1, f1⟩ := open_many Tryd.underlying28 (by kernel_rfl) ⟨rfl, rfl, rfl⟩ ⟨by kernel_rfl, by kernel_rfl, by kernel_rfl⟩ Tryd.underlying3 Tryd.underlying23 Tryd.underlying3 (by kernel_rfl) Tryd.underlying26 Tryd.underlying38 (by kernel_rfl) Tryd.underlying5 (by kernel_rfl) h1
  obtain ⟨a2, rfl, rfl, rfl, w2⟩ := open_int Tryd.underlying3 (hval 2 3 v2 rfl rfl) h2
  have r0 := (rr0 hsz (J := 0) rfl rfl).2
  clear hA0 hval0
  refine (walk p0 n0 c0 S0 z0 r0 a1 p1 n1 c1 I1 q1 m1 d1 F1 w1 z1 y1 x1 a2 w2 W e0 e1 f1 (tab_of_laid hL)).mono fun e W' ⟨he, hg⟩ => ?_
  subst he
  exact ⟨_, rfl, ⟨_, _, _, [], _, [], hW', trodAll_cons_mk (shut_bool Tryd.underlying4 _) trodAll_mk0, trodAll_stays laidOut hg (by kernel_rfl) hAk hlt (fun x hx => by simpa using hlt x hx), rfl, Kept.frame hg _, fun h => by cases h⟩⟩

theorem over : Rows.multiAloneRow.holds Tryd.pinned (OpenSpec.ofChange Rows.multiAloneSpec) :=
  OpenClaim.holds_of_wide 6 Tryd.f6 rfl rfl rfl rfl rfl rfl rfl ⟨rfl, rfl, rfl, rfl, rfl⟩ rfl rfl rfl rfl rfl (by kernel_rfl) Tryd.func6 (by kernel_rfl)
    (of_decide_eq_true (by kernel_rfl)) (by unfold Func.isWrapper; first | (rw [if_pos (by decide +kernel)]; kernel_rfl) | (rw [if_neg (by decide +kernel)]; exact ⟨rfl, rfl⟩))
    (fun os started H enc _ => lifted os started H enc)
end Go.Proofs.YtggpjhldmaflaaaDoor.multiAlone
namespace Go.Proofs.YtggpjhldmaflaaaDoor
theorem multiAlone_holds : Rows.MultiAloneSaid := multiAlone.over
theorem multiAlone_card : Rows.MultiAloneCardSaid :=
  Claim7.holds_tied_plain_at .later [] [.data] true (true, "d35ee8a81d3cf5a6351c78eb7c8ada333cc817468752d51f115c50cb0b0845aa") false
    multiAlone_holds (fun _ h => by cases h) (by kernel_rfl) (fun _ h => by cases h) multiAlone_row_tie rfl ⟨rfl, rfl⟩ (by kernel_rfl) rfl
    (fun f fn hf hfn => by
      obtain rfl : f = 6 := Option.some.inj ((show Tryd.prog.funcNamed "milepost/milepostlaw16.MultiAlone" = some 6 by kernel_rfl).symm.trans hf) |>.symm
      obtain rfl : fn = Tryd.f6 := (Option.some.inj (Tryd.func6.symm.trans hfn)).symm
      refine ⟨by kernel_rfl, fun j t ht => ?_⟩
      have hm : t ∈ Tryd.f6.params.toList := by simpa using Array.mem_of_getElem? ht
      have hall : (Tryd.f6.params.toList.all fun u => !Tryd.prog.wantsStandIn u) = true := by kernel_rfl
      exact (show Tryd.prog.wantsStandIn t = false by simpa using List.all_eq_true.1 hall t hm))
    (by kernel_rfl)
#print axioms multiAlone_card
end Go.Proofs.YtggpjhldmaflaaaDoor
