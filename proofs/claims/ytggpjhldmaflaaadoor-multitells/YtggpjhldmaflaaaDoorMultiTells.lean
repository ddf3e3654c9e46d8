/-
  Root, May and Check of any leaves and any opening of several leaves answer as the reference: the first error, or the root that they determine; the law's example holds: 'MultiTells' returns true for every input.
  Conditions: those of the given card (sha's table of round constants as the program's text lays it).
-/
import Derived.Test.YtggpjhldmaflaaaDoorRows
import Derived.Test.YtggpjhldmaflaaaDoorMultiWalkE
import Derived.Test.YtggpjhldmaflaaaDoorMultiAwake
import Derived.Test.YtggpjhldmaflaaaDoorMultiLaw
import Derived.Test.YtggpjhldmaflaaaDoorLawLibH
import Derived.Test.YtggpjhldmaflaaaDoorLateLib
import Derived.WalkKit
import Derived.ProofKit
import Derived.OpenShut
import Derived.ShutString
import Derived.SizedLaws
import Derived.Test.YtggpjhldmaflaaaDoorBas
import Derived.LaidMore
import Derived.SevenTiedAt
import Derived.Test.YtggpjhldmaflaaaDoorCards
import Derived.Test.YtggpjhldmaflaaaDoorTie
import Derived.Test.YtggpjhldmaflaaaDoorShb
namespace Go.Proofs.YtggpjhldmaflaaaDoor.multiTells
open Go.ChangeShapes Go.WideShapes Go.ChangeAt Go.RowKit
open Go.ChangeMaps (open_string shut_string)
set_option linter.unusedVariables false

theorem own : ownKnob Tryd.prog.godebug = none := by kernel_rfl
theorem laidOut : laidOutB Tryd.prog = true := by kernel_rfl

set_option maxRecDepth 100000 in
set_option maxHeartbeats 4000000 in
theorem walk (a0 : List UInt8) (n0 : a0.length = 32) (p1 : Option Addr) (n1 c1 : Nat) (S1 : Nat → ByteArray) (z1 : n1 ≤ c1 ∧ c1 ≤ maxLen) (r1 : ∀ i, i < n1 → (S1 i).size ≤ 140737488351232) (a2 : Int) (p2 : Option Addr) (n2 c2 : Nat) (I2 : Nat → Int) (q2 : Option Addr) (m2 d2 : Nat) (F2 : Nat → List UInt8) (w2 : (Lit.int .i64 a2).wf = true) (z2 : n2 ≤ c2 ∧ c2 ≤ maxLen) (y2 : ∀ i, i < n2 → (Lit.int .i64 (I2 i)).wf = true) (x2 : m2 ≤ d2 ∧ d2 ≤ maxLen) (w : World) (e1 : SAt w p1 n1 S1) (e2 : IAt w p2 n2 I2) (f2 : HAt w q2 m2 F2) (hT : Tab w) :
    Calls Tryd.prog 4 #[.agg (bC 32 a0), .slice p1 n1 c1, .agg #[.int .i64 a2, .slice p2 n2 c2, .slice q2 m2 d2]] w fun e w' => e = .returned (.bool true) ∧ Kept w w' := by
  have K1 := Lib.hid (((Kept.refl w).alloc (.cells (bC 32 a0) 38)).alloc (.cells #[.int .i64 a2, .slice p2 n2 c2, .slice q2 m2 d2] 28))
  have R3 := Lib.hid ((Rowz.new w (bC 32 a0) 38).alloc (.cells #[.int .i64 a2, .slice p2 n2 c2, .slice q2 m2 d2] 28))
  have R5 := Lib.hid (Rowz.newEq1 w (.cells (bC 32 a0) 38) _ #[.int .i64 a2, .slice p2 n2 c2, .slice q2 m2 d2] 28 rfl)
  have HS := Lib.hid (e1.kept K1.out)
  have HI := Lib.hid (e2.kept K1.out)
  have HH : Hid (HSl m2 F2 (.slice q2 m2 d2) _) := Lib.hid (HSl.kept _ _ _ _ _ K1.out ⟨q2, d2, rfl, x2.1, x2.2, f2⟩)
  have HT := Lib.hid (hT.kept K1.out)
  have HM0 := Lib.hid (much12_any p1 n1 c1 S1 _ HS.out r1 (by unfold maxLen at z1; omega))
  have HA : Hid (∀ w, _) := Lib.hid fun w => awake16_any w
  clear hT e1 e2 f2 r1 w2 y2
  go_enter Tryd.func4, Tryd.ntmps4
  go_wp2_with fail
  change Calls _ _ _ ((w.alloc (.cells (bC 32 a0) 38)).alloc (.cells #[.int .i64 a2, .slice p2 n2 c2, .slice q2 m2 d2] 28)) _
  generalize (w.alloc (.cells (bC 32 a0) 38)).alloc (.cells #[.int .i64 a2, .slice p2 n2 c2, .slice q2 m2 d2] 28) = v0 at K1 R3 R5 HS HI HH HT HM0 ⊢
  refine HM0.out.mono ?_
  rintro e u0 ⟨B, rfl, rfl, hB⟩
  have f0 := R5.out.cell 0
  have f1 := R5.out.cell 1
  have f2 := R5.out.cell 2
  cases B with
  | true =>
    go_wp2_with fail
    refine (HA.out v0).mono ?_
    rintro e u1 ⟨rfl, k1⟩
    have K2 := Lib.hid (K1.out.trans k1)
    clear k1
    go_wp2_with fail
    go_ret
    exact ⟨rfl, K2.out⟩
  | false =>
    obtain ⟨hn1, hz1⟩ := hB rfl
    clear hB HM0
    by_cases hbig : 100 < a2 ∧ a2 ≤ 1048576
    · have hd1 : decide (a2 > 100) = true := decide_eq_true hbig.1
      have hd1' : decide (100 < a2) = true := decide_eq_true hbig.1
      have hd2 : decide (a2 ≤ 1048576) = true := decide_eq_true hbig.2
      go_wp2_with fail
      refine (HA.out v0).mono ?_
      rintro e u1 ⟨rfl, k1⟩
      have K2 := Lib.hid (K1.out.trans k1)
      clear k1
      go_wp2_with fail
      go_ret
      exact ⟨rfl, K2.out⟩
    · obtain ⟨E1, hE1⟩ : ∃ E, E = decide (a2 > 100) := ⟨_, rfl⟩
      have hd1 : decide (a2 > 100) = E1 := hE1.symm
      have hd1' : decide (100 < a2) = E1 := hE1.symm
      have hd2 : E1 = true → decide (a2 ≤ 1048576) = false := fun h => decide_eq_false fun h2 => hbig ⟨of_decide_eq_true (hE1.symm.trans h), h2⟩
      clear hE1
      by_cases hn2 : 200 < n2
      · have hd3 : decide ((n2 : Int) > 200) = true := decide_eq_true (by omega)
        have hd3' : decide ((200 : Int) < (n2 : Int)) = true := decide_eq_true (by omega)
        cases E1 with
        | true =>
          replace hd2 := hd2 rfl
          go_wp2_with fail
          refine (HA.out v0).mono ?_
          rintro e u1 ⟨rfl, k1⟩
          have K2 := Lib.hid (K1.out.trans k1)
          clear k1
          go_wp2_with fail
          go_ret
          exact ⟨rfl, K2.out⟩
        | false =>
          clear hd2
          go_wp2_with fail
          refine (HA.out v0).mono ?_
          rintro e u1 ⟨rfl, k1⟩
          have K2 := Lib.hid (K1.out.trans k1)
          clear k1
          go_wp2_with fail
          go_ret
          exact ⟨rfl, K2.out⟩
      · have hd3 : decide ((n2 : Int) > 200) = false := decide_eq_false (by omega)
        have hd3' : decide ((200 : Int) < (n2 : Int)) = false := decide_eq_false (by omega)
        by_cases hm2 : 200 < m2
        · have hd4 : decide ((m2 : Int) > 200) = true := decide_eq_true (by omega)
          have hd4' : decide ((200 : Int) < (m2 : Int)) = true := decide_eq_true (by omega)
          cases E1 with
          | true =>
            replace hd2 := hd2 rfl
            go_wp2_with fail
            refine (HA.out v0).mono ?_
            rintro e u1 ⟨rfl, k1⟩
            have K2 := Lib.hid (K1.out.trans k1)
            clear k1
            go_wp2_with fail
            go_ret
            exact ⟨rfl, K2.out⟩
          | false =>
            clear hd2
            go_wp2_with fail
            refine (HA.out v0).mono ?_
            rintro e u1 ⟨rfl, k1⟩
            have K2 := Lib.hid (K1.out.trans k1)
            clear k1
            go_wp2_with fail
            go_ret
            exact ⟨rfl, K2.out⟩
        · have hd4 : decide ((m2 : Int) > 200) = false := decide_eq_false (by omega)
          have hd4' : decide ((200 : Int) < (m2 : Int)) = false := decide_eq_false (by omega)
          have hz1' : ∀ i, i < n1 → (S1 i).size ≤ 1000000 := fun i hi => Nat.le_trans (hz1 i hi) (by omega)
          have hMR : Hid (∀ w, SAt w p1 n1 S1 → IAt w p2 n2 I2 → HSl m2 F2 (.slice q2 m2 d2) w → Tab w → _) := Lib.hid fun w hS hI hH ht => multiRoot_any p1 n1 c1 S1 a2 p2 n2 c2 I2 q2 m2 d2 F2 w hS z1.1 z1.2 hz1' hI z2.1 z2.2 (by omega) hH ht
          have hMM : Hid (∀ w, IAt w p2 n2 I2 → _) := Lib.hid fun w hI => multiMay_any (n1 : Int) a2 p2 n2 c2 I2 q2 m2 d2 w hI z2.1 z2.2 (by omega) x2.1 x2.2
          have hMC : Hid (∀ r : List UInt8, r.length = 32 → ∀ w, SAt w p1 n1 S1 → IAt w p2 n2 I2 → HSl m2 F2 (.slice q2 m2 d2) w → Tab w → _) := Lib.hid fun r hr w hS hI hH ht => multiCheck_any r p1 n1 c1 S1 a2 p2 n2 c2 I2 q2 m2 d2 F2 w hr hS z1.1 z1.2 hz1' hI z2.1 z2.2 (by omega) hH ht
          have hRis : Hid (∀ w, IAt w p2 n2 I2 → _) := Lib.hid fun w h => refRising_any a2 p2 n2 c2 I2 w h (by omega)
          have HR32 := rtM_length n1 S1 a2 n2 I2 m2 F2
          by_cases hlo : a2 < 1
          · have hd5 : decide (a2 < 1) = true := decide_eq_true hlo
            have hWW : mayM (n1 : Int) a2 n2 I2 m2 = 3 := if_neg fun h => by omega
            have hE : E1 = false := by rw [← hd1]; exact decide_eq_false (by omega)
            subst hE
            have K0 := Lib.hid (Kept.refl v0)
            have hW : mayM (n1 : Int) a2 n2 I2 m2 = 3 := hWW
            have hrt : rtM n1 S1 a2 n2 I2 m2 F2 = zeroH := if_neg (by rw [hW]; decide)
            have hck : ckM a0 n1 S1 a2 n2 I2 m2 F2 = false := decide_eq_false fun h => by rw [hW] at h; exact absurd h.1 (by decide)
            have hR8 := hMR.out
            have hM8 := hMM.out
            have hC8 := hMC.out a0 n0
            simp only [hW, hrt, hck] at hR8 hM8 hC8
            replace hR8 := Lib.hid hR8
            replace hM8 := Lib.hid hM8
            replace hC8 := Lib.hid hC8
            clear hW hrt hck hMR hMM hMC hWW hRis
            go_wp2_with (refine park_at 73 rfl ?_)
            refine unpark ?_
            clear f0 f1 f2
            refine wpList_exec 73 rfl (by rfl) (.agg #[.int .i64 a2, .slice p2 n2 c2, .slice q2 m2 d2]) _ (loadMany rfl rfl R5.out rfl) ?_
            go_wp2_with fail
            refine (hR8.out v0 (HS.out.kept K0.out) (HI.out.kept K0.out) (HSl.kept _ _ _ _ _ K0.out HH.out) (HT.out.kept K0.out)).mono ?_
            rintro e u2 ⟨rfl, k2⟩
            have K2 := Lib.hid (K0.out.trans k2)
            replace R3 := Lib.hid (R3.out.kept k2)
            replace R5 := Lib.hid (R5.out.kept k2)
            clear k2 hR8
            go_wp2_with (first
              | (refine wpList_store_made rfl 38 _ _ rfl _ _ (bC 32 zeroH) rfl rfl 38 _ rfl (info_hash _) (by simp [bC_size]) (bC_one _ _) ?_; intro u3 R8 k3)
              | (refine park_at 83 rfl ?_))
            obtain ⟨g8, hg8⟩ : ∃ g, g = u2.heap.size := ⟨_, rfl⟩
            rw [← hg8] at R8 ⊢
            clear hg8
            have K3 := Lib.hid (K2.out.trans k3.out)
            replace R3 := Lib.hid (R3.out.kept k3.out)
            replace R5 := Lib.hid (R5.out.kept k3.out)
            clear k3 K2
            refine unpark ?_
            refine wpList_exec 83 rfl (by rfl) (.agg #[.int .i64 a2, .slice p2 n2 c2, .slice q2 m2 d2]) _ (loadMany rfl rfl R5.out rfl) ?_
            go_wp2_with fail
            refine (hM8.out u3 (HI.out.kept K3.out)).mono ?_
            rintro e u4 ⟨rfl, k4⟩
            replace R3 := Lib.hid (R3.out.kept k4)
            replace R5 := Lib.hid (R5.out.kept k4)
            replace R8 := Lib.hid (R8.out.kept k4)
            have K4 := Lib.hid (K3.out.trans k4)
            clear k4 K3 hM8
            go_wp2_with (refine park_at 90 rfl ?_)
            refine unpark ?_
            refine wpList_table 14 [(90, .is (.agg (bC 32 zeroH))), (91, .is (.agg (bC 32 zeroH))), (92, .is (.bool true)), (93, .is (.bool true)), (94, .is (.agg (bC 32 a0))), (95, .is (.slice p1 n1 c1)), (96, .is (.agg #[.int .i64 a2, .slice p2 n2 c2, .slice q2 m2 d2])), (97, .is (.bool false)), (98, .is (.bool true)), (99, .is (.bool true)), (100, .is (.bool true)), (101, .is (.bool true)), (102, .is (.bool true)), (6, .is (.bool true))] (by kernel_rfl) ?_ ?_
            · refine ⟨fun t w1 hf hk hp => ?_, ?_⟩
              · have h8 : slot t 8 = .pointer (some ⟨g8, 0, none⟩) := hf 8 (by kernel_rfl)
                clear hf hp
                refine stepAt_plain rfl ?_
                exact stepOK_pure (.agg (bC 32 zeroH)) (loadHr rfl h8 (R8.out.kept hk)) rfl
              refine ⟨fun t w1 hf hk hp => ?_, ?_⟩
              · clear hf hp
                refine stepAt_plain rfl ?_
                exact stepOK_pure (.agg (bC 32 zeroH)) (execBuild0 rfl (by rw [← zero_hashC]; exact run_build0 w1)) rfl
              refine ⟨fun t w1 hf hk hp => ?_, ?_⟩
              · have h90 : slot t 90 = .agg (bC 32 zeroH) := hp 90 (by kernel_rfl)
                have h91 : slot t 91 = .agg (bC 32 zeroH) := hp 91 (by kernel_rfl)
                clear hf hp
                refine stepAt_plain rfl ?_
                exact stepOK_pure (.bool true) (execEqH1 zeroH rfl w1 rfl h90 h91) rfl
              refine ⟨fun t w1 hf hk hp => ?_, ?_⟩
              · have h92 : slot t 92 = .bool true := hp 92 (by kernel_rfl)
                clear hf hp
                refine stepAt_plain rfl ?_
                exact stepOK_move _ (.inl rfl) h92
              refine ⟨fun t w1 hf hk hp => ?_, ?_⟩
              · have h3 : slot t 3 = .pointer (some ⟨w.heap.size, 0, none⟩) := hf 3 (by kernel_rfl)
                have h93 : slot t 93 = .bool true := hp 93 (by kernel_rfl)
                clear hf hp
                refine stepAt_on 93 true (by kernel_rfl) h93 ?_
                exact stepOK_pure (.agg (bC 32 a0)) (loadHr rfl h3 (R3.out.kept hk)) rfl
              refine ⟨fun t w1 hf hk hp => ?_, ?_⟩
              · have h1 : slot t 1 = .slice p1 n1 c1 := hf 1 (by kernel_rfl)
                have h93 : slot t 93 = .bool true := hp 93 (by kernel_rfl)
                clear hf hp
                refine stepAt_on 93 true (by kernel_rfl) h93 ?_
                exact stepOK_move _ (.inl rfl) h1
              refine ⟨fun t w1 hf hk hp => ?_, ?_⟩
              · have h5 : slot t 5 = .pointer (some ⟨w.heap.size + 1, 0, none⟩) := hf 5 (by kernel_rfl)
                have h93 : slot t 93 = .bool true := hp 93 (by kernel_rfl)
                clear hf hp
                refine stepAt_on 93 true (by kernel_rfl) h93 ?_
                exact stepOK_pure (.agg #[.int .i64 a2, .slice p2 n2 c2, .slice q2 m2 d2]) (loadMany rfl h5 (R5.out.kept hk) rfl) rfl
              refine ⟨fun t w1 hf hk hp => ?_, ?_⟩
              · have h94 : slot t 94 = .agg (bC 32 a0) := hp 94 (by kernel_rfl)
                have h95 : slot t 95 = .slice p1 n1 c1 := hp 95 (by kernel_rfl)
                have h96 : slot t 96 = .agg #[.int .i64 a2, .slice p2 n2 c2, .slice q2 m2 d2] := hp 96 (by kernel_rfl)
                have h93 : slot t 93 = .bool true := hp 93 (by kernel_rfl)
                clear hf hp
                refine stepAt_on 93 true (by kernel_rfl) h93 ?_
                refine stepOK_call #[.agg (bC 32 a0), .slice p1 n1 c1, .agg #[.int .i64 a2, .slice p2 n2 c2, .slice q2 m2 d2]] rfl (by simp only [List.map_toArray, List.map_cons, List.map_nil, evS, h94, h95, h96]) (by go_simp) ((hC8.out w1 (HS.out.kept (K4.out.trans hk)) (HI.out.kept (K4.out.trans hk)) (HSl.kept _ _ _ _ _ (K4.out.trans hk) HH.out) (HT.out.kept (K4.out.trans hk))).mono fun e w' ⟨he, hk'⟩ => ⟨_, he, hk', rfl⟩)
              refine ⟨fun t w1 hf hk hp => ?_, ?_⟩
              · have h97 : slot t 97 = .bool false := hp 97 (by kernel_rfl)
                have h93 : slot t 93 = .bool true := hp 93 (by kernel_rfl)
                clear hf hp
                refine stepAt_on 93 true (by kernel_rfl) h93 ?_
                refine stepOK_pure (.bool true) ?_ rfl
                simp only [execOp, evS, h97]
                go_simp
              refine ⟨fun t w1 hf hk hp => ?_, ?_⟩
              · have h93 : slot t 93 = .bool true := hp 93 (by kernel_rfl)
                have h98 : slot t 98 = .bool true := hp 98 (by kernel_rfl)
                clear hf hp
                refine stepAt_plain rfl ?_
                refine stepOK_pure (.bool true) ?_ rfl
                simp only [execOp, evS, h93, h98]
                go_simp
              refine ⟨fun t w1 hf hk hp => ?_, ?_⟩
              · have h99 : slot t 99 = .bool true := hp 99 (by kernel_rfl)
                clear hf hp
                refine stepAt_plain rfl ?_
                exact stepOK_move _ (.inl rfl) h99
              refine ⟨fun t w1 hf hk hp => ?_, ?_⟩
              · have h100 : slot t 100 = .bool true := hp 100 (by kernel_rfl)
                clear hf hp
                refine stepAt_on 100 true (by kernel_rfl) h100 ?_
                refine stepOK_call #[] rfl (by simp only [List.map_toArray, List.map_nil]) (by go_simp) ((HA.out w1).mono fun e w' ⟨he, hk'⟩ => ⟨_, he, hk', rfl⟩)
              refine ⟨fun t w1 hf hk hp => ?_, ?_⟩
              · have h100 : slot t 100 = .bool true := hp 100 (by kernel_rfl)
                have h101 : slot t 101 = .bool true := hp 101 (by kernel_rfl)
                clear hf hp
                refine stepAt_plain rfl ?_
                refine stepOK_pure (.bool true) ?_ rfl
                simp only [execOp, evS, h100, h101]
                go_simp
              refine ⟨fun t w1 hf hk hp => ?_, ?_⟩
              · have h102 : slot t 102 = .bool true := hp 102 (by kernel_rfl)
                clear hf hp
                refine stepAt_plain rfl ?_
                exact stepOK_move _ (.inr rfl) h102
              exact trivial
            · intro t w1 hsz hf hk hfacts
              have h6 : slot t 6 = .bool true := hfacts 6 (by kernel_rfl)
              have h1 : slot t 1 = .slice p1 n1 c1 := hf 1 (by kernel_rfl)
              have h3 : slot t 3 = .pointer (some ⟨w.heap.size, 0, none⟩) := hf 3 (by kernel_rfl)
              have h5 : slot t 5 = .pointer (some ⟨w.heap.size + 1, 0, none⟩) := hf 5 (by kernel_rfl)
              have h8 : slot t 8 = .pointer (some ⟨g8, 0, none⟩) := hf 8 (by kernel_rfl)
              have harr : t = #[slot t 0, slot t 1, slot t 2, slot t 3, slot t 4, slot t 5, slot t 6, slot t 7, slot t 8, slot t 9, slot t 10, slot t 11, slot t 12, slot t 13, slot t 14, slot t 15, slot t 16, slot t 17, slot t 18, slot t 19, slot t 20, slot t 21, slot t 22, slot t 23, slot t 24, slot t 25, slot t 26, slot t 27, slot t 28, slot t 29, slot t 30, slot t 31, slot t 32, slot t 33, slot t 34, slot t 35, slot t 36, slot t 37, slot t 38, slot t 39, slot t 40, slot t 41, slot t 42, slot t 43, slot t 44, slot t 45, slot t 46, slot t 47, slot t 48, slot t 49, slot t 50, slot t 51, slot t 52, slot t 53, slot t 54, slot t 55, slot t 56, slot t 57, slot t 58, slot t 59, slot t 60, slot t 61, slot t 62, slot t 63, slot t 64, slot t 65, slot t 66, slot t 67, slot t 68, slot t 69, slot t 70, slot t 71, slot t 72, slot t 73, slot t 74, slot t 75, slot t 76, slot t 77, slot t 78, slot t 79, slot t 80, slot t 81, slot t 82, slot t 83, slot t 84, slot t 85, slot t 86, slot t 87, slot t 88, slot t 89, slot t 90, slot t 91, slot t 92, slot t 93, slot t 94, slot t 95, slot t 96, slot t 97, slot t 98, slot t 99, slot t 100, slot t 101, slot t 102, slot t 103, slot t 104, slot t 105, slot t 106, slot t 107, slot t 108, slot t 109, slot t 110, slot t 111, slot t 112, slot t 113, slot t 114, slot t 115, slot t 116, slot t 117, slot t 118, slot t 119, slot t 120, slot t 121, slot t 122, slot t 123, slot t 124, slot t 125, slot t 126, slot t 127, slot t 128, slot t 129, slot t 130, slot t 131, slot t 132, slot t 133, slot t 134, slot t 135, slot t 136, slot t 137, slot t 138, slot t 139, slot t 140] := arr_eq t 141 hsz
              rw [harr, h6, h1, h3, h5, h8]
              clear harr hfacts hf h6 h1 h3 h5 h8
              generalize slot t 0 = x0; generalize slot t 2 = x2; generalize slot t 4 = x4; generalize slot t 7 = x7; generalize slot t 9 = x9; generalize slot t 10 = x10; generalize slot t 11 = x11; generalize slot t 12 = x12; generalize slot t 13 = x13; generalize slot t 14 = x14; generalize slot t 15 = x15; generalize slot t 16 = x16
              generalize slot t 17 = x17; generalize slot t 18 = x18; generalize slot t 19 = x19; generalize slot t 20 = x20; generalize slot t 21 = x21; generalize slot t 22 = x22; generalize slot t 23 = x23; generalize slot t 24 = x24; generalize slot t 25 = x25; generalize slot t 26 = x26; generalize slot t 27 = x27; generalize slot t 28 = x28
              generalize slot t 29 = x29; generalize slot t 30 = x30; generalize slot t 31 = x31; generalize slot t 32 = x32; generalize slot t 33 = x33; generalize slot t 34 = x34; generalize slot t 35 = x35; generalize slot t 36 = x36; generalize slot t 37 = x37; generalize slot t 38 = x38; generalize slot t 39 = x39; generalize slot t 40 = x40
              generalize slot t 41 = x41; generalize slot t 42 = x42; generalize slot t 43 = x43; generalize slot t 44 = x44; generalize slot t 45 = x45; generalize slot t 46 = x46; generalize slot t 47 = x47; generalize slot t 48 = x48; generalize slot t 49 = x49; generalize slot t 50 = x50; generalize slot t 51 = x51; generalize slot t 52 = x52
              generalize slot t 53 = x53; generalize slot t 54 = x54; generalize slot t 55 = x55; generalize slot t 56 = x56; generalize slot t 57 = x57; generalize slot t 58 = x58; generalize slot t 59 = x59; generalize slot t 60 = x60; generalize slot t 61 = x61; generalize slot t 62 = x62; generalize slot t 63 = x63; generalize slot t 64 = x64
              generalize slot t 65 = x65; generalize slot t 66 = x66; generalize slot t 67 = x67; generalize slot t 68 = x68; generalize slot t 69 = x69; generalize slot t 70 = x70; generalize slot t 71 = x71; generalize slot t 72 = x72; generalize slot t 73 = x73; generalize slot t 74 = x74; generalize slot t 75 = x75; generalize slot t 76 = x76
              generalize slot t 77 = x77; generalize slot t 78 = x78; generalize slot t 79 = x79; generalize slot t 80 = x80; generalize slot t 81 = x81; generalize slot t 82 = x82; generalize slot t 83 = x83; generalize slot t 84 = x84; generalize slot t 85 = x85; generalize slot t 86 = x86; generalize slot t 87 = x87; generalize slot t 88 = x88
              generalize slot t 89 = x89; generalize slot t 90 = x90; generalize slot t 91 = x91; generalize slot t 92 = x92; generalize slot t 93 = x93; generalize slot t 94 = x94; generalize slot t 95 = x95; generalize slot t 96 = x96; generalize slot t 97 = x97; generalize slot t 98 = x98; generalize slot t 99 = x99; generalize slot t 100 = x100
              generalize slot t 101 = x101; generalize slot t 102 = x102; generalize slot t 103 = x103; generalize slot t 104 = x104; generalize slot t 105 = x105; generalize slot t 106 = x106; generalize slot t 107 = x107; generalize slot t 108 = x108; generalize slot t 109 = x109; generalize slot t 110 = x110; generalize slot t 111 = x111; generalize slot t 112 = x112
              generalize slot t 113 = x113; generalize slot t 114 = x114; generalize slot t 115 = x115; generalize slot t 116 = x116; generalize slot t 117 = x117; generalize slot t 118 = x118; generalize slot t 119 = x119; generalize slot t 120 = x120; generalize slot t 121 = x121; generalize slot t 122 = x122; generalize slot t 123 = x123; generalize slot t 124 = x124
              generalize slot t 125 = x125; generalize slot t 126 = x126; generalize slot t 127 = x127; generalize slot t 128 = x128; generalize slot t 129 = x129; generalize slot t 130 = x130; generalize slot t 131 = x131; generalize slot t 132 = x132; generalize slot t 133 = x133; generalize slot t 134 = x134; generalize slot t 135 = x135; generalize slot t 136 = x136
              generalize slot t 137 = x137; generalize slot t 138 = x138; generalize slot t 139 = x139; generalize slot t 140 = x140
              clear hsz t
              simp only [List.drop_succ_cons, List.drop_zero]
              have K5 := Lib.hid (K4.out.trans hk)
              clear hk
              go_wp2_with fail
              go_ret
              exact ⟨rfl, K1.out.trans K5.out⟩
          · have hd5 : decide (a2 < 1) = false := decide_eq_false hlo
            by_cases hhi : 1048576 < a2
            · have hd6 : decide (a2 > 1048576) = true := decide_eq_true hhi
              have hd6' : decide (1048576 < a2) = true := decide_eq_true hhi
              have hWW : mayM (n1 : Int) a2 n2 I2 m2 = 3 := if_neg fun h => by omega
              have hE : E1 = true := by rw [← hd1]; exact decide_eq_true (by omega)
              subst hE
              replace hd2 := hd2 rfl
              have K0 := Lib.hid (Kept.refl v0)
              have hW : mayM (n1 : Int) a2 n2 I2 m2 = 3 := hWW
              have hrt : rtM n1 S1 a2 n2 I2 m2 F2 = zeroH := if_neg (by rw [hW]; decide)
              have hck : ckM a0 n1 S1 a2 n2 I2 m2 F2 = false := decide_eq_false fun h => by rw [hW] at h; exact absurd h.1 (by decide)
              have hR8 := hMR.out
              have hM8 := hMM.out
              have hC8 := hMC.out a0 n0
              simp only [hW, hrt, hck] at hR8 hM8 hC8
              replace hR8 := Lib.hid hR8
              replace hM8 := Lib.hid hM8
              replace hC8 := Lib.hid hC8
              clear hW hrt hck hMR hMM hMC hWW hRis
              go_wp2_with (refine park_at 73 rfl ?_)
              refine unpark ?_
              clear f0 f1 f2
              refine wpList_exec 73 rfl (by rfl) (.agg #[.int .i64 a2, .slice p2 n2 c2, .slice q2 m2 d2]) _ (loadMany rfl rfl R5.out rfl) ?_
              go_wp2_with fail
              refine (hR8.out v0 (HS.out.kept K0.out) (HI.out.kept K0.out) (HSl.kept _ _ _ _ _ K0.out HH.out) (HT.out.kept K0.out)).mono ?_
              rintro e u2 ⟨rfl, k2⟩
              have K2 := Lib.hid (K0.out.trans k2)
              replace R3 := Lib.hid (R3.out.kept k2)
              replace R5 := Lib.hid (R5.out.kept k2)
              clear k2 hR8
              go_wp2_with (first
                | (refine wpList_store_made rfl 38 _ _ rfl _ _ (bC 32 zeroH) rfl rfl 38 _ rfl (info_hash _) (by simp [bC_size]) (bC_one _ _) ?_; intro u3 R8 k3)
                | (refine park_at 83 rfl ?_))
              obtain ⟨g8, hg8⟩ : ∃ g, g = u2.heap.size := ⟨_, rfl⟩
              rw [← hg8] at R8 ⊢
              clear hg8
              have K3 := Lib.hid (K2.out.trans k3.out)
              replace R3 := Lib.hid (R3.out.kept k3.out)
              replace R5 := Lib.hid (R5.out.kept k3.out)
              clear k3 K2
              refine unpark ?_
              refine wpList_exec 83 rfl (by rfl) (.agg #[.int .i64 a2, .slice p2 n2 c2, .slice q2 m2 d2]) _ (loadMany rfl rfl R5.out rfl) ?_
              go_wp2_with fail
              refine (hM8.out u3 (HI.out.kept K3.out)).mono ?_
              rintro e u4 ⟨rfl, k4⟩
              replace R3 := Lib.hid (R3.out.kept k4)
              replace R5 := Lib.hid (R5.out.kept k4)
              replace R8 := Lib.hid (R8.out.kept k4)
              have K4 := Lib.hid (K3.out.trans k4)
              clear k4 K3 hM8
              go_wp2_with (refine park_at 90 rfl ?_)
              refine unpark ?_
              refine wpList_table 14 [(90, .is (.agg (bC 32 zeroH))), (91, .is (.agg (bC 32 zeroH))), (92, .is (.bool true)), (93, .is (.bool true)), (94, .is (.agg (bC 32 a0))), (95, .is (.slice p1 n1 c1)), (96, .is (.agg #[.int .i64 a2, .slice p2 n2 c2, .slice q2 m2 d2])), (97, .is (.bool false)), (98, .is (.bool true)), (99, .is (.bool true)), (100, .is (.bool true)), (101, .is (.bool true)), (102, .is (.bool true)), (6, .is (.bool true))] (by kernel_rfl) ?_ ?_
              · refine ⟨fun t w1 hf hk hp => ?_, ?_⟩
                · have h8 : slot t 8 = .pointer (some ⟨g8, 0, none⟩) := hf 8 (by kernel_rfl)
                  clear hf hp
                  refine stepAt_plain rfl ?_
                  exact stepOK_pure (.agg (bC 32 zeroH)) (loadHr rfl h8 (R8.out.kept hk)) rfl
                refine ⟨fun t w1 hf hk hp => ?_, ?_⟩
                · clear hf hp
                  refine stepAt_plain rfl ?_
                  exact stepOK_pure (.agg (bC 32 zeroH)) (execBuild0 rfl (by rw [← zero_hashC]; exact run_build0 w1)) rfl
                refine ⟨fun t w1 hf hk hp => ?_, ?_⟩
                · have h90 : slot t 90 = .agg (bC 32 zeroH) := hp 90 (by kernel_rfl)
                  have h91 : slot t 91 = .agg (bC 32 zeroH) := hp 91 (by kernel_rfl)
                  clear hf hp
                  refine stepAt_plain rfl ?_
                  exact stepOK_pure (.bool true) (execEqH1 zeroH rfl w1 rfl h90 h91) rfl
                refine ⟨fun t w1 hf hk hp => ?_, ?_⟩
                · have h92 : slot t 92 = .bool true := hp 92 (by kernel_rfl)
                  clear hf hp
                  refine stepAt_plain rfl ?_
                  exact stepOK_move _ (.inl rfl) h92
                refine ⟨fun t w1 hf hk hp => ?_, ?_⟩
                · have h3 : slot t 3 = .pointer (some ⟨w.heap.size, 0, none⟩) := hf 3 (by kernel_rfl)
                  have h93 : slot t 93 = .bool true := hp 93 (by kernel_rfl)
                  clear hf hp
                  refine stepAt_on 93 true (by kernel_rfl) h93 ?_
                  exact stepOK_pure (.agg (bC 32 a0)) (loadHr rfl h3 (R3.out.kept hk)) rfl
                refine ⟨fun t w1 hf hk hp => ?_, ?_⟩
                · have h1 : slot t 1 = .slice p1 n1 c1 := hf 1 (by kernel_rfl)
                  have h93 : slot t 93 = .bool true := hp 93 (by kernel_rfl)
                  clear hf hp
                  refine stepAt_on 93 true (by kernel_rfl) h93 ?_
                  exact stepOK_move _ (.inl rfl) h1
                refine ⟨fun t w1 hf hk hp => ?_, ?_⟩
                · have h5 : slot t 5 = .pointer (some ⟨w.heap.size + 1, 0, none⟩) := hf 5 (by kernel_rfl)
                  have h93 : slot t 93 = .bool true := hp 93 (by kernel_rfl)
                  clear hf hp
                  refine stepAt_on 93 true (by kernel_rfl) h93 ?_
                  exact stepOK_pure (.agg #[.int .i64 a2, .slice p2 n2 c2, .slice q2 m2 d2]) (loadMany rfl h5 (R5.out.kept hk) rfl) rfl
                refine ⟨fun t w1 hf hk hp => ?_, ?_⟩
                · have h94 : slot t 94 = .agg (bC 32 a0) := hp 94 (by kernel_rfl)
                  have h95 : slot t 95 = .slice p1 n1 c1 := hp 95 (by kernel_rfl)
                  have h96 : slot t 96 = .agg #[.int .i64 a2, .slice p2 n2 c2, .slice q2 m2 d2] := hp 96 (by kernel_rfl)
                  have h93 : slot t 93 = .bool true := hp 93 (by kernel_rfl)
                  clear hf hp
                  refine stepAt_on 93 true (by kernel_rfl) h93 ?_
                  refine stepOK_call #[.agg (bC 32 a0), .slice p1 n1 c1, .agg #[.int .i64 a2, .slice p2 n2 c2, .slice q2 m2 d2]] rfl (by simp only [List.map_toArray, List.map_cons, List.map_nil, evS, h94, h95, h96]) (by go_simp) ((hC8.out w1 (HS.out.kept (K4.out.trans hk)) (HI.out.kept (K4.out.trans hk)) (HSl.kept _ _ _ _ _ (K4.out.trans hk) HH.out) (HT.out.kept (K4.out.trans hk))).mono fun e w' ⟨he, hk'⟩ => ⟨_, he, hk', rfl⟩)
                refine ⟨fun t w1 hf hk hp => ?_, ?_⟩
                · have h97 : slot t 97 = .bool false := hp 97 (by kernel_rfl)
                  have h93 : slot t 93 = .bool true := hp 93 (by kernel_rfl)
                  clear hf hp
                  refine stepAt_on 93 true (by kernel_rfl) h93 ?_
                  refine stepOK_pure (.bool true) ?_ rfl
                  simp only [execOp, evS, h97]
                  go_simp
                refine ⟨fun t w1 hf hk hp => ?_, ?_⟩
                · have h93 : slot t 93 = .bool true := hp 93 (by kernel_rfl)
                  have h98 : slot t 98 = .bool true := hp 98 (by kernel_rfl)
                  clear hf hp
                  refine stepAt_plain rfl ?_
                  refine stepOK_pure (.bool true) ?_ rfl
                  simp only [execOp, evS, h93, h98]
                  go_simp
                refine ⟨fun t w1 hf hk hp => ?_, ?_⟩
                · have h99 : slot t 99 = .bool true := hp 99 (by kernel_rfl)
                  clear hf hp
                  refine stepAt_plain rfl ?_
                  exact stepOK_move _ (.inl rfl) h99
                refine ⟨fun t w1 hf hk hp => ?_, ?_⟩
                · have h100 : slot t 100 = .bool true := hp 100 (by kernel_rfl)
                  clear hf hp
                  refine stepAt_on 100 true (by kernel_rfl) h100 ?_
                  refine stepOK_call #[] rfl (by simp only [List.map_toArray, List.map_nil]) (by go_simp) ((HA.out w1).mono fun e w' ⟨he, hk'⟩ => ⟨_, he, hk', rfl⟩)
                refine ⟨fun t w1 hf hk hp => ?_, ?_⟩
                · have h100 : slot t 100 = .bool true := hp 100 (by kernel_rfl)
                  have h101 : slot t 101 = .bool true := hp 101 (by kernel_rfl)
                  clear hf hp
                  refine stepAt_plain rfl ?_
                  refine stepOK_pure (.bool true) ?_ rfl
                  simp only [execOp, evS, h100, h101]
                  go_simp
                refine ⟨fun t w1 hf hk hp => ?_, ?_⟩
                · have h102 : slot t 102 = .bool true := hp 102 (by kernel_rfl)
                  clear hf hp
                  refine stepAt_plain rfl ?_
                  exact stepOK_move _ (.inr rfl) h102
                exact trivial
              · intro t w1 hsz hf hk hfacts
                have h6 : slot t 6 = .bool true := hfacts 6 (by kernel_rfl)
                have h1 : slot t 1 = .slice p1 n1 c1 := hf 1 (by kernel_rfl)
                have h3 : slot t 3 = .pointer (some ⟨w.heap.size, 0, none⟩) := hf 3 (by kernel_rfl)
                have h5 : slot t 5 = .pointer (some ⟨w.heap.size + 1, 0, none⟩) := hf 5 (by kernel_rfl)
                have h8 : slot t 8 = .pointer (some ⟨g8, 0, none⟩) := hf 8 (by kernel_rfl)
                have harr : t = #[slot t 0, slot t 1, slot t 2, slot t 3, slot t 4, slot t 5, slot t 6, slot t 7, slot t 8, slot t 9, slot t 10, slot t 11, slot t 12, slot t 13, slot t 14, slot t 15, slot t 16, slot t 17, slot t 18, slot t 19, slot t 20, slot t 21, slot t 22, slot t 23, slot t 24, slot t 25, slot t 26, slot t 27, slot t 28, slot t 29, slot t 30, slot t 31, slot t 32, slot t 33, slot t 34, slot t 35, slot t 36, slot t 37, slot t 38, slot t 39, slot t 40, slot t 41, slot t 42, slot t 43, slot t 44, slot t 45, slot t 46, slot t 47, slot t 48, slot t 49, slot t 50, slot t 51, slot t 52, slot t 53, slot t 54, slot t 55, slot t 56, slot t 57, slot t 58, slot t 59, slot t 60, slot t 61, slot t 62, slot t 63, slot t 64, slot t 65, slot t 66, slot t 67, slot t 68, slot t 69, slot t 70, slot t 71, slot t 72, slot t 73, slot t 74, slot t 75, slot t 76, slot t 77, slot t 78, slot t 79, slot t 80, slot t 81, slot t 82, slot t 83, slot t 84, slot t 85, slot t 86, slot t 87, slot t 88, slot t 89, slot t 90, slot t 91, slot t 92, slot t 93, slot t 94, slot t 95, slot t 96, slot t 97, slot t 98, slot t 99, slot t 100, slot t 101, slot t 102, slot t 103, slot t 104, slot t 105, slot t 106, slot t 107, slot t 108, slot t 109, slot t 110, slot t 111, slot t 112, slot t 113, slot t 114, slot t 115, slot t 116, slot t 117, slot t 118, slot t 119, slot t 120, slot t 121, slot t 122, slot t 123, slot t 124, slot t 125, slot t 126, slot t 127, slot t 128, slot t 129, slot t 130, slot t 131, slot t 132, slot t 133, slot t 134, slot t 135, slot t 136, slot t 137, slot t 138, slot t 139, slot t 140] := arr_eq t 141 hsz
                rw [harr, h6, h1, h3, h5, h8]
                clear harr hfacts hf h6 h1 h3 h5 h8
                generalize slot t 0 = x0; generalize slot t 2 = x2; generalize slot t 4 = x4; generalize slot t 7 = x7; generalize slot t 9 = x9; generalize slot t 10 = x10; generalize slot t 11 = x11; generalize slot t 12 = x12; generalize slot t 13 = x13; generalize slot t 14 = x14; generalize slot t 15 = x15; generalize slot t 16 = x16
                generalize slot t 17 = x17; generalize slot t 18 = x18; generalize slot t 19 = x19; generalize slot t 20 = x20; generalize slot t 21 = x21; generalize slot t 22 = x22; generalize slot t 23 = x23; generalize slot t 24 = x24; generalize slot t 25 = x25; generalize slot t 26 = x26; generalize slot t 27 = x27; generalize slot t 28 = x28
                generalize slot t 29 = x29; generalize slot t 30 = x30; generalize slot t 31 = x31; generalize slot t 32 = x32; generalize slot t 33 = x33; generalize slot t 34 = x34; generalize slot t 35 = x35; generalize slot t 36 = x36; generalize slot t 37 = x37; generalize slot t 38 = x38; generalize slot t 39 = x39; generalize slot t 40 = x40
                generalize slot t 41 = x41; generalize slot t 42 = x42; generalize slot t 43 = x43; generalize slot t 44 = x44; generalize slot t 45 = x45; generalize slot t 46 = x46; generalize slot t 47 = x47; generalize slot t 48 = x48; generalize slot t 49 = x49; generalize slot t 50 = x50; generalize slot t 51 = x51; generalize slot t 52 = x52
                generalize slot t 53 = x53; generalize slot t 54 = x54; generalize slot t 55 = x55; generalize slot t 56 = x56; generalize slot t 57 = x57; generalize slot t 58 = x58; generalize slot t 59 = x59; generalize slot t 60 = x60; generalize slot t 61 = x61; generalize slot t 62 = x62; generalize slot t 63 = x63; generalize slot t 64 = x64
                generalize slot t 65 = x65; generalize slot t 66 = x66; generalize slot t 67 = x67; generalize slot t 68 = x68; generalize slot t 69 = x69; generalize slot t 70 = x70; generalize slot t 71 = x71; generalize slot t 72 = x72; generalize slot t 73 = x73; generalize slot t 74 = x74; generalize slot t 75 = x75; generalize slot t 76 = x76
                generalize slot t 77 = x77; generalize slot t 78 = x78; generalize slot t 79 = x79; generalize slot t 80 = x80; generalize slot t 81 = x81; generalize slot t 82 = x82; generalize slot t 83 = x83; generalize slot t 84 = x84; generalize slot t 85 = x85; generalize slot t 86 = x86; generalize slot t 87 = x87; generalize slot t 88 = x88
                generalize slot t 89 = x89; generalize slot t 90 = x90; generalize slot t 91 = x91; generalize slot t 92 = x92; generalize slot t 93 = x93; generalize slot t 94 = x94; generalize slot t 95 = x95; generalize slot t 96 = x96; generalize slot t 97 = x97; generalize slot t 98 = x98; generalize slot t 99 = x99; generalize slot t 100 = x100
                generalize slot t 101 = x101; generalize slot t 102 = x102; generalize slot t 103 = x103; generalize slot t 104 = x104; generalize slot t 105 = x105; generalize slot t 106 = x106; generalize slot t 107 = x107; generalize slot t 108 = x108; generalize slot t 109 = x109; generalize slot t 110 = x110; generalize slot t 111 = x111; generalize slot t 112 = x112
                generalize slot t 113 = x113; generalize slot t 114 = x114; generalize slot t 115 = x115; generalize slot t 116 = x116; generalize slot t 117 = x117; generalize slot t 118 = x118; generalize slot t 119 = x119; generalize slot t 120 = x120; generalize slot t 121 = x121; generalize slot t 122 = x122; generalize slot t 123 = x123; generalize slot t 124 = x124
                generalize slot t 125 = x125; generalize slot t 126 = x126; generalize slot t 127 = x127; generalize slot t 128 = x128; generalize slot t 129 = x129; generalize slot t 130 = x130; generalize slot t 131 = x131; generalize slot t 132 = x132; generalize slot t 133 = x133; generalize slot t 134 = x134; generalize slot t 135 = x135; generalize slot t 136 = x136
                generalize slot t 137 = x137; generalize slot t 138 = x138; generalize slot t 139 = x139; generalize slot t 140 = x140
                clear hsz t
                simp only [List.drop_succ_cons, List.drop_zero]
                have K5 := Lib.hid (K4.out.trans hk)
                clear hk
                go_wp2_with fail
                go_ret
                exact ⟨rfl, K1.out.trans K5.out⟩
            · have hd6 : decide (a2 > 1048576) = false := decide_eq_false hhi
              have hd6' : decide (1048576 < a2) = false := decide_eq_false hhi
              have hE : E1 = false := by rw [← hd1]; exact decide_eq_false (by omega)
              subst hE
              clear hd2
              go_wp2_with fail
              refine (hRis.out v0 HI.out).mono ?_
              rintro e v1 ⟨rfl, kr⟩
              have K0 := Lib.hid kr
              clear kr
              replace R3 := Lib.hid (R3.out.kept K0.out)
              replace R5 := Lib.hid (R5.out.kept K0.out)
              clear f0 f1 f2
              by_cases hr : risP a2 n2 I2
              · rw [decide_eq_true hr]
                obtain ⟨N, rfl, hN⟩ := risP_nat hr
                have hNd : Hid (∀ w, IAt w p2 n2 I2 → Calls Tryd.prog 14 #[.slice p2 n2 c2, .int .i64 0, .int .i64 (N : Int)] w fun e w' => e = .returned (.int .i64 (needN (qP n2 I2) 0 N : Int)) ∧ w = w') := Lib.hid fun w h => refNeed_any N p2 n2 c2 I2 0 N w h (by omega) hN (by omega) (by omega)
                have hmay : mayM (n1 : Int) (N : Int) n2 I2 m2 = if n1 = n2 ∧ m2 = needN (qP n2 I2) 0 N then 0 else 2 := by
                  rw [mayM, if_pos ⟨by omega, by omega, hr⟩, needI_yes hr]
                  by_cases h : n1 = n2 ∧ m2 = needN (qP n2 I2) 0 N
                  · rw [if_pos h, if_pos ⟨by omega, by omega⟩]
                  · rw [if_neg h, if_neg fun h' => h ⟨by omega, by omega⟩]
                by_cases hk1 : n1 = n2
                · by_cases hk2 : m2 = needN (qP n2 I2) 0 N
                  · replace hk1 := Lib.hid hk1
                    replace hk2 := Lib.hid hk2
                    go_wp2_with fail
                    refine wp_region_table [(54, .is (.slice p1 n1 c1)), (55, .is (.int .i64 (n1 : Int))), (56, .is (.pointer (some ⟨w.heap.size + 1, 1, none⟩))), (57, .is (.slice p2 n2 c2)), (58, .is (.int .i64 (n2 : Int))), (59, .is (.bool false)), (60, .is (.bool false)), (61, .is (.pointer (some ⟨w.heap.size + 1, 2, none⟩))), (62, .is (.slice q2 m2 d2)), (63, .is (.int .i64 (m2 : Int))), (64, .is (.pointer (some ⟨w.heap.size + 1, 1, none⟩))), (65, .is (.slice p2 n2 c2)), (66, .is (.pointer (some ⟨w.heap.size + 1, 0, none⟩))), (67, .is (.int .i64 (N : Int))), (68, .is (.int .i64 (needN (qP n2 I2) 0 N : Int))), (69, .is (.bool false)), (70, .is (.bool false))] (by kernel_rfl) (by kernel_rfl) ?_ ?_
                    · refine ⟨fun t w1 hf hk hp => ?_, ?_⟩
                      · have h1 : slot t 1 = .slice p1 n1 c1 := hf 1 (by kernel_rfl)
                        clear hf hp
                        refine stepAt_plain rfl ?_
                        exact stepOK_move _ (.inl rfl) h1
                      refine ⟨fun t w1 hf hk hp => ?_, ?_⟩
                      · have h54 : slot t 54 = .slice p1 n1 c1 := hp 54 (by kernel_rfl)
                        clear hf hp
                        refine stepAt_plain rfl ?_
                        exact stepOK_pure (.int .i64 (n1 : Int)) (execLenStrs w1 rfl h54) rfl
                      refine ⟨fun t w1 hf hk hp => ?_, ?_⟩
                      · have h5 : slot t 5 = .pointer (some ⟨w.heap.size + 1, 0, none⟩) := hf 5 (by kernel_rfl)
                        clear hf hp
                        refine stepAt_plain rfl ?_
                        exact stepOK_pure (.pointer (some ⟨w.heap.size + 1, 1, none⟩)) (execFieldM (w.heap.size + 1) 1 (by omega) w1 rfl h5) rfl
                      refine ⟨fun t w1 hf hk hp => ?_, ?_⟩
                      · have h56 : slot t 56 = .pointer (some ⟨w.heap.size + 1, 1, none⟩) := hp 56 (by kernel_rfl)
                        clear hf hp
                        refine stepAt_plain rfl ?_
                        have hq0 := run_loadIs ((R5.out.kept hk).cell 1)
                        exact stepOK_sem (.slice p2 n2 c2) (by simp only [execOp, evS, h56]) hq0 rfl
                      refine ⟨fun t w1 hf hk hp => ?_, ?_⟩
                      · have h57 : slot t 57 = .slice p2 n2 c2 := hp 57 (by kernel_rfl)
                        clear hf hp
                        refine stepAt_plain rfl ?_
                        exact stepOK_pure (.int .i64 (n2 : Int)) (execLenIs w1 rfl h57) rfl
                      refine ⟨fun t w1 hf hk hp => ?_, ?_⟩
                      · have h55 : slot t 55 = .int .i64 (n1 : Int) := hp 55 (by kernel_rfl)
                        have h58 : slot t 58 = .int .i64 (n2 : Int) := hp 58 (by kernel_rfl)
                        clear hf hp
                        refine stepAt_plain rfl ?_
                        exact stepOK_pure (.bool false) (Eq.trans (execNeI (n1 : Int) (n2 : Int) w1 rfl h55 h58) (by rw [decide_eq_true (by have := hk1.out; omega)]; rfl)) rfl
                      refine ⟨fun t w1 hf hk hp => ?_, ?_⟩
                      · have h59 : slot t 59 = .bool false := hp 59 (by kernel_rfl)
                        clear hf hp
                        refine stepAt_plain rfl ?_
                        exact stepOK_move _ (.inl rfl) h59
                      refine ⟨fun t w1 hf hk hp => ?_, ?_⟩
                      · have h5 : slot t 5 = .pointer (some ⟨w.heap.size + 1, 0, none⟩) := hf 5 (by kernel_rfl)
                        have h60 : slot t 60 = .bool false := hp 60 (by kernel_rfl)
                        clear hf hp
                        refine stepAt_on 60 false (by kernel_rfl) h60 ?_
                        exact stepOK_pure (.pointer (some ⟨w.heap.size + 1, 2, none⟩)) (execFieldM (w.heap.size + 1) 2 (by omega) w1 rfl h5) rfl
                      refine ⟨fun t w1 hf hk hp => ?_, ?_⟩
                      · have h61 : slot t 61 = .pointer (some ⟨w.heap.size + 1, 2, none⟩) := hp 61 (by kernel_rfl)
                        have h60 : slot t 60 = .bool false := hp 60 (by kernel_rfl)
                        clear hf hp
                        refine stepAt_on 60 false (by kernel_rfl) h60 ?_
                        have hq0 := run_loadHs ((R5.out.kept hk).cell 2)
                        exact stepOK_sem (.slice q2 m2 d2) (by simp only [execOp, evS, h61]) hq0 rfl
                      refine ⟨fun t w1 hf hk hp => ?_, ?_⟩
                      · have h62 : slot t 62 = .slice q2 m2 d2 := hp 62 (by kernel_rfl)
                        have h60 : slot t 60 = .bool false := hp 60 (by kernel_rfl)
                        clear hf hp
                        refine stepAt_on 60 false (by kernel_rfl) h60 ?_
                        exact stepOK_pure (.int .i64 (m2 : Int)) (execLenHs w1 rfl h62) rfl
                      refine ⟨fun t w1 hf hk hp => ?_, ?_⟩
                      · have h5 : slot t 5 = .pointer (some ⟨w.heap.size + 1, 0, none⟩) := hf 5 (by kernel_rfl)
                        have h60 : slot t 60 = .bool false := hp 60 (by kernel_rfl)
                        clear hf hp
                        refine stepAt_on 60 false (by kernel_rfl) h60 ?_
                        exact stepOK_pure (.pointer (some ⟨w.heap.size + 1, 1, none⟩)) (execFieldM (w.heap.size + 1) 1 (by omega) w1 rfl h5) rfl
                      refine ⟨fun t w1 hf hk hp => ?_, ?_⟩
                      · have h64 : slot t 64 = .pointer (some ⟨w.heap.size + 1, 1, none⟩) := hp 64 (by kernel_rfl)
                        have h60 : slot t 60 = .bool false := hp 60 (by kernel_rfl)
                        clear hf hp
                        refine stepAt_on 60 false (by kernel_rfl) h60 ?_
                        have hq0 := run_loadIs ((R5.out.kept hk).cell 1)
                        exact stepOK_sem (.slice p2 n2 c2) (by simp only [execOp, evS, h64]) hq0 rfl
                      refine ⟨fun t w1 hf hk hp => ?_, ?_⟩
                      · have h5 : slot t 5 = .pointer (some ⟨w.heap.size + 1, 0, none⟩) := hf 5 (by kernel_rfl)
                        have h60 : slot t 60 = .bool false := hp 60 (by kernel_rfl)
                        clear hf hp
                        refine stepAt_on 60 false (by kernel_rfl) h60 ?_
                        exact stepOK_pure (.pointer (some ⟨w.heap.size + 1, 0, none⟩)) (execFieldM (w.heap.size + 1) 0 (by omega) w1 rfl h5) rfl
                      refine ⟨fun t w1 hf hk hp => ?_, ?_⟩
                      · have h66 : slot t 66 = .pointer (some ⟨w.heap.size + 1, 0, none⟩) := hp 66 (by kernel_rfl)
                        have h60 : slot t 60 = .bool false := hp 60 (by kernel_rfl)
                        clear hf hp
                        refine stepAt_on 60 false (by kernel_rfl) h60 ?_
                        have hq0 := run_loadI ((R5.out.kept hk).cell 0)
                        exact stepOK_sem (.int .i64 (N : Int)) (by simp only [execOp, evS, h66]) hq0 rfl
                      refine ⟨fun t w1 hf hk hp => ?_, ?_⟩
                      · have h65 : slot t 65 = .slice p2 n2 c2 := hp 65 (by kernel_rfl)
                        have h67 : slot t 67 = .int .i64 (N : Int) := hp 67 (by kernel_rfl)
                        have h60 : slot t 60 = .bool false := hp 60 (by kernel_rfl)
                        clear hf hp
                        refine stepAt_on 60 false (by kernel_rfl) h60 ?_
                        refine stepOK_call #[.slice p2 n2 c2, .int .i64 0, .int .i64 (N : Int)] rfl (by simp only [List.map_toArray, List.map_cons, List.map_nil, evS, h65, h67]) (by go_simp) ((hNd.out w1 (HI.out.kept (K0.out.trans hk))).mono fun e w' ⟨he, hk'⟩ => ⟨_, he, Kept.same hk', rfl⟩)
                      refine ⟨fun t w1 hf hk hp => ?_, ?_⟩
                      · have h63 : slot t 63 = .int .i64 (m2 : Int) := hp 63 (by kernel_rfl)
                        have h68 : slot t 68 = .int .i64 (needN (qP n2 I2) 0 N : Int) := hp 68 (by kernel_rfl)
                        have h60 : slot t 60 = .bool false := hp 60 (by kernel_rfl)
                        clear hf hp
                        refine stepAt_on 60 false (by kernel_rfl) h60 ?_
                        exact stepOK_pure (.bool false) (Eq.trans (execNeI (m2 : Int) (needN (qP n2 I2) 0 N : Int) w1 rfl h63 h68) (by rw [decide_eq_true (by have := hk2.out; omega)]; rfl)) rfl
                      refine ⟨fun t w1 hf hk hp => ?_, ?_⟩
                      · have h60 : slot t 60 = .bool false := hp 60 (by kernel_rfl)
                        have h69 : slot t 69 = .bool false := hp 69 (by kernel_rfl)
                        clear hf hp
                        refine stepAt_plain rfl ?_
                        refine stepOK_pure (.bool false) ?_ rfl
                        simp only [execOp, evS, h60, h69]
                        go_simp
                      exact trivial
                    · intro t w1 hsz hf hk hfacts
                      have h70 : slot t 70 = .bool false := hfacts 16 _ rfl 70 rfl
                      have h1 : slot t 1 = .slice p1 n1 c1 := hf 1 (by kernel_rfl)
                      have h5 : slot t 5 = .pointer (some ⟨w.heap.size + 1, 0, none⟩) := hf 5 (by kernel_rfl)
                      have h3 : slot t 3 = .pointer (some ⟨w.heap.size, 0, none⟩) := hf 3 (by kernel_rfl)
                      have h0 := hf 0 (by kernel_rfl)
                      conv at h0 => rhs; whnf
                      try change slot t 0 = undef at h0
                      have h2 := hf 2 (by kernel_rfl)
                      conv at h2 => rhs; whnf
                      try change slot t 2 = undef at h2
                      have h4 := hf 4 (by kernel_rfl)
                      conv at h4 => rhs; whnf
                      try change slot t 4 = undef at h4
                      have h6 := hf 6 (by kernel_rfl)
                      conv at h6 => rhs; whnf
                      try change slot t 6 = undef at h6
                      have h7 := hf 7 (by kernel_rfl)
                      conv at h7 => rhs; whnf
                      try change slot t 7 = undef at h7
                      have h8 := hf 8 (by kernel_rfl)
                      conv at h8 => rhs; whnf
                      try change slot t 8 = undef at h8
                      have h9 := hf 9 (by kernel_rfl)
                      conv at h9 => rhs; whnf
                      try change slot t 9 = undef at h9
                      have h10 := hf 10 (by kernel_rfl)
                      conv at h10 => rhs; whnf
                      try change slot t 10 = undef at h10
                      have h11 := hf 11 (by kernel_rfl)
                      conv at h11 => rhs; whnf
                      try change slot t 11 = undef at h11
                      have h12 := hf 12 (by kernel_rfl)
                      conv at h12 => rhs; whnf
                      try change slot t 12 = undef at h12
                      have h13 := hf 13 (by kernel_rfl)
                      conv at h13 => rhs; whnf
                      try change slot t 13 = undef at h13
                      have h14 := hf 14 (by kernel_rfl)
                      conv at h14 => rhs; whnf
                      try change slot t 14 = undef at h14
                      have h15 := hf 15 (by kernel_rfl)
                      conv at h15 => rhs; whnf
                      try change slot t 15 = undef at h15
                      have h16 := hf 16 (by kernel_rfl)
                      conv at h16 => rhs; whnf
                      try change slot t 16 = undef at h16
                      have h17 := hf 17 (by kernel_rfl)
                      conv at h17 => rhs; whnf
                      try change slot t 17 = undef at h17
                      have h18 := hf 18 (by kernel_rfl)
                      conv at h18 => rhs; whnf
                      try change slot t 18 = undef at h18
                      have h19 := hf 19 (by kernel_rfl)
                      conv at h19 => rhs; whnf
                      try change slot t 19 = undef at h19
                      have h20 := hf 20 (by kernel_rfl)
                      conv at h20 => rhs; whnf
                      try change slot t 20 = undef at h20
                      have h21 := hf 21 (by kernel_rfl)
                      conv at h21 => rhs; whnf
                      try change slot t 21 = undef at h21
                      have h22 := hf 22 (by kernel_rfl)
                      conv at h22 => rhs; whnf
                      try change slot t 22 = undef at h22
                      have h23 := hf 23 (by kernel_rfl)
                      conv at h23 => rhs; whnf
                      try change slot t 23 = undef at h23
                      have h24 := hf 24 (by kernel_rfl)
                      conv at h24 => rhs; whnf
                      try change slot t 24 = undef at h24
                      have h25 := hf 25 (by kernel_rfl)
                      conv at h25 => rhs; whnf
                      try change slot t 25 = undef at h25
                      have h26 := hf 26 (by kernel_rfl)
                      conv at h26 => rhs; whnf
                      try change slot t 26 = undef at h26
                      have h27 := hf 27 (by kernel_rfl)
                      conv at h27 => rhs; whnf
                      try change slot t 27 = undef at h27
                      have h28 := hf 28 (by kernel_rfl)
                      conv at h28 => rhs; whnf
                      try change slot t 28 = undef at h28
                      have h29 := hf 29 (by kernel_rfl)
                      conv at h29 => rhs; whnf
                      try change slot t 29 = undef at h29
                      have h30 := hf 30 (by kernel_rfl)
                      conv at h30 => rhs; whnf
                      try change slot t 30 = undef at h30
                      have h31 := hf 31 (by kernel_rfl)
                      conv at h31 => rhs; whnf
                      try change slot t 31 = undef at h31
                      have h32 := hf 32 (by kernel_rfl)
                      conv at h32 => rhs; whnf
                      try change slot t 32 = undef at h32
                      have h33 := hf 33 (by kernel_rfl)
                      conv at h33 => rhs; whnf
                      try change slot t 33 = undef at h33
                      have h34 := hf 34 (by kernel_rfl)
                      conv at h34 => rhs; whnf
                      try change slot t 34 = undef at h34
                      have h35 := hf 35 (by kernel_rfl)
                      conv at h35 => rhs; whnf
                      try change slot t 35 = undef at h35
                      have h36 := hf 36 (by kernel_rfl)
                      conv at h36 => rhs; whnf
                      try change slot t 36 = undef at h36
                      have h37 := hf 37 (by kernel_rfl)
                      conv at h37 => rhs; whnf
                      try change slot t 37 = undef at h37
                      have h38 := hf 38 (by kernel_rfl)
                      conv at h38 => rhs; whnf
                      try change slot t 38 = undef at h38
                      have h39 := hf 39 (by kernel_rfl)
                      conv at h39 => rhs; whnf
                      try change slot t 39 = undef at h39
                      have h40 := hf 40 (by kernel_rfl)
                      conv at h40 => rhs; whnf
                      try change slot t 40 = undef at h40
                      have h41 := hf 41 (by kernel_rfl)
                      conv at h41 => rhs; whnf
                      try change slot t 41 = undef at h41
                      have h42 := hf 42 (by kernel_rfl)
                      conv at h42 => rhs; whnf
                      try change slot t 42 = undef at h42
                      have h43 := hf 43 (by kernel_rfl)
                      conv at h43 => rhs; whnf
                      try change slot t 43 = undef at h43
                      have h44 := hf 44 (by kernel_rfl)
                      conv at h44 => rhs; whnf
                      try change slot t 44 = undef at h44
                      have h45 := hf 45 (by kernel_rfl)
                      conv at h45 => rhs; whnf
                      try change slot t 45 = undef at h45
                      have h46 := hf 46 (by kernel_rfl)
                      conv at h46 => rhs; whnf
                      try change slot t 46 = undef at h46
                      have h47 := hf 47 (by kernel_rfl)
                      conv at h47 => rhs; whnf
                      try change slot t 47 = undef at h47
                      have h48 := hf 48 (by kernel_rfl)
                      conv at h48 => rhs; whnf
                      try change slot t 48 = undef at h48
                      have h49 := hf 49 (by kernel_rfl)
                      conv at h49 => rhs; whnf
                      try change slot t 49 = undef at h49
                      have h50 := hf 50 (by kernel_rfl)
                      conv at h50 => rhs; whnf
                      try change slot t 50 = undef at h50
                      have h51 := hf 51 (by kernel_rfl)
                      conv at h51 => rhs; whnf
                      try change slot t 51 = undef at h51
                      have h52 := hf 52 (by kernel_rfl)
                      conv at h52 => rhs; whnf
                      try change slot t 52 = undef at h52
                      have h53 := hf 53 (by kernel_rfl)
                      conv at h53 => rhs; whnf
                      try change slot t 53 = undef at h53
                      have h71 := hf 71 (by kernel_rfl)
                      conv at h71 => rhs; whnf
                      try change slot t 71 = undef at h71
                      have h72 := hf 72 (by kernel_rfl)
                      conv at h72 => rhs; whnf
                      try change slot t 72 = undef at h72
                      have h73 := hf 73 (by kernel_rfl)
                      conv at h73 => rhs; whnf
                      try change slot t 73 = undef at h73
                      have h74 := hf 74 (by kernel_rfl)
                      conv at h74 => rhs; whnf
                      try change slot t 74 = undef at h74
                      have h75 := hf 75 (by kernel_rfl)
                      conv at h75 => rhs; whnf
                      try change slot t 75 = undef at h75
                      have h76 := hf 76 (by kernel_rfl)
                      conv at h76 => rhs; whnf
                      try change slot t 76 = undef at h76
                      have h77 := hf 77 (by kernel_rfl)
                      conv at h77 => rhs; whnf
                      try change slot t 77 = undef at h77
                      have h78 := hf 78 (by kernel_rfl)
                      conv at h78 => rhs; whnf
                      try change slot t 78 = undef at h78
                      have h79 := hf 79 (by kernel_rfl)
                      conv at h79 => rhs; whnf
                      try change slot t 79 = undef at h79
                      have h80 := hf 80 (by kernel_rfl)
                      conv at h80 => rhs; whnf
                      try change slot t 80 = undef at h80
                      have h81 := hf 81 (by kernel_rfl)
                      conv at h81 => rhs; whnf
                      try change slot t 81 = undef at h81
                      have h82 := hf 82 (by kernel_rfl)
                      conv at h82 => rhs; whnf
                      try change slot t 82 = undef at h82
                      have h83 := hf 83 (by kernel_rfl)
                      conv at h83 => rhs; whnf
                      try change slot t 83 = undef at h83
                      have h84 := hf 84 (by kernel_rfl)
                      conv at h84 => rhs; whnf
                      try change slot t 84 = undef at h84
                      have h85 := hf 85 (by kernel_rfl)
                      conv at h85 => rhs; whnf
                      try change slot t 85 = undef at h85
                      have h86 := hf 86 (by kernel_rfl)
                      conv at h86 => rhs; whnf
                      try change slot t 86 = undef at h86
                      have h87 := hf 87 (by kernel_rfl)
                      conv at h87 => rhs; whnf
                      try change slot t 87 = undef at h87
                      have h88 := hf 88 (by kernel_rfl)
                      conv at h88 => rhs; whnf
                      try change slot t 88 = undef at h88
                      have h89 := hf 89 (by kernel_rfl)
                      conv at h89 => rhs; whnf
                      try change slot t 89 = undef at h89
                      have h90 := hf 90 (by kernel_rfl)
                      conv at h90 => rhs; whnf
                      try change slot t 90 = undef at h90
                      have h91 := hf 91 (by kernel_rfl)
                      conv at h91 => rhs; whnf
                      try change slot t 91 = undef at h91
                      have h92 := hf 92 (by kernel_rfl)
                      conv at h92 => rhs; whnf
                      try change slot t 92 = undef at h92
                      have h93 := hf 93 (by kernel_rfl)
                      conv at h93 => rhs; whnf
                      try change slot t 93 = undef at h93
                      have h94 := hf 94 (by kernel_rfl)
                      conv at h94 => rhs; whnf
                      try change slot t 94 = undef at h94
                      have h95 := hf 95 (by kernel_rfl)
                      conv at h95 => rhs; whnf
                      try change slot t 95 = undef at h95
                      have h96 := hf 96 (by kernel_rfl)
                      conv at h96 => rhs; whnf
                      try change slot t 96 = undef at h96
                      have h97 := hf 97 (by kernel_rfl)
                      conv at h97 => rhs; whnf
                      try change slot t 97 = undef at h97
                      have h98 := hf 98 (by kernel_rfl)
                      conv at h98 => rhs; whnf
                      try change slot t 98 = undef at h98
                      have h99 := hf 99 (by kernel_rfl)
                      conv at h99 => rhs; whnf
                      try change slot t 99 = undef at h99
                      have h100 := hf 100 (by kernel_rfl)
                      conv at h100 => rhs; whnf
                      try change slot t 100 = undef at h100
                      have h101 := hf 101 (by kernel_rfl)
                      conv at h101 => rhs; whnf
                      try change slot t 101 = undef at h101
                      have h102 := hf 102 (by kernel_rfl)
                      conv at h102 => rhs; whnf
                      try change slot t 102 = undef at h102
                      have h103 := hf 103 (by kernel_rfl)
                      conv at h103 => rhs; whnf
                      try change slot t 103 = undef at h103
                      have h104 := hf 104 (by kernel_rfl)
                      conv at h104 => rhs; whnf
                      try change slot t 104 = undef at h104
                      have h105 := hf 105 (by kernel_rfl)
                      conv at h105 => rhs; whnf
                      try change slot t 105 = undef at h105
                      have h106 := hf 106 (by kernel_rfl)
                      conv at h106 => rhs; whnf
                      try change slot t 106 = undef at h106
                      have h107 := hf 107 (by kernel_rfl)
                      conv at h107 => rhs; whnf
                      try change slot t 107 = undef at h107
                      have h108 := hf 108 (by kernel_rfl)
                      conv at h108 => rhs; whnf
                      try change slot t 108 = undef at h108
                      have h109 := hf 109 (by kernel_rfl)
                      conv at h109 => rhs; whnf
                      try change slot t 109 = undef at h109
                      have h110 := hf 110 (by kernel_rfl)
                      conv at h110 => rhs; whnf
                      try change slot t 110 = undef at h110
                      have h111 := hf 111 (by kernel_rfl)
                      conv at h111 => rhs; whnf
                      try change slot t 111 = undef at h111
                      have h112 := hf 112 (by kernel_rfl)
                      conv at h112 => rhs; whnf
                      try change slot t 112 = undef at h112
                      have h113 := hf 113 (by kernel_rfl)
                      conv at h113 => rhs; whnf
                      try change slot t 113 = undef at h113
                      have h114 := hf 114 (by kernel_rfl)
                      conv at h114 => rhs; whnf
                      try change slot t 114 = undef at h114
                      have h115 := hf 115 (by kernel_rfl)
                      conv at h115 => rhs; whnf
                      try change slot t 115 = undef at h115
                      have h116 := hf 116 (by kernel_rfl)
                      conv at h116 => rhs; whnf
                      try change slot t 116 = undef at h116
                      have h117 := hf 117 (by kernel_rfl)
                      conv at h117 => rhs; whnf
                      try change slot t 117 = undef at h117
                      have h118 := hf 118 (by kernel_rfl)
                      conv at h118 => rhs; whnf
                      try change slot t 118 = undef at h118
                      have h119 := hf 119 (by kernel_rfl)
                      conv at h119 => rhs; whnf
                      try change slot t 119 = undef at h119
                      have h120 := hf 120 (by kernel_rfl)
                      conv at h120 => rhs; whnf
                      try change slot t 120 = undef at h120
                      have h121 := hf 121 (by kernel_rfl)
                      conv at h121 => rhs; whnf
                      try change slot t 121 = undef at h121
                      have h122 := hf 122 (by kernel_rfl)
                      conv at h122 => rhs; whnf
                      try change slot t 122 = undef at h122
                      have h123 := hf 123 (by kernel_rfl)
                      conv at h123 => rhs; whnf
                      try change slot t 123 = undef at h123
                      have h124 := hf 124 (by kernel_rfl)
                      conv at h124 => rhs; whnf
                      try change slot t 124 = undef at h124
                      have h125 := hf 125 (by kernel_rfl)
                      conv at h125 => rhs; whnf
                      try change slot t 125 = undef at h125
                      have h126 := hf 126 (by kernel_rfl)
                      conv at h126 => rhs; whnf
                      try change slot t 126 = undef at h126
                      have h127 := hf 127 (by kernel_rfl)
                      conv at h127 => rhs; whnf
                      try change slot t 127 = undef at h127
                      have h128 := hf 128 (by kernel_rfl)
                      conv at h128 => rhs; whnf
                      try change slot t 128 = undef at h128
                      have h129 := hf 129 (by kernel_rfl)
                      conv at h129 => rhs; whnf
                      try change slot t 129 = undef at h129
                      have h130 := hf 130 (by kernel_rfl)
                      conv at h130 => rhs; whnf
                      try change slot t 130 = undef at h130
                      have h131 := hf 131 (by kernel_rfl)
                      conv at h131 => rhs; whnf
                      try change slot t 131 = undef at h131
                      have h132 := hf 132 (by kernel_rfl)
                      conv at h132 => rhs; whnf
                      try change slot t 132 = undef at h132
                      have h133 := hf 133 (by kernel_rfl)
                      conv at h133 => rhs; whnf
                      try change slot t 133 = undef at h133
                      have h134 := hf 134 (by kernel_rfl)
                      conv at h134 => rhs; whnf
                      try change slot t 134 = undef at h134
                      have h135 := hf 135 (by kernel_rfl)
                      conv at h135 => rhs; whnf
                      try change slot t 135 = undef at h135
                      have h136 := hf 136 (by kernel_rfl)
                      conv at h136 => rhs; whnf
                      try change slot t 136 = undef at h136
                      have h137 := hf 137 (by kernel_rfl)
                      conv at h137 => rhs; whnf
                      try change slot t 137 = undef at h137
                      have h138 := hf 138 (by kernel_rfl)
                      conv at h138 => rhs; whnf
                      try change slot t 138 = undef at h138
                      have h139 := hf 139 (by kernel_rfl)
                      conv at h139 => rhs; whnf
                      try change slot t 139 = undef at h139
                      have h140 := hf 140 (by kernel_rfl)
                      conv at h140 => rhs; whnf
                      try change slot t 140 = undef at h140
                      have harr : t = #[slot t 0, slot t 1, slot t 2, slot t 3, slot t 4, slot t 5, slot t 6, slot t 7, slot t 8, slot t 9, slot t 10, slot t 11, slot t 12, slot t 13, slot t 14, slot t 15, slot t 16, slot t 17, slot t 18, slot t 19, slot t 20, slot t 21, slot t 22, slot t 23, slot t 24, slot t 25, slot t 26, slot t 27, slot t 28, slot t 29, slot t 30, slot t 31, slot t 32, slot t 33, slot t 34, slot t 35, slot t 36, slot t 37, slot t 38, slot t 39, slot t 40, slot t 41, slot t 42, slot t 43, slot t 44, slot t 45, slot t 46, slot t 47, slot t 48, slot t 49, slot t 50, slot t 51, slot t 52, slot t 53, slot t 54, slot t 55, slot t 56, slot t 57, slot t 58, slot t 59, slot t 60, slot t 61, slot t 62, slot t 63, slot t 64, slot t 65, slot t 66, slot t 67, slot t 68, slot t 69, slot t 70, slot t 71, slot t 72, slot t 73, slot t 74, slot t 75, slot t 76, slot t 77, slot t 78, slot t 79, slot t 80, slot t 81, slot t 82, slot t 83, slot t 84, slot t 85, slot t 86, slot t 87, slot t 88, slot t 89, slot t 90, slot t 91, slot t 92, slot t 93, slot t 94, slot t 95, slot t 96, slot t 97, slot t 98, slot t 99, slot t 100, slot t 101, slot t 102, slot t 103, slot t 104, slot t 105, slot t 106, slot t 107, slot t 108, slot t 109, slot t 110, slot t 111, slot t 112, slot t 113, slot t 114, slot t 115, slot t 116, slot t 117, slot t 118, slot t 119, slot t 120, slot t 121, slot t 122, slot t 123, slot t 124, slot t 125, slot t 126, slot t 127, slot t 128, slot t 129, slot t 130, slot t 131, slot t 132, slot t 133, slot t 134, slot t 135, slot t 136, slot t 137, slot t 138, slot t 139, slot t 140] := arr_eq t 141 hsz
                      rw [harr, h70, h1, h5, h3, h0, h2, h4, h6, h7, h8, h9, h10, h11, h12, h13, h14, h15, h16, h17, h18, h19, h20, h21, h22, h23, h24, h25, h26, h27, h28, h29, h30, h31, h32, h33, h34, h35, h36, h37, h38, h39, h40, h41, h42, h43, h44, h45, h46, h47, h48, h49, h50, h51, h52, h53, h71, h72, h73, h74, h75, h76, h77, h78, h79, h80, h81, h82, h83, h84, h85, h86, h87, h88, h89, h90, h91, h92, h93, h94, h95, h96, h97, h98, h99, h100, h101, h102, h103, h104, h105, h106, h107, h108, h109, h110, h111, h112, h113, h114, h115, h116, h117, h118, h119, h120, h121, h122, h123, h124, h125, h126, h127, h128, h129, h130, h131, h132, h133, h134, h135, h136, h137, h138, h139, h140]
                      clear harr hfacts hf h70 h1 h5 h3 h0 h2 h4 h6 h7 h8 h9 h10 h11 h12 h13 h14 h15 h16 h17 h18 h19 h20 h21 h22 h23 h24 h25 h26 h27 h28 h29 h30 h31 h32 h33 h34 h35 h36 h37 h38 h39 h40 h41 h42 h43 h44 h45 h46 h47 h48 h49 h50 h51 h52 h53 h71 h72 h73 h74 h75 h76 h77 h78 h79 h80 h81 h82 h83 h84 h85 h86 h87 h88 h89 h90 h91 h92 h93 h94 h95 h96 h97 h98 h99 h100 h101 h102 h103 h104 h105 h106 h107 h108 h109 h110 h111 h112 h113 h114 h115 h116 h117 h118 h119 h120 h121 h122 h123 h124 h125 h126 h127 h128 h129 h130 h131 h132 h133 h134 h135 h136 h137 h138 h139 h140
                      generalize slot t 54 = x54; generalize slot t 55 = x55; generalize slot t 56 = x56; generalize slot t 57 = x57; generalize slot t 58 = x58; generalize slot t 59 = x59; generalize slot t 60 = x60; generalize slot t 61 = x61; generalize slot t 62 = x62; generalize slot t 63 = x63; generalize slot t 64 = x64; generalize slot t 65 = x65
                      generalize slot t 66 = x66; generalize slot t 67 = x67; generalize slot t 68 = x68; generalize slot t 69 = x69
                      clear hsz t
                      have K7 := Lib.hid (K0.out.trans hk)
                      replace R3 := Lib.hid (R3.out.kept hk)
                      replace R5 := Lib.hid (R5.out.kept hk)
                      clear hk
                      obtain ⟨v7, hv7⟩ : ∃ v, v = w1 := ⟨_, rfl⟩
                      subst hv7
                      have hW : mayM (n1 : Int) (N : Int) n2 I2 m2 = 0 := by rw [hmay, if_pos ⟨hk1.out, hk2.out⟩]
                      have hgr : rtM n1 S1 (N : Int) n2 I2 m2 F2 = shaL (rootS N (tpM (qP n2 I2) (hP n2 I2 S1) F2 0 N 0)) := by rw [rtM, if_pos hW]; rfl
                      have hTp : Hid (∀ w, SAt w p1 n1 S1 → IAt w p2 n2 I2 → HSl m2 F2 (.slice q2 m2 d2) w → Calls Tryd.prog 18 #[.slice p1 n1 c1, .slice p2 n2 c2, .slice q2 m2 d2, .int .i64 0, .int .i64 (N : Int)] w fun e w' => ∃ q' m' c', e = .returned (.tuple #[.agg (bC 32 (tpM (qP n2 I2) (hP n2 I2 S1) F2 0 N 0)), .slice q' m' c']) ∧ Kept w w') := Lib.hid fun w hS hI hH => by
                        have hk1' := hk1.out
                        have hk2' := hk2.out
                        subst hk1'
                        refine (refTop16_any N p2 p1 n1 c2 c1 I2 S1 (N : Int) (.slice q2 m2 d2) m2 F2 0 0 N w hr hS hz1' hI (by omega) (by simpa only [Nat.zero_add] using hH) (by omega) hN (by omega) (by omega)).mono ?_
                        rintro e w' ⟨q', c', rfl, _, hk⟩
                        exact ⟨q', _, c', rfl, hk⟩
                      have h32 : (tpM (qP n2 I2) (hP n2 I2 S1) F2 0 N 0).length = 32 := tpM_length _ _ _ _ _ _ (hP_length _ _ _ _) fun h1 => by
                        obtain ⟨_, _, _, _, _, hF⟩ := HH.out
                        exact hF.length 0 (by have := hk2.out; omega)
                      have hRf : Hid (∀ w, _) := Lib.hid fun w => refRootSum_any N (by omega) (tpM (qP n2 I2) (hP n2 I2 S1) F2 0 N 0) h32 w
                      have hR8 := hMR.out
                      have hM8 := hMM.out
                      have hC8 := hMC.out a0 n0
                      have hC9 := hMC.out (rtM n1 S1 (N : Int) n2 I2 m2 F2) HR32
                      have hck : ckM a0 n1 S1 (N : Int) n2 I2 m2 F2 = decide (a0 = rtM n1 S1 (N : Int) n2 I2 m2 F2) := by
                        unfold ckM; rw [decide_eq_decide]; exact ⟨fun h => h.2.symm, fun h => ⟨hW, h.symm⟩⟩
                      have hck2 : ckM (rtM n1 S1 (N : Int) n2 I2 m2 F2) n1 S1 (N : Int) n2 I2 m2 F2 = true := decide_eq_true ⟨hW, rfl⟩
                      rw [← hgr] at hRf
                      simp only [hW, hck, hck2] at hR8 hM8 hC8 hC9
                      replace hR8 := Lib.hid hR8
                      replace hM8 := Lib.hid hM8
                      replace hC8 := Lib.hid hC8
                      replace hC9 := Lib.hid hC9
                      have hw : IntKind.u64.wrap (N : Int) = (N : Int) := wrap_u64 N (by omega)
                      clear hW hck hck2 hgr hMR hMM hMC hRis hNd hmay hk1 hk2 hr h32 hz1' hz1
                      generalize rtM n1 S1 (N : Int) n2 I2 m2 F2 = A at hR8 hC8 hC9 HR32 hRf
                      generalize tpM (qP n2 I2) (hP n2 I2 S1) F2 0 N 0 = B at hTp hRf
                      go_wp2_with (refine park_at 73 rfl ?_)
                      refine unpark ?_
                      refine wpList_exec 73 rfl (by rfl) (.agg #[.int .i64 (N : Int), .slice p2 n2 c2, .slice q2 m2 d2]) _ (loadMany rfl rfl R5.out rfl) ?_
                      go_wp2_with fail
                      refine (hR8.out v7 (HS.out.kept K7.out) (HI.out.kept K7.out) (HSl.kept _ _ _ _ _ K7.out HH.out) (HT.out.kept K7.out)).mono ?_
                      rintro e u2 ⟨rfl, k2⟩
                      have K2 := Lib.hid (K7.out.trans k2)
                      replace R3 := Lib.hid (R3.out.kept k2)
                      replace R5 := Lib.hid (R5.out.kept k2)
                      clear k2 hR8
                      go_wp2_with (first
                        | (refine wpList_store_made rfl 38 _ _ rfl _ _ (bC 32 A) rfl rfl 38 _ rfl (info_hash _) (by simp [bC_size]) (bC_one _ _) ?_; intro u3 R8 k3)
                        | (refine park_at 83 rfl ?_))
                      obtain ⟨g8, hg8⟩ : ∃ g, g = u2.heap.size := ⟨_, rfl⟩
                      rw [← hg8] at R8 ⊢
                      clear hg8
                      have K3 := Lib.hid (K2.out.trans k3.out)
                      replace R3 := Lib.hid (R3.out.kept k3.out)
                      replace R5 := Lib.hid (R5.out.kept k3.out)
                      clear k3 K2
                      refine unpark ?_
                      refine wpList_exec 83 rfl (by rfl) (.agg #[.int .i64 (N : Int), .slice p2 n2 c2, .slice q2 m2 d2]) _ (loadMany rfl rfl R5.out rfl) ?_
                      go_wp2_with fail
                      refine (hM8.out u3 (HI.out.kept K3.out)).mono ?_
                      rintro e u4 ⟨rfl, k4⟩
                      replace R3 := Lib.hid (R3.out.kept k4)
                      replace R5 := Lib.hid (R5.out.kept k4)
                      replace R8 := Lib.hid (R8.out.kept k4)
                      have K4 := Lib.hid (K3.out.trans k4)
                      clear k4 K3 hM8
                      have f0 := R5.out.cell 0
                      have f1 := R5.out.cell 1
                      have f2 := R5.out.cell 2
                      go_wp2_with fail
                      clear f0 f1 f2
                      refine (hTp.out u4 (HS.out.kept K4.out) (HI.out.kept K4.out) (HSl.kept _ _ _ _ _ K4.out HH.out)).mono ?_
                      rintro e u5 ⟨q', m', c', rfl, k5⟩
                      replace R3 := Lib.hid (R3.out.kept k5)
                      replace R5 := Lib.hid (R5.out.kept k5)
                      replace R8 := Lib.hid (R8.out.kept k5)
                      have K5 := Lib.hid (K4.out.trans k5)
                      clear k5 K4 hTp
                      go_wp2_with (first
                        | (refine wpList_store_made rfl 38 _ _ rfl _ _ (bC 32 B) rfl rfl 38 _ rfl (info_hash _) (by simp [bC_size]) (bC_one _ _) ?_; intro u6 R10 k6)
                        | (refine park_at 114 rfl ?_))
                      obtain ⟨g10, hg10⟩ : ∃ g, g = u5.heap.size := ⟨_, rfl⟩
                      rw [← hg10] at R10 ⊢
                      clear hg10
                      replace R3 := Lib.hid (R3.out.kept k6.out)
                      replace R5 := Lib.hid (R5.out.kept k6.out)
                      replace R8 := Lib.hid (R8.out.kept k6.out)
                      have K6 := Lib.hid (K5.out.trans k6.out)
                      clear k6 K5
                      have f0 := R5.out.cell 0
                      refine unpark ?_
                      go_wp2_with (refine park_at 117 rfl ?_)
                      clear f0
                      refine unpark ?_
                      refine wpList_exec 117 rfl (by rfl) (.agg (bC 32 B)) _ (loadHr rfl rfl R10.out) ?_
                      go_wp2_with fail
                      refine (hRf.out u6).mono ?_
                      rintro e u8 ⟨rfl, k8⟩
                      replace R3 := Lib.hid (R3.out.kept k8)
                      replace R5 := Lib.hid (R5.out.kept k8)
                      replace R8 := Lib.hid (R8.out.kept k8)
                      have K8 := Lib.hid (K6.out.trans k8)
                      clear k8 K6 R10 hRf
                      go_wp2_with (refine wpList_store_made rfl 38 _ _ rfl _ _ (bC 32 A) rfl rfl 38 _ rfl (info_hash _) (by simp [bC_size]) (bC_one _ _) ?_; intro u9 R12 k9)
                      obtain ⟨g12, hg12⟩ : ∃ g, g = u8.heap.size := ⟨_, rfl⟩
                      rw [← hg12] at R12 ⊢
                      clear hg12
                      replace R3 := Lib.hid (R3.out.kept k9.out)
                      replace R5 := Lib.hid (R5.out.kept k9.out)
                      replace R8 := Lib.hid (R8.out.kept k9.out)
                      have K9 := Lib.hid (K8.out.trans k9.out)
                      clear k9 K8
                      obtain ⟨D, hD⟩ : ∃ D, D = decide (a0 = A) := ⟨_, rfl⟩
                      rw [← hD] at hC8
                      replace hD := Lib.hid hD
                      have hDD : (D == D) = true := by simp
                      refine wp_region_table [(119, .is (.agg (bC 32 A))), (120, .is (.agg (bC 32 A))), (121, .is (.bool true)), (122, .is (.bool true)), (123, .is (.agg (bC 32 a0))), (124, .is (.slice p1 n1 c1)), (125, .is (.agg #[.int .i64 (N : Int), .slice p2 n2 c2, .slice q2 m2 d2])), (126, .is (.bool D)), (127, .is (.agg (bC 32 a0))), (128, .is (.agg (bC 32 A))), (129, .is (.bool D)), (130, .is (.bool true)), (131, .is (.bool true)), (132, .is (.bool true)), (133, .is (.agg (bC 32 A))), (134, .is (.slice p1 n1 c1)), (135, .is (.agg #[.int .i64 (N : Int), .slice p2 n2 c2, .slice q2 m2 d2])), (136, .is (.bool true)), (137, .is (.bool true)), (138, .is (.bool true)), (139, .is (.bool true)), (140, .is (.bool true)), (6, .is (.bool true))] (by kernel_rfl) (by kernel_rfl) ?_ ?_
                      · refine ⟨fun t w1 hf hk hp => ?_, ?_⟩
                        · have h8 : slot t 8 = .pointer (some ⟨g8, 0, none⟩) := hf 8 (by kernel_rfl)
                          clear hf hp
                          refine stepAt_plain rfl ?_
                          exact stepOK_pure (.agg (bC 32 A)) (loadHr rfl h8 (R8.out.kept hk)) rfl
                        refine ⟨fun t w1 hf hk hp => ?_, ?_⟩
                        · have h12 : slot t 12 = .pointer (some ⟨g12, 0, none⟩) := hf 12 (by kernel_rfl)
                          clear hf hp
                          refine stepAt_plain rfl ?_
                          exact stepOK_pure (.agg (bC 32 A)) (loadHr rfl h12 (R12.out.kept hk)) rfl
                        refine ⟨fun t w1 hf hk hp => ?_, ?_⟩
                        · have h119 : slot t 119 = .agg (bC 32 A) := hp 119 (by kernel_rfl)
                          have h120 : slot t 120 = .agg (bC 32 A) := hp 120 (by kernel_rfl)
                          clear hf hp
                          refine stepAt_plain rfl ?_
                          exact stepOK_pure (.bool true) (execEqH1 A HR32 w1 rfl h119 h120) rfl
                        refine ⟨fun t w1 hf hk hp => ?_, ?_⟩
                        · have h121 : slot t 121 = .bool true := hp 121 (by kernel_rfl)
                          clear hf hp
                          refine stepAt_plain rfl ?_
                          exact stepOK_move _ (.inl rfl) h121
                        refine ⟨fun t w1 hf hk hp => ?_, ?_⟩
                        · have h3 : slot t 3 = .pointer (some ⟨w.heap.size, 0, none⟩) := hf 3 (by kernel_rfl)
                          have h122 : slot t 122 = .bool true := hp 122 (by kernel_rfl)
                          clear hf hp
                          refine stepAt_on 122 true (by kernel_rfl) h122 ?_
                          exact stepOK_pure (.agg (bC 32 a0)) (loadHr rfl h3 (R3.out.kept hk)) rfl
                        refine ⟨fun t w1 hf hk hp => ?_, ?_⟩
                        · have h1 : slot t 1 = .slice p1 n1 c1 := hf 1 (by kernel_rfl)
                          have h122 : slot t 122 = .bool true := hp 122 (by kernel_rfl)
                          clear hf hp
                          refine stepAt_on 122 true (by kernel_rfl) h122 ?_
                          exact stepOK_move _ (.inl rfl) h1
                        refine ⟨fun t w1 hf hk hp => ?_, ?_⟩
                        · have h5 : slot t 5 = .pointer (some ⟨w.heap.size + 1, 0, none⟩) := hf 5 (by kernel_rfl)
                          have h122 : slot t 122 = .bool true := hp 122 (by kernel_rfl)
                          clear hf hp
                          refine stepAt_on 122 true (by kernel_rfl) h122 ?_
                          exact stepOK_pure (.agg #[.int .i64 (N : Int), .slice p2 n2 c2, .slice q2 m2 d2]) (loadMany rfl h5 (R5.out.kept hk) rfl) rfl
                        refine ⟨fun t w1 hf hk hp => ?_, ?_⟩
                        · have h123 : slot t 123 = .agg (bC 32 a0) := hp 123 (by kernel_rfl)
                          have h124 : slot t 124 = .slice p1 n1 c1 := hp 124 (by kernel_rfl)
                          have h125 : slot t 125 = .agg #[.int .i64 (N : Int), .slice p2 n2 c2, .slice q2 m2 d2] := hp 125 (by kernel_rfl)
                          have h122 : slot t 122 = .bool true := hp 122 (by kernel_rfl)
                          clear hf hp
                          refine stepAt_on 122 true (by kernel_rfl) h122 ?_
                          refine stepOK_call #[.agg (bC 32 a0), .slice p1 n1 c1, .agg #[.int .i64 (N : Int), .slice p2 n2 c2, .slice q2 m2 d2]] rfl (by simp only [List.map_toArray, List.map_cons, List.map_nil, evS, h123, h124, h125]) (by go_simp) ((hC8.out w1 (HS.out.kept (K9.out.trans hk)) (HI.out.kept (K9.out.trans hk)) (HSl.kept _ _ _ _ _ (K9.out.trans hk) HH.out) (HT.out.kept (K9.out.trans hk))).mono fun e w' ⟨he, hk'⟩ => ⟨_, he, hk', rfl⟩)
                        refine ⟨fun t w1 hf hk hp => ?_, ?_⟩
                        · have h3 : slot t 3 = .pointer (some ⟨w.heap.size, 0, none⟩) := hf 3 (by kernel_rfl)
                          have h122 : slot t 122 = .bool true := hp 122 (by kernel_rfl)
                          clear hf hp
                          refine stepAt_on 122 true (by kernel_rfl) h122 ?_
                          exact stepOK_pure (.agg (bC 32 a0)) (loadHr rfl h3 (R3.out.kept hk)) rfl
                        refine ⟨fun t w1 hf hk hp => ?_, ?_⟩
                        · have h12 : slot t 12 = .pointer (some ⟨g12, 0, none⟩) := hf 12 (by kernel_rfl)
                          have h122 : slot t 122 = .bool true := hp 122 (by kernel_rfl)
                          clear hf hp
                          refine stepAt_on 122 true (by kernel_rfl) h122 ?_
                          exact stepOK_pure (.agg (bC 32 A)) (loadHr rfl h12 (R12.out.kept hk)) rfl
                        refine ⟨fun t w1 hf hk hp => ?_, ?_⟩
                        · have h127 : slot t 127 = .agg (bC 32 a0) := hp 127 (by kernel_rfl)
                          have h128 : slot t 128 = .agg (bC 32 A) := hp 128 (by kernel_rfl)
                          have h122 : slot t 122 = .bool true := hp 122 (by kernel_rfl)
                          clear hf hp
                          refine stepAt_on 122 true (by kernel_rfl) h122 ?_
                          exact stepOK_pure (.bool D) (by rw [hD.out]; exact execEqHs a0 A n0 HR32 w1 rfl h127 h128) rfl
                        refine ⟨fun t w1 hf hk hp => ?_, ?_⟩
                        · have h126 : slot t 126 = .bool D := hp 126 (by kernel_rfl)
                          have h129 : slot t 129 = .bool D := hp 129 (by kernel_rfl)
                          have h122 : slot t 122 = .bool true := hp 122 (by kernel_rfl)
                          clear hf hp
                          refine stepAt_on 122 true (by kernel_rfl) h122 ?_
                          have hq0 := hDD
                          refine stepOK_pure (.bool true) ?_ rfl
                          simp only [execOp, evS, h126, h129]
                          go_simp
                        refine ⟨fun t w1 hf hk hp => ?_, ?_⟩
                        · have h122 : slot t 122 = .bool true := hp 122 (by kernel_rfl)
                          have h130 : slot t 130 = .bool true := hp 130 (by kernel_rfl)
                          clear hf hp
                          refine stepAt_plain rfl ?_
                          refine stepOK_pure (.bool true) ?_ rfl
                          simp only [execOp, evS, h122, h130]
                          go_simp
                        refine ⟨fun t w1 hf hk hp => ?_, ?_⟩
                        · have h131 : slot t 131 = .bool true := hp 131 (by kernel_rfl)
                          clear hf hp
                          refine stepAt_plain rfl ?_
                          exact stepOK_move _ (.inl rfl) h131
                        refine ⟨fun t w1 hf hk hp => ?_, ?_⟩
                        · have h12 : slot t 12 = .pointer (some ⟨g12, 0, none⟩) := hf 12 (by kernel_rfl)
                          have h132 : slot t 132 = .bool true := hp 132 (by kernel_rfl)
                          clear hf hp
                          refine stepAt_on 132 true (by kernel_rfl) h132 ?_
                          exact stepOK_pure (.agg (bC 32 A)) (loadHr rfl h12 (R12.out.kept hk)) rfl
                        refine ⟨fun t w1 hf hk hp => ?_, ?_⟩
                        · have h1 : slot t 1 = .slice p1 n1 c1 := hf 1 (by kernel_rfl)
                          have h132 : slot t 132 = .bool true := hp 132 (by kernel_rfl)
                          clear hf hp
                          refine stepAt_on 132 true (by kernel_rfl) h132 ?_
                          exact stepOK_move _ (.inl rfl) h1
                        refine ⟨fun t w1 hf hk hp => ?_, ?_⟩
                        · have h5 : slot t 5 = .pointer (some ⟨w.heap.size + 1, 0, none⟩) := hf 5 (by kernel_rfl)
                          have h132 : slot t 132 = .bool true := hp 132 (by kernel_rfl)
                          clear hf hp
                          refine stepAt_on 132 true (by kernel_rfl) h132 ?_
                          exact stepOK_pure (.agg #[.int .i64 (N : Int), .slice p2 n2 c2, .slice q2 m2 d2]) (loadMany rfl h5 (R5.out.kept hk) rfl) rfl
                        refine ⟨fun t w1 hf hk hp => ?_, ?_⟩
                        · have h133 : slot t 133 = .agg (bC 32 A) := hp 133 (by kernel_rfl)
                          have h134 : slot t 134 = .slice p1 n1 c1 := hp 134 (by kernel_rfl)
                          have h135 : slot t 135 = .agg #[.int .i64 (N : Int), .slice p2 n2 c2, .slice q2 m2 d2] := hp 135 (by kernel_rfl)
                          have h132 : slot t 132 = .bool true := hp 132 (by kernel_rfl)
                          clear hf hp
                          refine stepAt_on 132 true (by kernel_rfl) h132 ?_
                          refine stepOK_call #[.agg (bC 32 A), .slice p1 n1 c1, .agg #[.int .i64 (N : Int), .slice p2 n2 c2, .slice q2 m2 d2]] rfl (by simp only [List.map_toArray, List.map_cons, List.map_nil, evS, h133, h134, h135]) (by go_simp) ((hC9.out w1 (HS.out.kept (K9.out.trans hk)) (HI.out.kept (K9.out.trans hk)) (HSl.kept _ _ _ _ _ (K9.out.trans hk) HH.out) (HT.out.kept (K9.out.trans hk))).mono fun e w' ⟨he, hk'⟩ => ⟨_, he, hk', rfl⟩)
                        refine ⟨fun t w1 hf hk hp => ?_, ?_⟩
                        · have h132 : slot t 132 = .bool true := hp 132 (by kernel_rfl)
                          have h136 : slot t 136 = .bool true := hp 136 (by kernel_rfl)
                          clear hf hp
                          refine stepAt_plain rfl ?_
                          refine stepOK_pure (.bool true) ?_ rfl
                          simp only [execOp, evS, h132, h136]
                          go_simp
                        refine ⟨fun t w1 hf hk hp => ?_, ?_⟩
                        · have h137 : slot t 137 = .bool true := hp 137 (by kernel_rfl)
                          clear hf hp
                          refine stepAt_plain rfl ?_
                          exact stepOK_move _ (.inl rfl) h137
                        refine ⟨fun t w1 hf hk hp => ?_, ?_⟩
                        · have h138 : slot t 138 = .bool true := hp 138 (by kernel_rfl)
                          clear hf hp
                          refine stepAt_on 138 true (by kernel_rfl) h138 ?_
                          refine stepOK_call #[] rfl (by simp only [List.map_toArray, List.map_nil]) (by go_simp) ((HA.out w1).mono fun e w' ⟨he, hk'⟩ => ⟨_, he, hk', rfl⟩)
                        refine ⟨fun t w1 hf hk hp => ?_, ?_⟩
                        · have h138 : slot t 138 = .bool true := hp 138 (by kernel_rfl)
                          have h139 : slot t 139 = .bool true := hp 139 (by kernel_rfl)
                          clear hf hp
                          refine stepAt_plain rfl ?_
                          refine stepOK_pure (.bool true) ?_ rfl
                          simp only [execOp, evS, h138, h139]
                          go_simp
                        refine ⟨fun t w1 hf hk hp => ?_, ?_⟩
                        · have h140 : slot t 140 = .bool true := hp 140 (by kernel_rfl)
                          clear hf hp
                          refine stepAt_plain rfl ?_
                          exact stepOK_move _ (.inr rfl) h140
                        exact trivial
                      · intro t w1 hsz hf hk hfacts
                        have h6 : slot t 6 = .bool true := hfacts 22 _ rfl 6 rfl
                        have h1 : slot t 1 = .slice p1 n1 c1 := hf 1 (by kernel_rfl)
                        have h3 : slot t 3 = .pointer (some ⟨w.heap.size, 0, none⟩) := hf 3 (by kernel_rfl)
                        have h5 : slot t 5 = .pointer (some ⟨w.heap.size + 1, 0, none⟩) := hf 5 (by kernel_rfl)
                        have h8 : slot t 8 = .pointer (some ⟨g8, 0, none⟩) := hf 8 (by kernel_rfl)
                        have h12 : slot t 12 = .pointer (some ⟨g12, 0, none⟩) := hf 12 (by kernel_rfl)
                        have harr : t = #[slot t 0, slot t 1, slot t 2, slot t 3, slot t 4, slot t 5, slot t 6, slot t 7, slot t 8, slot t 9, slot t 10, slot t 11, slot t 12, slot t 13, slot t 14, slot t 15, slot t 16, slot t 17, slot t 18, slot t 19, slot t 20, slot t 21, slot t 22, slot t 23, slot t 24, slot t 25, slot t 26, slot t 27, slot t 28, slot t 29, slot t 30, slot t 31, slot t 32, slot t 33, slot t 34, slot t 35, slot t 36, slot t 37, slot t 38, slot t 39, slot t 40, slot t 41, slot t 42, slot t 43, slot t 44, slot t 45, slot t 46, slot t 47, slot t 48, slot t 49, slot t 50, slot t 51, slot t 52, slot t 53, slot t 54, slot t 55, slot t 56, slot t 57, slot t 58, slot t 59, slot t 60, slot t 61, slot t 62, slot t 63, slot t 64, slot t 65, slot t 66, slot t 67, slot t 68, slot t 69, slot t 70, slot t 71, slot t 72, slot t 73, slot t 74, slot t 75, slot t 76, slot t 77, slot t 78, slot t 79, slot t 80, slot t 81, slot t 82, slot t 83, slot t 84, slot t 85, slot t 86, slot t 87, slot t 88, slot t 89, slot t 90, slot t 91, slot t 92, slot t 93, slot t 94, slot t 95, slot t 96, slot t 97, slot t 98, slot t 99, slot t 100, slot t 101, slot t 102, slot t 103, slot t 104, slot t 105, slot t 106, slot t 107, slot t 108, slot t 109, slot t 110, slot t 111, slot t 112, slot t 113, slot t 114, slot t 115, slot t 116, slot t 117, slot t 118, slot t 119, slot t 120, slot t 121, slot t 122, slot t 123, slot t 124, slot t 125, slot t 126, slot t 127, slot t 128, slot t 129, slot t 130, slot t 131, slot t 132, slot t 133, slot t 134, slot t 135, slot t 136, slot t 137, slot t 138, slot t 139, slot t 140] := arr_eq t 141 hsz
                        rw [harr, h6, h1, h3, h5, h8, h12]
                        clear harr hfacts hf h6 h1 h3 h5 h8 h12
                        generalize slot t 0 = x0; generalize slot t 2 = x2; generalize slot t 4 = x4; generalize slot t 7 = x7; generalize slot t 9 = x9; generalize slot t 10 = x10; generalize slot t 11 = x11; generalize slot t 13 = x13; generalize slot t 14 = x14; generalize slot t 15 = x15; generalize slot t 16 = x16; generalize slot t 17 = x17
                        generalize slot t 18 = x18; generalize slot t 19 = x19; generalize slot t 20 = x20; generalize slot t 21 = x21; generalize slot t 22 = x22; generalize slot t 23 = x23; generalize slot t 24 = x24; generalize slot t 25 = x25; generalize slot t 26 = x26; generalize slot t 27 = x27; generalize slot t 28 = x28; generalize slot t 29 = x29
                        generalize slot t 30 = x30; generalize slot t 31 = x31; generalize slot t 32 = x32; generalize slot t 33 = x33; generalize slot t 34 = x34; generalize slot t 35 = x35; generalize slot t 36 = x36; generalize slot t 37 = x37; generalize slot t 38 = x38; generalize slot t 39 = x39; generalize slot t 40 = x40; generalize slot t 41 = x41
                        generalize slot t 42 = x42; generalize slot t 43 = x43; generalize slot t 44 = x44; generalize slot t 45 = x45; generalize slot t 46 = x46; generalize slot t 47 = x47; generalize slot t 48 = x48; generalize slot t 49 = x49; generalize slot t 50 = x50; generalize slot t 51 = x51; generalize slot t 52 = x52; generalize slot t 53 = x53
                        generalize slot t 54 = x54; generalize slot t 55 = x55; generalize slot t 56 = x56; generalize slot t 57 = x57; generalize slot t 58 = x58; generalize slot t 59 = x59; generalize slot t 60 = x60; generalize slot t 61 = x61; generalize slot t 62 = x62; generalize slot t 63 = x63; generalize slot t 64 = x64; generalize slot t 65 = x65
                        generalize slot t 66 = x66; generalize slot t 67 = x67; generalize slot t 68 = x68; generalize slot t 69 = x69; generalize slot t 70 = x70; generalize slot t 71 = x71; generalize slot t 72 = x72; generalize slot t 73 = x73; generalize slot t 74 = x74; generalize slot t 75 = x75; generalize slot t 76 = x76; generalize slot t 77 = x77
                        generalize slot t 78 = x78; generalize slot t 79 = x79; generalize slot t 80 = x80; generalize slot t 81 = x81; generalize slot t 82 = x82; generalize slot t 83 = x83; generalize slot t 84 = x84; generalize slot t 85 = x85; generalize slot t 86 = x86; generalize slot t 87 = x87; generalize slot t 88 = x88; generalize slot t 89 = x89
                        generalize slot t 90 = x90; generalize slot t 91 = x91; generalize slot t 92 = x92; generalize slot t 93 = x93; generalize slot t 94 = x94; generalize slot t 95 = x95; generalize slot t 96 = x96; generalize slot t 97 = x97; generalize slot t 98 = x98; generalize slot t 99 = x99; generalize slot t 100 = x100; generalize slot t 101 = x101
                        generalize slot t 102 = x102; generalize slot t 103 = x103; generalize slot t 104 = x104; generalize slot t 105 = x105; generalize slot t 106 = x106; generalize slot t 107 = x107; generalize slot t 108 = x108; generalize slot t 109 = x109; generalize slot t 110 = x110; generalize slot t 111 = x111; generalize slot t 112 = x112; generalize slot t 113 = x113
                        generalize slot t 114 = x114; generalize slot t 115 = x115; generalize slot t 116 = x116; generalize slot t 117 = x117; generalize slot t 118 = x118; generalize slot t 119 = x119; generalize slot t 120 = x120; generalize slot t 121 = x121; generalize slot t 122 = x122; generalize slot t 123 = x123; generalize slot t 124 = x124; generalize slot t 125 = x125
                        generalize slot t 126 = x126; generalize slot t 127 = x127; generalize slot t 128 = x128; generalize slot t 129 = x129; generalize slot t 130 = x130; generalize slot t 131 = x131; generalize slot t 132 = x132; generalize slot t 133 = x133; generalize slot t 134 = x134; generalize slot t 135 = x135; generalize slot t 136 = x136; generalize slot t 137 = x137
                        generalize slot t 138 = x138; generalize slot t 139 = x139; generalize slot t 140 = x140
                        clear hsz t
                        have KF := Lib.hid (K9.out.trans hk)
                        clear hk
                        go_wp2_with fail
                        go_ret
                        exact ⟨rfl, K1.out.trans KF.out⟩
                  · have hWW : mayM (n1 : Int) (N : Int) n2 I2 m2 = 2 := by rw [hmay, if_neg fun h => hk2 h.2]
                    replace hk1 := Lib.hid hk1
                    go_wp2_with fail
                    refine wp_region_table [(54, .is (.slice p1 n1 c1)), (55, .is (.int .i64 (n1 : Int))), (56, .is (.pointer (some ⟨w.heap.size + 1, 1, none⟩))), (57, .is (.slice p2 n2 c2)), (58, .is (.int .i64 (n2 : Int))), (59, .is (.bool false)), (60, .is (.bool false)), (61, .is (.pointer (some ⟨w.heap.size + 1, 2, none⟩))), (62, .is (.slice q2 m2 d2)), (63, .is (.int .i64 (m2 : Int))), (64, .is (.pointer (some ⟨w.heap.size + 1, 1, none⟩))), (65, .is (.slice p2 n2 c2)), (66, .is (.pointer (some ⟨w.heap.size + 1, 0, none⟩))), (67, .is (.int .i64 (N : Int))), (68, .is (.int .i64 (needN (qP n2 I2) 0 N : Int))), (69, .is (.bool true)), (70, .is (.bool true))] (by kernel_rfl) (by kernel_rfl) ?_ ?_
                    · refine ⟨fun t w1 hf hk hp => ?_, ?_⟩
                      · have h1 : slot t 1 = .slice p1 n1 c1 := hf 1 (by kernel_rfl)
                        clear hf hp
                        refine stepAt_plain rfl ?_
                        exact stepOK_move _ (.inl rfl) h1
                      refine ⟨fun t w1 hf hk hp => ?_, ?_⟩
                      · have h54 : slot t 54 = .slice p1 n1 c1 := hp 54 (by kernel_rfl)
                        clear hf hp
                        refine stepAt_plain rfl ?_
                        exact stepOK_pure (.int .i64 (n1 : Int)) (execLenStrs w1 rfl h54) rfl
                      refine ⟨fun t w1 hf hk hp => ?_, ?_⟩
                      · have h5 : slot t 5 = .pointer (some ⟨w.heap.size + 1, 0, none⟩) := hf 5 (by kernel_rfl)
                        clear hf hp
                        refine stepAt_plain rfl ?_
                        exact stepOK_pure (.pointer (some ⟨w.heap.size + 1, 1, none⟩)) (execFieldM (w.heap.size + 1) 1 (by omega) w1 rfl h5) rfl
                      refine ⟨fun t w1 hf hk hp => ?_, ?_⟩
                      · have h56 : slot t 56 = .pointer (some ⟨w.heap.size + 1, 1, none⟩) := hp 56 (by kernel_rfl)
                        clear hf hp
                        refine stepAt_plain rfl ?_
                        have hq0 := run_loadIs ((R5.out.kept hk).cell 1)
                        exact stepOK_sem (.slice p2 n2 c2) (by simp only [execOp, evS, h56]) hq0 rfl
                      refine ⟨fun t w1 hf hk hp => ?_, ?_⟩
                      · have h57 : slot t 57 = .slice p2 n2 c2 := hp 57 (by kernel_rfl)
                        clear hf hp
                        refine stepAt_plain rfl ?_
                        exact stepOK_pure (.int .i64 (n2 : Int)) (execLenIs w1 rfl h57) rfl
                      refine ⟨fun t w1 hf hk hp => ?_, ?_⟩
                      · have h55 : slot t 55 = .int .i64 (n1 : Int) := hp 55 (by kernel_rfl)
                        have h58 : slot t 58 = .int .i64 (n2 : Int) := hp 58 (by kernel_rfl)
                        clear hf hp
                        refine stepAt_plain rfl ?_
                        exact stepOK_pure (.bool false) (Eq.trans (execNeI (n1 : Int) (n2 : Int) w1 rfl h55 h58) (by rw [decide_eq_true (by have := hk1.out; omega)]; rfl)) rfl
                      refine ⟨fun t w1 hf hk hp => ?_, ?_⟩
                      · have h59 : slot t 59 = .bool false := hp 59 (by kernel_rfl)
                        clear hf hp
                        refine stepAt_plain rfl ?_
                        exact stepOK_move _ (.inl rfl) h59
                      refine ⟨fun t w1 hf hk hp => ?_, ?_⟩
                      · have h5 : slot t 5 = .pointer (some ⟨w.heap.size + 1, 0, none⟩) := hf 5 (by kernel_rfl)
                        have h60 : slot t 60 = .bool false := hp 60 (by kernel_rfl)
                        clear hf hp
                        refine stepAt_on 60 false (by kernel_rfl) h60 ?_
                        exact stepOK_pure (.pointer (some ⟨w.heap.size + 1, 2, none⟩)) (execFieldM (w.heap.size + 1) 2 (by omega) w1 rfl h5) rfl
                      refine ⟨fun t w1 hf hk hp => ?_, ?_⟩
                      · have h61 : slot t 61 = .pointer (some ⟨w.heap.size + 1, 2, none⟩) := hp 61 (by kernel_rfl)
                        have h60 : slot t 60 = .bool false := hp 60 (by kernel_rfl)
                        clear hf hp
                        refine stepAt_on 60 false (by kernel_rfl) h60 ?_
                        have hq0 := run_loadHs ((R5.out.kept hk).cell 2)
                        exact stepOK_sem (.slice q2 m2 d2) (by simp only [execOp, evS, h61]) hq0 rfl
                      refine ⟨fun t w1 hf hk hp => ?_, ?_⟩
                      · have h62 : slot t 62 = .slice q2 m2 d2 := hp 62 (by kernel_rfl)
                        have h60 : slot t 60 = .bool false := hp 60 (by kernel_rfl)
                        clear hf hp
                        refine stepAt_on 60 false (by kernel_rfl) h60 ?_
                        exact stepOK_pure (.int .i64 (m2 : Int)) (execLenHs w1 rfl h62) rfl
                      refine ⟨fun t w1 hf hk hp => ?_, ?_⟩
                      · have h5 : slot t 5 = .pointer (some ⟨w.heap.size + 1, 0, none⟩) := hf 5 (by kernel_rfl)
                        have h60 : slot t 60 = .bool false := hp 60 (by kernel_rfl)
                        clear hf hp
                        refine stepAt_on 60 false (by kernel_rfl) h60 ?_
                        exact stepOK_pure (.pointer (some ⟨w.heap.size + 1, 1, none⟩)) (execFieldM (w.heap.size + 1) 1 (by omega) w1 rfl h5) rfl
                      refine ⟨fun t w1 hf hk hp => ?_, ?_⟩
                      · have h64 : slot t 64 = .pointer (some ⟨w.heap.size + 1, 1, none⟩) := hp 64 (by kernel_rfl)
                        have h60 : slot t 60 = .bool false := hp 60 (by kernel_rfl)
                        clear hf hp
                        refine stepAt_on 60 false (by kernel_rfl) h60 ?_
                        have hq0 := run_loadIs ((R5.out.kept hk).cell 1)
                        exact stepOK_sem (.slice p2 n2 c2) (by simp only [execOp, evS, h64]) hq0 rfl
                      refine ⟨fun t w1 hf hk hp => ?_, ?_⟩
                      · have h5 : slot t 5 = .pointer (some ⟨w.heap.size + 1, 0, none⟩) := hf 5 (by kernel_rfl)
                        have h60 : slot t 60 = .bool false := hp 60 (by kernel_rfl)
                        clear hf hp
                        refine stepAt_on 60 false (by kernel_rfl) h60 ?_
                        exact stepOK_pure (.pointer (some ⟨w.heap.size + 1, 0, none⟩)) (execFieldM (w.heap.size + 1) 0 (by omega) w1 rfl h5) rfl
                      refine ⟨fun t w1 hf hk hp => ?_, ?_⟩
                      · have h66 : slot t 66 = .pointer (some ⟨w.heap.size + 1, 0, none⟩) := hp 66 (by kernel_rfl)
                        have h60 : slot t 60 = .bool false := hp 60 (by kernel_rfl)
                        clear hf hp
                        refine stepAt_on 60 false (by kernel_rfl) h60 ?_
                        have hq0 := run_loadI ((R5.out.kept hk).cell 0)
                        exact stepOK_sem (.int .i64 (N : Int)) (by simp only [execOp, evS, h66]) hq0 rfl
                      refine ⟨fun t w1 hf hk hp => ?_, ?_⟩
                      · have h65 : slot t 65 = .slice p2 n2 c2 := hp 65 (by kernel_rfl)
                        have h67 : slot t 67 = .int .i64 (N : Int) := hp 67 (by kernel_rfl)
                        have h60 : slot t 60 = .bool false := hp 60 (by kernel_rfl)
                        clear hf hp
                        refine stepAt_on 60 false (by kernel_rfl) h60 ?_
                        refine stepOK_call #[.slice p2 n2 c2, .int .i64 0, .int .i64 (N : Int)] rfl (by simp only [List.map_toArray, List.map_cons, List.map_nil, evS, h65, h67]) (by go_simp) ((hNd.out w1 (HI.out.kept (K0.out.trans hk))).mono fun e w' ⟨he, hk'⟩ => ⟨_, he, Kept.same hk', rfl⟩)
                      refine ⟨fun t w1 hf hk hp => ?_, ?_⟩
                      · have h63 : slot t 63 = .int .i64 (m2 : Int) := hp 63 (by kernel_rfl)
                        have h68 : slot t 68 = .int .i64 (needN (qP n2 I2) 0 N : Int) := hp 68 (by kernel_rfl)
                        have h60 : slot t 60 = .bool false := hp 60 (by kernel_rfl)
                        clear hf hp
                        refine stepAt_on 60 false (by kernel_rfl) h60 ?_
                        exact stepOK_pure (.bool true) (Eq.trans (execNeI (m2 : Int) (needN (qP n2 I2) 0 N : Int) w1 rfl h63 h68) (by rw [decide_eq_false (by omega)]; rfl)) rfl
                      refine ⟨fun t w1 hf hk hp => ?_, ?_⟩
                      · have h60 : slot t 60 = .bool false := hp 60 (by kernel_rfl)
                        have h69 : slot t 69 = .bool true := hp 69 (by kernel_rfl)
                        clear hf hp
                        refine stepAt_plain rfl ?_
                        refine stepOK_pure (.bool true) ?_ rfl
                        simp only [execOp, evS, h60, h69]
                        go_simp
                      exact trivial
                    · intro t w1 hsz hf hk hfacts
                      have h70 : slot t 70 = .bool true := hfacts 16 _ rfl 70 rfl
                      have h1 : slot t 1 = .slice p1 n1 c1 := hf 1 (by kernel_rfl)
                      have h5 : slot t 5 = .pointer (some ⟨w.heap.size + 1, 0, none⟩) := hf 5 (by kernel_rfl)
                      have h3 : slot t 3 = .pointer (some ⟨w.heap.size, 0, none⟩) := hf 3 (by kernel_rfl)
                      have h0 := hf 0 (by kernel_rfl)
                      conv at h0 => rhs; whnf
                      try change slot t 0 = undef at h0
                      have h2 := hf 2 (by kernel_rfl)
                      conv at h2 => rhs; whnf
                      try change slot t 2 = undef at h2
                      have h4 := hf 4 (by kernel_rfl)
                      conv at h4 => rhs; whnf
                      try change slot t 4 = undef at h4
                      have h6 := hf 6 (by kernel_rfl)
                      conv at h6 => rhs; whnf
                      try change slot t 6 = undef at h6
                      have h7 := hf 7 (by kernel_rfl)
                      conv at h7 => rhs; whnf
                      try change slot t 7 = undef at h7
                      have h8 := hf 8 (by kernel_rfl)
                      conv at h8 => rhs; whnf
                      try change slot t 8 = undef at h8
                      have h9 := hf 9 (by kernel_rfl)
                      conv at h9 => rhs; whnf
                      try change slot t 9 = undef at h9
                      have h10 := hf 10 (by kernel_rfl)
                      conv at h10 => rhs; whnf
                      try change slot t 10 = undef at h10
                      have h11 := hf 11 (by kernel_rfl)
                      conv at h11 => rhs; whnf
                      try change slot t 11 = undef at h11
                      have h12 := hf 12 (by kernel_rfl)
                      conv at h12 => rhs; whnf
                      try change slot t 12 = undef at h12
                      have h13 := hf 13 (by kernel_rfl)
                      conv at h13 => rhs; whnf
                      try change slot t 13 = undef at h13
                      have h14 := hf 14 (by kernel_rfl)
                      conv at h14 => rhs; whnf
                      try change slot t 14 = undef at h14
                      have h15 := hf 15 (by kernel_rfl)
                      conv at h15 => rhs; whnf
                      try change slot t 15 = undef at h15
                      have h16 := hf 16 (by kernel_rfl)
                      conv at h16 => rhs; whnf
                      try change slot t 16 = undef at h16
                      have h17 := hf 17 (by kernel_rfl)
                      conv at h17 => rhs; whnf
                      try change slot t 17 = undef at h17
                      have h18 := hf 18 (by kernel_rfl)
                      conv at h18 => rhs; whnf
                      try change slot t 18 = undef at h18
                      have h19 := hf 19 (by kernel_rfl)
                      conv at h19 => rhs; whnf
                      try change slot t 19 = undef at h19
                      have h20 := hf 20 (by kernel_rfl)
                      conv at h20 => rhs; whnf
                      try change slot t 20 = undef at h20
                      have h21 := hf 21 (by kernel_rfl)
                      conv at h21 => rhs; whnf
                      try change slot t 21 = undef at h21
                      have h22 := hf 22 (by kernel_rfl)
                      conv at h22 => rhs; whnf
                      try change slot t 22 = undef at h22
                      have h23 := hf 23 (by kernel_rfl)
                      conv at h23 => rhs; whnf
                      try change slot t 23 = undef at h23
                      have h24 := hf 24 (by kernel_rfl)
                      conv at h24 => rhs; whnf
                      try change slot t 24 = undef at h24
                      have h25 := hf 25 (by kernel_rfl)
                      conv at h25 => rhs; whnf
                      try change slot t 25 = undef at h25
                      have h26 := hf 26 (by kernel_rfl)
                      conv at h26 => rhs; whnf
                      try change slot t 26 = undef at h26
                      have h27 := hf 27 (by kernel_rfl)
                      conv at h27 => rhs; whnf
                      try change slot t 27 = undef at h27
                      have h28 := hf 28 (by kernel_rfl)
                      conv at h28 => rhs; whnf
                      try change slot t 28 = undef at h28
                      have h29 := hf 29 (by kernel_rfl)
                      conv at h29 => rhs; whnf
                      try change slot t 29 = undef at h29
                      have h30 := hf 30 (by kernel_rfl)
                      conv at h30 => rhs; whnf
                      try change slot t 30 = undef at h30
                      have h31 := hf 31 (by kernel_rfl)
                      conv at h31 => rhs; whnf
                      try change slot t 31 = undef at h31
                      have h32 := hf 32 (by kernel_rfl)
                      conv at h32 => rhs; whnf
                      try change slot t 32 = undef at h32
                      have h33 := hf 33 (by kernel_rfl)
                      conv at h33 => rhs; whnf
                      try change slot t 33 = undef at h33
                      have h34 := hf 34 (by kernel_rfl)
                      conv at h34 => rhs; whnf
                      try change slot t 34 = undef at h34
                      have h35 := hf 35 (by kernel_rfl)
                      conv at h35 => rhs; whnf
                      try change slot t 35 = undef at h35
                      have h36 := hf 36 (by kernel_rfl)
                      conv at h36 => rhs; whnf
                      try change slot t 36 = undef at h36
                      have h37 := hf 37 (by kernel_rfl)
                      conv at h37 => rhs; whnf
                      try change slot t 37 = undef at h37
                      have h38 := hf 38 (by kernel_rfl)
                      conv at h38 => rhs; whnf
                      try change slot t 38 = undef at h38
                      have h39 := hf 39 (by kernel_rfl)
                      conv at h39 => rhs; whnf
                      try change slot t 39 = undef at h39
                      have h40 := hf 40 (by kernel_rfl)
                      conv at h40 => rhs; whnf
                      try change slot t 40 = undef at h40
                      have h41 := hf 41 (by kernel_rfl)
                      conv at h41 => rhs; whnf
                      try change slot t 41 = undef at h41
                      have h42 := hf 42 (by kernel_rfl)
                      conv at h42 => rhs; whnf
                      try change slot t 42 = undef at h42
                      have h43 := hf 43 (by kernel_rfl)
                      conv at h43 => rhs; whnf
                      try change slot t 43 = undef at h43
                      have h44 := hf 44 (by kernel_rfl)
                      conv at h44 => rhs; whnf
                      try change slot t 44 = undef at h44
                      have h45 := hf 45 (by kernel_rfl)
                      conv at h45 => rhs; whnf
                      try change slot t 45 = undef at h45
                      have h46 := hf 46 (by kernel_rfl)
                      conv at h46 => rhs; whnf
                      try change slot t 46 = undef at h46
                      have h47 := hf 47 (by kernel_rfl)
                      conv at h47 => rhs; whnf
                      try change slot t 47 = undef at h47
                      have h48 := hf 48 (by kernel_rfl)
                      conv at h48 => rhs; whnf
                      try change slot t 48 = undef at h48
                      have h49 := hf 49 (by kernel_rfl)
                      conv at h49 => rhs; whnf
                      try change slot t 49 = undef at h49
                      have h50 := hf 50 (by kernel_rfl)
                      conv at h50 => rhs; whnf
                      try change slot t 50 = undef at h50
                      have h51 := hf 51 (by kernel_rfl)
                      conv at h51 => rhs; whnf
                      try change slot t 51 = undef at h51
                      have h52 := hf 52 (by kernel_rfl)
                      conv at h52 => rhs; whnf
                      try change slot t 52 = undef at h52
                      have h53 := hf 53 (by kernel_rfl)
                      conv at h53 => rhs; whnf
                      try change slot t 53 = undef at h53
                      have h71 := hf 71 (by kernel_rfl)
                      conv at h71 => rhs; whnf
                      try change slot t 71 = undef at h71
                      have h72 := hf 72 (by kernel_rfl)
                      conv at h72 => rhs; whnf
                      try change slot t 72 = undef at h72
                      have h73 := hf 73 (by kernel_rfl)
                      conv at h73 => rhs; whnf
                      try change slot t 73 = undef at h73
                      have h74 := hf 74 (by kernel_rfl)
                      conv at h74 => rhs; whnf
                      try change slot t 74 = undef at h74
                      have h75 := hf 75 (by kernel_rfl)
                      conv at h75 => rhs; whnf
                      try change slot t 75 = undef at h75
                      have h76 := hf 76 (by kernel_rfl)
                      conv at h76 => rhs; whnf
                      try change slot t 76 = undef at h76
                      have h77 := hf 77 (by kernel_rfl)
                      conv at h77 => rhs; whnf
                      try change slot t 77 = undef at h77
                      have h78 := hf 78 (by kernel_rfl)
                      conv at h78 => rhs; whnf
                      try change slot t 78 = undef at h78
                      have h79 := hf 79 (by kernel_rfl)
                      conv at h79 => rhs; whnf
                      try change slot t 79 = undef at h79
                      have h80 := hf 80 (by kernel_rfl)
                      conv at h80 => rhs; whnf
                      try change slot t 80 = undef at h80
                      have h81 := hf 81 (by kernel_rfl)
                      conv at h81 => rhs; whnf
                      try change slot t 81 = undef at h81
                      have h82 := hf 82 (by kernel_rfl)
                      conv at h82 => rhs; whnf
                      try change slot t 82 = undef at h82
                      have h83 := hf 83 (by kernel_rfl)
                      conv at h83 => rhs; whnf
                      try change slot t 83 = undef at h83
                      have h84 := hf 84 (by kernel_rfl)
                      conv at h84 => rhs; whnf
                      try change slot t 84 = undef at h84
                      have h85 := hf 85 (by kernel_rfl)
                      conv at h85 => rhs; whnf
                      try change slot t 85 = undef at h85
                      have h86 := hf 86 (by kernel_rfl)
                      conv at h86 => rhs; whnf
                      try change slot t 86 = undef at h86
                      have h87 := hf 87 (by kernel_rfl)
                      conv at h87 => rhs; whnf
                      try change slot t 87 = undef at h87
                      have h88 := hf 88 (by kernel_rfl)
                      conv at h88 => rhs; whnf
                      try change slot t 88 = undef at h88
                      have h89 := hf 89 (by kernel_rfl)
                      conv at h89 => rhs; whnf
                      try change slot t 89 = undef at h89
                      have h90 := hf 90 (by kernel_rfl)
                      conv at h90 => rhs; whnf
                      try change slot t 90 = undef at h90
                      have h91 := hf 91 (by kernel_rfl)
                      conv at h91 => rhs; whnf
                      try change slot t 91 = undef at h91
                      have h92 := hf 92 (by kernel_rfl)
                      conv at h92 => rhs; whnf
                      try change slot t 92 = undef at h92
                      have h93 := hf 93 (by kernel_rfl)
                      conv at h93 => rhs; whnf
                      try change slot t 93 = undef at h93
                      have h94 := hf 94 (by kernel_rfl)
                      conv at h94 => rhs; whnf
                      try change slot t 94 = undef at h94
                      have h95 := hf 95 (by kernel_rfl)
                      conv at h95 => rhs; whnf
                      try change slot t 95 = undef at h95
                      have h96 := hf 96 (by kernel_rfl)
                      conv at h96 => rhs; whnf
                      try change slot t 96 = undef at h96
                      have h97 := hf 97 (by kernel_rfl)
                      conv at h97 => rhs; whnf
                      try change slot t 97 = undef at h97
                      have h98 := hf 98 (by kernel_rfl)
                      conv at h98 => rhs; whnf
                      try change slot t 98 = undef at h98
                      have h99 := hf 99 (by kernel_rfl)
                      conv at h99 => rhs; whnf
                      try change slot t 99 = undef at h99
                      have h100 := hf 100 (by kernel_rfl)
                      conv at h100 => rhs; whnf
                      try change slot t 100 = undef at h100
                      have h101 := hf 101 (by kernel_rfl)
                      conv at h101 => rhs; whnf
                      try change slot t 101 = undef at h101
                      have h102 := hf 102 (by kernel_rfl)
                      conv at h102 => rhs; whnf
                      try change slot t 102 = undef at h102
                      have h103 := hf 103 (by kernel_rfl)
                      conv at h103 => rhs; whnf
                      try change slot t 103 = undef at h103
                      have h104 := hf 104 (by kernel_rfl)
                      conv at h104 => rhs; whnf
                      try change slot t 104 = undef at h104
                      have h105 := hf 105 (by kernel_rfl)
                      conv at h105 => rhs; whnf
                      try change slot t 105 = undef at h105
                      have h106 := hf 106 (by kernel_rfl)
                      conv at h106 => rhs; whnf
                      try change slot t 106 = undef at h106
                      have h107 := hf 107 (by kernel_rfl)
                      conv at h107 => rhs; whnf
                      try change slot t 107 = undef at h107
                      have h108 := hf 108 (by kernel_rfl)
                      conv at h108 => rhs; whnf
                      try change slot t 108 = undef at h108
                      have h109 := hf 109 (by kernel_rfl)
                      conv at h109 => rhs; whnf
                      try change slot t 109 = undef at h109
                      have h110 := hf 110 (by kernel_rfl)
                      conv at h110 => rhs; whnf
                      try change slot t 110 = undef at h110
                      have h111 := hf 111 (by kernel_rfl)
                      conv at h111 => rhs; whnf
                      try change slot t 111 = undef at h111
                      have h112 := hf 112 (by kernel_rfl)
                      conv at h112 => rhs; whnf
                      try change slot t 112 = undef at h112
                      have h113 := hf 113 (by kernel_rfl)
                      conv at h113 => rhs; whnf
                      try change slot t 113 = undef at h113
                      have h114 := hf 114 (by kernel_rfl)
                      conv at h114 => rhs; whnf
                      try change slot t 114 = undef at h114
                      have h115 := hf 115 (by kernel_rfl)
                      conv at h115 => rhs; whnf
                      try change slot t 115 = undef at h115
                      have h116 := hf 116 (by kernel_rfl)
                      conv at h116 => rhs; whnf
                      try change slot t 116 = undef at h116
                      have h117 := hf 117 (by kernel_rfl)
                      conv at h117 => rhs; whnf
                      try change slot t 117 = undef at h117
                      have h118 := hf 118 (by kernel_rfl)
                      conv at h118 => rhs; whnf
                      try change slot t 118 = undef at h118
                      have h119 := hf 119 (by kernel_rfl)
                      conv at h119 => rhs; whnf
                      try change slot t 119 = undef at h119
                      have h120 := hf 120 (by kernel_rfl)
                      conv at h120 => rhs; whnf
                      try change slot t 120 = undef at h120
                      have h121 := hf 121 (by kernel_rfl)
                      conv at h121 => rhs; whnf
                      try change slot t 121 = undef at h121
                      have h122 := hf 122 (by kernel_rfl)
                      conv at h122 => rhs; whnf
                      try change slot t 122 = undef at h122
                      have h123 := hf 123 (by kernel_rfl)
                      conv at h123 => rhs; whnf
                      try change slot t 123 = undef at h123
                      have h124 := hf 124 (by kernel_rfl)
                      conv at h124 => rhs; whnf
                      try change slot t 124 = undef at h124
                      have h125 := hf 125 (by kernel_rfl)
                      conv at h125 => rhs; whnf
                      try change slot t 125 = undef at h125
                      have h126 := hf 126 (by kernel_rfl)
                      conv at h126 => rhs; whnf
                      try change slot t 126 = undef at h126
                      have h127 := hf 127 (by kernel_rfl)
                      conv at h127 => rhs; whnf
                      try change slot t 127 = undef at h127
                      have h128 := hf 128 (by kernel_rfl)
                      conv at h128 => rhs; whnf
                      try change slot t 128 = undef at h128
                      have h129 := hf 129 (by kernel_rfl)
                      conv at h129 => rhs; whnf
                      try change slot t 129 = undef at h129
                      have h130 := hf 130 (by kernel_rfl)
                      conv at h130 => rhs; whnf
                      try change slot t 130 = undef at h130
                      have h131 := hf 131 (by kernel_rfl)
                      conv at h131 => rhs; whnf
                      try change slot t 131 = undef at h131
                      have h132 := hf 132 (by kernel_rfl)
                      conv at h132 => rhs; whnf
                      try change slot t 132 = undef at h132
                      have h133 := hf 133 (by kernel_rfl)
                      conv at h133 => rhs; whnf
                      try change slot t 133 = undef at h133
                      have h134 := hf 134 (by kernel_rfl)
                      conv at h134 => rhs; whnf
                      try change slot t 134 = undef at h134
                      have h135 := hf 135 (by kernel_rfl)
                      conv at h135 => rhs; whnf
                      try change slot t 135 = undef at h135
                      have h136 := hf 136 (by kernel_rfl)
                      conv at h136 => rhs; whnf
                      try change slot t 136 = undef at h136
                      have h137 := hf 137 (by kernel_rfl)
                      conv at h137 => rhs; whnf
                      try change slot t 137 = undef at h137
                      have h138 := hf 138 (by kernel_rfl)
                      conv at h138 => rhs; whnf
                      try change slot t 138 = undef at h138
                      have h139 := hf 139 (by kernel_rfl)
                      conv at h139 => rhs; whnf
                      try change slot t 139 = undef at h139
                      have h140 := hf 140 (by kernel_rfl)
                      conv at h140 => rhs; whnf
                      try change slot t 140 = undef at h140
                      have harr : t = #[slot t 0, slot t 1, slot t 2, slot t 3, slot t 4, slot t 5, slot t 6, slot t 7, slot t 8, slot t 9, slot t 10, slot t 11, slot t 12, slot t 13, slot t 14, slot t 15, slot t 16, slot t 17, slot t 18, slot t 19, slot t 20, slot t 21, slot t 22, slot t 23, slot t 24, slot t 25, slot t 26, slot t 27, slot t 28, slot t 29, slot t 30, slot t 31, slot t 32, slot t 33, slot t 34, slot t 35, slot t 36, slot t 37, slot t 38, slot t 39, slot t 40, slot t 41, slot t 42, slot t 43, slot t 44, slot t 45, slot t 46, slot t 47, slot t 48, slot t 49, slot t 50, slot t 51, slot t 52, slot t 53, slot t 54, slot t 55, slot t 56, slot t 57, slot t 58, slot t 59, slot t 60, slot t 61, slot t 62, slot t 63, slot t 64, slot t 65, slot t 66, slot t 67, slot t 68, slot t 69, slot t 70, slot t 71, slot t 72, slot t 73, slot t 74, slot t 75, slot t 76, slot t 77, slot t 78, slot t 79, slot t 80, slot t 81, slot t 82, slot t 83, slot t 84, slot t 85, slot t 86, slot t 87, slot t 88, slot t 89, slot t 90, slot t 91, slot t 92, slot t 93, slot t 94, slot t 95, slot t 96, slot t 97, slot t 98, slot t 99, slot t 100, slot t 101, slot t 102, slot t 103, slot t 104, slot t 105, slot t 106, slot t 107, slot t 108, slot t 109, slot t 110, slot t 111, slot t 112, slot t 113, slot t 114, slot t 115, slot t 116, slot t 117, slot t 118, slot t 119, slot t 120, slot t 121, slot t 122, slot t 123, slot t 124, slot t 125, slot t 126, slot t 127, slot t 128, slot t 129, slot t 130, slot t 131, slot t 132, slot t 133, slot t 134, slot t 135, slot t 136, slot t 137, slot t 138, slot t 139, slot t 140] := arr_eq t 141 hsz
                      rw [harr, h70, h1, h5, h3, h0, h2, h4, h6, h7, h8, h9, h10, h11, h12, h13, h14, h15, h16, h17, h18, h19, h20, h21, h22, h23, h24, h25, h26, h27, h28, h29, h30, h31, h32, h33, h34, h35, h36, h37, h38, h39, h40, h41, h42, h43, h44, h45, h46, h47, h48, h49, h50, h51, h52, h53, h71, h72, h73, h74, h75, h76, h77, h78, h79, h80, h81, h82, h83, h84, h85, h86, h87, h88, h89, h90, h91, h92, h93, h94, h95, h96, h97, h98, h99, h100, h101, h102, h103, h104, h105, h106, h107, h108, h109, h110, h111, h112, h113, h114, h115, h116, h117, h118, h119, h120, h121, h122, h123, h124, h125, h126, h127, h128, h129, h130, h131, h132, h133, h134, h135, h136, h137, h138, h139, h140]
                      clear harr hfacts hf h70 h1 h5 h3 h0 h2 h4 h6 h7 h8 h9 h10 h11 h12 h13 h14 h15 h16 h17 h18 h19 h20 h21 h22 h23 h24 h25 h26 h27 h28 h29 h30 h31 h32 h33 h34 h35 h36 h37 h38 h39 h40 h41 h42 h43 h44 h45 h46 h47 h48 h49 h50 h51 h52 h53 h71 h72 h73 h74 h75 h76 h77 h78 h79 h80 h81 h82 h83 h84 h85 h86 h87 h88 h89 h90 h91 h92 h93 h94 h95 h96 h97 h98 h99 h100 h101 h102 h103 h104 h105 h106 h107 h108 h109 h110 h111 h112 h113 h114 h115 h116 h117 h118 h119 h120 h121 h122 h123 h124 h125 h126 h127 h128 h129 h130 h131 h132 h133 h134 h135 h136 h137 h138 h139 h140
                      generalize slot t 54 = x54; generalize slot t 55 = x55; generalize slot t 56 = x56; generalize slot t 57 = x57; generalize slot t 58 = x58; generalize slot t 59 = x59; generalize slot t 60 = x60; generalize slot t 61 = x61; generalize slot t 62 = x62; generalize slot t 63 = x63; generalize slot t 64 = x64; generalize slot t 65 = x65
                      generalize slot t 66 = x66; generalize slot t 67 = x67; generalize slot t 68 = x68; generalize slot t 69 = x69
                      clear hsz t
                      have K7 := Lib.hid (K0.out.trans hk)
                      replace R3 := Lib.hid (R3.out.kept hk)
                      replace R5 := Lib.hid (R5.out.kept hk)
                      clear hk
                      obtain ⟨v7, hv7⟩ : ∃ v, v = w1 := ⟨_, rfl⟩
                      subst hv7
                      have hW : mayM (n1 : Int) (N : Int) n2 I2 m2 = 2 := hWW
                      have hrt : rtM n1 S1 (N : Int) n2 I2 m2 F2 = zeroH := if_neg (by rw [hW]; decide)
                      have hck : ckM a0 n1 S1 (N : Int) n2 I2 m2 F2 = false := decide_eq_false fun h => by rw [hW] at h; exact absurd h.1 (by decide)
                      have hR8 := hMR.out
                      have hM8 := hMM.out
                      have hC8 := hMC.out a0 n0
                      simp only [hW, hrt, hck] at hR8 hM8 hC8
                      replace hR8 := Lib.hid hR8
                      replace hM8 := Lib.hid hM8
                      replace hC8 := Lib.hid hC8
                      clear hW hrt hck hMR hMM hMC hWW hRis
                      go_wp2_with (refine park_at 73 rfl ?_)
                      refine unpark ?_
                      refine wpList_exec 73 rfl (by rfl) (.agg #[.int .i64 (N : Int), .slice p2 n2 c2, .slice q2 m2 d2]) _ (loadMany rfl rfl R5.out rfl) ?_
                      go_wp2_with fail
                      refine (hR8.out v7 (HS.out.kept K7.out) (HI.out.kept K7.out) (HSl.kept _ _ _ _ _ K7.out HH.out) (HT.out.kept K7.out)).mono ?_
                      rintro e u2 ⟨rfl, k2⟩
                      have K2 := Lib.hid (K7.out.trans k2)
                      replace R3 := Lib.hid (R3.out.kept k2)
                      replace R5 := Lib.hid (R5.out.kept k2)
                      clear k2 hR8
                      go_wp2_with (first
                        | (refine wpList_store_made rfl 38 _ _ rfl _ _ (bC 32 zeroH) rfl rfl 38 _ rfl (info_hash _) (by simp [bC_size]) (bC_one _ _) ?_; intro u3 R8 k3)
                        | (refine park_at 83 rfl ?_))
                      obtain ⟨g8, hg8⟩ : ∃ g, g = u2.heap.size := ⟨_, rfl⟩
                      rw [← hg8] at R8 ⊢
                      clear hg8
                      have K3 := Lib.hid (K2.out.trans k3.out)
                      replace R3 := Lib.hid (R3.out.kept k3.out)
                      replace R5 := Lib.hid (R5.out.kept k3.out)
                      clear k3 K2
                      refine unpark ?_
                      refine wpList_exec 83 rfl (by rfl) (.agg #[.int .i64 (N : Int), .slice p2 n2 c2, .slice q2 m2 d2]) _ (loadMany rfl rfl R5.out rfl) ?_
                      go_wp2_with fail
                      refine (hM8.out u3 (HI.out.kept K3.out)).mono ?_
                      rintro e u4 ⟨rfl, k4⟩
                      replace R3 := Lib.hid (R3.out.kept k4)
                      replace R5 := Lib.hid (R5.out.kept k4)
                      replace R8 := Lib.hid (R8.out.kept k4)
                      have K4 := Lib.hid (K3.out.trans k4)
                      clear k4 K3 hM8
                      go_wp2_with (refine park_at 90 rfl ?_)
                      refine unpark ?_
                      refine wpList_table 14 [(90, .is (.agg (bC 32 zeroH))), (91, .is (.agg (bC 32 zeroH))), (92, .is (.bool true)), (93, .is (.bool true)), (94, .is (.agg (bC 32 a0))), (95, .is (.slice p1 n1 c1)), (96, .is (.agg #[.int .i64 (N : Int), .slice p2 n2 c2, .slice q2 m2 d2])), (97, .is (.bool false)), (98, .is (.bool true)), (99, .is (.bool true)), (100, .is (.bool true)), (101, .is (.bool true)), (102, .is (.bool true)), (6, .is (.bool true))] (by kernel_rfl) ?_ ?_
                      · refine ⟨fun t w1 hf hk hp => ?_, ?_⟩
                        · have h8 : slot t 8 = .pointer (some ⟨g8, 0, none⟩) := hf 8 (by kernel_rfl)
                          clear hf hp
                          refine stepAt_plain rfl ?_
                          exact stepOK_pure (.agg (bC 32 zeroH)) (loadHr rfl h8 (R8.out.kept hk)) rfl
                        refine ⟨fun t w1 hf hk hp => ?_, ?_⟩
                        · clear hf hp
                          refine stepAt_plain rfl ?_
                          exact stepOK_pure (.agg (bC 32 zeroH)) (execBuild0 rfl (by rw [← zero_hashC]; exact run_build0 w1)) rfl
                        refine ⟨fun t w1 hf hk hp => ?_, ?_⟩
                        · have h90 : slot t 90 = .agg (bC 32 zeroH) := hp 90 (by kernel_rfl)
                          have h91 : slot t 91 = .agg (bC 32 zeroH) := hp 91 (by kernel_rfl)
                          clear hf hp
                          refine stepAt_plain rfl ?_
                          exact stepOK_pure (.bool true) (execEqH1 zeroH rfl w1 rfl h90 h91) rfl
                        refine ⟨fun t w1 hf hk hp => ?_, ?_⟩
                        · have h92 : slot t 92 = .bool true := hp 92 (by kernel_rfl)
                          clear hf hp
                          refine stepAt_plain rfl ?_
                          exact stepOK_move _ (.inl rfl) h92
                        refine ⟨fun t w1 hf hk hp => ?_, ?_⟩
                        · have h3 : slot t 3 = .pointer (some ⟨w.heap.size, 0, none⟩) := hf 3 (by kernel_rfl)
                          have h93 : slot t 93 = .bool true := hp 93 (by kernel_rfl)
                          clear hf hp
                          refine stepAt_on 93 true (by kernel_rfl) h93 ?_
                          exact stepOK_pure (.agg (bC 32 a0)) (loadHr rfl h3 (R3.out.kept hk)) rfl
                        refine ⟨fun t w1 hf hk hp => ?_, ?_⟩
                        · have h1 : slot t 1 = .slice p1 n1 c1 := hf 1 (by kernel_rfl)
                          have h93 : slot t 93 = .bool true := hp 93 (by kernel_rfl)
                          clear hf hp
                          refine stepAt_on 93 true (by kernel_rfl) h93 ?_
                          exact stepOK_move _ (.inl rfl) h1
                        refine ⟨fun t w1 hf hk hp => ?_, ?_⟩
                        · have h5 : slot t 5 = .pointer (some ⟨w.heap.size + 1, 0, none⟩) := hf 5 (by kernel_rfl)
                          have h93 : slot t 93 = .bool true := hp 93 (by kernel_rfl)
                          clear hf hp
                          refine stepAt_on 93 true (by kernel_rfl) h93 ?_
                          exact stepOK_pure (.agg #[.int .i64 (N : Int), .slice p2 n2 c2, .slice q2 m2 d2]) (loadMany rfl h5 (R5.out.kept hk) rfl) rfl
                        refine ⟨fun t w1 hf hk hp => ?_, ?_⟩
                        · have h94 : slot t 94 = .agg (bC 32 a0) := hp 94 (by kernel_rfl)
                          have h95 : slot t 95 = .slice p1 n1 c1 := hp 95 (by kernel_rfl)
                          have h96 : slot t 96 = .agg #[.int .i64 (N : Int), .slice p2 n2 c2, .slice q2 m2 d2] := hp 96 (by kernel_rfl)
                          have h93 : slot t 93 = .bool true := hp 93 (by kernel_rfl)
                          clear hf hp
                          refine stepAt_on 93 true (by kernel_rfl) h93 ?_
                          refine stepOK_call #[.agg (bC 32 a0), .slice p1 n1 c1, .agg #[.int .i64 (N : Int), .slice p2 n2 c2, .slice q2 m2 d2]] rfl (by simp only [List.map_toArray, List.map_cons, List.map_nil, evS, h94, h95, h96]) (by go_simp) ((hC8.out w1 (HS.out.kept (K4.out.trans hk)) (HI.out.kept (K4.out.trans hk)) (HSl.kept _ _ _ _ _ (K4.out.trans hk) HH.out) (HT.out.kept (K4.out.trans hk))).mono fun e w' ⟨he, hk'⟩ => ⟨_, he, hk', rfl⟩)
                        refine ⟨fun t w1 hf hk hp => ?_, ?_⟩
                        · have h97 : slot t 97 = .bool false := hp 97 (by kernel_rfl)
                          have h93 : slot t 93 = .bool true := hp 93 (by kernel_rfl)
                          clear hf hp
                          refine stepAt_on 93 true (by kernel_rfl) h93 ?_
                          refine stepOK_pure (.bool true) ?_ rfl
                          simp only [execOp, evS, h97]
                          go_simp
                        refine ⟨fun t w1 hf hk hp => ?_, ?_⟩
                        · have h93 : slot t 93 = .bool true := hp 93 (by kernel_rfl)
                          have h98 : slot t 98 = .bool true := hp 98 (by kernel_rfl)
                          clear hf hp
                          refine stepAt_plain rfl ?_
                          refine stepOK_pure (.bool true) ?_ rfl
                          simp only [execOp, evS, h93, h98]
                          go_simp
                        refine ⟨fun t w1 hf hk hp => ?_, ?_⟩
                        · have h99 : slot t 99 = .bool true := hp 99 (by kernel_rfl)
                          clear hf hp
                          refine stepAt_plain rfl ?_
                          exact stepOK_move _ (.inl rfl) h99
                        refine ⟨fun t w1 hf hk hp => ?_, ?_⟩
                        · have h100 : slot t 100 = .bool true := hp 100 (by kernel_rfl)
                          clear hf hp
                          refine stepAt_on 100 true (by kernel_rfl) h100 ?_
                          refine stepOK_call #[] rfl (by simp only [List.map_toArray, List.map_nil]) (by go_simp) ((HA.out w1).mono fun e w' ⟨he, hk'⟩ => ⟨_, he, hk', rfl⟩)
                        refine ⟨fun t w1 hf hk hp => ?_, ?_⟩
                        · have h100 : slot t 100 = .bool true := hp 100 (by kernel_rfl)
                          have h101 : slot t 101 = .bool true := hp 101 (by kernel_rfl)
                          clear hf hp
                          refine stepAt_plain rfl ?_
                          refine stepOK_pure (.bool true) ?_ rfl
                          simp only [execOp, evS, h100, h101]
                          go_simp
                        refine ⟨fun t w1 hf hk hp => ?_, ?_⟩
                        · have h102 : slot t 102 = .bool true := hp 102 (by kernel_rfl)
                          clear hf hp
                          refine stepAt_plain rfl ?_
                          exact stepOK_move _ (.inr rfl) h102
                        exact trivial
                      · intro t w1 hsz hf hk hfacts
                        have h6 : slot t 6 = .bool true := hfacts 6 (by kernel_rfl)
                        have h1 : slot t 1 = .slice p1 n1 c1 := hf 1 (by kernel_rfl)
                        have h3 : slot t 3 = .pointer (some ⟨w.heap.size, 0, none⟩) := hf 3 (by kernel_rfl)
                        have h5 : slot t 5 = .pointer (some ⟨w.heap.size + 1, 0, none⟩) := hf 5 (by kernel_rfl)
                        have h8 : slot t 8 = .pointer (some ⟨g8, 0, none⟩) := hf 8 (by kernel_rfl)
                        have harr : t = #[slot t 0, slot t 1, slot t 2, slot t 3, slot t 4, slot t 5, slot t 6, slot t 7, slot t 8, slot t 9, slot t 10, slot t 11, slot t 12, slot t 13, slot t 14, slot t 15, slot t 16, slot t 17, slot t 18, slot t 19, slot t 20, slot t 21, slot t 22, slot t 23, slot t 24, slot t 25, slot t 26, slot t 27, slot t 28, slot t 29, slot t 30, slot t 31, slot t 32, slot t 33, slot t 34, slot t 35, slot t 36, slot t 37, slot t 38, slot t 39, slot t 40, slot t 41, slot t 42, slot t 43, slot t 44, slot t 45, slot t 46, slot t 47, slot t 48, slot t 49, slot t 50, slot t 51, slot t 52, slot t 53, slot t 54, slot t 55, slot t 56, slot t 57, slot t 58, slot t 59, slot t 60, slot t 61, slot t 62, slot t 63, slot t 64, slot t 65, slot t 66, slot t 67, slot t 68, slot t 69, slot t 70, slot t 71, slot t 72, slot t 73, slot t 74, slot t 75, slot t 76, slot t 77, slot t 78, slot t 79, slot t 80, slot t 81, slot t 82, slot t 83, slot t 84, slot t 85, slot t 86, slot t 87, slot t 88, slot t 89, slot t 90, slot t 91, slot t 92, slot t 93, slot t 94, slot t 95, slot t 96, slot t 97, slot t 98, slot t 99, slot t 100, slot t 101, slot t 102, slot t 103, slot t 104, slot t 105, slot t 106, slot t 107, slot t 108, slot t 109, slot t 110, slot t 111, slot t 112, slot t 113, slot t 114, slot t 115, slot t 116, slot t 117, slot t 118, slot t 119, slot t 120, slot t 121, slot t 122, slot t 123, slot t 124, slot t 125, slot t 126, slot t 127, slot t 128, slot t 129, slot t 130, slot t 131, slot t 132, slot t 133, slot t 134, slot t 135, slot t 136, slot t 137, slot t 138, slot t 139, slot t 140] := arr_eq t 141 hsz
                        rw [harr, h6, h1, h3, h5, h8]
                        clear harr hfacts hf h6 h1 h3 h5 h8
                        generalize slot t 0 = x0; generalize slot t 2 = x2; generalize slot t 4 = x4; generalize slot t 7 = x7; generalize slot t 9 = x9; generalize slot t 10 = x10; generalize slot t 11 = x11; generalize slot t 12 = x12; generalize slot t 13 = x13; generalize slot t 14 = x14; generalize slot t 15 = x15; generalize slot t 16 = x16
                        generalize slot t 17 = x17; generalize slot t 18 = x18; generalize slot t 19 = x19; generalize slot t 20 = x20; generalize slot t 21 = x21; generalize slot t 22 = x22; generalize slot t 23 = x23; generalize slot t 24 = x24; generalize slot t 25 = x25; generalize slot t 26 = x26; generalize slot t 27 = x27; generalize slot t 28 = x28
                        generalize slot t 29 = x29; generalize slot t 30 = x30; generalize slot t 31 = x31; generalize slot t 32 = x32; generalize slot t 33 = x33; generalize slot t 34 = x34; generalize slot t 35 = x35; generalize slot t 36 = x36; generalize slot t 37 = x37; generalize slot t 38 = x38; generalize slot t 39 = x39; generalize slot t 40 = x40
                        generalize slot t 41 = x41; generalize slot t 42 = x42; generalize slot t 43 = x43; generalize slot t 44 = x44; generalize slot t 45 = x45; generalize slot t 46 = x46; generalize slot t 47 = x47; generalize slot t 48 = x48; generalize slot t 49 = x49; generalize slot t 50 = x50; generalize slot t 51 = x51; generalize slot t 52 = x52
                        generalize slot t 53 = x53; generalize slot t 54 = x54; generalize slot t 55 = x55; generalize slot t 56 = x56; generalize slot t 57 = x57; generalize slot t 58 = x58; generalize slot t 59 = x59; generalize slot t 60 = x60; generalize slot t 61 = x61; generalize slot t 62 = x62; generalize slot t 63 = x63; generalize slot t 64 = x64
                        generalize slot t 65 = x65; generalize slot t 66 = x66; generalize slot t 67 = x67; generalize slot t 68 = x68; generalize slot t 69 = x69; generalize slot t 70 = x70; generalize slot t 71 = x71; generalize slot t 72 = x72; generalize slot t 73 = x73; generalize slot t 74 = x74; generalize slot t 75 = x75; generalize slot t 76 = x76
                        generalize slot t 77 = x77; generalize slot t 78 = x78; generalize slot t 79 = x79; generalize slot t 80 = x80; generalize slot t 81 = x81; generalize slot t 82 = x82; generalize slot t 83 = x83; generalize slot t 84 = x84; generalize slot t 85 = x85; generalize slot t 86 = x86; generalize slot t 87 = x87; generalize slot t 88 = x88
                        generalize slot t 89 = x89; generalize slot t 90 = x90; generalize slot t 91 = x91; generalize slot t 92 = x92; generalize slot t 93 = x93; generalize slot t 94 = x94; generalize slot t 95 = x95; generalize slot t 96 = x96; generalize slot t 97 = x97; generalize slot t 98 = x98; generalize slot t 99 = x99; generalize slot t 100 = x100
                        generalize slot t 101 = x101; generalize slot t 102 = x102; generalize slot t 103 = x103; generalize slot t 104 = x104; generalize slot t 105 = x105; generalize slot t 106 = x106; generalize slot t 107 = x107; generalize slot t 108 = x108; generalize slot t 109 = x109; generalize slot t 110 = x110; generalize slot t 111 = x111; generalize slot t 112 = x112
                        generalize slot t 113 = x113; generalize slot t 114 = x114; generalize slot t 115 = x115; generalize slot t 116 = x116; generalize slot t 117 = x117; generalize slot t 118 = x118; generalize slot t 119 = x119; generalize slot t 120 = x120; generalize slot t 121 = x121; generalize slot t 122 = x122; generalize slot t 123 = x123; generalize slot t 124 = x124
                        generalize slot t 125 = x125; generalize slot t 126 = x126; generalize slot t 127 = x127; generalize slot t 128 = x128; generalize slot t 129 = x129; generalize slot t 130 = x130; generalize slot t 131 = x131; generalize slot t 132 = x132; generalize slot t 133 = x133; generalize slot t 134 = x134; generalize slot t 135 = x135; generalize slot t 136 = x136
                        generalize slot t 137 = x137; generalize slot t 138 = x138; generalize slot t 139 = x139; generalize slot t 140 = x140
                        clear hsz t
                        simp only [List.drop_succ_cons, List.drop_zero]
                        have K5 := Lib.hid (K4.out.trans hk)
                        clear hk
                        go_wp2_with fail
                        go_ret
                        exact ⟨rfl, K1.out.trans K5.out⟩
                · have hWW : mayM (n1 : Int) (N : Int) n2 I2 m2 = 2 := by rw [hmay, if_neg fun h => hk1 h.1]
                  go_wp2_with fail
                  refine wp_region_table [(54, .is (.slice p1 n1 c1)), (55, .is (.int .i64 (n1 : Int))), (56, .is (.pointer (some ⟨w.heap.size + 1, 1, none⟩))), (57, .is (.slice p2 n2 c2)), (58, .is (.int .i64 (n2 : Int))), (59, .is (.bool true)), (60, .is (.bool true)), (61, .is (undef)), (62, .is (undef)), (63, .is (undef)), (64, .is (undef)), (65, .is (undef)), (66, .is (undef)), (67, .is (undef)), (68, .is (undef)), (69, .is (undef)), (70, .is (.bool true))] (by kernel_rfl) (by kernel_rfl) ?_ ?_
                  · refine ⟨fun t w1 hf hk hp => ?_, ?_⟩
                    · have h1 : slot t 1 = .slice p1 n1 c1 := hf 1 (by kernel_rfl)
                      clear hf hp
                      refine stepAt_plain rfl ?_
                      exact stepOK_move _ (.inl rfl) h1
                    refine ⟨fun t w1 hf hk hp => ?_, ?_⟩
                    · have h54 : slot t 54 = .slice p1 n1 c1 := hp 54 (by kernel_rfl)
                      clear hf hp
                      refine stepAt_plain rfl ?_
                      exact stepOK_pure (.int .i64 (n1 : Int)) (execLenStrs w1 rfl h54) rfl
                    refine ⟨fun t w1 hf hk hp => ?_, ?_⟩
                    · have h5 : slot t 5 = .pointer (some ⟨w.heap.size + 1, 0, none⟩) := hf 5 (by kernel_rfl)
                      clear hf hp
                      refine stepAt_plain rfl ?_
                      exact stepOK_pure (.pointer (some ⟨w.heap.size + 1, 1, none⟩)) (execFieldM (w.heap.size + 1) 1 (by omega) w1 rfl h5) rfl
                    refine ⟨fun t w1 hf hk hp => ?_, ?_⟩
                    · have h56 : slot t 56 = .pointer (some ⟨w.heap.size + 1, 1, none⟩) := hp 56 (by kernel_rfl)
                      clear hf hp
                      refine stepAt_plain rfl ?_
                      have hq0 := run_loadIs ((R5.out.kept hk).cell 1)
                      exact stepOK_sem (.slice p2 n2 c2) (by simp only [execOp, evS, h56]) hq0 rfl
                    refine ⟨fun t w1 hf hk hp => ?_, ?_⟩
                    · have h57 : slot t 57 = .slice p2 n2 c2 := hp 57 (by kernel_rfl)
                      clear hf hp
                      refine stepAt_plain rfl ?_
                      exact stepOK_pure (.int .i64 (n2 : Int)) (execLenIs w1 rfl h57) rfl
                    refine ⟨fun t w1 hf hk hp => ?_, ?_⟩
                    · have h55 : slot t 55 = .int .i64 (n1 : Int) := hp 55 (by kernel_rfl)
                      have h58 : slot t 58 = .int .i64 (n2 : Int) := hp 58 (by kernel_rfl)
                      clear hf hp
                      refine stepAt_plain rfl ?_
                      exact stepOK_pure (.bool true) (Eq.trans (execNeI (n1 : Int) (n2 : Int) w1 rfl h55 h58) (by rw [decide_eq_false (by omega)]; rfl)) rfl
                    refine ⟨fun t w1 hf hk hp => ?_, ?_⟩
                    · have h59 : slot t 59 = .bool true := hp 59 (by kernel_rfl)
                      clear hf hp
                      refine stepAt_plain rfl ?_
                      exact stepOK_move _ (.inl rfl) h59
                    refine ⟨fun t w1 hf hk hp => ?_, ?_⟩
                    · have h60 : slot t 60 = .bool true := hp 60 (by kernel_rfl)
                      clear hf hp
                      exact stepAt_off 60 false (by kernel_rfl) h60 rfl
                    refine ⟨fun t w1 hf hk hp => ?_, ?_⟩
                    · have h60 : slot t 60 = .bool true := hp 60 (by kernel_rfl)
                      clear hf hp
                      exact stepAt_off 60 false (by kernel_rfl) h60 rfl
                    refine ⟨fun t w1 hf hk hp => ?_, ?_⟩
                    · have h60 : slot t 60 = .bool true := hp 60 (by kernel_rfl)
                      clear hf hp
                      exact stepAt_off 60 false (by kernel_rfl) h60 rfl
                    refine ⟨fun t w1 hf hk hp => ?_, ?_⟩
                    · have h60 : slot t 60 = .bool true := hp 60 (by kernel_rfl)
                      clear hf hp
                      exact stepAt_off 60 false (by kernel_rfl) h60 rfl
                    refine ⟨fun t w1 hf hk hp => ?_, ?_⟩
                    · have h60 : slot t 60 = .bool true := hp 60 (by kernel_rfl)
                      clear hf hp
                      exact stepAt_off 60 false (by kernel_rfl) h60 rfl
                    refine ⟨fun t w1 hf hk hp => ?_, ?_⟩
                    · have h60 : slot t 60 = .bool true := hp 60 (by kernel_rfl)
                      clear hf hp
                      exact stepAt_off 60 false (by kernel_rfl) h60 rfl
                    refine ⟨fun t w1 hf hk hp => ?_, ?_⟩
                    · have h60 : slot t 60 = .bool true := hp 60 (by kernel_rfl)
                      clear hf hp
                      exact stepAt_off 60 false (by kernel_rfl) h60 rfl
                    refine ⟨fun t w1 hf hk hp => ?_, ?_⟩
                    · have h60 : slot t 60 = .bool true := hp 60 (by kernel_rfl)
                      clear hf hp
                      exact stepAt_off 60 false (by kernel_rfl) h60 rfl
                    refine ⟨fun t w1 hf hk hp => ?_, ?_⟩
                    · have h60 : slot t 60 = .bool true := hp 60 (by kernel_rfl)
                      clear hf hp
                      exact stepAt_off 60 false (by kernel_rfl) h60 rfl
                    refine ⟨fun t w1 hf hk hp => ?_, ?_⟩
                    · have h60 : slot t 60 = .bool true := hp 60 (by kernel_rfl)
                      have h69 : slot t 69 = undef := hp 69 (by kernel_rfl)
                      clear hf hp
                      refine stepAt_plain rfl ?_
                      refine stepOK_pure (.bool true) ?_ rfl
                      simp only [execOp, evS, h60, h69]
                      go_simp
                    exact trivial
                  · intro t w1 hsz hf hk hfacts
                    have h70 : slot t 70 = .bool true := hfacts 16 _ rfl 70 rfl
                    have h1 : slot t 1 = .slice p1 n1 c1 := hf 1 (by kernel_rfl)
                    have h5 : slot t 5 = .pointer (some ⟨w.heap.size + 1, 0, none⟩) := hf 5 (by kernel_rfl)
                    have h3 : slot t 3 = .pointer (some ⟨w.heap.size, 0, none⟩) := hf 3 (by kernel_rfl)
                    have h0 := hf 0 (by kernel_rfl)
                    conv at h0 => rhs; whnf
                    try change slot t 0 = undef at h0
                    have h2 := hf 2 (by kernel_rfl)
                    conv at h2 => rhs; whnf
                    try change slot t 2 = undef at h2
                    have h4 := hf 4 (by kernel_rfl)
                    conv at h4 => rhs; whnf
                    try change slot t 4 = undef at h4
                    have h6 := hf 6 (by kernel_rfl)
                    conv at h6 => rhs; whnf
                    try change slot t 6 = undef at h6
                    have h7 := hf 7 (by kernel_rfl)
                    conv at h7 => rhs; whnf
                    try change slot t 7 = undef at h7
                    have h8 := hf 8 (by kernel_rfl)
                    conv at h8 => rhs; whnf
                    try change slot t 8 = undef at h8
                    have h9 := hf 9 (by kernel_rfl)
                    conv at h9 => rhs; whnf
                    try change slot t 9 = undef at h9
                    have h10 := hf 10 (by kernel_rfl)
                    conv at h10 => rhs; whnf
                    try change slot t 10 = undef at h10
                    have h11 := hf 11 (by kernel_rfl)
                    conv at h11 => rhs; whnf
                    try change slot t 11 = undef at h11
                    have h12 := hf 12 (by kernel_rfl)
                    conv at h12 => rhs; whnf
                    try change slot t 12 = undef at h12
                    have h13 := hf 13 (by kernel_rfl)
                    conv at h13 => rhs; whnf
                    try change slot t 13 = undef at h13
                    have h14 := hf 14 (by kernel_rfl)
                    conv at h14 => rhs; whnf
                    try change slot t 14 = undef at h14
                    have h15 := hf 15 (by kernel_rfl)
                    conv at h15 => rhs; whnf
                    try change slot t 15 = undef at h15
                    have h16 := hf 16 (by kernel_rfl)
                    conv at h16 => rhs; whnf
                    try change slot t 16 = undef at h16
                    have h17 := hf 17 (by kernel_rfl)
                    conv at h17 => rhs; whnf
                    try change slot t 17 = undef at h17
                    have h18 := hf 18 (by kernel_rfl)
                    conv at h18 => rhs; whnf
                    try change slot t 18 = undef at h18
                    have h19 := hf 19 (by kernel_rfl)
                    conv at h19 => rhs; whnf
                    try change slot t 19 = undef at h19
                    have h20 := hf 20 (by kernel_rfl)
                    conv at h20 => rhs; whnf
                    try change slot t 20 = undef at h20
                    have h21 := hf 21 (by kernel_rfl)
                    conv at h21 => rhs; whnf
                    try change slot t 21 = undef at h21
                    have h22 := hf 22 (by kernel_rfl)
                    conv at h22 => rhs; whnf
                    try change slot t 22 = undef at h22
                    have h23 := hf 23 (by kernel_rfl)
                    conv at h23 => rhs; whnf
                    try change slot t 23 = undef at h23
                    have h24 := hf 24 (by kernel_rfl)
                    conv at h24 => rhs; whnf
                    try change slot t 24 = undef at h24
                    have h25 := hf 25 (by kernel_rfl)
                    conv at h25 => rhs; whnf
                    try change slot t 25 = undef at h25
                    have h26 := hf 26 (by kernel_rfl)
                    conv at h26 => rhs; whnf
                    try change slot t 26 = undef at h26
                    have h27 := hf 27 (by kernel_rfl)
                    conv at h27 => rhs; whnf
                    try change slot t 27 = undef at h27
                    have h28 := hf 28 (by kernel_rfl)
                    conv at h28 => rhs; whnf
                    try change slot t 28 = undef at h28
                    have h29 := hf 29 (by kernel_rfl)
                    conv at h29 => rhs; whnf
                    try change slot t 29 = undef at h29
                    have h30 := hf 30 (by kernel_rfl)
                    conv at h30 => rhs; whnf
                    try change slot t 30 = undef at h30
                    have h31 := hf 31 (by kernel_rfl)
                    conv at h31 => rhs; whnf
                    try change slot t 31 = undef at h31
                    have h32 := hf 32 (by kernel_rfl)
                    conv at h32 => rhs; whnf
                    try change slot t 32 = undef at h32
                    have h33 := hf 33 (by kernel_rfl)
                    conv at h33 => rhs; whnf
                    try change slot t 33 = undef at h33
                    have h34 := hf 34 (by kernel_rfl)
                    conv at h34 => rhs; whnf
                    try change slot t 34 = undef at h34
                    have h35 := hf 35 (by kernel_rfl)
                    conv at h35 => rhs; whnf
                    try change slot t 35 = undef at h35
                    have h36 := hf 36 (by kernel_rfl)
                    conv at h36 => rhs; whnf
                    try change slot t 36 = undef at h36
                    have h37 := hf 37 (by kernel_rfl)
                    conv at h37 => rhs; whnf
                    try change slot t 37 = undef at h37
                    have h38 := hf 38 (by kernel_rfl)
                    conv at h38 => rhs; whnf
                    try change slot t 38 = undef at h38
                    have h39 := hf 39 (by kernel_rfl)
                    conv at h39 => rhs; whnf
                    try change slot t 39 = undef at h39
                    have h40 := hf 40 (by kernel_rfl)
                    conv at h40 => rhs; whnf
                    try change slot t 40 = undef at h40
                    have h41 := hf 41 (by kernel_rfl)
                    conv at h41 => rhs; whnf
                    try change slot t 41 = undef at h41
                    have h42 := hf 42 (by kernel_rfl)
                    conv at h42 => rhs; whnf
                    try change slot t 42 = undef at h42
                    have h43 := hf 43 (by kernel_rfl)
                    conv at h43 => rhs; whnf
                    try change slot t 43 = undef at h43
                    have h44 := hf 44 (by kernel_rfl)
                    conv at h44 => rhs; whnf
                    try change slot t 44 = undef at h44
                    have h45 := hf 45 (by kernel_rfl)
                    conv at h45 => rhs; whnf
                    try change slot t 45 = undef at h45
                    have h46 := hf 46 (by kernel_rfl)
                    conv at h46 => rhs; whnf
                    try change slot t 46 = undef at h46
                    have h47 := hf 47 (by kernel_rfl)
                    conv at h47 => rhs; whnf
                    try change slot t 47 = undef at h47
                    have h48 := hf 48 (by kernel_rfl)
                    conv at h48 => rhs; whnf
                    try change slot t 48 = undef at h48
                    have h49 := hf 49 (by kernel_rfl)
                    conv at h49 => rhs; whnf
                    try change slot t 49 = undef at h49
                    have h50 := hf 50 (by kernel_rfl)
                    conv at h50 => rhs; whnf
                    try change slot t 50 = undef at h50
                    have h51 := hf 51 (by kernel_rfl)
                    conv at h51 => rhs; whnf
                    try change slot t 51 = undef at h51
                    have h52 := hf 52 (by kernel_rfl)
                    conv at h52 => rhs; whnf
                    try change slot t 52 = undef at h52
                    have h53 := hf 53 (by kernel_rfl)
                    conv at h53 => rhs; whnf
                    try change slot t 53 = undef at h53
                    have h71 := hf 71 (by kernel_rfl)
                    conv at h71 => rhs; whnf
                    try change slot t 71 = undef at h71
                    have h72 := hf 72 (by kernel_rfl)
                    conv at h72 => rhs; whnf
                    try change slot t 72 = undef at h72
                    have h73 := hf 73 (by kernel_rfl)
                    conv at h73 => rhs; whnf
                    try change slot t 73 = undef at h73
                    have h74 := hf 74 (by kernel_rfl)
                    conv at h74 => rhs; whnf
                    try change slot t 74 = undef at h74
                    have h75 := hf 75 (by kernel_rfl)
                    conv at h75 => rhs; whnf
                    try change slot t 75 = undef at h75
                    have h76 := hf 76 (by kernel_rfl)
                    conv at h76 => rhs; whnf
                    try change slot t 76 = undef at h76
                    have h77 := hf 77 (by kernel_rfl)
                    conv at h77 => rhs; whnf
                    try change slot t 77 = undef at h77
                    have h78 := hf 78 (by kernel_rfl)
                    conv at h78 => rhs; whnf
                    try change slot t 78 = undef at h78
                    have h79 := hf 79 (by kernel_rfl)
                    conv at h79 => rhs; whnf
                    try change slot t 79 = undef at h79
                    have h80 := hf 80 (by kernel_rfl)
                    conv at h80 => rhs; whnf
                    try change slot t 80 = undef at h80
                    have h81 := hf 81 (by kernel_rfl)
                    conv at h81 => rhs; whnf
                    try change slot t 81 = undef at h81
                    have h82 := hf 82 (by kernel_rfl)
                    conv at h82 => rhs; whnf
                    try change slot t 82 = undef at h82
                    have h83 := hf 83 (by kernel_rfl)
                    conv at h83 => rhs; whnf
                    try change slot t 83 = undef at h83
                    have h84 := hf 84 (by kernel_rfl)
                    conv at h84 => rhs; whnf
                    try change slot t 84 = undef at h84
                    have h85 := hf 85 (by kernel_rfl)
                    conv at h85 => rhs; whnf
                    try change slot t 85 = undef at h85
                    have h86 := hf 86 (by kernel_rfl)
                    conv at h86 => rhs; whnf
                    try change slot t 86 = undef at h86
                    have h87 := hf 87 (by kernel_rfl)
                    conv at h87 => rhs; whnf
                    try change slot t 87 = undef at h87
                    have h88 := hf 88 (by kernel_rfl)
                    conv at h88 => rhs; whnf
                    try change slot t 88 = undef at h88
                    have h89 := hf 89 (by kernel_rfl)
                    conv at h89 => rhs; whnf
                    try change slot t 89 = undef at h89
                    have h90 := hf 90 (by kernel_rfl)
                    conv at h90 => rhs; whnf
                    try change slot t 90 = undef at h90
                    have h91 := hf 91 (by kernel_rfl)
                    conv at h91 => rhs; whnf
                    try change slot t 91 = undef at h91
                    have h92 := hf 92 (by kernel_rfl)
                    conv at h92 => rhs; whnf
                    try change slot t 92 = undef at h92
                    have h93 := hf 93 (by kernel_rfl)
                    conv at h93 => rhs; whnf
                    try change slot t 93 = undef at h93
                    have h94 := hf 94 (by kernel_rfl)
                    conv at h94 => rhs; whnf
                    try change slot t 94 = undef at h94
                    have h95 := hf 95 (by kernel_rfl)
                    conv at h95 => rhs; whnf
                    try change slot t 95 = undef at h95
                    have h96 := hf 96 (by kernel_rfl)
                    conv at h96 => rhs; whnf
                    try change slot t 96 = undef at h96
                    have h97 := hf 97 (by kernel_rfl)
                    conv at h97 => rhs; whnf
                    try change slot t 97 = undef at h97
                    have h98 := hf 98 (by kernel_rfl)
                    conv at h98 => rhs; whnf
                    try change slot t 98 = undef at h98
                    have h99 := hf 99 (by kernel_rfl)
                    conv at h99 => rhs; whnf
                    try change slot t 99 = undef at h99
                    have h100 := hf 100 (by kernel_rfl)
                    conv at h100 => rhs; whnf
                    try change slot t 100 = undef at h100
                    have h101 := hf 101 (by kernel_rfl)
                    conv at h101 => rhs; whnf
                    try change slot t 101 = undef at h101
                    have h102 := hf 102 (by kernel_rfl)
                    conv at h102 => rhs; whnf
                    try change slot t 102 = undef at h102
                    have h103 := hf 103 (by kernel_rfl)
                    conv at h103 => rhs; whnf
                    try change slot t 103 = undef at h103
                    have h104 := hf 104 (by kernel_rfl)
                    conv at h104 => rhs; whnf
                    try change slot t 104 = undef at h104
                    have h105 := hf 105 (by kernel_rfl)
                    conv at h105 => rhs; whnf
                    try change slot t 105 = undef at h105
                    have h106 := hf 106 (by kernel_rfl)
                    conv at h106 => rhs; whnf
                    try change slot t 106 = undef at h106
                    have h107 := hf 107 (by kernel_rfl)
                    conv at h107 => rhs; whnf
                    try change slot t 107 = undef at h107
                    have h108 := hf 108 (by kernel_rfl)
                    conv at h108 => rhs; whnf
                    try change slot t 108 = undef at h108
                    have h109 := hf 109 (by kernel_rfl)
                    conv at h109 => rhs; whnf
                    try change slot t 109 = undef at h109
                    have h110 := hf 110 (by kernel_rfl)
                    conv at h110 => rhs; whnf
                    try change slot t 110 = undef at h110
                    have h111 := hf 111 (by kernel_rfl)
                    conv at h111 => rhs; whnf
                    try change slot t 111 = undef at h111
                    have h112 := hf 112 (by kernel_rfl)
                    conv at h112 => rhs; whnf
                    try change slot t 112 = undef at h112
                    have h113 := hf 113 (by kernel_rfl)
                    conv at h113 => rhs; whnf
                    try change slot t 113 = undef at h113
                    have h114 := hf 114 (by kernel_rfl)
                    conv at h114 => rhs; whnf
                    try change slot t 114 = undef at h114
                    have h115 := hf 115 (by kernel_rfl)
                    conv at h115 => rhs; whnf
                    try change slot t 115 = undef at h115
                    have h116 := hf 116 (by kernel_rfl)
                    conv at h116 => rhs; whnf
                    try change slot t 116 = undef at h116
                    have h117 := hf 117 (by kernel_rfl)
                    conv at h117 => rhs; whnf
                    try change slot t 117 = undef at h117
                    have h118 := hf 118 (by kernel_rfl)
                    conv at h118 => rhs; whnf
                    try change slot t 118 = undef at h118
                    have h119 := hf 119 (by kernel_rfl)
                    conv at h119 => rhs; whnf
                    try change slot t 119 = undef at h119
                    have h120 := hf 120 (by kernel_rfl)
                    conv at h120 => rhs; whnf
                    try change slot t 120 = undef at h120
                    have h121 := hf 121 (by kernel_rfl)
                    conv at h121 => rhs; whnf
                    try change slot t 121 = undef at h121
                    have h122 := hf 122 (by kernel_rfl)
                    conv at h122 => rhs; whnf
                    try change slot t 122 = undef at h122
                    have h123 := hf 123 (by kernel_rfl)
                    conv at h123 => rhs; whnf
                    try change slot t 123 = undef at h123
                    have h124 := hf 124 (by kernel_rfl)
                    conv at h124 => rhs; whnf
                    try change slot t 124 = undef at h124
                    have h125 := hf 125 (by kernel_rfl)
                    conv at h125 => rhs; whnf
                    try change slot t 125 = undef at h125
                    have h126 := hf 126 (by kernel_rfl)
                    conv at h126 => rhs; whnf
                    try change slot t 126 = undef at h126
                    have h127 := hf 127 (by kernel_rfl)
                    conv at h127 => rhs; whnf
                    try change slot t 127 = undef at h127
                    have h128 := hf 128 (by kernel_rfl)
                    conv at h128 => rhs; whnf
                    try change slot t 128 = undef at h128
                    have h129 := hf 129 (by kernel_rfl)
                    conv at h129 => rhs; whnf
                    try change slot t 129 = undef at h129
                    have h130 := hf 130 (by kernel_rfl)
                    conv at h130 => rhs; whnf
                    try change slot t 130 = undef at h130
                    have h131 := hf 131 (by kernel_rfl)
                    conv at h131 => rhs; whnf
                    try change slot t 131 = undef at h131
                    have h132 := hf 132 (by kernel_rfl)
                    conv at h132 => rhs; whnf
                    try change slot t 132 = undef at h132
                    have h133 := hf 133 (by kernel_rfl)
                    conv at h133 => rhs; whnf
                    try change slot t 133 = undef at h133
                    have h134 := hf 134 (by kernel_rfl)
                    conv at h134 => rhs; whnf
                    try change slot t 134 = undef at h134
                    have h135 := hf 135 (by kernel_rfl)
                    conv at h135 => rhs; whnf
                    try change slot t 135 = undef at h135
                    have h136 := hf 136 (by kernel_rfl)
                    conv at h136 => rhs; whnf
                    try change slot t 136 = undef at h136
                    have h137 := hf 137 (by kernel_rfl)
                    conv at h137 => rhs; whnf
                    try change slot t 137 = undef at h137
                    have h138 := hf 138 (by kernel_rfl)
                    conv at h138 => rhs; whnf
                    try change slot t 138 = undef at h138
                    have h139 := hf 139 (by kernel_rfl)
                    conv at h139 => rhs; whnf
                    try change slot t 139 = undef at h139
                    have h140 := hf 140 (by kernel_rfl)
                    conv at h140 => rhs; whnf
                    try change slot t 140 = undef at h140
                    have harr : t = #[slot t 0, slot t 1, slot t 2, slot t 3, slot t 4, slot t 5, slot t 6, slot t 7, slot t 8, slot t 9, slot t 10, slot t 11, slot t 12, slot t 13, slot t 14, slot t 15, slot t 16, slot t 17, slot t 18, slot t 19, slot t 20, slot t 21, slot t 22, slot t 23, slot t 24, slot t 25, slot t 26, slot t 27, slot t 28, slot t 29, slot t 30, slot t 31, slot t 32, slot t 33, slot t 34, slot t 35, slot t 36, slot t 37, slot t 38, slot t 39, slot t 40, slot t 41, slot t 42, slot t 43, slot t 44, slot t 45, slot t 46, slot t 47, slot t 48, slot t 49, slot t 50, slot t 51, slot t 52, slot t 53, slot t 54, slot t 55, slot t 56, slot t 57, slot t 58, slot t 59, slot t 60, slot t 61, slot t 62, slot t 63, slot t 64, slot t 65, slot t 66, slot t 67, slot t 68, slot t 69, slot t 70, slot t 71, slot t 72, slot t 73, slot t 74, slot t 75, slot t 76, slot t 77, slot t 78, slot t 79, slot t 80, slot t 81, slot t 82, slot t 83, slot t 84, slot t 85, slot t 86, slot t 87, slot t 88, slot t 89, slot t 90, slot t 91, slot t 92, slot t 93, slot t 94, slot t 95, slot t 96, slot t 97, slot t 98, slot t 99, slot t 100, slot t 101, slot t 102, slot t 103, slot t 104, slot t 105, slot t 106, slot t 107, slot t 108, slot t 109, slot t 110, slot t 111, slot t 112, slot t 113, slot t 114, slot t 115, slot t 116, slot t 117, slot t 118, slot t 119, slot t 120, slot t 121, slot t 122, slot t 123, slot t 124, slot t 125, slot t 126, slot t 127, slot t 128, slot t 129, slot t 130, slot t 131, slot t 132, slot t 133, slot t 134, slot t 135, slot t 136, slot t 137, slot t 138, slot t 139, slot t 140] := arr_eq t 141 hsz
                    rw [harr, h70, h1, h5, h3, h0, h2, h4, h6, h7, h8, h9, h10, h11, h12, h13, h14, h15, h16, h17, h18, h19, h20, h21, h22, h23, h24, h25, h26, h27, h28, h29, h30, h31, h32, h33, h34, h35, h36, h37, h38, h39, h40, h41, h42, h43, h44, h45, h46, h47, h48, h49, h50, h51, h52, h53, h71, h72, h73, h74, h75, h76, h77, h78, h79, h80, h81, h82, h83, h84, h85, h86, h87, h88, h89, h90, h91, h92, h93, h94, h95, h96, h97, h98, h99, h100, h101, h102, h103, h104, h105, h106, h107, h108, h109, h110, h111, h112, h113, h114, h115, h116, h117, h118, h119, h120, h121, h122, h123, h124, h125, h126, h127, h128, h129, h130, h131, h132, h133, h134, h135, h136, h137, h138, h139, h140]
                    clear harr hfacts hf h70 h1 h5 h3 h0 h2 h4 h6 h7 h8 h9 h10 h11 h12 h13 h14 h15 h16 h17 h18 h19 h20 h21 h22 h23 h24 h25 h26 h27 h28 h29 h30 h31 h32 h33 h34 h35 h36 h37 h38 h39 h40 h41 h42 h43 h44 h45 h46 h47 h48 h49 h50 h51 h52 h53 h71 h72 h73 h74 h75 h76 h77 h78 h79 h80 h81 h82 h83 h84 h85 h86 h87 h88 h89 h90 h91 h92 h93 h94 h95 h96 h97 h98 h99 h100 h101 h102 h103 h104 h105 h106 h107 h108 h109 h110 h111 h112 h113 h114 h115 h116 h117 h118 h119 h120 h121 h122 h123 h124 h125 h126 h127 h128 h129 h130 h131 h132 h133 h134 h135 h136 h137 h138 h139 h140
                    generalize slot t 54 = x54; generalize slot t 55 = x55; generalize slot t 56 = x56; generalize slot t 57 = x57; generalize slot t 58 = x58; generalize slot t 59 = x59; generalize slot t 60 = x60; generalize slot t 61 = x61; generalize slot t 62 = x62; generalize slot t 63 = x63; generalize slot t 64 = x64; generalize slot t 65 = x65
                    generalize slot t 66 = x66; generalize slot t 67 = x67; generalize slot t 68 = x68; generalize slot t 69 = x69
                    clear hsz t
                    have K7 := Lib.hid (K0.out.trans hk)
                    replace R3 := Lib.hid (R3.out.kept hk)
                    replace R5 := Lib.hid (R5.out.kept hk)
                    clear hk
                    obtain ⟨v7, hv7⟩ : ∃ v, v = w1 := ⟨_, rfl⟩
                    subst hv7
                    have hW : mayM (n1 : Int) (N : Int) n2 I2 m2 = 2 := hWW
                    have hrt : rtM n1 S1 (N : Int) n2 I2 m2 F2 = zeroH := if_neg (by rw [hW]; decide)
                    have hck : ckM a0 n1 S1 (N : Int) n2 I2 m2 F2 = false := decide_eq_false fun h => by rw [hW] at h; exact absurd h.1 (by decide)
                    have hR8 := hMR.out
                    have hM8 := hMM.out
                    have hC8 := hMC.out a0 n0
                    simp only [hW, hrt, hck] at hR8 hM8 hC8
                    replace hR8 := Lib.hid hR8
                    replace hM8 := Lib.hid hM8
                    replace hC8 := Lib.hid hC8
                    clear hW hrt hck hMR hMM hMC hWW hRis
                    go_wp2_with (refine park_at 73 rfl ?_)
                    refine unpark ?_
                    refine wpList_exec 73 rfl (by rfl) (.agg #[.int .i64 (N : Int), .slice p2 n2 c2, .slice q2 m2 d2]) _ (loadMany rfl rfl R5.out rfl) ?_
                    go_wp2_with fail
                    refine (hR8.out v7 (HS.out.kept K7.out) (HI.out.kept K7.out) (HSl.kept _ _ _ _ _ K7.out HH.out) (HT.out.kept K7.out)).mono ?_
                    rintro e u2 ⟨rfl, k2⟩
                    have K2 := Lib.hid (K7.out.trans k2)
                    replace R3 := Lib.hid (R3.out.kept k2)
                    replace R5 := Lib.hid (R5.out.kept k2)
                    clear k2 hR8
                    go_wp2_with (first
                      | (refine wpList_store_made rfl 38 _ _ rfl _ _ (bC 32 zeroH) rfl rfl 38 _ rfl (info_hash _) (by simp [bC_size]) (bC_one _ _) ?_; intro u3 R8 k3)
                      | (refine park_at 83 rfl ?_))
                    obtain ⟨g8, hg8⟩ : ∃ g, g = u2.heap.size := ⟨_, rfl⟩
                    rw [← hg8] at R8 ⊢
                    clear hg8
                    have K3 := Lib.hid (K2.out.trans k3.out)
                    replace R3 := Lib.hid (R3.out.kept k3.out)
                    replace R5 := Lib.hid (R5.out.kept k3.out)
                    clear k3 K2
                    refine unpark ?_
                    refine wpList_exec 83 rfl (by rfl) (.agg #[.int .i64 (N : Int), .slice p2 n2 c2, .slice q2 m2 d2]) _ (loadMany rfl rfl R5.out rfl) ?_
                    go_wp2_with fail
                    refine (hM8.out u3 (HI.out.kept K3.out)).mono ?_
                    rintro e u4 ⟨rfl, k4⟩
                    replace R3 := Lib.hid (R3.out.kept k4)
                    replace R5 := Lib.hid (R5.out.kept k4)
                    replace R8 := Lib.hid (R8.out.kept k4)
                    have K4 := Lib.hid (K3.out.trans k4)
                    clear k4 K3 hM8
                    go_wp2_with (refine park_at 90 rfl ?_)
                    refine unpark ?_
                    refine wpList_table 14 [(90, .is (.agg (bC 32 zeroH))), (91, .is (.agg (bC 32 zeroH))), (92, .is (.bool true)), (93, .is (.bool true)), (94, .is (.agg (bC 32 a0))), (95, .is (.slice p1 n1 c1)), (96, .is (.agg #[.int .i64 (N : Int), .slice p2 n2 c2, .slice q2 m2 d2])), (97, .is (.bool false)), (98, .is (.bool true)), (99, .is (.bool true)), (100, .is (.bool true)), (101, .is (.bool true)), (102, .is (.bool true)), (6, .is (.bool true))] (by kernel_rfl) ?_ ?_
                    · refine ⟨fun t w1 hf hk hp => ?_, ?_⟩
                      · have h8 : slot t 8 = .pointer (some ⟨g8, 0, none⟩) := hf 8 (by kernel_rfl)
                        clear hf hp
                        refine stepAt_plain rfl ?_
                        exact stepOK_pure (.agg (bC 32 zeroH)) (loadHr rfl h8 (R8.out.kept hk)) rfl
                      refine ⟨fun t w1 hf hk hp => ?_, ?_⟩
                      · clear hf hp
                        refine stepAt_plain rfl ?_
                        exact stepOK_pure (.agg (bC 32 zeroH)) (execBuild0 rfl (by rw [← zero_hashC]; exact run_build0 w1)) rfl
                      refine ⟨fun t w1 hf hk hp => ?_, ?_⟩
                      · have h90 : slot t 90 = .agg (bC 32 zeroH) := hp 90 (by kernel_rfl)
                        have h91 : slot t 91 = .agg (bC 32 zeroH) := hp 91 (by kernel_rfl)
                        clear hf hp
                        refine stepAt_plain rfl ?_
                        exact stepOK_pure (.bool true) (execEqH1 zeroH rfl w1 rfl h90 h91) rfl
                      refine ⟨fun t w1 hf hk hp => ?_, ?_⟩
                      · have h92 : slot t 92 = .bool true := hp 92 (by kernel_rfl)
                        clear hf hp
                        refine stepAt_plain rfl ?_
                        exact stepOK_move _ (.inl rfl) h92
                      refine ⟨fun t w1 hf hk hp => ?_, ?_⟩
                      · have h3 : slot t 3 = .pointer (some ⟨w.heap.size, 0, none⟩) := hf 3 (by kernel_rfl)
                        have h93 : slot t 93 = .bool true := hp 93 (by kernel_rfl)
                        clear hf hp
                        refine stepAt_on 93 true (by kernel_rfl) h93 ?_
                        exact stepOK_pure (.agg (bC 32 a0)) (loadHr rfl h3 (R3.out.kept hk)) rfl
                      refine ⟨fun t w1 hf hk hp => ?_, ?_⟩
                      · have h1 : slot t 1 = .slice p1 n1 c1 := hf 1 (by kernel_rfl)
                        have h93 : slot t 93 = .bool true := hp 93 (by kernel_rfl)
                        clear hf hp
                        refine stepAt_on 93 true (by kernel_rfl) h93 ?_
                        exact stepOK_move _ (.inl rfl) h1
                      refine ⟨fun t w1 hf hk hp => ?_, ?_⟩
                      · have h5 : slot t 5 = .pointer (some ⟨w.heap.size + 1, 0, none⟩) := hf 5 (by kernel_rfl)
                        have h93 : slot t 93 = .bool true := hp 93 (by kernel_rfl)
                        clear hf hp
                        refine stepAt_on 93 true (by kernel_rfl) h93 ?_
                        exact stepOK_pure (.agg #[.int .i64 (N : Int), .slice p2 n2 c2, .slice q2 m2 d2]) (loadMany rfl h5 (R5.out.kept hk) rfl) rfl
                      refine ⟨fun t w1 hf hk hp => ?_, ?_⟩
                      · have h94 : slot t 94 = .agg (bC 32 a0) := hp 94 (by kernel_rfl)
                        have h95 : slot t 95 = .slice p1 n1 c1 := hp 95 (by kernel_rfl)
                        have h96 : slot t 96 = .agg #[.int .i64 (N : Int), .slice p2 n2 c2, .slice q2 m2 d2] := hp 96 (by kernel_rfl)
                        have h93 : slot t 93 = .bool true := hp 93 (by kernel_rfl)
                        clear hf hp
                        refine stepAt_on 93 true (by kernel_rfl) h93 ?_
                        refine stepOK_call #[.agg (bC 32 a0), .slice p1 n1 c1, .agg #[.int .i64 (N : Int), .slice p2 n2 c2, .slice q2 m2 d2]] rfl (by simp only [List.map_toArray, List.map_cons, List.map_nil, evS, h94, h95, h96]) (by go_simp) ((hC8.out w1 (HS.out.kept (K4.out.trans hk)) (HI.out.kept (K4.out.trans hk)) (HSl.kept _ _ _ _ _ (K4.out.trans hk) HH.out) (HT.out.kept (K4.out.trans hk))).mono fun e w' ⟨he, hk'⟩ => ⟨_, he, hk', rfl⟩)
                      refine ⟨fun t w1 hf hk hp => ?_, ?_⟩
                      · have h97 : slot t 97 = .bool false := hp 97 (by kernel_rfl)
                        have h93 : slot t 93 = .bool true := hp 93 (by kernel_rfl)
                        clear hf hp
                        refine stepAt_on 93 true (by kernel_rfl) h93 ?_
                        refine stepOK_pure (.bool true) ?_ rfl
                        simp only [execOp, evS, h97]
                        go_simp
                      refine ⟨fun t w1 hf hk hp => ?_, ?_⟩
                      · have h93 : slot t 93 = .bool true := hp 93 (by kernel_rfl)
                        have h98 : slot t 98 = .bool true := hp 98 (by kernel_rfl)
                        clear hf hp
                        refine stepAt_plain rfl ?_
                        refine stepOK_pure (.bool true) ?_ rfl
                        simp only [execOp, evS, h93, h98]
                        go_simp
                      refine ⟨fun t w1 hf hk hp => ?_, ?_⟩
                      · have h99 : slot t 99 = .bool true := hp 99 (by kernel_rfl)
                        clear hf hp
                        refine stepAt_plain rfl ?_
                        exact stepOK_move _ (.inl rfl) h99
                      refine ⟨fun t w1 hf hk hp => ?_, ?_⟩
                      · have h100 : slot t 100 = .bool true := hp 100 (by kernel_rfl)
                        clear hf hp
                        refine stepAt_on 100 true (by kernel_rfl) h100 ?_
                        refine stepOK_call #[] rfl (by simp only [List.map_toArray, List.map_nil]) (by go_simp) ((HA.out w1).mono fun e w' ⟨he, hk'⟩ => ⟨_, he, hk', rfl⟩)
                      refine ⟨fun t w1 hf hk hp => ?_, ?_⟩
                      · have h100 : slot t 100 = .bool true := hp 100 (by kernel_rfl)
                        have h101 : slot t 101 = .bool true := hp 101 (by kernel_rfl)
                        clear hf hp
                        refine stepAt_plain rfl ?_
                        refine stepOK_pure (.bool true) ?_ rfl
                        simp only [execOp, evS, h100, h101]
                        go_simp
                      refine ⟨fun t w1 hf hk hp => ?_, ?_⟩
                      · have h102 : slot t 102 = .bool true := hp 102 (by kernel_rfl)
                        clear hf hp
                        refine stepAt_plain rfl ?_
                        exact stepOK_move _ (.inr rfl) h102
                      exact trivial
                    · intro t w1 hsz hf hk hfacts
                      have h6 : slot t 6 = .bool true := hfacts 6 (by kernel_rfl)
                      have h1 : slot t 1 = .slice p1 n1 c1 := hf 1 (by kernel_rfl)
                      have h3 : slot t 3 = .pointer (some ⟨w.heap.size, 0, none⟩) := hf 3 (by kernel_rfl)
                      have h5 : slot t 5 = .pointer (some ⟨w.heap.size + 1, 0, none⟩) := hf 5 (by kernel_rfl)
                      have h8 : slot t 8 = .pointer (some ⟨g8, 0, none⟩) := hf 8 (by kernel_rfl)
                      have harr : t = #[slot t 0, slot t 1, slot t 2, slot t 3, slot t 4, slot t 5, slot t 6, slot t 7, slot t 8, slot t 9, slot t 10, slot t 11, slot t 12, slot t 13, slot t 14, slot t 15, slot t 16, slot t 17, slot t 18, slot t 19, slot t 20, slot t 21, slot t 22, slot t 23, slot t 24, slot t 25, slot t 26, slot t 27, slot t 28, slot t 29, slot t 30, slot t 31, slot t 32, slot t 33, slot t 34, slot t 35, slot t 36, slot t 37, slot t 38, slot t 39, slot t 40, slot t 41, slot t 42, slot t 43, slot t 44, slot t 45, slot t 46, slot t 47, slot t 48, slot t 49, slot t 50, slot t 51, slot t 52, slot t 53, slot t 54, slot t 55, slot t 56, slot t 57, slot t 58, slot t 59, slot t 60, slot t 61, slot t 62, slot t 63, slot t 64, slot t 65, slot t 66, slot t 67, slot t 68, slot t 69, slot t 70, slot t 71, slot t 72, slot t 73, slot t 74, slot t 75, slot t 76, slot t 77, slot t 78, slot t 79, slot t 80, slot t 81, slot t 82, slot t 83, slot t 84, slot t 85, slot t 86, slot t 87, slot t 88, slot t 89, slot t 90, slot t 91, slot t 92, slot t 93, slot t 94, slot t 95, slot t 96, slot t 97, slot t 98, slot t 99, slot t 100, slot t 101, slot t 102, slot t 103, slot t 104, slot t 105, slot t 106, slot t 107, slot t 108, slot t 109, slot t 110, slot t 111, slot t 112, slot t 113, slot t 114, slot t 115, slot t 116, slot t 117, slot t 118, slot t 119, slot t 120, slot t 121, slot t 122, slot t 123, slot t 124, slot t 125, slot t 126, slot t 127, slot t 128, slot t 129, slot t 130, slot t 131, slot t 132, slot t 133, slot t 134, slot t 135, slot t 136, slot t 137, slot t 138, slot t 139, slot t 140] := arr_eq t 141 hsz
                      rw [harr, h6, h1, h3, h5, h8]
                      clear harr hfacts hf h6 h1 h3 h5 h8
                      generalize slot t 0 = x0; generalize slot t 2 = x2; generalize slot t 4 = x4; generalize slot t 7 = x7; generalize slot t 9 = x9; generalize slot t 10 = x10; generalize slot t 11 = x11; generalize slot t 12 = x12; generalize slot t 13 = x13; generalize slot t 14 = x14; generalize slot t 15 = x15; generalize slot t 16 = x16
                      generalize slot t 17 = x17; generalize slot t 18 = x18; generalize slot t 19 = x19; generalize slot t 20 = x20; generalize slot t 21 = x21; generalize slot t 22 = x22; generalize slot t 23 = x23; generalize slot t 24 = x24; generalize slot t 25 = x25; generalize slot t 26 = x26; generalize slot t 27 = x27; generalize slot t 28 = x28
                      generalize slot t 29 = x29; generalize slot t 30 = x30; generalize slot t 31 = x31; generalize slot t 32 = x32; generalize slot t 33 = x33; generalize slot t 34 = x34; generalize slot t 35 = x35; generalize slot t 36 = x36; generalize slot t 37 = x37; generalize slot t 38 = x38; generalize slot t 39 = x39; generalize slot t 40 = x40
                      generalize slot t 41 = x41; generalize slot t 42 = x42; generalize slot t 43 = x43; generalize slot t 44 = x44; generalize slot t 45 = x45; generalize slot t 46 = x46; generalize slot t 47 = x47; generalize slot t 48 = x48; generalize slot t 49 = x49; generalize slot t 50 = x50; generalize slot t 51 = x51; generalize slot t 52 = x52
                      generalize slot t 53 = x53; generalize slot t 54 = x54; generalize slot t 55 = x55; generalize slot t 56 = x56; generalize slot t 57 = x57; generalize slot t 58 = x58; generalize slot t 59 = x59; generalize slot t 60 = x60; generalize slot t 61 = x61; generalize slot t 62 = x62; generalize slot t 63 = x63; generalize slot t 64 = x64
                      generalize slot t 65 = x65; generalize slot t 66 = x66; generalize slot t 67 = x67; generalize slot t 68 = x68; generalize slot t 69 = x69; generalize slot t 70 = x70; generalize slot t 71 = x71; generalize slot t 72 = x72; generalize slot t 73 = x73; generalize slot t 74 = x74; generalize slot t 75 = x75; generalize slot t 76 = x76
                      generalize slot t 77 = x77; generalize slot t 78 = x78; generalize slot t 79 = x79; generalize slot t 80 = x80; generalize slot t 81 = x81; generalize slot t 82 = x82; generalize slot t 83 = x83; generalize slot t 84 = x84; generalize slot t 85 = x85; generalize slot t 86 = x86; generalize slot t 87 = x87; generalize slot t 88 = x88
                      generalize slot t 89 = x89; generalize slot t 90 = x90; generalize slot t 91 = x91; generalize slot t 92 = x92; generalize slot t 93 = x93; generalize slot t 94 = x94; generalize slot t 95 = x95; generalize slot t 96 = x96; generalize slot t 97 = x97; generalize slot t 98 = x98; generalize slot t 99 = x99; generalize slot t 100 = x100
                      generalize slot t 101 = x101; generalize slot t 102 = x102; generalize slot t 103 = x103; generalize slot t 104 = x104; generalize slot t 105 = x105; generalize slot t 106 = x106; generalize slot t 107 = x107; generalize slot t 108 = x108; generalize slot t 109 = x109; generalize slot t 110 = x110; generalize slot t 111 = x111; generalize slot t 112 = x112
                      generalize slot t 113 = x113; generalize slot t 114 = x114; generalize slot t 115 = x115; generalize slot t 116 = x116; generalize slot t 117 = x117; generalize slot t 118 = x118; generalize slot t 119 = x119; generalize slot t 120 = x120; generalize slot t 121 = x121; generalize slot t 122 = x122; generalize slot t 123 = x123; generalize slot t 124 = x124
                      generalize slot t 125 = x125; generalize slot t 126 = x126; generalize slot t 127 = x127; generalize slot t 128 = x128; generalize slot t 129 = x129; generalize slot t 130 = x130; generalize slot t 131 = x131; generalize slot t 132 = x132; generalize slot t 133 = x133; generalize slot t 134 = x134; generalize slot t 135 = x135; generalize slot t 136 = x136
                      generalize slot t 137 = x137; generalize slot t 138 = x138; generalize slot t 139 = x139; generalize slot t 140 = x140
                      clear hsz t
                      simp only [List.drop_succ_cons, List.drop_zero]
                      have K5 := Lib.hid (K4.out.trans hk)
                      clear hk
                      go_wp2_with fail
                      go_ret
                      exact ⟨rfl, K1.out.trans K5.out⟩
              · rw [decide_eq_false hr]
                have hWW : mayM (n1 : Int) a2 n2 I2 m2 = 3 := if_neg fun h => hr h.2.2
                have hW : mayM (n1 : Int) a2 n2 I2 m2 = 3 := hWW
                have hrt : rtM n1 S1 a2 n2 I2 m2 F2 = zeroH := if_neg (by rw [hW]; decide)
                have hck : ckM a0 n1 S1 a2 n2 I2 m2 F2 = false := decide_eq_false fun h => by rw [hW] at h; exact absurd h.1 (by decide)
                have hR8 := hMR.out
                have hM8 := hMM.out
                have hC8 := hMC.out a0 n0
                simp only [hW, hrt, hck] at hR8 hM8 hC8
                replace hR8 := Lib.hid hR8
                replace hM8 := Lib.hid hM8
                replace hC8 := Lib.hid hC8
                clear hW hrt hck hMR hMM hMC hWW hRis
                go_wp2_with (refine park_at 73 rfl ?_)
                refine unpark ?_
                refine wpList_exec 73 rfl (by rfl) (.agg #[.int .i64 a2, .slice p2 n2 c2, .slice q2 m2 d2]) _ (loadMany rfl rfl R5.out rfl) ?_
                go_wp2_with fail
                refine (hR8.out v1 (HS.out.kept K0.out) (HI.out.kept K0.out) (HSl.kept _ _ _ _ _ K0.out HH.out) (HT.out.kept K0.out)).mono ?_
                rintro e u2 ⟨rfl, k2⟩
                have K2 := Lib.hid (K0.out.trans k2)
                replace R3 := Lib.hid (R3.out.kept k2)
                replace R5 := Lib.hid (R5.out.kept k2)
                clear k2 hR8
                go_wp2_with (first
                  | (refine wpList_store_made rfl 38 _ _ rfl _ _ (bC 32 zeroH) rfl rfl 38 _ rfl (info_hash _) (by simp [bC_size]) (bC_one _ _) ?_; intro u3 R8 k3)
                  | (refine park_at 83 rfl ?_))
                obtain ⟨g8, hg8⟩ : ∃ g, g = u2.heap.size := ⟨_, rfl⟩
                rw [← hg8] at R8 ⊢
                clear hg8
                have K3 := Lib.hid (K2.out.trans k3.out)
                replace R3 := Lib.hid (R3.out.kept k3.out)
                replace R5 := Lib.hid (R5.out.kept k3.out)
                clear k3 K2
                refine unpark ?_
                refine wpList_exec 83 rfl (by rfl) (.agg #[.int .i64 a2, .slice p2 n2 c2, .slice q2 m2 d2]) _ (loadMany rfl rfl R5.out rfl) ?_
                go_wp2_with fail
                refine (hM8.out u3 (HI.out.kept K3.out)).mono ?_
                rintro e u4 ⟨rfl, k4⟩
                replace R3 := Lib.hid (R3.out.kept k4)
                replace R5 := Lib.hid (R5.out.kept k4)
                replace R8 := Lib.hid (R8.out.kept k4)
                have K4 := Lib.hid (K3.out.trans k4)
                clear k4 K3 hM8
                go_wp2_with (refine park_at 90 rfl ?_)
                refine unpark ?_
                refine wpList_table 14 [(90, .is (.agg (bC 32 zeroH))), (91, .is (.agg (bC 32 zeroH))), (92, .is (.bool true)), (93, .is (.bool true)), (94, .is (.agg (bC 32 a0))), (95, .is (.slice p1 n1 c1)), (96, .is (.agg #[.int .i64 a2, .slice p2 n2 c2, .slice q2 m2 d2])), (97, .is (.bool false)), (98, .is (.bool true)), (99, .is (.bool true)), (100, .is (.bool true)), (101, .is (.bool true)), (102, .is (.bool true)), (6, .is (.bool true))] (by kernel_rfl) ?_ ?_
                · refine ⟨fun t w1 hf hk hp => ?_, ?_⟩
                  · have h8 : slot t 8 = .pointer (some ⟨g8, 0, none⟩) := hf 8 (by kernel_rfl)
                    clear hf hp
                    refine stepAt_plain rfl ?_
                    exact stepOK_pure (.agg (bC 32 zeroH)) (loadHr rfl h8 (R8.out.kept hk)) rfl
                  refine ⟨fun t w1 hf hk hp => ?_, ?_⟩
                  · clear hf hp
                    refine stepAt_plain rfl ?_
                    exact stepOK_pure (.agg (bC 32 zeroH)) (execBuild0 rfl (by rw [← zero_hashC]; exact run_build0 w1)) rfl
                  refine ⟨fun t w1 hf hk hp => ?_, ?_⟩
                  · have h90 : slot t 90 = .agg (bC 32 zeroH) := hp 90 (by kernel_rfl)
                    have h91 : slot t 91 = .agg (bC 32 zeroH) := hp 91 (by kernel_rfl)
                    clear hf hp
                    refine stepAt_plain rfl ?_
                    exact stepOK_pure (.bool true) (execEqH1 zeroH rfl w1 rfl h90 h91) rfl
                  refine ⟨fun t w1 hf hk hp => ?_, ?_⟩
                  · have h92 : slot t 92 = .bool true := hp 92 (by kernel_rfl)
                    clear hf hp
                    refine stepAt_plain rfl ?_
                    exact stepOK_move _ (.inl rfl) h92
                  refine ⟨fun t w1 hf hk hp => ?_, ?_⟩
                  · have h3 : slot t 3 = .pointer (some ⟨w.heap.size, 0, none⟩) := hf 3 (by kernel_rfl)
                    have h93 : slot t 93 = .bool true := hp 93 (by kernel_rfl)
                    clear hf hp
                    refine stepAt_on 93 true (by kernel_rfl) h93 ?_
                    exact stepOK_pure (.agg (bC 32 a0)) (loadHr rfl h3 (R3.out.kept hk)) rfl
                  refine ⟨fun t w1 hf hk hp => ?_, ?_⟩
                  · have h1 : slot t 1 = .slice p1 n1 c1 := hf 1 (by kernel_rfl)
                    have h93 : slot t 93 = .bool true := hp 93 (by kernel_rfl)
                    clear hf hp
                    refine stepAt_on 93 true (by kernel_rfl) h93 ?_
                    exact stepOK_move _ (.inl rfl) h1
                  refine ⟨fun t w1 hf hk hp => ?_, ?_⟩
                  · have h5 : slot t 5 = .pointer (some ⟨w.heap.size + 1, 0, none⟩) := hf 5 (by kernel_rfl)
                    have h93 : slot t 93 = .bool true := hp 93 (by kernel_rfl)
                    clear hf hp
                    refine stepAt_on 93 true (by kernel_rfl) h93 ?_
                    exact stepOK_pure (.agg #[.int .i64 a2, .slice p2 n2 c2, .slice q2 m2 d2]) (loadMany rfl h5 (R5.out.kept hk) rfl) rfl
                  refine ⟨fun t w1 hf hk hp => ?_, ?_⟩
                  · have h94 : slot t 94 = .agg (bC 32 a0) := hp 94 (by kernel_rfl)
                    have h95 : slot t 95 = .slice p1 n1 c1 := hp 95 (by kernel_rfl)
                    have h96 : slot t 96 = .agg #[.int .i64 a2, .slice p2 n2 c2, .slice q2 m2 d2] := hp 96 (by kernel_rfl)
                    have h93 : slot t 93 = .bool true := hp 93 (by kernel_rfl)
                    clear hf hp
                    refine stepAt_on 93 true (by kernel_rfl) h93 ?_
                    refine stepOK_call #[.agg (bC 32 a0), .slice p1 n1 c1, .agg #[.int .i64 a2, .slice p2 n2 c2, .slice q2 m2 d2]] rfl (by simp only [List.map_toArray, List.map_cons, List.map_nil, evS, h94, h95, h96]) (by go_simp) ((hC8.out w1 (HS.out.kept (K4.out.trans hk)) (HI.out.kept (K4.out.trans hk)) (HSl.kept _ _ _ _ _ (K4.out.trans hk) HH.out) (HT.out.kept (K4.out.trans hk))).mono fun e w' ⟨he, hk'⟩ => ⟨_, he, hk', rfl⟩)
                  refine ⟨fun t w1 hf hk hp => ?_, ?_⟩
                  · have h97 : slot t 97 = .bool false := hp 97 (by kernel_rfl)
                    have h93 : slot t 93 = .bool true := hp 93 (by kernel_rfl)
                    clear hf hp
                    refine stepAt_on 93 true (by kernel_rfl) h93 ?_
                    refine stepOK_pure (.bool true) ?_ rfl
                    simp only [execOp, evS, h97]
                    go_simp
                  refine ⟨fun t w1 hf hk hp => ?_, ?_⟩
                  · have h93 : slot t 93 = .bool true := hp 93 (by kernel_rfl)
                    have h98 : slot t 98 = .bool true := hp 98 (by kernel_rfl)
                    clear hf hp
                    refine stepAt_plain rfl ?_
                    refine stepOK_pure (.bool true) ?_ rfl
                    simp only [execOp, evS, h93, h98]
                    go_simp
                  refine ⟨fun t w1 hf hk hp => ?_, ?_⟩
                  · have h99 : slot t 99 = .bool true := hp 99 (by kernel_rfl)
                    clear hf hp
                    refine stepAt_plain rfl ?_
                    exact stepOK_move _ (.inl rfl) h99
                  refine ⟨fun t w1 hf hk hp => ?_, ?_⟩
                  · have h100 : slot t 100 = .bool true := hp 100 (by kernel_rfl)
                    clear hf hp
                    refine stepAt_on 100 true (by kernel_rfl) h100 ?_
                    refine stepOK_call #[] rfl (by simp only [List.map_toArray, List.map_nil]) (by go_simp) ((HA.out w1).mono fun e w' ⟨he, hk'⟩ => ⟨_, he, hk', rfl⟩)
                  refine ⟨fun t w1 hf hk hp => ?_, ?_⟩
                  · have h100 : slot t 100 = .bool true := hp 100 (by kernel_rfl)
                    have h101 : slot t 101 = .bool true := hp 101 (by kernel_rfl)
                    clear hf hp
                    refine stepAt_plain rfl ?_
                    refine stepOK_pure (.bool true) ?_ rfl
                    simp only [execOp, evS, h100, h101]
                    go_simp
                  refine ⟨fun t w1 hf hk hp => ?_, ?_⟩
                  · have h102 : slot t 102 = .bool true := hp 102 (by kernel_rfl)
                    clear hf hp
                    refine stepAt_plain rfl ?_
                    exact stepOK_move _ (.inr rfl) h102
                  exact trivial
                · intro t w1 hsz hf hk hfacts
                  have h6 : slot t 6 = .bool true := hfacts 6 (by kernel_rfl)
                  have h1 : slot t 1 = .slice p1 n1 c1 := hf 1 (by kernel_rfl)
                  have h3 : slot t 3 = .pointer (some ⟨w.heap.size, 0, none⟩) := hf 3 (by kernel_rfl)
                  have h5 : slot t 5 = .pointer (some ⟨w.heap.size + 1, 0, none⟩) := hf 5 (by kernel_rfl)
                  have h8 : slot t 8 = .pointer (some ⟨g8, 0, none⟩) := hf 8 (by kernel_rfl)
                  have harr : t = #[slot t 0, slot t 1, slot t 2, slot t 3, slot t 4, slot t 5, slot t 6, slot t 7, slot t 8, slot t 9, slot t 10, slot t 11, slot t 12, slot t 13, slot t 14, slot t 15, slot t 16, slot t 17, slot t 18, slot t 19, slot t 20, slot t 21, slot t 22, slot t 23, slot t 24, slot t 25, slot t 26, slot t 27, slot t 28, slot t 29, slot t 30, slot t 31, slot t 32, slot t 33, slot t 34, slot t 35, slot t 36, slot t 37, slot t 38, slot t 39, slot t 40, slot t 41, slot t 42, slot t 43, slot t 44, slot t 45, slot t 46, slot t 47, slot t 48, slot t 49, slot t 50, slot t 51, slot t 52, slot t 53, slot t 54, slot t 55, slot t 56, slot t 57, slot t 58, slot t 59, slot t 60, slot t 61, slot t 62, slot t 63, slot t 64, slot t 65, slot t 66, slot t 67, slot t 68, slot t 69, slot t 70, slot t 71, slot t 72, slot t 73, slot t 74, slot t 75, slot t 76, slot t 77, slot t 78, slot t 79, slot t 80, slot t 81, slot t 82, slot t 83, slot t 84, slot t 85, slot t 86, slot t 87, slot t 88, slot t 89, slot t 90, slot t 91, slot t 92, slot t 93, slot t 94, slot t 95, slot t 96, slot t 97, slot t 98, slot t 99, slot t 100, slot t 101, slot t 102, slot t 103, slot t 104, slot t 105, slot t 106, slot t 107, slot t 108, slot t 109, slot t 110, slot t 111, slot t 112, slot t 113, slot t 114, slot t 115, slot t 116, slot t 117, slot t 118, slot t 119, slot t 120, slot t 121, slot t 122, slot t 123, slot t 124, slot t 125, slot t 126, slot t 127, slot t 128, slot t 129, slot t 130, slot t 131, slot t 132, slot t 133, slot t 134, slot t 135, slot t 136, slot t 137, slot t 138, slot t 139, slot t 140] := arr_eq t 141 hsz
                  rw [harr, h6, h1, h3, h5, h8]
                  clear harr hfacts hf h6 h1 h3 h5 h8
                  generalize slot t 0 = x0; generalize slot t 2 = x2; generalize slot t 4 = x4; generalize slot t 7 = x7; generalize slot t 9 = x9; generalize slot t 10 = x10; generalize slot t 11 = x11; generalize slot t 12 = x12; generalize slot t 13 = x13; generalize slot t 14 = x14; generalize slot t 15 = x15; generalize slot t 16 = x16
                  generalize slot t 17 = x17; generalize slot t 18 = x18; generalize slot t 19 = x19; generalize slot t 20 = x20; generalize slot t 21 = x21; generalize slot t 22 = x22; generalize slot t 23 = x23; generalize slot t 24 = x24; generalize slot t 25 = x25; generalize slot t 26 = x26; generalize slot t 27 = x27; generalize slot t 28 = x28
                  generalize slot t 29 = x29; generalize slot t 30 = x30; generalize slot t 31 = x31; generalize slot t 32 = x32; generalize slot t 33 = x33; generalize slot t 34 = x34; generalize slot t 35 = x35; generalize slot t 36 = x36; generalize slot t 37 = x37; generalize slot t 38 = x38; generalize slot t 39 = x39; generalize slot t 40 = x40
                  generalize slot t 41 = x41; generalize slot t 42 = x42; generalize slot t 43 = x43; generalize slot t 44 = x44; generalize slot t 45 = x45; generalize slot t 46 = x46; generalize slot t 47 = x47; generalize slot t 48 = x48; generalize slot t 49 = x49; generalize slot t 50 = x50; generalize slot t 51 = x51; generalize slot t 52 = x52
                  generalize slot t 53 = x53; generalize slot t 54 = x54; generalize slot t 55 = x55; generalize slot t 56 = x56; generalize slot t 57 = x57; generalize slot t 58 = x58; generalize slot t 59 = x59; generalize slot t 60 = x60; generalize slot t 61 = x61; generalize slot t 62 = x62; generalize slot t 63 = x63; generalize slot t 64 = x64
                  generalize slot t 65 = x65; generalize slot t 66 = x66; generalize slot t 67 = x67; generalize slot t 68 = x68; generalize slot t 69 = x69; generalize slot t 70 = x70; generalize slot t 71 = x71; generalize slot t 72 = x72; generalize slot t 73 = x73; generalize slot t 74 = x74; generalize slot t 75 = x75; generalize slot t 76 = x76
                  generalize slot t 77 = x77; generalize slot t 78 = x78; generalize slot t 79 = x79; generalize slot t 80 = x80; generalize slot t 81 = x81; generalize slot t 82 = x82; generalize slot t 83 = x83; generalize slot t 84 = x84; generalize slot t 85 = x85; generalize slot t 86 = x86; generalize slot t 87 = x87; generalize slot t 88 = x88
                  generalize slot t 89 = x89; generalize slot t 90 = x90; generalize slot t 91 = x91; generalize slot t 92 = x92; generalize slot t 93 = x93; generalize slot t 94 = x94; generalize slot t 95 = x95; generalize slot t 96 = x96; generalize slot t 97 = x97; generalize slot t 98 = x98; generalize slot t 99 = x99; generalize slot t 100 = x100
                  generalize slot t 101 = x101; generalize slot t 102 = x102; generalize slot t 103 = x103; generalize slot t 104 = x104; generalize slot t 105 = x105; generalize slot t 106 = x106; generalize slot t 107 = x107; generalize slot t 108 = x108; generalize slot t 109 = x109; generalize slot t 110 = x110; generalize slot t 111 = x111; generalize slot t 112 = x112
                  generalize slot t 113 = x113; generalize slot t 114 = x114; generalize slot t 115 = x115; generalize slot t 116 = x116; generalize slot t 117 = x117; generalize slot t 118 = x118; generalize slot t 119 = x119; generalize slot t 120 = x120; generalize slot t 121 = x121; generalize slot t 122 = x122; generalize slot t 123 = x123; generalize slot t 124 = x124
                  generalize slot t 125 = x125; generalize slot t 126 = x126; generalize slot t 127 = x127; generalize slot t 128 = x128; generalize slot t 129 = x129; generalize slot t 130 = x130; generalize slot t 131 = x131; generalize slot t 132 = x132; generalize slot t 133 = x133; generalize slot t 134 = x134; generalize slot t 135 = x135; generalize slot t 136 = x136
                  generalize slot t 137 = x137; generalize slot t 138 = x138; generalize slot t 139 = x139; generalize slot t 140 = x140
                  clear hsz t
                  simp only [List.drop_succ_cons, List.drop_zero]
                  have K5 := Lib.hid (K4.out.trans hk)
                  clear hk
                  go_wp2_with fail
                  go_ret
                  exact ⟨rfl, K1.out.trans K5.out⟩

set_option maxRecDepth 100000 in
set_option maxHeartbeats 1000000 in
theorem lifted (os : Os) (started : os.Started) (H : Type) (enc : TypeId × Value → H) :
    ReturnsInHanded {} Tryd.checked os 4 .any (fun w args => (Rows.multiTellsSpec.pre enc Tryd.prog Tryd.f4 [] false w args ∧ laidMetH Tryd.prog Rows.multiTellsRow.laid w) ∧ sizedMet enc Tryd.prog Tryd.f4 (OpenSpec.ofChange Rows.multiTellsSpec) false w args)
      (Rows.multiTellsSpec.post enc Tryd.prog Tryd.f4 false true false false) := by
  refine returnsInHanded_of_change_and (C := Tryd.checked) (X := fun w _ => laidMetH Tryd.prog Rows.multiTellsRow.laid w) (fun _ _ _ hh h => h.of_heap hh) own started (by kernel_rfl) Tryd.func4
    (ChangeSpec.witness_shaped (enc := enc) (C := Tryd.checked) (os := os) (X := fun w _ => laidMetH Tryd.prog Rows.multiTellsRow.laid w) false (World.doorLaid Tryd.prog 400 os) #[.agg #[.int .u8 0, .int .u8 0, .int .u8 0, .int .u8 0, .int .u8 0, .int .u8 0, .int .u8 0, .int .u8 0, .int .u8 0, .int .u8 0, .int .u8 0, .int .u8 0, .int .u8 0, .int .u8 0, .int .u8 0, .int .u8 0, .int .u8 0, .int .u8 0, .int .u8 0, .int .u8 0, .int .u8 0, .int .u8 0, .int .u8 0, .int .u8 0, .int .u8 0, .int .u8 0, .int .u8 0, .int .u8 0, .int .u8 0, .int .u8 0, .int .u8 0, .int .u8 0], .slice none 0 0, .agg #[.int .i64 0, .slice none 0 0, .slice none 0 0]] 8 rfl (World.shaped_of_RefB (by kernel_rfl) (by kernel_rfl)) (by kernel_rfl) (by kernel_rfl) (by kernel_rfl) (door_met os _)) ?_
  intro W base args ds gs before hval0 hW _ hsz0 hL _
  have hval : ∀ (j : Nat) t v, Tryd.f4.params[j]? = some t → args[j]? = some v → Value.okWide Tryd.prog W .any base t v := hval0
  have hsz : (DataW.weightsEach Tryd.prog (Tryd.f4.params.toList ++ Rows.multiTellsSpec.plain.varTypes Tryd.prog) (ds ++ gs)).all (· ≤ reachBytes) = true := hsz0
  have hW' := hW
  obtain ⟨p, q, hA0, hV, rfl, hfz, hnd⟩ := hW
  have hA : DataW.TrodAll enc Tryd.prog W 0 (fun _ => true) true Tryd.f4.params.toList args.toList ds p := hA0
  have hAk := hA
  rw [Tryd.params4] at hA hval hsz
  obtain ⟨v0, vs0, d0, ds0, p0_, q0_, hargs, rfl, rfl, h0, r0_⟩ := trodAll_cons hA
  obtain ⟨v1, vs1, d1, ds1, p1_, q1_, rfl, rfl, rfl, h1, r1_⟩ := trodAll_cons r0_
  obtain ⟨v2, vs2, d2, ds2, p2_, q2_, rfl, rfl, rfl, h2, r2_⟩ := trodAll_cons r1_
  obtain ⟨rfl, rfl, rfl⟩ := trodAll_nil r2_
  obtain rfl : args = #[v0, v1, v2] := by cases args; simp_all
  obtain ⟨rfl, rfl⟩ := trodVars_none hV
  have hlt : ∀ x ∈ (p0_ ++ (p1_ ++ (p2_ ++ ([])))), x.block < W.heap.size := fun x hx => by simpa using hW'.lt x (by simpa using hx)
  obtain ⟨cs0, rfl⟩ : ∃ cs, v0 = .agg cs := by
    have := hval 0 38 v0 rfl rfl
    simp only [Value.okWide, Tryd.underlying38] at this
    obtain ⟨cs, h, _⟩ := this
    exact ⟨cs, h⟩
  obtain ⟨a0, n0, rfl⟩ := open_hash Tryd.underlying38 Tryd.underlying5 (by kernel_rfl) (by kernel_rfl) h0
  obtain ⟨p1, n1, c1, S1, z1, rfl, e1, rr1⟩ := open_sslice Tryd.underlying22 Tryd.underlying9 (by kernel_rfl) (hval 1 22 v1 rfl rfl) h1
  obtain ⟨cs2, rfl, _⟩ := okWide_struct Tryd.underlying28 (hval 2 28 v2 rfl rfl)
  obtain ⟨a2, p2, n2, c2, I2, q2, m2, d2, F2, w2, z2, y2, x2, rfl, e2, f2⟩ := open_many Tryd.underlying28 (by kernel_rfl) ⟨rfl, rfl, rfl⟩ ⟨by kernel_rfl, by kernel_rfl, by kernel_rfl⟩ Tryd.underlying3 Tryd.underlying23 Tryd.underlying3 (by kernel_rfl) Tryd.underlying26 Tryd.underlying38 (by kernel_rfl) Tryd.underlying5 (by kernel_rfl) h2
  have r1 := (rr1 hsz (J := 1) rfl rfl).2
  clear hA0 hval0
  refine (walk a0 n0 p1 n1 c1 S1 z1 r1 a2 p2 n2 c2 I2 q2 m2 d2 F2 w2 z2 y2 x2 W e1 e2 f2 (tab_of_laid hL)).mono fun e W' ⟨he, hg⟩ => ?_
  subst he
  exact ⟨_, rfl, ⟨_, _, _, [], _, [], hW', trodAll_cons_mk (shut_bool Tryd.underlying4 _) trodAll_mk0, trodAll_stays laidOut hg (by kernel_rfl) hAk hlt (fun x hx => by simpa using hlt x hx), rfl, Kept.frame hg _, fun h => by cases h⟩⟩

theorem over : Rows.multiTellsRow.holds Tryd.pinned (OpenSpec.ofChange Rows.multiTellsSpec) :=
  OpenClaim.holds_of_wide 4 Tryd.f4 rfl rfl rfl rfl rfl rfl rfl ⟨rfl, rfl, rfl, rfl, rfl⟩ rfl rfl rfl rfl rfl (by kernel_rfl) Tryd.func4 (by kernel_rfl)
    (of_decide_eq_true (by kernel_rfl)) (by unfold Func.isWrapper; first | (rw [if_pos (by decide +kernel)]; kernel_rfl) | (rw [if_neg (by decide +kernel)]; exact ⟨rfl, rfl⟩))
    (fun os started H enc _ => lifted os started H enc)
end Go.Proofs.YtggpjhldmaflaaaDoor.multiTells
namespace Go.Proofs.YtggpjhldmaflaaaDoor
theorem multiTells_holds : Rows.MultiTellsSaid := multiTells.over
theorem multiTells_card : Rows.MultiTellsCardSaid :=
  Claim7.holds_tied_plain_at .later [] [.data] true (true, "d35ee8a81d3cf5a6351c78eb7c8ada333cc817468752d51f115c50cb0b0845aa") false
    multiTells_holds (fun _ h => by cases h) (by kernel_rfl) (fun _ h => by cases h) multiTells_row_tie rfl ⟨rfl, rfl⟩ (by kernel_rfl) rfl
    (fun f fn hf hfn => by
      obtain rfl : f = 4 := Option.some.inj ((show Tryd.prog.funcNamed "milepost/milepostlaw16.MultiTells" = some 4 by kernel_rfl).symm.trans hf) |>.symm
      obtain rfl : fn = Tryd.f4 := (Option.some.inj (Tryd.func4.symm.trans hfn)).symm
      refine ⟨by kernel_rfl, fun j t ht => ?_⟩
      have hm : t ∈ Tryd.f4.params.toList := by simpa using Array.mem_of_getElem? ht
      have hall : (Tryd.f4.params.toList.all fun u => !Tryd.prog.wantsStandIn u) = true := by kernel_rfl
      exact (show Tryd.prog.wantsStandIn t = false by simpa using List.all_eq_true.1 hall t hm))
    (by kernel_rfl)
#print axioms multiTells_card
end Go.Proofs.YtggpjhldmaflaaaDoor
