/-
  Find returns two texts if and only if both openings hold by the reference, for one index and different leaves, and these texts are then a hash collision; else two empty ones; the law's example holds: 'ClashFinds' returns true for every input.
  Conditions: those of the given card (sha's table of round constants as the program's text lays it).
-/
import Derived.Test.YthafohijocidlaaDoorRows
import Derived.Test.YthafohijocidlaaDoorClashLaw
import Derived.Test.YthafohijocidlaaDoorLawLibG
import Derived.WalkKit
import Derived.ProofKit
import Derived.OpenShut
import Derived.ShutString
import Derived.SizedLaws
import Derived.Test.YthafohijocidlaaDoorBas
import Derived.LaidMore
import Derived.SevenTiedAt
import Derived.Test.YthafohijocidlaaDoorCards
import Derived.Test.YthafohijocidlaaDoorTie
import Derived.Test.YthafohijocidlaaDoorShb
namespace Go.Proofs.YthafohijocidlaaDoor.clashFinds
open Go.ChangeShapes Go.WideShapes Go.ChangeAt Go.RowKit
open Go.ChangeMaps (open_string shut_string)
set_option linter.unusedVariables false

theorem own : ownKnob Tryd.prog.godebug = none := by kernel_rfl
theorem laidOut : laidOutB Tryd.prog = true := by kernel_rfl

set_option maxRecDepth 100000 in
set_option maxHeartbeats 4000000 in
theorem walk (a0 : List UInt8) (n0 : a0.length = 32) (s1 : ByteArray) (a1 b1 : Int) (p1 : Option Addr) (n1 c1 : Nat) (F1 : Nat → List UInt8) (l1 : s1.size ≤ maxLen) (w1 : (Lit.int .i64 a1).wf = true ∧ (Lit.int .i64 b1).wf = true) (z1 : n1 ≤ c1 ∧ c1 ≤ maxLen) (s2 : ByteArray) (a2 b2 : Int) (p2 : Option Addr) (n2 c2 : Nat) (F2 : Nat → List UInt8) (l2 : s2.size ≤ maxLen) (w2 : (Lit.int .i64 a2).wf = true ∧ (Lit.int .i64 b2).wf = true) (z2 : n2 ≤ c2 ∧ c2 ≤ maxLen) (w : World) (e1 : HAt w p1 n1 F1) (e2 : HAt w p2 n2 F2) (hT : Tab w) :
    Calls Tryd.prog 4 #[.agg (bC 32 a0), .agg #[.string s1, .int .i64 a1, .int .i64 b1, .slice p1 n1 c1], .agg #[.string s2, .int .i64 a2, .int .i64 b2, .slice p2 n2 c2]] w fun e w' => e = .returned (.bool true) ∧ Kept w w' := by
  have HT := Lib.hid hT
  have HA : Hid (∀ w, Tab w → _) := Lib.hid fun w ht => awake15_any w ht
  have X1 := Lib.hid (show HSl n1 F1 (.slice p1 n1 c1) w from ⟨p1, c1, rfl, z1.1, z1.2, e1⟩)
  have X2 := Lib.hid (show HSl n2 F2 (.slice p2 n2 c2) w from ⟨p2, c2, rfl, z2.1, z2.2, e2⟩)
  have R3 := Lib.hid (((Rowz.new w (bC 32 a0) 25).alloc (.cells #[.string s1, .int .i64 a1, .int .i64 b1, .slice p1 n1 c1] 31)).alloc (.cells #[.string s2, .int .i64 a2, .int .i64 b2, .slice p2 n2 c2] 31))
  have R4 := Lib.hid ((Rowz.newEq1 w (.cells (bC 32 a0) 25) _ #[.string s1, .int .i64 a1, .int .i64 b1, .slice p1 n1 c1] 31 rfl).alloc (.cells #[.string s2, .int .i64 a2, .int .i64 b2, .slice p2 n2 c2] 31))
  have R5 := Lib.hid (Rowz.newEq1 (w.alloc (.cells (bC 32 a0) 25)) (.cells #[.string s1, .int .i64 a1, .int .i64 b1, .slice p1 n1 c1] 31) _ #[.string s2, .int .i64 a2, .int .i64 b2, .slice p2 n2 c2] 31 rfl)
  have K1 := Lib.hid ((((Kept.refl w).alloc (.cells (bC 32 a0) 25)).alloc (.cells #[.string s1, .int .i64 a1, .int .i64 b1, .slice p1 n1 c1] 31)).alloc (.cells #[.string s2, .int .i64 a2, .int .i64 b2, .slice p2 n2 c2] 31))
  have hb1 : (w.alloc (.cells (bC 32 a0) 25)).heap.size + 1 = w.heap.size + 2 := by simp
  rw [hb1] at R5
  have hF1 : ∀ k, k < n1 → (F1 k).length = 32 := fun k hk => e1.length k hk
  have hF2 : ∀ k, k < n2 → (F2 k).length = 32 := fun k hk => e2.length k hk
  clear hb1 hT e1 e2 z1 z2 l1 l2 w1 w2
  by_cases h1 : 2000 < s1.size
  · have hd1 : decide ((s1.size : Int) > 2000) = true := decide_eq_true (by omega)
    have hd1' : decide ((2000 : Int) < (s1.size : Int)) = true := decide_eq_true (by omega)
    clear X1 X2 hF1 hF2
    go_enter Tryd.func4, Tryd.ntmps4
    go_wp2_with (refine park_at 11 rfl ?_)
    generalize ((w.alloc (.cells (bC 32 a0) 25)).alloc (.cells #[.string s1, .int .i64 a1, .int .i64 b1, .slice p1 n1 c1] 31)).alloc (.cells #[.string s2, .int .i64 a2, .int .i64 b2, .slice p2 n2 c2] 31) = v1 at R3 R4 R5 K1 ⊢
    have f0 := R4.out.cell 0
    have g0 := R5.out.cell 0
    refine unpark ?_
    go_wp2_with fail
    refine (HA.out _ (HT.out.kept K1.out)).mono ?_
    rintro e u1 ⟨rfl, k1⟩
    have K2 := Lib.hid (K1.out.trans k1)
    clear k1 K1
    go_wp2_with fail
    go_ret
    exact ⟨rfl, K2.out⟩
  · have hd1 : decide ((s1.size : Int) > 2000) = false := decide_eq_false (by omega)
    have hd1' : decide ((2000 : Int) < (s1.size : Int)) = false := decide_eq_false (by omega)
    by_cases h2 : 2000 < s2.size
    · have hd2 : decide ((s2.size : Int) > 2000) = true := decide_eq_true (by omega)
      have hd2' : decide ((2000 : Int) < (s2.size : Int)) = true := decide_eq_true (by omega)
      clear X1 X2 hF1 hF2
      go_enter Tryd.func4, Tryd.ntmps4
      go_wp2_with (refine park_at 11 rfl ?_)
      generalize ((w.alloc (.cells (bC 32 a0) 25)).alloc (.cells #[.string s1, .int .i64 a1, .int .i64 b1, .slice p1 n1 c1] 31)).alloc (.cells #[.string s2, .int .i64 a2, .int .i64 b2, .slice p2 n2 c2] 31) = v1 at R3 R4 R5 K1 ⊢
      have f0 := R4.out.cell 0
      have g0 := R5.out.cell 0
      refine unpark ?_
      go_wp2_with fail
      refine (HA.out _ (HT.out.kept K1.out)).mono ?_
      rintro e u1 ⟨rfl, k1⟩
      have K2 := Lib.hid (K1.out.trans k1)
      clear k1 K1
      go_wp2_with fail
      go_ret
      exact ⟨rfl, K2.out⟩
    · have hd2 : decide ((s2.size : Int) > 2000) = false := decide_eq_false (by omega)
      have hd2' : decide ((2000 : Int) < (s2.size : Int)) = false := decide_eq_false (by omega)
      obtain ⟨A, B, q1, q2, q3, q4, HFd⟩ := clashFind_any a0 n0 s1 s2 (by omega) (by omega) a1 b1 a2 b2 n1 n2 F1 F2 hF1 hF2
      have HFD : Hid (∀ w, HSl n1 F1 (.slice p1 n1 c1) w → HSl n2 F2 (.slice p2 n2 c2) w → Tab w → _) := Lib.hid fun w h h' ht => HFd p1 p2 c1 c2 w h h' ht
      have HC1 : Hid (∀ w, HSl n1 F1 (.slice p1 n1 c1) w → _) := Lib.hid fun w h => refCheck_any a0 n0 s1 (by omega) a1 b1 n1 F1 _ w h
      have HC2 : Hid (∀ w, HSl n2 F2 (.slice p2 n2 c2) w → _) := Lib.hid fun w h => refCheck_any a0 n0 s2 (by omega) a2 b2 n2 F2 _ w h
      have HIs : Hid (∀ w, Tab w → _) := Lib.hid fun w ht => clashIs_any A B (by omega) (by omega) w ht
      have hco := coB_eq a0 s1 a1 b1 n1 F1 s2 a2 b2 n2 F2
      obtain ⟨D1, hD1⟩ : ∃ D, D = !decide (s1 = s2) := ⟨_, rfl⟩
      obtain ⟨D2, hD2⟩ : ∃ D, D = decide (a1 = a2) := ⟨_, rfl⟩
      rw [← hD1, ← hD2] at hco
      replace hD1 := Lib.hid hD1
      replace hD2 := Lib.hid hD2
      clear HFd hF1 hF2 h1 h2 q3 q4
      generalize coB a0 s1 a1 b1 n1 F1 s2 a2 b2 n2 F2 = CO at hco q1 q2 HFD
      generalize ckO a0 s1 a1 b1 n1 F1 = C1 at hco HC1
      generalize ckO a0 s2 a2 b2 n2 F2 = C2 at hco HC2
      replace q1 := Lib.hid q1
      replace q2 := Lib.hid q2
      replace hco := Lib.hid hco
      go_enter Tryd.func4, Tryd.ntmps4
      go_wp2_with (refine park_at 11 rfl ?_)
      generalize ((w.alloc (.cells (bC 32 a0) 25)).alloc (.cells #[.string s1, .int .i64 a1, .int .i64 b1, .slice p1 n1 c1] 31)).alloc (.cells #[.string s2, .int .i64 a2, .int .i64 b2, .slice p2 n2 c2] 31) = v1 at R3 R4 R5 K1 ⊢
      have f0 := R4.out.cell 0
      have g0 := R5.out.cell 0
      refine unpark ?_
      go_wp2_with (refine park_at 23 rfl ?_)
      clear f0 g0 hd1 hd1' hd2 hd2'
      refine unpark ?_
      refine wpList_exec 23 rfl (by rfl) (.agg (bC 32 a0)) _ (loadHr rfl rfl R3.out) ?_
      refine wpList_exec 24 rfl (by rfl) (.agg #[.string s1, .int .i64 a1, .int .i64 b1, .slice p1 n1 c1]) _ (loadLf rfl rfl R4.out rfl) ?_
      refine wpList_exec 25 rfl (by rfl) (.agg #[.string s2, .int .i64 a2, .int .i64 b2, .slice p2 n2 c2]) _ (loadLf rfl rfl R5.out rfl) ?_
      go_wp2_with fail
      refine (HFD.out v1 (HSl.kept _ _ _ _ _ K1.out X1.out) (HSl.kept _ _ _ _ _ K1.out X2.out) (HT.out.kept K1.out)).mono ?_
      rintro e v2 ⟨rfl, k2⟩
      replace R3 := Lib.hid (R3.out.kept k2)
      replace R4 := Lib.hid (R4.out.kept k2)
      replace R5 := Lib.hid (R5.out.kept k2)
      have K2 := Lib.hid (K1.out.trans k2)
      clear k2 K1 HFD
      go_wp2_with (refine park_at 30 rfl ?_)
      cases C1 with
      | false =>
        refine unpark ?_
        refine wpList_table 31 [(30, .is (.agg (bC 32 a0))), (31, .is (.pointer (some ⟨w.heap.size + 1, 0, none⟩))), (32, .is (.string s1)), (33, .is (.pointer (some ⟨w.heap.size + 1, 1, none⟩))), (34, .is (.agg #[.int .i64 a1, .int .i64 b1, .slice p1 n1 c1])), (35, .is (.bool false)), (36, .is (.bool false)), (37, .is (undef)), (38, .is (undef)), (39, .is (undef)), (40, .is (undef)), (41, .is (undef)), (42, .is (undef)), (43, .is (.bool false)), (44, .is (.bool false)), (45, .is (undef)), (46, .is (undef)), (47, .is (undef)), (48, .is (undef)), (49, .is (undef)), (50, .is (undef)), (51, .is (undef)), (52, .is (.bool false)), (53, .is (.bool false)), (54, .is (undef)), (55, .is (undef)), (56, .is (undef)), (57, .is (undef)), (58, .is (undef)), (59, .is (.bool false)), (10, .is (.bool false))] (by kernel_rfl) ?_ ?_
        · refine ⟨fun t w1 hf hk hp => ?_, ?_⟩
          · have h3 : slot t 3 = .pointer (some ⟨w.heap.size, 0, none⟩) := hf 3 (by kernel_rfl)
            clear hf hp
            refine stepAt_plain rfl ?_
            exact stepOK_pure (.agg (bC 32 a0)) (loadHr rfl h3 (R3.out.kept hk)) rfl
          refine ⟨fun t w1 hf hk hp => ?_, ?_⟩
          · have h4 : slot t 4 = .pointer (some ⟨w.heap.size + 1, 0, none⟩) := hf 4 (by kernel_rfl)
            clear hf hp
            refine stepAt_plain rfl ?_
            exact stepOK_pure (.pointer (some ⟨w.heap.size + 1, 0, none⟩)) (execFieldL (w.heap.size + 1) 0 (by omega) w1 rfl h4) rfl
          refine ⟨fun t w1 hf hk hp => ?_, ?_⟩
          · have h31 : slot t 31 = .pointer (some ⟨w.heap.size + 1, 0, none⟩) := hp 31 (by kernel_rfl)
            clear hf hp
            refine stepAt_plain rfl ?_
            have hq0 := run_loadLS (R4.out.kept hk)
            exact stepOK_sem (.string s1) (by simp only [execOp, evS, h31]) hq0 rfl
          refine ⟨fun t w1 hf hk hp => ?_, ?_⟩
          · have h4 : slot t 4 = .pointer (some ⟨w.heap.size + 1, 0, none⟩) := hf 4 (by kernel_rfl)
            clear hf hp
            refine stepAt_plain rfl ?_
            exact stepOK_pure (.pointer (some ⟨w.heap.size + 1, 1, none⟩)) (execFieldL (w.heap.size + 1) 1 (by omega) w1 rfl h4) rfl
          refine ⟨fun t w1 hf hk hp => ?_, ?_⟩
          · have h33 : slot t 33 = .pointer (some ⟨w.heap.size + 1, 1, none⟩) := hp 33 (by kernel_rfl)
            clear hf hp
            refine stepAt_plain rfl ?_
            have hq0 := run_loadLO (R4.out.kept hk)
            exact stepOK_sem (.agg #[.int .i64 a1, .int .i64 b1, .slice p1 n1 c1]) (by simp only [execOp, evS, h33]) hq0 rfl
          refine ⟨fun t w1 hf hk hp => ?_, ?_⟩
          · have h30 : slot t 30 = .agg (bC 32 a0) := hp 30 (by kernel_rfl)
            have h32 : slot t 32 = .string s1 := hp 32 (by kernel_rfl)
            have h34 : slot t 34 = .agg #[.int .i64 a1, .int .i64 b1, .slice p1 n1 c1] := hp 34 (by kernel_rfl)
            clear hf hp
            refine stepAt_plain rfl ?_
            refine stepOK_call #[.agg (bC 32 a0), .string s1, .agg #[.int .i64 a1, .int .i64 b1, .slice p1 n1 c1]] rfl (by simp only [List.map_toArray, List.map_cons, List.map_nil, evS, h30, h32, h34]) (by go_simp) ((HC1.out w1 (HSl.kept _ _ _ _ _ (K2.out.trans hk) X1.out)).mono fun e w' ⟨he, hk'⟩ => ⟨_, he, hk', rfl⟩)
          refine ⟨fun t w1 hf hk hp => ?_, ?_⟩
          · have h35 : slot t 35 = .bool false := hp 35 (by kernel_rfl)
            clear hf hp
            refine stepAt_plain rfl ?_
            exact stepOK_move _ (.inl rfl) h35
          refine ⟨fun t w1 hf hk hp => ?_, ?_⟩
          · have h36 : slot t 36 = .bool false := hp 36 (by kernel_rfl)
            clear hf hp
            exact stepAt_off 36 true (by kernel_rfl) h36 rfl
          refine ⟨fun t w1 hf hk hp => ?_, ?_⟩
          · have h36 : slot t 36 = .bool false := hp 36 (by kernel_rfl)
            clear hf hp
            exact stepAt_off 36 true (by kernel_rfl) h36 rfl
          refine ⟨fun t w1 hf hk hp => ?_, ?_⟩
          · have h36 : slot t 36 = .bool false := hp 36 (by kernel_rfl)
            clear hf hp
            exact stepAt_off 36 true (by kernel_rfl) h36 rfl
          refine ⟨fun t w1 hf hk hp => ?_, ?_⟩
          · have h36 : slot t 36 = .bool false := hp 36 (by kernel_rfl)
            clear hf hp
            exact stepAt_off 36 true (by kernel_rfl) h36 rfl
          refine ⟨fun t w1 hf hk hp => ?_, ?_⟩
          · have h36 : slot t 36 = .bool false := hp 36 (by kernel_rfl)
            clear hf hp
            exact stepAt_off 36 true (by kernel_rfl) h36 rfl
          refine ⟨fun t w1 hf hk hp => ?_, ?_⟩
          · have h36 : slot t 36 = .bool false := hp 36 (by kernel_rfl)
            clear hf hp
            exact stepAt_off 36 true (by kernel_rfl) h36 rfl
          refine ⟨fun t w1 hf hk hp => ?_, ?_⟩
          · have h36 : slot t 36 = .bool false := hp 36 (by kernel_rfl)
            have h42 : slot t 42 = undef := hp 42 (by kernel_rfl)
            clear hf hp
            refine stepAt_plain rfl ?_
            refine stepOK_pure (.bool false) ?_ rfl
            simp only [execOp, evS, h36, h42]
            go_simp
          refine ⟨fun t w1 hf hk hp => ?_, ?_⟩
          · have h43 : slot t 43 = .bool false := hp 43 (by kernel_rfl)
            clear hf hp
            refine stepAt_plain rfl ?_
            exact stepOK_move _ (.inl rfl) h43
          refine ⟨fun t w1 hf hk hp => ?_, ?_⟩
          · have h44 : slot t 44 = .bool false := hp 44 (by kernel_rfl)
            clear hf hp
            exact stepAt_off 44 true (by kernel_rfl) h44 rfl
          refine ⟨fun t w1 hf hk hp => ?_, ?_⟩
          · have h44 : slot t 44 = .bool false := hp 44 (by kernel_rfl)
            clear hf hp
            exact stepAt_off 44 true (by kernel_rfl) h44 rfl
          refine ⟨fun t w1 hf hk hp => ?_, ?_⟩
          · have h44 : slot t 44 = .bool false := hp 44 (by kernel_rfl)
            clear hf hp
            exact stepAt_off 44 true (by kernel_rfl) h44 rfl
          refine ⟨fun t w1 hf hk hp => ?_, ?_⟩
          · have h44 : slot t 44 = .bool false := hp 44 (by kernel_rfl)
            clear hf hp
            exact stepAt_off 44 true (by kernel_rfl) h44 rfl
          refine ⟨fun t w1 hf hk hp => ?_, ?_⟩
          · have h44 : slot t 44 = .bool false := hp 44 (by kernel_rfl)
            clear hf hp
            exact stepAt_off 44 true (by kernel_rfl) h44 rfl
          refine ⟨fun t w1 hf hk hp => ?_, ?_⟩
          · have h44 : slot t 44 = .bool false := hp 44 (by kernel_rfl)
            clear hf hp
            exact stepAt_off 44 true (by kernel_rfl) h44 rfl
          refine ⟨fun t w1 hf hk hp => ?_, ?_⟩
          · have h44 : slot t 44 = .bool false := hp 44 (by kernel_rfl)
            clear hf hp
            exact stepAt_off 44 true (by kernel_rfl) h44 rfl
          refine ⟨fun t w1 hf hk hp => ?_, ?_⟩
          · have h44 : slot t 44 = .bool false := hp 44 (by kernel_rfl)
            have h51 : slot t 51 = undef := hp 51 (by kernel_rfl)
            clear hf hp
            refine stepAt_plain rfl ?_
            refine stepOK_pure (.bool false) ?_ rfl
            simp only [execOp, evS, h44, h51]
            go_simp
          refine ⟨fun t w1 hf hk hp => ?_, ?_⟩
          · have h52 : slot t 52 = .bool false := hp 52 (by kernel_rfl)
            clear hf hp
            refine stepAt_plain rfl ?_
            exact stepOK_move _ (.inl rfl) h52
          refine ⟨fun t w1 hf hk hp => ?_, ?_⟩
          · have h53 : slot t 53 = .bool false := hp 53 (by kernel_rfl)
            clear hf hp
            exact stepAt_off 53 true (by kernel_rfl) h53 rfl
          refine ⟨fun t w1 hf hk hp => ?_, ?_⟩
          · have h53 : slot t 53 = .bool false := hp 53 (by kernel_rfl)
            clear hf hp
            exact stepAt_off 53 true (by kernel_rfl) h53 rfl
          refine ⟨fun t w1 hf hk hp => ?_, ?_⟩
          · have h53 : slot t 53 = .bool false := hp 53 (by kernel_rfl)
            clear hf hp
            exact stepAt_off 53 true (by kernel_rfl) h53 rfl
          refine ⟨fun t w1 hf hk hp => ?_, ?_⟩
          · have h53 : slot t 53 = .bool false := hp 53 (by kernel_rfl)
            clear hf hp
            exact stepAt_off 53 true (by kernel_rfl) h53 rfl
          refine ⟨fun t w1 hf hk hp => ?_, ?_⟩
          · have h53 : slot t 53 = .bool false := hp 53 (by kernel_rfl)
            clear hf hp
            exact stepAt_off 53 true (by kernel_rfl) h53 rfl
          refine ⟨fun t w1 hf hk hp => ?_, ?_⟩
          · have h53 : slot t 53 = .bool false := hp 53 (by kernel_rfl)
            have h58 : slot t 58 = undef := hp 58 (by kernel_rfl)
            clear hf hp
            refine stepAt_plain rfl ?_
            refine stepOK_pure (.bool false) ?_ rfl
            simp only [execOp, evS, h53, h58]
            go_simp
          refine ⟨fun t w1 hf hk hp => ?_, ?_⟩
          · have h59 : slot t 59 = .bool false := hp 59 (by kernel_rfl)
            clear hf hp
            refine stepAt_plain rfl ?_
            exact stepOK_move _ (.inr rfl) h59
          exact trivial
        · intro t w1 hsz hf hk hfacts
          have h10 : slot t 10 = .bool false := hfacts 10 (by kernel_rfl)
          have h3 : slot t 3 = .pointer (some ⟨w.heap.size, 0, none⟩) := hf 3 (by kernel_rfl)
          have h4 : slot t 4 = .pointer (some ⟨w.heap.size + 1, 0, none⟩) := hf 4 (by kernel_rfl)
          have h5 : slot t 5 = .pointer (some ⟨w.heap.size + 2, 0, none⟩) := hf 5 (by kernel_rfl)
          have h7 : slot t 7 = .string A := hf 7 (by kernel_rfl)
          have h8 : slot t 8 = .string B := hf 8 (by kernel_rfl)
          have h9 : slot t 9 = .bool CO := hf 9 (by kernel_rfl)
          have harr : t = #[slot t 0, slot t 1, slot t 2, slot t 3, slot t 4, slot t 5, slot t 6, slot t 7, slot t 8, slot t 9, slot t 10, slot t 11, slot t 12, slot t 13, slot t 14, slot t 15, slot t 16, slot t 17, slot t 18, slot t 19, slot t 20, slot t 21, slot t 22, slot t 23, slot t 24, slot t 25, slot t 26, slot t 27, slot t 28, slot t 29, slot t 30, slot t 31, slot t 32, slot t 33, slot t 34, slot t 35, slot t 36, slot t 37, slot t 38, slot t 39, slot t 40, slot t 41, slot t 42, slot t 43, slot t 44, slot t 45, slot t 46, slot t 47, slot t 48, slot t 49, slot t 50, slot t 51, slot t 52, slot t 53, slot t 54, slot t 55, slot t 56, slot t 57, slot t 58, slot t 59, slot t 60, slot t 61, slot t 62, slot t 63, slot t 64, slot t 65, slot t 66, slot t 67, slot t 68, slot t 69, slot t 70, slot t 71, slot t 72, slot t 73, slot t 74, slot t 75, slot t 76, slot t 77, slot t 78, slot t 79] := arr_eq t 80 hsz
          rw [harr, h10, h3, h4, h5, h7, h8, h9]
          clear harr hfacts hf h10 h3 h4 h5 h7 h8 h9
          generalize slot t 0 = x0; generalize slot t 1 = x1; generalize slot t 2 = x2; generalize slot t 6 = x6; generalize slot t 11 = x11; generalize slot t 12 = x12; generalize slot t 13 = x13; generalize slot t 14 = x14; generalize slot t 15 = x15; generalize slot t 16 = x16; generalize slot t 17 = x17; generalize slot t 18 = x18
          generalize slot t 19 = x19; generalize slot t 20 = x20; generalize slot t 21 = x21; generalize slot t 22 = x22; generalize slot t 23 = x23; generalize slot t 24 = x24; generalize slot t 25 = x25; generalize slot t 26 = x26; generalize slot t 27 = x27; generalize slot t 28 = x28; generalize slot t 29 = x29; generalize slot t 30 = x30
          generalize slot t 31 = x31; generalize slot t 32 = x32; generalize slot t 33 = x33; generalize slot t 34 = x34; generalize slot t 35 = x35; generalize slot t 36 = x36; generalize slot t 37 = x37; generalize slot t 38 = x38; generalize slot t 39 = x39; generalize slot t 40 = x40; generalize slot t 41 = x41; generalize slot t 42 = x42
          generalize slot t 43 = x43; generalize slot t 44 = x44; generalize slot t 45 = x45; generalize slot t 46 = x46; generalize slot t 47 = x47; generalize slot t 48 = x48; generalize slot t 49 = x49; generalize slot t 50 = x50; generalize slot t 51 = x51; generalize slot t 52 = x52; generalize slot t 53 = x53; generalize slot t 54 = x54
          generalize slot t 55 = x55; generalize slot t 56 = x56; generalize slot t 57 = x57; generalize slot t 58 = x58; generalize slot t 59 = x59; generalize slot t 60 = x60; generalize slot t 61 = x61; generalize slot t 62 = x62; generalize slot t 63 = x63; generalize slot t 64 = x64; generalize slot t 65 = x65; generalize slot t 66 = x66
          generalize slot t 67 = x67; generalize slot t 68 = x68; generalize slot t 69 = x69; generalize slot t 70 = x70; generalize slot t 71 = x71; generalize slot t 72 = x72; generalize slot t 73 = x73; generalize slot t 74 = x74; generalize slot t 75 = x75; generalize slot t 76 = x76; generalize slot t 77 = x77; generalize slot t 78 = x78
          generalize slot t 79 = x79
          clear hsz t
          simp only [List.drop_succ_cons, List.drop_zero]
          have K3 := Lib.hid (K2.out.trans hk)
          have hCO : CO = false := by have := hco.out; simpa using this
          subst hCO
          clear hk hco HC1 HC2 R3 R4 R5 X1 X2 hD1 hD2
          obtain ⟨rfl, rfl⟩ := q1.out rfl
          have e0 := isE_yes
          clear q1 q2 HIs
          go_wp2_with fail
          refine (HA.out _ (HT.out.kept K3.out)).mono ?_
          rintro e v5 ⟨rfl, k5⟩
          have K5 := Lib.hid (K3.out.trans k5)
          clear k5 K3
          go_wp2_with fail
          go_ret
          exact ⟨rfl, K5.out⟩
      | true =>
        cases C2 with
        | false =>
          refine unpark ?_
          refine wpList_table 31 [(30, .is (.agg (bC 32 a0))), (31, .is (.pointer (some ⟨w.heap.size + 1, 0, none⟩))), (32, .is (.string s1)), (33, .is (.pointer (some ⟨w.heap.size + 1, 1, none⟩))), (34, .is (.agg #[.int .i64 a1, .int .i64 b1, .slice p1 n1 c1])), (35, .is (.bool true)), (36, .is (.bool true)), (37, .is (.agg (bC 32 a0))), (38, .is (.pointer (some ⟨w.heap.size + 2, 0, none⟩))), (39, .is (.string s2)), (40, .is (.pointer (some ⟨w.heap.size + 2, 1, none⟩))), (41, .is (.agg #[.int .i64 a2, .int .i64 b2, .slice p2 n2 c2])), (42, .is (.bool false)), (43, .is (.bool false)), (44, .is (.bool false)), (45, .is (undef)), (46, .is (undef)), (47, .is (undef)), (48, .is (undef)), (49, .is (undef)), (50, .is (undef)), (51, .is (undef)), (52, .is (.bool false)), (53, .is (.bool false)), (54, .is (undef)), (55, .is (undef)), (56, .is (undef)), (57, .is (undef)), (58, .is (undef)), (59, .is (.bool false)), (10, .is (.bool false))] (by kernel_rfl) ?_ ?_
          · refine ⟨fun t w1 hf hk hp => ?_, ?_⟩
            · have h3 : slot t 3 = .pointer (some ⟨w.heap.size, 0, none⟩) := hf 3 (by kernel_rfl)
              clear hf hp
              refine stepAt_plain rfl ?_
              exact stepOK_pure (.agg (bC 32 a0)) (loadHr rfl h3 (R3.out.kept hk)) rfl
            refine ⟨fun t w1 hf hk hp => ?_, ?_⟩
            · have h4 : slot t 4 = .pointer (some ⟨w.heap.size + 1, 0, none⟩) := hf 4 (by kernel_rfl)
              clear hf hp
              refine stepAt_plain rfl ?_
              exact stepOK_pure (.pointer (some ⟨w.heap.size + 1, 0, none⟩)) (execFieldL (w.heap.size + 1) 0 (by omega) w1 rfl h4) rfl
            refine ⟨fun t w1 hf hk hp => ?_, ?_⟩
            · have h31 : slot t 31 = .pointer (some ⟨w.heap.size + 1, 0, none⟩) := hp 31 (by kernel_rfl)
              clear hf hp
              refine stepAt_plain rfl ?_
              have hq0 := run_loadLS (R4.out.kept hk)
              exact stepOK_sem (.string s1) (by simp only [execOp, evS, h31]) hq0 rfl
            refine ⟨fun t w1 hf hk hp => ?_, ?_⟩
            · have h4 : slot t 4 = .pointer (some ⟨w.heap.size + 1, 0, none⟩) := hf 4 (by kernel_rfl)
              clear hf hp
              refine stepAt_plain rfl ?_
              exact stepOK_pure (.pointer (some ⟨w.heap.size + 1, 1, none⟩)) (execFieldL (w.heap.size + 1) 1 (by omega) w1 rfl h4) rfl
            refine ⟨fun t w1 hf hk hp => ?_, ?_⟩
            · have h33 : slot t 33 = .pointer (some ⟨w.heap.size + 1, 1, none⟩) := hp 33 (by kernel_rfl)
              clear hf hp
              refine stepAt_plain rfl ?_
              have hq0 := run_loadLO (R4.out.kept hk)
              exact stepOK_sem (.agg #[.int .i64 a1, .int .i64 b1, .slice p1 n1 c1]) (by simp only [execOp, evS, h33]) hq0 rfl
            refine ⟨fun t w1 hf hk hp => ?_, ?_⟩
            · have h30 : slot t 30 = .agg (bC 32 a0) := hp 30 (by kernel_rfl)
              have h32 : slot t 32 = .string s1 := hp 32 (by kernel_rfl)
              have h34 : slot t 34 = .agg #[.int .i64 a1, .int .i64 b1, .slice p1 n1 c1] := hp 34 (by kernel_rfl)
              clear hf hp
              refine stepAt_plain rfl ?_
              refine stepOK_call #[.agg (bC 32 a0), .string s1, .agg #[.int .i64 a1, .int .i64 b1, .slice p1 n1 c1]] rfl (by simp only [List.map_toArray, List.map_cons, List.map_nil, evS, h30, h32, h34]) (by go_simp) ((HC1.out w1 (HSl.kept _ _ _ _ _ (K2.out.trans hk) X1.out)).mono fun e w' ⟨he, hk'⟩ => ⟨_, he, hk', rfl⟩)
            refine ⟨fun t w1 hf hk hp => ?_, ?_⟩
            · have h35 : slot t 35 = .bool true := hp 35 (by kernel_rfl)
              clear hf hp
              refine stepAt_plain rfl ?_
              exact stepOK_move _ (.inl rfl) h35
            refine ⟨fun t w1 hf hk hp => ?_, ?_⟩
            · have h3 : slot t 3 = .pointer (some ⟨w.heap.size, 0, none⟩) := hf 3 (by kernel_rfl)
              have h36 : slot t 36 = .bool true := hp 36 (by kernel_rfl)
              clear hf hp
              refine stepAt_on 36 true (by kernel_rfl) h36 ?_
              exact stepOK_pure (.agg (bC 32 a0)) (loadHr rfl h3 (R3.out.kept hk)) rfl
            refine ⟨fun t w1 hf hk hp => ?_, ?_⟩
            · have h5 : slot t 5 = .pointer (some ⟨w.heap.size + 2, 0, none⟩) := hf 5 (by kernel_rfl)
              have h36 : slot t 36 = .bool true := hp 36 (by kernel_rfl)
              clear hf hp
              refine stepAt_on 36 true (by kernel_rfl) h36 ?_
              exact stepOK_pure (.pointer (some ⟨w.heap.size + 2, 0, none⟩)) (execFieldL (w.heap.size + 2) 0 (by omega) w1 rfl h5) rfl
            refine ⟨fun t w1 hf hk hp => ?_, ?_⟩
            · have h38 : slot t 38 = .pointer (some ⟨w.heap.size + 2, 0, none⟩) := hp 38 (by kernel_rfl)
              have h36 : slot t 36 = .bool true := hp 36 (by kernel_rfl)
              clear hf hp
              refine stepAt_on 36 true (by kernel_rfl) h36 ?_
              have hq0 := run_loadLS (R5.out.kept hk)
              exact stepOK_sem (.string s2) (by simp only [execOp, evS, h38]) hq0 rfl
            refine ⟨fun t w1 hf hk hp => ?_, ?_⟩
            · have h5 : slot t 5 = .pointer (some ⟨w.heap.size + 2, 0, none⟩) := hf 5 (by kernel_rfl)
              have h36 : slot t 36 = .bool true := hp 36 (by kernel_rfl)
              clear hf hp
              refine stepAt_on 36 true (by kernel_rfl) h36 ?_
              exact stepOK_pure (.pointer (some ⟨w.heap.size + 2, 1, none⟩)) (execFieldL (w.heap.size + 2) 1 (by omega) w1 rfl h5) rfl
            refine ⟨fun t w1 hf hk hp => ?_, ?_⟩
            · have h40 : slot t 40 = .pointer (some ⟨w.heap.size + 2, 1, none⟩) := hp 40 (by kernel_rfl)
              have h36 : slot t 36 = .bool true := hp 36 (by kernel_rfl)
              clear hf hp
              refine stepAt_on 36 true (by kernel_rfl) h36 ?_
              have hq0 := run_loadLO (R5.out.kept hk)
              exact stepOK_sem (.agg #[.int .i64 a2, .int .i64 b2, .slice p2 n2 c2]) (by simp only [execOp, evS, h40]) hq0 rfl
            refine ⟨fun t w1 hf hk hp => ?_, ?_⟩
            · have h37 : slot t 37 = .agg (bC 32 a0) := hp 37 (by kernel_rfl)
              have h39 : slot t 39 = .string s2 := hp 39 (by kernel_rfl)
              have h41 : slot t 41 = .agg #[.int .i64 a2, .int .i64 b2, .slice p2 n2 c2] := hp 41 (by kernel_rfl)
              have h36 : slot t 36 = .bool true := hp 36 (by kernel_rfl)
              clear hf hp
              refine stepAt_on 36 true (by kernel_rfl) h36 ?_
              refine stepOK_call #[.agg (bC 32 a0), .string s2, .agg #[.int .i64 a2, .int .i64 b2, .slice p2 n2 c2]] rfl (by simp only [List.map_toArray, List.map_cons, List.map_nil, evS, h37, h39, h41]) (by go_simp) ((HC2.out w1 (HSl.kept _ _ _ _ _ (K2.out.trans hk) X2.out)).mono fun e w' ⟨he, hk'⟩ => ⟨_, he, hk', rfl⟩)
            refine ⟨fun t w1 hf hk hp => ?_, ?_⟩
            · have h36 : slot t 36 = .bool true := hp 36 (by kernel_rfl)
              have h42 : slot t 42 = .bool false := hp 42 (by kernel_rfl)
              clear hf hp
              refine stepAt_plain rfl ?_
              refine stepOK_pure (.bool false) ?_ rfl
              simp only [execOp, evS, h36, h42]
              go_simp
            refine ⟨fun t w1 hf hk hp => ?_, ?_⟩
            · have h43 : slot t 43 = .bool false := hp 43 (by kernel_rfl)
              clear hf hp
              refine stepAt_plain rfl ?_
              exact stepOK_move _ (.inl rfl) h43
            refine ⟨fun t w1 hf hk hp => ?_, ?_⟩
            · have h44 : slot t 44 = .bool false := hp 44 (by kernel_rfl)
              clear hf hp
              exact stepAt_off 44 true (by kernel_rfl) h44 rfl
            refine ⟨fun t w1 hf hk hp => ?_, ?_⟩
            · have h44 : slot t 44 = .bool false := hp 44 (by kernel_rfl)
              clear hf hp
              exact stepAt_off 44 true (by kernel_rfl) h44 rfl
            refine ⟨fun t w1 hf hk hp => ?_, ?_⟩
            · have h44 : slot t 44 = .bool false := hp 44 (by kernel_rfl)
              clear hf hp
              exact stepAt_off 44 true (by kernel_rfl) h44 rfl
            refine ⟨fun t w1 hf hk hp => ?_, ?_⟩
            · have h44 : slot t 44 = .bool false := hp 44 (by kernel_rfl)
              clear hf hp
              exact stepAt_off 44 true (by kernel_rfl) h44 rfl
            refine ⟨fun t w1 hf hk hp => ?_, ?_⟩
            · have h44 : slot t 44 = .bool false := hp 44 (by kernel_rfl)
              clear hf hp
              exact stepAt_off 44 true (by kernel_rfl) h44 rfl
            refine ⟨fun t w1 hf hk hp => ?_, ?_⟩
            · have h44 : slot t 44 = .bool false := hp 44 (by kernel_rfl)
              clear hf hp
              exact stepAt_off 44 true (by kernel_rfl) h44 rfl
            refine ⟨fun t w1 hf hk hp => ?_, ?_⟩
            · have h44 : slot t 44 = .bool false := hp 44 (by kernel_rfl)
              clear hf hp
              exact stepAt_off 44 true (by kernel_rfl) h44 rfl
            refine ⟨fun t w1 hf hk hp => ?_, ?_⟩
            · have h44 : slot t 44 = .bool false := hp 44 (by kernel_rfl)
              have h51 : slot t 51 = undef := hp 51 (by kernel_rfl)
              clear hf hp
              refine stepAt_plain rfl ?_
              refine stepOK_pure (.bool false) ?_ rfl
              simp only [execOp, evS, h44, h51]
              go_simp
            refine ⟨fun t w1 hf hk hp => ?_, ?_⟩
            · have h52 : slot t 52 = .bool false := hp 52 (by kernel_rfl)
              clear hf hp
              refine stepAt_plain rfl ?_
              exact stepOK_move _ (.inl rfl) h52
            refine ⟨fun t w1 hf hk hp => ?_, ?_⟩
            · have h53 : slot t 53 = .bool false := hp 53 (by kernel_rfl)
              clear hf hp
              exact stepAt_off 53 true (by kernel_rfl) h53 rfl
            refine ⟨fun t w1 hf hk hp => ?_, ?_⟩
            · have h53 : slot t 53 = .bool false := hp 53 (by kernel_rfl)
              clear hf hp
              exact stepAt_off 53 true (by kernel_rfl) h53 rfl
            refine ⟨fun t w1 hf hk hp => ?_, ?_⟩
            · have h53 : slot t 53 = .bool false := hp 53 (by kernel_rfl)
              clear hf hp
              exact stepAt_off 53 true (by kernel_rfl) h53 rfl
            refine ⟨fun t w1 hf hk hp => ?_, ?_⟩
            · have h53 : slot t 53 = .bool false := hp 53 (by kernel_rfl)
              clear hf hp
              exact stepAt_off 53 true (by kernel_rfl) h53 rfl
            refine ⟨fun t w1 hf hk hp => ?_, ?_⟩
            · have h53 : slot t 53 = .bool false := hp 53 (by kernel_rfl)
              clear hf hp
              exact stepAt_off 53 true (by kernel_rfl) h53 rfl
            refine ⟨fun t w1 hf hk hp => ?_, ?_⟩
            · have h53 : slot t 53 = .bool false := hp 53 (by kernel_rfl)
              have h58 : slot t 58 = undef := hp 58 (by kernel_rfl)
              clear hf hp
              refine stepAt_plain rfl ?_
              refine stepOK_pure (.bool false) ?_ rfl
              simp only [execOp, evS, h53, h58]
              go_simp
            refine ⟨fun t w1 hf hk hp => ?_, ?_⟩
            · have h59 : slot t 59 = .bool false := hp 59 (by kernel_rfl)
              clear hf hp
              refine stepAt_plain rfl ?_
              exact stepOK_move _ (.inr rfl) h59
            exact trivial
          · intro t w1 hsz hf hk hfacts
            have h10 : slot t 10 = .bool false := hfacts 10 (by kernel_rfl)
            have h3 : slot t 3 = .pointer (some ⟨w.heap.size, 0, none⟩) := hf 3 (by kernel_rfl)
            have h4 : slot t 4 = .pointer (some ⟨w.heap.size + 1, 0, none⟩) := hf 4 (by kernel_rfl)
            have h5 : slot t 5 = .pointer (some ⟨w.heap.size + 2, 0, none⟩) := hf 5 (by kernel_rfl)
            have h7 : slot t 7 = .string A := hf 7 (by kernel_rfl)
            have h8 : slot t 8 = .string B := hf 8 (by kernel_rfl)
            have h9 : slot t 9 = .bool CO := hf 9 (by kernel_rfl)
            have harr : t = #[slot t 0, slot t 1, slot t 2, slot t 3, slot t 4, slot t 5, slot t 6, slot t 7, slot t 8, slot t 9, slot t 10, slot t 11, slot t 12, slot t 13, slot t 14, slot t 15, slot t 16, slot t 17, slot t 18, slot t 19, slot t 20, slot t 21, slot t 22, slot t 23, slot t 24, slot t 25, slot t 26, slot t 27, slot t 28, slot t 29, slot t 30, slot t 31, slot t 32, slot t 33, slot t 34, slot t 35, slot t 36, slot t 37, slot t 38, slot t 39, slot t 40, slot t 41, slot t 42, slot t 43, slot t 44, slot t 45, slot t 46, slot t 47, slot t 48, slot t 49, slot t 50, slot t 51, slot t 52, slot t 53, slot t 54, slot t 55, slot t 56, slot t 57, slot t 58, slot t 59, slot t 60, slot t 61, slot t 62, slot t 63, slot t 64, slot t 65, slot t 66, slot t 67, slot t 68, slot t 69, slot t 70, slot t 71, slot t 72, slot t 73, slot t 74, slot t 75, slot t 76, slot t 77, slot t 78, slot t 79] := arr_eq t 80 hsz
            rw [harr, h10, h3, h4, h5, h7, h8, h9]
            clear harr hfacts hf h10 h3 h4 h5 h7 h8 h9
            generalize slot t 0 = x0; generalize slot t 1 = x1; generalize slot t 2 = x2; generalize slot t 6 = x6; generalize slot t 11 = x11; generalize slot t 12 = x12; generalize slot t 13 = x13; generalize slot t 14 = x14; generalize slot t 15 = x15; generalize slot t 16 = x16; generalize slot t 17 = x17; generalize slot t 18 = x18
            generalize slot t 19 = x19; generalize slot t 20 = x20; generalize slot t 21 = x21; generalize slot t 22 = x22; generalize slot t 23 = x23; generalize slot t 24 = x24; generalize slot t 25 = x25; generalize slot t 26 = x26; generalize slot t 27 = x27; generalize slot t 28 = x28; generalize slot t 29 = x29; generalize slot t 30 = x30
            generalize slot t 31 = x31; generalize slot t 32 = x32; generalize slot t 33 = x33; generalize slot t 34 = x34; generalize slot t 35 = x35; generalize slot t 36 = x36; generalize slot t 37 = x37; generalize slot t 38 = x38; generalize slot t 39 = x39; generalize slot t 40 = x40; generalize slot t 41 = x41; generalize slot t 42 = x42
            generalize slot t 43 = x43; generalize slot t 44 = x44; generalize slot t 45 = x45; generalize slot t 46 = x46; generalize slot t 47 = x47; generalize slot t 48 = x48; generalize slot t 49 = x49; generalize slot t 50 = x50; generalize slot t 51 = x51; generalize slot t 52 = x52; generalize slot t 53 = x53; generalize slot t 54 = x54
            generalize slot t 55 = x55; generalize slot t 56 = x56; generalize slot t 57 = x57; generalize slot t 58 = x58; generalize slot t 59 = x59; generalize slot t 60 = x60; generalize slot t 61 = x61; generalize slot t 62 = x62; generalize slot t 63 = x63; generalize slot t 64 = x64; generalize slot t 65 = x65; generalize slot t 66 = x66
            generalize slot t 67 = x67; generalize slot t 68 = x68; generalize slot t 69 = x69; generalize slot t 70 = x70; generalize slot t 71 = x71; generalize slot t 72 = x72; generalize slot t 73 = x73; generalize slot t 74 = x74; generalize slot t 75 = x75; generalize slot t 76 = x76; generalize slot t 77 = x77; generalize slot t 78 = x78
            generalize slot t 79 = x79
            clear hsz t
            simp only [List.drop_succ_cons, List.drop_zero]
            have K3 := Lib.hid (K2.out.trans hk)
            have hCO : CO = false := by have := hco.out; simpa using this
            subst hCO
            clear hk hco HC1 HC2 R3 R4 R5 X1 X2 hD1 hD2
            obtain ⟨rfl, rfl⟩ := q1.out rfl
            have e0 := isE_yes
            clear q1 q2 HIs
            go_wp2_with fail
            refine (HA.out _ (HT.out.kept K3.out)).mono ?_
            rintro e v5 ⟨rfl, k5⟩
            have K5 := Lib.hid (K3.out.trans k5)
            clear k5 K3
            go_wp2_with fail
            go_ret
            exact ⟨rfl, K5.out⟩
        | true =>
          cases D2 with
          | false =>
            refine unpark ?_
            refine wpList_table 31 [(30, .is (.agg (bC 32 a0))), (31, .is (.pointer (some ⟨w.heap.size + 1, 0, none⟩))), (32, .is (.string s1)), (33, .is (.pointer (some ⟨w.heap.size + 1, 1, none⟩))), (34, .is (.agg #[.int .i64 a1, .int .i64 b1, .slice p1 n1 c1])), (35, .is (.bool true)), (36, .is (.bool true)), (37, .is (.agg (bC 32 a0))), (38, .is (.pointer (some ⟨w.heap.size + 2, 0, none⟩))), (39, .is (.string s2)), (40, .is (.pointer (some ⟨w.heap.size + 2, 1, none⟩))), (41, .is (.agg #[.int .i64 a2, .int .i64 b2, .slice p2 n2 c2])), (42, .is (.bool true)), (43, .is (.bool true)), (44, .is (.bool true)), (45, .is (.pointer (some ⟨w.heap.size + 1, 1, none⟩))), (46, .is (.pointer (some ⟨w.heap.size + 1, 1, none⟩))), (47, .is (.int .i64 a1)), (48, .is (.pointer (some ⟨w.heap.size + 2, 1, none⟩))), (49, .is (.pointer (some ⟨w.heap.size + 2, 1, none⟩))), (50, .is (.int .i64 a2)), (51, .is (.bool false)), (52, .is (.bool false)), (53, .is (.bool false)), (54, .is (undef)), (55, .is (undef)), (56, .is (undef)), (57, .is (undef)), (58, .is (undef)), (59, .is (.bool false)), (10, .is (.bool false))] (by kernel_rfl) ?_ ?_
            · refine ⟨fun t w1 hf hk hp => ?_, ?_⟩
              · have h3 : slot t 3 = .pointer (some ⟨w.heap.size, 0, none⟩) := hf 3 (by kernel_rfl)
                clear hf hp
                refine stepAt_plain rfl ?_
                exact stepOK_pure (.agg (bC 32 a0)) (loadHr rfl h3 (R3.out.kept hk)) rfl
              refine ⟨fun t w1 hf hk hp => ?_, ?_⟩
              · have h4 : slot t 4 = .pointer (some ⟨w.heap.size + 1, 0, none⟩) := hf 4 (by kernel_rfl)
                clear hf hp
                refine stepAt_plain rfl ?_
                exact stepOK_pure (.pointer (some ⟨w.heap.size + 1, 0, none⟩)) (execFieldL (w.heap.size + 1) 0 (by omega) w1 rfl h4) rfl
              refine ⟨fun t w1 hf hk hp => ?_, ?_⟩
              · have h31 : slot t 31 = .pointer (some ⟨w.heap.size + 1, 0, none⟩) := hp 31 (by kernel_rfl)
                clear hf hp
                refine stepAt_plain rfl ?_
                have hq0 := run_loadLS (R4.out.kept hk)
                exact stepOK_sem (.string s1) (by simp only [execOp, evS, h31]) hq0 rfl
              refine ⟨fun t w1 hf hk hp => ?_, ?_⟩
              · have h4 : slot t 4 = .pointer (some ⟨w.heap.size + 1, 0, none⟩) := hf 4 (by kernel_rfl)
                clear hf hp
                refine stepAt_plain rfl ?_
                exact stepOK_pure (.pointer (some ⟨w.heap.size + 1, 1, none⟩)) (execFieldL (w.heap.size + 1) 1 (by omega) w1 rfl h4) rfl
              refine ⟨fun t w1 hf hk hp => ?_, ?_⟩
              · have h33 : slot t 33 = .pointer (some ⟨w.heap.size + 1, 1, none⟩) := hp 33 (by kernel_rfl)
                clear hf hp
                refine stepAt_plain rfl ?_
                have hq0 := run_loadLO (R4.out.kept hk)
                exact stepOK_sem (.agg #[.int .i64 a1, .int .i64 b1, .slice p1 n1 c1]) (by simp only [execOp, evS, h33]) hq0 rfl
              refine ⟨fun t w1 hf hk hp => ?_, ?_⟩
              · have h30 : slot t 30 = .agg (bC 32 a0) := hp 30 (by kernel_rfl)
                have h32 : slot t 32 = .string s1 := hp 32 (by kernel_rfl)
                have h34 : slot t 34 = .agg #[.int .i64 a1, .int .i64 b1, .slice p1 n1 c1] := hp 34 (by kernel_rfl)
                clear hf hp
                refine stepAt_plain rfl ?_
                refine stepOK_call #[.agg (bC 32 a0), .string s1, .agg #[.int .i64 a1, .int .i64 b1, .slice p1 n1 c1]] rfl (by simp only [List.map_toArray, List.map_cons, List.map_nil, evS, h30, h32, h34]) (by go_simp) ((HC1.out w1 (HSl.kept _ _ _ _ _ (K2.out.trans hk) X1.out)).mono fun e w' ⟨he, hk'⟩ => ⟨_, he, hk', rfl⟩)
              refine ⟨fun t w1 hf hk hp => ?_, ?_⟩
              · have h35 : slot t 35 = .bool true := hp 35 (by kernel_rfl)
                clear hf hp
                refine stepAt_plain rfl ?_
                exact stepOK_move _ (.inl rfl) h35
              refine ⟨fun t w1 hf hk hp => ?_, ?_⟩
              · have h3 : slot t 3 = .pointer (some ⟨w.heap.size, 0, none⟩) := hf 3 (by kernel_rfl)
                have h36 : slot t 36 = .bool true := hp 36 (by kernel_rfl)
                clear hf hp
                refine stepAt_on 36 true (by kernel_rfl) h36 ?_
                exact stepOK_pure (.agg (bC 32 a0)) (loadHr rfl h3 (R3.out.kept hk)) rfl
              refine ⟨fun t w1 hf hk hp => ?_, ?_⟩
              · have h5 : slot t 5 = .pointer (some ⟨w.heap.size + 2, 0, none⟩) := hf 5 (by kernel_rfl)
                have h36 : slot t 36 = .bool true := hp 36 (by kernel_rfl)
                clear hf hp
                refine stepAt_on 36 true (by kernel_rfl) h36 ?_
                exact stepOK_pure (.pointer (some ⟨w.heap.size + 2, 0, none⟩)) (execFieldL (w.heap.size + 2) 0 (by omega) w1 rfl h5) rfl
              refine ⟨fun t w1 hf hk hp => ?_, ?_⟩
              · have h38 : slot t 38 = .pointer (some ⟨w.heap.size + 2, 0, none⟩) := hp 38 (by kernel_rfl)
                have h36 : slot t 36 = .bool true := hp 36 (by kernel_rfl)
                clear hf hp
                refine stepAt_on 36 true (by kernel_rfl) h36 ?_
                have hq0 := run_loadLS (R5.out.kept hk)
                exact stepOK_sem (.string s2) (by simp only [execOp, evS, h38]) hq0 rfl
              refine ⟨fun t w1 hf hk hp => ?_, ?_⟩
              · have h5 : slot t 5 = .pointer (some ⟨w.heap.size + 2, 0, none⟩) := hf 5 (by kernel_rfl)
                have h36 : slot t 36 = .bool true := hp 36 (by kernel_rfl)
                clear hf hp
                refine stepAt_on 36 true (by kernel_rfl) h36 ?_
                exact stepOK_pure (.pointer (some ⟨w.heap.size + 2, 1, none⟩)) (execFieldL (w.heap.size + 2) 1 (by omega) w1 rfl h5) rfl
              refine ⟨fun t w1 hf hk hp => ?_, ?_⟩
              · have h40 : slot t 40 = .pointer (some ⟨w.heap.size + 2, 1, none⟩) := hp 40 (by kernel_rfl)
                have h36 : slot t 36 = .bool true := hp 36 (by kernel_rfl)
                clear hf hp
                refine stepAt_on 36 true (by kernel_rfl) h36 ?_
                have hq0 := run_loadLO (R5.out.kept hk)
                exact stepOK_sem (.agg #[.int .i64 a2, .int .i64 b2, .slice p2 n2 c2]) (by simp only [execOp, evS, h40]) hq0 rfl
              refine ⟨fun t w1 hf hk hp => ?_, ?_⟩
              · have h37 : slot t 37 = .agg (bC 32 a0) := hp 37 (by kernel_rfl)
                have h39 : slot t 39 = .string s2 := hp 39 (by kernel_rfl)
                have h41 : slot t 41 = .agg #[.int .i64 a2, .int .i64 b2, .slice p2 n2 c2] := hp 41 (by kernel_rfl)
                have h36 : slot t 36 = .bool true := hp 36 (by kernel_rfl)
                clear hf hp
                refine stepAt_on 36 true (by kernel_rfl) h36 ?_
                refine stepOK_call #[.agg (bC 32 a0), .string s2, .agg #[.int .i64 a2, .int .i64 b2, .slice p2 n2 c2]] rfl (by simp only [List.map_toArray, List.map_cons, List.map_nil, evS, h37, h39, h41]) (by go_simp) ((HC2.out w1 (HSl.kept _ _ _ _ _ (K2.out.trans hk) X2.out)).mono fun e w' ⟨he, hk'⟩ => ⟨_, he, hk', rfl⟩)
              refine ⟨fun t w1 hf hk hp => ?_, ?_⟩
              · have h36 : slot t 36 = .bool true := hp 36 (by kernel_rfl)
                have h42 : slot t 42 = .bool true := hp 42 (by kernel_rfl)
                clear hf hp
                refine stepAt_plain rfl ?_
                refine stepOK_pure (.bool true) ?_ rfl
                simp only [execOp, evS, h36, h42]
                go_simp
              refine ⟨fun t w1 hf hk hp => ?_, ?_⟩
              · have h43 : slot t 43 = .bool true := hp 43 (by kernel_rfl)
                clear hf hp
                refine stepAt_plain rfl ?_
                exact stepOK_move _ (.inl rfl) h43
              refine ⟨fun t w1 hf hk hp => ?_, ?_⟩
              · have h4 : slot t 4 = .pointer (some ⟨w.heap.size + 1, 0, none⟩) := hf 4 (by kernel_rfl)
                have h44 : slot t 44 = .bool true := hp 44 (by kernel_rfl)
                clear hf hp
                refine stepAt_on 44 true (by kernel_rfl) h44 ?_
                exact stepOK_pure (.pointer (some ⟨w.heap.size + 1, 1, none⟩)) (execFieldL (w.heap.size + 1) 1 (by omega) w1 rfl h4) rfl
              refine ⟨fun t w1 hf hk hp => ?_, ?_⟩
              · have h45 : slot t 45 = .pointer (some ⟨w.heap.size + 1, 1, none⟩) := hp 45 (by kernel_rfl)
                have h44 : slot t 44 = .bool true := hp 44 (by kernel_rfl)
                clear hf hp
                refine stepAt_on 44 true (by kernel_rfl) h44 ?_
                exact stepOK_pure (.pointer (some ⟨w.heap.size + 1, 1, none⟩)) (execFieldO1 (w.heap.size + 1) 0 1 (by omega) rfl w1 rfl h45) rfl
              refine ⟨fun t w1 hf hk hp => ?_, ?_⟩
              · have h46 : slot t 46 = .pointer (some ⟨w.heap.size + 1, 1, none⟩) := hp 46 (by kernel_rfl)
                have h44 : slot t 44 = .bool true := hp 44 (by kernel_rfl)
                clear hf hp
                refine stepAt_on 44 true (by kernel_rfl) h44 ?_
                have hq0 := run_loadI ((R4.out.kept hk).cell 1)
                exact stepOK_sem (.int .i64 a1) (by simp only [execOp, evS, h46]) hq0 rfl
              refine ⟨fun t w1 hf hk hp => ?_, ?_⟩
              · have h5 : slot t 5 = .pointer (some ⟨w.heap.size + 2, 0, none⟩) := hf 5 (by kernel_rfl)
                have h44 : slot t 44 = .bool true := hp 44 (by kernel_rfl)
                clear hf hp
                refine stepAt_on 44 true (by kernel_rfl) h44 ?_
                exact stepOK_pure (.pointer (some ⟨w.heap.size + 2, 1, none⟩)) (execFieldL (w.heap.size + 2) 1 (by omega) w1 rfl h5) rfl
              refine ⟨fun t w1 hf hk hp => ?_, ?_⟩
              · have h48 : slot t 48 = .pointer (some ⟨w.heap.size + 2, 1, none⟩) := hp 48 (by kernel_rfl)
                have h44 : slot t 44 = .bool true := hp 44 (by kernel_rfl)
                clear hf hp
                refine stepAt_on 44 true (by kernel_rfl) h44 ?_
                exact stepOK_pure (.pointer (some ⟨w.heap.size + 2, 1, none⟩)) (execFieldO1 (w.heap.size + 2) 0 1 (by omega) rfl w1 rfl h48) rfl
              refine ⟨fun t w1 hf hk hp => ?_, ?_⟩
              · have h49 : slot t 49 = .pointer (some ⟨w.heap.size + 2, 1, none⟩) := hp 49 (by kernel_rfl)
                have h44 : slot t 44 = .bool true := hp 44 (by kernel_rfl)
                clear hf hp
                refine stepAt_on 44 true (by kernel_rfl) h44 ?_
                have hq0 := run_loadI ((R5.out.kept hk).cell 1)
                exact stepOK_sem (.int .i64 a2) (by simp only [execOp, evS, h49]) hq0 rfl
              refine ⟨fun t w1 hf hk hp => ?_, ?_⟩
              · have h47 : slot t 47 = .int .i64 a1 := hp 47 (by kernel_rfl)
                have h50 : slot t 50 = .int .i64 a2 := hp 50 (by kernel_rfl)
                have h44 : slot t 44 = .bool true := hp 44 (by kernel_rfl)
                clear hf hp
                refine stepAt_on 44 true (by kernel_rfl) h44 ?_
                exact stepOK_pure (.bool false) (by rw [hD2.out]; exact execEqI a1 a2 w1 rfl h47 h50) rfl
              refine ⟨fun t w1 hf hk hp => ?_, ?_⟩
              · have h44 : slot t 44 = .bool true := hp 44 (by kernel_rfl)
                have h51 : slot t 51 = .bool false := hp 51 (by kernel_rfl)
                clear hf hp
                refine stepAt_plain rfl ?_
                refine stepOK_pure (.bool false) ?_ rfl
                simp only [execOp, evS, h44, h51]
                go_simp
              refine ⟨fun t w1 hf hk hp => ?_, ?_⟩
              · have h52 : slot t 52 = .bool false := hp 52 (by kernel_rfl)
                clear hf hp
                refine stepAt_plain rfl ?_
                exact stepOK_move _ (.inl rfl) h52
              refine ⟨fun t w1 hf hk hp => ?_, ?_⟩
              · have h53 : slot t 53 = .bool false := hp 53 (by kernel_rfl)
                clear hf hp
                exact stepAt_off 53 true (by kernel_rfl) h53 rfl
              refine ⟨fun t w1 hf hk hp => ?_, ?_⟩
              · have h53 : slot t 53 = .bool false := hp 53 (by kernel_rfl)
                clear hf hp
                exact stepAt_off 53 true (by kernel_rfl) h53 rfl
              refine ⟨fun t w1 hf hk hp => ?_, ?_⟩
              · have h53 : slot t 53 = .bool false := hp 53 (by kernel_rfl)
                clear hf hp
                exact stepAt_off 53 true (by kernel_rfl) h53 rfl
              refine ⟨fun t w1 hf hk hp => ?_, ?_⟩
              · have h53 : slot t 53 = .bool false := hp 53 (by kernel_rfl)
                clear hf hp
                exact stepAt_off 53 true (by kernel_rfl) h53 rfl
              refine ⟨fun t w1 hf hk hp => ?_, ?_⟩
              · have h53 : slot t 53 = .bool false := hp 53 (by kernel_rfl)
                clear hf hp
                exact stepAt_off 53 true (by kernel_rfl) h53 rfl
              refine ⟨fun t w1 hf hk hp => ?_, ?_⟩
              · have h53 : slot t 53 = .bool false := hp 53 (by kernel_rfl)
                have h58 : slot t 58 = undef := hp 58 (by kernel_rfl)
                clear hf hp
                refine stepAt_plain rfl ?_
                refine stepOK_pure (.bool false) ?_ rfl
                simp only [execOp, evS, h53, h58]
                go_simp
              refine ⟨fun t w1 hf hk hp => ?_, ?_⟩
              · have h59 : slot t 59 = .bool false := hp 59 (by kernel_rfl)
                clear hf hp
                refine stepAt_plain rfl ?_
                exact stepOK_move _ (.inr rfl) h59
              exact trivial
            · intro t w1 hsz hf hk hfacts
              have h10 : slot t 10 = .bool false := hfacts 10 (by kernel_rfl)
              have h3 : slot t 3 = .pointer (some ⟨w.heap.size, 0, none⟩) := hf 3 (by kernel_rfl)
              have h4 : slot t 4 = .pointer (some ⟨w.heap.size + 1, 0, none⟩) := hf 4 (by kernel_rfl)
              have h5 : slot t 5 = .pointer (some ⟨w.heap.size + 2, 0, none⟩) := hf 5 (by kernel_rfl)
              have h7 : slot t 7 = .string A := hf 7 (by kernel_rfl)
              have h8 : slot t 8 = .string B := hf 8 (by kernel_rfl)
              have h9 : slot t 9 = .bool CO := hf 9 (by kernel_rfl)
              have harr : t = #[slot t 0, slot t 1, slot t 2, slot t 3, slot t 4, slot t 5, slot t 6, slot t 7, slot t 8, slot t 9, slot t 10, slot t 11, slot t 12, slot t 13, slot t 14, slot t 15, slot t 16, slot t 17, slot t 18, slot t 19, slot t 20, slot t 21, slot t 22, slot t 23, slot t 24, slot t 25, slot t 26, slot t 27, slot t 28, slot t 29, slot t 30, slot t 31, slot t 32, slot t 33, slot t 34, slot t 35, slot t 36, slot t 37, slot t 38, slot t 39, slot t 40, slot t 41, slot t 42, slot t 43, slot t 44, slot t 45, slot t 46, slot t 47, slot t 48, slot t 49, slot t 50, slot t 51, slot t 52, slot t 53, slot t 54, slot t 55, slot t 56, slot t 57, slot t 58, slot t 59, slot t 60, slot t 61, slot t 62, slot t 63, slot t 64, slot t 65, slot t 66, slot t 67, slot t 68, slot t 69, slot t 70, slot t 71, slot t 72, slot t 73, slot t 74, slot t 75, slot t 76, slot t 77, slot t 78, slot t 79] := arr_eq t 80 hsz
              rw [harr, h10, h3, h4, h5, h7, h8, h9]
              clear harr hfacts hf h10 h3 h4 h5 h7 h8 h9
              generalize slot t 0 = x0; generalize slot t 1 = x1; generalize slot t 2 = x2; generalize slot t 6 = x6; generalize slot t 11 = x11; generalize slot t 12 = x12; generalize slot t 13 = x13; generalize slot t 14 = x14; generalize slot t 15 = x15; generalize slot t 16 = x16; generalize slot t 17 = x17; generalize slot t 18 = x18
              generalize slot t 19 = x19; generalize slot t 20 = x20; generalize slot t 21 = x21; generalize slot t 22 = x22; generalize slot t 23 = x23; generalize slot t 24 = x24; generalize slot t 25 = x25; generalize slot t 26 = x26; generalize slot t 27 = x27; generalize slot t 28 = x28; generalize slot t 29 = x29; generalize slot t 30 = x30
              generalize slot t 31 = x31; generalize slot t 32 = x32; generalize slot t 33 = x33; generalize slot t 34 = x34; generalize slot t 35 = x35; generalize slot t 36 = x36; generalize slot t 37 = x37; generalize slot t 38 = x38; generalize slot t 39 = x39; generalize slot t 40 = x40; generalize slot t 41 = x41; generalize slot t 42 = x42
              generalize slot t 43 = x43; generalize slot t 44 = x44; generalize slot t 45 = x45; generalize slot t 46 = x46; generalize slot t 47 = x47; generalize slot t 48 = x48; generalize slot t 49 = x49; generalize slot t 50 = x50; generalize slot t 51 = x51; generalize slot t 52 = x52; generalize slot t 53 = x53; generalize slot t 54 = x54
              generalize slot t 55 = x55; generalize slot t 56 = x56; generalize slot t 57 = x57; generalize slot t 58 = x58; generalize slot t 59 = x59; generalize slot t 60 = x60; generalize slot t 61 = x61; generalize slot t 62 = x62; generalize slot t 63 = x63; generalize slot t 64 = x64; generalize slot t 65 = x65; generalize slot t 66 = x66
              generalize slot t 67 = x67; generalize slot t 68 = x68; generalize slot t 69 = x69; generalize slot t 70 = x70; generalize slot t 71 = x71; generalize slot t 72 = x72; generalize slot t 73 = x73; generalize slot t 74 = x74; generalize slot t 75 = x75; generalize slot t 76 = x76; generalize slot t 77 = x77; generalize slot t 78 = x78
              generalize slot t 79 = x79
              clear hsz t
              simp only [List.drop_succ_cons, List.drop_zero]
              have K3 := Lib.hid (K2.out.trans hk)
              have hCO : CO = false := by have := hco.out; simpa using this
              subst hCO
              clear hk hco HC1 HC2 R3 R4 R5 X1 X2 hD1 hD2
              obtain ⟨rfl, rfl⟩ := q1.out rfl
              have e0 := isE_yes
              clear q1 q2 HIs
              go_wp2_with fail
              refine (HA.out _ (HT.out.kept K3.out)).mono ?_
              rintro e v5 ⟨rfl, k5⟩
              have K5 := Lib.hid (K3.out.trans k5)
              clear k5 K3
              go_wp2_with fail
              go_ret
              exact ⟨rfl, K5.out⟩
          | true =>
            cases D1 with
            | false =>
              refine unpark ?_
              refine wpList_table 31 [(30, .is (.agg (bC 32 a0))), (31, .is (.pointer (some ⟨w.heap.size + 1, 0, none⟩))), (32, .is (.string s1)), (33, .is (.pointer (some ⟨w.heap.size + 1, 1, none⟩))), (34, .is (.agg #[.int .i64 a1, .int .i64 b1, .slice p1 n1 c1])), (35, .is (.bool true)), (36, .is (.bool true)), (37, .is (.agg (bC 32 a0))), (38, .is (.pointer (some ⟨w.heap.size + 2, 0, none⟩))), (39, .is (.string s2)), (40, .is (.pointer (some ⟨w.heap.size + 2, 1, none⟩))), (41, .is (.agg #[.int .i64 a2, .int .i64 b2, .slice p2 n2 c2])), (42, .is (.bool true)), (43, .is (.bool true)), (44, .is (.bool true)), (45, .is (.pointer (some ⟨w.heap.size + 1, 1, none⟩))), (46, .is (.pointer (some ⟨w.heap.size + 1, 1, none⟩))), (47, .is (.int .i64 a1)), (48, .is (.pointer (some ⟨w.heap.size + 2, 1, none⟩))), (49, .is (.pointer (some ⟨w.heap.size + 2, 1, none⟩))), (50, .is (.int .i64 a2)), (51, .is (.bool true)), (52, .is (.bool true)), (53, .is (.bool true)), (54, .is (.pointer (some ⟨w.heap.size + 1, 0, none⟩))), (55, .is (.string s1)), (56, .is (.pointer (some ⟨w.heap.size + 2, 0, none⟩))), (57, .is (.string s2)), (58, .is (.bool false)), (59, .is (.bool false)), (10, .is (.bool false))] (by kernel_rfl) ?_ ?_
              · refine ⟨fun t w1 hf hk hp => ?_, ?_⟩
                · have h3 : slot t 3 = .pointer (some ⟨w.heap.size, 0, none⟩) := hf 3 (by kernel_rfl)
                  clear hf hp
                  refine stepAt_plain rfl ?_
                  exact stepOK_pure (.agg (bC 32 a0)) (loadHr rfl h3 (R3.out.kept hk)) rfl
                refine ⟨fun t w1 hf hk hp => ?_, ?_⟩
                · have h4 : slot t 4 = .pointer (some ⟨w.heap.size + 1, 0, none⟩) := hf 4 (by kernel_rfl)
                  clear hf hp
                  refine stepAt_plain rfl ?_
                  exact stepOK_pure (.pointer (some ⟨w.heap.size + 1, 0, none⟩)) (execFieldL (w.heap.size + 1) 0 (by omega) w1 rfl h4) rfl
                refine ⟨fun t w1 hf hk hp => ?_, ?_⟩
                · have h31 : slot t 31 = .pointer (some ⟨w.heap.size + 1, 0, none⟩) := hp 31 (by kernel_rfl)
                  clear hf hp
                  refine stepAt_plain rfl ?_
                  have hq0 := run_loadLS (R4.out.kept hk)
                  exact stepOK_sem (.string s1) (by simp only [execOp, evS, h31]) hq0 rfl
                refine ⟨fun t w1 hf hk hp => ?_, ?_⟩
                · have h4 : slot t 4 = .pointer (some ⟨w.heap.size + 1, 0, none⟩) := hf 4 (by kernel_rfl)
                  clear hf hp
                  refine stepAt_plain rfl ?_
                  exact stepOK_pure (.pointer (some ⟨w.heap.size + 1, 1, none⟩)) (execFieldL (w.heap.size + 1) 1 (by omega) w1 rfl h4) rfl
                refine ⟨fun t w1 hf hk hp => ?_, ?_⟩
                · have h33 : slot t 33 = .pointer (some ⟨w.heap.size + 1, 1, none⟩) := hp 33 (by kernel_rfl)
                  clear hf hp
                  refine stepAt_plain rfl ?_
                  have hq0 := run_loadLO (R4.out.kept hk)
                  exact stepOK_sem (.agg #[.int .i64 a1, .int .i64 b1, .slice p1 n1 c1]) (by simp only [execOp, evS, h33]) hq0 rfl
                refine ⟨fun t w1 hf hk hp => ?_, ?_⟩
                · have h30 : slot t 30 = .agg (bC 32 a0) := hp 30 (by kernel_rfl)
                  have h32 : slot t 32 = .string s1 := hp 32 (by kernel_rfl)
                  have h34 : slot t 34 = .agg #[.int .i64 a1, .int .i64 b1, .slice p1 n1 c1] := hp 34 (by kernel_rfl)
                  clear hf hp
                  refine stepAt_plain rfl ?_
                  refine stepOK_call #[.agg (bC 32 a0), .string s1, .agg #[.int .i64 a1, .int .i64 b1, .slice p1 n1 c1]] rfl (by simp only [List.map_toArray, List.map_cons, List.map_nil, evS, h30, h32, h34]) (by go_simp) ((HC1.out w1 (HSl.kept _ _ _ _ _ (K2.out.trans hk) X1.out)).mono fun e w' ⟨he, hk'⟩ => ⟨_, he, hk', rfl⟩)
                refine ⟨fun t w1 hf hk hp => ?_, ?_⟩
                · have h35 : slot t 35 = .bool true := hp 35 (by kernel_rfl)
                  clear hf hp
                  refine stepAt_plain rfl ?_
                  exact stepOK_move _ (.inl rfl) h35
                refine ⟨fun t w1 hf hk hp => ?_, ?_⟩
                · have h3 : slot t 3 = .pointer (some ⟨w.heap.size, 0, none⟩) := hf 3 (by kernel_rfl)
                  have h36 : slot t 36 = .bool true := hp 36 (by kernel_rfl)
                  clear hf hp
                  refine stepAt_on 36 true (by kernel_rfl) h36 ?_
                  exact stepOK_pure (.agg (bC 32 a0)) (loadHr rfl h3 (R3.out.kept hk)) rfl
                refine ⟨fun t w1 hf hk hp => ?_, ?_⟩
                · have h5 : slot t 5 = .pointer (some ⟨w.heap.size + 2, 0, none⟩) := hf 5 (by kernel_rfl)
                  have h36 : slot t 36 = .bool true := hp 36 (by kernel_rfl)
                  clear hf hp
                  refine stepAt_on 36 true (by kernel_rfl) h36 ?_
                  exact stepOK_pure (.pointer (some ⟨w.heap.size + 2, 0, none⟩)) (execFieldL (w.heap.size + 2) 0 (by omega) w1 rfl h5) rfl
                refine ⟨fun t w1 hf hk hp => ?_, ?_⟩
                · have h38 : slot t 38 = .pointer (some ⟨w.heap.size + 2, 0, none⟩) := hp 38 (by kernel_rfl)
                  have h36 : slot t 36 = .bool true := hp 36 (by kernel_rfl)
                  clear hf hp
                  refine stepAt_on 36 true (by kernel_rfl) h36 ?_
                  have hq0 := run_loadLS (R5.out.kept hk)
                  exact stepOK_sem (.string s2) (by simp only [execOp, evS, h38]) hq0 rfl
                refine ⟨fun t w1 hf hk hp => ?_, ?_⟩
                · have h5 : slot t 5 = .pointer (some ⟨w.heap.size + 2, 0, none⟩) := hf 5 (by kernel_rfl)
                  have h36 : slot t 36 = .bool true := hp 36 (by kernel_rfl)
                  clear hf hp
                  refine stepAt_on 36 true (by kernel_rfl) h36 ?_
                  exact stepOK_pure (.pointer (some ⟨w.heap.size + 2, 1, none⟩)) (execFieldL (w.heap.size + 2) 1 (by omega) w1 rfl h5) rfl
                refine ⟨fun t w1 hf hk hp => ?_, ?_⟩
                · have h40 : slot t 40 = .pointer (some ⟨w.heap.size + 2, 1, none⟩) := hp 40 (by kernel_rfl)
                  have h36 : slot t 36 = .bool true := hp 36 (by kernel_rfl)
                  clear hf hp
                  refine stepAt_on 36 true (by kernel_rfl) h36 ?_
                  have hq0 := run_loadLO (R5.out.kept hk)
                  exact stepOK_sem (.agg #[.int .i64 a2, .int .i64 b2, .slice p2 n2 c2]) (by simp only [execOp, evS, h40]) hq0 rfl
                refine ⟨fun t w1 hf hk hp => ?_, ?_⟩
                · have h37 : slot t 37 = .agg (bC 32 a0) := hp 37 (by kernel_rfl)
                  have h39 : slot t 39 = .string s2 := hp 39 (by kernel_rfl)
                  have h41 : slot t 41 = .agg #[.int .i64 a2, .int .i64 b2, .slice p2 n2 c2] := hp 41 (by kernel_rfl)
                  have h36 : slot t 36 = .bool true := hp 36 (by kernel_rfl)
                  clear hf hp
                  refine stepAt_on 36 true (by kernel_rfl) h36 ?_
                  refine stepOK_call #[.agg (bC 32 a0), .string s2, .agg #[.int .i64 a2, .int .i64 b2, .slice p2 n2 c2]] rfl (by simp only [List.map_toArray, List.map_cons, List.map_nil, evS, h37, h39, h41]) (by go_simp) ((HC2.out w1 (HSl.kept _ _ _ _ _ (K2.out.trans hk) X2.out)).mono fun e w' ⟨he, hk'⟩ => ⟨_, he, hk', rfl⟩)
                refine ⟨fun t w1 hf hk hp => ?_, ?_⟩
                · have h36 : slot t 36 = .bool true := hp 36 (by kernel_rfl)
                  have h42 : slot t 42 = .bool true := hp 42 (by kernel_rfl)
                  clear hf hp
                  refine stepAt_plain rfl ?_
                  refine stepOK_pure (.bool true) ?_ rfl
                  simp only [execOp, evS, h36, h42]
                  go_simp
                refine ⟨fun t w1 hf hk hp => ?_, ?_⟩
                · have h43 : slot t 43 = .bool true := hp 43 (by kernel_rfl)
                  clear hf hp
                  refine stepAt_plain rfl ?_
                  exact stepOK_move _ (.inl rfl) h43
                refine ⟨fun t w1 hf hk hp => ?_, ?_⟩
                · have h4 : slot t 4 = .pointer (some ⟨w.heap.size + 1, 0, none⟩) := hf 4 (by kernel_rfl)
                  have h44 : slot t 44 = .bool true := hp 44 (by kernel_rfl)
                  clear hf hp
                  refine stepAt_on 44 true (by kernel_rfl) h44 ?_
                  exact stepOK_pure (.pointer (some ⟨w.heap.size + 1, 1, none⟩)) (execFieldL (w.heap.size + 1) 1 (by omega) w1 rfl h4) rfl
                refine ⟨fun t w1 hf hk hp => ?_, ?_⟩
                · have h45 : slot t 45 = .pointer (some ⟨w.heap.size + 1, 1, none⟩) := hp 45 (by kernel_rfl)
                  have h44 : slot t 44 = .bool true := hp 44 (by kernel_rfl)
                  clear hf hp
                  refine stepAt_on 44 true (by kernel_rfl) h44 ?_
                  exact stepOK_pure (.pointer (some ⟨w.heap.size + 1, 1, none⟩)) (execFieldO1 (w.heap.size + 1) 0 1 (by omega) rfl w1 rfl h45) rfl
                refine ⟨fun t w1 hf hk hp => ?_, ?_⟩
                · have h46 : slot t 46 = .pointer (some ⟨w.heap.size + 1, 1, none⟩) := hp 46 (by kernel_rfl)
                  have h44 : slot t 44 = .bool true := hp 44 (by kernel_rfl)
                  clear hf hp
                  refine stepAt_on 44 true (by kernel_rfl) h44 ?_
                  have hq0 := run_loadI ((R4.out.kept hk).cell 1)
                  exact stepOK_sem (.int .i64 a1) (by simp only [execOp, evS, h46]) hq0 rfl
                refine ⟨fun t w1 hf hk hp => ?_, ?_⟩
                · have h5 : slot t 5 = .pointer (some ⟨w.heap.size + 2, 0, none⟩) := hf 5 (by kernel_rfl)
                  have h44 : slot t 44 = .bool true := hp 44 (by kernel_rfl)
                  clear hf hp
                  refine stepAt_on 44 true (by kernel_rfl) h44 ?_
                  exact stepOK_pure (.pointer (some ⟨w.heap.size + 2, 1, none⟩)) (execFieldL (w.heap.size + 2) 1 (by omega) w1 rfl h5) rfl
                refine ⟨fun t w1 hf hk hp => ?_, ?_⟩
                · have h48 : slot t 48 = .pointer (some ⟨w.heap.size + 2, 1, none⟩) := hp 48 (by kernel_rfl)
                  have h44 : slot t 44 = .bool true := hp 44 (by kernel_rfl)
                  clear hf hp
                  refine stepAt_on 44 true (by kernel_rfl) h44 ?_
                  exact stepOK_pure (.pointer (some ⟨w.heap.size + 2, 1, none⟩)) (execFieldO1 (w.heap.size + 2) 0 1 (by omega) rfl w1 rfl h48) rfl
                refine ⟨fun t w1 hf hk hp => ?_, ?_⟩
                · have h49 : slot t 49 = .pointer (some ⟨w.heap.size + 2, 1, none⟩) := hp 49 (by kernel_rfl)
                  have h44 : slot t 44 = .bool true := hp 44 (by kernel_rfl)
                  clear hf hp
                  refine stepAt_on 44 true (by kernel_rfl) h44 ?_
                  have hq0 := run_loadI ((R5.out.kept hk).cell 1)
                  exact stepOK_sem (.int .i64 a2) (by simp only [execOp, evS, h49]) hq0 rfl
                refine ⟨fun t w1 hf hk hp => ?_, ?_⟩
                · have h47 : slot t 47 = .int .i64 a1 := hp 47 (by kernel_rfl)
                  have h50 : slot t 50 = .int .i64 a2 := hp 50 (by kernel_rfl)
                  have h44 : slot t 44 = .bool true := hp 44 (by kernel_rfl)
                  clear hf hp
                  refine stepAt_on 44 true (by kernel_rfl) h44 ?_
                  exact stepOK_pure (.bool true) (by rw [hD2.out]; exact execEqI a1 a2 w1 rfl h47 h50) rfl
                refine ⟨fun t w1 hf hk hp => ?_, ?_⟩
                · have h44 : slot t 44 = .bool true := hp 44 (by kernel_rfl)
                  have h51 : slot t 51 = .bool true := hp 51 (by kernel_rfl)
                  clear hf hp
                  refine stepAt_plain rfl ?_
                  refine stepOK_pure (.bool true) ?_ rfl
                  simp only [execOp, evS, h44, h51]
                  go_simp
                refine ⟨fun t w1 hf hk hp => ?_, ?_⟩
                · have h52 : slot t 52 = .bool true := hp 52 (by kernel_rfl)
                  clear hf hp
                  refine stepAt_plain rfl ?_
                  exact stepOK_move _ (.inl rfl) h52
                refine ⟨fun t w1 hf hk hp => ?_, ?_⟩
                · have h4 : slot t 4 = .pointer (some ⟨w.heap.size + 1, 0, none⟩) := hf 4 (by kernel_rfl)
                  have h53 : slot t 53 = .bool true := hp 53 (by kernel_rfl)
                  clear hf hp
                  refine stepAt_on 53 true (by kernel_rfl) h53 ?_
                  exact stepOK_pure (.pointer (some ⟨w.heap.size + 1, 0, none⟩)) (execFieldL (w.heap.size + 1) 0 (by omega) w1 rfl h4) rfl
                refine ⟨fun t w1 hf hk hp => ?_, ?_⟩
                · have h54 : slot t 54 = .pointer (some ⟨w.heap.size + 1, 0, none⟩) := hp 54 (by kernel_rfl)
                  have h53 : slot t 53 = .bool true := hp 53 (by kernel_rfl)
                  clear hf hp
                  refine stepAt_on 53 true (by kernel_rfl) h53 ?_
                  have hq0 := run_loadLS (R4.out.kept hk)
                  exact stepOK_sem (.string s1) (by simp only [execOp, evS, h54]) hq0 rfl
                refine ⟨fun t w1 hf hk hp => ?_, ?_⟩
                · have h5 : slot t 5 = .pointer (some ⟨w.heap.size + 2, 0, none⟩) := hf 5 (by kernel_rfl)
                  have h53 : slot t 53 = .bool true := hp 53 (by kernel_rfl)
                  clear hf hp
                  refine stepAt_on 53 true (by kernel_rfl) h53 ?_
                  exact stepOK_pure (.pointer (some ⟨w.heap.size + 2, 0, none⟩)) (execFieldL (w.heap.size + 2) 0 (by omega) w1 rfl h5) rfl
                refine ⟨fun t w1 hf hk hp => ?_, ?_⟩
                · have h56 : slot t 56 = .pointer (some ⟨w.heap.size + 2, 0, none⟩) := hp 56 (by kernel_rfl)
                  have h53 : slot t 53 = .bool true := hp 53 (by kernel_rfl)
                  clear hf hp
                  refine stepAt_on 53 true (by kernel_rfl) h53 ?_
                  have hq0 := run_loadLS (R5.out.kept hk)
                  exact stepOK_sem (.string s2) (by simp only [execOp, evS, h56]) hq0 rfl
                refine ⟨fun t w1 hf hk hp => ?_, ?_⟩
                · have h55 : slot t 55 = .string s1 := hp 55 (by kernel_rfl)
                  have h57 : slot t 57 = .string s2 := hp 57 (by kernel_rfl)
                  have h53 : slot t 53 = .bool true := hp 53 (by kernel_rfl)
                  clear hf hp
                  refine stepAt_on 53 true (by kernel_rfl) h53 ?_
                  exact stepOK_pure (.bool false) (by rw [hD1.out]; exact execNeS s1 s2 w1 rfl h55 h57) rfl
                refine ⟨fun t w1 hf hk hp => ?_, ?_⟩
                · have h53 : slot t 53 = .bool true := hp 53 (by kernel_rfl)
                  have h58 : slot t 58 = .bool false := hp 58 (by kernel_rfl)
                  clear hf hp
                  refine stepAt_plain rfl ?_
                  refine stepOK_pure (.bool false) ?_ rfl
                  simp only [execOp, evS, h53, h58]
                  go_simp
                refine ⟨fun t w1 hf hk hp => ?_, ?_⟩
                · have h59 : slot t 59 = .bool false := hp 59 (by kernel_rfl)
                  clear hf hp
                  refine stepAt_plain rfl ?_
                  exact stepOK_move _ (.inr rfl) h59
                exact trivial
              · intro t w1 hsz hf hk hfacts
                have h10 : slot t 10 = .bool false := hfacts 10 (by kernel_rfl)
                have h3 : slot t 3 = .pointer (some ⟨w.heap.size, 0, none⟩) := hf 3 (by kernel_rfl)
                have h4 : slot t 4 = .pointer (some ⟨w.heap.size + 1, 0, none⟩) := hf 4 (by kernel_rfl)
                have h5 : slot t 5 = .pointer (some ⟨w.heap.size + 2, 0, none⟩) := hf 5 (by kernel_rfl)
                have h7 : slot t 7 = .string A := hf 7 (by kernel_rfl)
                have h8 : slot t 8 = .string B := hf 8 (by kernel_rfl)
                have h9 : slot t 9 = .bool CO := hf 9 (by kernel_rfl)
                have harr : t = #[slot t 0, slot t 1, slot t 2, slot t 3, slot t 4, slot t 5, slot t 6, slot t 7, slot t 8, slot t 9, slot t 10, slot t 11, slot t 12, slot t 13, slot t 14, slot t 15, slot t 16, slot t 17, slot t 18, slot t 19, slot t 20, slot t 21, slot t 22, slot t 23, slot t 24, slot t 25, slot t 26, slot t 27, slot t 28, slot t 29, slot t 30, slot t 31, slot t 32, slot t 33, slot t 34, slot t 35, slot t 36, slot t 37, slot t 38, slot t 39, slot t 40, slot t 41, slot t 42, slot t 43, slot t 44, slot t 45, slot t 46, slot t 47, slot t 48, slot t 49, slot t 50, slot t 51, slot t 52, slot t 53, slot t 54, slot t 55, slot t 56, slot t 57, slot t 58, slot t 59, slot t 60, slot t 61, slot t 62, slot t 63, slot t 64, slot t 65, slot t 66, slot t 67, slot t 68, slot t 69, slot t 70, slot t 71, slot t 72, slot t 73, slot t 74, slot t 75, slot t 76, slot t 77, slot t 78, slot t 79] := arr_eq t 80 hsz
                rw [harr, h10, h3, h4, h5, h7, h8, h9]
                clear harr hfacts hf h10 h3 h4 h5 h7 h8 h9
                generalize slot t 0 = x0; generalize slot t 1 = x1; generalize slot t 2 = x2; generalize slot t 6 = x6; generalize slot t 11 = x11; generalize slot t 12 = x12; generalize slot t 13 = x13; generalize slot t 14 = x14; generalize slot t 15 = x15; generalize slot t 16 = x16; generalize slot t 17 = x17; generalize slot t 18 = x18
                generalize slot t 19 = x19; generalize slot t 20 = x20; generalize slot t 21 = x21; generalize slot t 22 = x22; generalize slot t 23 = x23; generalize slot t 24 = x24; generalize slot t 25 = x25; generalize slot t 26 = x26; generalize slot t 27 = x27; generalize slot t 28 = x28; generalize slot t 29 = x29; generalize slot t 30 = x30
                generalize slot t 31 = x31; generalize slot t 32 = x32; generalize slot t 33 = x33; generalize slot t 34 = x34; generalize slot t 35 = x35; generalize slot t 36 = x36; generalize slot t 37 = x37; generalize slot t 38 = x38; generalize slot t 39 = x39; generalize slot t 40 = x40; generalize slot t 41 = x41; generalize slot t 42 = x42
                generalize slot t 43 = x43; generalize slot t 44 = x44; generalize slot t 45 = x45; generalize slot t 46 = x46; generalize slot t 47 = x47; generalize slot t 48 = x48; generalize slot t 49 = x49; generalize slot t 50 = x50; generalize slot t 51 = x51; generalize slot t 52 = x52; generalize slot t 53 = x53; generalize slot t 54 = x54
                generalize slot t 55 = x55; generalize slot t 56 = x56; generalize slot t 57 = x57; generalize slot t 58 = x58; generalize slot t 59 = x59; generalize slot t 60 = x60; generalize slot t 61 = x61; generalize slot t 62 = x62; generalize slot t 63 = x63; generalize slot t 64 = x64; generalize slot t 65 = x65; generalize slot t 66 = x66
                generalize slot t 67 = x67; generalize slot t 68 = x68; generalize slot t 69 = x69; generalize slot t 70 = x70; generalize slot t 71 = x71; generalize slot t 72 = x72; generalize slot t 73 = x73; generalize slot t 74 = x74; generalize slot t 75 = x75; generalize slot t 76 = x76; generalize slot t 77 = x77; generalize slot t 78 = x78
                generalize slot t 79 = x79
                clear hsz t
                simp only [List.drop_succ_cons, List.drop_zero]
                have K3 := Lib.hid (K2.out.trans hk)
                have hCO : CO = false := by have := hco.out; simpa using this
                subst hCO
                clear hk hco HC1 HC2 R3 R4 R5 X1 X2 hD1 hD2
                obtain ⟨rfl, rfl⟩ := q1.out rfl
                have e0 := isE_yes
                clear q1 q2 HIs
                go_wp2_with fail
                refine (HA.out _ (HT.out.kept K3.out)).mono ?_
                rintro e v5 ⟨rfl, k5⟩
                have K5 := Lib.hid (K3.out.trans k5)
                clear k5 K3
                go_wp2_with fail
                go_ret
                exact ⟨rfl, K5.out⟩
            | true =>
              refine unpark ?_
              refine wpList_table 31 [(30, .is (.agg (bC 32 a0))), (31, .is (.pointer (some ⟨w.heap.size + 1, 0, none⟩))), (32, .is (.string s1)), (33, .is (.pointer (some ⟨w.heap.size + 1, 1, none⟩))), (34, .is (.agg #[.int .i64 a1, .int .i64 b1, .slice p1 n1 c1])), (35, .is (.bool true)), (36, .is (.bool true)), (37, .is (.agg (bC 32 a0))), (38, .is (.pointer (some ⟨w.heap.size + 2, 0, none⟩))), (39, .is (.string s2)), (40, .is (.pointer (some ⟨w.heap.size + 2, 1, none⟩))), (41, .is (.agg #[.int .i64 a2, .int .i64 b2, .slice p2 n2 c2])), (42, .is (.bool true)), (43, .is (.bool true)), (44, .is (.bool true)), (45, .is (.pointer (some ⟨w.heap.size + 1, 1, none⟩))), (46, .is (.pointer (some ⟨w.heap.size + 1, 1, none⟩))), (47, .is (.int .i64 a1)), (48, .is (.pointer (some ⟨w.heap.size + 2, 1, none⟩))), (49, .is (.pointer (some ⟨w.heap.size + 2, 1, none⟩))), (50, .is (.int .i64 a2)), (51, .is (.bool true)), (52, .is (.bool true)), (53, .is (.bool true)), (54, .is (.pointer (some ⟨w.heap.size + 1, 0, none⟩))), (55, .is (.string s1)), (56, .is (.pointer (some ⟨w.heap.size + 2, 0, none⟩))), (57, .is (.string s2)), (58, .is (.bool true)), (59, .is (.bool true)), (10, .is (.bool true))] (by kernel_rfl) ?_ ?_
              · refine ⟨fun t w1 hf hk hp => ?_, ?_⟩
                · have h3 : slot t 3 = .pointer (some ⟨w.heap.size, 0, none⟩) := hf 3 (by kernel_rfl)
                  clear hf hp
                  refine stepAt_plain rfl ?_
                  exact stepOK_pure (.agg (bC 32 a0)) (loadHr rfl h3 (R3.out.kept hk)) rfl
                refine ⟨fun t w1 hf hk hp => ?_, ?_⟩
                · have h4 : slot t 4 = .pointer (some ⟨w.heap.size + 1, 0, none⟩) := hf 4 (by kernel_rfl)
                  clear hf hp
                  refine stepAt_plain rfl ?_
                  exact stepOK_pure (.pointer (some ⟨w.heap.size + 1, 0, none⟩)) (execFieldL (w.heap.size + 1) 0 (by omega) w1 rfl h4) rfl
                refine ⟨fun t w1 hf hk hp => ?_, ?_⟩
                · have h31 : slot t 31 = .pointer (some ⟨w.heap.size + 1, 0, none⟩) := hp 31 (by kernel_rfl)
                  clear hf hp
                  refine stepAt_plain rfl ?_
                  have hq0 := run_loadLS (R4.out.kept hk)
                  exact stepOK_sem (.string s1) (by simp only [execOp, evS, h31]) hq0 rfl
                refine ⟨fun t w1 hf hk hp => ?_, ?_⟩
                · have h4 : slot t 4 = .pointer (some ⟨w.heap.size + 1, 0, none⟩) := hf 4 (by kernel_rfl)
                  clear hf hp
                  refine stepAt_plain rfl ?_
                  exact stepOK_pure (.pointer (some ⟨w.heap.size + 1, 1, none⟩)) (execFieldL (w.heap.size + 1) 1 (by omega) w1 rfl h4) rfl
                refine ⟨fun t w1 hf hk hp => ?_, ?_⟩
                · have h33 : slot t 33 = .pointer (some ⟨w.heap.size + 1, 1, none⟩) := hp 33 (by kernel_rfl)
                  clear hf hp
                  refine stepAt_plain rfl ?_
                  have hq0 := run_loadLO (R4.out.kept hk)
                  exact stepOK_sem (.agg #[.int .i64 a1, .int .i64 b1, .slice p1 n1 c1]) (by simp only [execOp, evS, h33]) hq0 rfl
                refine ⟨fun t w1 hf hk hp => ?_, ?_⟩
                · have h30 : slot t 30 = .agg (bC 32 a0) := hp 30 (by kernel_rfl)
                  have h32 : slot t 32 = .string s1 := hp 32 (by kernel_rfl)
                  have h34 : slot t 34 = .agg #[.int .i64 a1, .int .i64 b1, .slice p1 n1 c1] := hp 34 (by kernel_rfl)
                  clear hf hp
                  refine stepAt_plain rfl ?_
                  refine stepOK_call #[.agg (bC 32 a0), .string s1, .agg #[.int .i64 a1, .int .i64 b1, .slice p1 n1 c1]] rfl (by simp only [List.map_toArray, List.map_cons, List.map_nil, evS, h30, h32, h34]) (by go_simp) ((HC1.out w1 (HSl.kept _ _ _ _ _ (K2.out.trans hk) X1.out)).mono fun e w' ⟨he, hk'⟩ => ⟨_, he, hk', rfl⟩)
                refine ⟨fun t w1 hf hk hp => ?_, ?_⟩
                · have h35 : slot t 35 = .bool true := hp 35 (by kernel_rfl)
                  clear hf hp
                  refine stepAt_plain rfl ?_
                  exact stepOK_move _ (.inl rfl) h35
                refine ⟨fun t w1 hf hk hp => ?_, ?_⟩
                · have h3 : slot t 3 = .pointer (some ⟨w.heap.size, 0, none⟩) := hf 3 (by kernel_rfl)
                  have h36 : slot t 36 = .bool true := hp 36 (by kernel_rfl)
                  clear hf hp
                  refine stepAt_on 36 true (by kernel_rfl) h36 ?_
                  exact stepOK_pure (.agg (bC 32 a0)) (loadHr rfl h3 (R3.out.kept hk)) rfl
                refine ⟨fun t w1 hf hk hp => ?_, ?_⟩
                · have h5 : slot t 5 = .pointer (some ⟨w.heap.size + 2, 0, none⟩) := hf 5 (by kernel_rfl)
                  have h36 : slot t 36 = .bool true := hp 36 (by kernel_rfl)
                  clear hf hp
                  refine stepAt_on 36 true (by kernel_rfl) h36 ?_
                  exact stepOK_pure (.pointer (some ⟨w.heap.size + 2, 0, none⟩)) (execFieldL (w.heap.size + 2) 0 (by omega) w1 rfl h5) rfl
                refine ⟨fun t w1 hf hk hp => ?_, ?_⟩
                · have h38 : slot t 38 = .pointer (some ⟨w.heap.size + 2, 0, none⟩) := hp 38 (by kernel_rfl)
                  have h36 : slot t 36 = .bool true := hp 36 (by kernel_rfl)
                  clear hf hp
                  refine stepAt_on 36 true (by kernel_rfl) h36 ?_
                  have hq0 := run_loadLS (R5.out.kept hk)
                  exact stepOK_sem (.string s2) (by simp only [execOp, evS, h38]) hq0 rfl
                refine ⟨fun t w1 hf hk hp => ?_, ?_⟩
                · have h5 : slot t 5 = .pointer (some ⟨w.heap.size + 2, 0, none⟩) := hf 5 (by kernel_rfl)
                  have h36 : slot t 36 = .bool true := hp 36 (by kernel_rfl)
                  clear hf hp
                  refine stepAt_on 36 true (by kernel_rfl) h36 ?_
                  exact stepOK_pure (.pointer (some ⟨w.heap.size + 2, 1, none⟩)) (execFieldL (w.heap.size + 2) 1 (by omega) w1 rfl h5) rfl
                refine ⟨fun t w1 hf hk hp => ?_, ?_⟩
                · have h40 : slot t 40 = .pointer (some ⟨w.heap.size + 2, 1, none⟩) := hp 40 (by kernel_rfl)
                  have h36 : slot t 36 = .bool true := hp 36 (by kernel_rfl)
                  clear hf hp
                  refine stepAt_on 36 true (by kernel_rfl) h36 ?_
                  have hq0 := run_loadLO (R5.out.kept hk)
                  exact stepOK_sem (.agg #[.int .i64 a2, .int .i64 b2, .slice p2 n2 c2]) (by simp only [execOp, evS, h40]) hq0 rfl
                refine ⟨fun t w1 hf hk hp => ?_, ?_⟩
                · have h37 : slot t 37 = .agg (bC 32 a0) := hp 37 (by kernel_rfl)
                  have h39 : slot t 39 = .string s2 := hp 39 (by kernel_rfl)
                  have h41 : slot t 41 = .agg #[.int .i64 a2, .int .i64 b2, .slice p2 n2 c2] := hp 41 (by kernel_rfl)
                  have h36 : slot t 36 = .bool true := hp 36 (by kernel_rfl)
                  clear hf hp
                  refine stepAt_on 36 true (by kernel_rfl) h36 ?_
                  refine stepOK_call #[.agg (bC 32 a0), .string s2, .agg #[.int .i64 a2, .int .i64 b2, .slice p2 n2 c2]] rfl (by simp only [List.map_toArray, List.map_cons, List.map_nil, evS, h37, h39, h41]) (by go_simp) ((HC2.out w1 (HSl.kept _ _ _ _ _ (K2.out.trans hk) X2.out)).mono fun e w' ⟨he, hk'⟩ => ⟨_, he, hk', rfl⟩)
                refine ⟨fun t w1 hf hk hp => ?_, ?_⟩
                · have h36 : slot t 36 = .bool true := hp 36 (by kernel_rfl)
                  have h42 : slot t 42 = .bool true := hp 42 (by kernel_rfl)
                  clear hf hp
                  refine stepAt_plain rfl ?_
                  refine stepOK_pure (.bool true) ?_ rfl
                  simp only [execOp, evS, h36, h42]
                  go_simp
                refine ⟨fun t w1 hf hk hp => ?_, ?_⟩
                · have h43 : slot t 43 = .bool true := hp 43 (by kernel_rfl)
                  clear hf hp
                  refine stepAt_plain rfl ?_
                  exact stepOK_move _ (.inl rfl) h43
                refine ⟨fun t w1 hf hk hp => ?_, ?_⟩
                · have h4 : slot t 4 = .pointer (some ⟨w.heap.size + 1, 0, none⟩) := hf 4 (by kernel_rfl)
                  have h44 : slot t 44 = .bool true := hp 44 (by kernel_rfl)
                  clear hf hp
                  refine stepAt_on 44 true (by kernel_rfl) h44 ?_
                  exact stepOK_pure (.pointer (some ⟨w.heap.size + 1, 1, none⟩)) (execFieldL (w.heap.size + 1) 1 (by omega) w1 rfl h4) rfl
                refine ⟨fun t w1 hf hk hp => ?_, ?_⟩
                · have h45 : slot t 45 = .pointer (some ⟨w.heap.size + 1, 1, none⟩) := hp 45 (by kernel_rfl)
                  have h44 : slot t 44 = .bool true := hp 44 (by kernel_rfl)
                  clear hf hp
                  refine stepAt_on 44 true (by kernel_rfl) h44 ?_
                  exact stepOK_pure (.pointer (some ⟨w.heap.size + 1, 1, none⟩)) (execFieldO1 (w.heap.size + 1) 0 1 (by omega) rfl w1 rfl h45) rfl
                refine ⟨fun t w1 hf hk hp => ?_, ?_⟩
                · have h46 : slot t 46 = .pointer (some ⟨w.heap.size + 1, 1, none⟩) := hp 46 (by kernel_rfl)
                  have h44 : slot t 44 = .bool true := hp 44 (by kernel_rfl)
                  clear hf hp
                  refine stepAt_on 44 true (by kernel_rfl) h44 ?_
                  have hq0 := run_loadI ((R4.out.kept hk).cell 1)
                  exact stepOK_sem (.int .i64 a1) (by simp only [execOp, evS, h46]) hq0 rfl
                refine ⟨fun t w1 hf hk hp => ?_, ?_⟩
                · have h5 : slot t 5 = .pointer (some ⟨w.heap.size + 2, 0, none⟩) := hf 5 (by kernel_rfl)
                  have h44 : slot t 44 = .bool true := hp 44 (by kernel_rfl)
                  clear hf hp
                  refine stepAt_on 44 true (by kernel_rfl) h44 ?_
                  exact stepOK_pure (.pointer (some ⟨w.heap.size + 2, 1, none⟩)) (execFieldL (w.heap.size + 2) 1 (by omega) w1 rfl h5) rfl
                refine ⟨fun t w1 hf hk hp => ?_, ?_⟩
                · have h48 : slot t 48 = .pointer (some ⟨w.heap.size + 2, 1, none⟩) := hp 48 (by kernel_rfl)
                  have h44 : slot t 44 = .bool true := hp 44 (by kernel_rfl)
                  clear hf hp
                  refine stepAt_on 44 true (by kernel_rfl) h44 ?_
                  exact stepOK_pure (.pointer (some ⟨w.heap.size + 2, 1, none⟩)) (execFieldO1 (w.heap.size + 2) 0 1 (by omega) rfl w1 rfl h48) rfl
                refine ⟨fun t w1 hf hk hp => ?_, ?_⟩
                · have h49 : slot t 49 = .pointer (some ⟨w.heap.size + 2, 1, none⟩) := hp 49 (by kernel_rfl)
                  have h44 : slot t 44 = .bool true := hp 44 (by kernel_rfl)
                  clear hf hp
                  refine stepAt_on 44 true (by kernel_rfl) h44 ?_
                  have hq0 := run_loadI ((R5.out.kept hk).cell 1)
                  exact stepOK_sem (.int .i64 a2) (by simp only [execOp, evS, h49]) hq0 rfl
                refine ⟨fun t w1 hf hk hp => ?_, ?_⟩
                · have h47 : slot t 47 = .int .i64 a1 := hp 47 (by kernel_rfl)
                  have h50 : slot t 50 = .int .i64 a2 := hp 50 (by kernel_rfl)
                  have h44 : slot t 44 = .bool true := hp 44 (by kernel_rfl)
                  clear hf hp
                  refine stepAt_on 44 true (by kernel_rfl) h44 ?_
                  exact stepOK_pure (.bool true) (by rw [hD2.out]; exact execEqI a1 a2 w1 rfl h47 h50) rfl
                refine ⟨fun t w1 hf hk hp => ?_, ?_⟩
                · have h44 : slot t 44 = .bool true := hp 44 (by kernel_rfl)
                  have h51 : slot t 51 = .bool true := hp 51 (by kernel_rfl)
                  clear hf hp
                  refine stepAt_plain rfl ?_
                  refine stepOK_pure (.bool true) ?_ rfl
                  simp only [execOp, evS, h44, h51]
                  go_simp
                refine ⟨fun t w1 hf hk hp => ?_, ?_⟩
                · have h52 : slot t 52 = .bool true := hp 52 (by kernel_rfl)
                  clear hf hp
                  refine stepAt_plain rfl ?_
                  exact stepOK_move _ (.inl rfl) h52
                refine ⟨fun t w1 hf hk hp => ?_, ?_⟩
                · have h4 : slot t 4 = .pointer (some ⟨w.heap.size + 1, 0, none⟩) := hf 4 (by kernel_rfl)
                  have h53 : slot t 53 = .bool true := hp 53 (by kernel_rfl)
                  clear hf hp
                  refine stepAt_on 53 true (by kernel_rfl) h53 ?_
                  exact stepOK_pure (.pointer (some ⟨w.heap.size + 1, 0, none⟩)) (execFieldL (w.heap.size + 1) 0 (by omega) w1 rfl h4) rfl
                refine ⟨fun t w1 hf hk hp => ?_, ?_⟩
                · have h54 : slot t 54 = .pointer (some ⟨w.heap.size + 1, 0, none⟩) := hp 54 (by kernel_rfl)
                  have h53 : slot t 53 = .bool true := hp 53 (by kernel_rfl)
                  clear hf hp
                  refine stepAt_on 53 true (by kernel_rfl) h53 ?_
                  have hq0 := run_loadLS (R4.out.kept hk)
                  exact stepOK_sem (.string s1) (by simp only [execOp, evS, h54]) hq0 rfl
                refine ⟨fun t w1 hf hk hp => ?_, ?_⟩
                · have h5 : slot t 5 = .pointer (some ⟨w.heap.size + 2, 0, none⟩) := hf 5 (by kernel_rfl)
                  have h53 : slot t 53 = .bool true := hp 53 (by kernel_rfl)
                  clear hf hp
                  refine stepAt_on 53 true (by kernel_rfl) h53 ?_
                  exact stepOK_pure (.pointer (some ⟨w.heap.size + 2, 0, none⟩)) (execFieldL (w.heap.size + 2) 0 (by omega) w1 rfl h5) rfl
                refine ⟨fun t w1 hf hk hp => ?_, ?_⟩
                · have h56 : slot t 56 = .pointer (some ⟨w.heap.size + 2, 0, none⟩) := hp 56 (by kernel_rfl)
                  have h53 : slot t 53 = .bool true := hp 53 (by kernel_rfl)
                  clear hf hp
                  refine stepAt_on 53 true (by kernel_rfl) h53 ?_
                  have hq0 := run_loadLS (R5.out.kept hk)
                  exact stepOK_sem (.string s2) (by simp only [execOp, evS, h56]) hq0 rfl
                refine ⟨fun t w1 hf hk hp => ?_, ?_⟩
                · have h55 : slot t 55 = .string s1 := hp 55 (by kernel_rfl)
                  have h57 : slot t 57 = .string s2 := hp 57 (by kernel_rfl)
                  have h53 : slot t 53 = .bool true := hp 53 (by kernel_rfl)
                  clear hf hp
                  refine stepAt_on 53 true (by kernel_rfl) h53 ?_
                  exact stepOK_pure (.bool true) (by rw [hD1.out]; exact execNeS s1 s2 w1 rfl h55 h57) rfl
                refine ⟨fun t w1 hf hk hp => ?_, ?_⟩
                · have h53 : slot t 53 = .bool true := hp 53 (by kernel_rfl)
                  have h58 : slot t 58 = .bool true := hp 58 (by kernel_rfl)
                  clear hf hp
                  refine stepAt_plain rfl ?_
                  refine stepOK_pure (.bool true) ?_ rfl
                  simp only [execOp, evS, h53, h58]
                  go_simp
                refine ⟨fun t w1 hf hk hp => ?_, ?_⟩
                · have h59 : slot t 59 = .bool true := hp 59 (by kernel_rfl)
                  clear hf hp
                  refine stepAt_plain rfl ?_
                  exact stepOK_move _ (.inr rfl) h59
                exact trivial
              · intro t w1 hsz hf hk hfacts
                have h10 : slot t 10 = .bool true := hfacts 10 (by kernel_rfl)
                have h3 : slot t 3 = .pointer (some ⟨w.heap.size, 0, none⟩) := hf 3 (by kernel_rfl)
                have h4 : slot t 4 = .pointer (some ⟨w.heap.size + 1, 0, none⟩) := hf 4 (by kernel_rfl)
                have h5 : slot t 5 = .pointer (some ⟨w.heap.size + 2, 0, none⟩) := hf 5 (by kernel_rfl)
                have h7 : slot t 7 = .string A := hf 7 (by kernel_rfl)
                have h8 : slot t 8 = .string B := hf 8 (by kernel_rfl)
                have h9 : slot t 9 = .bool CO := hf 9 (by kernel_rfl)
                have harr : t = #[slot t 0, slot t 1, slot t 2, slot t 3, slot t 4, slot t 5, slot t 6, slot t 7, slot t 8, slot t 9, slot t 10, slot t 11, slot t 12, slot t 13, slot t 14, slot t 15, slot t 16, slot t 17, slot t 18, slot t 19, slot t 20, slot t 21, slot t 22, slot t 23, slot t 24, slot t 25, slot t 26, slot t 27, slot t 28, slot t 29, slot t 30, slot t 31, slot t 32, slot t 33, slot t 34, slot t 35, slot t 36, slot t 37, slot t 38, slot t 39, slot t 40, slot t 41, slot t 42, slot t 43, slot t 44, slot t 45, slot t 46, slot t 47, slot t 48, slot t 49, slot t 50, slot t 51, slot t 52, slot t 53, slot t 54, slot t 55, slot t 56, slot t 57, slot t 58, slot t 59, slot t 60, slot t 61, slot t 62, slot t 63, slot t 64, slot t 65, slot t 66, slot t 67, slot t 68, slot t 69, slot t 70, slot t 71, slot t 72, slot t 73, slot t 74, slot t 75, slot t 76, slot t 77, slot t 78, slot t 79] := arr_eq t 80 hsz
                rw [harr, h10, h3, h4, h5, h7, h8, h9]
                clear harr hfacts hf h10 h3 h4 h5 h7 h8 h9
                generalize slot t 0 = x0; generalize slot t 1 = x1; generalize slot t 2 = x2; generalize slot t 6 = x6; generalize slot t 11 = x11; generalize slot t 12 = x12; generalize slot t 13 = x13; generalize slot t 14 = x14; generalize slot t 15 = x15; generalize slot t 16 = x16; generalize slot t 17 = x17; generalize slot t 18 = x18
                generalize slot t 19 = x19; generalize slot t 20 = x20; generalize slot t 21 = x21; generalize slot t 22 = x22; generalize slot t 23 = x23; generalize slot t 24 = x24; generalize slot t 25 = x25; generalize slot t 26 = x26; generalize slot t 27 = x27; generalize slot t 28 = x28; generalize slot t 29 = x29; generalize slot t 30 = x30
                generalize slot t 31 = x31; generalize slot t 32 = x32; generalize slot t 33 = x33; generalize slot t 34 = x34; generalize slot t 35 = x35; generalize slot t 36 = x36; generalize slot t 37 = x37; generalize slot t 38 = x38; generalize slot t 39 = x39; generalize slot t 40 = x40; generalize slot t 41 = x41; generalize slot t 42 = x42
                generalize slot t 43 = x43; generalize slot t 44 = x44; generalize slot t 45 = x45; generalize slot t 46 = x46; generalize slot t 47 = x47; generalize slot t 48 = x48; generalize slot t 49 = x49; generalize slot t 50 = x50; generalize slot t 51 = x51; generalize slot t 52 = x52; generalize slot t 53 = x53; generalize slot t 54 = x54
                generalize slot t 55 = x55; generalize slot t 56 = x56; generalize slot t 57 = x57; generalize slot t 58 = x58; generalize slot t 59 = x59; generalize slot t 60 = x60; generalize slot t 61 = x61; generalize slot t 62 = x62; generalize slot t 63 = x63; generalize slot t 64 = x64; generalize slot t 65 = x65; generalize slot t 66 = x66
                generalize slot t 67 = x67; generalize slot t 68 = x68; generalize slot t 69 = x69; generalize slot t 70 = x70; generalize slot t 71 = x71; generalize slot t 72 = x72; generalize slot t 73 = x73; generalize slot t 74 = x74; generalize slot t 75 = x75; generalize slot t 76 = x76; generalize slot t 77 = x77; generalize slot t 78 = x78
                generalize slot t 79 = x79
                clear hsz t
                simp only [List.drop_succ_cons, List.drop_zero]
                have K3 := Lib.hid (K2.out.trans hk)
                have hCO : CO = true := by have := hco.out; simpa using this
                subst hCO
                clear hk hco HC1 HC2 R3 R4 R5 X1 X2 hD1 hD2
                obtain ⟨hne, hsm⟩ := q2.out rfl
                have hI : (!decide (A = B) && decide (shaL A = shaL B)) = true := by simp [hne, hsm]
                rw [hI] at HIs
                clear q1 q2 hne hsm hI
                go_wp2_with fail
                refine (HIs.out _ (HT.out.kept K3.out)).mono ?_
                rintro e v4 ⟨rfl, k4⟩
                have K4 := Lib.hid (K3.out.trans k4)
                clear k4 K3
                go_wp2_with fail
                refine (HA.out _ (HT.out.kept K4.out)).mono ?_
                rintro e v5 ⟨rfl, k5⟩
                have K5 := Lib.hid (K4.out.trans k5)
                clear k5 K4
                go_wp2_with fail
                go_ret
                exact ⟨rfl, K5.out⟩

set_option maxRecDepth 100000 in
set_option maxHeartbeats 1000000 in
theorem lifted (os : Os) (started : os.Started) (H : Type) (enc : TypeId × Value → H) :
    ReturnsInHanded {} Tryd.checked os 4 .any (fun w args => (Rows.clashFindsSpec.pre enc Tryd.prog Tryd.f4 [] false w args ∧ laidMetH Tryd.prog Rows.clashFindsRow.laid w) ∧ sizedMet enc Tryd.prog Tryd.f4 (OpenSpec.ofChange Rows.clashFindsSpec) false w args)
      (Rows.clashFindsSpec.post enc Tryd.prog Tryd.f4 false true false false) := by
  refine returnsInHanded_of_change_and (C := Tryd.checked) (X := fun w _ => laidMetH Tryd.prog Rows.clashFindsRow.laid w) (fun _ _ _ hh h => h.of_heap hh) own started (by kernel_rfl) Tryd.func4
    (ChangeSpec.witness_shaped (enc := enc) (C := Tryd.checked) (os := os) (X := fun w _ => laidMetH Tryd.prog Rows.clashFindsRow.laid w) false (World.doorLaid Tryd.prog 400 os) #[.agg #[.int .u8 0, .int .u8 0, .int .u8 0, .int .u8 0, .int .u8 0, .int .u8 0, .int .u8 0, .int .u8 0, .int .u8 0, .int .u8 0, .int .u8 0, .int .u8 0, .int .u8 0, .int .u8 0, .int .u8 0, .int .u8 0, .int .u8 0, .int .u8 0, .int .u8 0, .int .u8 0, .int .u8 0, .int .u8 0, .int .u8 0, .int .u8 0, .int .u8 0, .int .u8 0, .int .u8 0, .int .u8 0, .int .u8 0, .int .u8 0, .int .u8 0, .int .u8 0], .agg #[.string ⟨#[]⟩, .int .i64 0, .int .i64 0, .slice none 0 0], .agg #[.string ⟨#[]⟩, .int .i64 0, .int .i64 0, .slice none 0 0]] 8 rfl (World.shaped_of_RefB (by kernel_rfl) (by kernel_rfl)) (by kernel_rfl) (by kernel_rfl) (by kernel_rfl) (door_met os _)) ?_
  intro W base args ds gs before hval0 hW _ hsz0 hL _
  have hval : ∀ (j : Nat) t v, Tryd.f4.params[j]? = some t → args[j]? = some v → Value.okWide Tryd.prog W .any base t v := hval0
  have hsz : (DataW.weightsEach Tryd.prog (Tryd.f4.params.toList ++ Rows.clashFindsSpec.plain.varTypes Tryd.prog) (ds ++ gs)).all (· ≤ reachBytes) = true := hsz0
  have hW' := hW
  obtain ⟨p, q, hA0, hV, rfl, hfz, hnd⟩ := hW
  have hA : DataW.TrodAll enc Tryd.prog W 0 (fun _ => true) true Tryd.f4.params.toList args.toList ds p := hA0
  have hAk := hA
  rw [Tryd.params4] at hA hval hsz
  obtain ⟨v0, vs0, d0, ds0, p0_, q0_, hargs, rfl, rfl, h0, r0_⟩ := trodAll_cons hA
  obtain ⟨v1, vs1, d1, ds1, p1_, q1_, rfl, rfl, rfl, h1, r1_⟩ := trodAll_cons r0_
  obtain ⟨v2, vs2, d2, ds2, p2_, q2_, rfl, rfl, rfl, h2, r2_⟩ := trodAll_cons r1_
  obtain ⟨rfl, rfl, rfl⟩ := trodAll_nil r2_
  obtain rfl : args = #[v0, v1, v2] := by cases args; simp_all
  obtain ⟨rfl, rfl⟩ := trodVars_none hV
  have hlt : ∀ x ∈ (p0_ ++ (p1_ ++ (p2_ ++ ([])))), x.block < W.heap.size := fun x hx => by simpa using hW'.lt x (by simpa using hx)
  obtain ⟨cs0, rfl⟩ : ∃ cs, v0 = .agg cs := by
    have := hval 0 25 v0 rfl rfl
    simp only [Value.okWide, Tryd.underlying25] at this
    obtain ⟨cs, h, _⟩ := this
    exact ⟨cs, h⟩
  obtain ⟨a0, n0, rfl⟩ := open_hash Tryd.underlying25 Tryd.underlying5 (by kernel_rfl) (by kernel_rfl) h0
  obtain ⟨cs1, rfl, _⟩ := okWide_struct Tryd.underlying31 (hval 1 31 v1 rfl rfl)
  obtain ⟨s1, a1, b1, p1, n1, c1, F1, l1, w1, z1, rfl, e1⟩ := open_textO Tryd.underlying31 (by kernel_rfl) ⟨rfl, rfl⟩ ⟨by kernel_rfl, by kernel_rfl⟩ Tryd.underlying9 Tryd.underlying29 ⟨rfl, rfl, rfl⟩ ⟨by kernel_rfl, by kernel_rfl, by kernel_rfl⟩ Tryd.underlying3 Tryd.underlying3 Tryd.underlying27 Tryd.underlying25 (by kernel_rfl) Tryd.underlying5 (by kernel_rfl) h1
  obtain ⟨cs2, rfl, _⟩ := okWide_struct Tryd.underlying31 (hval 2 31 v2 rfl rfl)
  obtain ⟨s2, a2, b2, p2, n2, c2, F2, l2, w2, z2, rfl, e2⟩ := open_textO Tryd.underlying31 (by kernel_rfl) ⟨rfl, rfl⟩ ⟨by kernel_rfl, by kernel_rfl⟩ Tryd.underlying9 Tryd.underlying29 ⟨rfl, rfl, rfl⟩ ⟨by kernel_rfl, by kernel_rfl, by kernel_rfl⟩ Tryd.underlying3 Tryd.underlying3 Tryd.underlying27 Tryd.underlying25 (by kernel_rfl) Tryd.underlying5 (by kernel_rfl) h2
  clear hA0 hval0
  refine (walk a0 n0 s1 a1 b1 p1 n1 c1 F1 l1 w1 z1 s2 a2 b2 p2 n2 c2 F2 l2 w2 z2 W e1 e2 (tab_of_laid hL)).mono fun e W' ⟨he, hg⟩ => ?_
  subst he
  exact ⟨_, rfl, ⟨_, _, _, [], _, [], hW', trodAll_cons_mk (shut_bool Tryd.underlying4 _) trodAll_mk0, trodAll_stays laidOut hg (by kernel_rfl) hAk hlt (fun x hx => by simpa using hlt x hx), rfl, Kept.frame hg _, fun h => by cases h⟩⟩

theorem over : Rows.clashFindsRow.holds Tryd.pinned (OpenSpec.ofChange Rows.clashFindsSpec) :=
  OpenClaim.holds_of_wide 4 Tryd.f4 rfl rfl rfl rfl rfl rfl rfl ⟨rfl, rfl, rfl, rfl, rfl⟩ rfl rfl rfl rfl rfl (by kernel_rfl) Tryd.func4 (by kernel_rfl)
    (of_decide_eq_true (by kernel_rfl)) (by unfold Func.isWrapper; first | (rw [if_pos (by decide +kernel)]; kernel_rfl) | (rw [if_neg (by decide +kernel)]; exact ⟨rfl, rfl⟩))
    (fun os started H enc _ => lifted os started H enc)
end Go.Proofs.YthafohijocidlaaDoor.clashFinds
namespace Go.Proofs.YthafohijocidlaaDoor
theorem clashFinds_holds : Rows.ClashFindsSaid := clashFinds.over
theorem clashFinds_card : Rows.ClashFindsCardSaid :=
  Claim7.holds_tied_plain_at .later [] [.data] true (true, "0bff8d42d30ff236f4d1af1c11e02f2c110f2f64fb2728ec241eab8c73aa2bee") false
    clashFinds_holds (fun _ h => by cases h) (by kernel_rfl) (fun _ h => by cases h) clashFinds_row_tie rfl ⟨rfl, rfl⟩ (by kernel_rfl) rfl
    (fun f fn hf hfn => by
      obtain rfl : f = 4 := Option.some.inj ((show Tryd.prog.funcNamed "milepost/milepostlaw15.ClashFinds" = some 4 by kernel_rfl).symm.trans hf) |>.symm
      obtain rfl : fn = Tryd.f4 := (Option.some.inj (Tryd.func4.symm.trans hfn)).symm
      refine ⟨by kernel_rfl, fun j t ht => ?_⟩
      have hm : t ∈ Tryd.f4.params.toList := by simpa using Array.mem_of_getElem? ht
      have hall : (Tryd.f4.params.toList.all fun u => !Tryd.prog.wantsStandIn u) = true := by kernel_rfl
      exact (show Tryd.prog.wantsStandIn t = false by simpa using List.all_eq_true.1 hall t hm))
    (by kernel_rfl)
#print axioms clashFinds_card
end Go.Proofs.YthafohijocidlaaDoor
