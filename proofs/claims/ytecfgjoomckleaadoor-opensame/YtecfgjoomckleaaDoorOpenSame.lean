/-
  Two openings are the same by open.Same if and only if they are by the reference's Same; each is the same as itself; None holds of the zero value alone; the law's example holds: 'OpenSame' returns true for every input.
  Conditions: those of the given card (sha's table of round constants as the program's text lays it).
-/
import Derived.Test.YtecfgjoomckleaaDoorRows
import Derived.Test.YtecfgjoomckleaaDoorOpe
import Derived.WalkKit
import Derived.ProofKit
import Derived.OpenShut
import Derived.ShutString
import Derived.SizedLaws
import Derived.Test.YtecfgjoomckleaaDoorBas
import Derived.LaidMore
import Derived.SevenTiedAt
import Derived.Test.YtecfgjoomckleaaDoorCards
import Derived.Test.YtecfgjoomckleaaDoorTie
import Derived.Test.YtecfgjoomckleaaDoorShb
namespace Go.Proofs.YtecfgjoomckleaaDoor.openSame
open Go.ChangeShapes Go.WideShapes Go.ChangeAt Go.RowKit
open Go.ChangeMaps (open_string shut_string)
set_option linter.unusedVariables false

theorem own : ownKnob Tryd.prog.godebug = none := by kernel_rfl
theorem laidOut : laidOutB Tryd.prog = true := by kernel_rfl

set_option maxRecDepth 100000 in
set_option maxHeartbeats 4000000 in
theorem walk (a0 b0 : Int) (p0 : Option Addr) (n0 c0 : Nat) (F0 : Nat → List UInt8) (w0 : (Lit.int .i64 a0).wf = true ∧ (Lit.int .i64 b0).wf = true) (z0 : n0 ≤ c0 ∧ c0 ≤ maxLen) (a1 b1 : Int) (p1 : Option Addr) (n1 c1 : Nat) (F1 : Nat → List UInt8) (w1 : (Lit.int .i64 a1).wf = true ∧ (Lit.int .i64 b1).wf = true) (z1 : n1 ≤ c1 ∧ c1 ≤ maxLen) (w : World) (e0 : HAt w p0 n0 F0) (e1 : HAt w p1 n1 F1) (hT : Tab w) :
    Calls Tryd.prog 4 #[.agg #[.int .i64 a0, .int .i64 b0, .slice p0 n0 c0], .agg #[.int .i64 a1, .int .i64 b1, .slice p1 n1 c1]] w fun e w' => e = .returned (.bool true) ∧ Kept w w' := by
  have X0 := Lib.hid (show HSl n0 F0 (.slice p0 n0 c0) w from ⟨p0, c0, rfl, z0.1, z0.2, e0⟩)
  have X1 := Lib.hid (show HSl n1 F1 (.slice p1 n1 c1) w from ⟨p1, c1, rfl, z1.1, z1.2, e1⟩)
  have HT := Lib.hid hT
  have H1 : Hid (∀ w, HSl n0 F0 (.slice p0 n0 c0) w → HSl n1 F1 (.slice p1 n1 c1) w → _) := Lib.hid fun w h h' => openSame_any a0 b0 a1 b1 n0 n1 F0 F1 _ _ w h h'
  have H2 : Hid (∀ w, HSl n0 F0 (.slice p0 n0 c0) w → HSl n1 F1 (.slice p1 n1 c1) w → _) := Lib.hid fun w h h' => refSame_any a0 b0 a1 b1 n0 n1 F0 F1 _ _ w h h'
  have H3 : Hid (∀ w, HSl n0 F0 (.slice p0 n0 c0) w → Calls Tryd.prog 11 #[.agg #[.int .i64 a0, .int .i64 b0, .slice p0 n0 c0], .agg #[.int .i64 a0, .int .i64 b0, .slice p0 n0 c0]] w fun e w' => e = .returned (.bool true) ∧ Kept w w') := Lib.hid fun w h => by
    have := openSame_any a0 b0 a0 b0 n0 n0 F0 F0 _ _ w h h
    rwa [sameO_self] at this
  have H4 : Hid (∀ w, HSl n0 F0 (.slice p0 n0 c0) w → _) := Lib.hid fun w h => openNone_any a0 b0 n0 F0 _ w h
  have HA : Hid (∀ w, Tab w → _) := Lib.hid fun w ht => awake13_any w ht
  generalize sameO a0 b0 n0 F0 a1 b1 n1 F1 = B at H1 H2
  have hBB : (B == B) = true := by simp
  clear e0 e1 z0 z1 hT w0 w1
  have K1 := Lib.hid (((Kept.refl w).alloc (.cells #[.int .i64 a0, .int .i64 b0, .slice p0 n0 c0] 27)).alloc (.cells #[.int .i64 a1, .int .i64 b1, .slice p1 n1 c1] 27))
  have R2 := Lib.hid ((Rowz.new w #[.int .i64 a0, .int .i64 b0, .slice p0 n0 c0] 27).alloc (.cells #[.int .i64 a1, .int .i64 b1, .slice p1 n1 c1] 27))
  have R3 := Lib.hid (Rowz.newEq1 w (.cells #[.int .i64 a0, .int .i64 b0, .slice p0 n0 c0] 27) _ #[.int .i64 a1, .int .i64 b1, .slice p1 n1 c1] 27 rfl)
  by_cases hn0 : 100 < n0
  · have hd1 : decide ((n0 : Int) > 100) = true := decide_eq_true (by omega)
    clear H1 H2 H3 H4 X0 X1 R2 R3
    go_enter Tryd.func4, Tryd.ntmps4
    go_wp2_with fail
    refine (HA.out _ (HT.out.kept K1.out)).mono ?_
    rintro e u1 ⟨rfl, k1⟩
    have K2 := Lib.hid (K1.out.trans k1)
    clear k1 K1
    go_wp2_with fail
    go_ret
    exact ⟨rfl, K2.out⟩
  · have hd1 : decide ((n0 : Int) > 100) = false := decide_eq_false (by omega)
    by_cases hn1 : 100 < n1
    · have hd2 : decide ((n1 : Int) > 100) = true := decide_eq_true (by omega)
      clear H1 H2 H3 H4 X0 X1 R2 R3
      go_enter Tryd.func4, Tryd.ntmps4
      go_wp2_with fail
      refine (HA.out _ (HT.out.kept K1.out)).mono ?_
      rintro e u1 ⟨rfl, k1⟩
      have K2 := Lib.hid (K1.out.trans k1)
      clear k1 K1
      go_wp2_with fail
      go_ret
      exact ⟨rfl, K2.out⟩
    · have hd2 : decide ((n1 : Int) > 100) = false := decide_eq_false (by omega)
      by_cases hI : a0 = 0
      · have hdI : (a0 == 0) = true := beq_iff_eq.2 hI
        by_cases hN : b0 = 0
        · have hdN : (b0 == 0) = true := beq_iff_eq.2 hN
          by_cases hM : n0 = 0
          · have hdM : ((n0 : Int) == 0) = true := beq_iff_eq.2 (by omega)
            rw [decide_eq_true ⟨hI, hN, hM⟩] at H4
            clear hI hN hM
            go_enter Tryd.func4, Tryd.ntmps4
            go_wp2_with fail
            change Code.wp _ _ _ _ ((w.alloc (.cells #[.int .i64 a0, .int .i64 b0, .slice p0 n0 c0] 27)).alloc (.cells #[.int .i64 a1, .int .i64 b1, .slice p1 n1 c1] 27))
            replace X0 := Lib.hid (HSl.kept _ _ _ _ _ K1.out X0.out)
            replace X1 := Lib.hid (HSl.kept _ _ _ _ _ K1.out X1.out)
            generalize (w.alloc (.cells #[.int .i64 a0, .int .i64 b0, .slice p0 n0 c0] 27)).alloc (.cells #[.int .i64 a1, .int .i64 b1, .slice p1 n1 c1] 27) = v at K1 R2 R3 X0 X1 ⊢
            refine wp_region_table [(16, .is (.agg #[.int .i64 a0, .int .i64 b0, .slice p0 n0 c0])), (17, .is (.agg #[.int .i64 a1, .int .i64 b1, .slice p1 n1 c1])), (18, .is (.bool B)), (19, .is (.agg #[.int .i64 a0, .int .i64 b0, .slice p0 n0 c0])), (20, .is (.agg #[.int .i64 a1, .int .i64 b1, .slice p1 n1 c1])), (21, .is (.bool B)), (22, .is (.bool true)), (23, .is (.bool true)), (24, .is (.agg #[.int .i64 a0, .int .i64 b0, .slice p0 n0 c0])), (25, .is (.agg #[.int .i64 a0, .int .i64 b0, .slice p0 n0 c0])), (26, .is (.bool true)), (27, .is (.bool true)), (28, .is (.bool true)), (29, .is (.agg #[.int .i64 a0, .int .i64 b0, .slice p0 n0 c0])), (30, .is (.bool true)), (31, .is (.pointer (some ⟨w.heap.size, 0, none⟩))), (32, .is (.int .i64 a0)), (33, .is (.bool true)), (34, .is (.bool true)), (35, .is (.pointer (some ⟨w.heap.size, 1, none⟩))), (36, .is (.int .i64 b0)), (37, .is (.bool true)), (38, .is (.bool true)), (39, .is (.bool true)), (40, .is (.pointer (some ⟨w.heap.size, 2, none⟩))), (41, .is (.slice p0 n0 c0)), (42, .is (.int .i64 (n0 : Int))), (43, .is (.bool true)), (44, .is (.bool true)), (45, .is (.bool true)), (46, .is (.bool true)), (47, .is (.bool true)), (48, .is (.bool true)), (49, .is (.bool true)), (4, .is (.bool true))] (by kernel_rfl) (by kernel_rfl) ?_ ?_
            · refine ⟨fun t w1 hf hk hp => ?_, ?_⟩
              · have h2 : slot t 2 = .pointer (some ⟨w.heap.size, 0, none⟩) := hf 2 (by kernel_rfl)
                clear hf hp
                refine stepAt_plain rfl ?_
                exact stepOK_pure (.agg #[.int .i64 a0, .int .i64 b0, .slice p0 n0 c0]) (loadO rfl h2 (R2.out.kept hk) rfl) rfl
              refine ⟨fun t w1 hf hk hp => ?_, ?_⟩
              · have h3 : slot t 3 = .pointer (some ⟨w.heap.size + 1, 0, none⟩) := hf 3 (by kernel_rfl)
                clear hf hp
                refine stepAt_plain rfl ?_
                exact stepOK_pure (.agg #[.int .i64 a1, .int .i64 b1, .slice p1 n1 c1]) (loadO rfl h3 (R3.out.kept hk) rfl) rfl
              refine ⟨fun t w1 hf hk hp => ?_, ?_⟩
              · have h16 : slot t 16 = .agg #[.int .i64 a0, .int .i64 b0, .slice p0 n0 c0] := hp 16 (by kernel_rfl)
                have h17 : slot t 17 = .agg #[.int .i64 a1, .int .i64 b1, .slice p1 n1 c1] := hp 17 (by kernel_rfl)
                clear hf hp
                refine stepAt_plain rfl ?_
                refine stepOK_call #[.agg #[.int .i64 a0, .int .i64 b0, .slice p0 n0 c0], .agg #[.int .i64 a1, .int .i64 b1, .slice p1 n1 c1]] rfl (by simp only [List.map_toArray, List.map_cons, List.map_nil, evS, h16, h17]) (by go_simp) ((H1.out w1 (HSl.kept _ _ _ _ _ hk X0.out) (HSl.kept _ _ _ _ _ hk X1.out)).mono fun e w' ⟨he, hk'⟩ => ⟨_, he, hk', rfl⟩)
              refine ⟨fun t w1 hf hk hp => ?_, ?_⟩
              · have h2 : slot t 2 = .pointer (some ⟨w.heap.size, 0, none⟩) := hf 2 (by kernel_rfl)
                clear hf hp
                refine stepAt_plain rfl ?_
                exact stepOK_pure (.agg #[.int .i64 a0, .int .i64 b0, .slice p0 n0 c0]) (loadO rfl h2 (R2.out.kept hk) rfl) rfl
              refine ⟨fun t w1 hf hk hp => ?_, ?_⟩
              · have h3 : slot t 3 = .pointer (some ⟨w.heap.size + 1, 0, none⟩) := hf 3 (by kernel_rfl)
                clear hf hp
                refine stepAt_plain rfl ?_
                exact stepOK_pure (.agg #[.int .i64 a1, .int .i64 b1, .slice p1 n1 c1]) (loadO rfl h3 (R3.out.kept hk) rfl) rfl
              refine ⟨fun t w1 hf hk hp => ?_, ?_⟩
              · have h19 : slot t 19 = .agg #[.int .i64 a0, .int .i64 b0, .slice p0 n0 c0] := hp 19 (by kernel_rfl)
                have h20 : slot t 20 = .agg #[.int .i64 a1, .int .i64 b1, .slice p1 n1 c1] := hp 20 (by kernel_rfl)
                clear hf hp
                refine stepAt_plain rfl ?_
                refine stepOK_call #[.agg #[.int .i64 a0, .int .i64 b0, .slice p0 n0 c0], .agg #[.int .i64 a1, .int .i64 b1, .slice p1 n1 c1]] rfl (by simp only [List.map_toArray, List.map_cons, List.map_nil, evS, h19, h20]) (by go_simp) ((H2.out w1 (HSl.kept _ _ _ _ _ hk X0.out) (HSl.kept _ _ _ _ _ hk X1.out)).mono fun e w' ⟨he, hk'⟩ => ⟨_, he, hk', rfl⟩)
              refine ⟨fun t w1 hf hk hp => ?_, ?_⟩
              · have h18 : slot t 18 = .bool B := hp 18 (by kernel_rfl)
                have h21 : slot t 21 = .bool B := hp 21 (by kernel_rfl)
                clear hf hp
                refine stepAt_plain rfl ?_
                have hq0 := hBB
                refine stepOK_pure (.bool true) ?_ rfl
                simp only [execOp, evS, h18, h21]
                go_simp
              refine ⟨fun t w1 hf hk hp => ?_, ?_⟩
              · have h22 : slot t 22 = .bool true := hp 22 (by kernel_rfl)
                clear hf hp
                refine stepAt_plain rfl ?_
                exact stepOK_move _ (.inl rfl) h22
              refine ⟨fun t w1 hf hk hp => ?_, ?_⟩
              · have h2 : slot t 2 = .pointer (some ⟨w.heap.size, 0, none⟩) := hf 2 (by kernel_rfl)
                have h23 : slot t 23 = .bool true := hp 23 (by kernel_rfl)
                clear hf hp
                refine stepAt_on 23 true (by kernel_rfl) h23 ?_
                exact stepOK_pure (.agg #[.int .i64 a0, .int .i64 b0, .slice p0 n0 c0]) (loadO rfl h2 (R2.out.kept hk) rfl) rfl
              refine ⟨fun t w1 hf hk hp => ?_, ?_⟩
              · have h2 : slot t 2 = .pointer (some ⟨w.heap.size, 0, none⟩) := hf 2 (by kernel_rfl)
                have h23 : slot t 23 = .bool true := hp 23 (by kernel_rfl)
                clear hf hp
                refine stepAt_on 23 true (by kernel_rfl) h23 ?_
                exact stepOK_pure (.agg #[.int .i64 a0, .int .i64 b0, .slice p0 n0 c0]) (loadO rfl h2 (R2.out.kept hk) rfl) rfl
              refine ⟨fun t w1 hf hk hp => ?_, ?_⟩
              · have h24 : slot t 24 = .agg #[.int .i64 a0, .int .i64 b0, .slice p0 n0 c0] := hp 24 (by kernel_rfl)
                have h25 : slot t 25 = .agg #[.int .i64 a0, .int .i64 b0, .slice p0 n0 c0] := hp 25 (by kernel_rfl)
                have h23 : slot t 23 = .bool true := hp 23 (by kernel_rfl)
                clear hf hp
                refine stepAt_on 23 true (by kernel_rfl) h23 ?_
                refine stepOK_call #[.agg #[.int .i64 a0, .int .i64 b0, .slice p0 n0 c0], .agg #[.int .i64 a0, .int .i64 b0, .slice p0 n0 c0]] rfl (by simp only [List.map_toArray, List.map_cons, List.map_nil, evS, h24, h25]) (by go_simp) ((H3.out w1 (HSl.kept _ _ _ _ _ hk X0.out)).mono fun e w' ⟨he, hk'⟩ => ⟨_, he, hk', rfl⟩)
              refine ⟨fun t w1 hf hk hp => ?_, ?_⟩
              · have h23 : slot t 23 = .bool true := hp 23 (by kernel_rfl)
                have h26 : slot t 26 = .bool true := hp 26 (by kernel_rfl)
                clear hf hp
                refine stepAt_plain rfl ?_
                refine stepOK_pure (.bool true) ?_ rfl
                simp only [execOp, evS, h23, h26]
                go_simp
              refine ⟨fun t w1 hf hk hp => ?_, ?_⟩
              · have h27 : slot t 27 = .bool true := hp 27 (by kernel_rfl)
                clear hf hp
                refine stepAt_plain rfl ?_
                exact stepOK_move _ (.inl rfl) h27
              refine ⟨fun t w1 hf hk hp => ?_, ?_⟩
              · have h2 : slot t 2 = .pointer (some ⟨w.heap.size, 0, none⟩) := hf 2 (by kernel_rfl)
                have h28 : slot t 28 = .bool true := hp 28 (by kernel_rfl)
                clear hf hp
                refine stepAt_on 28 true (by kernel_rfl) h28 ?_
                exact stepOK_pure (.agg #[.int .i64 a0, .int .i64 b0, .slice p0 n0 c0]) (loadO rfl h2 (R2.out.kept hk) rfl) rfl
              refine ⟨fun t w1 hf hk hp => ?_, ?_⟩
              · have h29 : slot t 29 = .agg #[.int .i64 a0, .int .i64 b0, .slice p0 n0 c0] := hp 29 (by kernel_rfl)
                have h28 : slot t 28 = .bool true := hp 28 (by kernel_rfl)
                clear hf hp
                refine stepAt_on 28 true (by kernel_rfl) h28 ?_
                refine stepOK_call #[.agg #[.int .i64 a0, .int .i64 b0, .slice p0 n0 c0]] rfl (by simp only [List.map_toArray, List.map_cons, List.map_nil, evS, h29]) (by go_simp) ((H4.out w1 (HSl.kept _ _ _ _ _ hk X0.out)).mono fun e w' ⟨he, hk'⟩ => ⟨_, he, hk', rfl⟩)
              refine ⟨fun t w1 hf hk hp => ?_, ?_⟩
              · have h2 : slot t 2 = .pointer (some ⟨w.heap.size, 0, none⟩) := hf 2 (by kernel_rfl)
                have h28 : slot t 28 = .bool true := hp 28 (by kernel_rfl)
                clear hf hp
                refine stepAt_on 28 true (by kernel_rfl) h28 ?_
                exact stepOK_pure (.pointer (some ⟨w.heap.size, 0, none⟩)) (execFieldO w.heap.size 0 (by omega) w1 rfl h2) rfl
              refine ⟨fun t w1 hf hk hp => ?_, ?_⟩
              · have h31 : slot t 31 = .pointer (some ⟨w.heap.size, 0, none⟩) := hp 31 (by kernel_rfl)
                have h28 : slot t 28 = .bool true := hp 28 (by kernel_rfl)
                clear hf hp
                refine stepAt_on 28 true (by kernel_rfl) h28 ?_
                have hq0 := run_loadI ((R2.out.kept hk).cell 0)
                exact stepOK_sem (.int .i64 a0) (by simp only [execOp, evS, h31]) hq0 rfl
              refine ⟨fun t w1 hf hk hp => ?_, ?_⟩
              · have h32 : slot t 32 = .int .i64 a0 := hp 32 (by kernel_rfl)
                have h28 : slot t 28 = .bool true := hp 28 (by kernel_rfl)
                clear hf hp
                refine stepAt_on 28 true (by kernel_rfl) h28 ?_
                have hq0 := hdI
                refine stepOK_pure (.bool true) ?_ rfl
                simp only [execOp, evS, h32]
                go_simp
              refine ⟨fun t w1 hf hk hp => ?_, ?_⟩
              · have h33 : slot t 33 = .bool true := hp 33 (by kernel_rfl)
                have h28 : slot t 28 = .bool true := hp 28 (by kernel_rfl)
                clear hf hp
                refine stepAt_on 28 true (by kernel_rfl) h28 ?_
                exact stepOK_move _ (.inl rfl) h33
              refine ⟨fun t w1 hf hk hp => ?_, ?_⟩
              · have h2 : slot t 2 = .pointer (some ⟨w.heap.size, 0, none⟩) := hf 2 (by kernel_rfl)
                have h34 : slot t 34 = .bool true := hp 34 (by kernel_rfl)
                clear hf hp
                refine stepAt_on 34 true (by kernel_rfl) h34 ?_
                exact stepOK_pure (.pointer (some ⟨w.heap.size, 1, none⟩)) (execFieldO w.heap.size 1 (by omega) w1 rfl h2) rfl
              refine ⟨fun t w1 hf hk hp => ?_, ?_⟩
              · have h35 : slot t 35 = .pointer (some ⟨w.heap.size, 1, none⟩) := hp 35 (by kernel_rfl)
                have h34 : slot t 34 = .bool true := hp 34 (by kernel_rfl)
                clear hf hp
                refine stepAt_on 34 true (by kernel_rfl) h34 ?_
                have hq0 := run_loadI ((R2.out.kept hk).cell 1)
                exact stepOK_sem (.int .i64 b0) (by simp only [execOp, evS, h35]) hq0 rfl
              refine ⟨fun t w1 hf hk hp => ?_, ?_⟩
              · have h36 : slot t 36 = .int .i64 b0 := hp 36 (by kernel_rfl)
                have h34 : slot t 34 = .bool true := hp 34 (by kernel_rfl)
                clear hf hp
                refine stepAt_on 34 true (by kernel_rfl) h34 ?_
                have hq0 := hdN
                refine stepOK_pure (.bool true) ?_ rfl
                simp only [execOp, evS, h36]
                go_simp
              refine ⟨fun t w1 hf hk hp => ?_, ?_⟩
              · have h34 : slot t 34 = .bool true := hp 34 (by kernel_rfl)
                have h37 : slot t 37 = .bool true := hp 37 (by kernel_rfl)
                have h28 : slot t 28 = .bool true := hp 28 (by kernel_rfl)
                clear hf hp
                refine stepAt_on 28 true (by kernel_rfl) h28 ?_
                refine stepOK_pure (.bool true) ?_ rfl
                simp only [execOp, evS, h34, h37]
                go_simp
              refine ⟨fun t w1 hf hk hp => ?_, ?_⟩
              · have h38 : slot t 38 = .bool true := hp 38 (by kernel_rfl)
                have h28 : slot t 28 = .bool true := hp 28 (by kernel_rfl)
                clear hf hp
                refine stepAt_on 28 true (by kernel_rfl) h28 ?_
                exact stepOK_move _ (.inl rfl) h38
              refine ⟨fun t w1 hf hk hp => ?_, ?_⟩
              · have h2 : slot t 2 = .pointer (some ⟨w.heap.size, 0, none⟩) := hf 2 (by kernel_rfl)
                have h39 : slot t 39 = .bool true := hp 39 (by kernel_rfl)
                clear hf hp
                refine stepAt_on 39 true (by kernel_rfl) h39 ?_
                exact stepOK_pure (.pointer (some ⟨w.heap.size, 2, none⟩)) (execFieldO w.heap.size 2 (by omega) w1 rfl h2) rfl
              refine ⟨fun t w1 hf hk hp => ?_, ?_⟩
              · have h40 : slot t 40 = .pointer (some ⟨w.heap.size, 2, none⟩) := hp 40 (by kernel_rfl)
                have h39 : slot t 39 = .bool true := hp 39 (by kernel_rfl)
                clear hf hp
                refine stepAt_on 39 true (by kernel_rfl) h39 ?_
                have hq0 := run_loadHs ((R2.out.kept hk).cell 2)
                exact stepOK_sem (.slice p0 n0 c0) (by simp only [execOp, evS, h40]) hq0 rfl
              refine ⟨fun t w1 hf hk hp => ?_, ?_⟩
              · have h41 : slot t 41 = .slice p0 n0 c0 := hp 41 (by kernel_rfl)
                have h39 : slot t 39 = .bool true := hp 39 (by kernel_rfl)
                clear hf hp
                refine stepAt_on 39 true (by kernel_rfl) h39 ?_
                exact stepOK_pure (.int .i64 (n0 : Int)) (execLenHs w1 rfl h41) rfl
              refine ⟨fun t w1 hf hk hp => ?_, ?_⟩
              · have h42 : slot t 42 = .int .i64 (n0 : Int) := hp 42 (by kernel_rfl)
                have h39 : slot t 39 = .bool true := hp 39 (by kernel_rfl)
                clear hf hp
                refine stepAt_on 39 true (by kernel_rfl) h39 ?_
                have hq0 := hdM
                refine stepOK_pure (.bool true) ?_ rfl
                simp only [execOp, evS, h42]
                go_simp
              refine ⟨fun t w1 hf hk hp => ?_, ?_⟩
              · have h39 : slot t 39 = .bool true := hp 39 (by kernel_rfl)
                have h43 : slot t 43 = .bool true := hp 43 (by kernel_rfl)
                have h28 : slot t 28 = .bool true := hp 28 (by kernel_rfl)
                clear hf hp
                refine stepAt_on 28 true (by kernel_rfl) h28 ?_
                refine stepOK_pure (.bool true) ?_ rfl
                simp only [execOp, evS, h39, h43]
                go_simp
              refine ⟨fun t w1 hf hk hp => ?_, ?_⟩
              · have h30 : slot t 30 = .bool true := hp 30 (by kernel_rfl)
                have h44 : slot t 44 = .bool true := hp 44 (by kernel_rfl)
                have h28 : slot t 28 = .bool true := hp 28 (by kernel_rfl)
                clear hf hp
                refine stepAt_on 28 true (by kernel_rfl) h28 ?_
                refine stepOK_pure (.bool true) ?_ rfl
                simp only [execOp, evS, h30, h44]
                go_simp
              refine ⟨fun t w1 hf hk hp => ?_, ?_⟩
              · have h28 : slot t 28 = .bool true := hp 28 (by kernel_rfl)
                have h45 : slot t 45 = .bool true := hp 45 (by kernel_rfl)
                clear hf hp
                refine stepAt_plain rfl ?_
                refine stepOK_pure (.bool true) ?_ rfl
                simp only [execOp, evS, h28, h45]
                go_simp
              refine ⟨fun t w1 hf hk hp => ?_, ?_⟩
              · have h46 : slot t 46 = .bool true := hp 46 (by kernel_rfl)
                clear hf hp
                refine stepAt_plain rfl ?_
                exact stepOK_move _ (.inl rfl) h46
              refine ⟨fun t w1 hf hk hp => ?_, ?_⟩
              · have h47 : slot t 47 = .bool true := hp 47 (by kernel_rfl)
                clear hf hp
                refine stepAt_on 47 true (by kernel_rfl) h47 ?_
                refine stepOK_call #[] rfl (by simp only [List.map_toArray, List.map_nil]) (by go_simp) ((HA.out w1 (HT.out.kept (K1.out.trans hk))).mono fun e w' ⟨he, hk'⟩ => ⟨_, he, hk', rfl⟩)
              refine ⟨fun t w1 hf hk hp => ?_, ?_⟩
              · have h47 : slot t 47 = .bool true := hp 47 (by kernel_rfl)
                have h48 : slot t 48 = .bool true := hp 48 (by kernel_rfl)
                clear hf hp
                refine stepAt_plain rfl ?_
                refine stepOK_pure (.bool true) ?_ rfl
                simp only [execOp, evS, h47, h48]
                go_simp
              refine ⟨fun t w1 hf hk hp => ?_, ?_⟩
              · have h49 : slot t 49 = .bool true := hp 49 (by kernel_rfl)
                clear hf hp
                refine stepAt_plain rfl ?_
                exact stepOK_move _ (.inr rfl) h49
              exact trivial
            · intro t w1 hsz hf hk hfacts
              have h4 : slot t 4 = .bool true := hfacts 34 _ rfl 4 rfl
              have h0 : slot t 0 = .agg #[.int .i64 a0, .int .i64 b0, .slice p0 n0 c0] := hf 0 (by kernel_rfl)
              have h1 : slot t 1 = .agg #[.int .i64 a1, .int .i64 b1, .slice p1 n1 c1] := hf 1 (by kernel_rfl)
              have h2 : slot t 2 = .pointer (some ⟨w.heap.size, 0, none⟩) := hf 2 (by kernel_rfl)
              have h3 : slot t 3 = .pointer (some ⟨w.heap.size + 1, 0, none⟩) := hf 3 (by kernel_rfl)
              have harr : t = #[slot t 0, slot t 1, slot t 2, slot t 3, slot t 4, slot t 5, slot t 6, slot t 7, slot t 8, slot t 9, slot t 10, slot t 11, slot t 12, slot t 13, slot t 14, slot t 15, slot t 16, slot t 17, slot t 18, slot t 19, slot t 20, slot t 21, slot t 22, slot t 23, slot t 24, slot t 25, slot t 26, slot t 27, slot t 28, slot t 29, slot t 30, slot t 31, slot t 32, slot t 33, slot t 34, slot t 35, slot t 36, slot t 37, slot t 38, slot t 39, slot t 40, slot t 41, slot t 42, slot t 43, slot t 44, slot t 45, slot t 46, slot t 47, slot t 48, slot t 49] := arr_eq t 50 hsz
              rw [harr, h4, h0, h1, h2, h3]
              clear harr hfacts hf h4 h0 h1 h2 h3
              generalize slot t 5 = x5; generalize slot t 6 = x6; generalize slot t 7 = x7; generalize slot t 8 = x8; generalize slot t 9 = x9; generalize slot t 10 = x10; generalize slot t 11 = x11; generalize slot t 12 = x12; generalize slot t 13 = x13; generalize slot t 14 = x14; generalize slot t 15 = x15; generalize slot t 16 = x16
              generalize slot t 17 = x17; generalize slot t 18 = x18; generalize slot t 19 = x19; generalize slot t 20 = x20; generalize slot t 21 = x21; generalize slot t 22 = x22; generalize slot t 23 = x23; generalize slot t 24 = x24; generalize slot t 25 = x25; generalize slot t 26 = x26; generalize slot t 27 = x27; generalize slot t 28 = x28
              generalize slot t 29 = x29; generalize slot t 30 = x30; generalize slot t 31 = x31; generalize slot t 32 = x32; generalize slot t 33 = x33; generalize slot t 34 = x34; generalize slot t 35 = x35; generalize slot t 36 = x36; generalize slot t 37 = x37; generalize slot t 38 = x38; generalize slot t 39 = x39; generalize slot t 40 = x40
              generalize slot t 41 = x41; generalize slot t 42 = x42; generalize slot t 43 = x43; generalize slot t 44 = x44; generalize slot t 45 = x45; generalize slot t 46 = x46; generalize slot t 47 = x47; generalize slot t 48 = x48; generalize slot t 49 = x49
              clear hsz t
              have K2 := Lib.hid (K1.out.trans hk)
              clear hk
              go_wp2_with fail
              go_ret
              exact ⟨rfl, K2.out⟩
          · have hdM : ((n0 : Int) == 0) = false := beq_eq_false_iff_ne.2 (by omega)
            rw [decide_eq_false (fun h => hM h.2.2)] at H4
            clear hI hN hM
            go_enter Tryd.func4, Tryd.ntmps4
            go_wp2_with fail
            change Code.wp _ _ _ _ ((w.alloc (.cells #[.int .i64 a0, .int .i64 b0, .slice p0 n0 c0] 27)).alloc (.cells #[.int .i64 a1, .int .i64 b1, .slice p1 n1 c1] 27))
            replace X0 := Lib.hid (HSl.kept _ _ _ _ _ K1.out X0.out)
            replace X1 := Lib.hid (HSl.kept _ _ _ _ _ K1.out X1.out)
            generalize (w.alloc (.cells #[.int .i64 a0, .int .i64 b0, .slice p0 n0 c0] 27)).alloc (.cells #[.int .i64 a1, .int .i64 b1, .slice p1 n1 c1] 27) = v at K1 R2 R3 X0 X1 ⊢
            refine wp_region_table [(16, .is (.agg #[.int .i64 a0, .int .i64 b0, .slice p0 n0 c0])), (17, .is (.agg #[.int .i64 a1, .int .i64 b1, .slice p1 n1 c1])), (18, .is (.bool B)), (19, .is (.agg #[.int .i64 a0, .int .i64 b0, .slice p0 n0 c0])), (20, .is (.agg #[.int .i64 a1, .int .i64 b1, .slice p1 n1 c1])), (21, .is (.bool B)), (22, .is (.bool true)), (23, .is (.bool true)), (24, .is (.agg #[.int .i64 a0, .int .i64 b0, .slice p0 n0 c0])), (25, .is (.agg #[.int .i64 a0, .int .i64 b0, .slice p0 n0 c0])), (26, .is (.bool true)), (27, .is (.bool true)), (28, .is (.bool true)), (29, .is (.agg #[.int .i64 a0, .int .i64 b0, .slice p0 n0 c0])), (30, .is (.bool false)), (31, .is (.pointer (some ⟨w.heap.size, 0, none⟩))), (32, .is (.int .i64 a0)), (33, .is (.bool true)), (34, .is (.bool true)), (35, .is (.pointer (some ⟨w.heap.size, 1, none⟩))), (36, .is (.int .i64 b0)), (37, .is (.bool true)), (38, .is (.bool true)), (39, .is (.bool true)), (40, .is (.pointer (some ⟨w.heap.size, 2, none⟩))), (41, .is (.slice p0 n0 c0)), (42, .is (.int .i64 (n0 : Int))), (43, .is (.bool false)), (44, .is (.bool false)), (45, .is (.bool true)), (46, .is (.bool true)), (47, .is (.bool true)), (48, .is (.bool true)), (49, .is (.bool true)), (4, .is (.bool true))] (by kernel_rfl) (by kernel_rfl) ?_ ?_
            · refine ⟨fun t w1 hf hk hp => ?_, ?_⟩
              · have h2 : slot t 2 = .pointer (some ⟨w.heap.size, 0, none⟩) := hf 2 (by kernel_rfl)
                clear hf hp
                refine stepAt_plain rfl ?_
                exact stepOK_pure (.agg #[.int .i64 a0, .int .i64 b0, .slice p0 n0 c0]) (loadO rfl h2 (R2.out.kept hk) rfl) rfl
              refine ⟨fun t w1 hf hk hp => ?_, ?_⟩
              · have h3 : slot t 3 = .pointer (some ⟨w.heap.size + 1, 0, none⟩) := hf 3 (by kernel_rfl)
                clear hf hp
                refine stepAt_plain rfl ?_
                exact stepOK_pure (.agg #[.int .i64 a1, .int .i64 b1, .slice p1 n1 c1]) (loadO rfl h3 (R3.out.kept hk) rfl) rfl
              refine ⟨fun t w1 hf hk hp => ?_, ?_⟩
              · have h16 : slot t 16 = .agg #[.int .i64 a0, .int .i64 b0, .slice p0 n0 c0] := hp 16 (by kernel_rfl)
                have h17 : slot t 17 = .agg #[.int .i64 a1, .int .i64 b1, .slice p1 n1 c1] := hp 17 (by kernel_rfl)
                clear hf hp
                refine stepAt_plain rfl ?_
                refine stepOK_call #[.agg #[.int .i64 a0, .int .i64 b0, .slice p0 n0 c0], .agg #[.int .i64 a1, .int .i64 b1, .slice p1 n1 c1]] rfl (by simp only [List.map_toArray, List.map_cons, List.map_nil, evS, h16, h17]) (by go_simp) ((H1.out w1 (HSl.kept _ _ _ _ _ hk X0.out) (HSl.kept _ _ _ _ _ hk X1.out)).mono fun e w' ⟨he, hk'⟩ => ⟨_, he, hk', rfl⟩)
              refine ⟨fun t w1 hf hk hp => ?_, ?_⟩
              · have h2 : slot t 2 = .pointer (some ⟨w.heap.size, 0, none⟩) := hf 2 (by kernel_rfl)
                clear hf hp
                refine stepAt_plain rfl ?_
                exact stepOK_pure (.agg #[.int .i64 a0, .int .i64 b0, .slice p0 n0 c0]) (loadO rfl h2 (R2.out.kept hk) rfl) rfl
              refine ⟨fun t w1 hf hk hp => ?_, ?_⟩
              · have h3 : slot t 3 = .pointer (some ⟨w.heap.size + 1, 0, none⟩) := hf 3 (by kernel_rfl)
                clear hf hp
                refine stepAt_plain rfl ?_
                exact stepOK_pure (.agg #[.int .i64 a1, .int .i64 b1, .slice p1 n1 c1]) (loadO rfl h3 (R3.out.kept hk) rfl) rfl
              refine ⟨fun t w1 hf hk hp => ?_, ?_⟩
              · have h19 : slot t 19 = .agg #[.int .i64 a0, .int .i64 b0, .slice p0 n0 c0] := hp 19 (by kernel_rfl)
                have h20 : slot t 20 = .agg #[.int .i64 a1, .int .i64 b1, .slice p1 n1 c1] := hp 20 (by kernel_rfl)
                clear hf hp
                refine stepAt_plain rfl ?_
                refine stepOK_call #[.agg #[.int .i64 a0, .int .i64 b0, .slice p0 n0 c0], .agg #[.int .i64 a1, .int .i64 b1, .slice p1 n1 c1]] rfl (by simp only [List.map_toArray, List.map_cons, List.map_nil, evS, h19, h20]) (by go_simp) ((H2.out w1 (HSl.kept _ _ _ _ _ hk X0.out) (HSl.kept _ _ _ _ _ hk X1.out)).mono fun e w' ⟨he, hk'⟩ => ⟨_, he, hk', rfl⟩)
              refine ⟨fun t w1 hf hk hp => ?_, ?_⟩
              · have h18 : slot t 18 = .bool B := hp 18 (by kernel_rfl)
                have h21 : slot t 21 = .bool B := hp 21 (by kernel_rfl)
                clear hf hp
                refine stepAt_plain rfl ?_
                have hq0 := hBB
                refine stepOK_pure (.bool true) ?_ rfl
                simp only [execOp, evS, h18, h21]
                go_simp
              refine ⟨fun t w1 hf hk hp => ?_, ?_⟩
              · have h22 : slot t 22 = .bool true := hp 22 (by kernel_rfl)
                clear hf hp
                refine stepAt_plain rfl ?_
                exact stepOK_move _ (.inl rfl) h22
              refine ⟨fun t w1 hf hk hp => ?_, ?_⟩
              · have h2 : slot t 2 = .pointer (some ⟨w.heap.size, 0, none⟩) := hf 2 (by kernel_rfl)
                have h23 : slot t 23 = .bool true := hp 23 (by kernel_rfl)
                clear hf hp
                refine stepAt_on 23 true (by kernel_rfl) h23 ?_
                exact stepOK_pure (.agg #[.int .i64 a0, .int .i64 b0, .slice p0 n0 c0]) (loadO rfl h2 (R2.out.kept hk) rfl) rfl
              refine ⟨fun t w1 hf hk hp => ?_, ?_⟩
              · have h2 : slot t 2 = .pointer (some ⟨w.heap.size, 0, none⟩) := hf 2 (by kernel_rfl)
                have h23 : slot t 23 = .bool true := hp 23 (by kernel_rfl)
                clear hf hp
                refine stepAt_on 23 true (by kernel_rfl) h23 ?_
                exact stepOK_pure (.agg #[.int .i64 a0, .int .i64 b0, .slice p0 n0 c0]) (loadO rfl h2 (R2.out.kept hk) rfl) rfl
              refine ⟨fun t w1 hf hk hp => ?_, ?_⟩
              · have h24 : slot t 24 = .agg #[.int .i64 a0, .int .i64 b0, .slice p0 n0 c0] := hp 24 (by kernel_rfl)
                have h25 : slot t 25 = .agg #[.int .i64 a0, .int .i64 b0, .slice p0 n0 c0] := hp 25 (by kernel_rfl)
                have h23 : slot t 23 = .bool true := hp 23 (by kernel_rfl)
                clear hf hp
                refine stepAt_on 23 true (by kernel_rfl) h23 ?_
                refine stepOK_call #[.agg #[.int .i64 a0, .int .i64 b0, .slice p0 n0 c0], .agg #[.int .i64 a0, .int .i64 b0, .slice p0 n0 c0]] rfl (by simp only [List.map_toArray, List.map_cons, List.map_nil, evS, h24, h25]) (by go_simp) ((H3.out w1 (HSl.kept _ _ _ _ _ hk X0.out)).mono fun e w' ⟨he, hk'⟩ => ⟨_, he, hk', rfl⟩)
              refine ⟨fun t w1 hf hk hp => ?_, ?_⟩
              · have h23 : slot t 23 = .bool true := hp 23 (by kernel_rfl)
                have h26 : slot t 26 = .bool true := hp 26 (by kernel_rfl)
                clear hf hp
                refine stepAt_plain rfl ?_
                refine stepOK_pure (.bool true) ?_ rfl
                simp only [execOp, evS, h23, h26]
                go_simp
              refine ⟨fun t w1 hf hk hp => ?_, ?_⟩
              · have h27 : slot t 27 = .bool true := hp 27 (by kernel_rfl)
                clear hf hp
                refine stepAt_plain rfl ?_
                exact stepOK_move _ (.inl rfl) h27
              refine ⟨fun t w1 hf hk hp => ?_, ?_⟩
              · have h2 : slot t 2 = .pointer (some ⟨w.heap.size, 0, none⟩) := hf 2 (by kernel_rfl)
                have h28 : slot t 28 = .bool true := hp 28 (by kernel_rfl)
                clear hf hp
                refine stepAt_on 28 true (by kernel_rfl) h28 ?_
                exact stepOK_pure (.agg #[.int .i64 a0, .int .i64 b0, .slice p0 n0 c0]) (loadO rfl h2 (R2.out.kept hk) rfl) rfl
              refine ⟨fun t w1 hf hk hp => ?_, ?_⟩
              · have h29 : slot t 29 = .agg #[.int .i64 a0, .int .i64 b0, .slice p0 n0 c0] := hp 29 (by kernel_rfl)
                have h28 : slot t 28 = .bool true := hp 28 (by kernel_rfl)
                clear hf hp
                refine stepAt_on 28 true (by kernel_rfl) h28 ?_
                refine stepOK_call #[.agg #[.int .i64 a0, .int .i64 b0, .slice p0 n0 c0]] rfl (by simp only [List.map_toArray, List.map_cons, List.map_nil, evS, h29]) (by go_simp) ((H4.out w1 (HSl.kept _ _ _ _ _ hk X0.out)).mono fun e w' ⟨he, hk'⟩ => ⟨_, he, hk', rfl⟩)
              refine ⟨fun t w1 hf hk hp => ?_, ?_⟩
              · have h2 : slot t 2 = .pointer (some ⟨w.heap.size, 0, none⟩) := hf 2 (by kernel_rfl)
                have h28 : slot t 28 = .bool true := hp 28 (by kernel_rfl)
                clear hf hp
                refine stepAt_on 28 true (by kernel_rfl) h28 ?_
                exact stepOK_pure (.pointer (some ⟨w.heap.size, 0, none⟩)) (execFieldO w.heap.size 0 (by omega) w1 rfl h2) rfl
              refine ⟨fun t w1 hf hk hp => ?_, ?_⟩
              · have h31 : slot t 31 = .pointer (some ⟨w.heap.size, 0, none⟩) := hp 31 (by kernel_rfl)
                have h28 : slot t 28 = .bool true := hp 28 (by kernel_rfl)
                clear hf hp
                refine stepAt_on 28 true (by kernel_rfl) h28 ?_
                have hq0 := run_loadI ((R2.out.kept hk).cell 0)
                exact stepOK_sem (.int .i64 a0) (by simp only [execOp, evS, h31]) hq0 rfl
              refine ⟨fun t w1 hf hk hp => ?_, ?_⟩
              · have h32 : slot t 32 = .int .i64 a0 := hp 32 (by kernel_rfl)
                have h28 : slot t 28 = .bool true := hp 28 (by kernel_rfl)
                clear hf hp
                refine stepAt_on 28 true (by kernel_rfl) h28 ?_
                have hq0 := hdI
                refine stepOK_pure (.bool true) ?_ rfl
                simp only [execOp, evS, h32]
                go_simp
              refine ⟨fun t w1 hf hk hp => ?_, ?_⟩
              · have h33 : slot t 33 = .bool true := hp 33 (by kernel_rfl)
                have h28 : slot t 28 = .bool true := hp 28 (by kernel_rfl)
                clear hf hp
                refine stepAt_on 28 true (by kernel_rfl) h28 ?_
                exact stepOK_move _ (.inl rfl) h33
              refine ⟨fun t w1 hf hk hp => ?_, ?_⟩
              · have h2 : slot t 2 = .pointer (some ⟨w.heap.size, 0, none⟩) := hf 2 (by kernel_rfl)
                have h34 : slot t 34 = .bool true := hp 34 (by kernel_rfl)
                clear hf hp
                refine stepAt_on 34 true (by kernel_rfl) h34 ?_
                exact stepOK_pure (.pointer (some ⟨w.heap.size, 1, none⟩)) (execFieldO w.heap.size 1 (by omega) w1 rfl h2) rfl
              refine ⟨fun t w1 hf hk hp => ?_, ?_⟩
              · have h35 : slot t 35 = .pointer (some ⟨w.heap.size, 1, none⟩) := hp 35 (by kernel_rfl)
                have h34 : slot t 34 = .bool true := hp 34 (by kernel_rfl)
                clear hf hp
                refine stepAt_on 34 true (by kernel_rfl) h34 ?_
                have hq0 := run_loadI ((R2.out.kept hk).cell 1)
                exact stepOK_sem (.int .i64 b0) (by simp only [execOp, evS, h35]) hq0 rfl
              refine ⟨fun t w1 hf hk hp => ?_, ?_⟩
              · have h36 : slot t 36 = .int .i64 b0 := hp 36 (by kernel_rfl)
                have h34 : slot t 34 = .bool true := hp 34 (by kernel_rfl)
                clear hf hp
                refine stepAt_on 34 true (by kernel_rfl) h34 ?_
                have hq0 := hdN
                refine stepOK_pure (.bool true) ?_ rfl
                simp only [execOp, evS, h36]
                go_simp
              refine ⟨fun t w1 hf hk hp => ?_, ?_⟩
              · have h34 : slot t 34 = .bool true := hp 34 (by kernel_rfl)
                have h37 : slot t 37 = .bool true := hp 37 (by kernel_rfl)
                have h28 : slot t 28 = .bool true := hp 28 (by kernel_rfl)
                clear hf hp
                refine stepAt_on 28 true (by kernel_rfl) h28 ?_
                refine stepOK_pure (.bool true) ?_ rfl
                simp only [execOp, evS, h34, h37]
                go_simp
              refine ⟨fun t w1 hf hk hp => ?_, ?_⟩
              · have h38 : slot t 38 = .bool true := hp 38 (by kernel_rfl)
                have h28 : slot t 28 = .bool true := hp 28 (by kernel_rfl)
                clear hf hp
                refine stepAt_on 28 true (by kernel_rfl) h28 ?_
                exact stepOK_move _ (.inl rfl) h38
              refine ⟨fun t w1 hf hk hp => ?_, ?_⟩
              · have h2 : slot t 2 = .pointer (some ⟨w.heap.size, 0, none⟩) := hf 2 (by kernel_rfl)
                have h39 : slot t 39 = .bool true := hp 39 (by kernel_rfl)
                clear hf hp
                refine stepAt_on 39 true (by kernel_rfl) h39 ?_
                exact stepOK_pure (.pointer (some ⟨w.heap.size, 2, none⟩)) (execFieldO w.heap.size 2 (by omega) w1 rfl h2) rfl
              refine ⟨fun t w1 hf hk hp => ?_, ?_⟩
              · have h40 : slot t 40 = .pointer (some ⟨w.heap.size, 2, none⟩) := hp 40 (by kernel_rfl)
                have h39 : slot t 39 = .bool true := hp 39 (by kernel_rfl)
                clear hf hp
                refine stepAt_on 39 true (by kernel_rfl) h39 ?_
                have hq0 := run_loadHs ((R2.out.kept hk).cell 2)
                exact stepOK_sem (.slice p0 n0 c0) (by simp only [execOp, evS, h40]) hq0 rfl
              refine ⟨fun t w1 hf hk hp => ?_, ?_⟩
              · have h41 : slot t 41 = .slice p0 n0 c0 := hp 41 (by kernel_rfl)
                have h39 : slot t 39 = .bool true := hp 39 (by kernel_rfl)
                clear hf hp
                refine stepAt_on 39 true (by kernel_rfl) h39 ?_
                exact stepOK_pure (.int .i64 (n0 : Int)) (execLenHs w1 rfl h41) rfl
              refine ⟨fun t w1 hf hk hp => ?_, ?_⟩
              · have h42 : slot t 42 = .int .i64 (n0 : Int) := hp 42 (by kernel_rfl)
                have h39 : slot t 39 = .bool true := hp 39 (by kernel_rfl)
                clear hf hp
                refine stepAt_on 39 true (by kernel_rfl) h39 ?_
                have hq0 := hdM
                refine stepOK_pure (.bool false) ?_ rfl
                simp only [execOp, evS, h42]
                go_simp
              refine ⟨fun t w1 hf hk hp => ?_, ?_⟩
              · have h39 : slot t 39 = .bool true := hp 39 (by kernel_rfl)
                have h43 : slot t 43 = .bool false := hp 43 (by kernel_rfl)
                have h28 : slot t 28 = .bool true := hp 28 (by kernel_rfl)
                clear hf hp
                refine stepAt_on 28 true (by kernel_rfl) h28 ?_
                refine stepOK_pure (.bool false) ?_ rfl
                simp only [execOp, evS, h39, h43]
                go_simp
              refine ⟨fun t w1 hf hk hp => ?_, ?_⟩
              · have h30 : slot t 30 = .bool false := hp 30 (by kernel_rfl)
                have h44 : slot t 44 = .bool false := hp 44 (by kernel_rfl)
                have h28 : slot t 28 = .bool true := hp 28 (by kernel_rfl)
                clear hf hp
                refine stepAt_on 28 true (by kernel_rfl) h28 ?_
                refine stepOK_pure (.bool true) ?_ rfl
                simp only [execOp, evS, h30, h44]
                go_simp
              refine ⟨fun t w1 hf hk hp => ?_, ?_⟩
              · have h28 : slot t 28 = .bool true := hp 28 (by kernel_rfl)
                have h45 : slot t 45 = .bool true := hp 45 (by kernel_rfl)
                clear hf hp
                refine stepAt_plain rfl ?_
                refine stepOK_pure (.bool true) ?_ rfl
                simp only [execOp, evS, h28, h45]
                go_simp
              refine ⟨fun t w1 hf hk hp => ?_, ?_⟩
              · have h46 : slot t 46 = .bool true := hp 46 (by kernel_rfl)
                clear hf hp
                refine stepAt_plain rfl ?_
                exact stepOK_move _ (.inl rfl) h46
              refine ⟨fun t w1 hf hk hp => ?_, ?_⟩
              · have h47 : slot t 47 = .bool true := hp 47 (by kernel_rfl)
                clear hf hp
                refine stepAt_on 47 true (by kernel_rfl) h47 ?_
                refine stepOK_call #[] rfl (by simp only [List.map_toArray, List.map_nil]) (by go_simp) ((HA.out w1 (HT.out.kept (K1.out.trans hk))).mono fun e w' ⟨he, hk'⟩ => ⟨_, he, hk', rfl⟩)
              refine ⟨fun t w1 hf hk hp => ?_, ?_⟩
              · have h47 : slot t 47 = .bool true := hp 47 (by kernel_rfl)
                have h48 : slot t 48 = .bool true := hp 48 (by kernel_rfl)
                clear hf hp
                refine stepAt_plain rfl ?_
                refine stepOK_pure (.bool true) ?_ rfl
                simp only [execOp, evS, h47, h48]
                go_simp
              refine ⟨fun t w1 hf hk hp => ?_, ?_⟩
              · have h49 : slot t 49 = .bool true := hp 49 (by kernel_rfl)
                clear hf hp
                refine stepAt_plain rfl ?_
                exact stepOK_move _ (.inr rfl) h49
              exact trivial
            · intro t w1 hsz hf hk hfacts
              have h4 : slot t 4 = .bool true := hfacts 34 _ rfl 4 rfl
              have h0 : slot t 0 = .agg #[.int .i64 a0, .int .i64 b0, .slice p0 n0 c0] := hf 0 (by kernel_rfl)
              have h1 : slot t 1 = .agg #[.int .i64 a1, .int .i64 b1, .slice p1 n1 c1] := hf 1 (by kernel_rfl)
              have h2 : slot t 2 = .pointer (some ⟨w.heap.size, 0, none⟩) := hf 2 (by kernel_rfl)
              have h3 : slot t 3 = .pointer (some ⟨w.heap.size + 1, 0, none⟩) := hf 3 (by kernel_rfl)
              have harr : t = #[slot t 0, slot t 1, slot t 2, slot t 3, slot t 4, slot t 5, slot t 6, slot t 7, slot t 8, slot t 9, slot t 10, slot t 11, slot t 12, slot t 13, slot t 14, slot t 15, slot t 16, slot t 17, slot t 18, slot t 19, slot t 20, slot t 21, slot t 22, slot t 23, slot t 24, slot t 25, slot t 26, slot t 27, slot t 28, slot t 29, slot t 30, slot t 31, slot t 32, slot t 33, slot t 34, slot t 35, slot t 36, slot t 37, slot t 38, slot t 39, slot t 40, slot t 41, slot t 42, slot t 43, slot t 44, slot t 45, slot t 46, slot t 47, slot t 48, slot t 49] := arr_eq t 50 hsz
              rw [harr, h4, h0, h1, h2, h3]
              clear harr hfacts hf h4 h0 h1 h2 h3
              generalize slot t 5 = x5; generalize slot t 6 = x6; generalize slot t 7 = x7; generalize slot t 8 = x8; generalize slot t 9 = x9; generalize slot t 10 = x10; generalize slot t 11 = x11; generalize slot t 12 = x12; generalize slot t 13 = x13; generalize slot t 14 = x14; generalize slot t 15 = x15; generalize slot t 16 = x16
              generalize slot t 17 = x17; generalize slot t 18 = x18; generalize slot t 19 = x19; generalize slot t 20 = x20; generalize slot t 21 = x21; generalize slot t 22 = x22; generalize slot t 23 = x23; generalize slot t 24 = x24; generalize slot t 25 = x25; generalize slot t 26 = x26; generalize slot t 27 = x27; generalize slot t 28 = x28
              generalize slot t 29 = x29; generalize slot t 30 = x30; generalize slot t 31 = x31; generalize slot t 32 = x32; generalize slot t 33 = x33; generalize slot t 34 = x34; generalize slot t 35 = x35; generalize slot t 36 = x36; generalize slot t 37 = x37; generalize slot t 38 = x38; generalize slot t 39 = x39; generalize slot t 40 = x40
              generalize slot t 41 = x41; generalize slot t 42 = x42; generalize slot t 43 = x43; generalize slot t 44 = x44; generalize slot t 45 = x45; generalize slot t 46 = x46; generalize slot t 47 = x47; generalize slot t 48 = x48; generalize slot t 49 = x49
              clear hsz t
              have K2 := Lib.hid (K1.out.trans hk)
              clear hk
              go_wp2_with fail
              go_ret
              exact ⟨rfl, K2.out⟩
        · have hdN : (b0 == 0) = false := beq_eq_false_iff_ne.2 hN
          rw [decide_eq_false (fun h => hN h.2.1)] at H4
          clear hI hN
          go_enter Tryd.func4, Tryd.ntmps4
          go_wp2_with fail
          change Code.wp _ _ _ _ ((w.alloc (.cells #[.int .i64 a0, .int .i64 b0, .slice p0 n0 c0] 27)).alloc (.cells #[.int .i64 a1, .int .i64 b1, .slice p1 n1 c1] 27))
          replace X0 := Lib.hid (HSl.kept _ _ _ _ _ K1.out X0.out)
          replace X1 := Lib.hid (HSl.kept _ _ _ _ _ K1.out X1.out)
          generalize (w.alloc (.cells #[.int .i64 a0, .int .i64 b0, .slice p0 n0 c0] 27)).alloc (.cells #[.int .i64 a1, .int .i64 b1, .slice p1 n1 c1] 27) = v at K1 R2 R3 X0 X1 ⊢
          refine wp_region_table [(16, .is (.agg #[.int .i64 a0, .int .i64 b0, .slice p0 n0 c0])), (17, .is (.agg #[.int .i64 a1, .int .i64 b1, .slice p1 n1 c1])), (18, .is (.bool B)), (19, .is (.agg #[.int .i64 a0, .int .i64 b0, .slice p0 n0 c0])), (20, .is (.agg #[.int .i64 a1, .int .i64 b1, .slice p1 n1 c1])), (21, .is (.bool B)), (22, .is (.bool true)), (23, .is (.bool true)), (24, .is (.agg #[.int .i64 a0, .int .i64 b0, .slice p0 n0 c0])), (25, .is (.agg #[.int .i64 a0, .int .i64 b0, .slice p0 n0 c0])), (26, .is (.bool true)), (27, .is (.bool true)), (28, .is (.bool true)), (29, .is (.agg #[.int .i64 a0, .int .i64 b0, .slice p0 n0 c0])), (30, .is (.bool false)), (31, .is (.pointer (some ⟨w.heap.size, 0, none⟩))), (32, .is (.int .i64 a0)), (33, .is (.bool true)), (34, .is (.bool true)), (35, .is (.pointer (some ⟨w.heap.size, 1, none⟩))), (36, .is (.int .i64 b0)), (37, .is (.bool false)), (38, .is (.bool false)), (39, .is (.bool false)), (40, .is (undef)), (41, .is (undef)), (42, .is (undef)), (43, .is (undef)), (44, .is (.bool false)), (45, .is (.bool true)), (46, .is (.bool true)), (47, .is (.bool true)), (48, .is (.bool true)), (49, .is (.bool true)), (4, .is (.bool true))] (by kernel_rfl) (by kernel_rfl) ?_ ?_
          · refine ⟨fun t w1 hf hk hp => ?_, ?_⟩
            · have h2 : slot t 2 = .pointer (some ⟨w.heap.size, 0, none⟩) := hf 2 (by kernel_rfl)
              clear hf hp
              refine stepAt_plain rfl ?_
              exact stepOK_pure (.agg #[.int .i64 a0, .int .i64 b0, .slice p0 n0 c0]) (loadO rfl h2 (R2.out.kept hk) rfl) rfl
            refine ⟨fun t w1 hf hk hp => ?_, ?_⟩
            · have h3 : slot t 3 = .pointer (some ⟨w.heap.size + 1, 0, none⟩) := hf 3 (by kernel_rfl)
              clear hf hp
              refine stepAt_plain rfl ?_
              exact stepOK_pure (.agg #[.int .i64 a1, .int .i64 b1, .slice p1 n1 c1]) (loadO rfl h3 (R3.out.kept hk) rfl) rfl
            refine ⟨fun t w1 hf hk hp => ?_, ?_⟩
            · have h16 : slot t 16 = .agg #[.int .i64 a0, .int .i64 b0, .slice p0 n0 c0] := hp 16 (by kernel_rfl)
              have h17 : slot t 17 = .agg #[.int .i64 a1, .int .i64 b1, .slice p1 n1 c1] := hp 17 (by kernel_rfl)
              clear hf hp
              refine stepAt_plain rfl ?_
              refine stepOK_call #[.agg #[.int .i64 a0, .int .i64 b0, .slice p0 n0 c0], .agg #[.int .i64 a1, .int .i64 b1, .slice p1 n1 c1]] rfl (by simp only [List.map_toArray, List.map_cons, List.map_nil, evS, h16, h17]) (by go_simp) ((H1.out w1 (HSl.kept _ _ _ _ _ hk X0.out) (HSl.kept _ _ _ _ _ hk X1.out)).mono fun e w' ⟨he, hk'⟩ => ⟨_, he, hk', rfl⟩)
            refine ⟨fun t w1 hf hk hp => ?_, ?_⟩
            · have h2 : slot t 2 = .pointer (some ⟨w.heap.size, 0, none⟩) := hf 2 (by kernel_rfl)
              clear hf hp
              refine stepAt_plain rfl ?_
              exact stepOK_pure (.agg #[.int .i64 a0, .int .i64 b0, .slice p0 n0 c0]) (loadO rfl h2 (R2.out.kept hk) rfl) rfl
            refine ⟨fun t w1 hf hk hp => ?_, ?_⟩
            · have h3 : slot t 3 = .pointer (some ⟨w.heap.size + 1, 0, none⟩) := hf 3 (by kernel_rfl)
              clear hf hp
              refine stepAt_plain rfl ?_
              exact stepOK_pure (.agg #[.int .i64 a1, .int .i64 b1, .slice p1 n1 c1]) (loadO rfl h3 (R3.out.kept hk) rfl) rfl
            refine ⟨fun t w1 hf hk hp => ?_, ?_⟩
            · have h19 : slot t 19 = .agg #[.int .i64 a0, .int .i64 b0, .slice p0 n0 c0] := hp 19 (by kernel_rfl)
              have h20 : slot t 20 = .agg #[.int .i64 a1, .int .i64 b1, .slice p1 n1 c1] := hp 20 (by kernel_rfl)
              clear hf hp
              refine stepAt_plain rfl ?_
              refine stepOK_call #[.agg #[.int .i64 a0, .int .i64 b0, .slice p0 n0 c0], .agg #[.int .i64 a1, .int .i64 b1, .slice p1 n1 c1]] rfl (by simp only [List.map_toArray, List.map_cons, List.map_nil, evS, h19, h20]) (by go_simp) ((H2.out w1 (HSl.kept _ _ _ _ _ hk X0.out) (HSl.kept _ _ _ _ _ hk X1.out)).mono fun e w' ⟨he, hk'⟩ => ⟨_, he, hk', rfl⟩)
            refine ⟨fun t w1 hf hk hp => ?_, ?_⟩
            · have h18 : slot t 18 = .bool B := hp 18 (by kernel_rfl)
              have h21 : slot t 21 = .bool B := hp 21 (by kernel_rfl)
              clear hf hp
              refine stepAt_plain rfl ?_
              have hq0 := hBB
              refine stepOK_pure (.bool true) ?_ rfl
              simp only [execOp, evS, h18, h21]
              go_simp
            refine ⟨fun t w1 hf hk hp => ?_, ?_⟩
            · have h22 : slot t 22 = .bool true := hp 22 (by kernel_rfl)
              clear hf hp
              refine stepAt_plain rfl ?_
              exact stepOK_move _ (.inl rfl) h22
            refine ⟨fun t w1 hf hk hp => ?_, ?_⟩
            · have h2 : slot t 2 = .pointer (some ⟨w.heap.size, 0, none⟩) := hf 2 (by kernel_rfl)
              have h23 : slot t 23 = .bool true := hp 23 (by kernel_rfl)
              clear hf hp
              refine stepAt_on 23 true (by kernel_rfl) h23 ?_
              exact stepOK_pure (.agg #[.int .i64 a0, .int .i64 b0, .slice p0 n0 c0]) (loadO rfl h2 (R2.out.kept hk) rfl) rfl
            refine ⟨fun t w1 hf hk hp => ?_, ?_⟩
            · have h2 : slot t 2 = .pointer (some ⟨w.heap.size, 0, none⟩) := hf 2 (by kernel_rfl)
              have h23 : slot t 23 = .bool true := hp 23 (by kernel_rfl)
              clear hf hp
              refine stepAt_on 23 true (by kernel_rfl) h23 ?_
              exact stepOK_pure (.agg #[.int .i64 a0, .int .i64 b0, .slice p0 n0 c0]) (loadO rfl h2 (R2.out.kept hk) rfl) rfl
            refine ⟨fun t w1 hf hk hp => ?_, ?_⟩
            · have h24 : slot t 24 = .agg #[.int .i64 a0, .int .i64 b0, .slice p0 n0 c0] := hp 24 (by kernel_rfl)
              have h25 : slot t 25 = .agg #[.int .i64 a0, .int .i64 b0, .slice p0 n0 c0] := hp 25 (by kernel_rfl)
              have h23 : slot t 23 = .bool true := hp 23 (by kernel_rfl)
              clear hf hp
              refine stepAt_on 23 true (by kernel_rfl) h23 ?_
              refine stepOK_call #[.agg #[.int .i64 a0, .int .i64 b0, .slice p0 n0 c0], .agg #[.int .i64 a0, .int .i64 b0, .slice p0 n0 c0]] rfl (by simp only [List.map_toArray, List.map_cons, List.map_nil, evS, h24, h25]) (by go_simp) ((H3.out w1 (HSl.kept _ _ _ _ _ hk X0.out)).mono fun e w' ⟨he, hk'⟩ => ⟨_, he, hk', rfl⟩)
            refine ⟨fun t w1 hf hk hp => ?_, ?_⟩
            · have h23 : slot t 23 = .bool true := hp 23 (by kernel_rfl)
              have h26 : slot t 26 = .bool true := hp 26 (by kernel_rfl)
              clear hf hp
              refine stepAt_plain rfl ?_
              refine stepOK_pure (.bool true) ?_ rfl
              simp only [execOp, evS, h23, h26]
              go_simp
            refine ⟨fun t w1 hf hk hp => ?_, ?_⟩
            · have h27 : slot t 27 = .bool true := hp 27 (by kernel_rfl)
              clear hf hp
              refine stepAt_plain rfl ?_
              exact stepOK_move _ (.inl rfl) h27
            refine ⟨fun t w1 hf hk hp => ?_, ?_⟩
            · have h2 : slot t 2 = .pointer (some ⟨w.heap.size, 0, none⟩) := hf 2 (by kernel_rfl)
              have h28 : slot t 28 = .bool true := hp 28 (by kernel_rfl)
              clear hf hp
              refine stepAt_on 28 true (by kernel_rfl) h28 ?_
              exact stepOK_pure (.agg #[.int .i64 a0, .int .i64 b0, .slice p0 n0 c0]) (loadO rfl h2 (R2.out.kept hk) rfl) rfl
            refine ⟨fun t w1 hf hk hp => ?_, ?_⟩
            · have h29 : slot t 29 = .agg #[.int .i64 a0, .int .i64 b0, .slice p0 n0 c0] := hp 29 (by kernel_rfl)
              have h28 : slot t 28 = .bool true := hp 28 (by kernel_rfl)
              clear hf hp
              refine stepAt_on 28 true (by kernel_rfl) h28 ?_
              refine stepOK_call #[.agg #[.int .i64 a0, .int .i64 b0, .slice p0 n0 c0]] rfl (by simp only [List.map_toArray, List.map_cons, List.map_nil, evS, h29]) (by go_simp) ((H4.out w1 (HSl.kept _ _ _ _ _ hk X0.out)).mono fun e w' ⟨he, hk'⟩ => ⟨_, he, hk', rfl⟩)
            refine ⟨fun t w1 hf hk hp => ?_, ?_⟩
            · have h2 : slot t 2 = .pointer (some ⟨w.heap.size, 0, none⟩) := hf 2 (by kernel_rfl)
              have h28 : slot t 28 = .bool true := hp 28 (by kernel_rfl)
              clear hf hp
              refine stepAt_on 28 true (by kernel_rfl) h28 ?_
              exact stepOK_pure (.pointer (some ⟨w.heap.size, 0, none⟩)) (execFieldO w.heap.size 0 (by omega) w1 rfl h2) rfl
            refine ⟨fun t w1 hf hk hp => ?_, ?_⟩
            · have h31 : slot t 31 = .pointer (some ⟨w.heap.size, 0, none⟩) := hp 31 (by kernel_rfl)
              have h28 : slot t 28 = .bool true := hp 28 (by kernel_rfl)
              clear hf hp
              refine stepAt_on 28 true (by kernel_rfl) h28 ?_
              have hq0 := run_loadI ((R2.out.kept hk).cell 0)
              exact stepOK_sem (.int .i64 a0) (by simp only [execOp, evS, h31]) hq0 rfl
            refine ⟨fun t w1 hf hk hp => ?_, ?_⟩
            · have h32 : slot t 32 = .int .i64 a0 := hp 32 (by kernel_rfl)
              have h28 : slot t 28 = .bool true := hp 28 (by kernel_rfl)
              clear hf hp
              refine stepAt_on 28 true (by kernel_rfl) h28 ?_
              have hq0 := hdI
              refine stepOK_pure (.bool true) ?_ rfl
              simp only [execOp, evS, h32]
              go_simp
            refine ⟨fun t w1 hf hk hp => ?_, ?_⟩
            · have h33 : slot t 33 = .bool true := hp 33 (by kernel_rfl)
              have h28 : slot t 28 = .bool true := hp 28 (by kernel_rfl)
              clear hf hp
              refine stepAt_on 28 true (by kernel_rfl) h28 ?_
              exact stepOK_move _ (.inl rfl) h33
            refine ⟨fun t w1 hf hk hp => ?_, ?_⟩
            · have h2 : slot t 2 = .pointer (some ⟨w.heap.size, 0, none⟩) := hf 2 (by kernel_rfl)
              have h34 : slot t 34 = .bool true := hp 34 (by kernel_rfl)
              clear hf hp
              refine stepAt_on 34 true (by kernel_rfl) h34 ?_
              exact stepOK_pure (.pointer (some ⟨w.heap.size, 1, none⟩)) (execFieldO w.heap.size 1 (by omega) w1 rfl h2) rfl
            refine ⟨fun t w1 hf hk hp => ?_, ?_⟩
            · have h35 : slot t 35 = .pointer (some ⟨w.heap.size, 1, none⟩) := hp 35 (by kernel_rfl)
              have h34 : slot t 34 = .bool true := hp 34 (by kernel_rfl)
              clear hf hp
              refine stepAt_on 34 true (by kernel_rfl) h34 ?_
              have hq0 := run_loadI ((R2.out.kept hk).cell 1)
              exact stepOK_sem (.int .i64 b0) (by simp only [execOp, evS, h35]) hq0 rfl
            refine ⟨fun t w1 hf hk hp => ?_, ?_⟩
            · have h36 : slot t 36 = .int .i64 b0 := hp 36 (by kernel_rfl)
              have h34 : slot t 34 = .bool true := hp 34 (by kernel_rfl)
              clear hf hp
              refine stepAt_on 34 true (by kernel_rfl) h34 ?_
              have hq0 := hdN
              refine stepOK_pure (.bool false) ?_ rfl
              simp only [execOp, evS, h36]
              go_simp
            refine ⟨fun t w1 hf hk hp => ?_, ?_⟩
            · have h34 : slot t 34 = .bool true := hp 34 (by kernel_rfl)
              have h37 : slot t 37 = .bool false := hp 37 (by kernel_rfl)
              have h28 : slot t 28 = .bool true := hp 28 (by kernel_rfl)
              clear hf hp
              refine stepAt_on 28 true (by kernel_rfl) h28 ?_
              refine stepOK_pure (.bool false) ?_ rfl
              simp only [execOp, evS, h34, h37]
              go_simp
            refine ⟨fun t w1 hf hk hp => ?_, ?_⟩
            · have h38 : slot t 38 = .bool false := hp 38 (by kernel_rfl)
              have h28 : slot t 28 = .bool true := hp 28 (by kernel_rfl)
              clear hf hp
              refine stepAt_on 28 true (by kernel_rfl) h28 ?_
              exact stepOK_move _ (.inl rfl) h38
            refine ⟨fun t w1 hf hk hp => ?_, ?_⟩
            · have h39 : slot t 39 = .bool false := hp 39 (by kernel_rfl)
              clear hf hp
              exact stepAt_off 39 true (by kernel_rfl) h39 rfl
            refine ⟨fun t w1 hf hk hp => ?_, ?_⟩
            · have h39 : slot t 39 = .bool false := hp 39 (by kernel_rfl)
              clear hf hp
              exact stepAt_off 39 true (by kernel_rfl) h39 rfl
            refine ⟨fun t w1 hf hk hp => ?_, ?_⟩
            · have h39 : slot t 39 = .bool false := hp 39 (by kernel_rfl)
              clear hf hp
              exact stepAt_off 39 true (by kernel_rfl) h39 rfl
            refine ⟨fun t w1 hf hk hp => ?_, ?_⟩
            · have h39 : slot t 39 = .bool false := hp 39 (by kernel_rfl)
              clear hf hp
              exact stepAt_off 39 true (by kernel_rfl) h39 rfl
            refine ⟨fun t w1 hf hk hp => ?_, ?_⟩
            · have h39 : slot t 39 = .bool false := hp 39 (by kernel_rfl)
              have h43 : slot t 43 = undef := hp 43 (by kernel_rfl)
              have h28 : slot t 28 = .bool true := hp 28 (by kernel_rfl)
              clear hf hp
              refine stepAt_on 28 true (by kernel_rfl) h28 ?_
              refine stepOK_pure (.bool false) ?_ rfl
              simp only [execOp, evS, h39, h43]
              go_simp
            refine ⟨fun t w1 hf hk hp => ?_, ?_⟩
            · have h30 : slot t 30 = .bool false := hp 30 (by kernel_rfl)
              have h44 : slot t 44 = .bool false := hp 44 (by kernel_rfl)
              have h28 : slot t 28 = .bool true := hp 28 (by kernel_rfl)
              clear hf hp
              refine stepAt_on 28 true (by kernel_rfl) h28 ?_
              refine stepOK_pure (.bool true) ?_ rfl
              simp only [execOp, evS, h30, h44]
              go_simp
            refine ⟨fun t w1 hf hk hp => ?_, ?_⟩
            · have h28 : slot t 28 = .bool true := hp 28 (by kernel_rfl)
              have h45 : slot t 45 = .bool true := hp 45 (by kernel_rfl)
              clear hf hp
              refine stepAt_plain rfl ?_
              refine stepOK_pure (.bool true) ?_ rfl
              simp only [execOp, evS, h28, h45]
              go_simp
            refine ⟨fun t w1 hf hk hp => ?_, ?_⟩
            · have h46 : slot t 46 = .bool true := hp 46 (by kernel_rfl)
              clear hf hp
              refine stepAt_plain rfl ?_
              exact stepOK_move _ (.inl rfl) h46
            refine ⟨fun t w1 hf hk hp => ?_, ?_⟩
            · have h47 : slot t 47 = .bool true := hp 47 (by kernel_rfl)
              clear hf hp
              refine stepAt_on 47 true (by kernel_rfl) h47 ?_
              refine stepOK_call #[] rfl (by simp only [List.map_toArray, List.map_nil]) (by go_simp) ((HA.out w1 (HT.out.kept (K1.out.trans hk))).mono fun e w' ⟨he, hk'⟩ => ⟨_, he, hk', rfl⟩)
            refine ⟨fun t w1 hf hk hp => ?_, ?_⟩
            · have h47 : slot t 47 = .bool true := hp 47 (by kernel_rfl)
              have h48 : slot t 48 = .bool true := hp 48 (by kernel_rfl)
              clear hf hp
              refine stepAt_plain rfl ?_
              refine stepOK_pure (.bool true) ?_ rfl
              simp only [execOp, evS, h47, h48]
              go_simp
            refine ⟨fun t w1 hf hk hp => ?_, ?_⟩
            · have h49 : slot t 49 = .bool true := hp 49 (by kernel_rfl)
              clear hf hp
              refine stepAt_plain rfl ?_
              exact stepOK_move _ (.inr rfl) h49
            exact trivial
          · intro t w1 hsz hf hk hfacts
            have h4 : slot t 4 = .bool true := hfacts 34 _ rfl 4 rfl
            have h0 : slot t 0 = .agg #[.int .i64 a0, .int .i64 b0, .slice p0 n0 c0] := hf 0 (by kernel_rfl)
            have h1 : slot t 1 = .agg #[.int .i64 a1, .int .i64 b1, .slice p1 n1 c1] := hf 1 (by kernel_rfl)
            have h2 : slot t 2 = .pointer (some ⟨w.heap.size, 0, none⟩) := hf 2 (by kernel_rfl)
            have h3 : slot t 3 = .pointer (some ⟨w.heap.size + 1, 0, none⟩) := hf 3 (by kernel_rfl)
            have harr : t = #[slot t 0, slot t 1, slot t 2, slot t 3, slot t 4, slot t 5, slot t 6, slot t 7, slot t 8, slot t 9, slot t 10, slot t 11, slot t 12, slot t 13, slot t 14, slot t 15, slot t 16, slot t 17, slot t 18, slot t 19, slot t 20, slot t 21, slot t 22, slot t 23, slot t 24, slot t 25, slot t 26, slot t 27, slot t 28, slot t 29, slot t 30, slot t 31, slot t 32, slot t 33, slot t 34, slot t 35, slot t 36, slot t 37, slot t 38, slot t 39, slot t 40, slot t 41, slot t 42, slot t 43, slot t 44, slot t 45, slot t 46, slot t 47, slot t 48, slot t 49] := arr_eq t 50 hsz
            rw [harr, h4, h0, h1, h2, h3]
            clear harr hfacts hf h4 h0 h1 h2 h3
            generalize slot t 5 = x5; generalize slot t 6 = x6; generalize slot t 7 = x7; generalize slot t 8 = x8; generalize slot t 9 = x9; generalize slot t 10 = x10; generalize slot t 11 = x11; generalize slot t 12 = x12; generalize slot t 13 = x13; generalize slot t 14 = x14; generalize slot t 15 = x15; generalize slot t 16 = x16
            generalize slot t 17 = x17; generalize slot t 18 = x18; generalize slot t 19 = x19; generalize slot t 20 = x20; generalize slot t 21 = x21; generalize slot t 22 = x22; generalize slot t 23 = x23; generalize slot t 24 = x24; generalize slot t 25 = x25; generalize slot t 26 = x26; generalize slot t 27 = x27; generalize slot t 28 = x28
            generalize slot t 29 = x29; generalize slot t 30 = x30; generalize slot t 31 = x31; generalize slot t 32 = x32; generalize slot t 33 = x33; generalize slot t 34 = x34; generalize slot t 35 = x35; generalize slot t 36 = x36; generalize slot t 37 = x37; generalize slot t 38 = x38; generalize slot t 39 = x39; generalize slot t 40 = x40
            generalize slot t 41 = x41; generalize slot t 42 = x42; generalize slot t 43 = x43; generalize slot t 44 = x44; generalize slot t 45 = x45; generalize slot t 46 = x46; generalize slot t 47 = x47; generalize slot t 48 = x48; generalize slot t 49 = x49
            clear hsz t
            have K2 := Lib.hid (K1.out.trans hk)
            clear hk
            go_wp2_with fail
            go_ret
            exact ⟨rfl, K2.out⟩
      · have hdI : (a0 == 0) = false := beq_eq_false_iff_ne.2 hI
        rw [decide_eq_false (fun h => hI h.1)] at H4
        clear hI
        go_enter Tryd.func4, Tryd.ntmps4
        go_wp2_with fail
        change Code.wp _ _ _ _ ((w.alloc (.cells #[.int .i64 a0, .int .i64 b0, .slice p0 n0 c0] 27)).alloc (.cells #[.int .i64 a1, .int .i64 b1, .slice p1 n1 c1] 27))
        replace X0 := Lib.hid (HSl.kept _ _ _ _ _ K1.out X0.out)
        replace X1 := Lib.hid (HSl.kept _ _ _ _ _ K1.out X1.out)
        generalize (w.alloc (.cells #[.int .i64 a0, .int .i64 b0, .slice p0 n0 c0] 27)).alloc (.cells #[.int .i64 a1, .int .i64 b1, .slice p1 n1 c1] 27) = v at K1 R2 R3 X0 X1 ⊢
        refine wp_region_table [(16, .is (.agg #[.int .i64 a0, .int .i64 b0, .slice p0 n0 c0])), (17, .is (.agg #[.int .i64 a1, .int .i64 b1, .slice p1 n1 c1])), (18, .is (.bool B)), (19, .is (.agg #[.int .i64 a0, .int .i64 b0, .slice p0 n0 c0])), (20, .is (.agg #[.int .i64 a1, .int .i64 b1, .slice p1 n1 c1])), (21, .is (.bool B)), (22, .is (.bool true)), (23, .is (.bool true)), (24, .is (.agg #[.int .i64 a0, .int .i64 b0, .slice p0 n0 c0])), (25, .is (.agg #[.int .i64 a0, .int .i64 b0, .slice p0 n0 c0])), (26, .is (.bool true)), (27, .is (.bool true)), (28, .is (.bool true)), (29, .is (.agg #[.int .i64 a0, .int .i64 b0, .slice p0 n0 c0])), (30, .is (.bool false)), (31, .is (.pointer (some ⟨w.heap.size, 0, none⟩))), (32, .is (.int .i64 a0)), (33, .is (.bool false)), (34, .is (.bool false)), (35, .is (undef)), (36, .is (undef)), (37, .is (undef)), (38, .is (.bool false)), (39, .is (.bool false)), (40, .is (undef)), (41, .is (undef)), (42, .is (undef)), (43, .is (undef)), (44, .is (.bool false)), (45, .is (.bool true)), (46, .is (.bool true)), (47, .is (.bool true)), (48, .is (.bool true)), (49, .is (.bool true)), (4, .is (.bool true))] (by kernel_rfl) (by kernel_rfl) ?_ ?_
        · refine ⟨fun t w1 hf hk hp => ?_, ?_⟩
          · have h2 : slot t 2 = .pointer (some ⟨w.heap.size, 0, none⟩) := hf 2 (by kernel_rfl)
            clear hf hp
            refine stepAt_plain rfl ?_
            exact stepOK_pure (.agg #[.int .i64 a0, .int .i64 b0, .slice p0 n0 c0]) (loadO rfl h2 (R2.out.kept hk) rfl) rfl
          refine ⟨fun t w1 hf hk hp => ?_, ?_⟩
          · have h3 : slot t 3 = .pointer (some ⟨w.heap.size + 1, 0, none⟩) := hf 3 (by kernel_rfl)
            clear hf hp
            refine stepAt_plain rfl ?_
            exact stepOK_pure (.agg #[.int .i64 a1, .int .i64 b1, .slice p1 n1 c1]) (loadO rfl h3 (R3.out.kept hk) rfl) rfl
          refine ⟨fun t w1 hf hk hp => ?_, ?_⟩
          · have h16 : slot t 16 = .agg #[.int .i64 a0, .int .i64 b0, .slice p0 n0 c0] := hp 16 (by kernel_rfl)
            have h17 : slot t 17 = .agg #[.int .i64 a1, .int .i64 b1, .slice p1 n1 c1] := hp 17 (by kernel_rfl)
            clear hf hp
            refine stepAt_plain rfl ?_
            refine stepOK_call #[.agg #[.int .i64 a0, .int .i64 b0, .slice p0 n0 c0], .agg #[.int .i64 a1, .int .i64 b1, .slice p1 n1 c1]] rfl (by simp only [List.map_toArray, List.map_cons, List.map_nil, evS, h16, h17]) (by go_simp) ((H1.out w1 (HSl.kept _ _ _ _ _ hk X0.out) (HSl.kept _ _ _ _ _ hk X1.out)).mono fun e w' ⟨he, hk'⟩ => ⟨_, he, hk', rfl⟩)
          refine ⟨fun t w1 hf hk hp => ?_, ?_⟩
          · have h2 : slot t 2 = .pointer (some ⟨w.heap.size, 0, none⟩) := hf 2 (by kernel_rfl)
            clear hf hp
            refine stepAt_plain rfl ?_
            exact stepOK_pure (.agg #[.int .i64 a0, .int .i64 b0, .slice p0 n0 c0]) (loadO rfl h2 (R2.out.kept hk) rfl) rfl
          refine ⟨fun t w1 hf hk hp => ?_, ?_⟩
          · have h3 : slot t 3 = .pointer (some ⟨w.heap.size + 1, 0, none⟩) := hf 3 (by kernel_rfl)
            clear hf hp
            refine stepAt_plain rfl ?_
            exact stepOK_pure (.agg #[.int .i64 a1, .int .i64 b1, .slice p1 n1 c1]) (loadO rfl h3 (R3.out.kept hk) rfl) rfl
          refine ⟨fun t w1 hf hk hp => ?_, ?_⟩
          · have h19 : slot t 19 = .agg #[.int .i64 a0, .int .i64 b0, .slice p0 n0 c0] := hp 19 (by kernel_rfl)
            have h20 : slot t 20 = .agg #[.int .i64 a1, .int .i64 b1, .slice p1 n1 c1] := hp 20 (by kernel_rfl)
            clear hf hp
            refine stepAt_plain rfl ?_
            refine stepOK_call #[.agg #[.int .i64 a0, .int .i64 b0, .slice p0 n0 c0], .agg #[.int .i64 a1, .int .i64 b1, .slice p1 n1 c1]] rfl (by simp only [List.map_toArray, List.map_cons, List.map_nil, evS, h19, h20]) (by go_simp) ((H2.out w1 (HSl.kept _ _ _ _ _ hk X0.out) (HSl.kept _ _ _ _ _ hk X1.out)).mono fun e w' ⟨he, hk'⟩ => ⟨_, he, hk', rfl⟩)
          refine ⟨fun t w1 hf hk hp => ?_, ?_⟩
          · have h18 : slot t 18 = .bool B := hp 18 (by kernel_rfl)
            have h21 : slot t 21 = .bool B := hp 21 (by kernel_rfl)
            clear hf hp
            refine stepAt_plain rfl ?_
            have hq0 := hBB
            refine stepOK_pure (.bool true) ?_ rfl
            simp only [execOp, evS, h18, h21]
            go_simp
          refine ⟨fun t w1 hf hk hp => ?_, ?_⟩
          · have h22 : slot t 22 = .bool true := hp 22 (by kernel_rfl)
            clear hf hp
            refine stepAt_plain rfl ?_
            exact stepOK_move _ (.inl rfl) h22
          refine ⟨fun t w1 hf hk hp => ?_, ?_⟩
          · have h2 : slot t 2 = .pointer (some ⟨w.heap.size, 0, none⟩) := hf 2 (by kernel_rfl)
            have h23 : slot t 23 = .bool true := hp 23 (by kernel_rfl)
            clear hf hp
            refine stepAt_on 23 true (by kernel_rfl) h23 ?_
            exact stepOK_pure (.agg #[.int .i64 a0, .int .i64 b0, .slice p0 n0 c0]) (loadO rfl h2 (R2.out.kept hk) rfl) rfl
          refine ⟨fun t w1 hf hk hp => ?_, ?_⟩
          · have h2 : slot t 2 = .pointer (some ⟨w.heap.size, 0, none⟩) := hf 2 (by kernel_rfl)
            have h23 : slot t 23 = .bool true := hp 23 (by kernel_rfl)
            clear hf hp
            refine stepAt_on 23 true (by kernel_rfl) h23 ?_
            exact stepOK_pure (.agg #[.int .i64 a0, .int .i64 b0, .slice p0 n0 c0]) (loadO rfl h2 (R2.out.kept hk) rfl) rfl
          refine ⟨fun t w1 hf hk hp => ?_, ?_⟩
          · have h24 : slot t 24 = .agg #[.int .i64 a0, .int .i64 b0, .slice p0 n0 c0] := hp 24 (by kernel_rfl)
            have h25 : slot t 25 = .agg #[.int .i64 a0, .int .i64 b0, .slice p0 n0 c0] := hp 25 (by kernel_rfl)
            have h23 : slot t 23 = .bool true := hp 23 (by kernel_rfl)
            clear hf hp
            refine stepAt_on 23 true (by kernel_rfl) h23 ?_
            refine stepOK_call #[.agg #[.int .i64 a0, .int .i64 b0, .slice p0 n0 c0], .agg #[.int .i64 a0, .int .i64 b0, .slice p0 n0 c0]] rfl (by simp only [List.map_toArray, List.map_cons, List.map_nil, evS, h24, h25]) (by go_simp) ((H3.out w1 (HSl.kept _ _ _ _ _ hk X0.out)).mono fun e w' ⟨he, hk'⟩ => ⟨_, he, hk', rfl⟩)
          refine ⟨fun t w1 hf hk hp => ?_, ?_⟩
          · have h23 : slot t 23 = .bool true := hp 23 (by kernel_rfl)
            have h26 : slot t 26 = .bool true := hp 26 (by kernel_rfl)
            clear hf hp
            refine stepAt_plain rfl ?_
            refine stepOK_pure (.bool true) ?_ rfl
            simp only [execOp, evS, h23, h26]
            go_simp
          refine ⟨fun t w1 hf hk hp => ?_, ?_⟩
          · have h27 : slot t 27 = .bool true := hp 27 (by kernel_rfl)
            clear hf hp
            refine stepAt_plain rfl ?_
            exact stepOK_move _ (.inl rfl) h27
          refine ⟨fun t w1 hf hk hp => ?_, ?_⟩
          · have h2 : slot t 2 = .pointer (some ⟨w.heap.size, 0, none⟩) := hf 2 (by kernel_rfl)
            have h28 : slot t 28 = .bool true := hp 28 (by kernel_rfl)
            clear hf hp
            refine stepAt_on 28 true (by kernel_rfl) h28 ?_
            exact stepOK_pure (.agg #[.int .i64 a0, .int .i64 b0, .slice p0 n0 c0]) (loadO rfl h2 (R2.out.kept hk) rfl) rfl
          refine ⟨fun t w1 hf hk hp => ?_, ?_⟩
          · have h29 : slot t 29 = .agg #[.int .i64 a0, .int .i64 b0, .slice p0 n0 c0] := hp 29 (by kernel_rfl)
            have h28 : slot t 28 = .bool true := hp 28 (by kernel_rfl)
            clear hf hp
            refine stepAt_on 28 true (by kernel_rfl) h28 ?_
            refine stepOK_call #[.agg #[.int .i64 a0, .int .i64 b0, .slice p0 n0 c0]] rfl (by simp only [List.map_toArray, List.map_cons, List.map_nil, evS, h29]) (by go_simp) ((H4.out w1 (HSl.kept _ _ _ _ _ hk X0.out)).mono fun e w' ⟨he, hk'⟩ => ⟨_, he, hk', rfl⟩)
          refine ⟨fun t w1 hf hk hp => ?_, ?_⟩
          · have h2 : slot t 2 = .pointer (some ⟨w.heap.size, 0, none⟩) := hf 2 (by kernel_rfl)
            have h28 : slot t 28 = .bool true := hp 28 (by kernel_rfl)
            clear hf hp
            refine stepAt_on 28 true (by kernel_rfl) h28 ?_
            exact stepOK_pure (.pointer (some ⟨w.heap.size, 0, none⟩)) (execFieldO w.heap.size 0 (by omega) w1 rfl h2) rfl
          refine ⟨fun t w1 hf hk hp => ?_, ?_⟩
          · have h31 : slot t 31 = .pointer (some ⟨w.heap.size, 0, none⟩) := hp 31 (by kernel_rfl)
            have h28 : slot t 28 = .bool true := hp 28 (by kernel_rfl)
            clear hf hp
            refine stepAt_on 28 true (by kernel_rfl) h28 ?_
            have hq0 := run_loadI ((R2.out.kept hk).cell 0)
            exact stepOK_sem (.int .i64 a0) (by simp only [execOp, evS, h31]) hq0 rfl
          refine ⟨fun t w1 hf hk hp => ?_, ?_⟩
          · have h32 : slot t 32 = .int .i64 a0 := hp 32 (by kernel_rfl)
            have h28 : slot t 28 = .bool true := hp 28 (by kernel_rfl)
            clear hf hp
            refine stepAt_on 28 true (by kernel_rfl) h28 ?_
            have hq0 := hdI
            refine stepOK_pure (.bool false) ?_ rfl
            simp only [execOp, evS, h32]
            go_simp
          refine ⟨fun t w1 hf hk hp => ?_, ?_⟩
          · have h33 : slot t 33 = .bool false := hp 33 (by kernel_rfl)
            have h28 : slot t 28 = .bool true := hp 28 (by kernel_rfl)
            clear hf hp
            refine stepAt_on 28 true (by kernel_rfl) h28 ?_
            exact stepOK_move _ (.inl rfl) h33
          refine ⟨fun t w1 hf hk hp => ?_, ?_⟩
          · have h34 : slot t 34 = .bool false := hp 34 (by kernel_rfl)
            clear hf hp
            exact stepAt_off 34 true (by kernel_rfl) h34 rfl
          refine ⟨fun t w1 hf hk hp => ?_, ?_⟩
          · have h34 : slot t 34 = .bool false := hp 34 (by kernel_rfl)
            clear hf hp
            exact stepAt_off 34 true (by kernel_rfl) h34 rfl
          refine ⟨fun t w1 hf hk hp => ?_, ?_⟩
          · have h34 : slot t 34 = .bool false := hp 34 (by kernel_rfl)
            clear hf hp
            exact stepAt_off 34 true (by kernel_rfl) h34 rfl
          refine ⟨fun t w1 hf hk hp => ?_, ?_⟩
          · have h34 : slot t 34 = .bool false := hp 34 (by kernel_rfl)
            have h37 : slot t 37 = undef := hp 37 (by kernel_rfl)
            have h28 : slot t 28 = .bool true := hp 28 (by kernel_rfl)
            clear hf hp
            refine stepAt_on 28 true (by kernel_rfl) h28 ?_
            refine stepOK_pure (.bool false) ?_ rfl
            simp only [execOp, evS, h34, h37]
            go_simp
          refine ⟨fun t w1 hf hk hp => ?_, ?_⟩
          · have h38 : slot t 38 = .bool false := hp 38 (by kernel_rfl)
            have h28 : slot t 28 = .bool true := hp 28 (by kernel_rfl)
            clear hf hp
            refine stepAt_on 28 true (by kernel_rfl) h28 ?_
            exact stepOK_move _ (.inl rfl) h38
          refine ⟨fun t w1 hf hk hp => ?_, ?_⟩
          · have h39 : slot t 39 = .bool false := hp 39 (by kernel_rfl)
            clear hf hp
            exact stepAt_off 39 true (by kernel_rfl) h39 rfl
          refine ⟨fun t w1 hf hk hp => ?_, ?_⟩
          · have h39 : slot t 39 = .bool false := hp 39 (by kernel_rfl)
            clear hf hp
            exact stepAt_off 39 true (by kernel_rfl) h39 rfl
          refine ⟨fun t w1 hf hk hp => ?_, ?_⟩
          · have h39 : slot t 39 = .bool false := hp 39 (by kernel_rfl)
            clear hf hp
            exact stepAt_off 39 true (by kernel_rfl) h39 rfl
          refine ⟨fun t w1 hf hk hp => ?_, ?_⟩
          · have h39 : slot t 39 = .bool false := hp 39 (by kernel_rfl)
            clear hf hp
            exact stepAt_off 39 true (by kernel_rfl) h39 rfl
          refine ⟨fun t w1 hf hk hp => ?_, ?_⟩
          · have h39 : slot t 39 = .bool false := hp 39 (by kernel_rfl)
            have h43 : slot t 43 = undef := hp 43 (by kernel_rfl)
            have h28 : slot t 28 = .bool true := hp 28 (by kernel_rfl)
            clear hf hp
            refine stepAt_on 28 true (by kernel_rfl) h28 ?_
            refine stepOK_pure (.bool false) ?_ rfl
            simp only [execOp, evS, h39, h43]
            go_simp
          refine ⟨fun t w1 hf hk hp => ?_, ?_⟩
          · have h30 : slot t 30 = .bool false := hp 30 (by kernel_rfl)
            have h44 : slot t 44 = .bool false := hp 44 (by kernel_rfl)
            have h28 : slot t 28 = .bool true := hp 28 (by kernel_rfl)
            clear hf hp
            refine stepAt_on 28 true (by kernel_rfl) h28 ?_
            refine stepOK_pure (.bool true) ?_ rfl
            simp only [execOp, evS, h30, h44]
            go_simp
          refine ⟨fun t w1 hf hk hp => ?_, ?_⟩
          · have h28 : slot t 28 = .bool true := hp 28 (by kernel_rfl)
            have h45 : slot t 45 = .bool true := hp 45 (by kernel_rfl)
            clear hf hp
            refine stepAt_plain rfl ?_
            refine stepOK_pure (.bool true) ?_ rfl
            simp only [execOp, evS, h28, h45]
            go_simp
          refine ⟨fun t w1 hf hk hp => ?_, ?_⟩
          · have h46 : slot t 46 = .bool true := hp 46 (by kernel_rfl)
            clear hf hp
            refine stepAt_plain rfl ?_
            exact stepOK_move _ (.inl rfl) h46
          refine ⟨fun t w1 hf hk hp => ?_, ?_⟩
          · have h47 : slot t 47 = .bool true := hp 47 (by kernel_rfl)
            clear hf hp
            refine stepAt_on 47 true (by kernel_rfl) h47 ?_
            refine stepOK_call #[] rfl (by simp only [List.map_toArray, List.map_nil]) (by go_simp) ((HA.out w1 (HT.out.kept (K1.out.trans hk))).mono fun e w' ⟨he, hk'⟩ => ⟨_, he, hk', rfl⟩)
          refine ⟨fun t w1 hf hk hp => ?_, ?_⟩
          · have h47 : slot t 47 = .bool true := hp 47 (by kernel_rfl)
            have h48 : slot t 48 = .bool true := hp 48 (by kernel_rfl)
            clear hf hp
            refine stepAt_plain rfl ?_
            refine stepOK_pure (.bool true) ?_ rfl
            simp only [execOp, evS, h47, h48]
            go_simp
          refine ⟨fun t w1 hf hk hp => ?_, ?_⟩
          · have h49 : slot t 49 = .bool true := hp 49 (by kernel_rfl)
            clear hf hp
            refine stepAt_plain rfl ?_
            exact stepOK_move _ (.inr rfl) h49
          exact trivial
        · intro t w1 hsz hf hk hfacts
          have h4 : slot t 4 = .bool true := hfacts 34 _ rfl 4 rfl
          have h0 : slot t 0 = .agg #[.int .i64 a0, .int .i64 b0, .slice p0 n0 c0] := hf 0 (by kernel_rfl)
          have h1 : slot t 1 = .agg #[.int .i64 a1, .int .i64 b1, .slice p1 n1 c1] := hf 1 (by kernel_rfl)
          have h2 : slot t 2 = .pointer (some ⟨w.heap.size, 0, none⟩) := hf 2 (by kernel_rfl)
          have h3 : slot t 3 = .pointer (some ⟨w.heap.size + 1, 0, none⟩) := hf 3 (by kernel_rfl)
          have harr : t = #[slot t 0, slot t 1, slot t 2, slot t 3, slot t 4, slot t 5, slot t 6, slot t 7, slot t 8, slot t 9, slot t 10, slot t 11, slot t 12, slot t 13, slot t 14, slot t 15, slot t 16, slot t 17, slot t 18, slot t 19, slot t 20, slot t 21, slot t 22, slot t 23, slot t 24, slot t 25, slot t 26, slot t 27, slot t 28, slot t 29, slot t 30, slot t 31, slot t 32, slot t 33, slot t 34, slot t 35, slot t 36, slot t 37, slot t 38, slot t 39, slot t 40, slot t 41, slot t 42, slot t 43, slot t 44, slot t 45, slot t 46, slot t 47, slot t 48, slot t 49] := arr_eq t 50 hsz
          rw [harr, h4, h0, h1, h2, h3]
          clear harr hfacts hf h4 h0 h1 h2 h3
          generalize slot t 5 = x5; generalize slot t 6 = x6; generalize slot t 7 = x7; generalize slot t 8 = x8; generalize slot t 9 = x9; generalize slot t 10 = x10; generalize slot t 11 = x11; generalize slot t 12 = x12; generalize slot t 13 = x13; generalize slot t 14 = x14; generalize slot t 15 = x15; generalize slot t 16 = x16
          generalize slot t 17 = x17; generalize slot t 18 = x18; generalize slot t 19 = x19; generalize slot t 20 = x20; generalize slot t 21 = x21; generalize slot t 22 = x22; generalize slot t 23 = x23; generalize slot t 24 = x24; generalize slot t 25 = x25; generalize slot t 26 = x26; generalize slot t 27 = x27; generalize slot t 28 = x28
          generalize slot t 29 = x29; generalize slot t 30 = x30; generalize slot t 31 = x31; generalize slot t 32 = x32; generalize slot t 33 = x33; generalize slot t 34 = x34; generalize slot t 35 = x35; generalize slot t 36 = x36; generalize slot t 37 = x37; generalize slot t 38 = x38; generalize slot t 39 = x39; generalize slot t 40 = x40
          generalize slot t 41 = x41; generalize slot t 42 = x42; generalize slot t 43 = x43; generalize slot t 44 = x44; generalize slot t 45 = x45; generalize slot t 46 = x46; generalize slot t 47 = x47; generalize slot t 48 = x48; generalize slot t 49 = x49
          clear hsz t
          have K2 := Lib.hid (K1.out.trans hk)
          clear hk
          go_wp2_with fail
          go_ret
          exact ⟨rfl, K2.out⟩

set_option maxRecDepth 100000 in
set_option maxHeartbeats 1000000 in
theorem lifted (os : Os) (started : os.Started) (H : Type) (enc : TypeId × Value → H) :
    ReturnsInHanded {} Tryd.checked os 4 .any (fun w args => (Rows.openSameSpec.pre enc Tryd.prog Tryd.f4 [] false w args ∧ laidMetH Tryd.prog Rows.openSameRow.laid w) ∧ sizedMet enc Tryd.prog Tryd.f4 (OpenSpec.ofChange Rows.openSameSpec) false w args)
      (Rows.openSameSpec.post enc Tryd.prog Tryd.f4 false true false false) := by
  refine returnsInHanded_of_change_and (C := Tryd.checked) (X := fun w _ => laidMetH Tryd.prog Rows.openSameRow.laid w) (fun _ _ _ hh h => h.of_heap hh) own started (by kernel_rfl) Tryd.func4
    (ChangeSpec.witness_shaped (enc := enc) (C := Tryd.checked) (os := os) (X := fun w _ => laidMetH Tryd.prog Rows.openSameRow.laid w) false (World.doorLaid Tryd.prog 400 os) #[.agg #[.int .i64 0, .int .i64 0, .slice none 0 0], .agg #[.int .i64 0, .int .i64 0, .slice none 0 0]] 8 rfl (World.shaped_of_RefB (by kernel_rfl) (by kernel_rfl)) (by kernel_rfl) (by kernel_rfl) (by kernel_rfl) (door_met os _)) ?_
  intro W base args ds gs before hval0 hW _ hsz0 hL _
  have hval : ∀ (j : Nat) t v, Tryd.f4.params[j]? = some t → args[j]? = some v → Value.okWide Tryd.prog W .any base t v := hval0
  have hsz : (DataW.weightsEach Tryd.prog (Tryd.f4.params.toList ++ Rows.openSameSpec.plain.varTypes Tryd.prog) (ds ++ gs)).all (· ≤ reachBytes) = true := hsz0
  have hW' := hW
  obtain ⟨p, q, hA0, hV, rfl, hfz, hnd⟩ := hW
  have hA : DataW.TrodAll enc Tryd.prog W 0 (fun _ => true) true Tryd.f4.params.toList args.toList ds p := hA0
  have hAk := hA
  rw [Tryd.params4] at hA hval hsz
  obtain ⟨v0, vs0, d0, ds0, p0_, q0_, hargs, rfl, rfl, h0, r0_⟩ := trodAll_cons hA
  obtain ⟨v1, vs1, d1, ds1, p1_, q1_, rfl, rfl, rfl, h1, r1_⟩ := trodAll_cons r0_
  obtain ⟨rfl, rfl, rfl⟩ := trodAll_nil r1_
  obtain rfl : args = #[v0, v1] := by cases args; simp_all
  obtain ⟨rfl, rfl⟩ := trodVars_none hV
  have hlt : ∀ x ∈ (p0_ ++ (p1_ ++ ([]))), x.block < W.heap.size := fun x hx => by simpa using hW'.lt x (by simpa using hx)
  obtain ⟨cs0, rfl, _⟩ := okWide_struct Tryd.underlying27 (hval 0 27 v0 rfl rfl)
  obtain ⟨a0, b0, p0, n0, c0, F0, w0, z0, rfl, e0⟩ := open_opening Tryd.underlying27 (by kernel_rfl) ⟨rfl, rfl, rfl⟩ ⟨by kernel_rfl, by kernel_rfl, by kernel_rfl⟩ Tryd.underlying3 Tryd.underlying3 Tryd.underlying25 Tryd.underlying41 (by kernel_rfl) Tryd.underlying5 (by kernel_rfl) h0
  obtain ⟨cs1, rfl, _⟩ := okWide_struct Tryd.underlying27 (hval 1 27 v1 rfl rfl)
  obtain ⟨a1, b1, p1, n1, c1, F1, w1, z1, rfl, e1⟩ := open_opening Tryd.underlying27 (by kernel_rfl) ⟨rfl, rfl, rfl⟩ ⟨by kernel_rfl, by kernel_rfl, by kernel_rfl⟩ Tryd.underlying3 Tryd.underlying3 Tryd.underlying25 Tryd.underlying41 (by kernel_rfl) Tryd.underlying5 (by kernel_rfl) h1
  clear hA0 hval0
  refine (walk a0 b0 p0 n0 c0 F0 w0 z0 a1 b1 p1 n1 c1 F1 w1 z1 W e0 e1 (tab_of_laid hL)).mono fun e W' ⟨he, hg⟩ => ?_
  subst he
  exact ⟨_, rfl, ⟨_, _, _, [], _, [], hW', trodAll_cons_mk (shut_bool Tryd.underlying4 _) trodAll_mk0, trodAll_stays laidOut hg (by kernel_rfl) hAk hlt (fun x hx => by simpa using hlt x hx), rfl, Kept.frame hg _, fun h => by cases h⟩⟩

theorem over : Rows.openSameRow.holds Tryd.pinned (OpenSpec.ofChange Rows.openSameSpec) :=
  OpenClaim.holds_of_wide 4 Tryd.f4 rfl rfl rfl rfl rfl rfl rfl ⟨rfl, rfl, rfl, rfl, rfl⟩ rfl rfl rfl rfl rfl (by kernel_rfl) Tryd.func4 (by kernel_rfl)
    (of_decide_eq_true (by kernel_rfl)) (by unfold Func.isWrapper; first | (rw [if_pos (by decide +kernel)]; kernel_rfl) | (rw [if_neg (by decide +kernel)]; exact ⟨rfl, rfl⟩))
    (fun os started H enc _ => lifted os started H enc)
end Go.Proofs.YtecfgjoomckleaaDoor.openSame
namespace Go.Proofs.YtecfgjoomckleaaDoor
theorem openSame_holds : Rows.OpenSameSaid := openSame.over
theorem openSame_card : Rows.OpenSameCardSaid :=
  Claim7.holds_tied_plain_at .later [] [.data] true (true, "121d3008c91a42be9b9fca8af4b73f6689e190c4c5aeb7ce629360028d1ca94b") false
    openSame_holds (fun _ h => by cases h) (by kernel_rfl) (fun _ h => by cases h) openSame_row_tie rfl ⟨rfl, rfl⟩ (by kernel_rfl) rfl
    (fun f fn hf hfn => by
      obtain rfl : f = 4 := Option.some.inj ((show Tryd.prog.funcNamed "milepost/milepostlaw13.OpenSame" = some 4 by kernel_rfl).symm.trans hf) |>.symm
      obtain rfl : fn = Tryd.f4 := (Option.some.inj (Tryd.func4.symm.trans hfn)).symm
      refine ⟨by kernel_rfl, fun j t ht => ?_⟩
      have hm : t ∈ Tryd.f4.params.toList := by simpa using Array.mem_of_getElem? ht
      have hall : (Tryd.f4.params.toList.all fun u => !Tryd.prog.wantsStandIn u) = true := by kernel_rfl
      exact (show Tryd.prog.wantsStandIn t = false by simpa using List.all_eq_true.1 hall t hm))
    (by kernel_rfl)
#print axioms openSame_card
end Go.Proofs.YtecfgjoomckleaaDoor
