/-
  The leaf of an id, the root of a vector and the opening of any entry are the reference's; chapter 21's example holds: 'LinkRoots' returns true.
  Conditions: those of the given card (sha's table of round constants as the program's text lays it).
-/
import Derived.Test.YtfdjbomofmeolaaDoorRows
import Derived.Test.YtfdjbomofmeolaaDoorLinkLaw
import Derived.Test.YtfdjbomofmeolaaDoorOpe
import Derived.WalkKit
import Derived.ProofKit
import Derived.OpenShut
import Derived.ShutString
import Derived.SizedLaws
import Derived.Test.YtfdjbomofmeolaaDoorBas
import Derived.LaidMore
import Derived.SevenTiedAt
import Derived.Test.YtfdjbomofmeolaaDoorCards
import Derived.Test.YtfdjbomofmeolaaDoorTie
import Derived.Test.YtfdjbomofmeolaaDoorShb
namespace Go.Proofs.YtfdjbomofmeolaaDoor.linkRoots
open Go.ChangeShapes Go.WideShapes Go.ChangeAt Go.RowKit
open Go.ChangeMaps (open_string shut_string)
set_option linter.unusedVariables false

theorem own : ownKnob Tryd.prog.godebug = none := by kernel_rfl
theorem laidOut : laidOutB Tryd.prog = true := by kernel_rfl

set_option maxRecDepth 100000 in
set_option maxHeartbeats 4000000 in
theorem walk (p0 : Option Addr) (n0 c0 : Nat) (F0 : Nat → List UInt8) (z0 : n0 ≤ c0 ∧ c0 ≤ maxLen) (a1 : Int) (w1 : (Lit.int .i64 a1).wf = true) (w : World) (e0 : HAt w p0 n0 F0) (hT : Tab w) :
    Calls Tryd.prog 3 #[.slice p0 n0 c0, .int .i64 a1] w fun e w' => e = .returned (.bool true) ∧ Kept w w' := by
  have HT := Lib.hid hT
  have HA : Hid (∀ w, Tab w → _) := Lib.hid fun w ht => awake21_any w ht
  by_cases hn : 300 < n0
  · have hd1 : decide ((n0 : Int) > 300) = true := decide_eq_true (by omega)
    have hd1' : decide ((300 : Int) < (n0 : Int)) = true := decide_eq_true (by omega)
    clear e0 z0 hn hT w1
    go_enter Tryd.func3, Tryd.ntmps3
    go_wp2_with fail
    refine (HA.out _ HT.out).mono ?_
    rintro e v1 ⟨rfl, k1⟩
    have K1 := Lib.hid k1
    go_wp2_with fail
    go_ret
    exact ⟨rfl, K1.out⟩
  · have hd1 : decide ((n0 : Int) > 300) = false := decide_eq_false (by omega)
    have hd1' : decide ((300 : Int) < (n0 : Int)) = false := decide_eq_false (by omega)
    have X0 := Lib.hid (show HSl n0 F0 (.slice p0 n0 c0) w from ⟨p0, c0, rfl, z0.1, z0.2, e0⟩)
    have hfit := lkS_fits F0 n0 e0.length
    have C1 : Hid (∀ w, HSl n0 F0 (.slice p0 n0 c0) w → Tab w → _) := Lib.hid fun w hv ht => linkOpen_any n0 F0 (.slice p0 n0 c0) w a1 hv (by omega) ht
    have C2 : Hid (∀ w, HSl n0 F0 (.slice p0 n0 c0) w → _) := Lib.hid fun w hv => refLeaves17_any n0 F0 (.slice p0 n0 c0) w hv (by omega)
    have C3 : Hid (∀ u w, SSl n0 (lkS F0) u w → Calls Tryd.prog 8 #[u, .int .i64 a1] w fun e w' => ∃ q cc, e = .returned (.tuple #[.agg #[.int .i64 (opI n0 a1), .int .i64 (opC n0 a1), .slice q (opL (lkS F0) n0 a1).length cc], .int .i64 (opE n0 a1)]) ∧
        HSl (opL (lkS F0) n0 a1).length (lh (opL (lkS F0) n0 a1)) (.slice q (opL (lkS F0) n0 a1).length cc) w' ∧ Kept w w') := Lib.hid fun u w hu => by
      obtain ⟨p, c, rfl, _, _, hS⟩ := hu
      exact refOpen_at p n0 c (lkS F0) a1 w hS hfit (by omega)
    have C4 : Hid (∀ w, HSl n0 F0 (.slice p0 n0 c0) w → Tab w → _) := Lib.hid fun w hv ht => linkRoot_any n0 F0 (.slice p0 n0 c0) w hv (by omega) ht
    have C5 : Hid (∀ w, HSl n0 F0 (.slice p0 n0 c0) w → _) := Lib.hid fun w hv => refLinks17_any n0 F0 (.slice p0 n0 c0) w hv (by omega)
    have HR32 : (rootL (lkS F0) n0).length = 32 := shaL_length _
    generalize (opL (lkS F0) n0 a1).length = m at C1 C3
    generalize lh (opL (lkS F0) n0 a1) = G at C1 C3
    generalize opI n0 a1 = I at C1 C3
    generalize opC n0 a1 = N at C1 C3
    generalize opE n0 a1 = E at C1 C3
    generalize rootL (lkS F0) n0 = r at C4 C5 HR32
    have C6 : Hid (∀ v u w, HSl m G v w → HSl m G u w → Calls Tryd.prog 12 #[.agg #[.int .i64 I, .int .i64 N, v], .agg #[.int .i64 I, .int .i64 N, u]] w fun e w' => e = .returned (.bool true) ∧ Kept w w') := Lib.hid fun v u w hv hu => by
      have := refSame_any I N I N m m G G v u w hv hu
      rwa [sameO_self] at this
    have hEE : (E == E) = true := by simp
    have hF := Lib.hid e0
    have hsz : ∀ v : Value, (#[.int .i64 I, .int .i64 N, v] : Array Value).size = 3 := fun _ => rfl
    clear e0 z0 hT hfit hn w1
    go_enter Tryd.func3, Tryd.ntmps3
    go_wp2_with fail
    refine (C1.out w X0.out HT.out).mono ?_
    rintro e v1 ⟨qa, ca, rfl, hp, k1⟩
    have PA := Lib.hid hp
    have K1 := Lib.hid k1
    clear hp k1 C1
    go_wp2_with (refine wpList_store_made rfl 25 _ _ rfl _ _ #[.int .i64 I, .int .i64 N, .slice qa m ca] rfl rfl 25 _ rfl (opR_size _ _ _) rfl (opR_one _ _ _ _ _) ?_; intro v2 R5 k2)
    obtain ⟨g5, hg5⟩ : ∃ g, g = v1.heap.size := ⟨_, rfl⟩
    rw [← hg5] at R5 ⊢
    clear hg5
    replace PA := Lib.hid (HSl.kept _ _ _ _ _ k2.out PA.out)
    replace K1 := Lib.hid (K1.out.trans k2.out)
    clear k2
    refine (C2.out v2 (HSl.kept _ _ _ _ _ K1.out X0.out)).mono ?_
    rintro e v3 ⟨u, rfl, hu, k3⟩
    have HU := Lib.hid hu
    replace R5 := Lib.hid (R5.out.kept k3)
    replace PA := Lib.hid (HSl.kept _ _ _ _ _ k3 PA.out)
    replace K1 := Lib.hid (K1.out.trans k3)
    clear k3 hu C2
    go_wp2_with fail
    refine (C3.out u v3 HU.out).mono ?_
    rintro e v4 ⟨qb, cb, rfl, hp, k4⟩
    have PB := Lib.hid hp
    replace R5 := Lib.hid (R5.out.kept k4)
    replace PA := Lib.hid (HSl.kept _ _ _ _ _ k4 PA.out)
    replace K1 := Lib.hid (K1.out.trans k4)
    clear hp k4 C3 HU
    go_wp2_with (refine wpList_store_made rfl 25 _ _ rfl _ _ #[.int .i64 I, .int .i64 N, .slice qb m cb] rfl rfl 25 _ rfl (opR_size _ _ _) rfl (opR_one _ _ _ _ _) ?_; intro v5 R7 k5)
    obtain ⟨g7, hg7⟩ : ∃ g, g = v4.heap.size := ⟨_, rfl⟩
    rw [← hg7] at R7 ⊢
    clear hg7
    replace R5 := Lib.hid (R5.out.kept k5.out)
    replace PA := Lib.hid (HSl.kept _ _ _ _ _ k5.out PA.out)
    replace PB := Lib.hid (HSl.kept _ _ _ _ _ k5.out PB.out)
    replace K1 := Lib.hid (K1.out.trans k5.out)
    replace X0 := Lib.hid (HSl.kept _ _ _ _ _ K1.out X0.out)
    replace HT := Lib.hid (HT.out.kept K1.out)
    replace hF := Lib.hid (hF.out.kept K1.out)
    clear k5
    by_cases h0 : n0 = 0
    · subst h0
      go_wp2_with fail
      refine wp_region_table [(26, .is (.slice p0 0 c0)), (27, .is (.agg (bC 32 r))), (28, .is (.slice p0 0 c0)), (29, .is (.agg (bC 32 r))), (30, .is (.bool true)), (31, .is (.bool true)), (32, .is (.agg #[.int .i64 I, .int .i64 N, .slice qa m ca])), (33, .is (.agg #[.int .i64 I, .int .i64 N, .slice qb m cb])), (34, .is (.bool true)), (35, .is (.bool true)), (36, .is (.bool true)), (37, .is (.int .i64 E)), (38, .is (.int .i64 E)), (39, .is (.bool true)), (40, .is (.bool true)), (41, .is (.bool true)), (42, .is (.slice p0 0 c0)), (43, .is (.int .i64 0)), (44, .is (.bool true)), (45, .is (.bool true)), (46, .is (undef)), (47, .is (undef)), (48, .is (undef)), (49, .is (undef)), (50, .is (undef)), (51, .is (undef)), (52, .is (undef)), (53, .is (undef)), (54, .is (undef)), (55, .is (.bool true)), (56, .is (.bool true)), (57, .is (.bool true)), (58, .is (.bool true)), (59, .is (.bool true)), (4, .is (.bool true))] (by kernel_rfl) (by kernel_rfl) ?_ ?_
      · refine ⟨fun t w1 hf hk hp => ?_, ?_⟩
        · have h0 : slot t 0 = .slice p0 0 c0 := hf 0 (by kernel_rfl)
          clear hf hp
          refine stepAt_plain rfl ?_
          exact stepOK_move _ (.inl rfl) h0
        refine ⟨fun t w1 hf hk hp => ?_, ?_⟩
        · have h26 : slot t 26 = .slice p0 0 c0 := hp 26 (by kernel_rfl)
          clear hf hp
          refine stepAt_plain rfl ?_
          refine stepOK_call #[.slice p0 0 c0] rfl (by simp only [List.map_toArray, List.map_cons, List.map_nil, evS, h26]) (by go_simp) ((C4.out w1 (HSl.kept _ _ _ _ _ hk X0.out) (HT.out.kept hk)).mono fun e w' ⟨he, hk'⟩ => ⟨_, he, hk', rfl⟩)
        refine ⟨fun t w1 hf hk hp => ?_, ?_⟩
        · have h0 : slot t 0 = .slice p0 0 c0 := hf 0 (by kernel_rfl)
          clear hf hp
          refine stepAt_plain rfl ?_
          exact stepOK_move _ (.inl rfl) h0
        refine ⟨fun t w1 hf hk hp => ?_, ?_⟩
        · have h28 : slot t 28 = .slice p0 0 c0 := hp 28 (by kernel_rfl)
          clear hf hp
          refine stepAt_plain rfl ?_
          refine stepOK_call #[.slice p0 0 c0] rfl (by simp only [List.map_toArray, List.map_cons, List.map_nil, evS, h28]) (by go_simp) ((C5.out w1 (HSl.kept _ _ _ _ _ hk X0.out)).mono fun e w' ⟨he, hk'⟩ => ⟨_, he, hk', rfl⟩)
        refine ⟨fun t w1 hf hk hp => ?_, ?_⟩
        · have h27 : slot t 27 = .agg (bC 32 r) := hp 27 (by kernel_rfl)
          have h29 : slot t 29 = .agg (bC 32 r) := hp 29 (by kernel_rfl)
          clear hf hp
          refine stepAt_plain rfl ?_
          exact stepOK_pure (.bool true) (execEqH1 r HR32 w1 rfl h27 h29) rfl
        refine ⟨fun t w1 hf hk hp => ?_, ?_⟩
        · have h30 : slot t 30 = .bool true := hp 30 (by kernel_rfl)
          clear hf hp
          refine stepAt_plain rfl ?_
          exact stepOK_move _ (.inl rfl) h30
        refine ⟨fun t w1 hf hk hp => ?_, ?_⟩
        · have h5 : slot t 5 = .pointer (some ⟨g5, 0, none⟩) := hf 5 (by kernel_rfl)
          have h31 : slot t 31 = .bool true := hp 31 (by kernel_rfl)
          clear hf hp
          refine stepAt_on 31 true (by kernel_rfl) h31 ?_
          exact stepOK_pure (.agg #[.int .i64 I, .int .i64 N, .slice qa m ca]) (loadO rfl h5 (R5.out.kept hk) (hsz _)) rfl
        refine ⟨fun t w1 hf hk hp => ?_, ?_⟩
        · have h7 : slot t 7 = .pointer (some ⟨g7, 0, none⟩) := hf 7 (by kernel_rfl)
          have h31 : slot t 31 = .bool true := hp 31 (by kernel_rfl)
          clear hf hp
          refine stepAt_on 31 true (by kernel_rfl) h31 ?_
          exact stepOK_pure (.agg #[.int .i64 I, .int .i64 N, .slice qb m cb]) (loadO rfl h7 (R7.out.kept hk) (hsz _)) rfl
        refine ⟨fun t w1 hf hk hp => ?_, ?_⟩
        · have h32 : slot t 32 = .agg #[.int .i64 I, .int .i64 N, .slice qa m ca] := hp 32 (by kernel_rfl)
          have h33 : slot t 33 = .agg #[.int .i64 I, .int .i64 N, .slice qb m cb] := hp 33 (by kernel_rfl)
          have h31 : slot t 31 = .bool true := hp 31 (by kernel_rfl)
          clear hf hp
          refine stepAt_on 31 true (by kernel_rfl) h31 ?_
          refine stepOK_call #[.agg #[.int .i64 I, .int .i64 N, .slice qa m ca], .agg #[.int .i64 I, .int .i64 N, .slice qb m cb]] rfl (by simp only [List.map_toArray, List.map_cons, List.map_nil, evS, h32, h33]) (by go_simp) ((C6.out _ _ w1 (HSl.kept _ _ _ _ _ hk PA.out) (HSl.kept _ _ _ _ _ hk PB.out)).mono fun e w' ⟨he, hk'⟩ => ⟨_, he, hk', rfl⟩)
        refine ⟨fun t w1 hf hk hp => ?_, ?_⟩
        · have h31 : slot t 31 = .bool true := hp 31 (by kernel_rfl)
          have h34 : slot t 34 = .bool true := hp 34 (by kernel_rfl)
          clear hf hp
          refine stepAt_plain rfl ?_
          refine stepOK_pure (.bool true) ?_ rfl
          simp only [execOp, evS, h31, h34]
          go_simp
        refine ⟨fun t w1 hf hk hp => ?_, ?_⟩
        · have h35 : slot t 35 = .bool true := hp 35 (by kernel_rfl)
          clear hf hp
          refine stepAt_plain rfl ?_
          exact stepOK_move _ (.inl rfl) h35
        refine ⟨fun t w1 hf hk hp => ?_, ?_⟩
        · have h6 : slot t 6 = .int .i64 E := hf 6 (by kernel_rfl)
          have h36 : slot t 36 = .bool true := hp 36 (by kernel_rfl)
          clear hf hp
          refine stepAt_on 36 true (by kernel_rfl) h36 ?_
          exact stepOK_move _ (.inl rfl) h6
        refine ⟨fun t w1 hf hk hp => ?_, ?_⟩
        · have h8 : slot t 8 = .int .i64 E := hf 8 (by kernel_rfl)
          have h36 : slot t 36 = .bool true := hp 36 (by kernel_rfl)
          clear hf hp
          refine stepAt_on 36 true (by kernel_rfl) h36 ?_
          exact stepOK_move _ (.inl rfl) h8
        refine ⟨fun t w1 hf hk hp => ?_, ?_⟩
        · have h37 : slot t 37 = .int .i64 E := hp 37 (by kernel_rfl)
          have h38 : slot t 38 = .int .i64 E := hp 38 (by kernel_rfl)
          have h36 : slot t 36 = .bool true := hp 36 (by kernel_rfl)
          clear hf hp
          refine stepAt_on 36 true (by kernel_rfl) h36 ?_
          have hq0 := hEE
          refine stepOK_pure (.bool true) ?_ rfl
          simp only [execOp, evS, h37, h38]
          go_simp
        refine ⟨fun t w1 hf hk hp => ?_, ?_⟩
        · have h36 : slot t 36 = .bool true := hp 36 (by kernel_rfl)
          have h39 : slot t 39 = .bool true := hp 39 (by kernel_rfl)
          clear hf hp
          refine stepAt_plain rfl ?_
          refine stepOK_pure (.bool true) ?_ rfl
          simp only [execOp, evS, h36, h39]
          go_simp
        refine ⟨fun t w1 hf hk hp => ?_, ?_⟩
        · have h40 : slot t 40 = .bool true := hp 40 (by kernel_rfl)
          clear hf hp
          refine stepAt_plain rfl ?_
          exact stepOK_move _ (.inl rfl) h40
        refine ⟨fun t w1 hf hk hp => ?_, ?_⟩
        · have h0 : slot t 0 = .slice p0 0 c0 := hf 0 (by kernel_rfl)
          have h41 : slot t 41 = .bool true := hp 41 (by kernel_rfl)
          clear hf hp
          refine stepAt_on 41 true (by kernel_rfl) h41 ?_
          exact stepOK_move _ (.inl rfl) h0
        refine ⟨fun t w1 hf hk hp => ?_, ?_⟩
        · have h42 : slot t 42 = .slice p0 0 c0 := hp 42 (by kernel_rfl)
          have h41 : slot t 41 = .bool true := hp 41 (by kernel_rfl)
          clear hf hp
          refine stepAt_on 41 true (by kernel_rfl) h41 ?_
          exact stepOK_pure (.int .i64 0) (execLenHs (n := 0) w1 rfl h42) rfl
        refine ⟨fun t w1 hf hk hp => ?_, ?_⟩
        · have h43 : slot t 43 = .int .i64 0 := hp 43 (by kernel_rfl)
          have h41 : slot t 41 = .bool true := hp 41 (by kernel_rfl)
          clear hf hp
          refine stepAt_on 41 true (by kernel_rfl) h41 ?_
          refine stepOK_pure (.bool true) ?_ rfl
          simp only [execOp, evS, h43]
          go_simp
        refine ⟨fun t w1 hf hk hp => ?_, ?_⟩
        · have h44 : slot t 44 = .bool true := hp 44 (by kernel_rfl)
          have h41 : slot t 41 = .bool true := hp 41 (by kernel_rfl)
          clear hf hp
          refine stepAt_on 41 true (by kernel_rfl) h41 ?_
          exact stepOK_move _ (.inl rfl) h44
        refine ⟨fun t w1 hf hk hp => ?_, ?_⟩
        · have h45 : slot t 45 = .bool true := hp 45 (by kernel_rfl)
          clear hf hp
          exact stepAt_off 45 false (by kernel_rfl) h45 rfl
        refine ⟨fun t w1 hf hk hp => ?_, ?_⟩
        · have h45 : slot t 45 = .bool true := hp 45 (by kernel_rfl)
          clear hf hp
          exact stepAt_off 45 false (by kernel_rfl) h45 rfl
        refine ⟨fun t w1 hf hk hp => ?_, ?_⟩
        · have h45 : slot t 45 = .bool true := hp 45 (by kernel_rfl)
          clear hf hp
          exact stepAt_off 45 false (by kernel_rfl) h45 rfl
        refine ⟨fun t w1 hf hk hp => ?_, ?_⟩
        · have h45 : slot t 45 = .bool true := hp 45 (by kernel_rfl)
          clear hf hp
          exact stepAt_off 45 false (by kernel_rfl) h45 rfl
        refine ⟨fun t w1 hf hk hp => ?_, ?_⟩
        · have h45 : slot t 45 = .bool true := hp 45 (by kernel_rfl)
          clear hf hp
          exact stepAt_off 45 false (by kernel_rfl) h45 rfl
        refine ⟨fun t w1 hf hk hp => ?_, ?_⟩
        · have h45 : slot t 45 = .bool true := hp 45 (by kernel_rfl)
          clear hf hp
          exact stepAt_off 45 false (by kernel_rfl) h45 rfl
        refine ⟨fun t w1 hf hk hp => ?_, ?_⟩
        · have h45 : slot t 45 = .bool true := hp 45 (by kernel_rfl)
          clear hf hp
          exact stepAt_off 45 false (by kernel_rfl) h45 rfl
        refine ⟨fun t w1 hf hk hp => ?_, ?_⟩
        · have h45 : slot t 45 = .bool true := hp 45 (by kernel_rfl)
          clear hf hp
          exact stepAt_off 45 false (by kernel_rfl) h45 rfl
        refine ⟨fun t w1 hf hk hp => ?_, ?_⟩
        · have h45 : slot t 45 = .bool true := hp 45 (by kernel_rfl)
          clear hf hp
          exact stepAt_off 45 false (by kernel_rfl) h45 rfl
        refine ⟨fun t w1 hf hk hp => ?_, ?_⟩
        · have h45 : slot t 45 = .bool true := hp 45 (by kernel_rfl)
          have h54 : slot t 54 = undef := hp 54 (by kernel_rfl)
          have h41 : slot t 41 = .bool true := hp 41 (by kernel_rfl)
          clear hf hp
          refine stepAt_on 41 true (by kernel_rfl) h41 ?_
          refine stepOK_pure (.bool true) ?_ rfl
          simp only [execOp, evS, h45, h54]
          go_simp
        refine ⟨fun t w1 hf hk hp => ?_, ?_⟩
        · have h41 : slot t 41 = .bool true := hp 41 (by kernel_rfl)
          have h55 : slot t 55 = .bool true := hp 55 (by kernel_rfl)
          clear hf hp
          refine stepAt_plain rfl ?_
          refine stepOK_pure (.bool true) ?_ rfl
          simp only [execOp, evS, h41, h55]
          go_simp
        refine ⟨fun t w1 hf hk hp => ?_, ?_⟩
        · have h56 : slot t 56 = .bool true := hp 56 (by kernel_rfl)
          clear hf hp
          refine stepAt_plain rfl ?_
          exact stepOK_move _ (.inl rfl) h56
        refine ⟨fun t w1 hf hk hp => ?_, ?_⟩
        · have h57 : slot t 57 = .bool true := hp 57 (by kernel_rfl)
          clear hf hp
          refine stepAt_on 57 true (by kernel_rfl) h57 ?_
          refine stepOK_call #[] rfl (by simp only [List.map_toArray, List.map_nil]) (by go_simp) ((HA.out w1 (HT.out.kept hk)).mono fun e w' ⟨he, hk'⟩ => ⟨_, he, hk', rfl⟩)
        refine ⟨fun t w1 hf hk hp => ?_, ?_⟩
        · have h57 : slot t 57 = .bool true := hp 57 (by kernel_rfl)
          have h58 : slot t 58 = .bool true := hp 58 (by kernel_rfl)
          clear hf hp
          refine stepAt_plain rfl ?_
          refine stepOK_pure (.bool true) ?_ rfl
          simp only [execOp, evS, h57, h58]
          go_simp
        refine ⟨fun t w1 hf hk hp => ?_, ?_⟩
        · have h59 : slot t 59 = .bool true := hp 59 (by kernel_rfl)
          clear hf hp
          refine stepAt_plain rfl ?_
          exact stepOK_move _ (.inr rfl) h59
        exact trivial
      · intro t w1 hsz hf hk hfacts
        have h4 : slot t 4 = .bool true := hfacts 34 _ rfl 4 rfl
        have h0 : slot t 0 = .slice p0 0 c0 := hf 0 (by kernel_rfl)
        have h5 : slot t 5 = .pointer (some ⟨g5, 0, none⟩) := hf 5 (by kernel_rfl)
        have h6 : slot t 6 = .int .i64 E := hf 6 (by kernel_rfl)
        have h7 : slot t 7 = .pointer (some ⟨g7, 0, none⟩) := hf 7 (by kernel_rfl)
        have h8 : slot t 8 = .int .i64 E := hf 8 (by kernel_rfl)
        have harr : t = #[slot t 0, slot t 1, slot t 2, slot t 3, slot t 4, slot t 5, slot t 6, slot t 7, slot t 8, slot t 9, slot t 10, slot t 11, slot t 12, slot t 13, slot t 14, slot t 15, slot t 16, slot t 17, slot t 18, slot t 19, slot t 20, slot t 21, slot t 22, slot t 23, slot t 24, slot t 25, slot t 26, slot t 27, slot t 28, slot t 29, slot t 30, slot t 31, slot t 32, slot t 33, slot t 34, slot t 35, slot t 36, slot t 37, slot t 38, slot t 39, slot t 40, slot t 41, slot t 42, slot t 43, slot t 44, slot t 45, slot t 46, slot t 47, slot t 48, slot t 49, slot t 50, slot t 51, slot t 52, slot t 53, slot t 54, slot t 55, slot t 56, slot t 57, slot t 58, slot t 59] := arr_eq t 60 hsz
        rw [harr, h4, h0, h5, h6, h7, h8]
        clear harr hfacts hf h4 h0 h5 h6 h7 h8
        generalize slot t 1 = x1; generalize slot t 2 = x2; generalize slot t 3 = x3; generalize slot t 9 = x9; generalize slot t 10 = x10; generalize slot t 11 = x11; generalize slot t 12 = x12; generalize slot t 13 = x13; generalize slot t 14 = x14; generalize slot t 15 = x15; generalize slot t 16 = x16; generalize slot t 17 = x17
        generalize slot t 18 = x18; generalize slot t 19 = x19; generalize slot t 20 = x20; generalize slot t 21 = x21; generalize slot t 22 = x22; generalize slot t 23 = x23; generalize slot t 24 = x24; generalize slot t 25 = x25; generalize slot t 26 = x26; generalize slot t 27 = x27; generalize slot t 28 = x28; generalize slot t 29 = x29
        generalize slot t 30 = x30; generalize slot t 31 = x31; generalize slot t 32 = x32; generalize slot t 33 = x33; generalize slot t 34 = x34; generalize slot t 35 = x35; generalize slot t 36 = x36; generalize slot t 37 = x37; generalize slot t 38 = x38; generalize slot t 39 = x39; generalize slot t 40 = x40; generalize slot t 41 = x41
        generalize slot t 42 = x42; generalize slot t 43 = x43; generalize slot t 44 = x44; generalize slot t 45 = x45; generalize slot t 46 = x46; generalize slot t 47 = x47; generalize slot t 48 = x48; generalize slot t 49 = x49; generalize slot t 50 = x50; generalize slot t 51 = x51; generalize slot t 52 = x52; generalize slot t 53 = x53
        generalize slot t 54 = x54; generalize slot t 55 = x55; generalize slot t 56 = x56; generalize slot t 57 = x57; generalize slot t 58 = x58; generalize slot t 59 = x59
        clear hsz t
        have KE := Lib.hid (K1.out.trans hk)
        clear hk
        go_wp2_with fail
        go_ret
        exact ⟨rfl, KE.out⟩
    · have hpos : 0 < n0 := by omega
      have hd0 : ((n0 : Int) == 0) = false := by simp; omega
      obtain ⟨q, rfl, _⟩ := hF.out.some hpos
      have hl0 := hF.out.length 0 hpos
      have C7 : Hid (∀ w, _) := Lib.hid fun w => linkText_any (F0 0) w hl0
      have C8 : Hid (∀ w, _) := Lib.hid fun w => refLeaf17_any (F0 0) w hl0
      generalize linkS (F0 0) = s at C7 C8
      go_wp2_with fail
      refine wp_region_table [(26, .is (.slice (some q) n0 c0)), (27, .is (.agg (bC 32 r))), (28, .is (.slice (some q) n0 c0)), (29, .is (.agg (bC 32 r))), (30, .is (.bool true)), (31, .is (.bool true)), (32, .is (.agg #[.int .i64 I, .int .i64 N, .slice qa m ca])), (33, .is (.agg #[.int .i64 I, .int .i64 N, .slice qb m cb])), (34, .is (.bool true)), (35, .is (.bool true)), (36, .is (.bool true)), (37, .is (.int .i64 E)), (38, .is (.int .i64 E)), (39, .is (.bool true)), (40, .is (.bool true)), (41, .is (.bool true)), (42, .is (.slice (some q) n0 c0)), (43, .is (.int .i64 (n0 : Int))), (44, .is (.bool false)), (45, .is (.bool false)), (46, .is (.slice (some q) n0 c0)), (47, .is (.pointer (some (q.add (0 * 32))))), (48, .is (.agg (bC 32 (F0 0)))), (49, .is (.string s)), (50, .is (.slice (some q) n0 c0)), (51, .is (.pointer (some (q.add (0 * 32))))), (52, .is (.agg (bC 32 (F0 0)))), (53, .is (.string s)), (54, .is (.bool true)), (55, .is (.bool true)), (56, .is (.bool true)), (57, .is (.bool true)), (58, .is (.bool true)), (59, .is (.bool true)), (4, .is (.bool true))] (by kernel_rfl) (by kernel_rfl) ?_ ?_
      · refine ⟨fun t w1 hf hk hp => ?_, ?_⟩
        · have h0 : slot t 0 = .slice (some q) n0 c0 := hf 0 (by kernel_rfl)
          clear hf hp
          refine stepAt_plain rfl ?_
          exact stepOK_move _ (.inl rfl) h0
        refine ⟨fun t w1 hf hk hp => ?_, ?_⟩
        · have h26 : slot t 26 = .slice (some q) n0 c0 := hp 26 (by kernel_rfl)
          clear hf hp
          refine stepAt_plain rfl ?_
          refine stepOK_call #[.slice (some q) n0 c0] rfl (by simp only [List.map_toArray, List.map_cons, List.map_nil, evS, h26]) (by go_simp) ((C4.out w1 (HSl.kept _ _ _ _ _ hk X0.out) (HT.out.kept hk)).mono fun e w' ⟨he, hk'⟩ => ⟨_, he, hk', rfl⟩)
        refine ⟨fun t w1 hf hk hp => ?_, ?_⟩
        · have h0 : slot t 0 = .slice (some q) n0 c0 := hf 0 (by kernel_rfl)
          clear hf hp
          refine stepAt_plain rfl ?_
          exact stepOK_move _ (.inl rfl) h0
        refine ⟨fun t w1 hf hk hp => ?_, ?_⟩
        · have h28 : slot t 28 = .slice (some q) n0 c0 := hp 28 (by kernel_rfl)
          clear hf hp
          refine stepAt_plain rfl ?_
          refine stepOK_call #[.slice (some q) n0 c0] rfl (by simp only [List.map_toArray, List.map_cons, List.map_nil, evS, h28]) (by go_simp) ((C5.out w1 (HSl.kept _ _ _ _ _ hk X0.out)).mono fun e w' ⟨he, hk'⟩ => ⟨_, he, hk', rfl⟩)
        refine ⟨fun t w1 hf hk hp => ?_, ?_⟩
        · have h27 : slot t 27 = .agg (bC 32 r) := hp 27 (by kernel_rfl)
          have h29 : slot t 29 = .agg (bC 32 r) := hp 29 (by kernel_rfl)
          clear hf hp
          refine stepAt_plain rfl ?_
          exact stepOK_pure (.bool true) (execEqH1 r HR32 w1 rfl h27 h29) rfl
        refine ⟨fun t w1 hf hk hp => ?_, ?_⟩
        · have h30 : slot t 30 = .bool true := hp 30 (by kernel_rfl)
          clear hf hp
          refine stepAt_plain rfl ?_
          exact stepOK_move _ (.inl rfl) h30
        refine ⟨fun t w1 hf hk hp => ?_, ?_⟩
        · have h5 : slot t 5 = .pointer (some ⟨g5, 0, none⟩) := hf 5 (by kernel_rfl)
          have h31 : slot t 31 = .bool true := hp 31 (by kernel_rfl)
          clear hf hp
          refine stepAt_on 31 true (by kernel_rfl) h31 ?_
          exact stepOK_pure (.agg #[.int .i64 I, .int .i64 N, .slice qa m ca]) (loadO rfl h5 (R5.out.kept hk) (hsz _)) rfl
        refine ⟨fun t w1 hf hk hp => ?_, ?_⟩
        · have h7 : slot t 7 = .pointer (some ⟨g7, 0, none⟩) := hf 7 (by kernel_rfl)
          have h31 : slot t 31 = .bool true := hp 31 (by kernel_rfl)
          clear hf hp
          refine stepAt_on 31 true (by kernel_rfl) h31 ?_
          exact stepOK_pure (.agg #[.int .i64 I, .int .i64 N, .slice qb m cb]) (loadO rfl h7 (R7.out.kept hk) (hsz _)) rfl
        refine ⟨fun t w1 hf hk hp => ?_, ?_⟩
        · have h32 : slot t 32 = .agg #[.int .i64 I, .int .i64 N, .slice qa m ca] := hp 32 (by kernel_rfl)
          have h33 : slot t 33 = .agg #[.int .i64 I, .int .i64 N, .slice qb m cb] := hp 33 (by kernel_rfl)
          have h31 : slot t 31 = .bool true := hp 31 (by kernel_rfl)
          clear hf hp
          refine stepAt_on 31 true (by kernel_rfl) h31 ?_
          refine stepOK_call #[.agg #[.int .i64 I, .int .i64 N, .slice qa m ca], .agg #[.int .i64 I, .int .i64 N, .slice qb m cb]] rfl (by simp only [List.map_toArray, List.map_cons, List.map_nil, evS, h32, h33]) (by go_simp) ((C6.out _ _ w1 (HSl.kept _ _ _ _ _ hk PA.out) (HSl.kept _ _ _ _ _ hk PB.out)).mono fun e w' ⟨he, hk'⟩ => ⟨_, he, hk', rfl⟩)
        refine ⟨fun t w1 hf hk hp => ?_, ?_⟩
        · have h31 : slot t 31 = .bool true := hp 31 (by kernel_rfl)
          have h34 : slot t 34 = .bool true := hp 34 (by kernel_rfl)
          clear hf hp
          refine stepAt_plain rfl ?_
          refine stepOK_pure (.bool true) ?_ rfl
          simp only [execOp, evS, h31, h34]
          go_simp
        refine ⟨fun t w1 hf hk hp => ?_, ?_⟩
        · have h35 : slot t 35 = .bool true := hp 35 (by kernel_rfl)
          clear hf hp
          refine stepAt_plain rfl ?_
          exact stepOK_move _ (.inl rfl) h35
        refine ⟨fun t w1 hf hk hp => ?_, ?_⟩
        · have h6 : slot t 6 = .int .i64 E := hf 6 (by kernel_rfl)
          have h36 : slot t 36 = .bool true := hp 36 (by kernel_rfl)
          clear hf hp
          refine stepAt_on 36 true (by kernel_rfl) h36 ?_
          exact stepOK_move _ (.inl rfl) h6
        refine ⟨fun t w1 hf hk hp => ?_, ?_⟩
        · have h8 : slot t 8 = .int .i64 E := hf 8 (by kernel_rfl)
          have h36 : slot t 36 = .bool true := hp 36 (by kernel_rfl)
          clear hf hp
          refine stepAt_on 36 true (by kernel_rfl) h36 ?_
          exact stepOK_move _ (.inl rfl) h8
        refine ⟨fun t w1 hf hk hp => ?_, ?_⟩
        · have h37 : slot t 37 = .int .i64 E := hp 37 (by kernel_rfl)
          have h38 : slot t 38 = .int .i64 E := hp 38 (by kernel_rfl)
          have h36 : slot t 36 = .bool true := hp 36 (by kernel_rfl)
          clear hf hp
          refine stepAt_on 36 true (by kernel_rfl) h36 ?_
          have hq0 := hEE
          refine stepOK_pure (.bool true) ?_ rfl
          simp only [execOp, evS, h37, h38]
          go_simp
        refine ⟨fun t w1 hf hk hp => ?_, ?_⟩
        · have h36 : slot t 36 = .bool true := hp 36 (by kernel_rfl)
          have h39 : slot t 39 = .bool true := hp 39 (by kernel_rfl)
          clear hf hp
          refine stepAt_plain rfl ?_
          refine stepOK_pure (.bool true) ?_ rfl
          simp only [execOp, evS, h36, h39]
          go_simp
        refine ⟨fun t w1 hf hk hp => ?_, ?_⟩
        · have h40 : slot t 40 = .bool true := hp 40 (by kernel_rfl)
          clear hf hp
          refine stepAt_plain rfl ?_
          exact stepOK_move _ (.inl rfl) h40
        refine ⟨fun t w1 hf hk hp => ?_, ?_⟩
        · have h0 : slot t 0 = .slice (some q) n0 c0 := hf 0 (by kernel_rfl)
          have h41 : slot t 41 = .bool true := hp 41 (by kernel_rfl)
          clear hf hp
          refine stepAt_on 41 true (by kernel_rfl) h41 ?_
          exact stepOK_move _ (.inl rfl) h0
        refine ⟨fun t w1 hf hk hp => ?_, ?_⟩
        · have h42 : slot t 42 = .slice (some q) n0 c0 := hp 42 (by kernel_rfl)
          have h41 : slot t 41 = .bool true := hp 41 (by kernel_rfl)
          clear hf hp
          refine stepAt_on 41 true (by kernel_rfl) h41 ?_
          exact stepOK_pure (.int .i64 (n0 : Int)) (execLenHs (n := n0) w1 rfl h42) rfl
        refine ⟨fun t w1 hf hk hp => ?_, ?_⟩
        · have h43 : slot t 43 = .int .i64 (n0 : Int) := hp 43 (by kernel_rfl)
          have h41 : slot t 41 = .bool true := hp 41 (by kernel_rfl)
          clear hf hp
          refine stepAt_on 41 true (by kernel_rfl) h41 ?_
          have hq0 := hd0
          refine stepOK_pure (.bool false) ?_ rfl
          simp only [execOp, evS, h43]
          go_simp
        refine ⟨fun t w1 hf hk hp => ?_, ?_⟩
        · have h44 : slot t 44 = .bool false := hp 44 (by kernel_rfl)
          have h41 : slot t 41 = .bool true := hp 41 (by kernel_rfl)
          clear hf hp
          refine stepAt_on 41 true (by kernel_rfl) h41 ?_
          exact stepOK_move _ (.inl rfl) h44
        refine ⟨fun t w1 hf hk hp => ?_, ?_⟩
        · have h0 : slot t 0 = .slice (some q) n0 c0 := hf 0 (by kernel_rfl)
          have h45 : slot t 45 = .bool false := hp 45 (by kernel_rfl)
          clear hf hp
          refine stepAt_on 45 false (by kernel_rfl) h45 ?_
          exact stepOK_move _ (.inl rfl) h0
        refine ⟨fun t w1 hf hk hp => ?_, ?_⟩
        · have h46 : slot t 46 = .slice (some q) n0 c0 := hp 46 (by kernel_rfl)
          have h45 : slot t 45 = .bool false := hp 45 (by kernel_rfl)
          clear hf hp
          refine stepAt_on 45 false (by kernel_rfl) h45 ?_
          exact stepOK_pure (.pointer (some (q.add (0 * 32)))) (execIndex0 q n0 c0 0 hpos w1 rfl h46) rfl
        refine ⟨fun t w1 hf hk hp => ?_, ?_⟩
        · have h47 : slot t 47 = .pointer (some (q.add (0 * 32))) := hp 47 (by kernel_rfl)
          have h45 : slot t 45 = .bool false := hp 45 (by kernel_rfl)
          clear hf hp
          refine stepAt_on 45 false (by kernel_rfl) h45 ?_
          exact stepOK_pure (.agg (bC 32 (F0 0))) (load_at 0 rfl h47 (hF.out.kept hk) hpos) rfl
        refine ⟨fun t w1 hf hk hp => ?_, ?_⟩
        · have h48 : slot t 48 = .agg (bC 32 (F0 0)) := hp 48 (by kernel_rfl)
          have h45 : slot t 45 = .bool false := hp 45 (by kernel_rfl)
          clear hf hp
          refine stepAt_on 45 false (by kernel_rfl) h45 ?_
          refine stepOK_call #[.agg (bC 32 (F0 0))] rfl (by simp only [List.map_toArray, List.map_cons, List.map_nil, evS, h48]) (by go_simp) ((C7.out w1).mono fun e w' ⟨he, hk'⟩ => ⟨_, he, hk', rfl⟩)
        refine ⟨fun t w1 hf hk hp => ?_, ?_⟩
        · have h0 : slot t 0 = .slice (some q) n0 c0 := hf 0 (by kernel_rfl)
          have h45 : slot t 45 = .bool false := hp 45 (by kernel_rfl)
          clear hf hp
          refine stepAt_on 45 false (by kernel_rfl) h45 ?_
          exact stepOK_move _ (.inl rfl) h0
        refine ⟨fun t w1 hf hk hp => ?_, ?_⟩
        · have h50 : slot t 50 = .slice (some q) n0 c0 := hp 50 (by kernel_rfl)
          have h45 : slot t 45 = .bool false := hp 45 (by kernel_rfl)
          clear hf hp
          refine stepAt_on 45 false (by kernel_rfl) h45 ?_
          exact stepOK_pure (.pointer (some (q.add (0 * 32)))) (execIndex0 q n0 c0 0 hpos w1 rfl h50) rfl
        refine ⟨fun t w1 hf hk hp => ?_, ?_⟩
        · have h51 : slot t 51 = .pointer (some (q.add (0 * 32))) := hp 51 (by kernel_rfl)
          have h45 : slot t 45 = .bool false := hp 45 (by kernel_rfl)
          clear hf hp
          refine stepAt_on 45 false (by kernel_rfl) h45 ?_
          exact stepOK_pure (.agg (bC 32 (F0 0))) (load_at 0 rfl h51 (hF.out.kept hk) hpos) rfl
        refine ⟨fun t w1 hf hk hp => ?_, ?_⟩
        · have h52 : slot t 52 = .agg (bC 32 (F0 0)) := hp 52 (by kernel_rfl)
          have h45 : slot t 45 = .bool false := hp 45 (by kernel_rfl)
          clear hf hp
          refine stepAt_on 45 false (by kernel_rfl) h45 ?_
          refine stepOK_call #[.agg (bC 32 (F0 0))] rfl (by simp only [List.map_toArray, List.map_cons, List.map_nil, evS, h52]) (by go_simp) ((C8.out w1).mono fun e w' ⟨he, hk'⟩ => ⟨_, he, hk', rfl⟩)
        refine ⟨fun t w1 hf hk hp => ?_, ?_⟩
        · have h49 : slot t 49 = .string s := hp 49 (by kernel_rfl)
          have h53 : slot t 53 = .string s := hp 53 (by kernel_rfl)
          have h45 : slot t 45 = .bool false := hp 45 (by kernel_rfl)
          clear hf hp
          refine stepAt_on 45 false (by kernel_rfl) h45 ?_
          exact stepOK_pure (.bool true) (execEqSSelf s w1 rfl h49 h53) rfl
        refine ⟨fun t w1 hf hk hp => ?_, ?_⟩
        · have h45 : slot t 45 = .bool false := hp 45 (by kernel_rfl)
          have h54 : slot t 54 = .bool true := hp 54 (by kernel_rfl)
          have h41 : slot t 41 = .bool true := hp 41 (by kernel_rfl)
          clear hf hp
          refine stepAt_on 41 true (by kernel_rfl) h41 ?_
          refine stepOK_pure (.bool true) ?_ rfl
          simp only [execOp, evS, h45, h54]
          go_simp
        refine ⟨fun t w1 hf hk hp => ?_, ?_⟩
        · have h41 : slot t 41 = .bool true := hp 41 (by kernel_rfl)
          have h55 : slot t 55 = .bool true := hp 55 (by kernel_rfl)
          clear hf hp
          refine stepAt_plain rfl ?_
          refine stepOK_pure (.bool true) ?_ rfl
          simp only [execOp, evS, h41, h55]
          go_simp
        refine ⟨fun t w1 hf hk hp => ?_, ?_⟩
        · have h56 : slot t 56 = .bool true := hp 56 (by kernel_rfl)
          clear hf hp
          refine stepAt_plain rfl ?_
          exact stepOK_move _ (.inl rfl) h56
        refine ⟨fun t w1 hf hk hp => ?_, ?_⟩
        · have h57 : slot t 57 = .bool true := hp 57 (by kernel_rfl)
          clear hf hp
          refine stepAt_on 57 true (by kernel_rfl) h57 ?_
          refine stepOK_call #[] rfl (by simp only [List.map_toArray, List.map_nil]) (by go_simp) ((HA.out w1 (HT.out.kept hk)).mono fun e w' ⟨he, hk'⟩ => ⟨_, he, hk', rfl⟩)
        refine ⟨fun t w1 hf hk hp => ?_, ?_⟩
        · have h57 : slot t 57 = .bool true := hp 57 (by kernel_rfl)
          have h58 : slot t 58 = .bool true := hp 58 (by kernel_rfl)
          clear hf hp
          refine stepAt_plain rfl ?_
          refine stepOK_pure (.bool true) ?_ rfl
          simp only [execOp, evS, h57, h58]
          go_simp
        refine ⟨fun t w1 hf hk hp => ?_, ?_⟩
        · have h59 : slot t 59 = .bool true := hp 59 (by kernel_rfl)
          clear hf hp
          refine stepAt_plain rfl ?_
          exact stepOK_move _ (.inr rfl) h59
        exact trivial
      · intro t w1 hsz hf hk hfacts
        have h4 : slot t 4 = .bool true := hfacts 34 _ rfl 4 rfl
        have h0 : slot t 0 = .slice (some q) n0 c0 := hf 0 (by kernel_rfl)
        have h5 : slot t 5 = .pointer (some ⟨g5, 0, none⟩) := hf 5 (by kernel_rfl)
        have h6 : slot t 6 = .int .i64 E := hf 6 (by kernel_rfl)
        have h7 : slot t 7 = .pointer (some ⟨g7, 0, none⟩) := hf 7 (by kernel_rfl)
        have h8 : slot t 8 = .int .i64 E := hf 8 (by kernel_rfl)
        have harr : t = #[slot t 0, slot t 1, slot t 2, slot t 3, slot t 4, slot t 5, slot t 6, slot t 7, slot t 8, slot t 9, slot t 10, slot t 11, slot t 12, slot t 13, slot t 14, slot t 15, slot t 16, slot t 17, slot t 18, slot t 19, slot t 20, slot t 21, slot t 22, slot t 23, slot t 24, slot t 25, slot t 26, slot t 27, slot t 28, slot t 29, slot t 30, slot t 31, slot t 32, slot t 33, slot t 34, slot t 35, slot t 36, slot t 37, slot t 38, slot t 39, slot t 40, slot t 41, slot t 42, slot t 43, slot t 44, slot t 45, slot t 46, slot t 47, slot t 48, slot t 49, slot t 50, slot t 51, slot t 52, slot t 53, slot t 54, slot t 55, slot t 56, slot t 57, slot t 58, slot t 59] := arr_eq t 60 hsz
        rw [harr, h4, h0, h5, h6, h7, h8]
        clear harr hfacts hf h4 h0 h5 h6 h7 h8
        generalize slot t 1 = x1; generalize slot t 2 = x2; generalize slot t 3 = x3; generalize slot t 9 = x9; generalize slot t 10 = x10; generalize slot t 11 = x11; generalize slot t 12 = x12; generalize slot t 13 = x13; generalize slot t 14 = x14; generalize slot t 15 = x15; generalize slot t 16 = x16; generalize slot t 17 = x17
        generalize slot t 18 = x18; generalize slot t 19 = x19; generalize slot t 20 = x20; generalize slot t 21 = x21; generalize slot t 22 = x22; generalize slot t 23 = x23; generalize slot t 24 = x24; generalize slot t 25 = x25; generalize slot t 26 = x26; generalize slot t 27 = x27; generalize slot t 28 = x28; generalize slot t 29 = x29
        generalize slot t 30 = x30; generalize slot t 31 = x31; generalize slot t 32 = x32; generalize slot t 33 = x33; generalize slot t 34 = x34; generalize slot t 35 = x35; generalize slot t 36 = x36; generalize slot t 37 = x37; generalize slot t 38 = x38; generalize slot t 39 = x39; generalize slot t 40 = x40; generalize slot t 41 = x41
        generalize slot t 42 = x42; generalize slot t 43 = x43; generalize slot t 44 = x44; generalize slot t 45 = x45; generalize slot t 46 = x46; generalize slot t 47 = x47; generalize slot t 48 = x48; generalize slot t 49 = x49; generalize slot t 50 = x50; generalize slot t 51 = x51; generalize slot t 52 = x52; generalize slot t 53 = x53
        generalize slot t 54 = x54; generalize slot t 55 = x55; generalize slot t 56 = x56; generalize slot t 57 = x57; generalize slot t 58 = x58; generalize slot t 59 = x59
        clear hsz t
        have KE := Lib.hid (K1.out.trans hk)
        clear hk
        go_wp2_with fail
        go_ret
        exact ⟨rfl, KE.out⟩

set_option maxRecDepth 100000 in
set_option maxHeartbeats 1000000 in
theorem lifted (os : Os) (started : os.Started) (H : Type) (enc : TypeId × Value → H) :
    ReturnsInHanded {} Tryd.checked os 3 .any (fun w args => (Rows.linkRootsSpec.pre enc Tryd.prog Tryd.f3 [] false w args ∧ laidMetH Tryd.prog Rows.linkRootsRow.laid w) ∧ sizedMet enc Tryd.prog Tryd.f3 (OpenSpec.ofChange Rows.linkRootsSpec) false w args)
      (Rows.linkRootsSpec.post enc Tryd.prog Tryd.f3 false true false false) := by
  refine returnsInHanded_of_change_and (C := Tryd.checked) (X := fun w _ => laidMetH Tryd.prog Rows.linkRootsRow.laid w) (fun _ _ _ hh h => h.of_heap hh) own started (by kernel_rfl) Tryd.func3
    (ChangeSpec.witness_shaped (enc := enc) (C := Tryd.checked) (os := os) (X := fun w _ => laidMetH Tryd.prog Rows.linkRootsRow.laid w) false (World.doorLaid Tryd.prog 400 os) #[.slice none 0 0, .int .i64 0] 8 rfl (World.shaped_of_RefB (by kernel_rfl) (by kernel_rfl)) (by kernel_rfl) (by kernel_rfl) (by kernel_rfl) (door_met os _)) ?_
  intro W base args ds gs before hval0 hW _ hsz0 hL _
  have hval : ∀ (j : Nat) t v, Tryd.f3.params[j]? = some t → args[j]? = some v → Value.okWide Tryd.prog W .any base t v := hval0
  have hsz : (DataW.weightsEach Tryd.prog (Tryd.f3.params.toList ++ Rows.linkRootsSpec.plain.varTypes Tryd.prog) (ds ++ gs)).all (· ≤ reachBytes) = true := hsz0
  have hW' := hW
  obtain ⟨p, q, hA0, hV, rfl, hfz, hnd⟩ := hW
  have hA : DataW.TrodAll enc Tryd.prog W 0 (fun _ => true) true Tryd.f3.params.toList args.toList ds p := hA0
  have hAk := hA
  rw [Tryd.params3] at hA hval hsz
  obtain ⟨v0, vs0, d0, ds0, p0_, q0_, hargs, rfl, rfl, h0, r0_⟩ := trodAll_cons hA
  obtain ⟨v1, vs1, d1, ds1, p1_, q1_, rfl, rfl, rfl, h1, r1_⟩ := trodAll_cons r0_
  obtain ⟨rfl, rfl, rfl⟩ := trodAll_nil r1_
  obtain rfl : args = #[v0, v1] := by cases args; simp_all
  obtain ⟨rfl, rfl⟩ := trodVars_none hV
  have hlt : ∀ x ∈ (p0_ ++ (p1_ ++ ([]))), x.block < W.heap.size := fun x hx => by simpa using hW'.lt x (by simpa using hx)
  obtain ⟨p0, n0, c0, F0, z0, rfl, e0⟩ := open_hslice Tryd.underlying22 Tryd.underlying33 (by kernel_rfl) Tryd.underlying5 (by kernel_rfl) (hval 0 22 v0 rfl rfl) h0
  obtain ⟨a1, rfl, rfl, rfl, w1⟩ := open_int Tryd.underlying3 (hval 1 3 v1 rfl rfl) h1
  clear hA0 hval0
  refine (walk p0 n0 c0 F0 z0 a1 w1 W e0 (tab_of_laid hL)).mono fun e W' ⟨he, hg⟩ => ?_
  subst he
  exact ⟨_, rfl, ⟨_, _, _, [], _, [], hW', trodAll_cons_mk (shut_bool Tryd.underlying4 _) trodAll_mk0, trodAll_stays laidOut hg (by kernel_rfl) hAk hlt (fun x hx => by simpa using hlt x hx), rfl, Kept.frame hg _, fun h => by cases h⟩⟩

theorem over : Rows.linkRootsRow.holds Tryd.pinned (OpenSpec.ofChange Rows.linkRootsSpec) :=
  OpenClaim.holds_of_wide 3 Tryd.f3 rfl rfl rfl rfl rfl rfl rfl ⟨rfl, rfl, rfl, rfl, rfl⟩ rfl rfl rfl rfl rfl (by kernel_rfl) Tryd.func3 (by kernel_rfl)
    (of_decide_eq_true (by kernel_rfl)) (by unfold Func.isWrapper; first | (rw [if_pos (by decide +kernel)]; kernel_rfl) | (rw [if_neg (by decide +kernel)]; exact ⟨rfl, rfl⟩))
    (fun os started H enc _ => lifted os started H enc)
end Go.Proofs.YtfdjbomofmeolaaDoor.linkRoots
namespace Go.Proofs.YtfdjbomofmeolaaDoor
theorem linkRoots_holds : Rows.LinkRootsSaid := linkRoots.over
theorem linkRoots_card : Rows.LinkRootsCardSaid :=
  Claim7.holds_tied_plain_at .later [] [.data] true (true, "d2ac4cb282a8d19ab587d1f9d57132f56d731b40c2108f70222c128de4a60e05") false
    linkRoots_holds (fun _ h => by cases h) (by kernel_rfl) (fun _ h => by cases h) linkRoots_row_tie rfl ⟨rfl, rfl⟩ (by kernel_rfl) rfl
    (fun f fn hf hfn => by
      obtain rfl : f = 3 := Option.some.inj ((show Tryd.prog.funcNamed "milepost/milepostlaw21.LinkRoots" = some 3 by kernel_rfl).symm.trans hf) |>.symm
      obtain rfl : fn = Tryd.f3 := (Option.some.inj (Tryd.func3.symm.trans hfn)).symm
      refine ⟨by kernel_rfl, fun j t ht => ?_⟩
      have hm : t ∈ Tryd.f3.params.toList := by simpa using Array.mem_of_getElem? ht
      have hall : (Tryd.f3.params.toList.all fun u => !Tryd.prog.wantsStandIn u) = true := by kernel_rfl
      exact (show Tryd.prog.wantsStandIn t = false by simpa using List.all_eq_true.1 hall t hm))
    (by kernel_rfl)
#print axioms linkRoots_card
end Go.Proofs.YtfdjbomofmeolaaDoor
