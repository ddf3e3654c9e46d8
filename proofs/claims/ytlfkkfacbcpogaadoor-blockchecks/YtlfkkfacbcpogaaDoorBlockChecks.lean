/-
  What is wrong first with any block, of any height and vector, is the reference's, and so is whether two blocks are equal; each is equal to itself; chapter 23's example holds: 'BlockChecks' returns true.
  Conditions: those of the given card (sha's table of round constants as the program's text lays it).
-/
import Derived.Test.YtlfkkfacbcpogaaDoorRows
import Derived.Test.YtlfkkfacbcpogaaDoorBlkLaw
import Derived.WalkKit
import Derived.ProofKit
import Derived.OpenShut
import Derived.ShutString
import Derived.SizedLaws
import Derived.Test.YtlfkkfacbcpogaaDoorBas
import Derived.LaidMore
import Derived.SevenTiedAt
import Derived.Test.YtlfkkfacbcpogaaDoorCards
import Derived.Test.YtlfkkfacbcpogaaDoorTie
import Derived.Test.YtlfkkfacbcpogaaDoorShb
namespace Go.Proofs.YtlfkkfacbcpogaaDoor.blockChecks
open Go.ChangeShapes Go.WideShapes Go.ChangeAt Go.RowKit
open Go.ChangeMaps (open_string shut_string)
set_option linter.unusedVariables false

theorem own : ownKnob Tryd.prog.godebug = none := by kernel_rfl
theorem laidOut : laidOutB Tryd.prog = true := by kernel_rfl

set_option maxRecDepth 100000 in
set_option maxHeartbeats 4000000 in
theorem walk (a0 : Hd) (p0 : Option Addr) (n0 c0 : Nat) (S0 : Nat → ByteArray) (b0 : Hd) (q0 : Option Addr) (m0 d0 : Nat) (R0 : Nat → ByteArray) (w0 : a0.ok ∧ b0.ok) (z0 : n0 ≤ c0 ∧ c0 ≤ maxLen) (y0 : m0 ≤ d0 ∧ d0 ≤ maxLen) (r0 : ∀ i, i < n0 → (S0 i).size ≤ 140737488351232) (s0 : ∀ i, i < m0 → (R0 i).size ≤ 140737488351232) (a1 : Int) (w1 : (Lit.int .u32 a1).wf = true) (p2 : Option Addr) (n2 c2 : Nat) (F2 : Nat → List UInt8) (z2 : n2 ≤ c2 ∧ c2 ≤ maxLen) (w : World) (e0 : SAt w p0 n0 S0) (f0 : SAt w q0 m0 R0) (e2 : HAt w p2 n2 F2) (hT : Tab w) :
    Calls Tryd.prog 4 #[.agg (bkC a0 (.slice p0 n0 c0) ++ bkC b0 (.slice q0 m0 d0)), .int .u32 a1, .slice p2 n2 c2] w fun e w' => e = .returned (.bool true) ∧ Kept w w' := by
  have HT := Lib.hid hT
  have HA : Hid (∀ w, Tab w → _) := Lib.hid fun w ht => awake23_any w ht
  obtain ⟨h, rfl, hh⟩ : ∃ h : Nat, a1 = (h : Int) ∧ h < 4294967296 := by
    have := bounds_u32 w1
    exact ⟨a1.toNat, by omega, by omega⟩
  have R3 := Lib.hid (Rowz.new w (bkC a0 (.slice p0 n0 c0) ++ bkC b0 (.slice q0 m0 d0)) 40)
  have K1 := Lib.hid ((Kept.refl w).alloc (.cells (bkC a0 (.slice p0 n0 c0) ++ bkC b0 (.slice q0 m0 d0)) 40))
  have HM1 : Hid (∀ v, Kept w v → Calls Tryd.prog 6 #[.slice p0 n0 c0] v fun e w' => ∃ B : Bool, e = .returned (.bool B) ∧ v = w' ∧ (B = false → (n0 ≤ 60 ∨ (1024 < n0 ∧ n0 ≤ 1050)) ∧ ∀ i, i < n0 → (S0 i).size ≤ 6000)) := Lib.hid fun v k => much22_any p0 n0 c0 S0 v (e0.kept k) r0 (by have := z0; unfold maxLen at this; omega)
  have HM2 : Hid (∀ v, Kept w v → Calls Tryd.prog 6 #[.slice q0 m0 d0] v fun e w' => ∃ B : Bool, e = .returned (.bool B) ∧ v = w' ∧ (B = false → (m0 ≤ 60 ∨ (1024 < m0 ∧ m0 ≤ 1050)) ∧ ∀ i, i < m0 → (R0 i).size ≤ 6000)) := Lib.hid fun v k => much22_any q0 m0 d0 R0 v (f0.kept k) s0 (by have := y0; unfold maxLen at this; omega)
  have X0 := Lib.hid (show SSl n0 S0 (.slice p0 n0 c0) w from ⟨p0, c0, rfl, z0.1, z0.2, e0⟩)
  have X1 := Lib.hid (show SSl m0 R0 (.slice q0 m0 d0) w from ⟨q0, d0, rfl, y0.1, y0.2, f0⟩)
  have X2 := Lib.hid (show HSl n2 F2 (.slice p2 n2 c2) w from ⟨p2, c2, rfl, z2.1, z2.2, e2⟩)
  have W0 := Lib.hid w0
  have Z0 := Lib.hid z0
  have Y0 := Lib.hid y0
  clear e0 f0 e2 hT z0 y0 z2 w0 w1 r0 s0
  go_enter Tryd.func4, Tryd.ntmps4
  go_wp2_with fail
  generalize w.heap.size = g at R3 ⊢
  generalize w.alloc (.cells (bkC a0 (.slice p0 n0 c0) ++ bkC b0 (.slice q0 m0 d0)) 40) = v1 at R3 K1 ⊢
  have KK : Kept v1 v1.drew := Kept.refl v1
  refine wp_region_held_drew (S := fun w' => Kept v1 w') (by kernel_rfl) KK (fun _ => ?_)
  refine takeW 0 9 (.pointer (some ⟨g, 0 * 67, none⟩)) rfl rfl (by kernel_rfl) (by kernel_rfl) (by kernel_rfl) (by rfl) (fun _ _ _ h => h) KK (fun w' hw' => execIndexB2 g 0 (by omega) w' rfl rfl rfl) ?_
  simp only [List.setIfInBounds_toArray, List.set_cons_zero, List.set_cons_succ]
  refine takeW 1 10 (.agg (bkC a0 (.slice p0 n0 c0))) rfl rfl (by kernel_rfl) (by kernel_rfl) (by kernel_rfl) (by rfl) (fun _ _ _ h => h) KK (fun w' hw' => loadBkA rfl rfl (CAt.blk0 (R3.out.kept hw'))) ?_
  simp only [List.setIfInBounds_toArray, List.set_cons_zero, List.set_cons_succ]
  refine takeW 2 11 (.pointer (some ⟨g, 1 * 67, none⟩)) rfl rfl (by kernel_rfl) (by kernel_rfl) (by kernel_rfl) (by rfl) (fun _ _ _ h => h) KK (fun w' hw' => execIndexB2 g 1 (by omega) w' rfl rfl rfl) ?_
  simp only [List.setIfInBounds_toArray, List.set_cons_zero, List.set_cons_succ]
  refine takeW 3 12 (.agg (bkC b0 (.slice q0 m0 d0))) rfl rfl (by kernel_rfl) (by kernel_rfl) (by kernel_rfl) (by rfl) (fun _ _ _ h => h) KK (fun w' hw' => loadBkA rfl rfl (CAt.blk1 (R3.out.kept hw'))) ?_
  simp only [List.setIfInBounds_toArray, List.set_cons_zero, List.set_cons_succ]
  refine wpAnyH_two 4 5 6 7 7 8 rfl rfl rfl rfl rfl rfl (by decide) rfl rfl rfl rfl rfl rfl (by kernel_rfl) (by kernel_rfl) (by kernel_rfl) (by kernel_rfl) (by kernel_rfl) (by kernel_rfl) (by kernel_rfl) (by kernel_rfl) (by kernel_rfl)
    (bkC hdZ (.slice none 0 0)) (bkC hdZ (.slice none 0 0)) (bkC a0 (.slice p0 n0 c0)) (bkC b0 (.slice q0 m0 d0)) 35 35 _ _ _ _ _ _ (allocBkR rfl) (allocBkR rfl) rfl rfl (fun _ _ => rfl) (fun _ _ => rfl) (fun _ _ => rfl) (fun _ _ => rfl)
    (info_blk _ _) (info_blk _ _) (by rw [bkC_size, bkC_size]) (by rw [bkC_size, bkC_size]) (bkC_one _ _ _ _) (bkC_one _ _ _ _) KK (fun g7 g8 v2 n78 b7 b8 k2 q7 q8 => ?_)
  simp only [List.setIfInBounds_toArray, List.set_cons_zero, List.set_cons_succ]
  have R7 := Lib.hid q7
  have R8 := Lib.hid q8
  replace K1 := Lib.hid (K1.out.trans k2)
  clear R3 KK n78 b7 b8 k2 q7 q8
  by_cases hn : 60 < n2
  · have hd1 : decide ((n2 : Int) > 60) = true := decide_eq_true (by omega)
    have hd1' : decide ((60 : Int) < (n2 : Int)) = true := decide_eq_true (by omega)
    clear hn X0 X1 X2 HM1 HM2 W0 R7 R8
    go_wp2_with fail
    refine (HA.out _ (HT.out.kept K1.out)).mono ?_
    rintro e v2 ⟨rfl, k2⟩
    replace K1 := Lib.hid (K1.out.trans k2)
    clear k2
    go_wp2_with fail
    go_ret
    exact ⟨rfl, K1.out⟩
  · have hd1 : decide ((n2 : Int) > 60) = false := decide_eq_false (by omega)
    have hd1' : decide ((60 : Int) < (n2 : Int)) = false := decide_eq_false (by omega)
    have hn60 : n2 ≤ 60 := by omega
    clear hn
    go_wp2_with (first
      | (refine wpList_exec 17 rfl (by rfl) _ _ (execFieldBA ⟨g7, 0, none⟩ ⟨g7, 66, none⟩ 1 66 (.inr ⟨rfl, rfl⟩) rfl _ rfl rfl) ?_; try simp only [List.setIfInBounds_toArray, List.set_cons_succ, List.set_cons_zero])
      | (refine wpList_exec 18 rfl (by rfl) _ _ (loadStrsA rfl rfl ((CAt.ofRow R7.out).bt _ rfl)) ?_; try simp only [List.setIfInBounds_toArray, List.set_cons_succ, List.set_cons_zero]))
    refine (HM1.out _ K1.out).mono ?_
    rintro e _ ⟨B, rfl, rfl, hB⟩
    cases B
    · obtain ⟨hn1, hz1⟩ := hB rfl
      clear hB HM1
      go_wp2_with (first
        | (refine wpList_exec 22 rfl (by rfl) _ _ (execFieldBA ⟨g8, 0, none⟩ ⟨g8, 66, none⟩ 1 66 (.inr ⟨rfl, rfl⟩) rfl _ rfl rfl) ?_; try simp only [List.setIfInBounds_toArray, List.set_cons_succ, List.set_cons_zero])
        | (refine wpList_exec 23 rfl (by rfl) _ _ (loadStrsA rfl rfl ((CAt.ofRow R8.out).bt _ rfl)) ?_; try simp only [List.setIfInBounds_toArray, List.set_cons_succ, List.set_cons_zero]))
      refine (HM2.out _ K1.out).mono ?_
      rintro e _ ⟨B, rfl, rfl, hB⟩
      cases B
      · obtain ⟨hn2, hz2⟩ := hB rfl
        have hz : ∀ i, i < n0 → (S0 i).size ≤ 10000 := fun i hi => Nat.le_trans (hz1 i hi) (by omega)
        have C1 : Hid (∀ w, SSl n0 S0 (.slice p0 n0 c0) w → HSl n2 F2 (.slice p2 n2 c2) w → Tab w → _) := Lib.hid fun w hu hv ht => blockCheck_any a0 n0 S0 (.slice p0 n0 c0) h n2 F2 (.slice p2 n2 c2) w W0.out.1 hu (by omega) hz hh hv (by omega) ht
        have C2 : Hid (∀ w, SSl n0 S0 (.slice p0 n0 c0) w → HSl n2 F2 (.slice p2 n2 c2) w → _) := Lib.hid fun w hu hv => refCheckB22_any a0 n0 S0 (.slice p0 n0 c0) h n2 F2 (.slice p2 n2 c2) w W0.out.1 hu (by omega) hz hv (by omega)
        have C3 : Hid (∀ w, SSl n0 S0 (.slice p0 n0 c0) w → SSl m0 R0 (.slice q0 m0 d0) w → _) := Lib.hid fun w hu ht => blockSame_any a0 b0 n0 m0 S0 R0 (.slice p0 n0 c0) (.slice q0 m0 d0) w W0.out.1 W0.out.2 hu ht
        have C4 : Hid (∀ w, SSl n0 S0 (.slice p0 n0 c0) w → SSl m0 R0 (.slice q0 m0 d0) w → _) := Lib.hid fun w hu ht => refSameB22_any a0 b0 n0 m0 S0 R0 (.slice p0 n0 c0) (.slice q0 m0 d0) w W0.out.1 W0.out.2 hu ht
        have C5 : Hid (∀ w, SSl n0 S0 (.slice p0 n0 c0) w → Calls Tryd.prog 13 #[.agg (bkC a0 (.slice p0 n0 c0)), .agg (bkC a0 (.slice p0 n0 c0))] w fun e w' => e = .returned (.bool true) ∧ Kept w w') := Lib.hid fun w hu => by
          have := blockSame_any a0 a0 n0 n0 S0 S0 (.slice p0 n0 c0) (.slice p0 n0 c0) w W0.out.1 W0.out.1 hu hu
          rwa [eqB_self] at this
        generalize ckB a0 n0 S0 h n2 F2 = E at C1 C2
        generalize eqB a0 b0 n0 m0 S0 R0 = B at C3 C4
        have hEE : (E == E) = true := by simp
        have hBB : (B == B) = true := by simp
        clear hB hn1 hz1 hn2 hz2 hz HM2 W0 hh hn60
        go_wp2_with fail
        refine wp_region_table [(27, .is (.agg (bkC a0 (.slice p0 n0 c0)))), (28, .is (.int .u32 (h : Int))), (29, .is (.slice p2 n2 c2)), (30, .is (.int .i64 E)), (31, .is (.agg (bkC a0 (.slice p0 n0 c0)))), (32, .is (.int .u32 (h : Int))), (33, .is (.slice p2 n2 c2)), (34, .is (.int .i64 E)), (35, .is (.bool true)), (36, .is (.bool true)), (37, .is (.agg (bkC a0 (.slice p0 n0 c0)))), (38, .is (.agg (bkC b0 (.slice q0 m0 d0)))), (39, .is (.bool B)), (40, .is (.agg (bkC a0 (.slice p0 n0 c0)))), (41, .is (.agg (bkC b0 (.slice q0 m0 d0)))), (42, .is (.bool B)), (43, .is (.bool true)), (44, .is (.bool true)), (45, .is (.bool true)), (46, .is (.agg (bkC a0 (.slice p0 n0 c0)))), (47, .is (.agg (bkC a0 (.slice p0 n0 c0)))), (48, .is (.bool true)), (49, .is (.bool true)), (50, .is (.bool true)), (51, .is (.bool true)), (52, .is (.bool true)), (6, .is (.bool true))] (by kernel_rfl) (by kernel_rfl) ?_ ?_
        · refine ⟨fun t w1 hf hk hp => ?_, ?_⟩
          · have h7 : slot t 7 = .pointer (some ⟨g7, 0, none⟩) := hf 7 (by kernel_rfl)
            clear hf hp
            refine stepAt_plain rfl ?_
            exact stepOK_pure (.agg (bkC a0 (.slice p0 n0 c0))) (loadBk rfl h7 (R7.out.kept hk)) rfl
          refine ⟨fun t w1 hf hk hp => ?_, ?_⟩
          · have h1 : slot t 1 = .int .u32 (h : Int) := hf 1 (by kernel_rfl)
            clear hf hp
            refine stepAt_plain rfl ?_
            exact stepOK_move _ (.inl rfl) h1
          refine ⟨fun t w1 hf hk hp => ?_, ?_⟩
          · have h2 : slot t 2 = .slice p2 n2 c2 := hf 2 (by kernel_rfl)
            clear hf hp
            refine stepAt_plain rfl ?_
            exact stepOK_move _ (.inl rfl) h2
          refine ⟨fun t w1 hf hk hp => ?_, ?_⟩
          · have h27 : slot t 27 = .agg (bkC a0 (.slice p0 n0 c0)) := hp 27 (by kernel_rfl)
            have h28 : slot t 28 = .int .u32 (h : Int) := hp 28 (by kernel_rfl)
            have h29 : slot t 29 = .slice p2 n2 c2 := hp 29 (by kernel_rfl)
            clear hf hp
            refine stepAt_plain rfl ?_
            refine stepOK_call #[.agg (bkC a0 (.slice p0 n0 c0)), .int .u32 (h : Int), .slice p2 n2 c2] rfl (by simp only [List.map_toArray, List.map_cons, List.map_nil, evS, h27, h28, h29]) (by go_simp) ((C1.out w1 (SSl.kept _ _ _ _ _ (K1.out.trans hk) X0.out) (HSl.kept _ _ _ _ _ (K1.out.trans hk) X2.out) (HT.out.kept (K1.out.trans hk))).mono fun e w' ⟨he, hk'⟩ => ⟨_, he, hk', rfl⟩)
          refine ⟨fun t w1 hf hk hp => ?_, ?_⟩
          · have h7 : slot t 7 = .pointer (some ⟨g7, 0, none⟩) := hf 7 (by kernel_rfl)
            clear hf hp
            refine stepAt_plain rfl ?_
            exact stepOK_pure (.agg (bkC a0 (.slice p0 n0 c0))) (loadBk rfl h7 (R7.out.kept hk)) rfl
          refine ⟨fun t w1 hf hk hp => ?_, ?_⟩
          · have h1 : slot t 1 = .int .u32 (h : Int) := hf 1 (by kernel_rfl)
            clear hf hp
            refine stepAt_plain rfl ?_
            exact stepOK_move _ (.inl rfl) h1
          refine ⟨fun t w1 hf hk hp => ?_, ?_⟩
          · have h2 : slot t 2 = .slice p2 n2 c2 := hf 2 (by kernel_rfl)
            clear hf hp
            refine stepAt_plain rfl ?_
            exact stepOK_move _ (.inl rfl) h2
          refine ⟨fun t w1 hf hk hp => ?_, ?_⟩
          · have h31 : slot t 31 = .agg (bkC a0 (.slice p0 n0 c0)) := hp 31 (by kernel_rfl)
            have h32 : slot t 32 = .int .u32 (h : Int) := hp 32 (by kernel_rfl)
            have h33 : slot t 33 = .slice p2 n2 c2 := hp 33 (by kernel_rfl)
            clear hf hp
            refine stepAt_plain rfl ?_
            refine stepOK_call #[.agg (bkC a0 (.slice p0 n0 c0)), .int .u32 (h : Int), .slice p2 n2 c2] rfl (by simp only [List.map_toArray, List.map_cons, List.map_nil, evS, h31, h32, h33]) (by go_simp) ((C2.out w1 (SSl.kept _ _ _ _ _ (K1.out.trans hk) X0.out) (HSl.kept _ _ _ _ _ (K1.out.trans hk) X2.out)).mono fun e w' ⟨he, hk'⟩ => ⟨_, he, hk', rfl⟩)
          refine ⟨fun t w1 hf hk hp => ?_, ?_⟩
          · have h30 : slot t 30 = .int .i64 E := hp 30 (by kernel_rfl)
            have h34 : slot t 34 = .int .i64 E := hp 34 (by kernel_rfl)
            clear hf hp
            refine stepAt_plain rfl ?_
            have hq0 := hEE
            refine stepOK_pure (.bool true) ?_ rfl
            simp only [execOp, evS, h30, h34]
            go_simp
          refine ⟨fun t w1 hf hk hp => ?_, ?_⟩
          · have h35 : slot t 35 = .bool true := hp 35 (by kernel_rfl)
            clear hf hp
            refine stepAt_plain rfl ?_
            exact stepOK_move _ (.inl rfl) h35
          refine ⟨fun t w1 hf hk hp => ?_, ?_⟩
          · have h7 : slot t 7 = .pointer (some ⟨g7, 0, none⟩) := hf 7 (by kernel_rfl)
            have h36 : slot t 36 = .bool true := hp 36 (by kernel_rfl)
            clear hf hp
            refine stepAt_on 36 true (by kernel_rfl) h36 ?_
            exact stepOK_pure (.agg (bkC a0 (.slice p0 n0 c0))) (loadBk rfl h7 (R7.out.kept hk)) rfl
          refine ⟨fun t w1 hf hk hp => ?_, ?_⟩
          · have h8 : slot t 8 = .pointer (some ⟨g8, 0, none⟩) := hf 8 (by kernel_rfl)
            have h36 : slot t 36 = .bool true := hp 36 (by kernel_rfl)
            clear hf hp
            refine stepAt_on 36 true (by kernel_rfl) h36 ?_
            exact stepOK_pure (.agg (bkC b0 (.slice q0 m0 d0))) (loadBk rfl h8 (R8.out.kept hk)) rfl
          refine ⟨fun t w1 hf hk hp => ?_, ?_⟩
          · have h37 : slot t 37 = .agg (bkC a0 (.slice p0 n0 c0)) := hp 37 (by kernel_rfl)
            have h38 : slot t 38 = .agg (bkC b0 (.slice q0 m0 d0)) := hp 38 (by kernel_rfl)
            have h36 : slot t 36 = .bool true := hp 36 (by kernel_rfl)
            clear hf hp
            refine stepAt_on 36 true (by kernel_rfl) h36 ?_
            refine stepOK_call #[.agg (bkC a0 (.slice p0 n0 c0)), .agg (bkC b0 (.slice q0 m0 d0))] rfl (by simp only [List.map_toArray, List.map_cons, List.map_nil, evS, h37, h38]) (by go_simp) ((C3.out w1 (SSl.kept _ _ _ _ _ (K1.out.trans hk) X0.out) (SSl.kept _ _ _ _ _ (K1.out.trans hk) X1.out)).mono fun e w' ⟨he, hk'⟩ => ⟨_, he, hk', rfl⟩)
          refine ⟨fun t w1 hf hk hp => ?_, ?_⟩
          · have h7 : slot t 7 = .pointer (some ⟨g7, 0, none⟩) := hf 7 (by kernel_rfl)
            have h36 : slot t 36 = .bool true := hp 36 (by kernel_rfl)
            clear hf hp
            refine stepAt_on 36 true (by kernel_rfl) h36 ?_
            exact stepOK_pure (.agg (bkC a0 (.slice p0 n0 c0))) (loadBk rfl h7 (R7.out.kept hk)) rfl
          refine ⟨fun t w1 hf hk hp => ?_, ?_⟩
          · have h8 : slot t 8 = .pointer (some ⟨g8, 0, none⟩) := hf 8 (by kernel_rfl)
            have h36 : slot t 36 = .bool true := hp 36 (by kernel_rfl)
            clear hf hp
            refine stepAt_on 36 true (by kernel_rfl) h36 ?_
            exact stepOK_pure (.agg (bkC b0 (.slice q0 m0 d0))) (loadBk rfl h8 (R8.out.kept hk)) rfl
          refine ⟨fun t w1 hf hk hp => ?_, ?_⟩
          · have h40 : slot t 40 = .agg (bkC a0 (.slice p0 n0 c0)) := hp 40 (by kernel_rfl)
            have h41 : slot t 41 = .agg (bkC b0 (.slice q0 m0 d0)) := hp 41 (by kernel_rfl)
            have h36 : slot t 36 = .bool true := hp 36 (by kernel_rfl)
            clear hf hp
            refine stepAt_on 36 true (by kernel_rfl) h36 ?_
            refine stepOK_call #[.agg (bkC a0 (.slice p0 n0 c0)), .agg (bkC b0 (.slice q0 m0 d0))] rfl (by simp only [List.map_toArray, List.map_cons, List.map_nil, evS, h40, h41]) (by go_simp) ((C4.out w1 (SSl.kept _ _ _ _ _ (K1.out.trans hk) X0.out) (SSl.kept _ _ _ _ _ (K1.out.trans hk) X1.out)).mono fun e w' ⟨he, hk'⟩ => ⟨_, he, hk', rfl⟩)
          refine ⟨fun t w1 hf hk hp => ?_, ?_⟩
          · have h39 : slot t 39 = .bool B := hp 39 (by kernel_rfl)
            have h42 : slot t 42 = .bool B := hp 42 (by kernel_rfl)
            have h36 : slot t 36 = .bool true := hp 36 (by kernel_rfl)
            clear hf hp
            refine stepAt_on 36 true (by kernel_rfl) h36 ?_
            have hq0 := hBB
            refine stepOK_pure (.bool true) ?_ rfl
            simp only [execOp, evS, h39, h42]
            go_simp
          refine ⟨fun t w1 hf hk hp => ?_, ?_⟩
          · have h36 : slot t 36 = .bool true := hp 36 (by kernel_rfl)
            have h43 : slot t 43 = .bool true := hp 43 (by kernel_rfl)
            clear hf hp
            refine stepAt_plain rfl ?_
            refine stepOK_pure (.bool true) ?_ rfl
            simp only [execOp, evS, h36, h43]
            go_simp
          refine ⟨fun t w1 hf hk hp => ?_, ?_⟩
          · have h44 : slot t 44 = .bool true := hp 44 (by kernel_rfl)
            clear hf hp
            refine stepAt_plain rfl ?_
            exact stepOK_move _ (.inl rfl) h44
          refine ⟨fun t w1 hf hk hp => ?_, ?_⟩
          · have h7 : slot t 7 = .pointer (some ⟨g7, 0, none⟩) := hf 7 (by kernel_rfl)
            have h45 : slot t 45 = .bool true := hp 45 (by kernel_rfl)
            clear hf hp
            refine stepAt_on 45 true (by kernel_rfl) h45 ?_
            exact stepOK_pure (.agg (bkC a0 (.slice p0 n0 c0))) (loadBk rfl h7 (R7.out.kept hk)) rfl
          refine ⟨fun t w1 hf hk hp => ?_, ?_⟩
          · have h7 : slot t 7 = .pointer (some ⟨g7, 0, none⟩) := hf 7 (by kernel_rfl)
            have h45 : slot t 45 = .bool true := hp 45 (by kernel_rfl)
            clear hf hp
            refine stepAt_on 45 true (by kernel_rfl) h45 ?_
            exact stepOK_pure (.agg (bkC a0 (.slice p0 n0 c0))) (loadBk rfl h7 (R7.out.kept hk)) rfl
          refine ⟨fun t w1 hf hk hp => ?_, ?_⟩
          · have h46 : slot t 46 = .agg (bkC a0 (.slice p0 n0 c0)) := hp 46 (by kernel_rfl)
            have h47 : slot t 47 = .agg (bkC a0 (.slice p0 n0 c0)) := hp 47 (by kernel_rfl)
            have h45 : slot t 45 = .bool true := hp 45 (by kernel_rfl)
            clear hf hp
            refine stepAt_on 45 true (by kernel_rfl) h45 ?_
            refine stepOK_call #[.agg (bkC a0 (.slice p0 n0 c0)), .agg (bkC a0 (.slice p0 n0 c0))] rfl (by simp only [List.map_toArray, List.map_cons, List.map_nil, evS, h46, h47]) (by go_simp) ((C5.out w1 (SSl.kept _ _ _ _ _ (K1.out.trans hk) X0.out)).mono fun e w' ⟨he, hk'⟩ => ⟨_, he, hk', rfl⟩)
          refine ⟨fun t w1 hf hk hp => ?_, ?_⟩
          · have h45 : slot t 45 = .bool true := hp 45 (by kernel_rfl)
            have h48 : slot t 48 = .bool true := hp 48 (by kernel_rfl)
            clear hf hp
            refine stepAt_plain rfl ?_
            refine stepOK_pure (.bool true) ?_ rfl
            simp only [execOp, evS, h45, h48]
            go_simp
          refine ⟨fun t w1 hf hk hp => ?_, ?_⟩
          · have h49 : slot t 49 = .bool true := hp 49 (by kernel_rfl)
            clear hf hp
            refine stepAt_plain rfl ?_
            exact stepOK_move _ (.inl rfl) h49
          refine ⟨fun t w1 hf hk hp => ?_, ?_⟩
          · have h50 : slot t 50 = .bool true := hp 50 (by kernel_rfl)
            clear hf hp
            refine stepAt_on 50 true (by kernel_rfl) h50 ?_
            refine stepOK_call #[] rfl (by simp only [List.map_toArray, List.map_nil]) (by go_simp) ((HA.out w1 (HT.out.kept (K1.out.trans hk))).mono fun e w' ⟨he, hk'⟩ => ⟨_, he, hk', rfl⟩)
          refine ⟨fun t w1 hf hk hp => ?_, ?_⟩
          · have h50 : slot t 50 = .bool true := hp 50 (by kernel_rfl)
            have h51 : slot t 51 = .bool true := hp 51 (by kernel_rfl)
            clear hf hp
            refine stepAt_plain rfl ?_
            refine stepOK_pure (.bool true) ?_ rfl
            simp only [execOp, evS, h50, h51]
            go_simp
          refine ⟨fun t w1 hf hk hp => ?_, ?_⟩
          · have h52 : slot t 52 = .bool true := hp 52 (by kernel_rfl)
            clear hf hp
            refine stepAt_plain rfl ?_
            exact stepOK_move _ (.inr rfl) h52
          exact trivial
        · intro t w1 hsz hf hk hfacts
          have h6 : slot t 6 = .bool true := hfacts 26 _ rfl 6 rfl
          have h1 : slot t 1 = .int .u32 (h : Int) := hf 1 (by kernel_rfl)
          have h2 : slot t 2 = .slice p2 n2 c2 := hf 2 (by kernel_rfl)
          have h7 : slot t 7 = .pointer (some ⟨g7, 0, none⟩) := hf 7 (by kernel_rfl)
          have h8 : slot t 8 = .pointer (some ⟨g8, 0, none⟩) := hf 8 (by kernel_rfl)
          have harr : t = #[slot t 0, slot t 1, slot t 2, slot t 3, slot t 4, slot t 5, slot t 6, slot t 7, slot t 8, slot t 9, slot t 10, slot t 11, slot t 12, slot t 13, slot t 14, slot t 15, slot t 16, slot t 17, slot t 18, slot t 19, slot t 20, slot t 21, slot t 22, slot t 23, slot t 24, slot t 25, slot t 26, slot t 27, slot t 28, slot t 29, slot t 30, slot t 31, slot t 32, slot t 33, slot t 34, slot t 35, slot t 36, slot t 37, slot t 38, slot t 39, slot t 40, slot t 41, slot t 42, slot t 43, slot t 44, slot t 45, slot t 46, slot t 47, slot t 48, slot t 49, slot t 50, slot t 51, slot t 52] := arr_eq t 53 hsz
          rw [harr, h6, h1, h2, h7, h8]
          clear harr hfacts hf h6 h1 h2 h7 h8
          generalize slot t 0 = x0; generalize slot t 3 = x3; generalize slot t 4 = x4; generalize slot t 5 = x5; generalize slot t 9 = x9; generalize slot t 10 = x10; generalize slot t 11 = x11; generalize slot t 12 = x12; generalize slot t 13 = x13; generalize slot t 14 = x14; generalize slot t 15 = x15; generalize slot t 16 = x16
          generalize slot t 17 = x17; generalize slot t 18 = x18; generalize slot t 19 = x19; generalize slot t 20 = x20; generalize slot t 21 = x21; generalize slot t 22 = x22; generalize slot t 23 = x23; generalize slot t 24 = x24; generalize slot t 25 = x25; generalize slot t 26 = x26; generalize slot t 27 = x27; generalize slot t 28 = x28
          generalize slot t 29 = x29; generalize slot t 30 = x30; generalize slot t 31 = x31; generalize slot t 32 = x32; generalize slot t 33 = x33; generalize slot t 34 = x34; generalize slot t 35 = x35; generalize slot t 36 = x36; generalize slot t 37 = x37; generalize slot t 38 = x38; generalize slot t 39 = x39; generalize slot t 40 = x40
          generalize slot t 41 = x41; generalize slot t 42 = x42; generalize slot t 43 = x43; generalize slot t 44 = x44; generalize slot t 45 = x45; generalize slot t 46 = x46; generalize slot t 47 = x47; generalize slot t 48 = x48; generalize slot t 49 = x49; generalize slot t 50 = x50; generalize slot t 51 = x51; generalize slot t 52 = x52
          clear hsz t
          replace K1 := Lib.hid (K1.out.trans hk)
          clear hk
          go_wp2_with fail
          go_ret
          exact ⟨rfl, K1.out⟩
      · clear hB HM2 X0 X1 X2 R7 R8
        go_wp2_with fail
        refine (HA.out _ (HT.out.kept K1.out)).mono ?_
        rintro e v3 ⟨rfl, k3⟩
        replace K1 := Lib.hid (K1.out.trans k3)
        clear k3
        go_wp2_with fail
        go_ret
        exact ⟨rfl, K1.out⟩
    · clear hB HM1 HM2 X0 X1 X2 R7 R8
      go_wp2_with fail
      refine (HA.out _ (HT.out.kept K1.out)).mono ?_
      rintro e v3 ⟨rfl, k3⟩
      replace K1 := Lib.hid (K1.out.trans k3)
      clear k3
      go_wp2_with fail
      go_ret
      exact ⟨rfl, K1.out⟩

set_option maxRecDepth 100000 in
set_option maxHeartbeats 1000000 in
theorem lifted (os : Os) (started : os.Started) (H : Type) (enc : TypeId × Value → H) :
    ReturnsInHanded {} Tryd.checked os 4 .any (fun w args => (Rows.blockChecksSpec.pre enc Tryd.prog Tryd.f4 [] false w args ∧ laidMetH Tryd.prog Rows.blockChecksRow.laid w) ∧ sizedMet enc Tryd.prog Tryd.f4 (OpenSpec.ofChange Rows.blockChecksSpec) false w args)
      (Rows.blockChecksSpec.post enc Tryd.prog Tryd.f4 false true false false) := by
  refine returnsInHanded_of_change_and (C := Tryd.checked) (X := fun w _ => laidMetH Tryd.prog Rows.blockChecksRow.laid w) (fun _ _ _ hh h => h.of_heap hh) own started (by kernel_rfl) Tryd.func4
    (ChangeSpec.witness_shaped (enc := enc) (C := Tryd.checked) (os := os) (X := fun w _ => laidMetH Tryd.prog Rows.blockChecksRow.laid w) false (World.doorLaid Tryd.prog 400 os) #[.agg #[.int .u32 0, .int .u8 0, .int .u8 0, .int .u8 0, .int .u8 0, .int .u8 0, .int .u8 0, .int .u8 0, .int .u8 0, .int .u8 0, .int .u8 0, .int .u8 0, .int .u8 0, .int .u8 0, .int .u8 0, .int .u8 0, .int .u8 0, .int .u8 0, .int .u8 0, .int .u8 0, .int .u8 0, .int .u8 0, .int .u8 0, .int .u8 0, .int .u8 0, .int .u8 0, .int .u8 0, .int .u8 0, .int .u8 0, .int .u8 0, .int .u8 0, .int .u8 0, .int .u8 0, .int .u8 0, .int .u8 0, .int .u8 0, .int .u8 0, .int .u8 0, .int .u8 0, .int .u8 0, .int .u8 0, .int .u8 0, .int .u8 0, .int .u8 0, .int .u8 0, .int .u8 0, .int .u8 0, .int .u8 0, .int .u8 0, .int .u8 0, .int .u8 0, .int .u8 0, .int .u8 0, .int .u8 0, .int .u8 0, .int .u8 0, .int .u8 0, .int .u8 0, .int .u8 0, .int .u8 0, .int .u8 0, .int .u8 0, .int .u8 0, .int .u8 0, .int .u8 0, .int .u64 0, .slice none 0 0, .int .u32 0, .int .u8 0, .int .u8 0, .int .u8 0, .int .u8 0, .int .u8 0, .int .u8 0, .int .u8 0, .int .u8 0, .int .u8 0, .int .u8 0, .int .u8 0, .int .u8 0, .int .u8 0, .int .u8 0, .int .u8 0, .int .u8 0, .int .u8 0, .int .u8 0, .int .u8 0, .int .u8 0, .int .u8 0, .int .u8 0, .int .u8 0, .int .u8 0, .int .u8 0, .int .u8 0, .int .u8 0, .int .u8 0, .int .u8 0, .int .u8 0, .int .u8 0, .int .u8 0, .int .u8 0, .int .u8 0, .int .u8 0, .int .u8 0, .int .u8 0, .int .u8 0, .int .u8 0, .int .u8 0, .int .u8 0, .int .u8 0, .int .u8 0, .int .u8 0, .int .u8 0, .int .u8 0, .int .u8 0, .int .u8 0, .int .u8 0, .int .u8 0, .int .u8 0, .int .u8 0, .int .u8 0, .int .u8 0, .int .u8 0, .int .u8 0, .int .u8 0, .int .u8 0, .int .u8 0, .int .u8 0, .int .u8 0, .int .u8 0, .int .u8 0, .int .u8 0, .int .u64 0, .slice none 0 0], .int .u32 0, .slice none 0 0] 8 rfl (World.shaped_of_RefB (by kernel_rfl) (by kernel_rfl)) (by kernel_rfl) (by kernel_rfl) (by kernel_rfl) (door_met os _)) ?_
  intro W base args ds gs before hval0 hW _ hsz0 hL _
  have hval : ∀ (j : Nat) t v, Tryd.f4.params[j]? = some t → args[j]? = some v → Value.okWide Tryd.prog W .any base t v := hval0
  have hsz : (DataW.weightsEach Tryd.prog (Tryd.f4.params.toList ++ Rows.blockChecksSpec.plain.varTypes Tryd.prog) (ds ++ gs)).all (· ≤ reachBytes) = true := hsz0
  have hW' := hW
  obtain ⟨p, q, hA0, hV, rfl, hfz, hnd⟩ := hW
  have hA : DataW.TrodAll enc Tryd.prog W 0 (fun _ => true) true Tryd.f4.params.toList args.toList ds p := hA0
  have hAk := hA
  rw [Tryd.params4] at hA hval hsz
  obtain ⟨v0, vs0, d0, ds0, p0_, q0_, hargs, rfl, rfl, h0, r0_⟩ := trodAll_cons hA
  obtain ⟨v1, vs1, d1, ds1, p1_, q1_, rfl, rfl, rfl, h1, r1_⟩ := trodAll_cons r0_
  obtain ⟨v2, vs2, d2, ds2, p2_, q2_, rfl, rfl, rfl, h2, r2_⟩ := trodAll_cons r1_
  obtain ⟨rfl, rfl, rfl⟩ := trodAll_nil r2_
  obtain rfl : args = #[v0, v1, v2] := by cases args; simp_all
  obtain ⟨rfl, rfl⟩ := trodVars_none hV
  have hlt : ∀ x ∈ (p0_ ++ (p1_ ++ (p2_ ++ ([])))), x.block < W.heap.size := fun x hx => by simpa using hW'.lt x (by simpa using hx)
  obtain ⟨cs0, rfl⟩ : ∃ cs, v0 = .agg cs := by
    have := hval 0 40 v0 rfl rfl
    simp only [Value.okWide, Tryd.underlying40] at this
    obtain ⟨cs, h, _⟩ := this
    exact ⟨cs, h⟩
  obtain ⟨a0, p0, n0, c0, S0, b0, q0, m0, dd0, R0, w0, z0, y0, rfl, r0, s0, e0, f0⟩ := open_blk2 h0 (Fit.ofArg hsz (J := 0) rfl rfl)
  obtain ⟨a1, rfl, rfl, rfl, w1⟩ := open_int Tryd.underlying22 (hval 1 22 v1 rfl rfl) h1
  obtain ⟨p2, n2, c2, F2, z2, rfl, e2⟩ := open_hslice Tryd.underlying23 Tryd.underlying31 (by kernel_rfl) Tryd.underlying5 (by kernel_rfl) (hval 2 23 v2 rfl rfl) h2
  clear hA0 hval0
  refine (walk a0 p0 n0 c0 S0 b0 q0 m0 dd0 R0 w0 z0 y0 r0 s0 a1 w1 p2 n2 c2 F2 z2 W e0 f0 e2 (tab_of_laid hL)).mono fun e W' ⟨he, hg⟩ => ?_
  subst he
  exact ⟨_, rfl, ⟨_, _, _, [], _, [], hW', trodAll_cons_mk (shut_bool Tryd.underlying4 _) trodAll_mk0, trodAll_stays laidOut hg (by kernel_rfl) hAk hlt (fun x hx => by simpa using hlt x hx), rfl, Kept.frame hg _, fun h => by cases h⟩⟩

theorem over : Rows.blockChecksRow.holds Tryd.pinned (OpenSpec.ofChange Rows.blockChecksSpec) :=
  OpenClaim.holds_of_wide 4 Tryd.f4 rfl rfl rfl rfl rfl rfl rfl ⟨rfl, rfl, rfl, rfl, rfl⟩ rfl rfl rfl rfl rfl (by kernel_rfl) Tryd.func4 (by kernel_rfl)
    (of_decide_eq_true (by kernel_rfl)) (by unfold Func.isWrapper; first | (rw [if_pos (by decide +kernel)]; kernel_rfl) | (rw [if_neg (by decide +kernel)]; exact ⟨rfl, rfl⟩))
    (fun os started H enc _ => lifted os started H enc)
end Go.Proofs.YtlfkkfacbcpogaaDoor.blockChecks
namespace Go.Proofs.YtlfkkfacbcpogaaDoor
theorem blockChecks_holds : Rows.BlockChecksSaid := blockChecks.over
theorem blockChecks_card : Rows.BlockChecksCardSaid :=
  Claim7.holds_tied_plain_at .later [] [.data] true (true, "3ed5a905e7e9934bda8124e3251505957a3fa2d0cb568af786e0aacafbf8dcb2") false
    blockChecks_holds (fun _ h => by cases h) (by kernel_rfl) (fun _ h => by cases h) blockChecks_row_tie rfl ⟨rfl, rfl⟩ (by kernel_rfl) rfl
    (fun f fn hf hfn => by
      obtain rfl : f = 4 := Option.some.inj ((show Tryd.prog.funcNamed "milepost/milepostlaw23.BlockChecks" = some 4 by kernel_rfl).symm.trans hf) |>.symm
      obtain rfl : fn = Tryd.f4 := (Option.some.inj (Tryd.func4.symm.trans hfn)).symm
      refine ⟨by kernel_rfl, fun j t ht => ?_⟩
      have hm : t ∈ Tryd.f4.params.toList := by simpa using Array.mem_of_getElem? ht
      have hall : (Tryd.f4.params.toList.all fun u => !Tryd.prog.wantsStandIn u) = true := by kernel_rfl
      exact (show Tryd.prog.wantsStandIn t = false by simpa using List.all_eq_true.1 hall t hm))
    (by kernel_rfl)
#print axioms blockChecks_card
end Go.Proofs.YtlfkkfacbcpogaaDoor
