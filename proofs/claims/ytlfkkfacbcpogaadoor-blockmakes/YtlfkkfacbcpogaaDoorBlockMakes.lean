/-
  A block that is made has the reference's header, and its transactions, for every height, vector, list of transactions and nonce; chapter 23's example holds: 'BlockMakes' returns true.
  Conditions: those of the given card (sha's table of round constants as the program's text lays it).
-/
import Derived.Test.YtlfkkfacbcpogaaDoorRows
import Derived.Test.YtlfkkfacbcpogaaDoorBlkLaw
import Derived.WalkKit
import Derived.ProofKit
import Derived.OpenShut
import Derived.ShutString
import Derived.SizedLaws
import Derived.Test.YtlfkkfacbcpogaaDoorBas
import Derived.LaidMore
import Derived.SevenTiedAt
import Derived.Test.YtlfkkfacbcpogaaDoorCards
import Derived.Test.YtlfkkfacbcpogaaDoorTie
import Derived.Test.YtlfkkfacbcpogaaDoorShb
namespace Go.Proofs.YtlfkkfacbcpogaaDoor.blockMakes
open Go.ChangeShapes Go.WideShapes Go.ChangeAt Go.RowKit
open Go.ChangeMaps (open_string shut_string)
set_option linter.unusedVariables false

theorem own : ownKnob Tryd.prog.godebug = none := by kernel_rfl
theorem laidOut : laidOutB Tryd.prog = true := by kernel_rfl

set_option maxRecDepth 100000 in
set_option maxHeartbeats 4000000 in
theorem walk (a0 b0 : Nat) (p0 : Option Addr) (n0 c0 : Nat) (F0 : Nat → List UInt8) (q0 : Option Addr) (m0 d0 : Nat) (S0 : Nat → ByteArray) (w0 : a0 < 4294967296 ∧ b0 < 18446744073709551616) (z0 : n0 ≤ c0 ∧ c0 ≤ maxLen) (y0 : m0 ≤ d0 ∧ d0 ≤ maxLen) (r0 : ∀ i, i < m0 → (S0 i).size ≤ 140737488351232) (w : World) (e0 : HAt w p0 n0 F0) (f0 : SAt w q0 m0 S0) (hT : Tab w) :
    Calls Tryd.prog 3 #[.agg #[.int .u32 (a0 : Int), .slice p0 n0 c0, .slice q0 m0 d0, .int .u64 (b0 : Int)]] w fun e w' => e = .returned (.bool true) ∧ Kept w w' := by
  have HT := Lib.hid hT
  have HA : Hid (∀ w, Tab w → _) := Lib.hid fun w ht => awake23_any w ht
  have hM := much22_any q0 m0 d0 S0 w f0 r0 (by have := y0; unfold maxLen at this; omega)
  have R1 := Lib.hid (Rowz.new w #[.int .u32 (a0 : Int), .slice p0 n0 c0, .slice q0 m0 d0, .int .u64 (b0 : Int)] 27)
  have K1 := Lib.hid ((Kept.refl w).alloc (.cells #[.int .u32 (a0 : Int), .slice p0 n0 c0, .slice q0 m0 d0, .int .u64 (b0 : Int)] 27))
  have HMw : Hid (∀ v, Kept w v → Calls Tryd.prog 6 #[.slice q0 m0 d0] v fun e w' => ∃ B : Bool, e = .returned (.bool B) ∧ v = w' ∧ (B = false → (m0 ≤ 60 ∨ (1024 < m0 ∧ m0 ≤ 1050)) ∧ ∀ i, i < m0 → (S0 i).size ≤ 6000)) := Lib.hid fun v k => much22_any q0 m0 d0 S0 v (f0.kept k) r0 (by have := y0; unfold maxLen at this; omega)
  have X1 := Lib.hid (show HSl n0 F0 (.slice p0 n0 c0) w from ⟨p0, c0, rfl, z0.1, z0.2, e0⟩)
  have X2 := Lib.hid (show SSl m0 S0 (.slice q0 m0 d0) w from ⟨q0, d0, rfl, y0.1, y0.2, f0⟩)
  have w0a := w0
  clear e0 f0 hM hT z0 y0 w0 r0
  go_enter Tryd.func3, Tryd.ntmps3
  go_wp2_with fail
  generalize w.heap.size = g at R1 ⊢
  generalize w.alloc (.cells #[.int .u32 (a0 : Int), .slice p0 n0 c0, .slice q0 m0 d0, .int .u64 (b0 : Int)] 27) = v1 at R1 K1 ⊢
  refine wp_region_table [(8, .is (.pointer (some ⟨g, 0, none⟩))), (9, .is (.int .u32 (a0 : Int))), (10, .is (.pointer (some ⟨g, 1, none⟩))), (11, .is (.slice p0 n0 c0)), (12, .is (.pointer (some ⟨g, 2, none⟩))), (13, .is (.slice q0 m0 d0)), (14, .is (.pointer (some ⟨g, 3, none⟩))), (15, .is (.int .u64 (b0 : Int))), (3, .is (.int .u32 (a0 : Int))), (4, .is (.slice p0 n0 c0)), (5, .is (.slice q0 m0 d0)), (6, .is (.int .u64 (b0 : Int)))] (by kernel_rfl) (by kernel_rfl) ?_ ?_
  · refine ⟨fun t w1 hf hk hp => ?_, ?_⟩
    · have h1 : slot t 1 = .pointer (some ⟨g, 0, none⟩) := hf 1 (by kernel_rfl)
      clear hf hp
      refine stepAt_plain rfl ?_
      exact stepOK_pure (.pointer (some ⟨g, 0, none⟩)) (execFieldOf g 0 (by omega) w1 rfl h1) rfl
    refine ⟨fun t w1 hf hk hp => ?_, ?_⟩
    · have h8 : slot t 8 = .pointer (some ⟨g, 0, none⟩) := hp 8 (by kernel_rfl)
      clear hf hp
      refine stepAt_plain rfl ?_
      exact stepOK_pure (.int .u32 (a0 : Int)) (loadU32A rfl h8 ((R1.out.kept hk).cell 0)) rfl
    refine ⟨fun t w1 hf hk hp => ?_, ?_⟩
    · have h1 : slot t 1 = .pointer (some ⟨g, 0, none⟩) := hf 1 (by kernel_rfl)
      clear hf hp
      refine stepAt_plain rfl ?_
      exact stepOK_pure (.pointer (some ⟨g, 1, none⟩)) (execFieldOf g 1 (by omega) w1 rfl h1) rfl
    refine ⟨fun t w1 hf hk hp => ?_, ?_⟩
    · have h10 : slot t 10 = .pointer (some ⟨g, 1, none⟩) := hp 10 (by kernel_rfl)
      clear hf hp
      refine stepAt_plain rfl ?_
      exact stepOK_pure (.slice p0 n0 c0) (loadHashesA rfl h10 ((R1.out.kept hk).cell 1)) rfl
    refine ⟨fun t w1 hf hk hp => ?_, ?_⟩
    · have h1 : slot t 1 = .pointer (some ⟨g, 0, none⟩) := hf 1 (by kernel_rfl)
      clear hf hp
      refine stepAt_plain rfl ?_
      exact stepOK_pure (.pointer (some ⟨g, 2, none⟩)) (execFieldOf g 2 (by omega) w1 rfl h1) rfl
    refine ⟨fun t w1 hf hk hp => ?_, ?_⟩
    · have h12 : slot t 12 = .pointer (some ⟨g, 2, none⟩) := hp 12 (by kernel_rfl)
      clear hf hp
      refine stepAt_plain rfl ?_
      exact stepOK_pure (.slice q0 m0 d0) (loadStrsA rfl h12 ((R1.out.kept hk).cell 2)) rfl
    refine ⟨fun t w1 hf hk hp => ?_, ?_⟩
    · have h1 : slot t 1 = .pointer (some ⟨g, 0, none⟩) := hf 1 (by kernel_rfl)
      clear hf hp
      refine stepAt_plain rfl ?_
      exact stepOK_pure (.pointer (some ⟨g, 3, none⟩)) (execFieldOf g 3 (by omega) w1 rfl h1) rfl
    refine ⟨fun t w1 hf hk hp => ?_, ?_⟩
    · have h14 : slot t 14 = .pointer (some ⟨g, 3, none⟩) := hp 14 (by kernel_rfl)
      clear hf hp
      refine stepAt_plain rfl ?_
      exact stepOK_pure (.int .u64 (b0 : Int)) (loadU64A rfl h14 ((R1.out.kept hk).cell 3)) rfl
    refine ⟨fun t w1 hf hk hp => ?_, ?_⟩
    · have h9 : slot t 9 = .int .u32 (a0 : Int) := hp 9 (by kernel_rfl)
      clear hf hp
      refine stepAt_plain rfl ?_
      exact stepOK_move _ (.inr rfl) h9
    refine ⟨fun t w1 hf hk hp => ?_, ?_⟩
    · have h11 : slot t 11 = .slice p0 n0 c0 := hp 11 (by kernel_rfl)
      clear hf hp
      refine stepAt_plain rfl ?_
      exact stepOK_move _ (.inr rfl) h11
    refine ⟨fun t w1 hf hk hp => ?_, ?_⟩
    · have h13 : slot t 13 = .slice q0 m0 d0 := hp 13 (by kernel_rfl)
      clear hf hp
      refine stepAt_plain rfl ?_
      exact stepOK_move _ (.inr rfl) h13
    refine ⟨fun t w1 hf hk hp => ?_, ?_⟩
    · have h15 : slot t 15 = .int .u64 (b0 : Int) := hp 15 (by kernel_rfl)
      clear hf hp
      refine stepAt_plain rfl ?_
      exact stepOK_move _ (.inr rfl) h15
    exact trivial
  · intro t w1 hsz hf hk hfacts
    have h3 : slot t 3 = .int .u32 (a0 : Int) := hfacts 8 _ rfl 3 rfl
    have h4 : slot t 4 = .slice p0 n0 c0 := hfacts 9 _ rfl 4 rfl
    have h5 : slot t 5 = .slice q0 m0 d0 := hfacts 10 _ rfl 5 rfl
    have h6 : slot t 6 = .int .u64 (b0 : Int) := hfacts 11 _ rfl 6 rfl
    have h1 : slot t 1 = .pointer (some ⟨g, 0, none⟩) := hf 1 (by kernel_rfl)
    have harr : t = #[slot t 0, slot t 1, slot t 2, slot t 3, slot t 4, slot t 5, slot t 6, slot t 7, slot t 8, slot t 9, slot t 10, slot t 11, slot t 12, slot t 13, slot t 14, slot t 15, slot t 16, slot t 17, slot t 18, slot t 19, slot t 20, slot t 21, slot t 22, slot t 23, slot t 24, slot t 25, slot t 26, slot t 27, slot t 28, slot t 29, slot t 30, slot t 31, slot t 32, slot t 33, slot t 34, slot t 35, slot t 36, slot t 37, slot t 38, slot t 39, slot t 40, slot t 41, slot t 42, slot t 43, slot t 44, slot t 45] := arr_eq t 46 hsz
    rw [harr, h3, h4, h5, h6, h1]
    clear harr hfacts hf h3 h4 h5 h6 h1
    generalize slot t 0 = x0; generalize slot t 2 = x2; generalize slot t 7 = x7; generalize slot t 8 = x8; generalize slot t 9 = x9; generalize slot t 10 = x10; generalize slot t 11 = x11; generalize slot t 12 = x12; generalize slot t 13 = x13; generalize slot t 14 = x14; generalize slot t 15 = x15; generalize slot t 16 = x16
    generalize slot t 17 = x17; generalize slot t 18 = x18; generalize slot t 19 = x19; generalize slot t 20 = x20; generalize slot t 21 = x21; generalize slot t 22 = x22; generalize slot t 23 = x23; generalize slot t 24 = x24; generalize slot t 25 = x25; generalize slot t 26 = x26; generalize slot t 27 = x27; generalize slot t 28 = x28
    generalize slot t 29 = x29; generalize slot t 30 = x30; generalize slot t 31 = x31; generalize slot t 32 = x32; generalize slot t 33 = x33; generalize slot t 34 = x34; generalize slot t 35 = x35; generalize slot t 36 = x36; generalize slot t 37 = x37; generalize slot t 38 = x38; generalize slot t 39 = x39; generalize slot t 40 = x40
    generalize slot t 41 = x41; generalize slot t 42 = x42; generalize slot t 43 = x43; generalize slot t 44 = x44; generalize slot t 45 = x45
    clear hsz t
    replace K1 := Lib.hid (K1.out.trans hk)
    clear hk R1
    by_cases hn : 60 < n0
    · have hd1 : decide ((n0 : Int) > 60) = true := decide_eq_true (by omega)
      have hd1' : decide ((60 : Int) < (n0 : Int)) = true := decide_eq_true (by omega)
      clear hn X1 X2 HMw
      go_wp2_with fail
      refine (HA.out _ (HT.out.kept K1.out)).mono ?_
      rintro e v2 ⟨rfl, k2⟩
      replace K1 := Lib.hid (K1.out.trans k2)
      clear k2
      go_wp2_with fail
      go_ret
      exact ⟨rfl, K1.out⟩
    · have hd1 : decide ((n0 : Int) > 60) = false := decide_eq_false (by omega)
      have hd1' : decide ((60 : Int) < (n0 : Int)) = false := decide_eq_false (by omega)
      have hn60 : n0 ≤ 60 := by omega
      by_cases hm : 60 < m0
      · have hd2 : decide ((m0 : Int) > 60) = true := decide_eq_true (by omega)
        have hd2' : decide ((60 : Int) < (m0 : Int)) = true := decide_eq_true (by omega)
        clear hn hm X1 X2 HMw
        go_wp2_with fail
        refine (HA.out _ (HT.out.kept K1.out)).mono ?_
        rintro e v2 ⟨rfl, k2⟩
        replace K1 := Lib.hid (K1.out.trans k2)
        clear k2
        go_wp2_with fail
        go_ret
        exact ⟨rfl, K1.out⟩
      · have hd2 : decide ((m0 : Int) > 60) = false := decide_eq_false (by omega)
        have hd2' : decide ((60 : Int) < (m0 : Int)) = false := decide_eq_false (by omega)
        have hm60 : m0 ≤ 60 := by omega
        clear hn hm
        go_wp2_with fail
        refine (HMw.out _ K1.out).mono ?_
        rintro e _ ⟨B, rfl, rfl, hB⟩
        cases B
        · obtain ⟨_, hz6⟩ := hB rfl
          have hz : ∀ i, i < m0 → (S0 i).size ≤ 10000 := fun i hi => Nat.le_trans (hz6 i hi) (by omega)
          have hY := mkB_ok a0 n0 F0 m0 S0 b0 w0a.1 w0a.2
          have C1 : Hid (∀ w, HSl n0 F0 (.slice p0 n0 c0) w → SSl m0 S0 (.slice q0 m0 d0) w → Tab w → _) := Lib.hid fun w hv hu ht => blockMake_any a0 n0 F0 (.slice p0 n0 c0) m0 S0 (.slice q0 m0 d0) b0 w w0a.1 w0a.2 hv (by omega) hu (by omega) hz ht
          have C2 : Hid (∀ w, HSl n0 F0 (.slice p0 n0 c0) w → SSl m0 S0 (.slice q0 m0 d0) w → _) := Lib.hid fun w hv hu => refMake22_any a0 n0 F0 (.slice p0 n0 c0) m0 S0 (.slice q0 m0 d0) b0 w hv (by omega) hu (by omega) hz
          have C3 : Hid (∀ u t w, SSl m0 S0 u w → SSl m0 S0 t w → Calls Tryd.prog 9 #[.agg (bkC (mkB a0 n0 F0 m0 S0 b0) u), .agg (bkC (mkB a0 n0 F0 m0 S0 b0) t)] w fun e w' => e = .returned (.bool true) ∧ Kept w w') := Lib.hid fun u t w hu ht => by
            have := refSameB22_any (mkB a0 n0 F0 m0 S0 b0) (mkB a0 n0 F0 m0 S0 b0) m0 m0 S0 S0 u t w hY hY hu ht
            rwa [eqB_self] at this
          generalize mkB a0 n0 F0 m0 S0 b0 = Y at C1 C2 C3
          clear hB hz6 hz hY HMw w0a
          go_wp2_with fail
          refine (C1.out _ (HSl.kept _ _ _ _ _ K1.out X1.out) (SSl.kept _ _ _ _ _ K1.out X2.out) (HT.out.kept K1.out)).mono ?_
          rintro e v2 ⟨p, c, rfl, hu, k2⟩
          have XU := Lib.hid hu
          replace K1 := Lib.hid (K1.out.trans k2)
          clear hu k2 C1
          go_wp2_with (first
            | (refine wpList_exec 7 rfl (by rfl) _ _ (execAllocBk _ rfl) ?_; try simp only [List.setIfInBounds_toArray, List.set_cons_succ, List.set_cons_zero])
            | (refine wpList_store_made rfl 35 _ _ rfl _ _ (bkC Y (.slice p m0 c)) rfl rfl 35 _ rfl (info_blk _ _) (by rw [bkC_size, bkC_size]) (bkC_one _ _ _ _) ?_; intro v3 R7 k3))
          obtain ⟨g7, hg7⟩ : ∃ g, g = v2.heap.size := ⟨_, rfl⟩
          rw [← hg7] at R7 ⊢
          clear hg7
          replace XU := Lib.hid (SSl.kept _ _ _ _ _ k3.out XU.out)
          replace K1 := Lib.hid (K1.out.trans k3.out)
          clear k3
          refine wp_region_table [(34, .is (.agg (bkC Y (.slice p m0 c)))), (35, .is (.int .u32 (a0 : Int))), (36, .is (.slice p0 n0 c0)), (37, .is (.slice q0 m0 d0)), (38, .is (.int .u64 (b0 : Int))), (39, .is (.agg (hdC Y))), (40, .is (.slice q0 m0 d0)), (41, .is (.agg (bkC Y (.slice q0 m0 d0)))), (42, .is (.bool true)), (43, .is (.bool true)), (44, .is (.bool true)), (45, .is (.bool true)), (2, .is (.bool true))] (by kernel_rfl) (by kernel_rfl) ?_ ?_
          · refine ⟨fun t w1 hf hk hp => ?_, ?_⟩
            · have h7 : slot t 7 = .pointer (some ⟨g7, 0, none⟩) := hf 7 (by kernel_rfl)
              clear hf hp
              refine stepAt_plain rfl ?_
              exact stepOK_pure (.agg (bkC Y (.slice p m0 c))) (loadBk rfl h7 (R7.out.kept hk)) rfl
            refine ⟨fun t w1 hf hk hp => ?_, ?_⟩
            · have h3 : slot t 3 = .int .u32 (a0 : Int) := hf 3 (by kernel_rfl)
              clear hf hp
              refine stepAt_plain rfl ?_
              exact stepOK_move _ (.inl rfl) h3
            refine ⟨fun t w1 hf hk hp => ?_, ?_⟩
            · have h4 : slot t 4 = .slice p0 n0 c0 := hf 4 (by kernel_rfl)
              clear hf hp
              refine stepAt_plain rfl ?_
              exact stepOK_move _ (.inl rfl) h4
            refine ⟨fun t w1 hf hk hp => ?_, ?_⟩
            · have h5 : slot t 5 = .slice q0 m0 d0 := hf 5 (by kernel_rfl)
              clear hf hp
              refine stepAt_plain rfl ?_
              exact stepOK_move _ (.inl rfl) h5
            refine ⟨fun t w1 hf hk hp => ?_, ?_⟩
            · have h6 : slot t 6 = .int .u64 (b0 : Int) := hf 6 (by kernel_rfl)
              clear hf hp
              refine stepAt_plain rfl ?_
              exact stepOK_move _ (.inl rfl) h6
            refine ⟨fun t w1 hf hk hp => ?_, ?_⟩
            · have h35 : slot t 35 = .int .u32 (a0 : Int) := hp 35 (by kernel_rfl)
              have h36 : slot t 36 = .slice p0 n0 c0 := hp 36 (by kernel_rfl)
              have h37 : slot t 37 = .slice q0 m0 d0 := hp 37 (by kernel_rfl)
              have h38 : slot t 38 = .int .u64 (b0 : Int) := hp 38 (by kernel_rfl)
              clear hf hp
              refine stepAt_plain rfl ?_
              refine stepOK_call #[.int .u32 (a0 : Int), .slice p0 n0 c0, .slice q0 m0 d0, .int .u64 (b0 : Int)] rfl (by simp only [List.map_toArray, List.map_cons, List.map_nil, evS, h35, h36, h37, h38]) (by go_simp) ((C2.out w1 (HSl.kept _ _ _ _ _ (K1.out.trans hk) X1.out) (SSl.kept _ _ _ _ _ (K1.out.trans hk) X2.out)).mono fun e w' ⟨he, hk'⟩ => ⟨_, he, hk', rfl⟩)
            refine ⟨fun t w1 hf hk hp => ?_, ?_⟩
            · have h5 : slot t 5 = .slice q0 m0 d0 := hf 5 (by kernel_rfl)
              clear hf hp
              refine stepAt_plain rfl ?_
              exact stepOK_move _ (.inl rfl) h5
            refine ⟨fun t w1 hf hk hp => ?_, ?_⟩
            · have h39 : slot t 39 = .agg (hdC Y) := hp 39 (by kernel_rfl)
              have h40 : slot t 40 = .slice q0 m0 d0 := hp 40 (by kernel_rfl)
              clear hf hp
              refine stepAt_plain rfl ?_
              exact stepOK_pure (.agg (bkC Y (.slice q0 m0 d0))) (execBuildB2 Y q0 m0 d0 w1 rfl h39 h40) rfl
            refine ⟨fun t w1 hf hk hp => ?_, ?_⟩
            · have h34 : slot t 34 = .agg (bkC Y (.slice p m0 c)) := hp 34 (by kernel_rfl)
              have h41 : slot t 41 = .agg (bkC Y (.slice q0 m0 d0)) := hp 41 (by kernel_rfl)
              clear hf hp
              refine stepAt_plain rfl ?_
              refine stepOK_call #[.agg (bkC Y (.slice p m0 c)), .agg (bkC Y (.slice q0 m0 d0))] rfl (by simp only [List.map_toArray, List.map_cons, List.map_nil, evS, h34, h41]) (by go_simp) ((C3.out _ _ w1 (SSl.kept _ _ _ _ _ hk XU.out) (SSl.kept _ _ _ _ _ (K1.out.trans hk) X2.out)).mono fun e w' ⟨he, hk'⟩ => ⟨_, he, hk', rfl⟩)
            refine ⟨fun t w1 hf hk hp => ?_, ?_⟩
            · have h42 : slot t 42 = .bool true := hp 42 (by kernel_rfl)
              clear hf hp
              refine stepAt_plain rfl ?_
              exact stepOK_move _ (.inl rfl) h42
            refine ⟨fun t w1 hf hk hp => ?_, ?_⟩
            · have h43 : slot t 43 = .bool true := hp 43 (by kernel_rfl)
              clear hf hp
              refine stepAt_on 43 true (by kernel_rfl) h43 ?_
              refine stepOK_call #[] rfl (by simp only [List.map_toArray, List.map_nil]) (by go_simp) ((HA.out w1 (HT.out.kept (K1.out.trans hk))).mono fun e w' ⟨he, hk'⟩ => ⟨_, he, hk', rfl⟩)
            refine ⟨fun t w1 hf hk hp => ?_, ?_⟩
            · have h43 : slot t 43 = .bool true := hp 43 (by kernel_rfl)
              have h44 : slot t 44 = .bool true := hp 44 (by kernel_rfl)
              clear hf hp
              refine stepAt_plain rfl ?_
              refine stepOK_pure (.bool true) ?_ rfl
              simp only [execOp, evS, h43, h44]
              go_simp
            refine ⟨fun t w1 hf hk hp => ?_, ?_⟩
            · have h45 : slot t 45 = .bool true := hp 45 (by kernel_rfl)
              clear hf hp
              refine stepAt_plain rfl ?_
              exact stepOK_move _ (.inr rfl) h45
            exact trivial
          · intro t w1 hsz hf hk hfacts
            have h2 : slot t 2 = .bool true := hfacts 12 _ rfl 2 rfl
            have h3 : slot t 3 = .int .u32 (a0 : Int) := hf 3 (by kernel_rfl)
            have h4 : slot t 4 = .slice p0 n0 c0 := hf 4 (by kernel_rfl)
            have h5 : slot t 5 = .slice q0 m0 d0 := hf 5 (by kernel_rfl)
            have h6 : slot t 6 = .int .u64 (b0 : Int) := hf 6 (by kernel_rfl)
            have h7 : slot t 7 = .pointer (some ⟨g7, 0, none⟩) := hf 7 (by kernel_rfl)
            have harr : t = #[slot t 0, slot t 1, slot t 2, slot t 3, slot t 4, slot t 5, slot t 6, slot t 7, slot t 8, slot t 9, slot t 10, slot t 11, slot t 12, slot t 13, slot t 14, slot t 15, slot t 16, slot t 17, slot t 18, slot t 19, slot t 20, slot t 21, slot t 22, slot t 23, slot t 24, slot t 25, slot t 26, slot t 27, slot t 28, slot t 29, slot t 30, slot t 31, slot t 32, slot t 33, slot t 34, slot t 35, slot t 36, slot t 37, slot t 38, slot t 39, slot t 40, slot t 41, slot t 42, slot t 43, slot t 44, slot t 45] := arr_eq t 46 hsz
            rw [harr, h2, h3, h4, h5, h6, h7]
            clear harr hfacts hf h2 h3 h4 h5 h6 h7
            generalize slot t 0 = x0; generalize slot t 1 = x1; generalize slot t 8 = x8; generalize slot t 9 = x9; generalize slot t 10 = x10; generalize slot t 11 = x11; generalize slot t 12 = x12; generalize slot t 13 = x13; generalize slot t 14 = x14; generalize slot t 15 = x15; generalize slot t 16 = x16; generalize slot t 17 = x17
            generalize slot t 18 = x18; generalize slot t 19 = x19; generalize slot t 20 = x20; generalize slot t 21 = x21; generalize slot t 22 = x22; generalize slot t 23 = x23; generalize slot t 24 = x24; generalize slot t 25 = x25; generalize slot t 26 = x26; generalize slot t 27 = x27; generalize slot t 28 = x28; generalize slot t 29 = x29
            generalize slot t 30 = x30; generalize slot t 31 = x31; generalize slot t 32 = x32; generalize slot t 33 = x33; generalize slot t 34 = x34; generalize slot t 35 = x35; generalize slot t 36 = x36; generalize slot t 37 = x37; generalize slot t 38 = x38; generalize slot t 39 = x39; generalize slot t 40 = x40; generalize slot t 41 = x41
            generalize slot t 42 = x42; generalize slot t 43 = x43; generalize slot t 44 = x44; generalize slot t 45 = x45
            clear hsz t
            replace K1 := Lib.hid (K1.out.trans hk)
            clear hk
            go_wp2_with fail
            go_ret
            exact ⟨rfl, K1.out⟩
        · clear hB HMw X1 X2
          go_wp2_with fail
          refine (HA.out _ (HT.out.kept K1.out)).mono ?_
          rintro e v2 ⟨rfl, k2⟩
          replace K1 := Lib.hid (K1.out.trans k2)
          clear k2
          go_wp2_with fail
          go_ret
          exact ⟨rfl, K1.out⟩

set_option maxRecDepth 100000 in
set_option maxHeartbeats 1000000 in
theorem lifted (os : Os) (started : os.Started) (H : Type) (enc : TypeId × Value → H) :
    ReturnsInHanded {} Tryd.checked os 3 .any (fun w args => (Rows.blockMakesSpec.pre enc Tryd.prog Tryd.f3 [] false w args ∧ laidMetH Tryd.prog Rows.blockMakesRow.laid w) ∧ sizedMet enc Tryd.prog Tryd.f3 (OpenSpec.ofChange Rows.blockMakesSpec) false w args)
      (Rows.blockMakesSpec.post enc Tryd.prog Tryd.f3 false true false false) := by
  refine returnsInHanded_of_change_and (C := Tryd.checked) (X := fun w _ => laidMetH Tryd.prog Rows.blockMakesRow.laid w) (fun _ _ _ hh h => h.of_heap hh) own started (by kernel_rfl) Tryd.func3
    (ChangeSpec.witness_shaped (enc := enc) (C := Tryd.checked) (os := os) (X := fun w _ => laidMetH Tryd.prog Rows.blockMakesRow.laid w) false (World.doorLaid Tryd.prog 400 os) #[.agg #[.int .u32 0, .slice none 0 0, .slice none 0 0, .int .u64 0]] 8 rfl (World.shaped_of_RefB (by kernel_rfl) (by kernel_rfl)) (by kernel_rfl) (by kernel_rfl) (by kernel_rfl) (door_met os _)) ?_
  intro W base args ds gs before hval0 hW _ hsz0 hL _
  have hval : ∀ (j : Nat) t v, Tryd.f3.params[j]? = some t → args[j]? = some v → Value.okWide Tryd.prog W .any base t v := hval0
  have hsz : (DataW.weightsEach Tryd.prog (Tryd.f3.params.toList ++ Rows.blockMakesSpec.plain.varTypes Tryd.prog) (ds ++ gs)).all (· ≤ reachBytes) = true := hsz0
  have hW' := hW
  obtain ⟨p, q, hA0, hV, rfl, hfz, hnd⟩ := hW
  have hA : DataW.TrodAll enc Tryd.prog W 0 (fun _ => true) true Tryd.f3.params.toList args.toList ds p := hA0
  have hAk := hA
  rw [Tryd.params3] at hA hval hsz
  obtain ⟨v0, vs0, d0, ds0, p0_, q0_, hargs, rfl, rfl, h0, r0_⟩ := trodAll_cons hA
  obtain ⟨rfl, rfl, rfl⟩ := trodAll_nil r0_
  obtain rfl : args = #[v0] := by cases args; simp_all
  obtain ⟨rfl, rfl⟩ := trodVars_none hV
  have hlt : ∀ x ∈ (p0_ ++ ([])), x.block < W.heap.size := fun x hx => by simpa using hW'.lt x (by simpa using hx)
  obtain ⟨cs0, rfl, _⟩ := okWide_struct Tryd.underlying27 (hval 0 27 v0 rfl rfl)
  obtain ⟨a0, b0, p0, n0, c0, F0, q0, m0, dd0, S0, w0, z0, y0, rfl, e0, f0, r0⟩ := open_of h0 (Fit.ofArg hsz (J := 0) rfl rfl)
  clear hA0 hval0
  refine (walk a0 b0 p0 n0 c0 F0 q0 m0 dd0 S0 w0 z0 y0 r0 W e0 f0 (tab_of_laid hL)).mono fun e W' ⟨he, hg⟩ => ?_
  subst he
  exact ⟨_, rfl, ⟨_, _, _, [], _, [], hW', trodAll_cons_mk (shut_bool Tryd.underlying4 _) trodAll_mk0, trodAll_stays laidOut hg (by kernel_rfl) hAk hlt (fun x hx => by simpa using hlt x hx), rfl, Kept.frame hg _, fun h => by cases h⟩⟩

theorem over : Rows.blockMakesRow.holds Tryd.pinned (OpenSpec.ofChange Rows.blockMakesSpec) :=
  OpenClaim.holds_of_wide 3 Tryd.f3 rfl rfl rfl rfl rfl rfl rfl ⟨rfl, rfl, rfl, rfl, rfl⟩ rfl rfl rfl rfl rfl (by kernel_rfl) Tryd.func3 (by kernel_rfl)
    (of_decide_eq_true (by kernel_rfl)) (by unfold Func.isWrapper; first | (rw [if_pos (by decide +kernel)]; kernel_rfl) | (rw [if_neg (by decide +kernel)]; exact ⟨rfl, rfl⟩))
    (fun os started H enc _ => lifted os started H enc)
end Go.Proofs.YtlfkkfacbcpogaaDoor.blockMakes
namespace Go.Proofs.YtlfkkfacbcpogaaDoor
theorem blockMakes_holds : Rows.BlockMakesSaid := blockMakes.over
theorem blockMakes_card : Rows.BlockMakesCardSaid :=
  Claim7.holds_tied_plain_at .later [] [.data] true (true, "3ed5a905e7e9934bda8124e3251505957a3fa2d0cb568af786e0aacafbf8dcb2") false
    blockMakes_holds (fun _ h => by cases h) (by kernel_rfl) (fun _ h => by cases h) blockMakes_row_tie rfl ⟨rfl, rfl⟩ (by kernel_rfl) rfl
    (fun f fn hf hfn => by
      obtain rfl : f = 3 := Option.some.inj ((show Tryd.prog.funcNamed "milepost/milepostlaw23.BlockMakes" = some 3 by kernel_rfl).symm.trans hf) |>.symm
      obtain rfl : fn = Tryd.f3 := (Option.some.inj (Tryd.func3.symm.trans hfn)).symm
      refine ⟨by kernel_rfl, fun j t ht => ?_⟩
      have hm : t ∈ Tryd.f3.params.toList := by simpa using Array.mem_of_getElem? ht
      have hall : (Tryd.f3.params.toList.all fun u => !Tryd.prog.wantsStandIn u) = true := by kernel_rfl
      exact (show Tryd.prog.wantsStandIn t = false by simpa using List.all_eq_true.1 hall t hm))
    (by kernel_rfl)
#print axioms blockMakes_card
end Go.Proofs.YtlfkkfacbcpogaaDoor
