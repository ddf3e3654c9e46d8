/-
  Whether any opening of a transaction holds of any root is the reference's answer; chapter 22's example holds: 'TxsChecks' returns true.
  Conditions: those of the given card (sha's table of round constants as the program's text lays it).
-/
import Derived.Test.YtcbcjiaedoeaeaaDoorRows
import Derived.Test.YtcbcjiaedoeaeaaDoorTxLaw
import Derived.Test.YtcbcjiaedoeaeaaDoorOpe
import Derived.WalkKit
import Derived.ProofKit
import Derived.OpenShut
import Derived.ShutString
import Derived.SizedLaws
import Derived.Test.YtcbcjiaedoeaeaaDoorBas
import Derived.LaidMore
import Derived.SevenTiedAt
import Derived.Test.YtcbcjiaedoeaeaaDoorCards
import Derived.Test.YtcbcjiaedoeaeaaDoorTie
import Derived.Test.YtcbcjiaedoeaeaaDoorShb
namespace Go.Proofs.YtcbcjiaedoeaeaaDoor.txsChecks
open Go.ChangeShapes Go.WideShapes Go.ChangeAt Go.RowKit
open Go.ChangeMaps (open_string shut_string)
set_option linter.unusedVariables false

theorem own : ownKnob Tryd.prog.godebug = none := by kernel_rfl
theorem laidOut : laidOutB Tryd.prog = true := by kernel_rfl

set_option maxRecDepth 100000 in
set_option maxHeartbeats 4000000 in
theorem walk (a0 : List UInt8) (n0 : a0.length = 32) (a1 : ByteArray) (w1 : a1.size ≤ maxLen) (r1 : a1.size ≤ 140737488351232) (a2 b2 : Int) (p2 : Option Addr) (n2 c2 : Nat) (F2 : Nat → List UInt8) (w2 : (Lit.int .i64 a2).wf = true ∧ (Lit.int .i64 b2).wf = true) (z2 : n2 ≤ c2 ∧ c2 ≤ maxLen) (w : World) (e2 : HAt w p2 n2 F2) (hT : Tab w) :
    Calls Tryd.prog 4 #[.agg (bC 32 a0), .string a1, .agg #[.int .i64 a2, .int .i64 b2, .slice p2 n2 c2]] w fun e w' => e = .returned (.bool true) ∧ Kept w w' := by
  have HT := Lib.hid hT
  have HA : Hid (∀ w, Tab w → _) := Lib.hid fun w ht => awake22_any w ht
  have X0 := Lib.hid (show HSl n2 F2 (.slice p2 n2 c2) w from ⟨p2, c2, rfl, z2.1, z2.2, e2⟩)
  have hsz : (#[.int .i64 a2, .int .i64 b2, .slice p2 n2 c2] : Array Value).size = 3 := rfl
  have R3 := Lib.hid ((Rowz.new w (bC 32 a0) 34).alloc (.cells #[.int .i64 a2, .int .i64 b2, .slice p2 n2 c2] 27))
  have R5 := Lib.hid (Rowz.newEq1 w (.cells (bC 32 a0) 34) _ #[.int .i64 a2, .int .i64 b2, .slice p2 n2 c2] 27 rfl)
  have K1 := Lib.hid (((Kept.refl w).alloc (.cells (bC 32 a0) 34)).alloc (.cells #[.int .i64 a2, .int .i64 b2, .slice p2 n2 c2] 27))
  by_cases h5 : 5000 < a1.size
  · have d1 : decide ((a1.size : Int) > 5000) = true := decide_eq_true (by omega)
    have d1' : decide ((5000 : Int) < (a1.size : Int)) = true := decide_eq_true (by omega)
    clear e2 z2 w2 hT n0
    go_enter Tryd.func4, Tryd.ntmps4
    go_wp2_with fail
    generalize (w.alloc (.cells (bC 32 a0) 34)).alloc (.cells #[.int .i64 a2, .int .i64 b2, .slice p2 n2 c2] 27) = v1 at R3 R5 K1 ⊢
    refine wp_region_table [(7, .is (.string a1)), (8, .is (.int .i64 (a1.size : Int))), (9, .is (.bool true)), (10, .is (.bool true)), (11, .is (undef)), (12, .is (undef)), (13, .is (undef)), (14, .is (undef)), (15, .is (undef)), (16, .is (undef)), (17, .is (undef)), (18, .is (undef)), (19, .is (undef)), (20, .is (.bool true)), (21, .is (.bool true)), (22, .is (.bool true)), (23, .is (.bool true)), (6, .is (.bool true))] (by kernel_rfl) (by kernel_rfl) ?_ ?_
    · refine ⟨fun t w1 hf hk hp => ?_, ?_⟩
      · have h1 : slot t 1 = .string a1 := hf 1 (by kernel_rfl)
        clear hf hp
        refine stepAt_plain rfl ?_
        exact stepOK_move _ (.inl rfl) h1
      refine ⟨fun t w1 hf hk hp => ?_, ?_⟩
      · have h7 : slot t 7 = .string a1 := hp 7 (by kernel_rfl)
        clear hf hp
        refine stepAt_plain rfl ?_
        exact stepOK_pure (.int .i64 (a1.size : Int)) (execLenSt w1 rfl rfl h7) rfl
      refine ⟨fun t w1 hf hk hp => ?_, ?_⟩
      · have h8 : slot t 8 = .int .i64 (a1.size : Int) := hp 8 (by kernel_rfl)
        clear hf hp
        refine stepAt_plain rfl ?_
        have hq0 := d1
        refine stepOK_pure (.bool true) ?_ rfl
        simp only [execOp, evS, h8]
        go_simp
      refine ⟨fun t w1 hf hk hp => ?_, ?_⟩
      · have h9 : slot t 9 = .bool true := hp 9 (by kernel_rfl)
        clear hf hp
        refine stepAt_plain rfl ?_
        exact stepOK_move _ (.inl rfl) h9
      refine ⟨fun t w1 hf hk hp => ?_, ?_⟩
      · have h10 : slot t 10 = .bool true := hp 10 (by kernel_rfl)
        clear hf hp
        exact stepAt_off 10 false (by kernel_rfl) h10 rfl
      refine ⟨fun t w1 hf hk hp => ?_, ?_⟩
      · have h10 : slot t 10 = .bool true := hp 10 (by kernel_rfl)
        clear hf hp
        exact stepAt_off 10 false (by kernel_rfl) h10 rfl
      refine ⟨fun t w1 hf hk hp => ?_, ?_⟩
      · have h10 : slot t 10 = .bool true := hp 10 (by kernel_rfl)
        clear hf hp
        exact stepAt_off 10 false (by kernel_rfl) h10 rfl
      refine ⟨fun t w1 hf hk hp => ?_, ?_⟩
      · have h10 : slot t 10 = .bool true := hp 10 (by kernel_rfl)
        clear hf hp
        exact stepAt_off 10 false (by kernel_rfl) h10 rfl
      refine ⟨fun t w1 hf hk hp => ?_, ?_⟩
      · have h10 : slot t 10 = .bool true := hp 10 (by kernel_rfl)
        clear hf hp
        exact stepAt_off 10 false (by kernel_rfl) h10 rfl
      refine ⟨fun t w1 hf hk hp => ?_, ?_⟩
      · have h10 : slot t 10 = .bool true := hp 10 (by kernel_rfl)
        clear hf hp
        exact stepAt_off 10 false (by kernel_rfl) h10 rfl
      refine ⟨fun t w1 hf hk hp => ?_, ?_⟩
      · have h10 : slot t 10 = .bool true := hp 10 (by kernel_rfl)
        clear hf hp
        exact stepAt_off 10 false (by kernel_rfl) h10 rfl
      refine ⟨fun t w1 hf hk hp => ?_, ?_⟩
      · have h10 : slot t 10 = .bool true := hp 10 (by kernel_rfl)
        clear hf hp
        exact stepAt_off 10 false (by kernel_rfl) h10 rfl
      refine ⟨fun t w1 hf hk hp => ?_, ?_⟩
      · have h10 : slot t 10 = .bool true := hp 10 (by kernel_rfl)
        clear hf hp
        exact stepAt_off 10 false (by kernel_rfl) h10 rfl
      refine ⟨fun t w1 hf hk hp => ?_, ?_⟩
      · have h10 : slot t 10 = .bool true := hp 10 (by kernel_rfl)
        have h19 : slot t 19 = undef := hp 19 (by kernel_rfl)
        clear hf hp
        refine stepAt_plain rfl ?_
        refine stepOK_pure (.bool true) ?_ rfl
        simp only [execOp, evS, h10, h19]
        go_simp
      refine ⟨fun t w1 hf hk hp => ?_, ?_⟩
      · have h20 : slot t 20 = .bool true := hp 20 (by kernel_rfl)
        clear hf hp
        refine stepAt_plain rfl ?_
        exact stepOK_move _ (.inl rfl) h20
      refine ⟨fun t w1 hf hk hp => ?_, ?_⟩
      · have h21 : slot t 21 = .bool true := hp 21 (by kernel_rfl)
        clear hf hp
        refine stepAt_on 21 true (by kernel_rfl) h21 ?_
        refine stepOK_call #[] rfl (by simp only [List.map_toArray, List.map_nil]) (by go_simp) ((HA.out w1 (HT.out.kept (K1.out.trans hk))).mono fun e w' ⟨he, hk'⟩ => ⟨_, he, hk', rfl⟩)
      refine ⟨fun t w1 hf hk hp => ?_, ?_⟩
      · have h21 : slot t 21 = .bool true := hp 21 (by kernel_rfl)
        have h22 : slot t 22 = .bool true := hp 22 (by kernel_rfl)
        clear hf hp
        refine stepAt_plain rfl ?_
        refine stepOK_pure (.bool true) ?_ rfl
        simp only [execOp, evS, h21, h22]
        go_simp
      refine ⟨fun t w1 hf hk hp => ?_, ?_⟩
      · have h23 : slot t 23 = .bool true := hp 23 (by kernel_rfl)
        clear hf hp
        refine stepAt_plain rfl ?_
        exact stepOK_move _ (.inr rfl) h23
      exact trivial
    · intro t w1 hsz hf hk hfacts
      have h6 : slot t 6 = .bool true := hfacts 17 _ rfl 6 rfl
      have h1 : slot t 1 = .string a1 := hf 1 (by kernel_rfl)
      have h3 : slot t 3 = .pointer (some ⟨w.heap.size, 0, none⟩) := hf 3 (by kernel_rfl)
      have h5 : slot t 5 = .pointer (some ⟨w.heap.size + 1, 0, none⟩) := hf 5 (by kernel_rfl)
      have harr : t = #[slot t 0, slot t 1, slot t 2, slot t 3, slot t 4, slot t 5, slot t 6, slot t 7, slot t 8, slot t 9, slot t 10, slot t 11, slot t 12, slot t 13, slot t 14, slot t 15, slot t 16, slot t 17, slot t 18, slot t 19, slot t 20, slot t 21, slot t 22, slot t 23] := arr_eq t 24 hsz
      rw [harr, h6, h1, h3, h5]
      clear harr hfacts hf h6 h1 h3 h5
      generalize slot t 0 = x0; generalize slot t 2 = x2; generalize slot t 4 = x4; generalize slot t 7 = x7; generalize slot t 8 = x8; generalize slot t 9 = x9; generalize slot t 10 = x10; generalize slot t 11 = x11; generalize slot t 12 = x12; generalize slot t 13 = x13; generalize slot t 14 = x14; generalize slot t 15 = x15
      generalize slot t 16 = x16; generalize slot t 17 = x17; generalize slot t 18 = x18; generalize slot t 19 = x19; generalize slot t 20 = x20; generalize slot t 21 = x21; generalize slot t 22 = x22; generalize slot t 23 = x23
      clear hsz t
      have K2 := Lib.hid (K1.out.trans hk)
      clear hk
      go_wp2_with fail
      go_ret
      exact ⟨rfl, K2.out⟩
  · have d1 : decide ((a1.size : Int) > 5000) = false := decide_eq_false (by omega)
    have d1' : decide ((5000 : Int) < (a1.size : Int)) = false := decide_eq_false (by omega)
    have C1 : Hid (∀ w, HSl n2 F2 (.slice p2 n2 c2) w → Tab w → _) := Lib.hid fun w hv ht => txsCheck_any a0 a1 a2 b2 n2 F2 (.slice p2 n2 c2) w n0 (by omega) hv ht
    have C2 : Hid (∀ w, HSl n2 F2 (.slice p2 n2 c2) w → _) := Lib.hid fun w hv => refCheck22_any a0 a1 a2 b2 n2 F2 (.slice p2 n2 c2) w n0 (by omega) hv
    generalize (decide (b2 ≤ 1024) && decide (a1.size ≤ 4096) && ckO a0 (txS a1) a2 b2 n2 F2) = B at C1 C2
    have hB : (B == B) = true := by simp
    clear e2 z2 w2 hT n0
    go_enter Tryd.func4, Tryd.ntmps4
    go_wp2_with fail
    generalize (w.alloc (.cells (bC 32 a0) 34)).alloc (.cells #[.int .i64 a2, .int .i64 b2, .slice p2 n2 c2] 27) = v1 at R3 R5 K1 ⊢
    refine wp_region_table [(7, .is (.string a1)), (8, .is (.int .i64 (a1.size : Int))), (9, .is (.bool false)), (10, .is (.bool false)), (11, .is (.agg (bC 32 a0))), (12, .is (.string a1)), (13, .is (.agg #[.int .i64 a2, .int .i64 b2, .slice p2 n2 c2])), (14, .is (.bool B)), (15, .is (.agg (bC 32 a0))), (16, .is (.string a1)), (17, .is (.agg #[.int .i64 a2, .int .i64 b2, .slice p2 n2 c2])), (18, .is (.bool B)), (19, .is (.bool true)), (20, .is (.bool true)), (21, .is (.bool true)), (22, .is (.bool true)), (23, .is (.bool true)), (6, .is (.bool true))] (by kernel_rfl) (by kernel_rfl) ?_ ?_
    · refine ⟨fun t w1 hf hk hp => ?_, ?_⟩
      · have h1 : slot t 1 = .string a1 := hf 1 (by kernel_rfl)
        clear hf hp
        refine stepAt_plain rfl ?_
        exact stepOK_move _ (.inl rfl) h1
      refine ⟨fun t w1 hf hk hp => ?_, ?_⟩
      · have h7 : slot t 7 = .string a1 := hp 7 (by kernel_rfl)
        clear hf hp
        refine stepAt_plain rfl ?_
        exact stepOK_pure (.int .i64 (a1.size : Int)) (execLenSt w1 rfl rfl h7) rfl
      refine ⟨fun t w1 hf hk hp => ?_, ?_⟩
      · have h8 : slot t 8 = .int .i64 (a1.size : Int) := hp 8 (by kernel_rfl)
        clear hf hp
        refine stepAt_plain rfl ?_
        have hq0 := d1
        refine stepOK_pure (.bool false) ?_ rfl
        simp only [execOp, evS, h8]
        go_simp
      refine ⟨fun t w1 hf hk hp => ?_, ?_⟩
      · have h9 : slot t 9 = .bool false := hp 9 (by kernel_rfl)
        clear hf hp
        refine stepAt_plain rfl ?_
        exact stepOK_move _ (.inl rfl) h9
      refine ⟨fun t w1 hf hk hp => ?_, ?_⟩
      · have h3 : slot t 3 = .pointer (some ⟨w.heap.size, 0, none⟩) := hf 3 (by kernel_rfl)
        have h10 : slot t 10 = .bool false := hp 10 (by kernel_rfl)
        clear hf hp
        refine stepAt_on 10 false (by kernel_rfl) h10 ?_
        exact stepOK_pure (.agg (bC 32 a0)) (load_h rfl h3 (R3.out.kept hk)) rfl
      refine ⟨fun t w1 hf hk hp => ?_, ?_⟩
      · have h1 : slot t 1 = .string a1 := hf 1 (by kernel_rfl)
        have h10 : slot t 10 = .bool false := hp 10 (by kernel_rfl)
        clear hf hp
        refine stepAt_on 10 false (by kernel_rfl) h10 ?_
        exact stepOK_move _ (.inl rfl) h1
      refine ⟨fun t w1 hf hk hp => ?_, ?_⟩
      · have h5 : slot t 5 = .pointer (some ⟨w.heap.size + 1, 0, none⟩) := hf 5 (by kernel_rfl)
        have h10 : slot t 10 = .bool false := hp 10 (by kernel_rfl)
        clear hf hp
        refine stepAt_on 10 false (by kernel_rfl) h10 ?_
        exact stepOK_pure (.agg #[.int .i64 a2, .int .i64 b2, .slice p2 n2 c2]) (loadO rfl h5 (R5.out.kept hk) hsz) rfl
      refine ⟨fun t w1 hf hk hp => ?_, ?_⟩
      · have h11 : slot t 11 = .agg (bC 32 a0) := hp 11 (by kernel_rfl)
        have h12 : slot t 12 = .string a1 := hp 12 (by kernel_rfl)
        have h13 : slot t 13 = .agg #[.int .i64 a2, .int .i64 b2, .slice p2 n2 c2] := hp 13 (by kernel_rfl)
        have h10 : slot t 10 = .bool false := hp 10 (by kernel_rfl)
        clear hf hp
        refine stepAt_on 10 false (by kernel_rfl) h10 ?_
        refine stepOK_call #[.agg (bC 32 a0), .string a1, .agg #[.int .i64 a2, .int .i64 b2, .slice p2 n2 c2]] rfl (by simp only [List.map_toArray, List.map_cons, List.map_nil, evS, h11, h12, h13]) (by go_simp) ((C1.out w1 (HSl.kept _ _ _ _ _ (K1.out.trans hk) X0.out) (HT.out.kept (K1.out.trans hk))).mono fun e w' ⟨he, hk'⟩ => ⟨_, he, hk', rfl⟩)
      refine ⟨fun t w1 hf hk hp => ?_, ?_⟩
      · have h3 : slot t 3 = .pointer (some ⟨w.heap.size, 0, none⟩) := hf 3 (by kernel_rfl)
        have h10 : slot t 10 = .bool false := hp 10 (by kernel_rfl)
        clear hf hp
        refine stepAt_on 10 false (by kernel_rfl) h10 ?_
        exact stepOK_pure (.agg (bC 32 a0)) (load_h rfl h3 (R3.out.kept hk)) rfl
      refine ⟨fun t w1 hf hk hp => ?_, ?_⟩
      · have h1 : slot t 1 = .string a1 := hf 1 (by kernel_rfl)
        have h10 : slot t 10 = .bool false := hp 10 (by kernel_rfl)
        clear hf hp
        refine stepAt_on 10 false (by kernel_rfl) h10 ?_
        exact stepOK_move _ (.inl rfl) h1
      refine ⟨fun t w1 hf hk hp => ?_, ?_⟩
      · have h5 : slot t 5 = .pointer (some ⟨w.heap.size + 1, 0, none⟩) := hf 5 (by kernel_rfl)
        have h10 : slot t 10 = .bool false := hp 10 (by kernel_rfl)
        clear hf hp
        refine stepAt_on 10 false (by kernel_rfl) h10 ?_
        exact stepOK_pure (.agg #[.int .i64 a2, .int .i64 b2, .slice p2 n2 c2]) (loadO rfl h5 (R5.out.kept hk) hsz) rfl
      refine ⟨fun t w1 hf hk hp => ?_, ?_⟩
      · have h15 : slot t 15 = .agg (bC 32 a0) := hp 15 (by kernel_rfl)
        have h16 : slot t 16 = .string a1 := hp 16 (by kernel_rfl)
        have h17 : slot t 17 = .agg #[.int .i64 a2, .int .i64 b2, .slice p2 n2 c2] := hp 17 (by kernel_rfl)
        have h10 : slot t 10 = .bool false := hp 10 (by kernel_rfl)
        clear hf hp
        refine stepAt_on 10 false (by kernel_rfl) h10 ?_
        refine stepOK_call #[.agg (bC 32 a0), .string a1, .agg #[.int .i64 a2, .int .i64 b2, .slice p2 n2 c2]] rfl (by simp only [List.map_toArray, List.map_cons, List.map_nil, evS, h15, h16, h17]) (by go_simp) ((C2.out w1 (HSl.kept _ _ _ _ _ (K1.out.trans hk) X0.out)).mono fun e w' ⟨he, hk'⟩ => ⟨_, he, hk', rfl⟩)
      refine ⟨fun t w1 hf hk hp => ?_, ?_⟩
      · have h14 : slot t 14 = .bool B := hp 14 (by kernel_rfl)
        have h18 : slot t 18 = .bool B := hp 18 (by kernel_rfl)
        have h10 : slot t 10 = .bool false := hp 10 (by kernel_rfl)
        clear hf hp
        refine stepAt_on 10 false (by kernel_rfl) h10 ?_
        have hq0 := hB
        refine stepOK_pure (.bool true) ?_ rfl
        simp only [execOp, evS, h14, h18]
        go_simp
      refine ⟨fun t w1 hf hk hp => ?_, ?_⟩
      · have h10 : slot t 10 = .bool false := hp 10 (by kernel_rfl)
        have h19 : slot t 19 = .bool true := hp 19 (by kernel_rfl)
        clear hf hp
        refine stepAt_plain rfl ?_
        refine stepOK_pure (.bool true) ?_ rfl
        simp only [execOp, evS, h10, h19]
        go_simp
      refine ⟨fun t w1 hf hk hp => ?_, ?_⟩
      · have h20 : slot t 20 = .bool true := hp 20 (by kernel_rfl)
        clear hf hp
        refine stepAt_plain rfl ?_
        exact stepOK_move _ (.inl rfl) h20
      refine ⟨fun t w1 hf hk hp => ?_, ?_⟩
      · have h21 : slot t 21 = .bool true := hp 21 (by kernel_rfl)
        clear hf hp
        refine stepAt_on 21 true (by kernel_rfl) h21 ?_
        refine stepOK_call #[] rfl (by simp only [List.map_toArray, List.map_nil]) (by go_simp) ((HA.out w1 (HT.out.kept (K1.out.trans hk))).mono fun e w' ⟨he, hk'⟩ => ⟨_, he, hk', rfl⟩)
      refine ⟨fun t w1 hf hk hp => ?_, ?_⟩
      · have h21 : slot t 21 = .bool true := hp 21 (by kernel_rfl)
        have h22 : slot t 22 = .bool true := hp 22 (by kernel_rfl)
        clear hf hp
        refine stepAt_plain rfl ?_
        refine stepOK_pure (.bool true) ?_ rfl
        simp only [execOp, evS, h21, h22]
        go_simp
      refine ⟨fun t w1 hf hk hp => ?_, ?_⟩
      · have h23 : slot t 23 = .bool true := hp 23 (by kernel_rfl)
        clear hf hp
        refine stepAt_plain rfl ?_
        exact stepOK_move _ (.inr rfl) h23
      exact trivial
    · intro t w1 hsz hf hk hfacts
      have h6 : slot t 6 = .bool true := hfacts 17 _ rfl 6 rfl
      have h1 : slot t 1 = .string a1 := hf 1 (by kernel_rfl)
      have h3 : slot t 3 = .pointer (some ⟨w.heap.size, 0, none⟩) := hf 3 (by kernel_rfl)
      have h5 : slot t 5 = .pointer (some ⟨w.heap.size + 1, 0, none⟩) := hf 5 (by kernel_rfl)
      have harr : t = #[slot t 0, slot t 1, slot t 2, slot t 3, slot t 4, slot t 5, slot t 6, slot t 7, slot t 8, slot t 9, slot t 10, slot t 11, slot t 12, slot t 13, slot t 14, slot t 15, slot t 16, slot t 17, slot t 18, slot t 19, slot t 20, slot t 21, slot t 22, slot t 23] := arr_eq t 24 hsz
      rw [harr, h6, h1, h3, h5]
      clear harr hfacts hf h6 h1 h3 h5
      generalize slot t 0 = x0; generalize slot t 2 = x2; generalize slot t 4 = x4; generalize slot t 7 = x7; generalize slot t 8 = x8; generalize slot t 9 = x9; generalize slot t 10 = x10; generalize slot t 11 = x11; generalize slot t 12 = x12; generalize slot t 13 = x13; generalize slot t 14 = x14; generalize slot t 15 = x15
      generalize slot t 16 = x16; generalize slot t 17 = x17; generalize slot t 18 = x18; generalize slot t 19 = x19; generalize slot t 20 = x20; generalize slot t 21 = x21; generalize slot t 22 = x22; generalize slot t 23 = x23
      clear hsz t
      have K2 := Lib.hid (K1.out.trans hk)
      clear hk
      go_wp2_with fail
      go_ret
      exact ⟨rfl, K2.out⟩

set_option maxRecDepth 100000 in
set_option maxHeartbeats 1000000 in
theorem lifted (os : Os) (started : os.Started) (H : Type) (enc : TypeId × Value → H) :
    ReturnsInHanded {} Tryd.checked os 4 .any (fun w args => (Rows.txsChecksSpec.pre enc Tryd.prog Tryd.f4 [] false w args ∧ laidMetH Tryd.prog Rows.txsChecksRow.laid w) ∧ sizedMet enc Tryd.prog Tryd.f4 (OpenSpec.ofChange Rows.txsChecksSpec) false w args)
      (Rows.txsChecksSpec.post enc Tryd.prog Tryd.f4 false true false false) := by
  refine returnsInHanded_of_change_and (C := Tryd.checked) (X := fun w _ => laidMetH Tryd.prog Rows.txsChecksRow.laid w) (fun _ _ _ hh h => h.of_heap hh) own started (by kernel_rfl) Tryd.func4
    (ChangeSpec.witness_shaped (enc := enc) (C := Tryd.checked) (os := os) (X := fun w _ => laidMetH Tryd.prog Rows.txsChecksRow.laid w) false (World.doorLaid Tryd.prog 400 os) #[.agg #[.int .u8 0, .int .u8 0, .int .u8 0, .int .u8 0, .int .u8 0, .int .u8 0, .int .u8 0, .int .u8 0, .int .u8 0, .int .u8 0, .int .u8 0, .int .u8 0, .int .u8 0, .int .u8 0, .int .u8 0, .int .u8 0, .int .u8 0, .int .u8 0, .int .u8 0, .int .u8 0, .int .u8 0, .int .u8 0, .int .u8 0, .int .u8 0, .int .u8 0, .int .u8 0, .int .u8 0, .int .u8 0, .int .u8 0, .int .u8 0, .int .u8 0, .int .u8 0], .string ByteArray.empty, .agg #[.int .i64 0, .int .i64 0, .slice none 0 0]] 8 rfl (World.shaped_of_RefB (by kernel_rfl) (by kernel_rfl)) (by kernel_rfl) (by kernel_rfl) (by kernel_rfl) (door_met os _)) ?_
  intro W base args ds gs before hval0 hW _ hsz0 hL _
  have hval : ∀ (j : Nat) t v, Tryd.f4.params[j]? = some t → args[j]? = some v → Value.okWide Tryd.prog W .any base t v := hval0
  have hsz : (DataW.weightsEach Tryd.prog (Tryd.f4.params.toList ++ Rows.txsChecksSpec.plain.varTypes Tryd.prog) (ds ++ gs)).all (· ≤ reachBytes) = true := hsz0
  have hW' := hW
  obtain ⟨p, q, hA0, hV, rfl, hfz, hnd⟩ := hW
  have hA : DataW.TrodAll enc Tryd.prog W 0 (fun _ => true) true Tryd.f4.params.toList args.toList ds p := hA0
  have hAk := hA
  rw [Tryd.params4] at hA hval hsz
  obtain ⟨v0, vs0, d0, ds0, p0_, q0_, hargs, rfl, rfl, h0, r0_⟩ := trodAll_cons hA
  obtain ⟨v1, vs1, d1, ds1, p1_, q1_, rfl, rfl, rfl, h1, r1_⟩ := trodAll_cons r0_
  obtain ⟨v2, vs2, d2, ds2, p2_, q2_, rfl, rfl, rfl, h2, r2_⟩ := trodAll_cons r1_
  obtain ⟨rfl, rfl, rfl⟩ := trodAll_nil r2_
  obtain rfl : args = #[v0, v1, v2] := by cases args; simp_all
  obtain ⟨rfl, rfl⟩ := trodVars_none hV
  have hlt : ∀ x ∈ (p0_ ++ (p1_ ++ (p2_ ++ ([])))), x.block < W.heap.size := fun x hx => by simpa using hW'.lt x (by simpa using hx)
  obtain ⟨cs0, rfl⟩ : ∃ cs, v0 = .agg cs := by
    have := hval 0 34 v0 rfl rfl
    simp only [Value.okWide, Tryd.underlying34] at this
    obtain ⟨cs, h, _⟩ := this
    exact ⟨cs, h⟩
  obtain ⟨a0, n0, rfl⟩ := open_hash Tryd.underlying34 Tryd.underlying5 (by kernel_rfl) (by kernel_rfl) h0
  obtain ⟨a1, rfl, rfl, rfl, w1⟩ := open_string Tryd.underlying9 (hval 1 9 v1 rfl rfl) h1
  obtain ⟨cs2, rfl, _⟩ := okWide_struct Tryd.underlying27 (hval 2 27 v2 rfl rfl)
  obtain ⟨a2, b2, p2, n2, c2, F2, w2, z2, rfl, e2⟩ := open_opening Tryd.underlying27 (by kernel_rfl) ⟨rfl, rfl, rfl⟩ ⟨by kernel_rfl, by kernel_rfl, by kernel_rfl⟩ Tryd.underlying3 Tryd.underlying3 Tryd.underlying25 Tryd.underlying34 (by kernel_rfl) Tryd.underlying5 (by kernel_rfl) h2
  have r1 : a1.size ≤ 140737488351232 := by have := sized_string hsz (j := 1) (t := 9) rfl rfl; simpa [reachBytes] using this
  clear hA0 hval0
  refine (walk a0 n0 a1 w1 r1 a2 b2 p2 n2 c2 F2 w2 z2 W e2 (tab_of_laid hL)).mono fun e W' ⟨he, hg⟩ => ?_
  subst he
  exact ⟨_, rfl, ⟨_, _, _, [], _, [], hW', trodAll_cons_mk (shut_bool Tryd.underlying4 _) trodAll_mk0, trodAll_stays laidOut hg (by kernel_rfl) hAk hlt (fun x hx => by simpa using hlt x hx), rfl, Kept.frame hg _, fun h => by cases h⟩⟩

theorem over : Rows.txsChecksRow.holds Tryd.pinned (OpenSpec.ofChange Rows.txsChecksSpec) :=
  OpenClaim.holds_of_wide 4 Tryd.f4 rfl rfl rfl rfl rfl rfl rfl ⟨rfl, rfl, rfl, rfl, rfl⟩ rfl rfl rfl rfl rfl (by kernel_rfl) Tryd.func4 (by kernel_rfl)
    (of_decide_eq_true (by kernel_rfl)) (by unfold Func.isWrapper; first | (rw [if_pos (by decide +kernel)]; kernel_rfl) | (rw [if_neg (by decide +kernel)]; exact ⟨rfl, rfl⟩))
    (fun os started H enc _ => lifted os started H enc)
end Go.Proofs.YtcbcjiaedoeaeaaDoor.txsChecks
namespace Go.Proofs.YtcbcjiaedoeaeaaDoor
theorem txsChecks_holds : Rows.TxsChecksSaid := txsChecks.over
theorem txsChecks_card : Rows.TxsChecksCardSaid :=
  Claim7.holds_tied_plain_at .later [] [.data] true (true, "b2ada0222238b61a593490755c687325dba9eef29d1dcfe40011fc54ec8c5a67") false
    txsChecks_holds (fun _ h => by cases h) (by kernel_rfl) (fun _ h => by cases h) txsChecks_row_tie rfl ⟨rfl, rfl⟩ (by kernel_rfl) rfl
    (fun f fn hf hfn => by
      obtain rfl : f = 4 := Option.some.inj ((show Tryd.prog.funcNamed "milepost/milepostlaw22.TxsChecks" = some 4 by kernel_rfl).symm.trans hf) |>.symm
      obtain rfl : fn = Tryd.f4 := (Option.some.inj (Tryd.func4.symm.trans hfn)).symm
      refine ⟨by kernel_rfl, fun j t ht => ?_⟩
      have hm : t ∈ Tryd.f4.params.toList := by simpa using Array.mem_of_getElem? ht
      have hall : (Tryd.f4.params.toList.all fun u => !Tryd.prog.wantsStandIn u) = true := by kernel_rfl
      exact (show Tryd.prog.wantsStandIn t = false by simpa using List.all_eq_true.1 hall t hm))
    (by kernel_rfl)
#print axioms txsChecks_card
end Go.Proofs.YtcbcjiaedoeaeaaDoor
