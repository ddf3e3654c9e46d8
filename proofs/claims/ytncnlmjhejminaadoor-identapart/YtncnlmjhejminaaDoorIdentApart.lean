/-
  Headers that differ have texts that differ, and equal ones have equal texts and ids; chapter 18's example holds: 'IdentApart' returns true.
  Conditions: those of the given card (sha's table of round constants as the program's text lays it).
-/
import Derived.Test.YtncnlmjhejminaaDoorRows
import Derived.Test.YtncnlmjhejminaaDoorIdentLaw
import Derived.Test.YtncnlmjhejminaaDoorLawLibK
import Derived.WalkKit
import Derived.ProofKit
import Derived.OpenShut
import Derived.ShutString
import Derived.SizedLaws
import Derived.Test.YtncnlmjhejminaaDoorBas
import Derived.LaidMore
import Derived.SevenTiedAt
import Derived.Test.YtncnlmjhejminaaDoorCards
import Derived.Test.YtncnlmjhejminaaDoorTie
import Derived.Test.YtncnlmjhejminaaDoorShb
namespace Go.Proofs.YtncnlmjhejminaaDoor.identApart
open Go.ChangeShapes Go.WideShapes Go.ChangeAt Go.RowKit
open Go.ChangeMaps (open_string shut_string)
set_option linter.unusedVariables false

theorem own : ownKnob Tryd.prog.godebug = none := by kernel_rfl
theorem laidOut : laidOutB Tryd.prog = true := by kernel_rfl

set_option maxRecDepth 100000 in
set_option maxHeartbeats 4000000 in
theorem walk (a0 : Hd) (w0 : a0.ok) (a1 : Hd) (w1 : a1.ok) (w : World)  (hT : Tab w) :
    Calls Tryd.prog 5 #[.agg (hdC a0), .agg (hdC a1)] w fun e w' => e = .returned (.bool true) ∧ Kept w w' := by
  have HT := Lib.hid hT
  have HA : Hid (∀ w, Tab w → _) := Lib.hid fun w ht => awake18_any w ht
  have R2 := Lib.hid ((Rowz.new w (hdC a0) 32).alloc (.cells (hdC a1) 32))
  have R3 := Lib.hid (Rowz.newEq1 w (.cells (hdC a0) 32) _ (hdC a1) 32 rfl)
  have K1 := Lib.hid (((Kept.refl w).alloc (.cells (hdC a0) 32)).alloc (.cells (hdC a1) 32))
  have C1 : Hid (∀ w, _) := Lib.hid fun w => identText_any a0 w w0
  have C2 : Hid (∀ w, _) := Lib.hid fun w => identText_any a1 w w1
  have C3 : Hid (∀ w, Tab w → _) := Lib.hid fun w ht => identId_any a0 w w0 ht
  have C4 : Hid (∀ w, Tab w → _) := Lib.hid fun w ht => identId_any a1 w w1 ht
  have hinj := headS_inj a0 a1 w0 w1
  have hI0 := idH_length a0
  have ho0 := Lib.hid w0
  have ho1 := Lib.hid w1
  clear hT w0 w1
  generalize headS (hdS a0) = s at C1 hinj
  generalize headS (hdS a1) = s1 at C2 hinj
  by_cases h : a0 = a1
  · subst h
    obtain rfl := hinj.2 rfl
    clear hinj C2 C4 ho1
    generalize idH a0 = I at C3 hI0
    go_enter Tryd.func5, Tryd.ntmps5
    go_wp2_with fail
    generalize (w.alloc (.cells (hdC a0) 32)).alloc (.cells (hdC a0) 32) = v1 at R2 R3 K1 ⊢
    refine wp_region_table [(5, .is (.agg (hdC a0))), (6, .is (.agg (hdC a0))), (7, .is (.bool true)), (8, .is (.agg (hdC a0))), (9, .is (.string s)), (10, .is (.agg (hdC a0))), (11, .is (.string s)), (12, .is (.bool true)), (13, .is (.bool true)), (14, .is (.bool true)), (15, .is (.agg (hdC a0))), (16, .is (.agg (hdC a0))), (17, .is (.bool false)), (18, .is (.bool false)), (19, .is (.agg (hdC a0))), (20, .is (.agg (bC 32 I))), (21, .is (.agg (hdC a0))), (22, .is (.agg (bC 32 I))), (23, .is (.bool true)), (24, .is (.bool true)), (25, .is (.bool true)), (26, .is (.bool true)), (27, .is (.bool true)), (28, .is (.bool true)), (4, .is (.bool true))] (by kernel_rfl) (by kernel_rfl) ?_ ?_
    · refine ⟨fun t w1 hf hk hp => ?_, ?_⟩
      · have h2 : slot t 2 = .pointer (some ⟨w.heap.size, 0, none⟩) := hf 2 (by kernel_rfl)
        clear hf hp
        refine stepAt_plain rfl ?_
        exact stepOK_pure (.agg (hdC a0)) (loadHd rfl h2 (R2.out.kept hk)) rfl
      refine ⟨fun t w1 hf hk hp => ?_, ?_⟩
      · have h3 : slot t 3 = .pointer (some ⟨w.heap.size + 1, 0, none⟩) := hf 3 (by kernel_rfl)
        clear hf hp
        refine stepAt_plain rfl ?_
        exact stepOK_pure (.agg (hdC a0)) (loadHd rfl h3 (R3.out.kept hk)) rfl
      refine ⟨fun t w1 hf hk hp => ?_, ?_⟩
      · have h5 : slot t 5 = .agg (hdC a0) := hp 5 (by kernel_rfl)
        have h6 : slot t 6 = .agg (hdC a0) := hp 6 (by kernel_rfl)
        clear hf hp
        refine stepAt_plain rfl ?_
        exact stepOK_pure (.bool true) (execEqHdSelf a0 ho0.out w1 rfl h5 h6) rfl
      refine ⟨fun t w1 hf hk hp => ?_, ?_⟩
      · have h2 : slot t 2 = .pointer (some ⟨w.heap.size, 0, none⟩) := hf 2 (by kernel_rfl)
        clear hf hp
        refine stepAt_plain rfl ?_
        exact stepOK_pure (.agg (hdC a0)) (loadHd rfl h2 (R2.out.kept hk)) rfl
      refine ⟨fun t w1 hf hk hp => ?_, ?_⟩
      · have h8 : slot t 8 = .agg (hdC a0) := hp 8 (by kernel_rfl)
        clear hf hp
        refine stepAt_plain rfl ?_
        refine stepOK_call #[.agg (hdC a0)] rfl (by simp only [List.map_toArray, List.map_cons, List.map_nil, evS, h8]) (by go_simp) ((C1.out w1).mono fun e w' ⟨he, hk'⟩ => ⟨_, he, hk', rfl⟩)
      refine ⟨fun t w1 hf hk hp => ?_, ?_⟩
      · have h3 : slot t 3 = .pointer (some ⟨w.heap.size + 1, 0, none⟩) := hf 3 (by kernel_rfl)
        clear hf hp
        refine stepAt_plain rfl ?_
        exact stepOK_pure (.agg (hdC a0)) (loadHd rfl h3 (R3.out.kept hk)) rfl
      refine ⟨fun t w1 hf hk hp => ?_, ?_⟩
      · have h10 : slot t 10 = .agg (hdC a0) := hp 10 (by kernel_rfl)
        clear hf hp
        refine stepAt_plain rfl ?_
        refine stepOK_call #[.agg (hdC a0)] rfl (by simp only [List.map_toArray, List.map_cons, List.map_nil, evS, h10]) (by go_simp) ((C1.out w1).mono fun e w' ⟨he, hk'⟩ => ⟨_, he, hk', rfl⟩)
      refine ⟨fun t w1 hf hk hp => ?_, ?_⟩
      · have h9 : slot t 9 = .string s := hp 9 (by kernel_rfl)
        have h11 : slot t 11 = .string s := hp 11 (by kernel_rfl)
        clear hf hp
        refine stepAt_plain rfl ?_
        exact stepOK_pure (.bool true) (execEqSSelf s w1 rfl h9 h11) rfl
      refine ⟨fun t w1 hf hk hp => ?_, ?_⟩
      · have h7 : slot t 7 = .bool true := hp 7 (by kernel_rfl)
        have h12 : slot t 12 = .bool true := hp 12 (by kernel_rfl)
        clear hf hp
        refine stepAt_plain rfl ?_
        refine stepOK_pure (.bool true) ?_ rfl
        simp only [execOp, evS, h7, h12]
        go_simp
      refine ⟨fun t w1 hf hk hp => ?_, ?_⟩
      · have h13 : slot t 13 = .bool true := hp 13 (by kernel_rfl)
        clear hf hp
        refine stepAt_plain rfl ?_
        exact stepOK_move _ (.inl rfl) h13
      refine ⟨fun t w1 hf hk hp => ?_, ?_⟩
      · have h2 : slot t 2 = .pointer (some ⟨w.heap.size, 0, none⟩) := hf 2 (by kernel_rfl)
        have h14 : slot t 14 = .bool true := hp 14 (by kernel_rfl)
        clear hf hp
        refine stepAt_on 14 true (by kernel_rfl) h14 ?_
        exact stepOK_pure (.agg (hdC a0)) (loadHd rfl h2 (R2.out.kept hk)) rfl
      refine ⟨fun t w1 hf hk hp => ?_, ?_⟩
      · have h3 : slot t 3 = .pointer (some ⟨w.heap.size + 1, 0, none⟩) := hf 3 (by kernel_rfl)
        have h14 : slot t 14 = .bool true := hp 14 (by kernel_rfl)
        clear hf hp
        refine stepAt_on 14 true (by kernel_rfl) h14 ?_
        exact stepOK_pure (.agg (hdC a0)) (loadHd rfl h3 (R3.out.kept hk)) rfl
      refine ⟨fun t w1 hf hk hp => ?_, ?_⟩
      · have h15 : slot t 15 = .agg (hdC a0) := hp 15 (by kernel_rfl)
        have h16 : slot t 16 = .agg (hdC a0) := hp 16 (by kernel_rfl)
        have h14 : slot t 14 = .bool true := hp 14 (by kernel_rfl)
        clear hf hp
        refine stepAt_on 14 true (by kernel_rfl) h14 ?_
        exact stepOK_pure (.bool false) (execNeHdSelf a0 ho0.out w1 rfl h15 h16) rfl
      refine ⟨fun t w1 hf hk hp => ?_, ?_⟩
      · have h17 : slot t 17 = .bool false := hp 17 (by kernel_rfl)
        have h14 : slot t 14 = .bool true := hp 14 (by kernel_rfl)
        clear hf hp
        refine stepAt_on 14 true (by kernel_rfl) h14 ?_
        exact stepOK_move _ (.inl rfl) h17
      refine ⟨fun t w1 hf hk hp => ?_, ?_⟩
      · have h2 : slot t 2 = .pointer (some ⟨w.heap.size, 0, none⟩) := hf 2 (by kernel_rfl)
        have h18 : slot t 18 = .bool false := hp 18 (by kernel_rfl)
        clear hf hp
        refine stepAt_on 18 false (by kernel_rfl) h18 ?_
        exact stepOK_pure (.agg (hdC a0)) (loadHd rfl h2 (R2.out.kept hk)) rfl
      refine ⟨fun t w1 hf hk hp => ?_, ?_⟩
      · have h19 : slot t 19 = .agg (hdC a0) := hp 19 (by kernel_rfl)
        have h18 : slot t 18 = .bool false := hp 18 (by kernel_rfl)
        clear hf hp
        refine stepAt_on 18 false (by kernel_rfl) h18 ?_
        refine stepOK_call #[.agg (hdC a0)] rfl (by simp only [List.map_toArray, List.map_cons, List.map_nil, evS, h19]) (by go_simp) ((C3.out w1 (HT.out.kept (K1.out.trans hk))).mono fun e w' ⟨he, hk'⟩ => ⟨_, he, hk', rfl⟩)
      refine ⟨fun t w1 hf hk hp => ?_, ?_⟩
      · have h3 : slot t 3 = .pointer (some ⟨w.heap.size + 1, 0, none⟩) := hf 3 (by kernel_rfl)
        have h18 : slot t 18 = .bool false := hp 18 (by kernel_rfl)
        clear hf hp
        refine stepAt_on 18 false (by kernel_rfl) h18 ?_
        exact stepOK_pure (.agg (hdC a0)) (loadHd rfl h3 (R3.out.kept hk)) rfl
      refine ⟨fun t w1 hf hk hp => ?_, ?_⟩
      · have h21 : slot t 21 = .agg (hdC a0) := hp 21 (by kernel_rfl)
        have h18 : slot t 18 = .bool false := hp 18 (by kernel_rfl)
        clear hf hp
        refine stepAt_on 18 false (by kernel_rfl) h18 ?_
        refine stepOK_call #[.agg (hdC a0)] rfl (by simp only [List.map_toArray, List.map_cons, List.map_nil, evS, h21]) (by go_simp) ((C3.out w1 (HT.out.kept (K1.out.trans hk))).mono fun e w' ⟨he, hk'⟩ => ⟨_, he, hk', rfl⟩)
      refine ⟨fun t w1 hf hk hp => ?_, ?_⟩
      · have h20 : slot t 20 = .agg (bC 32 I) := hp 20 (by kernel_rfl)
        have h22 : slot t 22 = .agg (bC 32 I) := hp 22 (by kernel_rfl)
        have h18 : slot t 18 = .bool false := hp 18 (by kernel_rfl)
        clear hf hp
        refine stepAt_on 18 false (by kernel_rfl) h18 ?_
        exact stepOK_pure (.bool true) (execEqH1 I hI0 w1 rfl h20 h22) rfl
      refine ⟨fun t w1 hf hk hp => ?_, ?_⟩
      · have h18 : slot t 18 = .bool false := hp 18 (by kernel_rfl)
        have h23 : slot t 23 = .bool true := hp 23 (by kernel_rfl)
        have h14 : slot t 14 = .bool true := hp 14 (by kernel_rfl)
        clear hf hp
        refine stepAt_on 14 true (by kernel_rfl) h14 ?_
        refine stepOK_pure (.bool true) ?_ rfl
        simp only [execOp, evS, h18, h23]
        go_simp
      refine ⟨fun t w1 hf hk hp => ?_, ?_⟩
      · have h14 : slot t 14 = .bool true := hp 14 (by kernel_rfl)
        have h24 : slot t 24 = .bool true := hp 24 (by kernel_rfl)
        clear hf hp
        refine stepAt_plain rfl ?_
        refine stepOK_pure (.bool true) ?_ rfl
        simp only [execOp, evS, h14, h24]
        go_simp
      refine ⟨fun t w1 hf hk hp => ?_, ?_⟩
      · have h25 : slot t 25 = .bool true := hp 25 (by kernel_rfl)
        clear hf hp
        refine stepAt_plain rfl ?_
        exact stepOK_move _ (.inl rfl) h25
      refine ⟨fun t w1 hf hk hp => ?_, ?_⟩
      · have h26 : slot t 26 = .bool true := hp 26 (by kernel_rfl)
        clear hf hp
        refine stepAt_on 26 true (by kernel_rfl) h26 ?_
        refine stepOK_call #[] rfl (by simp only [List.map_toArray, List.map_nil]) (by go_simp) ((HA.out w1 (HT.out.kept (K1.out.trans hk))).mono fun e w' ⟨he, hk'⟩ => ⟨_, he, hk', rfl⟩)
      refine ⟨fun t w1 hf hk hp => ?_, ?_⟩
      · have h26 : slot t 26 = .bool true := hp 26 (by kernel_rfl)
        have h27 : slot t 27 = .bool true := hp 27 (by kernel_rfl)
        clear hf hp
        refine stepAt_plain rfl ?_
        refine stepOK_pure (.bool true) ?_ rfl
        simp only [execOp, evS, h26, h27]
        go_simp
      refine ⟨fun t w1 hf hk hp => ?_, ?_⟩
      · have h28 : slot t 28 = .bool true := hp 28 (by kernel_rfl)
        clear hf hp
        refine stepAt_plain rfl ?_
        exact stepOK_move _ (.inr rfl) h28
      exact trivial
    · intro t w1 hsz hf hk hfacts
      have h4 : slot t 4 = .bool true := hfacts 24 _ rfl 4 rfl
      have h2 : slot t 2 = .pointer (some ⟨w.heap.size, 0, none⟩) := hf 2 (by kernel_rfl)
      have h3 : slot t 3 = .pointer (some ⟨w.heap.size + 1, 0, none⟩) := hf 3 (by kernel_rfl)
      have harr : t = #[slot t 0, slot t 1, slot t 2, slot t 3, slot t 4, slot t 5, slot t 6, slot t 7, slot t 8, slot t 9, slot t 10, slot t 11, slot t 12, slot t 13, slot t 14, slot t 15, slot t 16, slot t 17, slot t 18, slot t 19, slot t 20, slot t 21, slot t 22, slot t 23, slot t 24, slot t 25, slot t 26, slot t 27, slot t 28] := arr_eq t 29 hsz
      rw [harr, h4, h2, h3]
      clear harr hfacts hf h4 h2 h3
      generalize slot t 0 = x0; generalize slot t 1 = x1; generalize slot t 5 = x5; generalize slot t 6 = x6; generalize slot t 7 = x7; generalize slot t 8 = x8; generalize slot t 9 = x9; generalize slot t 10 = x10; generalize slot t 11 = x11; generalize slot t 12 = x12; generalize slot t 13 = x13; generalize slot t 14 = x14
      generalize slot t 15 = x15; generalize slot t 16 = x16; generalize slot t 17 = x17; generalize slot t 18 = x18; generalize slot t 19 = x19; generalize slot t 20 = x20; generalize slot t 21 = x21; generalize slot t 22 = x22; generalize slot t 23 = x23; generalize slot t 24 = x24; generalize slot t 25 = x25; generalize slot t 26 = x26
      generalize slot t 27 = x27; generalize slot t 28 = x28
      clear hsz t
      have K2 := Lib.hid (K1.out.trans hk)
      clear hk
      go_wp2_with fail
      go_ret
      exact ⟨rfl, K2.out⟩
  · have hst : ¬ s = s1 := fun e => h (hinj.1 e)
    have HD := Lib.hid h
    have HS := Lib.hid hst
    clear hinj h hst C3 C4 hI0
    go_enter Tryd.func5, Tryd.ntmps5
    go_wp2_with fail
    generalize (w.alloc (.cells (hdC a0) 32)).alloc (.cells (hdC a1) 32) = v1 at R2 R3 K1 ⊢
    refine wp_region_table [(5, .is (.agg (hdC a0))), (6, .is (.agg (hdC a1))), (7, .is (.bool false)), (8, .is (.agg (hdC a0))), (9, .is (.string s)), (10, .is (.agg (hdC a1))), (11, .is (.string s1)), (12, .is (.bool false)), (13, .is (.bool true)), (14, .is (.bool true)), (15, .is (.agg (hdC a0))), (16, .is (.agg (hdC a1))), (17, .is (.bool true)), (18, .is (.bool true)), (19, .is (undef)), (20, .is (undef)), (21, .is (undef)), (22, .is (undef)), (23, .is (undef)), (24, .is (.bool true)), (25, .is (.bool true)), (26, .is (.bool true)), (27, .is (.bool true)), (28, .is (.bool true)), (4, .is (.bool true))] (by kernel_rfl) (by kernel_rfl) ?_ ?_
    · refine ⟨fun t w1 hf hk hp => ?_, ?_⟩
      · have h2 : slot t 2 = .pointer (some ⟨w.heap.size, 0, none⟩) := hf 2 (by kernel_rfl)
        clear hf hp
        refine stepAt_plain rfl ?_
        exact stepOK_pure (.agg (hdC a0)) (loadHd rfl h2 (R2.out.kept hk)) rfl
      refine ⟨fun t w1 hf hk hp => ?_, ?_⟩
      · have h3 : slot t 3 = .pointer (some ⟨w.heap.size + 1, 0, none⟩) := hf 3 (by kernel_rfl)
        clear hf hp
        refine stepAt_plain rfl ?_
        exact stepOK_pure (.agg (hdC a1)) (loadHd rfl h3 (R3.out.kept hk)) rfl
      refine ⟨fun t w1 hf hk hp => ?_, ?_⟩
      · have h5 : slot t 5 = .agg (hdC a0) := hp 5 (by kernel_rfl)
        have h6 : slot t 6 = .agg (hdC a1) := hp 6 (by kernel_rfl)
        clear hf hp
        refine stepAt_plain rfl ?_
        exact stepOK_pure (.bool false) (execEqHdNo a0 a1 ho0.out ho1.out HD.out w1 rfl h5 h6) rfl
      refine ⟨fun t w1 hf hk hp => ?_, ?_⟩
      · have h2 : slot t 2 = .pointer (some ⟨w.heap.size, 0, none⟩) := hf 2 (by kernel_rfl)
        clear hf hp
        refine stepAt_plain rfl ?_
        exact stepOK_pure (.agg (hdC a0)) (loadHd rfl h2 (R2.out.kept hk)) rfl
      refine ⟨fun t w1 hf hk hp => ?_, ?_⟩
      · have h8 : slot t 8 = .agg (hdC a0) := hp 8 (by kernel_rfl)
        clear hf hp
        refine stepAt_plain rfl ?_
        refine stepOK_call #[.agg (hdC a0)] rfl (by simp only [List.map_toArray, List.map_cons, List.map_nil, evS, h8]) (by go_simp) ((C1.out w1).mono fun e w' ⟨he, hk'⟩ => ⟨_, he, hk', rfl⟩)
      refine ⟨fun t w1 hf hk hp => ?_, ?_⟩
      · have h3 : slot t 3 = .pointer (some ⟨w.heap.size + 1, 0, none⟩) := hf 3 (by kernel_rfl)
        clear hf hp
        refine stepAt_plain rfl ?_
        exact stepOK_pure (.agg (hdC a1)) (loadHd rfl h3 (R3.out.kept hk)) rfl
      refine ⟨fun t w1 hf hk hp => ?_, ?_⟩
      · have h10 : slot t 10 = .agg (hdC a1) := hp 10 (by kernel_rfl)
        clear hf hp
        refine stepAt_plain rfl ?_
        refine stepOK_call #[.agg (hdC a1)] rfl (by simp only [List.map_toArray, List.map_cons, List.map_nil, evS, h10]) (by go_simp) ((C2.out w1).mono fun e w' ⟨he, hk'⟩ => ⟨_, he, hk', rfl⟩)
      refine ⟨fun t w1 hf hk hp => ?_, ?_⟩
      · have h9 : slot t 9 = .string s := hp 9 (by kernel_rfl)
        have h11 : slot t 11 = .string s1 := hp 11 (by kernel_rfl)
        clear hf hp
        refine stepAt_plain rfl ?_
        exact stepOK_pure (.bool false) (execEqSNo s s1 HS.out w1 rfl h9 h11) rfl
      refine ⟨fun t w1 hf hk hp => ?_, ?_⟩
      · have h7 : slot t 7 = .bool false := hp 7 (by kernel_rfl)
        have h12 : slot t 12 = .bool false := hp 12 (by kernel_rfl)
        clear hf hp
        refine stepAt_plain rfl ?_
        refine stepOK_pure (.bool true) ?_ rfl
        simp only [execOp, evS, h7, h12]
        go_simp
      refine ⟨fun t w1 hf hk hp => ?_, ?_⟩
      · have h13 : slot t 13 = .bool true := hp 13 (by kernel_rfl)
        clear hf hp
        refine stepAt_plain rfl ?_
        exact stepOK_move _ (.inl rfl) h13
      refine ⟨fun t w1 hf hk hp => ?_, ?_⟩
      · have h2 : slot t 2 = .pointer (some ⟨w.heap.size, 0, none⟩) := hf 2 (by kernel_rfl)
        have h14 : slot t 14 = .bool true := hp 14 (by kernel_rfl)
        clear hf hp
        refine stepAt_on 14 true (by kernel_rfl) h14 ?_
        exact stepOK_pure (.agg (hdC a0)) (loadHd rfl h2 (R2.out.kept hk)) rfl
      refine ⟨fun t w1 hf hk hp => ?_, ?_⟩
      · have h3 : slot t 3 = .pointer (some ⟨w.heap.size + 1, 0, none⟩) := hf 3 (by kernel_rfl)
        have h14 : slot t 14 = .bool true := hp 14 (by kernel_rfl)
        clear hf hp
        refine stepAt_on 14 true (by kernel_rfl) h14 ?_
        exact stepOK_pure (.agg (hdC a1)) (loadHd rfl h3 (R3.out.kept hk)) rfl
      refine ⟨fun t w1 hf hk hp => ?_, ?_⟩
      · have h15 : slot t 15 = .agg (hdC a0) := hp 15 (by kernel_rfl)
        have h16 : slot t 16 = .agg (hdC a1) := hp 16 (by kernel_rfl)
        have h14 : slot t 14 = .bool true := hp 14 (by kernel_rfl)
        clear hf hp
        refine stepAt_on 14 true (by kernel_rfl) h14 ?_
        exact stepOK_pure (.bool true) (execNeHdYes a0 a1 ho0.out ho1.out HD.out w1 rfl h15 h16) rfl
      refine ⟨fun t w1 hf hk hp => ?_, ?_⟩
      · have h17 : slot t 17 = .bool true := hp 17 (by kernel_rfl)
        have h14 : slot t 14 = .bool true := hp 14 (by kernel_rfl)
        clear hf hp
        refine stepAt_on 14 true (by kernel_rfl) h14 ?_
        exact stepOK_move _ (.inl rfl) h17
      refine ⟨fun t w1 hf hk hp => ?_, ?_⟩
      · have h18 : slot t 18 = .bool true := hp 18 (by kernel_rfl)
        clear hf hp
        exact stepAt_off 18 false (by kernel_rfl) h18 rfl
      refine ⟨fun t w1 hf hk hp => ?_, ?_⟩
      · have h18 : slot t 18 = .bool true := hp 18 (by kernel_rfl)
        clear hf hp
        exact stepAt_off 18 false (by kernel_rfl) h18 rfl
      refine ⟨fun t w1 hf hk hp => ?_, ?_⟩
      · have h18 : slot t 18 = .bool true := hp 18 (by kernel_rfl)
        clear hf hp
        exact stepAt_off 18 false (by kernel_rfl) h18 rfl
      refine ⟨fun t w1 hf hk hp => ?_, ?_⟩
      · have h18 : slot t 18 = .bool true := hp 18 (by kernel_rfl)
        clear hf hp
        exact stepAt_off 18 false (by kernel_rfl) h18 rfl
      refine ⟨fun t w1 hf hk hp => ?_, ?_⟩
      · have h18 : slot t 18 = .bool true := hp 18 (by kernel_rfl)
        clear hf hp
        exact stepAt_off 18 false (by kernel_rfl) h18 rfl
      refine ⟨fun t w1 hf hk hp => ?_, ?_⟩
      · have h18 : slot t 18 = .bool true := hp 18 (by kernel_rfl)
        have h23 : slot t 23 = undef := hp 23 (by kernel_rfl)
        have h14 : slot t 14 = .bool true := hp 14 (by kernel_rfl)
        clear hf hp
        refine stepAt_on 14 true (by kernel_rfl) h14 ?_
        refine stepOK_pure (.bool true) ?_ rfl
        simp only [execOp, evS, h18, h23]
        go_simp
      refine ⟨fun t w1 hf hk hp => ?_, ?_⟩
      · have h14 : slot t 14 = .bool true := hp 14 (by kernel_rfl)
        have h24 : slot t 24 = .bool true := hp 24 (by kernel_rfl)
        clear hf hp
        refine stepAt_plain rfl ?_
        refine stepOK_pure (.bool true) ?_ rfl
        simp only [execOp, evS, h14, h24]
        go_simp
      refine ⟨fun t w1 hf hk hp => ?_, ?_⟩
      · have h25 : slot t 25 = .bool true := hp 25 (by kernel_rfl)
        clear hf hp
        refine stepAt_plain rfl ?_
        exact stepOK_move _ (.inl rfl) h25
      refine ⟨fun t w1 hf hk hp => ?_, ?_⟩
      · have h26 : slot t 26 = .bool true := hp 26 (by kernel_rfl)
        clear hf hp
        refine stepAt_on 26 true (by kernel_rfl) h26 ?_
        refine stepOK_call #[] rfl (by simp only [List.map_toArray, List.map_nil]) (by go_simp) ((HA.out w1 (HT.out.kept (K1.out.trans hk))).mono fun e w' ⟨he, hk'⟩ => ⟨_, he, hk', rfl⟩)
      refine ⟨fun t w1 hf hk hp => ?_, ?_⟩
      · have h26 : slot t 26 = .bool true := hp 26 (by kernel_rfl)
        have h27 : slot t 27 = .bool true := hp 27 (by kernel_rfl)
        clear hf hp
        refine stepAt_plain rfl ?_
        refine stepOK_pure (.bool true) ?_ rfl
        simp only [execOp, evS, h26, h27]
        go_simp
      refine ⟨fun t w1 hf hk hp => ?_, ?_⟩
      · have h28 : slot t 28 = .bool true := hp 28 (by kernel_rfl)
        clear hf hp
        refine stepAt_plain rfl ?_
        exact stepOK_move _ (.inr rfl) h28
      exact trivial
    · intro t w1 hsz hf hk hfacts
      have h4 : slot t 4 = .bool true := hfacts 24 _ rfl 4 rfl
      have h2 : slot t 2 = .pointer (some ⟨w.heap.size, 0, none⟩) := hf 2 (by kernel_rfl)
      have h3 : slot t 3 = .pointer (some ⟨w.heap.size + 1, 0, none⟩) := hf 3 (by kernel_rfl)
      have harr : t = #[slot t 0, slot t 1, slot t 2, slot t 3, slot t 4, slot t 5, slot t 6, slot t 7, slot t 8, slot t 9, slot t 10, slot t 11, slot t 12, slot t 13, slot t 14, slot t 15, slot t 16, slot t 17, slot t 18, slot t 19, slot t 20, slot t 21, slot t 22, slot t 23, slot t 24, slot t 25, slot t 26, slot t 27, slot t 28] := arr_eq t 29 hsz
      rw [harr, h4, h2, h3]
      clear harr hfacts hf h4 h2 h3
      generalize slot t 0 = x0; generalize slot t 1 = x1; generalize slot t 5 = x5; generalize slot t 6 = x6; generalize slot t 7 = x7; generalize slot t 8 = x8; generalize slot t 9 = x9; generalize slot t 10 = x10; generalize slot t 11 = x11; generalize slot t 12 = x12; generalize slot t 13 = x13; generalize slot t 14 = x14
      generalize slot t 15 = x15; generalize slot t 16 = x16; generalize slot t 17 = x17; generalize slot t 18 = x18; generalize slot t 19 = x19; generalize slot t 20 = x20; generalize slot t 21 = x21; generalize slot t 22 = x22; generalize slot t 23 = x23; generalize slot t 24 = x24; generalize slot t 25 = x25; generalize slot t 26 = x26
      generalize slot t 27 = x27; generalize slot t 28 = x28
      clear hsz t
      have K2 := Lib.hid (K1.out.trans hk)
      clear hk
      go_wp2_with fail
      go_ret
      exact ⟨rfl, K2.out⟩

set_option maxRecDepth 100000 in
set_option maxHeartbeats 1000000 in
theorem lifted (os : Os) (started : os.Started) (H : Type) (enc : TypeId × Value → H) :
    ReturnsInHanded {} Tryd.checked os 5 .any (fun w args => (Rows.identApartSpec.pre enc Tryd.prog Tryd.f5 [] false w args ∧ laidMetH Tryd.prog Rows.identApartRow.laid w) ∧ sizedMet enc Tryd.prog Tryd.f5 (OpenSpec.ofChange Rows.identApartSpec) false w args)
      (Rows.identApartSpec.post enc Tryd.prog Tryd.f5 false true false false) := by
  refine returnsInHanded_of_change_and (C := Tryd.checked) (X := fun w _ => laidMetH Tryd.prog Rows.identApartRow.laid w) (fun _ _ _ hh h => h.of_heap hh) own started (by kernel_rfl) Tryd.func5
    (ChangeSpec.witness_shaped (enc := enc) (C := Tryd.checked) (os := os) (X := fun w _ => laidMetH Tryd.prog Rows.identApartRow.laid w) false (World.doorLaid Tryd.prog 400 os) #[.agg #[.int .u32 0, .int .u8 0, .int .u8 0, .int .u8 0, .int .u8 0, .int .u8 0, .int .u8 0, .int .u8 0, .int .u8 0, .int .u8 0, .int .u8 0, .int .u8 0, .int .u8 0, .int .u8 0, .int .u8 0, .int .u8 0, .int .u8 0, .int .u8 0, .int .u8 0, .int .u8 0, .int .u8 0, .int .u8 0, .int .u8 0, .int .u8 0, .int .u8 0, .int .u8 0, .int .u8 0, .int .u8 0, .int .u8 0, .int .u8 0, .int .u8 0, .int .u8 0, .int .u8 0, .int .u8 0, .int .u8 0, .int .u8 0, .int .u8 0, .int .u8 0, .int .u8 0, .int .u8 0, .int .u8 0, .int .u8 0, .int .u8 0, .int .u8 0, .int .u8 0, .int .u8 0, .int .u8 0, .int .u8 0, .int .u8 0, .int .u8 0, .int .u8 0, .int .u8 0, .int .u8 0, .int .u8 0, .int .u8 0, .int .u8 0, .int .u8 0, .int .u8 0, .int .u8 0, .int .u8 0, .int .u8 0, .int .u8 0, .int .u8 0, .int .u8 0, .int .u8 0, .int .u64 0], .agg #[.int .u32 0, .int .u8 0, .int .u8 0, .int .u8 0, .int .u8 0, .int .u8 0, .int .u8 0, .int .u8 0, .int .u8 0, .int .u8 0, .int .u8 0, .int .u8 0, .int .u8 0, .int .u8 0, .int .u8 0, .int .u8 0, .int .u8 0, .int .u8 0, .int .u8 0, .int .u8 0, .int .u8 0, .int .u8 0, .int .u8 0, .int .u8 0, .int .u8 0, .int .u8 0, .int .u8 0, .int .u8 0, .int .u8 0, .int .u8 0, .int .u8 0, .int .u8 0, .int .u8 0, .int .u8 0, .int .u8 0, .int .u8 0, .int .u8 0, .int .u8 0, .int .u8 0, .int .u8 0, .int .u8 0, .int .u8 0, .int .u8 0, .int .u8 0, .int .u8 0, .int .u8 0, .int .u8 0, .int .u8 0, .int .u8 0, .int .u8 0, .int .u8 0, .int .u8 0, .int .u8 0, .int .u8 0, .int .u8 0, .int .u8 0, .int .u8 0, .int .u8 0, .int .u8 0, .int .u8 0, .int .u8 0, .int .u8 0, .int .u8 0, .int .u8 0, .int .u8 0, .int .u64 0]] 8 rfl (World.shaped_of_RefB (by kernel_rfl) (by kernel_rfl)) (by kernel_rfl) (by kernel_rfl) (by kernel_rfl) (door_met os _)) ?_
  intro W base args ds gs before hval0 hW _ hsz0 hL _
  have hval : ∀ (j : Nat) t v, Tryd.f5.params[j]? = some t → args[j]? = some v → Value.okWide Tryd.prog W .any base t v := hval0
  have hsz : (DataW.weightsEach Tryd.prog (Tryd.f5.params.toList ++ Rows.identApartSpec.plain.varTypes Tryd.prog) (ds ++ gs)).all (· ≤ reachBytes) = true := hsz0
  have hW' := hW
  obtain ⟨p, q, hA0, hV, rfl, hfz, hnd⟩ := hW
  have hA : DataW.TrodAll enc Tryd.prog W 0 (fun _ => true) true Tryd.f5.params.toList args.toList ds p := hA0
  have hAk := hA
  rw [Tryd.params5] at hA hval hsz
  obtain ⟨v0, vs0, d0, ds0, p0_, q0_, hargs, rfl, rfl, h0, r0_⟩ := trodAll_cons hA
  obtain ⟨v1, vs1, d1, ds1, p1_, q1_, rfl, rfl, rfl, h1, r1_⟩ := trodAll_cons r0_
  obtain ⟨rfl, rfl, rfl⟩ := trodAll_nil r1_
  obtain rfl : args = #[v0, v1] := by cases args; simp_all
  obtain ⟨rfl, rfl⟩ := trodVars_none hV
  have hlt : ∀ x ∈ (p0_ ++ (p1_ ++ ([]))), x.block < W.heap.size := fun x hx => by simpa using hW'.lt x (by simpa using hx)
  obtain ⟨cs0, rfl, _⟩ := okWide_struct Tryd.underlying32 (hval 0 32 v0 rfl rfl)
  obtain ⟨a0, w0, rfl⟩ := open_header Tryd.underlying32 (by kernel_rfl) ⟨rfl, rfl, rfl, rfl⟩ ⟨by kernel_rfl, by kernel_rfl, by kernel_rfl, by kernel_rfl⟩ Tryd.underlying29 Tryd.underlying27 Tryd.underlying27 Tryd.underlying30 Tryd.underlying5 (by kernel_rfl) h0
  obtain ⟨cs1, rfl, _⟩ := okWide_struct Tryd.underlying32 (hval 1 32 v1 rfl rfl)
  obtain ⟨a1, w1, rfl⟩ := open_header Tryd.underlying32 (by kernel_rfl) ⟨rfl, rfl, rfl, rfl⟩ ⟨by kernel_rfl, by kernel_rfl, by kernel_rfl, by kernel_rfl⟩ Tryd.underlying29 Tryd.underlying27 Tryd.underlying27 Tryd.underlying30 Tryd.underlying5 (by kernel_rfl) h1
  clear hA0 hval0
  refine (walk a0 w0 a1 w1 W  (tab_of_laid hL)).mono fun e W' ⟨he, hg⟩ => ?_
  subst he
  exact ⟨_, rfl, ⟨_, _, _, [], _, [], hW', trodAll_cons_mk (shut_bool Tryd.underlying4 _) trodAll_mk0, trodAll_stays laidOut hg (by kernel_rfl) hAk hlt (fun x hx => by simpa using hlt x hx), rfl, Kept.frame hg _, fun h => by cases h⟩⟩

theorem over : Rows.identApartRow.holds Tryd.pinned (OpenSpec.ofChange Rows.identApartSpec) :=
  OpenClaim.holds_of_wide 5 Tryd.f5 rfl rfl rfl rfl rfl rfl rfl ⟨rfl, rfl, rfl, rfl, rfl⟩ rfl rfl rfl rfl rfl (by kernel_rfl) Tryd.func5 (by kernel_rfl)
    (of_decide_eq_true (by kernel_rfl)) (by unfold Func.isWrapper; first | (rw [if_pos (by decide +kernel)]; kernel_rfl) | (rw [if_neg (by decide +kernel)]; exact ⟨rfl, rfl⟩))
    (fun os started H enc _ => lifted os started H enc)
end Go.Proofs.YtncnlmjhejminaaDoor.identApart
namespace Go.Proofs.YtncnlmjhejminaaDoor
theorem identApart_holds : Rows.IdentApartSaid := identApart.over
theorem identApart_card : Rows.IdentApartCardSaid :=
  Claim7.holds_tied_plain_at .later [] [.data] true (true, "f76569e19b13405f4d40f90b9e0120c3d7734e180611063ab5fdfb662327150c") false
    identApart_holds (fun _ h => by cases h) (by kernel_rfl) (fun _ h => by cases h) identApart_row_tie rfl ⟨rfl, rfl⟩ (by kernel_rfl) rfl
    (fun f fn hf hfn => by
      obtain rfl : f = 5 := Option.some.inj ((show Tryd.prog.funcNamed "milepost/milepostlaw18.IdentApart" = some 5 by kernel_rfl).symm.trans hf) |>.symm
      obtain rfl : fn = Tryd.f5 := (Option.some.inj (Tryd.func5.symm.trans hfn)).symm
      refine ⟨by kernel_rfl, fun j t ht => ?_⟩
      have hm : t ∈ Tryd.f5.params.toList := by simpa using Array.mem_of_getElem? ht
      have hall : (Tryd.f5.params.toList.all fun u => !Tryd.prog.wantsStandIn u) = true := by kernel_rfl
      exact (show Tryd.prog.wantsStandIn t = false by simpa using List.all_eq_true.1 hall t hm))
    (by kernel_rfl)
#print axioms identApart_card
end Go.Proofs.YtncnlmjhejminaaDoor
