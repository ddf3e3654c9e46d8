/-
  Whether an opening is valid, which root it determines of a leaf, and whether it holds for a root are the reference's answers; the hashes on the way are as many as the path has and one, the first that of the leaf; the law's example holds: 'HoldTells' returns true for every input.
  Conditions: those of the given card (sha's table of round constants as the program's text lays it).
-/
import Derived.Test.YtljkhlbfjcbkiaaDoorRows
import Derived.Test.YtljkhlbfjcbkiaaDoorHoldLaw
import Derived.Test.YtljkhlbfjcbkiaaDoorOpe
import Derived.WalkKit
import Derived.ProofKit
import Derived.OpenShut
import Derived.ShutString
import Derived.SizedLaws
import Derived.Test.YtljkhlbfjcbkiaaDoorBas
import Derived.LaidMore
import Derived.SevenTiedAt
import Derived.Test.YtljkhlbfjcbkiaaDoorCards
import Derived.Test.YtljkhlbfjcbkiaaDoorTie
import Derived.Test.YtljkhlbfjcbkiaaDoorShb
namespace Go.Proofs.YtljkhlbfjcbkiaaDoor.holdTells
open Go.ChangeShapes Go.WideShapes Go.ChangeAt Go.RowKit
open Go.ChangeMaps (open_string shut_string)
set_option linter.unusedVariables false

theorem own : ownKnob Tryd.prog.godebug = none := by kernel_rfl
theorem laidOut : laidOutB Tryd.prog = true := by kernel_rfl

set_option maxRecDepth 100000 in
set_option maxHeartbeats 4000000 in
theorem walk (a0 : List UInt8) (n0 : a0.length = 32) (a1 : ByteArray) (w1 : a1.size ≤ maxLen) (r1 : a1.size ≤ 140737488351232) (a2 b2 : Int) (p2 : Option Addr) (n2 c2 : Nat) (F2 : Nat → List UInt8) (w2 : (Lit.int .i64 a2).wf = true ∧ (Lit.int .i64 b2).wf = true) (z2 : n2 ≤ c2 ∧ c2 ≤ maxLen) (w : World) (e2 : HAt w p2 n2 F2) (hT : Tab w) :
    Calls Tryd.prog 3 #[.agg (bC 32 a0), .string a1, .agg #[.int .i64 a2, .int .i64 b2, .slice p2 n2 c2]] w fun e w' => e = .returned (.bool true) ∧ Kept w w' := by
  have X0 := Lib.hid (show HSl n2 F2 (.slice p2 n2 c2) w from ⟨p2, c2, rfl, z2.1, z2.2, e2⟩)
  have HT := Lib.hid hT
  have HA : Hid (∀ w, Tab w → _) := Lib.hid fun w ht => awake14_any w ht
  have K1 := Lib.hid (((Kept.refl w).alloc (.cells (bC 32 a0) 23)).alloc (.cells #[.int .i64 a2, .int .i64 b2, .slice p2 n2 c2] 26))
  have R3 := Lib.hid ((Rowz.new w (bC 32 a0) 23).alloc (.cells #[.int .i64 a2, .int .i64 b2, .slice p2 n2 c2] 26))
  have R5 := Lib.hid (Rowz.newEq1 w (.cells (bC 32 a0) 23) _ #[.int .i64 a2, .int .i64 b2, .slice p2 n2 c2] 26 rfl)
  by_cases h2 : 2000 < a1.size
  · have hd1 : decide ((a1.size : Int) > 2000) = true := decide_eq_true (by omega)
    have hd1' : decide ((2000 : Int) < (a1.size : Int)) = true := decide_eq_true (by omega)
    clear X0 R3 R5 hT e2 z2 w2
    go_enter Tryd.func3, Tryd.ntmps3
    go_wp2_with fail
    refine (HA.out _ (HT.out.kept K1.out)).mono ?_
    rintro e u1 ⟨rfl, k1⟩
    have K2 := Lib.hid (K1.out.trans k1)
    clear k1 K1
    go_wp2_with fail
    go_ret
    exact ⟨rfl, K2.out⟩
  · have hd1 : decide ((a1.size : Int) > 2000) = false := decide_eq_false (by omega)
    have hd1' : decide ((2000 : Int) < (a1.size : Int)) = false := decide_eq_false (by omega)
    have hs : a1.size ≤ 1000000 := by omega
    have H1 : Hid (∀ w, HSl n2 F2 (.slice p2 n2 c2) w → Tab w → _) := Lib.hid fun w h ht => holdRoot_any a1 hs a2 b2 n2 F2 _ w h ht
    have H2 : Hid (∀ w, HSl n2 F2 (.slice p2 n2 c2) w → _) := Lib.hid fun w h => refTold_any a1 hs a2 b2 n2 F2 _ w h
    have H3 : Hid (∀ w, HSl n2 F2 (.slice p2 n2 c2) w → Tab w → _) := Lib.hid fun w h ht => holdUp_any a1 hs a2 b2 n2 F2 _ w h ht
    have H4 : Hid (∀ w, _) := Lib.hid fun w => holdMay_any a2 b2 p2 n2 c2 w
    have H5 : Hid (∀ w, _) := Lib.hid fun w => refMay_any a2 b2 p2 n2 c2 w
    have H6 : Hid (∀ w, HSl n2 F2 (.slice p2 n2 c2) w → Tab w → _) := Lib.hid fun w h ht => holdCheck_any a0 n0 a1 hs a2 b2 n2 F2 _ w h ht
    have H7 : Hid (∀ w, HSl n2 F2 (.slice p2 n2 c2) w → _) := Lib.hid fun w h => refCheck_any a0 n0 a1 hs a2 b2 n2 F2 _ w h
    have hR := rtO_length a1 a2 b2 n2 F2
    have H8 : Hid (mayE a2 b2 n2 = 0 → ∀ w, HSl n2 F2 (.slice p2 n2 c2) w → Tab w → Calls Tryd.prog 11 #[.agg (bC 32 (rtO a1 a2 b2 n2 F2)), .string a1, .agg #[.int .i64 a2, .int .i64 b2, .slice p2 n2 c2]] w fun e w' => e = .returned (.bool true) ∧ Kept w w') := Lib.hid fun h0 w h ht => by
      have := holdCheck_any (rtO a1 a2 b2 n2 F2) hR a1 hs a2 b2 n2 F2 _ w h ht
      rwa [ckO_own _ _ _ _ _ h0] at this
    have H9 : Hid (∀ (w : World) (g : Nat), Rowz w g #[.string a1] 9 → Calls Tryd.prog 13 #[.slice (some ⟨g, 0, none⟩) 1 1] w fun e w' => ∃ v, e = .returned v ∧ HSl 1 (fun _ => shaL (leafS a1)) v w' ∧ Kept w w') := Lib.hid fun w g h =>
      refLeaves_at (some ⟨g, 0, none⟩) 1 1 (fun _ => a1) w (sat_one h) (fun _ _ => hs) (by omega)
    have hBB : ((ckO a0 a1 a2 b2 n2 F2) != (ckO a0 a1 a2 b2 n2 F2)) = false := by cases ckO a0 a1 a2 b2 n2 F2 <;> rfl
    have HU1 : Hid (mayE a2 b2 n2 = 0 → (upO a1 a2 b2 n2 F2).length = n2 + 1 ∧ (∀ x ∈ upO a1 a2 b2 n2 F2, x.length = 32) ∧ lh (upO a1 a2 b2 n2 F2) 0 = shaL (leafS a1)) := Lib.hid fun h0 => by
      obtain ⟨i, n, h1, h2, h3, h4, h5, h6⟩ := mayE_nat h0
      rw [upO, if_pos h0]
      refine ⟨upsL_length _ _ _ _ _ _, upsL_32 _ _ _ _ _ (by rw [h1, h2]; exact h5), upsL_first _ _ _ _ _ _⟩
    have HU0 : Hid (¬ mayE a2 b2 n2 = 0 → upO a1 a2 b2 n2 F2 = []) := Lib.hid fun h0 => if_neg h0
    have HM : Hid (mayE a2 b2 n2 = 0 → n2 ≤ 63) := Lib.hid fun h0 => by obtain ⟨i, n, _, _, _, _, _, h6⟩ := mayE_nat h0; exact h6
    have hH : (shaL (leafS a1)).length = 32 := shaL_length _
    clear h2 hs hT e2 z2 w2
    generalize shaL (leafS a1) = H at H9 HU1 hH
    generalize ckO a0 a1 a2 b2 n2 F2 = B at H6 H7 hBB
    generalize rtO a1 a2 b2 n2 F2 = R at H1 H2 H8 hR
    generalize upO a1 a2 b2 n2 F2 = L at H3 HU1 HU0
    generalize mayE a2 b2 n2 = E at H1 H2 H4 H5 H8 HU1 HU0 HM
    have hEE : (E != E) = false := by simp
    go_enter Tryd.func3, Tryd.ntmps3
    go_wp2_with fail
    change Calls _ _ _ ((w.alloc (.cells (bC 32 a0) 23)).alloc (.cells #[.int .i64 a2, .int .i64 b2, .slice p2 n2 c2] 26)) _
    replace X0 := Lib.hid (HSl.kept _ _ _ _ _ K1.out X0.out)
    generalize (w.alloc (.cells (bC 32 a0) 23)).alloc (.cells #[.int .i64 a2, .int .i64 b2, .slice p2 n2 c2] 26) = v1 at K1 R3 R5 X0 ⊢
    refine (H1.out v1 X0.out (HT.out.kept K1.out)).mono ?_
    rintro e v2 ⟨rfl, k2⟩
    replace X0 := Lib.hid (HSl.kept _ _ _ _ _ k2 X0.out)
    replace R3 := Lib.hid (R3.out.kept k2)
    replace R5 := Lib.hid (R5.out.kept k2)
    have K2 := Lib.hid (K1.out.trans k2)
    clear k2 K1 H1
    have c0 := R5.out.cell 0
    go_wp2_with (refine wpList_store_made rfl 23 _ _ rfl _ _ (bC 32 R) rfl rfl 23 _ rfl (info_hash _) (by simp [bC_size]) (bC_one _ _) ?_; intro v3 R7 k3; replace R5 := Lib.hid (R5.out.kept k3.out); have c0 := R5.out.cell 0; have c1 := R5.out.cell 1; have c2 := R5.out.cell 2)
    clear c0 c1 c2
    replace X0 := Lib.hid (HSl.kept _ _ _ _ _ k3.out X0.out)
    replace R3 := Lib.hid (R3.out.kept k3.out)
    have K3 := Lib.hid (K2.out.trans k3.out)
    clear k3 K2
    obtain ⟨g7, hg7⟩ : ∃ g, g = v2.heap.size := ⟨_, rfl⟩
    rw [← hg7] at R7 ⊢
    clear hg7
    refine (H2.out v3 X0.out).mono ?_
    rintro e v4 ⟨rfl, k4⟩
    replace X0 := Lib.hid (HSl.kept _ _ _ _ _ k4 X0.out)
    replace R3 := Lib.hid (R3.out.kept k4)
    replace R5 := Lib.hid (R5.out.kept k4)
    replace R7 := Lib.hid (R7.out.kept k4)
    have K4 := Lib.hid (K3.out.trans k4)
    clear k4 K3 H2
    go_wp2_with (refine wpList_store_made rfl 23 _ _ rfl _ _ (bC 32 R) rfl rfl 23 _ rfl (info_hash _) (by simp [bC_size]) (bC_one _ _) ?_; intro v5 R9 k5; replace R5 := Lib.hid (R5.out.kept k5.out); have c0 := R5.out.cell 0; have c1 := R5.out.cell 1; have c2 := R5.out.cell 2)
    clear c0 c1 c2
    replace X0 := Lib.hid (HSl.kept _ _ _ _ _ k5.out X0.out)
    replace R3 := Lib.hid (R3.out.kept k5.out)
    replace R7 := Lib.hid (R7.out.kept k5.out)
    have K5 := Lib.hid (K4.out.trans k5.out)
    clear k5 K4
    obtain ⟨g9, hg9⟩ : ∃ g, g = v4.heap.size := ⟨_, rfl⟩
    rw [← hg9] at R9 ⊢
    clear hg9
    refine (H3.out v5 X0.out (HT.out.kept K5.out)).mono ?_
    rintro e v6 ⟨x, rfl, hx, k6⟩
    have HX := Lib.hid hx
    replace X0 := Lib.hid (HSl.kept _ _ _ _ _ k6 X0.out)
    replace R3 := Lib.hid (R3.out.kept k6)
    replace R5 := Lib.hid (R5.out.kept k6)
    replace R7 := Lib.hid (R7.out.kept k6)
    replace R9 := Lib.hid (R9.out.kept k6)
    have K6 := Lib.hid (K5.out.trans k6)
    clear k6 K5 H3 hx
    go_wp2_with fail
    refine wp_region_table [(31, .is (.agg (bC 32 R))), (32, .is (.agg (bC 32 R))), (33, .is (.bool false)), (34, .is (.bool false)), (35, .is (.int .i64 E)), (36, .is (.int .i64 E)), (37, .is (.bool false)), (38, .is (.bool false)), (39, .is (.bool false)), (40, .is (.agg #[.int .i64 a2, .int .i64 b2, .slice p2 n2 c2])), (41, .is (.int .i64 E)), (42, .is (.agg #[.int .i64 a2, .int .i64 b2, .slice p2 n2 c2])), (43, .is (.int .i64 E)), (44, .is (.bool false)), (45, .is (.bool false)), (46, .is (.bool false)), (47, .is (.agg (bC 32 a0))), (48, .is (.string a1)), (49, .is (.agg #[.int .i64 a2, .int .i64 b2, .slice p2 n2 c2])), (50, .is (.bool B)), (51, .is (.agg (bC 32 a0))), (52, .is (.string a1)), (53, .is (.agg #[.int .i64 a2, .int .i64 b2, .slice p2 n2 c2])), (54, .is (.bool B)), (55, .is (.bool false)), (56, .is (.bool false))] (by kernel_rfl) (by kernel_rfl) ?_ ?_
    · refine ⟨fun t w1 hf hk hp => ?_, ?_⟩
      · have h7 : slot t 7 = .pointer (some ⟨g7, 0, none⟩) := hf 7 (by kernel_rfl)
        clear hf hp
        refine stepAt_plain rfl ?_
        exact stepOK_pure (.agg (bC 32 R)) (loadHr rfl h7 (R7.out.kept hk)) rfl
      refine ⟨fun t w1 hf hk hp => ?_, ?_⟩
      · have h9 : slot t 9 = .pointer (some ⟨g9, 0, none⟩) := hf 9 (by kernel_rfl)
        clear hf hp
        refine stepAt_plain rfl ?_
        exact stepOK_pure (.agg (bC 32 R)) (loadHr rfl h9 (R9.out.kept hk)) rfl
      refine ⟨fun t w1 hf hk hp => ?_, ?_⟩
      · have h31 : slot t 31 = .agg (bC 32 R) := hp 31 (by kernel_rfl)
        have h32 : slot t 32 = .agg (bC 32 R) := hp 32 (by kernel_rfl)
        clear hf hp
        refine stepAt_plain rfl ?_
        exact stepOK_pure (.bool false) (execNeHr hR w1 rfl h31 h32) rfl
      refine ⟨fun t w1 hf hk hp => ?_, ?_⟩
      · have h33 : slot t 33 = .bool false := hp 33 (by kernel_rfl)
        clear hf hp
        refine stepAt_plain rfl ?_
        exact stepOK_move _ (.inl rfl) h33
      refine ⟨fun t w1 hf hk hp => ?_, ?_⟩
      · have h8 : slot t 8 = .int .i64 E := hf 8 (by kernel_rfl)
        have h34 : slot t 34 = .bool false := hp 34 (by kernel_rfl)
        clear hf hp
        refine stepAt_on 34 false (by kernel_rfl) h34 ?_
        exact stepOK_move _ (.inl rfl) h8
      refine ⟨fun t w1 hf hk hp => ?_, ?_⟩
      · have h10 : slot t 10 = .int .i64 E := hf 10 (by kernel_rfl)
        have h34 : slot t 34 = .bool false := hp 34 (by kernel_rfl)
        clear hf hp
        refine stepAt_on 34 false (by kernel_rfl) h34 ?_
        exact stepOK_move _ (.inl rfl) h10
      refine ⟨fun t w1 hf hk hp => ?_, ?_⟩
      · have h35 : slot t 35 = .int .i64 E := hp 35 (by kernel_rfl)
        have h36 : slot t 36 = .int .i64 E := hp 36 (by kernel_rfl)
        have h34 : slot t 34 = .bool false := hp 34 (by kernel_rfl)
        clear hf hp
        refine stepAt_on 34 false (by kernel_rfl) h34 ?_
        have hq0 := hEE
        refine stepOK_pure (.bool false) ?_ rfl
        simp only [execOp, evS, h35, h36]
        go_simp
      refine ⟨fun t w1 hf hk hp => ?_, ?_⟩
      · have h34 : slot t 34 = .bool false := hp 34 (by kernel_rfl)
        have h37 : slot t 37 = .bool false := hp 37 (by kernel_rfl)
        clear hf hp
        refine stepAt_plain rfl ?_
        refine stepOK_pure (.bool false) ?_ rfl
        simp only [execOp, evS, h34, h37]
        go_simp
      refine ⟨fun t w1 hf hk hp => ?_, ?_⟩
      · have h38 : slot t 38 = .bool false := hp 38 (by kernel_rfl)
        clear hf hp
        refine stepAt_plain rfl ?_
        exact stepOK_move _ (.inl rfl) h38
      refine ⟨fun t w1 hf hk hp => ?_, ?_⟩
      · have h5 : slot t 5 = .pointer (some ⟨w.heap.size + 1, 0, none⟩) := hf 5 (by kernel_rfl)
        have h39 : slot t 39 = .bool false := hp 39 (by kernel_rfl)
        clear hf hp
        refine stepAt_on 39 false (by kernel_rfl) h39 ?_
        exact stepOK_pure (.agg #[.int .i64 a2, .int .i64 b2, .slice p2 n2 c2]) (loadO rfl h5 (R5.out.kept hk) rfl) rfl
      refine ⟨fun t w1 hf hk hp => ?_, ?_⟩
      · have h40 : slot t 40 = .agg #[.int .i64 a2, .int .i64 b2, .slice p2 n2 c2] := hp 40 (by kernel_rfl)
        have h39 : slot t 39 = .bool false := hp 39 (by kernel_rfl)
        clear hf hp
        refine stepAt_on 39 false (by kernel_rfl) h39 ?_
        refine stepOK_call #[.agg #[.int .i64 a2, .int .i64 b2, .slice p2 n2 c2]] rfl (by simp only [List.map_toArray, List.map_cons, List.map_nil, evS, h40]) (by go_simp) ((H4.out w1).mono fun e w' ⟨he, hk'⟩ => ⟨_, he, hk', rfl⟩)
      refine ⟨fun t w1 hf hk hp => ?_, ?_⟩
      · have h5 : slot t 5 = .pointer (some ⟨w.heap.size + 1, 0, none⟩) := hf 5 (by kernel_rfl)
        have h39 : slot t 39 = .bool false := hp 39 (by kernel_rfl)
        clear hf hp
        refine stepAt_on 39 false (by kernel_rfl) h39 ?_
        exact stepOK_pure (.agg #[.int .i64 a2, .int .i64 b2, .slice p2 n2 c2]) (loadO rfl h5 (R5.out.kept hk) rfl) rfl
      refine ⟨fun t w1 hf hk hp => ?_, ?_⟩
      · have h42 : slot t 42 = .agg #[.int .i64 a2, .int .i64 b2, .slice p2 n2 c2] := hp 42 (by kernel_rfl)
        have h39 : slot t 39 = .bool false := hp 39 (by kernel_rfl)
        clear hf hp
        refine stepAt_on 39 false (by kernel_rfl) h39 ?_
        refine stepOK_call #[.agg #[.int .i64 a2, .int .i64 b2, .slice p2 n2 c2]] rfl (by simp only [List.map_toArray, List.map_cons, List.map_nil, evS, h42]) (by go_simp) ((H5.out w1).mono fun e w' ⟨he, hk'⟩ => ⟨_, he, hk', rfl⟩)
      refine ⟨fun t w1 hf hk hp => ?_, ?_⟩
      · have h41 : slot t 41 = .int .i64 E := hp 41 (by kernel_rfl)
        have h43 : slot t 43 = .int .i64 E := hp 43 (by kernel_rfl)
        have h39 : slot t 39 = .bool false := hp 39 (by kernel_rfl)
        clear hf hp
        refine stepAt_on 39 false (by kernel_rfl) h39 ?_
        have hq0 := hEE
        refine stepOK_pure (.bool false) ?_ rfl
        simp only [execOp, evS, h41, h43]
        go_simp
      refine ⟨fun t w1 hf hk hp => ?_, ?_⟩
      · have h39 : slot t 39 = .bool false := hp 39 (by kernel_rfl)
        have h44 : slot t 44 = .bool false := hp 44 (by kernel_rfl)
        clear hf hp
        refine stepAt_plain rfl ?_
        refine stepOK_pure (.bool false) ?_ rfl
        simp only [execOp, evS, h39, h44]
        go_simp
      refine ⟨fun t w1 hf hk hp => ?_, ?_⟩
      · have h45 : slot t 45 = .bool false := hp 45 (by kernel_rfl)
        clear hf hp
        refine stepAt_plain rfl ?_
        exact stepOK_move _ (.inl rfl) h45
      refine ⟨fun t w1 hf hk hp => ?_, ?_⟩
      · have h3 : slot t 3 = .pointer (some ⟨w.heap.size, 0, none⟩) := hf 3 (by kernel_rfl)
        have h46 : slot t 46 = .bool false := hp 46 (by kernel_rfl)
        clear hf hp
        refine stepAt_on 46 false (by kernel_rfl) h46 ?_
        exact stepOK_pure (.agg (bC 32 a0)) (loadHr rfl h3 (R3.out.kept hk)) rfl
      refine ⟨fun t w1 hf hk hp => ?_, ?_⟩
      · have h1 : slot t 1 = .string a1 := hf 1 (by kernel_rfl)
        have h46 : slot t 46 = .bool false := hp 46 (by kernel_rfl)
        clear hf hp
        refine stepAt_on 46 false (by kernel_rfl) h46 ?_
        exact stepOK_move _ (.inl rfl) h1
      refine ⟨fun t w1 hf hk hp => ?_, ?_⟩
      · have h5 : slot t 5 = .pointer (some ⟨w.heap.size + 1, 0, none⟩) := hf 5 (by kernel_rfl)
        have h46 : slot t 46 = .bool false := hp 46 (by kernel_rfl)
        clear hf hp
        refine stepAt_on 46 false (by kernel_rfl) h46 ?_
        exact stepOK_pure (.agg #[.int .i64 a2, .int .i64 b2, .slice p2 n2 c2]) (loadO rfl h5 (R5.out.kept hk) rfl) rfl
      refine ⟨fun t w1 hf hk hp => ?_, ?_⟩
      · have h47 : slot t 47 = .agg (bC 32 a0) := hp 47 (by kernel_rfl)
        have h48 : slot t 48 = .string a1 := hp 48 (by kernel_rfl)
        have h49 : slot t 49 = .agg #[.int .i64 a2, .int .i64 b2, .slice p2 n2 c2] := hp 49 (by kernel_rfl)
        have h46 : slot t 46 = .bool false := hp 46 (by kernel_rfl)
        clear hf hp
        refine stepAt_on 46 false (by kernel_rfl) h46 ?_
        refine stepOK_call #[.agg (bC 32 a0), .string a1, .agg #[.int .i64 a2, .int .i64 b2, .slice p2 n2 c2]] rfl (by simp only [List.map_toArray, List.map_cons, List.map_nil, evS, h47, h48, h49]) (by go_simp) ((H6.out w1 (HSl.kept _ _ _ _ _ hk X0.out) (HT.out.kept (K6.out.trans hk))).mono fun e w' ⟨he, hk'⟩ => ⟨_, he, hk', rfl⟩)
      refine ⟨fun t w1 hf hk hp => ?_, ?_⟩
      · have h3 : slot t 3 = .pointer (some ⟨w.heap.size, 0, none⟩) := hf 3 (by kernel_rfl)
        have h46 : slot t 46 = .bool false := hp 46 (by kernel_rfl)
        clear hf hp
        refine stepAt_on 46 false (by kernel_rfl) h46 ?_
        exact stepOK_pure (.agg (bC 32 a0)) (loadHr rfl h3 (R3.out.kept hk)) rfl
      refine ⟨fun t w1 hf hk hp => ?_, ?_⟩
      · have h1 : slot t 1 = .string a1 := hf 1 (by kernel_rfl)
        have h46 : slot t 46 = .bool false := hp 46 (by kernel_rfl)
        clear hf hp
        refine stepAt_on 46 false (by kernel_rfl) h46 ?_
        exact stepOK_move _ (.inl rfl) h1
      refine ⟨fun t w1 hf hk hp => ?_, ?_⟩
      · have h5 : slot t 5 = .pointer (some ⟨w.heap.size + 1, 0, none⟩) := hf 5 (by kernel_rfl)
        have h46 : slot t 46 = .bool false := hp 46 (by kernel_rfl)
        clear hf hp
        refine stepAt_on 46 false (by kernel_rfl) h46 ?_
        exact stepOK_pure (.agg #[.int .i64 a2, .int .i64 b2, .slice p2 n2 c2]) (loadO rfl h5 (R5.out.kept hk) rfl) rfl
      refine ⟨fun t w1 hf hk hp => ?_, ?_⟩
      · have h51 : slot t 51 = .agg (bC 32 a0) := hp 51 (by kernel_rfl)
        have h52 : slot t 52 = .string a1 := hp 52 (by kernel_rfl)
        have h53 : slot t 53 = .agg #[.int .i64 a2, .int .i64 b2, .slice p2 n2 c2] := hp 53 (by kernel_rfl)
        have h46 : slot t 46 = .bool false := hp 46 (by kernel_rfl)
        clear hf hp
        refine stepAt_on 46 false (by kernel_rfl) h46 ?_
        refine stepOK_call #[.agg (bC 32 a0), .string a1, .agg #[.int .i64 a2, .int .i64 b2, .slice p2 n2 c2]] rfl (by simp only [List.map_toArray, List.map_cons, List.map_nil, evS, h51, h52, h53]) (by go_simp) ((H7.out w1 (HSl.kept _ _ _ _ _ hk X0.out)).mono fun e w' ⟨he, hk'⟩ => ⟨_, he, hk', rfl⟩)
      refine ⟨fun t w1 hf hk hp => ?_, ?_⟩
      · have h50 : slot t 50 = .bool B := hp 50 (by kernel_rfl)
        have h54 : slot t 54 = .bool B := hp 54 (by kernel_rfl)
        have h46 : slot t 46 = .bool false := hp 46 (by kernel_rfl)
        clear hf hp
        refine stepAt_on 46 false (by kernel_rfl) h46 ?_
        have hq0 := hBB
        refine stepOK_pure (.bool false) ?_ rfl
        simp only [execOp, evS, h50, h54]
        go_simp
      refine ⟨fun t w1 hf hk hp => ?_, ?_⟩
      · have h46 : slot t 46 = .bool false := hp 46 (by kernel_rfl)
        have h55 : slot t 55 = .bool false := hp 55 (by kernel_rfl)
        clear hf hp
        refine stepAt_plain rfl ?_
        refine stepOK_pure (.bool false) ?_ rfl
        simp only [execOp, evS, h46, h55]
        go_simp
      exact trivial
    · intro t w1 hsz hf hk hfacts
      have h56 : slot t 56 = .bool false := hfacts 25 _ rfl 56 rfl
      have h1 : slot t 1 = .string a1 := hf 1 (by kernel_rfl)
      have h3 : slot t 3 = .pointer (some ⟨w.heap.size, 0, none⟩) := hf 3 (by kernel_rfl)
      have h5 : slot t 5 = .pointer (some ⟨w.heap.size + 1, 0, none⟩) := hf 5 (by kernel_rfl)
      have h7 : slot t 7 = .pointer (some ⟨g7, 0, none⟩) := hf 7 (by kernel_rfl)
      have h8 : slot t 8 = .int .i64 E := hf 8 (by kernel_rfl)
      have h9 : slot t 9 = .pointer (some ⟨g9, 0, none⟩) := hf 9 (by kernel_rfl)
      have h10 : slot t 10 = .int .i64 E := hf 10 (by kernel_rfl)
      have h11 : slot t 11 = x := hf 11 (by kernel_rfl)
      have harr : t = #[slot t 0, slot t 1, slot t 2, slot t 3, slot t 4, slot t 5, slot t 6, slot t 7, slot t 8, slot t 9, slot t 10, slot t 11, slot t 12, slot t 13, slot t 14, slot t 15, slot t 16, slot t 17, slot t 18, slot t 19, slot t 20, slot t 21, slot t 22, slot t 23, slot t 24, slot t 25, slot t 26, slot t 27, slot t 28, slot t 29, slot t 30, slot t 31, slot t 32, slot t 33, slot t 34, slot t 35, slot t 36, slot t 37, slot t 38, slot t 39, slot t 40, slot t 41, slot t 42, slot t 43, slot t 44, slot t 45, slot t 46, slot t 47, slot t 48, slot t 49, slot t 50, slot t 51, slot t 52, slot t 53, slot t 54, slot t 55, slot t 56, slot t 57, slot t 58, slot t 59, slot t 60, slot t 61, slot t 62, slot t 63, slot t 64, slot t 65, slot t 66, slot t 67, slot t 68, slot t 69, slot t 70, slot t 71, slot t 72, slot t 73, slot t 74, slot t 75, slot t 76, slot t 77, slot t 78, slot t 79, slot t 80, slot t 81, slot t 82, slot t 83, slot t 84, slot t 85, slot t 86, slot t 87, slot t 88, slot t 89, slot t 90, slot t 91] := arr_eq t 92 hsz
      rw [harr, h56, h1, h3, h5, h7, h8, h9, h10, h11]
      clear harr hfacts hf h56 h1 h3 h5 h7 h8 h9 h10 h11
      generalize slot t 0 = x0; generalize slot t 2 = x2; generalize slot t 4 = x4; generalize slot t 6 = x6; generalize slot t 12 = x12; generalize slot t 13 = x13; generalize slot t 14 = x14; generalize slot t 15 = x15; generalize slot t 16 = x16; generalize slot t 17 = x17; generalize slot t 18 = x18; generalize slot t 19 = x19
      generalize slot t 20 = x20; generalize slot t 21 = x21; generalize slot t 22 = x22; generalize slot t 23 = x23; generalize slot t 24 = x24; generalize slot t 25 = x25; generalize slot t 26 = x26; generalize slot t 27 = x27; generalize slot t 28 = x28; generalize slot t 29 = x29; generalize slot t 30 = x30; generalize slot t 31 = x31
      generalize slot t 32 = x32; generalize slot t 33 = x33; generalize slot t 34 = x34; generalize slot t 35 = x35; generalize slot t 36 = x36; generalize slot t 37 = x37; generalize slot t 38 = x38; generalize slot t 39 = x39; generalize slot t 40 = x40; generalize slot t 41 = x41; generalize slot t 42 = x42; generalize slot t 43 = x43
      generalize slot t 44 = x44; generalize slot t 45 = x45; generalize slot t 46 = x46; generalize slot t 47 = x47; generalize slot t 48 = x48; generalize slot t 49 = x49; generalize slot t 50 = x50; generalize slot t 51 = x51; generalize slot t 52 = x52; generalize slot t 53 = x53; generalize slot t 54 = x54; generalize slot t 55 = x55
      generalize slot t 57 = x57; generalize slot t 58 = x58; generalize slot t 59 = x59; generalize slot t 60 = x60; generalize slot t 61 = x61; generalize slot t 62 = x62; generalize slot t 63 = x63; generalize slot t 64 = x64; generalize slot t 65 = x65; generalize slot t 66 = x66; generalize slot t 67 = x67; generalize slot t 68 = x68
      generalize slot t 69 = x69; generalize slot t 70 = x70; generalize slot t 71 = x71; generalize slot t 72 = x72; generalize slot t 73 = x73; generalize slot t 74 = x74; generalize slot t 75 = x75; generalize slot t 76 = x76; generalize slot t 77 = x77; generalize slot t 78 = x78; generalize slot t 79 = x79; generalize slot t 80 = x80
      generalize slot t 81 = x81; generalize slot t 82 = x82; generalize slot t 83 = x83; generalize slot t 84 = x84; generalize slot t 85 = x85; generalize slot t 86 = x86; generalize slot t 87 = x87; generalize slot t 88 = x88; generalize slot t 89 = x89; generalize slot t 90 = x90; generalize slot t 91 = x91
      clear hsz t
      replace X0 := Lib.hid (HSl.kept _ _ _ _ _ hk X0.out)
      replace HX := Lib.hid (PaS.kept _ _ _ _ _ hk HX.out)
      replace R5 := Lib.hid (R5.out.kept hk)
      replace R7 := Lib.hid (R7.out.kept hk)
      have K7 := Lib.hid (K6.out.trans hk)
      clear hk K6 H4 H5 H6 H7 hBB R3 R9 hEE
      by_cases h0 : E = 0
      · replace HU1 := Lib.hid (HU1.out h0)
        replace H8 := Lib.hid (H8.out h0)
        have hn63 := HM.out h0
        subst h0
        clear HU0 HM
        have hx := HX.out.hsl HU1.out.2.1
        rw [HU1.out.1] at hx
        obtain ⟨q0, cc, rfl, hcc, hcm, hH'⟩ := hx
        obtain ⟨q, rfl, _⟩ := hH'.some (by omega)
        have HH : Hid (HAt w1 (some q) (n2 + 1) (lh L)) := Lib.hid hH'
        have HL0 : Hid (lh L 0 = H) := Lib.hid HU1.out.2.2
        have HH75 : Hid (∀ w2, Kept w1 w2 → (Instr.loadAt 23 (.pointer (some (q.add (0 * 32))))).run Tryd.prog w2 = .ok (.agg (bC 32 H)) w2) := Lib.hid fun w2 hk => by
          rw [← HL0.out]; exact (HH.out.kept hk).load 0 (by omega)
        have hadd : IntKind.i64.wrap ((n2 : Int) + 1) = (n2 : Int) + 1 := by simp only [IntKind.wrap, IntKind.signed, IntKind.bits]; simp; omega
        have hE71 : (((n2 : Int) + 1) == ((n2 : Int) + 1)) = true := by simp
        clear hcc hcm hH' HH HL0 HU1 HX hn63
        go_wp2_with fail
        obtain ⟨v7, hv7⟩ : ∃ v7, v7 = w1 := ⟨_, rfl⟩
        subst hv7
        refine wp_region_table [(65, .is (.slice (some q) (n2 + 1) cc)), (66, .is (.int .i64 ((n2 : Int) + 1))), (67, .is (.pointer (some ⟨w.heap.size + 1, 2, none⟩))), (68, .is (.slice p2 n2 c2)), (69, .is (.int .i64 (n2 : Int))), (70, .is (.int .i64 ((n2 : Int) + 1))), (71, .is (.bool true)), (72, .is (.bool true)), (73, .is (.slice (some q) (n2 + 1) cc)), (74, .is (.pointer (some (q.add (0 * 32))))), (75, .is (.agg (bC 32 H))), (76, .is (.string a1)), (77, .row (sliceAt0 1) #[.string a1] 9), (78, .such (HSl 1 (fun _ => H)) (HSl.kept 1 (fun _ => H))), (79, .such (PtH H) (PtH.kept H)), (80, .is (.agg (bC 32 H))), (81, .is (.bool true)), (82, .is (.bool true)), (83, .is (.bool true)), (84, .is (.agg (bC 32 R))), (85, .is (.string a1)), (86, .is (.agg #[.int .i64 a2, .int .i64 b2, .slice p2 n2 c2])), (87, .is (.bool true)), (88, .is (.bool true)), (89, .is (.bool true)), (90, .is (.bool true)), (91, .is (.bool true)), (6, .is (.bool true))] (by kernel_rfl) (by kernel_rfl) ?_ ?_
        · refine ⟨fun t w1 hf hk hp => ?_, ?_⟩
          · have h11 : slot t 11 = .slice (some q) (n2 + 1) cc := hf 11 (by kernel_rfl)
            clear hf hp
            refine stepAt_plain rfl ?_
            exact stepOK_move _ (.inl rfl) h11
          refine ⟨fun t w1 hf hk hp => ?_, ?_⟩
          · have h65 : slot t 65 = .slice (some q) (n2 + 1) cc := hp 65 (by kernel_rfl)
            clear hf hp
            refine stepAt_plain rfl ?_
            exact stepOK_pure (.int .i64 ((n2 : Int) + 1)) (execLenHs (n := n2 + 1) w1 rfl h65) rfl
          refine ⟨fun t w1 hf hk hp => ?_, ?_⟩
          · have h5 : slot t 5 = .pointer (some ⟨w.heap.size + 1, 0, none⟩) := hf 5 (by kernel_rfl)
            clear hf hp
            refine stepAt_plain rfl ?_
            exact stepOK_pure (.pointer (some ⟨w.heap.size + 1, 2, none⟩)) (execFieldO (w.heap.size + 1) 2 (by omega) w1 rfl h5) rfl
          refine ⟨fun t w1 hf hk hp => ?_, ?_⟩
          · have h67 : slot t 67 = .pointer (some ⟨w.heap.size + 1, 2, none⟩) := hp 67 (by kernel_rfl)
            clear hf hp
            refine stepAt_plain rfl ?_
            have hq0 := run_loadHs ((R5.out.kept hk).cell 2)
            exact stepOK_sem (.slice p2 n2 c2) (by simp only [execOp, evS, h67]) hq0 rfl
          refine ⟨fun t w1 hf hk hp => ?_, ?_⟩
          · have h68 : slot t 68 = .slice p2 n2 c2 := hp 68 (by kernel_rfl)
            clear hf hp
            refine stepAt_plain rfl ?_
            exact stepOK_pure (.int .i64 (n2 : Int)) (execLenHs w1 rfl h68) rfl
          refine ⟨fun t w1 hf hk hp => ?_, ?_⟩
          · have h69 : slot t 69 = .int .i64 (n2 : Int) := hp 69 (by kernel_rfl)
            clear hf hp
            refine stepAt_plain rfl ?_
            have hq0 := hadd
            refine stepOK_pure (.int .i64 ((n2 : Int) + 1)) ?_ rfl
            simp only [execOp, evS, h69]
            go_simp
          refine ⟨fun t w1 hf hk hp => ?_, ?_⟩
          · have h66 : slot t 66 = .int .i64 ((n2 : Int) + 1) := hp 66 (by kernel_rfl)
            have h70 : slot t 70 = .int .i64 ((n2 : Int) + 1) := hp 70 (by kernel_rfl)
            clear hf hp
            refine stepAt_plain rfl ?_
            have hq0 := hE71
            refine stepOK_pure (.bool true) ?_ rfl
            simp only [execOp, evS, h66, h70]
            go_simp
          refine ⟨fun t w1 hf hk hp => ?_, ?_⟩
          · have h71 : slot t 71 = .bool true := hp 71 (by kernel_rfl)
            clear hf hp
            refine stepAt_plain rfl ?_
            exact stepOK_move _ (.inl rfl) h71
          refine ⟨fun t w1 hf hk hp => ?_, ?_⟩
          · have h11 : slot t 11 = .slice (some q) (n2 + 1) cc := hf 11 (by kernel_rfl)
            have h72 : slot t 72 = .bool true := hp 72 (by kernel_rfl)
            clear hf hp
            refine stepAt_on 72 true (by kernel_rfl) h72 ?_
            exact stepOK_move _ (.inl rfl) h11
          refine ⟨fun t w1 hf hk hp => ?_, ?_⟩
          · have h73 : slot t 73 = .slice (some q) (n2 + 1) cc := hp 73 (by kernel_rfl)
            have h72 : slot t 72 = .bool true := hp 72 (by kernel_rfl)
            clear hf hp
            refine stepAt_on 72 true (by kernel_rfl) h72 ?_
            exact stepOK_pure (.pointer (some (q.add (0 * 32)))) (execIndexH q (n2 + 1) cc 0 (by omega) w1 rfl h73 rfl) rfl
          refine ⟨fun t w1 hf hk hp => ?_, ?_⟩
          · have h74 : slot t 74 = .pointer (some (q.add (0 * 32))) := hp 74 (by kernel_rfl)
            have h72 : slot t 72 = .bool true := hp 72 (by kernel_rfl)
            clear hf hp
            refine stepAt_on 72 true (by kernel_rfl) h72 ?_
            have hq0 := HH75.out w1 hk
            exact stepOK_sem (.agg (bC 32 H)) (by simp only [execOp, evS, h74]) hq0 rfl
          refine ⟨fun t w1 hf hk hp => ?_, ?_⟩
          · have h1 : slot t 1 = .string a1 := hf 1 (by kernel_rfl)
            have h72 : slot t 72 = .bool true := hp 72 (by kernel_rfl)
            clear hf hp
            refine stepAt_on 72 true (by kernel_rfl) h72 ?_
            exact stepOK_move _ (.inl rfl) h1
          refine ⟨fun t w1 hf hk hp => ?_, ?_⟩
          · have h76 : slot t 76 = .string a1 := hp 76 (by kernel_rfl)
            have h72 : slot t 72 = .bool true := hp 72 (by kernel_rfl)
            clear hf hp
            refine stepAt_on 72 true (by kernel_rfl) h72 ?_
            have hq0 := run_build1s a1 w1
            refine .value ((sliceAt0 1) w1.heap.size) (w1.alloc (.cells #[.string a1] 9)) ?_ ((Kept.refl w1).alloc _) ⟨_, rfl, Rowz.new w1 _ _⟩
            simp only [execOp, evS, List.map_toArray, List.map_cons, List.map_nil, h76, sliceAt0]
            go_simp
          refine ⟨fun t w1 hf hk hp => ?_, ?_⟩
          · obtain ⟨g77, h77, r77⟩ : ∃ g, slot t 77 = (sliceAt0 1) g ∧ Rowz w1 g #[.string a1] 9 := hp 77 (by kernel_rfl)
            simp only [sliceAt0] at h77
            have h72 : slot t 72 = .bool true := hp 72 (by kernel_rfl)
            clear hf hp
            refine stepAt_on 72 true (by kernel_rfl) h72 ?_
            refine stepOK_call #[.slice (some ⟨g77, 0, none⟩) 1 1] rfl (by simp only [List.map_toArray, List.map_cons, List.map_nil, evS, h77]) (by go_simp) ((H9.out w1 g77 r77).mono fun e w' ⟨v, he, hpv, hk'⟩ => ⟨v, he, hk', hpv⟩)
          refine ⟨fun t w1 hf hk hp => ?_, ?_⟩
          · obtain ⟨v78, h78, p78⟩ : ∃ v, slot t 78 = v ∧ (HSl 1 (fun _ => H)) v w1 := ⟨_, rfl, hp 78 (by kernel_rfl)⟩
            have h72 : slot t 72 = .bool true := hp 72 (by kernel_rfl)
            clear hf hp
            refine stepAt_on 72 true (by kernel_rfl) h72 ?_
            exact stepOK_val (execPtH 0 H (by omega) rfl rfl h78 rfl p78)
          refine ⟨fun t w1 hf hk hp => ?_, ?_⟩
          · obtain ⟨v79, h79, p79⟩ : ∃ v, slot t 79 = v ∧ (PtH H) v w1 := ⟨_, rfl, hp 79 (by kernel_rfl)⟩
            have h72 : slot t 72 = .bool true := hp 72 (by kernel_rfl)
            clear hf hp
            refine stepAt_on 72 true (by kernel_rfl) h72 ?_
            exact stepOK_pure (.agg (bC 32 H)) (execLoadPt rfl h79 p79) rfl
          refine ⟨fun t w1 hf hk hp => ?_, ?_⟩
          · have h75 : slot t 75 = .agg (bC 32 H) := hp 75 (by kernel_rfl)
            have h80 : slot t 80 = .agg (bC 32 H) := hp 80 (by kernel_rfl)
            have h72 : slot t 72 = .bool true := hp 72 (by kernel_rfl)
            clear hf hp
            refine stepAt_on 72 true (by kernel_rfl) h72 ?_
            exact stepOK_pure (.bool true) (execEqH1 H hH w1 rfl h75 h80) rfl
          refine ⟨fun t w1 hf hk hp => ?_, ?_⟩
          · have h72 : slot t 72 = .bool true := hp 72 (by kernel_rfl)
            have h81 : slot t 81 = .bool true := hp 81 (by kernel_rfl)
            clear hf hp
            refine stepAt_plain rfl ?_
            refine stepOK_pure (.bool true) ?_ rfl
            simp only [execOp, evS, h72, h81]
            go_simp
          refine ⟨fun t w1 hf hk hp => ?_, ?_⟩
          · have h82 : slot t 82 = .bool true := hp 82 (by kernel_rfl)
            clear hf hp
            refine stepAt_plain rfl ?_
            exact stepOK_move _ (.inl rfl) h82
          refine ⟨fun t w1 hf hk hp => ?_, ?_⟩
          · have h7 : slot t 7 = .pointer (some ⟨g7, 0, none⟩) := hf 7 (by kernel_rfl)
            have h83 : slot t 83 = .bool true := hp 83 (by kernel_rfl)
            clear hf hp
            refine stepAt_on 83 true (by kernel_rfl) h83 ?_
            exact stepOK_pure (.agg (bC 32 R)) (loadHr rfl h7 (R7.out.kept hk)) rfl
          refine ⟨fun t w1 hf hk hp => ?_, ?_⟩
          · have h1 : slot t 1 = .string a1 := hf 1 (by kernel_rfl)
            have h83 : slot t 83 = .bool true := hp 83 (by kernel_rfl)
            clear hf hp
            refine stepAt_on 83 true (by kernel_rfl) h83 ?_
            exact stepOK_move _ (.inl rfl) h1
          refine ⟨fun t w1 hf hk hp => ?_, ?_⟩
          · have h5 : slot t 5 = .pointer (some ⟨w.heap.size + 1, 0, none⟩) := hf 5 (by kernel_rfl)
            have h83 : slot t 83 = .bool true := hp 83 (by kernel_rfl)
            clear hf hp
            refine stepAt_on 83 true (by kernel_rfl) h83 ?_
            exact stepOK_pure (.agg #[.int .i64 a2, .int .i64 b2, .slice p2 n2 c2]) (loadO rfl h5 (R5.out.kept hk) rfl) rfl
          refine ⟨fun t w1 hf hk hp => ?_, ?_⟩
          · have h84 : slot t 84 = .agg (bC 32 R) := hp 84 (by kernel_rfl)
            have h85 : slot t 85 = .string a1 := hp 85 (by kernel_rfl)
            have h86 : slot t 86 = .agg #[.int .i64 a2, .int .i64 b2, .slice p2 n2 c2] := hp 86 (by kernel_rfl)
            have h83 : slot t 83 = .bool true := hp 83 (by kernel_rfl)
            clear hf hp
            refine stepAt_on 83 true (by kernel_rfl) h83 ?_
            refine stepOK_call #[.agg (bC 32 R), .string a1, .agg #[.int .i64 a2, .int .i64 b2, .slice p2 n2 c2]] rfl (by simp only [List.map_toArray, List.map_cons, List.map_nil, evS, h84, h85, h86]) (by go_simp) ((H8.out w1 (HSl.kept _ _ _ _ _ hk X0.out) (HT.out.kept (K7.out.trans hk))).mono fun e w' ⟨he, hk'⟩ => ⟨_, he, hk', rfl⟩)
          refine ⟨fun t w1 hf hk hp => ?_, ?_⟩
          · have h83 : slot t 83 = .bool true := hp 83 (by kernel_rfl)
            have h87 : slot t 87 = .bool true := hp 87 (by kernel_rfl)
            clear hf hp
            refine stepAt_plain rfl ?_
            refine stepOK_pure (.bool true) ?_ rfl
            simp only [execOp, evS, h83, h87]
            go_simp
          refine ⟨fun t w1 hf hk hp => ?_, ?_⟩
          · have h88 : slot t 88 = .bool true := hp 88 (by kernel_rfl)
            clear hf hp
            refine stepAt_plain rfl ?_
            exact stepOK_move _ (.inl rfl) h88
          refine ⟨fun t w1 hf hk hp => ?_, ?_⟩
          · have h89 : slot t 89 = .bool true := hp 89 (by kernel_rfl)
            clear hf hp
            refine stepAt_on 89 true (by kernel_rfl) h89 ?_
            refine stepOK_call #[] rfl (by simp only [List.map_toArray, List.map_nil]) (by go_simp) ((HA.out w1 (HT.out.kept (K7.out.trans hk))).mono fun e w' ⟨he, hk'⟩ => ⟨_, he, hk', rfl⟩)
          refine ⟨fun t w1 hf hk hp => ?_, ?_⟩
          · have h89 : slot t 89 = .bool true := hp 89 (by kernel_rfl)
            have h90 : slot t 90 = .bool true := hp 90 (by kernel_rfl)
            clear hf hp
            refine stepAt_plain rfl ?_
            refine stepOK_pure (.bool true) ?_ rfl
            simp only [execOp, evS, h89, h90]
            go_simp
          refine ⟨fun t w1 hf hk hp => ?_, ?_⟩
          · have h91 : slot t 91 = .bool true := hp 91 (by kernel_rfl)
            clear hf hp
            refine stepAt_plain rfl ?_
            exact stepOK_move _ (.inr rfl) h91
          exact trivial
        · intro t w1 hsz hf hk hfacts
          have h6 : slot t 6 = .bool true := hfacts 27 _ rfl 6 rfl
          have h1 : slot t 1 = .string a1 := hf 1 (by kernel_rfl)
          have h5 : slot t 5 = .pointer (some ⟨w.heap.size + 1, 0, none⟩) := hf 5 (by kernel_rfl)
          have h7 : slot t 7 = .pointer (some ⟨g7, 0, none⟩) := hf 7 (by kernel_rfl)
          have h11 : slot t 11 = .slice (some q) (n2 + 1) cc := hf 11 (by kernel_rfl)
          have harr : t = #[slot t 0, slot t 1, slot t 2, slot t 3, slot t 4, slot t 5, slot t 6, slot t 7, slot t 8, slot t 9, slot t 10, slot t 11, slot t 12, slot t 13, slot t 14, slot t 15, slot t 16, slot t 17, slot t 18, slot t 19, slot t 20, slot t 21, slot t 22, slot t 23, slot t 24, slot t 25, slot t 26, slot t 27, slot t 28, slot t 29, slot t 30, slot t 31, slot t 32, slot t 33, slot t 34, slot t 35, slot t 36, slot t 37, slot t 38, slot t 39, slot t 40, slot t 41, slot t 42, slot t 43, slot t 44, slot t 45, slot t 46, slot t 47, slot t 48, slot t 49, slot t 50, slot t 51, slot t 52, slot t 53, slot t 54, slot t 55, slot t 56, slot t 57, slot t 58, slot t 59, slot t 60, slot t 61, slot t 62, slot t 63, slot t 64, slot t 65, slot t 66, slot t 67, slot t 68, slot t 69, slot t 70, slot t 71, slot t 72, slot t 73, slot t 74, slot t 75, slot t 76, slot t 77, slot t 78, slot t 79, slot t 80, slot t 81, slot t 82, slot t 83, slot t 84, slot t 85, slot t 86, slot t 87, slot t 88, slot t 89, slot t 90, slot t 91] := arr_eq t 92 hsz
          rw [harr, h6, h1, h5, h7, h11]
          clear harr hfacts hf h6 h1 h5 h7 h11
          generalize slot t 0 = x0; generalize slot t 2 = x2; generalize slot t 3 = x3; generalize slot t 4 = x4; generalize slot t 8 = x8; generalize slot t 9 = x9; generalize slot t 10 = x10; generalize slot t 12 = x12; generalize slot t 13 = x13; generalize slot t 14 = x14; generalize slot t 15 = x15; generalize slot t 16 = x16
          generalize slot t 17 = x17; generalize slot t 18 = x18; generalize slot t 19 = x19; generalize slot t 20 = x20; generalize slot t 21 = x21; generalize slot t 22 = x22; generalize slot t 23 = x23; generalize slot t 24 = x24; generalize slot t 25 = x25; generalize slot t 26 = x26; generalize slot t 27 = x27; generalize slot t 28 = x28
          generalize slot t 29 = x29; generalize slot t 30 = x30; generalize slot t 31 = x31; generalize slot t 32 = x32; generalize slot t 33 = x33; generalize slot t 34 = x34; generalize slot t 35 = x35; generalize slot t 36 = x36; generalize slot t 37 = x37; generalize slot t 38 = x38; generalize slot t 39 = x39; generalize slot t 40 = x40
          generalize slot t 41 = x41; generalize slot t 42 = x42; generalize slot t 43 = x43; generalize slot t 44 = x44; generalize slot t 45 = x45; generalize slot t 46 = x46; generalize slot t 47 = x47; generalize slot t 48 = x48; generalize slot t 49 = x49; generalize slot t 50 = x50; generalize slot t 51 = x51; generalize slot t 52 = x52
          generalize slot t 53 = x53; generalize slot t 54 = x54; generalize slot t 55 = x55; generalize slot t 56 = x56; generalize slot t 57 = x57; generalize slot t 58 = x58; generalize slot t 59 = x59; generalize slot t 60 = x60; generalize slot t 61 = x61; generalize slot t 62 = x62; generalize slot t 63 = x63; generalize slot t 64 = x64
          generalize slot t 65 = x65; generalize slot t 66 = x66; generalize slot t 67 = x67; generalize slot t 68 = x68; generalize slot t 69 = x69; generalize slot t 70 = x70; generalize slot t 71 = x71; generalize slot t 72 = x72; generalize slot t 73 = x73; generalize slot t 74 = x74; generalize slot t 75 = x75; generalize slot t 76 = x76
          generalize slot t 77 = x77; generalize slot t 78 = x78; generalize slot t 79 = x79; generalize slot t 80 = x80; generalize slot t 81 = x81; generalize slot t 82 = x82; generalize slot t 83 = x83; generalize slot t 84 = x84; generalize slot t 85 = x85; generalize slot t 86 = x86; generalize slot t 87 = x87; generalize slot t 88 = x88
          generalize slot t 89 = x89; generalize slot t 90 = x90; generalize slot t 91 = x91
          clear hsz t
          have K8 := Lib.hid (K7.out.trans hk)
          clear hk
          go_wp2_with fail
          go_ret
          exact ⟨rfl, K8.out⟩
      · have hd0 : (E != 0) = true := by simpa using h0
        have hL := HU0.out h0
        subst hL
        have HE := Lib.hid h0
        clear HU0 HU1 HM H8 h0
        obtain ⟨q, cc, rfl⟩ := HX.out.slice
        go_wp2_with fail
        refine (HA.out _ (HT.out.kept K7.out)).mono ?_
        rintro e u1 ⟨rfl, k1⟩
        have K8 := Lib.hid (K7.out.trans k1)
        clear k1 K7
        go_wp2_with fail
        go_ret
        exact ⟨rfl, K8.out⟩

set_option maxRecDepth 100000 in
set_option maxHeartbeats 1000000 in
theorem lifted (os : Os) (started : os.Started) (H : Type) (enc : TypeId × Value → H) :
    ReturnsInHanded {} Tryd.checked os 3 .any (fun w args => (Rows.holdTellsSpec.pre enc Tryd.prog Tryd.f3 [] false w args ∧ laidMetH Tryd.prog Rows.holdTellsRow.laid w) ∧ sizedMet enc Tryd.prog Tryd.f3 (OpenSpec.ofChange Rows.holdTellsSpec) false w args)
      (Rows.holdTellsSpec.post enc Tryd.prog Tryd.f3 false true false false) := by
  refine returnsInHanded_of_change_and (C := Tryd.checked) (X := fun w _ => laidMetH Tryd.prog Rows.holdTellsRow.laid w) (fun _ _ _ hh h => h.of_heap hh) own started (by kernel_rfl) Tryd.func3
    (ChangeSpec.witness_shaped (enc := enc) (C := Tryd.checked) (os := os) (X := fun w _ => laidMetH Tryd.prog Rows.holdTellsRow.laid w) false (World.doorLaid Tryd.prog 400 os) #[.agg #[.int .u8 0, .int .u8 0, .int .u8 0, .int .u8 0, .int .u8 0, .int .u8 0, .int .u8 0, .int .u8 0, .int .u8 0, .int .u8 0, .int .u8 0, .int .u8 0, .int .u8 0, .int .u8 0, .int .u8 0, .int .u8 0, .int .u8 0, .int .u8 0, .int .u8 0, .int .u8 0, .int .u8 0, .int .u8 0, .int .u8 0, .int .u8 0, .int .u8 0, .int .u8 0, .int .u8 0, .int .u8 0, .int .u8 0, .int .u8 0, .int .u8 0, .int .u8 0], .string ByteArray.empty, .agg #[.int .i64 0, .int .i64 0, .slice none 0 0]] 8 rfl (World.shaped_of_RefB (by kernel_rfl) (by kernel_rfl)) (by kernel_rfl) (by kernel_rfl) (by kernel_rfl) (door_met os _)) ?_
  intro W base args ds gs before hval0 hW _ hsz0 hL _
  have hval : ∀ (j : Nat) t v, Tryd.f3.params[j]? = some t → args[j]? = some v → Value.okWide Tryd.prog W .any base t v := hval0
  have hsz : (DataW.weightsEach Tryd.prog (Tryd.f3.params.toList ++ Rows.holdTellsSpec.plain.varTypes Tryd.prog) (ds ++ gs)).all (· ≤ reachBytes) = true := hsz0
  have hW' := hW
  obtain ⟨p, q, hA0, hV, rfl, hfz, hnd⟩ := hW
  have hA : DataW.TrodAll enc Tryd.prog W 0 (fun _ => true) true Tryd.f3.params.toList args.toList ds p := hA0
  have hAk := hA
  rw [Tryd.params3] at hA hval hsz
  obtain ⟨v0, vs0, d0, ds0, p0_, q0_, hargs, rfl, rfl, h0, r0_⟩ := trodAll_cons hA
  obtain ⟨v1, vs1, d1, ds1, p1_, q1_, rfl, rfl, rfl, h1, r1_⟩ := trodAll_cons r0_
  obtain ⟨v2, vs2, d2, ds2, p2_, q2_, rfl, rfl, rfl, h2, r2_⟩ := trodAll_cons r1_
  obtain ⟨rfl, rfl, rfl⟩ := trodAll_nil r2_
  obtain rfl : args = #[v0, v1, v2] := by cases args; simp_all
  obtain ⟨rfl, rfl⟩ := trodVars_none hV
  have hlt : ∀ x ∈ (p0_ ++ (p1_ ++ (p2_ ++ ([])))), x.block < W.heap.size := fun x hx => by simpa using hW'.lt x (by simpa using hx)
  obtain ⟨cs0, rfl⟩ : ∃ cs, v0 = .agg cs := by
    have := hval 0 23 v0 rfl rfl
    simp only [Value.okWide, Tryd.underlying23] at this
    obtain ⟨cs, h, _⟩ := this
    exact ⟨cs, h⟩
  obtain ⟨a0, n0, rfl⟩ := open_hash Tryd.underlying23 Tryd.underlying5 (by kernel_rfl) (by kernel_rfl) h0
  obtain ⟨a1, rfl, rfl, rfl, w1⟩ := open_string Tryd.underlying9 (hval 1 9 v1 rfl rfl) h1
  obtain ⟨cs2, rfl, _⟩ := okWide_struct Tryd.underlying26 (hval 2 26 v2 rfl rfl)
  obtain ⟨a2, b2, p2, n2, c2, F2, w2, z2, rfl, e2⟩ := open_opening Tryd.underlying26 (by kernel_rfl) ⟨rfl, rfl, rfl⟩ ⟨by kernel_rfl, by kernel_rfl, by kernel_rfl⟩ Tryd.underlying3 Tryd.underlying3 Tryd.underlying24 Tryd.underlying23 (by kernel_rfl) Tryd.underlying5 (by kernel_rfl) h2
  have r1 : a1.size ≤ 140737488351232 := by have := sized_string hsz (j := 1) (t := 9) rfl rfl; simpa [reachBytes] using this
  clear hA0 hval0
  refine (walk a0 n0 a1 w1 r1 a2 b2 p2 n2 c2 F2 w2 z2 W e2 (tab_of_laid hL)).mono fun e W' ⟨he, hg⟩ => ?_
  subst he
  exact ⟨_, rfl, ⟨_, _, _, [], _, [], hW', trodAll_cons_mk (shut_bool Tryd.underlying4 _) trodAll_mk0, trodAll_stays laidOut hg (by kernel_rfl) hAk hlt (fun x hx => by simpa using hlt x hx), rfl, Kept.frame hg _, fun h => by cases h⟩⟩

theorem over : Rows.holdTellsRow.holds Tryd.pinned (OpenSpec.ofChange Rows.holdTellsSpec) :=
  OpenClaim.holds_of_wide 3 Tryd.f3 rfl rfl rfl rfl rfl rfl rfl ⟨rfl, rfl, rfl, rfl, rfl⟩ rfl rfl rfl rfl rfl (by kernel_rfl) Tryd.func3 (by kernel_rfl)
    (of_decide_eq_true (by kernel_rfl)) (by unfold Func.isWrapper; first | (rw [if_pos (by decide +kernel)]; kernel_rfl) | (rw [if_neg (by decide +kernel)]; exact ⟨rfl, rfl⟩))
    (fun os started H enc _ => lifted os started H enc)
end Go.Proofs.YtljkhlbfjcbkiaaDoor.holdTells
namespace Go.Proofs.YtljkhlbfjcbkiaaDoor
theorem holdTells_holds : Rows.HoldTellsSaid := holdTells.over
theorem holdTells_card : Rows.HoldTellsCardSaid :=
  Claim7.holds_tied_plain_at .later [] [.data] true (true, "7bb8722e63a46b785bb0b4604b39f937ea6e5c68ad986d8116623a57e205ec0e") false
    holdTells_holds (fun _ h => by cases h) (by kernel_rfl) (fun _ h => by cases h) holdTells_row_tie rfl ⟨rfl, rfl⟩ (by kernel_rfl) rfl
    (fun f fn hf hfn => by
      obtain rfl : f = 3 := Option.some.inj ((show Tryd.prog.funcNamed "milepost/milepostlaw14.HoldTells" = some 3 by kernel_rfl).symm.trans hf) |>.symm
      obtain rfl : fn = Tryd.f3 := (Option.some.inj (Tryd.func3.symm.trans hfn)).symm
      refine ⟨by kernel_rfl, fun j t ht => ?_⟩
      have hm : t ∈ Tryd.f3.params.toList := by simpa using Array.mem_of_getElem? ht
      have hall : (Tryd.f3.params.toList.all fun u => !Tryd.prog.wantsStandIn u) = true := by kernel_rfl
      exact (show Tryd.prog.wantsStandIn t = false by simpa using List.all_eq_true.1 hall t hm))
    (by kernel_rfl)
#print axioms holdTells_card
end Go.Proofs.YtljkhlbfjcbkiaaDoor
